import Derived.Test.YtnkjgkchjokgmaaGreatDoorZ32
import Derived.Test.YtnkjgkchjokgmaaGreatDoorZ48
import Derived.Test.YtnkjgkchjokgmaaGreatDoorZ05
import Derived.Deep.RegionHeld3
import Derived.Test.YtnkjgkchjokgmaaGreatDoorZ29
namespace Go.Proofs.YtnkjgkchjokgmaaGreatDoor
open Go.RowKit

/-- What NewJournal tells. -/
def jouN (nm : ByteArray) (ct : Int) (L : List (List UInt8 × Int × Int × List UInt8)) : ByteArray := if zoneB nm.data.toList ct L = true then nm else ⟨#[]⟩
def jouF (nm : ByteArray) (ct : Int) (L : List (List UInt8 × Int × Int × List UInt8)) : Int := if zoneB nm.data.toList ct L = true then ct else 0

set_option maxRecDepth 20000 in
set_option maxHeartbeats 2000000 in
theorem sNewJournal_any (nm : ByteArray) (ct : Int) (v : Value) (L : List (List UInt8 × Int × Int × List UInt8)) (w : World) (hr : RRow w v L) (hap : nm.size ≤ 1048576) (hl : L.length ≤ 1048576) (hx : Hid (∀ x ∈ L, x.1.length ≤ 1048576 ∧ x.2.2.2.length ≤ 1048576)) :
    Calls Tryz.prog 16 #[ZonV nm ct v] w fun e w' => e = .returned (.tuple #[JouV (jouN nm ct L) (jouF nm ct L), .bool (zoneB nm.data.toList ct L)]) ∧ Below w.heap.size w w' := by
  have HG : Hid (∀ W, Below w.heap.size w W → Calls Tryz.prog 37 #[ZonV nm ct v] W fun e w' => e = .returned (.bool (zoneB nm.data.toList ct L)) ∧ Below W.heap.size W w') := fun W hW => sGoodZone_any nm ct v L W (hr.kept hW) hap hl hx
  obtain ⟨a, cap, rfl, _⟩ := hr
  have HN0 : Hid (zoneB nm.data.toList ct L = false → jouN nm ct L = ⟨#[]⟩ ∧ jouF nm ct L = 0) := fun h => ⟨if_neg (by rw [h]; simp), if_neg (by rw [h]; simp)⟩
  have HN1 : Hid (zoneB nm.data.toList ct L = true → jouN nm ct L = nm ∧ jouF nm ct L = ct) := fun h => ⟨if_pos h, if_pos h⟩
  obtain ⟨ok, hok⟩ : ∃ ok, ok = zoneB nm.data.toList ct L := ⟨_, rfl⟩
  rw [← hok] at HG HN0 HN1 ⊢
  clear hok
  unfold ZonV at HG ⊢
  unfold JouV
  go_enter Tryz.func16, Tryz.ntmps16
  go_wp2_with fail
  refine (HG.out _ (((Below.refl w.heap.size w).alloc (Nat.le_refl _) _).alloc (by simp) _)).mono ?_
  rintro e w1 ⟨rfl, hb1⟩
  obtain ⟨hm, hr, hbw⟩ := heaps2 hb1
  have hz1 : w.heap.size + 2 ≤ w1.heap.size := by have h := hb1.size; simpa using h
  have HM : Hid (w1.heap[w.heap.size]? = some (.cells #[.string nm, .int .i64 ct, .slice a L.length cap] 45)) := hm
  have HR : Hid (w1.heap[w.heap.size + 1]? = some (.cells #[.string ⟨#[]⟩, .int .i64 0, .slice none 0 0] 41)) := hr
  obtain ⟨⟨c0, c1, c2⟩, _⟩ := zon_cells hm
  obtain ⟨⟨d0, d1, d2⟩, ⟨f0, f1, f2⟩⟩ := zon_cells hr
  clear hb1 hm hr
  cases ok with
  | false =>
    obtain ⟨HN, HF⟩ := HN0.out rfl
    go_wp2_with fail
    (try simp only [Exit.inBlock, Exit.then])
    refine bodyPost_ret (results_row_tmp rfl _ _ (w.heap.size + 1) 41 #[.string ⟨#[]⟩, .int .i64 0, .slice none 0 0] (0, 0) _ (.bool false) rfl rfl ?_ Tryz.underlying41 rfl (by kernel_rfl)) rfl ⟨?_, ?_⟩
    · exact put3_heap HR.out
    · rw [HN, HF]
    · exact put3_below hbw (Nat.le_succ _) _ _ _
  | true =>
    obtain ⟨HN, HF⟩ := HN1.out rfl
    go_wp2_with fail
    (try simp only [Exit.inBlock, Exit.then])
    refine bodyPost_ret (results_row_tmp rfl _ _ (w.heap.size + 1) 41 #[.string nm, .int .i64 ct, .slice none 0 0] (0, 0) _ (.bool true) rfl rfl ?_ Tryz.underlying41 rfl (by kernel_rfl)) rfl ⟨?_, ?_⟩
    · exact put3_heap HR.out
    · rw [HN, HF]
    · exact put3_below hbw (Nat.le_succ _) _ _ _

set_option maxRecDepth 20000 in
set_option maxHeartbeats 2000000 in
theorem iNewJournal_any (nm : ByteArray) (ct : Int) (v : Value) (L : List (List UInt8 × Int × Int × List UInt8)) (w : World) (hr : RRow w v L) (hap : nm.size ≤ 1048576) (_hl : L.length ≤ 1048576) (hx : Hid (∀ x ∈ L, x.1.length ≤ 1048576 ∧ x.2.2.2.length ≤ 1048576)) (hE : EnvZ w) :
    Calls Tryz.prog 18 #[ZonV nm ct v] w fun e w' => e = .returned (.tuple #[JouV (jouN nm ct L) (jouF nm ct L), .bool (zoneB nm.data.toList ct L)]) ∧ Below w.heap.size w w' := by
  have HG : Hid (∀ W, Below w.heap.size w W → Calls Tryz.prog 38 #[ZonV nm ct v] W fun e w' => e = .returned (.bool (zoneB nm.data.toList ct L)) ∧ Below W.heap.size W w') := fun W hW => iGoodZone_any nm ct v L W (hr.kept hW) hap hx (hE.below hW)
  obtain ⟨a, cap, rfl, _⟩ := hr
  have HN0 : Hid (zoneB nm.data.toList ct L = false → jouN nm ct L = ⟨#[]⟩ ∧ jouF nm ct L = 0) := fun h => ⟨if_neg (by rw [h]; simp), if_neg (by rw [h]; simp)⟩
  have HN1 : Hid (zoneB nm.data.toList ct L = true → jouN nm ct L = nm ∧ jouF nm ct L = ct) := fun h => ⟨if_pos h, if_pos h⟩
  obtain ⟨ok, hok⟩ : ∃ ok, ok = zoneB nm.data.toList ct L := ⟨_, rfl⟩
  rw [← hok] at HG HN0 HN1 ⊢
  clear hok
  unfold ZonV at HG ⊢
  unfold JouV
  go_enter Tryz.func18, Tryz.ntmps18
  go_wp2_with fail
  refine (HG.out _ (((Below.refl w.heap.size w).alloc (Nat.le_refl _) _).alloc (by simp) _)).mono ?_
  rintro e w1 ⟨rfl, hb1⟩
  obtain ⟨hm, hr, hbw⟩ := heaps2 hb1
  have hz1 : w.heap.size + 2 ≤ w1.heap.size := by have h := hb1.size; simpa using h
  have HM : Hid (w1.heap[w.heap.size]? = some (.cells #[.string nm, .int .i64 ct, .slice a L.length cap] 45)) := hm
  have HR : Hid (w1.heap[w.heap.size + 1]? = some (.cells #[.string ⟨#[]⟩, .int .i64 0, .slice none 0 0] 41)) := hr
  obtain ⟨⟨c0, c1, c2⟩, _⟩ := zon_cells hm
  obtain ⟨⟨d0, d1, d2⟩, ⟨f0, f1, f2⟩⟩ := zon_cells hr
  clear hb1 hm hr
  cases ok with
  | false =>
    obtain ⟨HN, HF⟩ := HN0.out rfl
    go_wp2_with fail
    (try simp only [Exit.inBlock, Exit.then])
    refine bodyPost_ret (results_row_tmp rfl _ _ (w.heap.size + 1) 41 #[.string ⟨#[]⟩, .int .i64 0, .slice none 0 0] (0, 0) _ (.bool false) rfl rfl ?_ Tryz.underlying41 rfl (by kernel_rfl)) rfl ⟨?_, ?_⟩
    · exact put3_heap HR.out
    · rw [HN, HF]
    · exact put3_below hbw (Nat.le_succ _) _ _ _
  | true =>
    obtain ⟨HN, HF⟩ := HN1.out rfl
    have HS : Hid (∀ W, Below w1.heap.size w1 W → (W.cell? ⟨w.heap.size, 0, none⟩ = some (.string nm) ∧ W.cell? ⟨w.heap.size, 1, none⟩ = some (.int .i64 ct)) ∧ ((W.cell? ⟨w.heap.size + 1, 0, none⟩ = some (.string ⟨#[]⟩) ∧ W.cell? ⟨w.heap.size + 1, 1, none⟩ = some (.int .i64 0) ∧ W.cell? ⟨w.heap.size + 1, 2, none⟩ = some (.slice none 0 0)) ∧ (W.frozen? ⟨w.heap.size + 1, 0, none⟩ = false ∧ W.frozen? ⟨w.heap.size + 1, 1, none⟩ = false ∧ W.frozen? ⟨w.heap.size + 1, 2, none⟩ = false)) ∧ Below w1.heap.size w1 W) := fun W hW => by
      have h1 := zon_cells ((hW.block w.heap.size (by omega)).trans HM.out)
      have h2 := zon_cells ((hW.block (w.heap.size + 1) (by omega)).trans HR.out)
      exact ⟨⟨h1.1.1, h1.1.2.1⟩, ⟨h2.1, h2.2⟩, hW⟩
    have HCL : Hid (∀ W, Calls Tryz.prog 39 #[.string nm] W fun e w' => e = .returned (.string nm) ∧ Below W.heap.size W w') := fun W => cloneR_any nm W (by omega)
    have HTR : Hid (∀ W W', Below w1.heap.size w1 W → Below W.heap.size W W' → Below w1.heap.size w1 W') := fun W W' h1 h2 => h1.trans (h2.mono h1.size)
    have HEND : Hid (∀ W, Below w1.heap.size w1 W → W.heap[w.heap.size + 1]? = some (.cells #[.string ⟨#[]⟩, .int .i64 0, .slice none 0 0] 41) ∧ Below w.heap.size w W) := fun W hW => ⟨(hW.block (w.heap.size + 1) (by omega)).trans HR.out, hbw.trans (hW.mono hbw.size)⟩
    have hbz : Below w1.heap.size w1 w1 := Below.refl _ _
    have hbd : Below w1.heap.size w1 w1.drew := (Below.refl _ _).drew
    clear c0 c1 c2 d0 d1 d2 f0 f1 f2 HG
    go_wp2_with fail
    obtain ⟨⟨c0, c1⟩, ⟨⟨d0, d1, d2⟩, ⟨f0, f1, f2⟩⟩, _⟩ := HS.out _ hbd
    go_region_with (go_at_call 39; refine (HCL.out _).mono ?_; rintro e w6 ⟨rfl, hb6⟩; have hb16 := HTR.out _ _ hbd hb6; obtain ⟨⟨x0, x1⟩, ⟨⟨y0, y1, y2⟩, ⟨z0, z1, z2⟩⟩, _⟩ := HS.out _ hb16)
    all_goals
      obtain ⟨hR6, hbw6⟩ := HEND.out _ hb16
      go_wp2_with fail
      (try simp only [Exit.inBlock, Exit.then])
      refine bodyPost_ret (results_row_tmp rfl _ _ (w.heap.size + 1) 41 #[.string nm, .int .i64 ct, .slice none 0 0] (0, 0) _ (.bool true) rfl rfl ?_ Tryz.underlying41 rfl (by kernel_rfl)) rfl ⟨?_, ?_⟩
      · exact put3_heap hR6
      · rw [HN, HF]
      · exact put3_below hbw6 (Nat.le_succ _) _ _ _
end Go.Proofs.YtnkjgkchjokgmaaGreatDoor

namespace Go.Proofs.YtnkjgkchjokgmaaGreatDoor.newJournal
open Go.RowKit

theorem own_of {w : World} {base g : Nat} {L : List (List UInt8 × Int × Int × List UInt8)} (h : QRow w g L) (hb : base ≤ g) (hl : L.length ≤ 1048576) : OwnQ w base (.slice (some ⟨g, 0, none⟩) L.length L.length) L :=
  .inr ⟨g, L.length, rfl, Nat.le_refl _, by unfold maxLen; omega, hb, h⟩

set_option maxRecDepth 20000 in
set_option maxHeartbeats 16000000 in
theorem core (nm : ByteArray) (ct : Int) (va : Value) (L : List (List UInt8 × Int × Int × List UInt8)) (ok : Bool) (ap : ByteArray) (fi : Int) (w : World) (hn : nm.size ≤ maxLen) (ha : RRow w va L) (hxa : Hid (∀ x ∈ L, x.1.length ≤ maxLen ∧ x.2.2.2.length ≤ maxLen)) (hE : EnvZ w)
    (HS0 : Hid (∀ g W, nm.size ≤ 1048576 → L.length ≤ 1048576 → Hid (∀ x ∈ L, x.1.length ≤ 1048576 ∧ x.2.2.2.length ≤ 1048576) → QRow W g L → Calls Tryz.prog 16 #[ZonV nm ct (.slice (some ⟨g, 0, none⟩) L.length L.length)] W fun e w' => e = .returned (.tuple #[JouV ap fi, .bool ok]) ∧ Below W.heap.size W w'))
    (HI0 : Hid (∀ g W, EnvZ W → nm.size ≤ 1048576 → L.length ≤ 1048576 → Hid (∀ x ∈ L, x.1.length ≤ 1048576 ∧ x.2.2.2.length ≤ 1048576) → QRow W g L → Calls Tryz.prog 18 #[ZonV nm ct (.slice (some ⟨g, 0, none⟩) L.length L.length)] W fun e w' => e = .returned (.tuple #[JouV ap fi, .bool ok]) ∧ Below W.heap.size W w')) :
    Calls Tryz.prog 5 #[ZonV nm ct va] w fun e w' => e = .returned (.bool true) ∧ Below w.heap.size w w' := by
  obtain ⟨aa, ca, hva, _, hca, _⟩ := id ha
  have HSZ : Hid (∀ W, Below w.heap.size w W → Calls Tryz.prog 15 #[ZonV nm ct va, .int .i64 1048576] W fun e w' => (∃ q : Int, e = .returned (.int .i64 q) ∧ (q = -1 ∨ (0 ≤ q ∧ q = 1048576 - (nm.size : Int) - (L.length : Int) - (wtR L : Int)))) ∧ Below W.heap.size W w') := fun W hW => szZone_any nm ct va L 1048576 W hn (ha.kept hW) hxa (by omega) (by omega)
  have HTO : Hid (L.length ≤ 1048576 → ∀ W, Below w.heap.size w W → Calls Tryz.prog 17 #[ZonV nm ct va] W fun e w' => (∃ g, e = .returned (ZonV nm ct (.slice (some ⟨g, 0, none⟩) L.length L.length)) ∧ W.heap.size ≤ g ∧ QRow w' g L) ∧ Below W.heap.size W w') := fun h1 W hW => toZone_any nm ct va L W (ha.kept hW) h1
  have e2 : (ok != ok) = false := by simp
  subst hva
  clear ha
  unfold ZonV at HSZ HTO ⊢
  go_enter Tryz.func5, Tryz.ntmps5
  go_wp2_with fail
  refine (HSZ.out _ ((Below.refl w.heap.size w).alloc (Nat.le_refl _) _)).mono ?_
  rintro e w1 ⟨⟨q, rfl, hq⟩, hb1⟩
  have hbw1 : Below w.heap.size w w1 := ((Below.refl w.heap.size w).alloc (Nat.le_refl _) _).trans (hb1.mono (by simp))
  have HP1 : Hid (w1.heap[w.heap.size]? = some (.cells #[.string nm, .int .i64 ct, .slice aa L.length ca] 37)) := (hb1.block w.heap.size (by simp)).trans (blk_new _ _)
  have hz1 : w.heap.size < w1.heap.size := Nat.lt_of_lt_of_le (by simp) hb1.size
  clear hb1 HSZ
  rcases hq with rfl | ⟨hq0, hqe⟩
  · go_wp2_with fail
    go_ret
    exact ⟨rfl, hbw1⟩
  obtain ⟨hn', hL, hL2⟩ := sz_zone hq0 hqe
  have HL2 : Hid (∀ x ∈ L, x.1.length ≤ 1048576 ∧ x.2.2.2.length ≤ 1048576) := hL2
  have HT : Hid (∀ W, Below w.heap.size w W → Calls Tryz.prog 17 #[.agg #[.string nm, .int .i64 ct, .slice aa L.length ca]] W fun e w' => (∃ g, e = .returned (.agg #[.string nm, .int .i64 ct, .slice (some ⟨g, 0, none⟩) L.length L.length]) ∧ W.heap.size ≤ g ∧ QRow w' g L) ∧ Below W.heap.size W w') := HTO.out hL
  have HS : Hid (∀ g W, QRow W g L → Calls Tryz.prog 16 #[ZonV nm ct (.slice (some ⟨g, 0, none⟩) L.length L.length)] W fun e w' => e = .returned (.tuple #[JouV ap fi, .bool ok]) ∧ Below W.heap.size W w') := fun g W h1 => HS0.out g W hn' hL HL2 h1
  have HI : Hid (∀ g W, EnvZ W → QRow W g L → Calls Tryz.prog 18 #[ZonV nm ct (.slice (some ⟨g, 0, none⟩) L.length L.length)] W fun e w' => e = .returned (.tuple #[JouV ap fi, .bool ok]) ∧ Below W.heap.size W w') := fun g W hW h1 => HI0.out g W hW hn' hL HL2 h1
  have HEX : Hid (∀ g1 g2 W, QRow W g1 L → QRow W g2 L → Calls Tryz.prog 20 #[ZonV nm ct (.slice (some ⟨g1, 0, none⟩) L.length L.length), ZonV nm ct (.slice (some ⟨g2, 0, none⟩) L.length L.length)] W fun e w' => e = .returned (.bool true) ∧ Below W.heap.size W w') := fun g1 g2 W h1 h2 => eqZone_same nm ct _ _ L W (h1.row (Nat.le_refl _) (by unfold maxLen; omega)) (h2.row (Nat.le_refl _) (by unfold maxLen; omega))
  have HEG : Hid (∀ W, Calls Tryz.prog 19 #[JouV ap fi, JouV ap fi] W fun e w' => e = .returned (.bool true) ∧ Below W.heap.size W w') := fun W => eqJournal_nil ap fi W
  have HMX : Hid (∀ v base W, OwnQ W base v L → Calls Tryz.prog 21 #[ZonV nm ct v, .int .i64 1] W fun e w' => e = .returned (.int .i64 (1 + 4 * (L.length : Int))) ∧ OwnQ w' base v (mrks 1 L.length) ∧ Kpt W w' (fun k => v.ownBlock = some k)) := fun v base W h1 => markZone_any nm ct v L base 1 W h1 hL (by omega) (by omega)
  have HMG : Hid (∀ W, Calls Tryz.prog 22 #[JouV ap fi, .int .i64 1] W fun e w' => e = .returned (.int .i64 1) ∧ Below W.heap.size W w') := fun W => markJournal_nil ap fi 1 W
  have HHG : Hid (∀ W, Calls Tryz.prog 23 #[JouV ap fi, .int .i64 1] W fun e w' => e = .returned (.int .i64 1) ∧ Below W.heap.size W w') := fun W => heldJournal_nil ap fi 1 W (by omega)
  obtain ⟨qx, hqx⟩ : ∃ q : Int, q = 1 + 4 * (L.length : Int) := ⟨_, rfl⟩
  rw [← hqx] at HMX
  have hqx0 : decide (qx < 0) = false := by simp; omega
  have hq10 : ¬ qx < 0 := by omega
  clear hqx hqe hL2 HTO HI0 HS0
  unfold ZonV at HS HI HEX HMX
  unfold JouV at HS HI HEG HMG HHG
  obtain ⟨⟨p0, p1, p2⟩, _⟩ := zon_cells HP1.out
  go_wp2_with fail
  refine (HT.out _ hbw1).mono ?_
  rintro e w2 ⟨⟨g1, rfl, hg1, hqa⟩, hb2⟩
  clear p0 p1 p2
  have hbw2 : Below w.heap.size w w2 := hbw1.trans (hb2.mono hbw1.size)
  have HP2 : Hid (w2.heap[w.heap.size]? = some (.cells #[.string nm, .int .i64 ct, .slice aa L.length ca] 37)) := (hb2.block w.heap.size hz1).trans HP1.out
  have hz2 : w.heap.size < w2.heap.size := Nat.lt_of_lt_of_le hz1 hb2.size
  have HQA : Hid (QRow w2 g1 L) := hqa
  clear hqa hg1 hb2 HP1 hbw1
  go_wp2_with fail
  refine (HS.out g1 _ HQA.out).mono ?_
  rintro e w3 ⟨rfl, hb3⟩
  have hbw3 : Below w.heap.size w w3 := hbw2.trans (hb3.mono hbw2.size)
  have HP3 : Hid (w3.heap[w.heap.size]? = some (.cells #[.string nm, .int .i64 ct, .slice aa L.length ca] 37)) := (hb3.block w.heap.size hz2).trans HP2.out
  have hz3 : w.heap.size < w3.heap.size := Nat.lt_of_lt_of_le hz2 hb3.size
  obtain ⟨⟨p0, p1, p2⟩, _⟩ := zon_cells HP3.out
  clear HQA hb3 HP2 hbw2 HS
  go_wp2_with fail
  refine (HT.out _ (hbw3.alloc hbw3.size _)).mono ?_
  rintro e w4 ⟨⟨g3, rfl, hg3, hqa⟩, hb4⟩
  clear p0 p1 p2
  have hb34 : Below w3.heap.size w3 w4 := ((Below.refl w3.heap.size w3).alloc (Nat.le_refl _) _).trans (hb4.mono (by simp))
  have hbw4 : Below w.heap.size w w4 := hbw3.trans (hb34.mono hbw3.size)
  have HP4 : Hid (w4.heap[w.heap.size]? = some (.cells #[.string nm, .int .i64 ct, .slice aa L.length ca] 37)) := (hb34.block w.heap.size hz3).trans HP3.out
  have HW4 : Hid (w4.heap[w3.heap.size]? = some (.cells #[.string ap, .int .i64 fi, .slice none 0 0] 41)) := (hb4.block w3.heap.size (by simp)).trans (blk_new _ _)
  have hz34 : w3.heap.size < w4.heap.size := Nat.lt_of_lt_of_le (by simp) hb4.size
  have hg3' : w3.heap.size + 1 ≤ g3 := by simpa using hg3
  have HQA : Hid (QRow w4 g3 L) := hqa
  have hg3l : g3 < w4.heap.size := hqa.1
  clear hqa hg3 hb4 HP3 hbw3
  go_wp2_with fail
  refine (HI.out g3 _ (hE.below (hbw4.alloc hbw4.size _)) (HQA.out.kept ((Below.refl w4.heap.size w4).alloc (Nat.le_refl _) _))).mono ?_
  rintro e w6 ⟨rfl, hb6⟩
  have hb46 : Below w4.heap.size w4 w6 := ((Below.refl w4.heap.size w4).alloc (Nat.le_refl _) _).trans (hb6.mono (by simp))
  have hz46 : w4.heap.size < w6.heap.size := Nat.lt_of_lt_of_le (by simp) hb6.size
  have HP6 : Hid (w6.heap[w.heap.size]? = some (.cells #[.string nm, .int .i64 ct, .slice aa L.length ca] 37)) := (hb46.block w.heap.size (by omega)).trans HP4.out
  have HW6 : Hid (w6.heap[w3.heap.size]? = some (.cells #[.string ap, .int .i64 fi, .slice none 0 0] 41)) := (hb46.block w3.heap.size hz34).trans HW4.out
  have HX6 : Hid (w6.heap[w4.heap.size]? = some (.cells #[.string nm, .int .i64 ct, .slice (some ⟨g3, 0, none⟩) L.length L.length] 45)) := (hb6.block w4.heap.size (by simp)).trans (blk_new _ _)
  have HQA6 : Hid (QRow w6 g3 L) := HQA.out.kept hb46
  have hbw6 : Below w.heap.size w w6 := hbw4.trans (hb46.mono hbw4.size)
  obtain ⟨⟨c0, c1, c2⟩, _⟩ := zon_cells HW6.out
  have hlt36 : w3.heap.size < w6.heap.size := by omega
  clear hb6 HQA HP4 HW4 hb34 hb46 hbw4
  go_wp2_with fail
  refine (HEG.out _).mono ?_
  rintro e w7 ⟨rfl, hb7⟩
  clear c0 c1 c2
  have hb67 : Below w6.heap.size w6 w7 := ((Below.refl w6.heap.size w6).alloc (Nat.le_refl _) _).trans (hb7.mono (by simp))
  have hz67 : w6.heap.size < w7.heap.size := Nat.lt_of_lt_of_le (by simp) hb7.size
  have HP7 : Hid (w7.heap[w.heap.size]? = some (.cells #[.string nm, .int .i64 ct, .slice aa L.length ca] 37)) := (hb67.block w.heap.size (by omega)).trans HP6.out
  have HW7 : Hid (w7.heap[w3.heap.size]? = some (.cells #[.string ap, .int .i64 fi, .slice none 0 0] 41)) := (hb67.block w3.heap.size (by omega)).trans HW6.out
  have HX7 : Hid (w7.heap[w4.heap.size]? = some (.cells #[.string nm, .int .i64 ct, .slice (some ⟨g3, 0, none⟩) L.length L.length] 45)) := (hb67.block w4.heap.size (by omega)).trans HX6.out
  have HG7 : Hid (w7.heap[w6.heap.size]? = some (.cells #[.string ap, .int .i64 fi, .slice none 0 0] 41)) := (hb7.block w6.heap.size (by simp)).trans (blk_new _ _)
  have hbw7 : Below w.heap.size w w7 := hbw6.trans (hb67.mono hbw6.size)
  have HC : Hid (∀ W, Below w7.heap.size w7 W → (W.cell? ⟨w.heap.size, 0, none⟩ = some (.string nm) ∧ W.cell? ⟨w.heap.size, 1, none⟩ = some (.int .i64 ct) ∧ W.cell? ⟨w.heap.size, 2, none⟩ = some (.slice aa L.length ca)) ∧ (W.cell? ⟨w4.heap.size, 0, none⟩ = some (.string nm) ∧ W.cell? ⟨w4.heap.size, 1, none⟩ = some (.int .i64 ct) ∧ W.cell? ⟨w4.heap.size, 2, none⟩ = some (.slice (some ⟨g3, 0, none⟩) L.length L.length)) ∧ Below w7.heap.size w7 W) := fun W hW =>
    ⟨(zon_cells ((hW.block w.heap.size (by omega)).trans HP7.out)).1, (zon_cells ((hW.block w4.heap.size (by omega)).trans HX7.out)).1, hW⟩
  have HT7 : Hid (∀ W, Below w7.heap.size w7 W → Calls Tryz.prog 17 #[.agg #[.string nm, .int .i64 ct, .slice aa L.length ca]] W fun e w' => (∃ g, e = .returned (.agg #[.string nm, .int .i64 ct, .slice (some ⟨g, 0, none⟩) L.length L.length]) ∧ W.heap.size ≤ g ∧ QRow w' g L) ∧ Below W.heap.size W w') := fun W hW => HT.out W (hbw7.trans (hW.mono hbw7.size))
  have HEX7 : Hid (∀ g W, Below w7.heap.size w7 W → QRow W g L → Calls Tryz.prog 20 #[.agg #[.string nm, .int .i64 ct, .slice (some ⟨g3, 0, none⟩) L.length L.length], .agg #[.string nm, .int .i64 ct, .slice (some ⟨g, 0, none⟩) L.length L.length]] W fun e w' => e = .returned (.bool true) ∧ Below W.heap.size W w') := fun g W hW h1 => HEX.out g3 g W ((HQA6.out.kept hb67).kept hW) h1
  have HTR : Hid (∀ W W', Below w7.heap.size w7 W → Below W.heap.size W W' → Below w7.heap.size w7 W') := fun W W' h1 h2 => h1.trans (h2.mono h1.size)
  have hbz : Below w7.heap.size w7 w7 := Below.refl _ _
  have hbd : Below w7.heap.size w7 w7.drew := (Below.refl _ _).drew
  have HQA7 : Hid (QRow w7 g3 L) := HQA6.out.kept hb67
  clear hb7 hb67 hbw6 HP6 HW6 HX6 HQA6
  go_wp2_with fail
  go_region_held3 (fun W => (W.cell? ⟨w.heap.size, 0, none⟩ = some (.string nm) ∧ W.cell? ⟨w.heap.size, 1, none⟩ = some (.int .i64 ct) ∧ W.cell? ⟨w.heap.size, 2, none⟩ = some (.slice aa L.length ca)) ∧ (W.cell? ⟨w4.heap.size, 0, none⟩ = some (.string nm) ∧ W.cell? ⟨w4.heap.size, 1, none⟩ = some (.int .i64 ct) ∧ W.cell? ⟨w4.heap.size, 2, none⟩ = some (.slice (some ⟨g3, 0, none⟩) L.length L.length)) ∧ Below w7.heap.size w7 W) (first | exact HC.out _ (by assumption) | exact HC.out _ (Below.drew (by assumption)))
    (first
    | (go_at_call 17; refine (HT7.out _ (by assumption)).mono ?_; rintro e w8 ⟨⟨g5, rfl, _, hqa8⟩, hb8⟩; have hb78 := HTR.out _ _ (by assumption) hb8)
    | (go_at_call 20; refine (HEX7.out _ _ (by assumption) (by assumption)).mono ?_; rintro e w9 ⟨rfl, hb9⟩; have hb79 := HTR.out _ _ (by assumption) hb9))
  have HP9 : Hid (w9.heap[w.heap.size]? = some (.cells #[.string nm, .int .i64 ct, .slice aa L.length ca] 37)) := (hb79.block w.heap.size (by omega)).trans HP7.out
  have HW9 : Hid (w9.heap[w3.heap.size]? = some (.cells #[.string ap, .int .i64 fi, .slice none 0 0] 41)) := (hb79.block w3.heap.size (by omega)).trans HW7.out
  have HX9 : Hid (w9.heap[w4.heap.size]? = some (.cells #[.string nm, .int .i64 ct, .slice (some ⟨g3, 0, none⟩) L.length L.length] 45)) := (hb79.block w4.heap.size (by omega)).trans HX7.out
  have HG9 : Hid (w9.heap[w6.heap.size]? = some (.cells #[.string ap, .int .i64 fi, .slice none 0 0] 41)) := (hb79.block w6.heap.size (by omega)).trans HG7.out
  have HQA9 : Hid (QRow w9 g3 L) := HQA7.out.kept hb79
  have hbw9 : Below w.heap.size w w9 := hbw7.trans (hb79.mono hbw7.size)
  have hz79 : w7.heap.size ≤ w9.heap.size := hb79.size
  obtain ⟨⟨x0, x1, x2⟩, _⟩ := zon_cells HX9.out
  clear HP7 HW7 HX7 HG7 HQA7 HC HT7 HEX7 HTR hb79 hbw7 hbz hbd
  go_wp2_with fail
  refine (HMX.out _ (w3.heap.size + 1) _ (own_of HQA9.out hg3' hL)).mono ?_
  rintro e w10 ⟨rfl, _, hk10⟩
  clear x0 x1 x2
  have HLX : Hid (∀ k, (Value.slice (some ⟨g3, 0, none⟩) L.length L.length).ownBlock = some k → w3.heap.size + 1 ≤ k ∧ k < w4.heap.size) := fun k h => by
    simp [Value.ownBlock] at h; omega
  have HP10 : Hid (w10.heap[w.heap.size]? = some (.cells #[.string nm, .int .i64 ct, .slice aa L.length ca] 37)) := (hk10.block w.heap.size (by omega) (fun h => by have h1 := HLX.out _ h; omega)).trans HP9.out
  have HW10 : Hid (w10.heap[w3.heap.size]? = some (.cells #[.string ap, .int .i64 fi, .slice none 0 0] 41)) := (hk10.block w3.heap.size (by omega) (fun h => by have h1 := HLX.out _ h; omega)).trans HW9.out
  have HG10 : Hid (w10.heap[w6.heap.size]? = some (.cells #[.string ap, .int .i64 fi, .slice none 0 0] 41)) := (hk10.block w6.heap.size (by omega) (fun h => by have h1 := HLX.out _ h; omega)).trans HG9.out
  have hbw10 : Below w.heap.size w w10 := hbw9.trans (hk10.below hbw9.size (fun k hk h => by have h1 := HLX.out _ h; omega))
  have hz910 : w9.heap.size ≤ w10.heap.size := hk10.size
  obtain ⟨⟨c0, c1, c2⟩, _⟩ := zon_cells HW10.out
  obtain ⟨⟨d0, d1, d2⟩, _⟩ := zon_cells HG10.out
  clear hk10 HP9 HW9 HX9 HG9 HQA9 hbw9 HLX
  go_wp2_with fail
  refine (HEG.out _).mono ?_
  rintro e w11 ⟨rfl, hb11⟩
  clear c0 c1 c2 d0 d1 d2
  have HP11 : Hid (w11.heap[w.heap.size]? = some (.cells #[.string nm, .int .i64 ct, .slice aa L.length ca] 37)) := (hb11.block w.heap.size (by omega)).trans HP10.out
  have HW11 : Hid (w11.heap[w3.heap.size]? = some (.cells #[.string ap, .int .i64 fi, .slice none 0 0] 41)) := (hb11.block w3.heap.size (by omega)).trans HW10.out
  have HG11 : Hid (w11.heap[w6.heap.size]? = some (.cells #[.string ap, .int .i64 fi, .slice none 0 0] 41)) := (hb11.block w6.heap.size (by omega)).trans HG10.out
  have hbw11 : Below w.heap.size w w11 := hbw10.trans (hb11.mono hbw10.size)
  have hz1011 : w10.heap.size ≤ w11.heap.size := hb11.size
  obtain ⟨⟨d0, d1, d2⟩, _⟩ := zon_cells HG11.out
  clear hb11 HP10 HW10 HG10 hbw10
  go_wp2_with fail
  refine (HMG.out _).mono ?_
  rintro e w12 ⟨rfl, hb12⟩
  clear d0 d1 d2
  have HP12 : Hid (w12.heap[w.heap.size]? = some (.cells #[.string nm, .int .i64 ct, .slice aa L.length ca] 37)) := (hb12.block w.heap.size (by omega)).trans HP11.out
  have HW12 : Hid (w12.heap[w3.heap.size]? = some (.cells #[.string ap, .int .i64 fi, .slice none 0 0] 41)) := (hb12.block w3.heap.size (by omega)).trans HW11.out
  have HG12 : Hid (w12.heap[w6.heap.size]? = some (.cells #[.string ap, .int .i64 fi, .slice none 0 0] 41)) := (hb12.block w6.heap.size (by omega)).trans HG11.out
  have hbw12 : Below w.heap.size w w12 := hbw11.trans (hb12.mono hbw11.size)
  have hz1112 : w11.heap.size ≤ w12.heap.size := hb12.size
  obtain ⟨⟨d0, d1, d2⟩, _⟩ := zon_cells HG12.out
  clear hb12 HP11 HW11 HG11 hbw11
  go_wp2_with fail
  refine (HHG.out _).mono ?_
  rintro e w13 ⟨rfl, hb13⟩
  clear d0 d1 d2
  have HP13 : Hid (w13.heap[w.heap.size]? = some (.cells #[.string nm, .int .i64 ct, .slice aa L.length ca] 37)) := (hb13.block w.heap.size (by omega)).trans HP12.out
  have HW13 : Hid (w13.heap[w3.heap.size]? = some (.cells #[.string ap, .int .i64 fi, .slice none 0 0] 41)) := (hb13.block w3.heap.size (by omega)).trans HW12.out
  have HG13 : Hid (w13.heap[w6.heap.size]? = some (.cells #[.string ap, .int .i64 fi, .slice none 0 0] 41)) := (hb13.block w6.heap.size (by omega)).trans HG12.out
  have hbw13 : Below w.heap.size w w13 := hbw12.trans (hb13.mono hbw12.size)
  have hz1213 : w12.heap.size ≤ w13.heap.size := hb13.size
  obtain ⟨⟨p0, p1, p2⟩, _⟩ := zon_cells HP13.out
  clear hb13 HP12 HW12 HG12 hbw12
  go_wp2_with fail
  refine (HT.out _ hbw13).mono ?_
  rintro e w14 ⟨⟨g7, rfl, _, hqa14⟩, hb14⟩
  clear p0 p1 p2
  have HQA14 : Hid (QRow w14 g7 L) := hqa14
  have hbw14 : Below w.heap.size w w14 := hbw13.trans (hb14.mono hbw13.size)
  have HK14 : Hid (Below w13.heap.size w13 w14) := hb14
  clear hqa14 hb14
  go_wp2_with fail
  refine (HI.out g7 _ (hE.below hbw14) HQA14.out).mono ?_
  rintro e w15 ⟨rfl, hb15⟩
  have hb1315 : Below w13.heap.size w13 w15 := HK14.out.trans (hb15.mono HK14.out.size)
  have HW15 : Hid (w15.heap[w3.heap.size]? = some (.cells #[.string ap, .int .i64 fi, .slice none 0 0] 41)) := (hb1315.block w3.heap.size (by omega)).trans HW13.out
  have HG15 : Hid (w15.heap[w6.heap.size]? = some (.cells #[.string ap, .int .i64 fi, .slice none 0 0] 41)) := (hb1315.block w6.heap.size (by omega)).trans HG13.out
  have hbw15 : Below w.heap.size w w15 := hbw13.trans (hb1315.mono hbw13.size)
  have hz1315 : w13.heap.size ≤ w15.heap.size := hb1315.size
  have hlt315 : w3.heap.size < w15.heap.size := by omega
  obtain ⟨⟨c0, c1, c2⟩, _⟩ := zon_cells HW15.out
  clear hb15 hb1315 HK14 HP13 HW13 HG13 hbw13 hbw14 HQA14
  go_wp2_with fail
  refine (HEG.out _).mono ?_
  rintro e w16 ⟨rfl, hb16⟩
  clear c0 c1 c2
  have hb1516 : Below w15.heap.size w15 w16 := ((Below.refl w15.heap.size w15).alloc (Nat.le_refl _) _).trans (hb16.mono (by simp))
  have HG16 : Hid (w16.heap[w6.heap.size]? = some (.cells #[.string ap, .int .i64 fi, .slice none 0 0] 41)) := (hb1516.block w6.heap.size (by omega)).trans HG15.out
  have hbw16 : Below w.heap.size w w16 := hbw15.trans (hb1516.mono hbw15.size)
  obtain ⟨⟨d0, d1, d2⟩, _⟩ := zon_cells HG16.out
  clear hb16 hb1516 HW15 HG15 hbw15
  go_wp2_with fail
  refine (HHG.out _).mono ?_
  rintro e w17 ⟨rfl, hb17⟩
  have hbw17 : Below w.heap.size w w17 := hbw16.trans (hb17.mono hbw16.size)
  clear d0 d1 d2 hb17 hbw16
  go_wp2_with fail
  go_ret
  exact ⟨rfl, hbw17⟩

theorem walk (nm : ByteArray) (ct : Int) (va : Value) (L : List (List UInt8 × Int × Int × List UInt8)) (w : World) (hn : nm.size ≤ maxLen) (ha : RRow w va L) (hxa : Hid (∀ x ∈ L, x.1.length ≤ maxLen ∧ x.2.2.2.length ≤ maxLen)) (_hc : -9223372036854775808 ≤ ct ∧ ct ≤ 9223372036854775807) (hE : EnvZ w) :
    Calls Tryz.prog 5 #[ZonV nm ct va] w fun e w' => e = .returned (.bool true) ∧ Below w.heap.size w w' := by
  have la : L.length ≤ maxLen := by obtain ⟨_, cap, _, h1, h2, _⟩ := ha; omega
  exact core nm ct va L _ _ _ w hn ha hxa hE (fun g W h1 h2 h3 q => sNewJournal_any nm ct _ L W (q.row (Nat.le_refl _) la) h1 h2 h3) (fun g W hW h1 h2 h3 q => iNewJournal_any nm ct _ L W (q.row (Nat.le_refl _) la) h1 h2 h3 hW)
end Go.Proofs.YtnkjgkchjokgmaaGreatDoor.newJournal
