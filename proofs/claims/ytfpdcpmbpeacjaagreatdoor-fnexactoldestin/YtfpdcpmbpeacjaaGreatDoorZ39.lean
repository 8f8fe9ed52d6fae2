import Derived.Test.YtfpdcpmbpeacjaaGreatDoorZ35
import Derived.Test.YtfpdcpmbpeacjaaGreatDoorZ38
import Derived.Test.YtfpdcpmbpeacjaaGreatDoorZ19
import Derived.Deep.RegionHeld3
namespace Go.Proofs.YtfpdcpmbpeacjaaGreatDoor
open Go.RowKit

set_option maxRecDepth 20000 in
set_option maxHeartbeats 4000000 in
theorem sOldest_any (now : Int) (v : Value) (L : List EntT) (w : World) (hr : ERow w v L) (hx : Hid (∀ x ∈ L, EBig x)) :
    Calls Tryz.prog 10 #[CchV now v] w fun e w' => e = .returned (.tuple #[.int .i64 (oldN now L), .bool (oldB now L)]) ∧ Below w.heap.size w w' := by
  have HG : Hid (∀ W, Below w.heap.size w W → Calls Tryz.prog 6 #[CchV now v] W fun e w' => e = .returned (.bool (goodC now L)) ∧ Below W.heap.size W w') := fun W hW => sGoodCache_any now v L W (hr.kept hW) hx
  unfold CchV at HG ⊢
  obtain ⟨a, cap, rfl, hcap, hmax, HROW⟩ := erow_value hr
  clear hr
  have HN0 : Hid ((goodC now L = false ∨ L.length = 0) → oldB now L = false ∧ oldN now L = 0) := old_no
  have HN1 : Hid (goodC now L = true → 0 < L.length → oldB now L = true ∧ oldN now L = minU now L) := old_yes
  obtain ⟨r, hr⟩ : ∃ r, r = oldB now L := ⟨_, rfl⟩
  obtain ⟨n, hn⟩ : ∃ n, n = oldN now L := ⟨_, rfl⟩
  rw [← hr, ← hn] at HN0 HN1 ⊢
  obtain ⟨WB, hWB⟩ : ∃ W, W = w.alloc (.cells #[.int .i64 now, .slice a L.length cap] 29) := ⟨_, rfl⟩
  have HWB : Hid (w.alloc (.cells #[.int .i64 now, .slice a L.length cap] 29) = WB) := hWB.symm
  have HCB : Hid (∀ W, Below WB.heap.size WB W → (W.cell? ⟨w.heap.size, 0, none⟩ = some (.int .i64 now) ∧ W.cell? ⟨w.heap.size, 1, none⟩ = some (.slice a L.length cap)) ∧ Below w.heap.size w W) := fun W hW => by rw [hWB] at hW; exact box2c hW
  have hbz : Below WB.heap.size WB WB := Below.refl _ _
  clear hr hn hWB
  cases hg : goodC now L with
  | false =>
    obtain ⟨h1, h2⟩ := HN0.out (.inl hg)
    subst h1 h2
    rw [hg] at HG
    clear HN0 HN1 hg
    go_enter Tryz.func10, Tryz.ntmps10
    go_wp2_with fail
    rw [HWB.out]
    refine (HG.out _ (HCB.out _ hbz).2).mono ?_
    rintro e w1 ⟨rfl, hb1⟩
    have hbw := (HCB.out _ hb1).2
    go_wp2_with fail
    go_ret2
    exact ⟨rfl, hbw⟩
  | true =>
  rw [hg] at HG
  by_cases hl : L.length = 0
  · obtain ⟨h1, h2⟩ := HN0.out (.inr hl)
    subst h1 h2
    have HE0 : Hid ((L.length : Int) = 0) := by show (L.length : Int) = 0; omega
    clear HN0 HN1 hg hl
    go_enter Tryz.func10, Tryz.ntmps10
    go_wp2_with fail
    rw [HWB.out]
    refine (HG.out _ (HCB.out _ hbz).2).mono ?_
    rintro e w1 ⟨rfl, hb1⟩
    obtain ⟨⟨k0, k1⟩, hbw⟩ := HCB.out _ hb1
    have e0' := HE0.out
    have e0 : ((L.length : Int) == 0) = true := beq_iff_eq.2 e0'
    go_wp2_with fail
    go_ret2
    exact ⟨rfl, hbw⟩
  have e0 : ((L.length : Int) == 0) = false := beq_eq_false_iff_ne.2 (by omega)
  have e0' : ¬ (L.length : Int) = 0 := by omega
  have hLn : ¬ L = [] := fun e => hl (by rw [e]; rfl)
  obtain ⟨h1, h2⟩ := HN1.out hg (by omega)
  have HN : Hid (n = minU now L) := h2
  subst h1
  clear HN0 HN1 hg h2 hl
  go_enter Tryz.func10, Tryz.ntmps10
  go_wp2_with fail
  rw [HWB.out]
  refine (HG.out _ (HCB.out _ hbz).2).mono ?_
  rintro e w1 ⟨rfl, hb1⟩
  obtain ⟨⟨k0, k1⟩, hbw⟩ := HCB.out _ hb1
  go_wp2_with fail
  clear k0 k1 hbw
  go_loopw [4, 21] (fun m i wr => ∃ k : Nat, k ≤ L.length ∧ i = .int .i64 (k : Int) ∧ m = .int .i64 (minU now (L.take k)) ∧ Below WB.heap.size WB wr) (fun _ i _ => L.length - (intOf i).toNat)
  case atStart => exact ⟨0, Nat.zero_le _, rfl, rfl, hb1⟩
  case round =>
    obtain ⟨k, hk, rfl, rfl, hbB⟩ := hrel
    clear hb1
    have hb : Below w.heap.size w wr := (HCB.out wr hbB).2
    by_cases hlt : k < L.length
    · obtain ⟨b, o, ha, hbl, hcel⟩ := HROW.out (by omega)
      rw [ha]
      obtain ⟨va, hcx0⟩ := hcel k hlt
      have hcx := hcx0.kept hb
      unfold EntAt at hcx
      obtain ⟨⟨c0, c1, c2, c3, c4, c5⟩, hz⟩ := hcx
      obtain ⟨aa, ca, hva, _, _, _⟩ := id hz
      have HST : Hid (minU now (L.take (k + 1)) = if (L[k]'hlt).2.2.2.2.2 < minU now (L.take k) then (L[k]'hlt).2.2.2.2.2 else minU now (L.take k)) := minU_take hlt now
      obtain ⟨x, hxe⟩ : ∃ x, x = L[k]'hlt := ⟨_, rfl⟩
      rw [← hxe] at c0 c1 c2 c4 c5 HST hva
      subst hva
      obtain ⟨m, hm⟩ : ∃ m, m = minU now (L.take k) := ⟨_, rfl⟩
      rw [← hm] at HST ⊢
      have hbX : Below WB.heap.size WB (wr.alloc (.cells #[.string ⟨x.1.toArray⟩, .int .i64 x.2.1, .bool x.2.2.1, .slice aa x.2.2.2.1.length ca, .int .i64 x.2.2.2.2.1, .int .i64 x.2.2.2.2.2] 39)) := hbB.alloc hbB.size _
      clear hcel hxe hcx0 hm hz
      by_cases g : x.2.2.2.2.2 < m
      · have HQ : Hid (x.2.2.2.2.2 = minU now (L.take (k + 1))) := by rw [HST.out, if_pos g]; exact rfl
        clear HST
        go_wp2_with fail
        go_roundw
        case rel => exact ⟨k + 1, by omega, by go_num, by rw [HQ.out], hbX⟩
        case measure => simp [intOf]; omega
      · have HQ : Hid (m = minU now (L.take (k + 1))) := by rw [HST.out, if_neg g]; exact rfl
        clear HST
        go_wp2_with fail
        go_roundw
        case rel => exact ⟨k + 1, by omega, by go_num, by rw [HQ.out], hbX⟩
        case measure => simp [intOf]; omega
    · have HQ : Hid (minU now (L.take k) = n) := by rw [HN.out, List.take_of_length_le (by omega)]; exact rfl
      rw [HQ.out]
      go_wp2_with fail
      go_ret2
      exact ⟨rfl, hb⟩

end Go.Proofs.YtfpdcpmbpeacjaaGreatDoor

namespace Go.Proofs.YtfpdcpmbpeacjaaGreatDoor.oldestIn
open Go.RowKit

set_option maxRecDepth 20000 in
set_option maxHeartbeats 8000000 in
theorem core (now : Int) (va : Value) (L : List EntT) (nn : Int) (ok : Bool) (w : World) (ha : ERow w va L) (hxa : Hid (∀ x ∈ L, EFit x)) (hE : EnvR w)
    (HS0 : Hid (∀ g W, L.length ≤ 1048576 → Hid (∀ x ∈ L, EBig x) → EQR W g L → Calls Tryz.prog 10 #[.agg #[.int .i64 now, .slice (some ⟨g, 0, none⟩) L.length L.length]] W fun e w' => e = .returned (.tuple #[.int .i64 nn, .bool ok]) ∧ Below W.heap.size W w'))
    (HI0 : Hid (∀ g W, EnvR W → L.length ≤ 1048576 → Hid (∀ x ∈ L, EBig x) → EQR W g L → Calls Tryz.prog 11 #[.agg #[.int .i64 now, .slice (some ⟨g, 0, none⟩) L.length L.length]] W fun e w' => e = .returned (.tuple #[.int .i64 nn, .bool ok]) ∧ Below W.heap.size W w')) :
    Calls Tryz.prog 4 #[CchV now va] w fun e w' => e = .returned (.bool true) ∧ Below w.heap.size w w' := by
  obtain ⟨aa, ca, hva, _, hca, _⟩ := id ha
  have HSZ : Hid (∀ W, Below w.heap.size w W → Calls Tryz.prog 5 #[CchV now va, .int .i64 1048576] W fun e w' => (∃ q : Int, e = .returned (.int .i64 q) ∧ (q = -1 ∨ (0 ≤ q ∧ q = 1048576 - (L.length : Int) - (wtE L : Int)))) ∧ Below W.heap.size W w') := fun W hW => szCache_any now va L 1048576 W (ha.kept hW) hxa (by omega) (by omega)
  have HTO : Hid (L.length ≤ 1048576 → Hid (∀ x ∈ L, EBig x) → ∀ W, Below w.heap.size w W → Calls Tryz.prog 7 #[CchV now va] W fun e w' => (∃ g, e = .returned (CchV now (.slice (some ⟨g, 0, none⟩) L.length L.length)) ∧ W.heap.size ≤ g ∧ EQR w' g L) ∧ Below W.heap.size W w') := fun h1 h2 W hW => (toCache_any now va L W (ha.kept hW) h1 h2).mono fun e w' ⟨⟨g, T, e1, e2, e3⟩, e4⟩ => ⟨⟨g, e1, e2, T, e3⟩, e4⟩
  subst hva
  clear ha
  unfold CchV at HSZ HTO ⊢
  go_enter Tryz.func4, Tryz.ntmps4
  go_wp2_with fail
  refine (HSZ.out _ ((Below.refl w.heap.size w).alloc (Nat.le_refl _) _)).mono ?_
  rintro e w1 ⟨⟨q, rfl, hq⟩, hb1⟩
  have hbw1 : Below w.heap.size w w1 := ((Below.refl w.heap.size w).alloc (Nat.le_refl _) _).trans (hb1.mono (by simp))
  have HP1 : Hid (w1.heap[w.heap.size]? = some (.cells #[.int .i64 now, .slice aa L.length ca] 24)) := (hb1.block w.heap.size (by simp)).trans (blk_new _ _)
  have hz1 : w.heap.size < w1.heap.size := Nat.lt_of_lt_of_le (by simp) hb1.size
  clear hb1
  rcases hq with rfl | ⟨hq0, hqe⟩
  · go_wp2_with fail
    go_ret
    exact ⟨rfl, hbw1⟩
  · obtain ⟨hL, hL2⟩ := sz_cache hq0 hqe
    have HL2 : Hid (∀ x ∈ L, EBig x) := hL2
    have HT : Hid (∀ W, Below w.heap.size w W → Calls Tryz.prog 7 #[.agg #[.int .i64 now, .slice aa L.length ca]] W fun e w' => (∃ g, e = .returned (.agg #[.int .i64 now, .slice (some ⟨g, 0, none⟩) L.length L.length]) ∧ W.heap.size ≤ g ∧ EQR w' g L) ∧ Below W.heap.size W w') := HTO.out hL HL2
    have HSP : Hid (∀ g W, EQR W g L → Calls Tryz.prog 10 #[.agg #[.int .i64 now, .slice (some ⟨g, 0, none⟩) L.length L.length]] W fun e w' => e = .returned (.tuple #[.int .i64 nn, .bool ok]) ∧ Below W.heap.size W w') := fun g W h1 => HS0.out g W hL HL2 h1
    have HI : Hid (∀ g W, EnvR W → EQR W g L → Calls Tryz.prog 11 #[.agg #[.int .i64 now, .slice (some ⟨g, 0, none⟩) L.length L.length]] W fun e w' => e = .returned (.tuple #[.int .i64 nn, .bool ok]) ∧ Below W.heap.size W w') := fun g W hW h1 => HI0.out g W hW hL HL2 h1
    have HEQ : Hid (∀ g1 g2 W, EQR W g1 L → EQR W g2 L → Calls Tryz.prog 9 #[.agg #[.int .i64 now, .slice (some ⟨g1, 0, none⟩) L.length L.length], .agg #[.int .i64 now, .slice (some ⟨g2, 0, none⟩) L.length L.length]] W fun e w' => e = .returned (.bool true) ∧ Below W.heap.size W w') := fun g1 g2 W h1 h2 => eqCache_same now _ _ L W (h1.row HL2.out hL) (h2.row HL2.out hL)
    have e1 : (nn != nn) = false := by simp
    have e2 : (ok != ok) = false := by simp
    obtain ⟨p0, p1⟩ := cch_cells HP1.out
    clear hqe hL2 HTO HI0 HS0 HSZ
    go_wp2_with fail
    refine (HT.out _ hbw1).mono ?_
    rintro e w2 ⟨⟨g1, rfl, hg1, hqa⟩, hb2⟩
    clear p0 p1
    have hbw2 : Below w.heap.size w w2 := hbw1.trans (hb2.mono hbw1.size)
    have HP2 : Hid (w2.heap[w.heap.size]? = some (.cells #[.int .i64 now, .slice aa L.length ca] 24)) := (hb2.block w.heap.size hz1).trans HP1.out
    have hz2 : w.heap.size < w2.heap.size := Nat.lt_of_lt_of_le hz1 hb2.size
    have HQA : Hid (EQR w2 g1 L) := hqa
    clear hqa hg1 hb2 HP1 hbw1
    go_wp2_with fail
    refine (HSP.out g1 _ HQA.out).mono ?_
    rintro e w3 ⟨rfl, hb3⟩
    have hbw3 : Below w.heap.size w w3 := hbw2.trans (hb3.mono hbw2.size)
    have HP3 : Hid (w3.heap[w.heap.size]? = some (.cells #[.int .i64 now, .slice aa L.length ca] 24)) := (hb3.block w.heap.size hz2).trans HP2.out
    have hz3 : w.heap.size < w3.heap.size := Nat.lt_of_lt_of_le hz2 hb3.size
    obtain ⟨p0, p1⟩ := cch_cells HP3.out
    clear HQA hb3 HP2 hbw2
    go_wp2_with fail
    refine (HT.out _ hbw3).mono ?_
    rintro e w4 ⟨⟨g3, rfl, hg3, hqa⟩, hb4⟩
    clear p0 p1
    have hbw4 : Below w.heap.size w w4 := hbw3.trans (hb4.mono hbw3.size)
    have HP4 : Hid (w4.heap[w.heap.size]? = some (.cells #[.int .i64 now, .slice aa L.length ca] 24)) := (hb4.block w.heap.size hz3).trans HP3.out
    have hz4 : w.heap.size < w4.heap.size := Nat.lt_of_lt_of_le hz3 hb4.size
    have HQA : Hid (EQR w4 g3 L) := hqa
    clear hqa hg3 hb4 HP3 hbw3
    go_wp2_with fail
    refine (HI.out g3 _ (hE.below (hbw4.alloc hbw4.size _)) (HQA.out.kept ((Below.refl w4.heap.size w4).alloc (Nat.le_refl _) _))).mono ?_
    rintro e w5 ⟨rfl, hb5⟩
    have hb45 : Below w4.heap.size w4 w5 := ((Below.refl w4.heap.size w4).alloc (Nat.le_refl _) _).trans (hb5.mono (by simp))
    have hbw5 : Below w.heap.size w w5 := hbw4.trans (hb45.mono hbw4.size)
    have hz5 : w.heap.size < w5.heap.size := Nat.lt_of_lt_of_le hz4 hb45.size
    have hz45 : w4.heap.size < w5.heap.size := Nat.lt_of_lt_of_le (by simp) hb5.size
    have HC : Hid (∀ W, Below w5.heap.size w5 W → (W.cell? ⟨w.heap.size, 0, none⟩ = some (.int .i64 now) ∧ W.cell? ⟨w.heap.size, 1, none⟩ = some (.slice aa L.length ca)) ∧ (W.cell? ⟨w4.heap.size, 0, none⟩ = some (.int .i64 now) ∧ W.cell? ⟨w4.heap.size, 1, none⟩ = some (.slice (some ⟨g3, 0, none⟩) L.length L.length)) ∧ Below w5.heap.size w5 W) := fun W hW =>
      ⟨cch_cells ((hW.block w.heap.size hz5).trans ((hb45.block w.heap.size hz4).trans HP4.out)), cch_cells ((hW.block w4.heap.size hz45).trans ((hb5.block w4.heap.size (by simp)).trans (blk_new _ _))), hW⟩
    have HT5 : Hid (∀ W, Below w5.heap.size w5 W → Calls Tryz.prog 7 #[.agg #[.int .i64 now, .slice aa L.length ca]] W fun e w' => (∃ g, e = .returned (.agg #[.int .i64 now, .slice (some ⟨g, 0, none⟩) L.length L.length]) ∧ W.heap.size ≤ g ∧ EQR w' g L) ∧ Below W.heap.size W w') := fun W hW => HT.out W (hbw5.trans (hW.mono hbw5.size))
    have HEQ5 : Hid (∀ g W, Below w5.heap.size w5 W → EQR W g L → Calls Tryz.prog 9 #[.agg #[.int .i64 now, .slice (some ⟨g3, 0, none⟩) L.length L.length], .agg #[.int .i64 now, .slice (some ⟨g, 0, none⟩) L.length L.length]] W fun e w' => e = .returned (.bool true) ∧ Below W.heap.size W w') := fun g W hW h1 => HEQ.out g3 g W ((HQA.out.kept hb45).kept hW) h1
    have HTR : Hid (∀ W W', Below w5.heap.size w5 W → Below W.heap.size W W' → Below w5.heap.size w5 W') := fun W W' h1 h2 => h1.trans (h2.mono h1.size)
    have hbz : Below w5.heap.size w5 w5 := Below.refl _ _
    have hbd : Below w5.heap.size w5 w5.drew := (Below.refl _ _).drew
    clear hb5 hb45 hbw4 HP4 HQA HT HI HSP HEQ
    go_wp2_with fail
    go_region_held3 (fun W => (W.cell? ⟨w.heap.size, 0, none⟩ = some (.int .i64 now) ∧ W.cell? ⟨w.heap.size, 1, none⟩ = some (.slice aa L.length ca)) ∧ (W.cell? ⟨w4.heap.size, 0, none⟩ = some (.int .i64 now) ∧ W.cell? ⟨w4.heap.size, 1, none⟩ = some (.slice (some ⟨g3, 0, none⟩) L.length L.length)) ∧ Below w5.heap.size w5 W) (first | exact HC.out _ (by assumption) | exact HC.out _ (Below.drew (by assumption)))
      (first
      | (go_at_call 7; refine (HT5.out _ (by assumption)).mono ?_; rintro e w6 ⟨⟨g5, rfl, _, hqa6⟩, hb6⟩; have hb56 := HTR.out _ _ (by assumption) hb6)
      | (go_at_call 9; refine (HEQ5.out _ _ (by assumption) (by assumption)).mono ?_; rintro e w7 ⟨rfl, hb7⟩; have hb57 := HTR.out _ _ (by assumption) hb7))
    have hbw7 := hbw5.trans (hb57.mono hbw5.size)
    go_wp2_with fail
    go_ret
    exact ⟨rfl, hbw7⟩

theorem walk (now : Int) (va : Value) (L : List EntT) (w : World) (ha : ERow w va L) (hxa : Hid (∀ x ∈ L, EFit x)) (hE : EnvR w) :
    Calls Tryz.prog 4 #[CchV now va] w fun e w' => e = .returned (.bool true) ∧ Below w.heap.size w w' :=
  core now va L _ _ w ha hxa hE (fun _ W h1 h2 q => sOldest_any now _ L W (q.row h2.out h1) h2) (fun _ W hW h1 h2 q => iOldest_any now _ L W (q.row h2.out h1) h2 hW)
end Go.Proofs.YtfpdcpmbpeacjaaGreatDoor.oldestIn
