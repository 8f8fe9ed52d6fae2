import Derived.Test.YtoobaaklklommaaGreatDoorZ15
import Derived.Test.YtoobaaklklommaaGreatDoorZ14
namespace Go.Proofs.YtoobaaklklommaaGreatDoor
open Go.RowKit

/-- A zone. -/
def ZonV (nm : ByteArray) (ct : Int) (v : Value) : Value := .agg #[.string nm, .int .i64 ct, v]
/-- A zone and a bool, told: its records lie somewhere; or in a block of the call's own. -/
def ZRes (w' : World) (ok : Bool) (nm : ByteArray) (ct : Int) (L : List (List UInt8 × Int × Int × List UInt8)) (e : Ending) : Prop := ∃ v, e = .returned (.tuple #[ZonV nm ct v, .bool ok]) ∧ RRow w' v L
def ZOwn (w' : World) (base : Nat) (ok : Bool) (nm : ByteArray) (ct : Int) (L : List (List UInt8 × Int × Int × List UInt8)) (e : Ending) : Prop := ∃ v, e = .returned (.tuple #[ZonV nm ct v, .bool ok]) ∧ OwnQ w' base v L
theorem box3c {w W : World} {a b c : Value} {t : TypeId} (hb : Below (w.alloc (.cells #[a, b, c] t)).heap.size (w.alloc (.cells #[a, b, c] t)) W) :
    W.cell? ⟨w.heap.size, 0, none⟩ = some a ∧ W.cell? ⟨w.heap.size, 1, none⟩ = some b ∧ W.cell? ⟨w.heap.size, 2, none⟩ = some c ∧ Below w.heap.size w W := by
  have hz : w.heap.size < (w.alloc (.cells #[a, b, c] t)).heap.size := by simp
  refine ⟨?_, ?_, ?_, ((Below.refl w.heap.size w).alloc (Nat.le_refl _) _).trans (hb.mono (Nat.le_of_lt hz))⟩
  all_goals (rw [hb.cell (p := ⟨w.heap.size, _, none⟩) hz]; simp)
theorem zon_cells {W : World} {b : Nat} {v0 v1 v2 : Value} {t : TypeId} (h : W.heap[b]? = some (.cells #[v0, v1, v2] t)) :
    (W.cell? ⟨b, 0, none⟩ = some v0 ∧ W.cell? ⟨b, 1, none⟩ = some v1 ∧ W.cell? ⟨b, 2, none⟩ = some v2) ∧ (W.frozen? ⟨b, 0, none⟩ = false ∧ W.frozen? ⟨b, 1, none⟩ = false ∧ W.frozen? ⟨b, 2, none⟩ = false) := by
  refine ⟨⟨?_, ?_, ?_⟩, ⟨?_, ?_, ?_⟩⟩
  all_goals first
    | (unfold World.cell?; rw [h]; rfl)
    | (unfold World.frozen?; rw [h]; simp)
/-- Three cells stored. -/
def put3 (w : World) (g : Nat) (v0 v1 v2 : Value) : World := ((w.setCell ⟨g, 0, none⟩ v0).setCell ⟨g, 1, none⟩ v1).setCell ⟨g, 2, none⟩ v2
theorem put3_heap {w : World} {g : Nat} {t : TypeId} {v0 v1 v2 u0 u1 u2 : Value} (h : w.heap[g]? = some (.cells #[u0, u1, u2] t)) : (put3 w g v0 v1 v2).heap[g]? = some (.cells #[v0, v1, v2] t) := by
  have e0 := heap_setCell_same _ _ 0 _ _ v0 h
  have e1 := heap_setCell_same _ _ 1 _ _ v1 e0
  have e2 := heap_setCell_same _ _ 2 _ _ v2 e1
  unfold put3
  simpa using e2
theorem put3_far {w : World} {g g' : Nat} {v0 v1 v2 : Value} {L : List (List UInt8 × Int × Int × List UInt8)} (h : QRow w g L) (hne : g' ≠ g) : QRow (put3 w g' v0 v1 v2) g L := ((h.far hne _).far hne _).far hne _
theorem put3_below {B : Nat} {a w : World} (h : Below B a w) {g : Nat} (hg : B ≤ g) (v0 v1 v2 : Value) : Below B a (put3 w g v0 v1 v2) :=
  ((h.setCell (p := ⟨g, 0, none⟩) hg _).setCell (p := ⟨g, 1, none⟩) hg _).setCell (p := ⟨g, 2, none⟩) hg _
theorem kpt_put3 (w : World) (g : Nat) (v0 v1 v2 : Value) {S : Nat → Prop} (hs : S g) : Kpt w (put3 w g v0 v1 v2) S := by
  unfold put3
  exact ((kpt_set _ _ _ _ hs).trans (kpt_set _ _ _ _ hs)).trans (kpt_set _ _ _ _ hs)
/-- What is small enough to be asked about. -/
theorem sz_zone {L : List (List UInt8 × Int × Int × List UInt8)} {n : Nat} {q : Int} (h0 : 0 ≤ q) (h : q = 1048576 - (n : Int) - (L.length : Int) - (wtR L : Int)) :
    n ≤ 1048576 ∧ L.length ≤ 1048576 ∧ (∀ x ∈ L, x.1.length ≤ 1048576 ∧ x.2.2.2.length ≤ 1048576) := by
  refine ⟨by omega, by omega, fun x hx => ?_⟩
  have := wtR_mem hx; omega

set_option maxRecDepth 20000 in
set_option maxHeartbeats 2000000 in
theorem szZone_any (nm : ByteArray) (ct : Int) (v : Value) (L : List (List UInt8 × Int × Int × List UInt8)) (left : Int) (w : World) (hn : nm.size ≤ maxLen) (hr : RRow w v L)
    (hx : Hid (∀ x ∈ L, x.1.length ≤ maxLen ∧ x.2.2.2.length ≤ maxLen)) (h0 : 0 ≤ left) (h1 : left ≤ 1048576) :
    Calls Tryz.prog 39 #[ZonV nm ct v, .int .i64 left] w fun e w' => (∃ q : Int, e = .returned (.int .i64 q) ∧ (q = -1 ∨ (0 ≤ q ∧ q = left - (nm.size : Int) - (L.length : Int) - (wtR L : Int)))) ∧ Below w.heap.size w w' := by
  unfold ZonV
  obtain ⟨aa, ca, rfl, _, hca, _⟩ := id hr
  have HRA : Hid (∀ W, Below w.heap.size w W → RRow W (.slice aa L.length ca) L) := fun W hW => hr.kept hW
  clear hr
  unfold maxLen at hn
  by_cases g1 : left - (nm.size : Int) < 0
  · go_enter Tryz.func39, Tryz.ntmps39
    go_wp2_with fail
    go_ret
    exact ⟨⟨-1, rfl, .inl rfl⟩, (Below.refl w.heap.size w).alloc (Nat.le_refl _) _⟩
  · go_enter Tryz.func39, Tryz.ntmps39
    go_wp2_with fail
    refine (szRecordS_any _ L (left - (nm.size : Int)) _ (HRA.out _ ((Below.refl w.heap.size w).alloc (Nat.le_refl _) _)) hx (by omega) (by omega)).mono ?_
    rintro e w1 ⟨⟨q1, rfl, hq1⟩, hb1⟩
    obtain ⟨_, _, _, hbw⟩ := box3c hb1
    rcases hq1 with ⟨rfl, _⟩ | ⟨hq1, hp1⟩
    · go_wp2_with fail
      go_ret
      exact ⟨⟨-1, rfl, .inl rfl⟩, hbw⟩
    · have HQ1 : Hid (q1 = left - (nm.size : Int) - (L.length : Int) - (wtR L : Int)) := hq1
      clear hq1
      go_wp2_with fail
      go_ret
      exact ⟨⟨q1, rfl, .inr ⟨hp1, HQ1.out⟩⟩, hbw⟩

set_option maxRecDepth 20000 in
set_option maxHeartbeats 2000000 in
theorem toZone_any (nm : ByteArray) (ct : Int) (v : Value) (L : List (List UInt8 × Int × Int × List UInt8)) (w : World) (hr : RRow w v L) (hl : L.length ≤ 1048576) :
    Calls Tryz.prog 45 #[ZonV nm ct v] w fun e w' => (∃ g, e = .returned (ZonV nm ct (.slice (some ⟨g, 0, none⟩) L.length L.length)) ∧ w.heap.size ≤ g ∧ QRow w' g L) ∧ Below w.heap.size w w' := by
  unfold ZonV
  obtain ⟨aa, ca, rfl, _, hca, _⟩ := id hr
  have HRA : Hid (∀ W, Below w.heap.size w W → RRow W (.slice aa L.length ca) L) := fun W hW => hr.kept hW
  clear hr
  go_enter Tryz.func45, Tryz.ntmps45
  go_wp2_with fail
  refine (toRecordS_any _ L _ (HRA.out _ ((((Below.refl w.heap.size w).alloc (Nat.le_refl _) _).alloc (by simp) _).alloc (by simp; omega) _)) hl).mono ?_
  rintro e w1 ⟨rfl, hq1, hb1⟩
  obtain ⟨c, d, fz, r, rz, hsz, hblk, hbw⟩ := box3 hb1
  have d0 := d 0
  have d1 := d 1
  have d2 := d 2
  have fz2 := fz 2
  have r0 := r 0
  have r1 := r 1
  have r2 := r 2
  have s0 := rz 0
  have s1 := rz 1
  have s2 := rz 2
  simp at d0 d1 d2 r0 r1 r2
  have HQ : Hid (QRow w1 (w.heap.size + 1 + 1 + 1) L) := by
    have h : QRow w1 (w.heap.size + 1 + 1 + 1) L := by simpa using hq1
    exact h
  have HK : Hid (w1.heap[w.heap.size + 1]? = some (.cells #[.string ⟨#[]⟩, .int .i64 0, .slice none 0 0] 32)) := hblk
  clear c d fz r rz hq1 hblk
  go_wp2_with fail
  (try simp only [Exit.inBlock, Exit.then])
  refine bodyPost_ret (results_cell_row rfl _ _ (w.heap.size + 1) 32 #[.string nm, .int .i64 ct, .slice (some ⟨w.heap.size + 1 + 1 + 1, 0, none⟩) L.length L.length] (0, 0) _ rfl ?_ Tryz.underlying32 rfl (by kernel_rfl)) rfl ⟨⟨w.heap.size + 1 + 1 + 1, rfl, by omega, ?_⟩, ?_⟩
  · exact put3_heap (by rw [heap_setCell_other _ _ _ _ (show w.heap.size + 1 ≠ w.heap.size + 1 + 1 by omega)]; exact HK.out)
  · exact put3_far (HQ.out.far (by omega) _) (by omega)
  · exact put3_below (hbw.setCell (p := ⟨w.heap.size + 1 + 1, 2, none⟩) (by show w.heap.size ≤ w.heap.size + 1 + 1; omega) _) (by omega) _ _ _

set_option maxRecDepth 20000 in
set_option maxHeartbeats 2000000 in
theorem eqZone_same (nm : ByteArray) (ct : Int) (v v2 : Value) (L : List (List UInt8 × Int × Int × List UInt8)) (w : World) (ha : RRow w v L) (ha2 : RRow w v2 L) :
    Calls Tryz.prog 50 #[ZonV nm ct v, ZonV nm ct v2] w fun e w' => e = .returned (.bool true) ∧ Below w.heap.size w w' := by
  unfold ZonV
  obtain ⟨aa, ca, rfl, _, hca, _⟩ := id ha
  obtain ⟨aa2, ca2, rfl, _, hca2, _⟩ := id ha2
  have HRA : Hid (∀ W, Below w.heap.size w W → RRow W (.slice aa L.length ca) L ∧ RRow W (.slice aa2 L.length ca2) L) := fun W hW => ⟨ha.kept hW, ha2.kept hW⟩
  clear ha ha2
  go_enter Tryz.func50, Tryz.ntmps50
  go_wp2_with fail
  have hA := HRA.out _ (((Below.refl w.heap.size w).alloc (Nat.le_refl _) (.cells #[.string nm, .int .i64 ct, .slice aa L.length ca] 32)).alloc (by simp) (.cells #[.string nm, .int .i64 ct, .slice aa2 L.length ca2] 32))
  refine (eqRecordS_same _ _ L _ hA.1 hA.2).mono ?_
  rintro e w1 ⟨rfl, hb1⟩
  obtain ⟨_, _, hbw⟩ := box2 hb1
  go_wp2_with fail
  go_ret
  exact ⟨rfl, hbw⟩

set_option maxRecDepth 20000 in
set_option maxHeartbeats 2000000 in
theorem markZone_any (nm : ByteArray) (ct : Int) (v : Value) (L : List (List UInt8 × Int × Int × List UInt8)) (base K : Nat) (w : World) (ha : OwnQ w base v L) (hA : L.length ≤ 1048576) (hK0 : 0 < K) (hK : K ≤ 1073741824) :
    Calls Tryz.prog 60 #[ZonV nm ct v, .int .i64 (K : Int)] w fun e w' => e = .returned (.int .i64 ((K : Int) + 4 * (L.length : Int))) ∧ OwnQ w' base v (mrks K L.length) ∧ Kpt w w' (fun k => v.ownBlock = some k) := by
  unfold ZonV
  obtain ⟨aa, ca, hva, hca⟩ := ha.shape
  subst hva
  have HA : Hid (OwnQ w base (.slice aa L.length ca) L) := ha
  clear ha
  go_enter Tryz.func60, Tryz.ntmps60
  go_wp2_with fail
  refine (markRecordS_any _ L base K _ (HA.out.kept ((Below.refl w.heap.size w).alloc (Nat.le_refl _) _)) hA hK0 (by omega)).mono ?_
  rintro e w1 ⟨rfl, ho1, hg1⟩
  have hk1 := grown_kpt hg1
  have HK1 : Hid (Kpt w w1 (fun k => (Value.slice aa L.length ca).ownBlock = some k)) := (below_kpt0 ((Below.refl w.heap.size w).alloc (Nat.le_refl _) _) _).trans (hk1.mono (fun k _ h => h))
  have HO1 : Hid (OwnQ w1 base (.slice aa L.length ca) (mrks K L.length)) := ho1
  clear ho1 hg1 hk1
  go_wp2_with fail
  go_ret
  exact ⟨rfl, HO1.out, HK1.out⟩

set_option maxRecDepth 20000 in
set_option maxHeartbeats 2000000 in
theorem heldZone_any (nm : ByteArray) (ct : Int) (v : Value) (n K : Nat) (w : World) (ha : RRow w v (mrks K n)) (hn : n ≤ 1048576) (hK0 : 0 < K) (hK : K ≤ 1048576) :
    Calls Tryz.prog 62 #[ZonV nm ct v, .int .i64 (K : Int)] w fun e w' => e = .returned (.int .i64 ((K : Int) + 4 * (n : Int))) ∧ Below w.heap.size w w' := by
  unfold ZonV
  obtain ⟨aa, ca, rfl, _, hca, _⟩ := id ha
  rw [mrks_length] at ha ⊢
  have HRA : Hid (∀ W, Below w.heap.size w W → RRow W (.slice aa n ca) (mrks K n)) := fun W hW => ha.kept hW
  clear ha
  go_enter Tryz.func62, Tryz.ntmps62
  go_wp2_with fail
  refine (heldRecordS_any _ n K _ (HRA.out _ ((Below.refl w.heap.size w).alloc (Nat.le_refl _) _)) hn hK0 (by omega)).mono ?_
  rintro e w1 ⟨rfl, hb1⟩
  obtain ⟨_, _, _, hbw⟩ := box3c hb1
  have hpos : (0 : Int) ≤ (K : Int) + 4 * (n : Int) := by omega
  go_wp2_with fail
  go_ret
  exact ⟨rfl, hbw⟩
end Go.Proofs.YtoobaaklklommaaGreatDoor
