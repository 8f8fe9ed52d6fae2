import Derived.Test.YtgfiahfoghnpkaaGreatDoorZ19
import Derived.Test.YtgfiahfoghnpkaaGreatDoorZ29
import Derived.Test.YtgfiahfoghnpkaaGreatDoorZ05
import Derived.Test.YtgfiahfoghnpkaaGreatDoorZ27
import Derived.Deep.RegionHeld3
namespace Go.Proofs.YtgfiahfoghnpkaaGreatDoor
open Go.RowKit

/-- The first record. -/
def hdR (L : List (List UInt8 × Int × Int × List UInt8)) : List UInt8 × Int × Int × List UInt8 := L.headD ([], 0, 0, [])
theorem hdR_at {L : List (List UInt8 × Int × Int × List UInt8)} (h : 0 < L.length) : hdR L = L[0] := by
  cases L with
  | nil => simp at h
  | cons x r => rfl
/-- Of one name, type and ttl. -/
def oneOf (h r : List UInt8 × Int × Int × List UInt8) : Bool := (r.1 == h.1) && (r.2.1 == h.2.1) && (r.2.2.1 == h.2.2.1)
/-- An answer: records of one name, type and ttl, rising. -/
def ansB (L : List (List UInt8 × Int × Int × List UInt8)) : Bool := (decide (1 ≤ L.length) && decide (L.length ≤ 12)) && aresB L && L.all (oneOf (hdR L)) && risesB L
theorem ans_len {L : List (List UInt8 × Int × Int × List UInt8)} (h : ¬ (1 ≤ L.length ∧ L.length ≤ 12)) : ansB L = false := by
  unfold ansB
  have : (decide (1 ≤ L.length) && decide (L.length ≤ 12)) = false := by simp; omega
  rw [this]; rfl
theorem ans_rec {L : List (List UInt8 × Int × Int × List UInt8)} (h : aresB L = false) : ansB L = false := by
  unfold ansB; rw [h]; simp
theorem ans_one {L : List (List UInt8 × Int × Int × List UInt8)} (k : Nat) (hk : k < L.length) (h : oneOf (hdR L) L[k] = false) : ansB L = false := by
  have : L.all (oneOf (hdR L)) = false := by rw [List.all_eq_false]; exact ⟨_, List.getElem_mem hk, by simpa using h⟩
  unfold ansB; rw [this]; simp
theorem ans_rise {L : List (List UInt8 × Int × Int × List UInt8)} (k : Nat) (h : k + 1 < L.length) (hp : 0 ≤ cmp4 (L[k]'(by omega)) L[k + 1]) : ansB L = false := by
  have : risesB L = false := adj_bad k h (by simp; omega)
  unfold ansB; rw [this]; simp
theorem one_all {L : List (List UInt8 × Int × Int × List UInt8)} (h : ∀ j, (hj : j < L.length) → oneOf (hdR L) L[j] = true) : L.all (oneOf (hdR L)) = true := by
  rw [List.all_eq_true]
  intro x hx
  obtain ⟨j, hj, rfl⟩ := List.getElem_of_mem hx
  exact h j hj
theorem ans_all {L : List (List UInt8 × Int × Int × List UInt8)} (h1 : ∀ j, (hj : j < L.length) → recB L[j].1 L[j].2.1 L[j].2.2.1 L[j].2.2.2 = true) (h2 : ∀ j, (hj : j < L.length) → oneOf (hdR L) L[j] = true) (h3 : ∀ j, (hj : j + 1 < L.length) → cmp4 (L[j]'(by omega)) L[j + 1] < 0) : ansB L = (decide ((1 : Int) ≤ (L.length : Int)) && decide ((L.length : Int) ≤ 12)) := by
  have e : risesB L = true := (adj_iff _ _).2 (fun j hj => by simpa using h3 j hj)
  unfold ansB
  rw [aresB_all h1, one_all h2, e, Bool.and_true, Bool.and_true, Bool.and_true]
  congr 1 <;> exact decide_eq_decide.2 (by omega)
theorem ans_part {L : List (List UInt8 × Int × Int × List UInt8)} (h0 : 1 ≤ L.length ∧ L.length ≤ 12) (h1 : aresB L = true) (h2 : ∀ j, (hj : j < L.length) → oneOf (hdR L) L[j] = true) : ansB L = risesB L := by
  unfold ansB
  rw [h1, one_all h2, decide_eq_true h0.1, decide_eq_true h0.2]; simp
theorem ans_pos {L : List (List UInt8 × Int × Int × List UInt8)} (h : ansB L = true) : 0 < L.length := by
  unfold ansB at h
  simp only [Bool.and_eq_true, decide_eq_true_eq] at h
  omega
theorem one_iff (h r : List UInt8 × Int × Int × List UInt8) : oneOf h r = true ↔ r.1 = h.1 ∧ r.2.1 = h.2.1 ∧ r.2.2.1 = h.2.2.1 := by
  unfold oneOf
  simp only [Bool.and_eq_true, beq_iff_eq, and_assoc]
theorem one_not {h r : List UInt8 × Int × Int × List UInt8} (g : ¬ (r.1 = h.1 ∧ r.2.1 = h.2.1 ∧ r.2.2.1 = h.2.2.1)) : oneOf h r = false := by
  cases hc : oneOf h r with
  | false => rfl
  | true => exact absurd ((one_iff h r).1 hc) g

/-- One entry stands ahead of another. -/
def lessE (a b : EntT) : Bool := decide (cmpN a.1 b.1 < 0) || (decide (cmpN a.1 b.1 = 0) && decide (a.2.1 < b.2.1))
/-- What an entry tells is one thing. -/
def tellB (e : EntT) : Bool := if e.2.2.1 = true then decide (e.2.2.2.1.length = 0) else ansB e.2.2.2.1 && (((hdR e.2.2.2.1).1 == e.1) && ((hdR e.2.2.2.1).2.1 == e.2.1))
/-- Until and used, at a time. -/
def timeB (now : Int) (e : EntT) : Bool := (decide (now + 1 ≤ e.2.2.2.2.1) && decide (e.2.2.2.2.1 ≤ now + 100000)) && (decide (1 ≤ e.2.2.2.2.2) && decide (e.2.2.2.2.2 ≤ now))
def entB (now : Int) (e : EntT) : Bool := timeB now e && ((nameB e.1 && typB e.2.1) && tellB e)
def eO (L : List EntT) (k : Nat) : EntT := L[k]?.getD ([], 0, false, [], 0, 0)
theorem eO_at {L : List EntT} {k : Nat} (h : k < L.length) : eO L k = L[k] := by unfold eO; rw [List.getElem?_eq_getElem h]; rfl
def stepE (now : Int) (L : List EntT) (k : Nat) : Bool := entB now (eO L k) && (k == 0 || lessE (eO L (k - 1)) (eO L k))
/-- A good cache. -/
def goodC (now : Int) (L : List EntT) : Bool := (decide (1 ≤ now) && decide (now ≤ 1000000000)) && decide (L.length ≤ 20) && (List.range L.length).all (stepE now L)
theorem goodC_bad {now : Int} {L : List EntT} (k : Nat) (hk : k < L.length) (h : stepE now L k = false) : goodC now L = false := by
  have : (List.range L.length).all (stepE now L) = false := by rw [List.all_eq_false]; exact ⟨k, List.mem_range.2 hk, by simpa using h⟩
  unfold goodC; rw [this]; simp
theorem goodC_all {now : Int} {L : List EntT} (h0 : 1 ≤ now ∧ now ≤ 1000000000) (h1 : L.length ≤ 20) (h : ∀ j, j < L.length → stepE now L j = true) : goodC now L = true := by
  have : (List.range L.length).all (stepE now L) = true := by rw [List.all_eq_true]; exact fun j hj => h j (List.mem_range.1 hj)
  unfold goodC; rw [this, decide_eq_true h0.1, decide_eq_true h0.2, decide_eq_true h1]; rfl
theorem goodC_now {now : Int} {L : List EntT} (h : ¬ (1 ≤ now ∧ now ≤ 1000000000)) : goodC now L = false := by
  have : (decide (1 ≤ now) && decide (now ≤ 1000000000)) = false := by simp; omega
  unfold goodC; rw [this]; rfl
theorem goodC_many {now : Int} {L : List EntT} (h : ¬ L.length ≤ 20) : goodC now L = false := by
  unfold goodC; rw [decide_eq_false h]; simp
theorem goodC_facts {now : Int} {L : List EntT} (h : goodC now L = true) : (1 ≤ now ∧ now ≤ 1000000000) ∧ L.length ≤ 20 ∧ ∀ j, (hj : j < L.length) → entB now L[j] = true := by
  unfold goodC at h
  simp only [Bool.and_eq_true, decide_eq_true_eq, List.all_eq_true] at h
  refine ⟨h.1.1, h.1.2, fun j hj => ?_⟩
  have h1 := h.2 j (List.mem_range.2 hj)
  unfold stepE at h1
  rw [eO_at hj] at h1
  simp only [Bool.and_eq_true] at h1
  exact h1.1
theorem ent_name {now : Int} {e : EntT} (h : entB now e = true) : nameB e.1 = true := by
  unfold entB at h
  simp only [Bool.and_eq_true] at h
  exact h.2.1.1

/-- What the program's order of entries says. -/
theorem less_ord {a b : EntT} : lessE a b = decide (orI (cmpN a.1 b.1) (Lib.compareInt a.2.1 b.2.1) < 0) := by
  unfold lessE orI Lib.compareInt
  by_cases h1 : cmpN a.1 b.1 = 0
  · rw [h1]
    by_cases h2 : a.2.1 < b.2.1
    · simp [h2]
    · by_cases h3 : b.2.1 < a.2.1 <;> simp [h2, h3]
  · simp [h1]
end Go.Proofs.YtgfiahfoghnpkaaGreatDoor

namespace Go.Proofs.YtgfiahfoghnpkaaGreatDoor
open Go.RowKit

set_option maxRecDepth 20000 in
set_option maxHeartbeats 4000000 in
theorem orderE_any (y x : EntT) (vb va : Value) (w : World) (hN : nameB y.1 = true ∧ nameB x.1 = true) (sb : ∃ a n c, vb = .slice a n c) (sa : ∃ a n c, va = .slice a n c) (hE : Env w) :
    Calls Tryz.prog 68 #[.agg #[.string ⟨y.1.toArray⟩, .int .i64 y.2.1, .bool y.2.2.1, vb, .int .i64 y.2.2.2.2.1, .int .i64 y.2.2.2.2.2], .agg #[.string ⟨x.1.toArray⟩, .int .i64 x.2.1, .bool x.2.2.1, va, .int .i64 x.2.2.2.2.1, .int .i64 x.2.2.2.2.2]] w fun e w' => e = .returned (.int .i64 (orI (cmpN y.1 x.1) (Lib.compareInt y.2.1 x.2.1))) ∧ Below w.heap.size w w' := by
  obtain ⟨a1, n1, k1, rfl⟩ := sb
  obtain ⟨a2, n2, k2, rfl⟩ := sa
  obtain ⟨n0, ty, no, R, un, us⟩ := y
  obtain ⟨m0, tx, mo, S, um, ut⟩ := x
  simp only at hN ⊢
  have HN : Hid (∀ W, Env W → Calls Tryz.prog 88 #[.string ⟨n0.toArray⟩, .string ⟨m0.toArray⟩] W fun e w' => e = .returned (.int .i64 (cmpN n0 m0)) ∧ Below W.heap.size W w') := fun W hW => by
    have h := orderOfNames_any ⟨n0.toArray⟩ ⟨m0.toArray⟩ W hW
    rw [show cmpT (⟨n0.toArray⟩ : ByteArray).data.toList (⟨m0.toArray⟩ : ByteArray).data.toList = cmpN n0 m0 from cmpT_good hN] at h
    exact h
  have HCT : Hid (∀ W, Calls Tryz.prog 89 #[.int .i64 ty, .int .i64 tx] W fun e w' => e = .returned (.int .i64 (Lib.compareInt ty tx)) ∧ w' = W) := fun W => Tryz.cmp_Compare_int ty tx W
  obtain ⟨a, ha⟩ : ∃ a, a = cmpN n0 m0 := ⟨_, rfl⟩
  obtain ⟨b, hb⟩ : ∃ b, b = Lib.compareInt ty tx := ⟨_, rfl⟩
  rw [← ha, ← hb]
  rw [← ha] at HN
  rw [← hb] at HCT
  have HOA0 : ∀ (W : World), Calls Tryz.prog 87 #[.slice (some ⟨W.heap.size, 0, none⟩) 2 2] (W.alloc (.cells #[.int .i64 a, .int .i64 b] 3)) fun e w' => e = .returned (.int .i64 (orI a b)) ∧ w' = W.alloc (.cells #[.int .i64 a, .int .i64 b] 3) := fun W => or_two a b _ W.heap.size (by simp) (by simp)
  obtain ⟨o, ho⟩ : ∃ o, o = orI a b := ⟨_, rfl⟩
  rw [← ho] at HOA0 ⊢
  have HOA : Hid (∀ W : World, Calls Tryz.prog 87 #[.slice (some ⟨W.heap.size, 0, none⟩) 2 2] (W.alloc (.cells #[.int .i64 a, .int .i64 b] 3)) fun e w' => e = .returned (.int .i64 o) ∧ w' = W.alloc (.cells #[.int .i64 a, .int .i64 b] 3)) := HOA0
  obtain ⟨W0, hW0⟩ : ∃ W0, W0 = (w.alloc (.cells #[.string ⟨n0.toArray⟩, .int .i64 ty, .bool no, .slice a1 n1 k1, .int .i64 un, .int .i64 us] 44)).alloc (.cells #[.string ⟨m0.toArray⟩, .int .i64 tx, .bool mo, .slice a2 n2 k2, .int .i64 um, .int .i64 ut] 44) := ⟨_, rfl⟩
  have HW0 : Hid ((w.alloc (.cells #[.string ⟨n0.toArray⟩, .int .i64 ty, .bool no, .slice a1 n1 k1, .int .i64 un, .int .i64 us] 44)).alloc (.cells #[.string ⟨m0.toArray⟩, .int .i64 tx, .bool mo, .slice a2 n2 k2, .int .i64 um, .int .i64 ut] 44) = W0) := hW0.symm
  have HS : Hid (∀ W, Below W0.heap.size W0 W → (Below W0.heap.size W0 W ∧ W.cell? ⟨w.heap.size, 0, none⟩ = some (.string ⟨n0.toArray⟩) ∧ W.cell? ⟨w.heap.size, 1, none⟩ = some (.int .i64 ty) ∧ W.cell? ⟨w.heap.size + 1, 0, none⟩ = some (.string ⟨m0.toArray⟩) ∧ W.cell? ⟨w.heap.size + 1, 1, none⟩ = some (.int .i64 tx))) := fun W h => by
    have h0 := h
    rw [hW0] at h
    obtain ⟨d, f, _⟩ := box2 h
    have d0 := d 0
    have d1 := d 1
    have f0 := f 0
    have f1 := f 1
    simp at d0 d1 f0 f1
    exact ⟨h0, d0, d1, f0, f1⟩
  have HBW : Hid (∀ W, Below W0.heap.size W0 W → Below w.heap.size w W) := fun W h => by
    rw [hW0] at h
    exact (box2 h).2.2
  have HTR : Hid (∀ W W', Below W0.heap.size W0 W → Below W.heap.size W W' → Below W0.heap.size W0 W') := fun W W' h1 h2 => h1.trans (h2.mono h1.size)
  have HBA : Hid (∀ W (x y : Int), Below W0.heap.size W0 W → Below W0.heap.size W0 (W.alloc (.cells #[.int .i64 x, .int .i64 y] 3))) := fun W x y h => h.alloc h.size _
  have hbz : Below W0.heap.size W0 W0 := Below.refl _ _
  have hb0 : Below W0.heap.size W0 W0.drew := (Below.refl _ _).drew
  clear HOA0 ho ha hb hW0 hN
  go_enter Tryz.func68, Tryz.ntmps68
  go_wp2_with fail
  rw [HW0.out]
  go_region_held3 (fun W => Below W0.heap.size W0 W ∧ W.cell? ⟨w.heap.size, 0, none⟩ = some (.string ⟨n0.toArray⟩) ∧ W.cell? ⟨w.heap.size, 1, none⟩ = some (.int .i64 ty) ∧ W.cell? ⟨w.heap.size + 1, 0, none⟩ = some (.string ⟨m0.toArray⟩) ∧ W.cell? ⟨w.heap.size + 1, 1, none⟩ = some (.int .i64 tx)) (first | exact HS.out _ (by assumption) | exact HS.out _ (Below.drew (by assumption)) | exact HS.out _ (Below.alloc (by assumption) (Below.size (by assumption)) _))
    (first
    | (go_at_call 88; refine (HN.out _ (hE.below (HBW.out _ (by assumption)))).mono ?_; rintro e w5 ⟨rfl, hb5⟩; have hb6 := HTR.out _ _ (by assumption) hb5)
    | (go_at_call 89; refine (HCT.out _).mono ?_; rintro e w6 ⟨rfl, rfl⟩)
    | (go_at_call 87; refine (HOA.out _).mono ?_; rintro e w7 ⟨rfl, rfl⟩))
  all_goals
    have hbA := HBA.out _ a b hb6
    go_wp2_with fail
    go_ret
    exact ⟨rfl, HBW.out _ hbA⟩
end Go.Proofs.YtgfiahfoghnpkaaGreatDoor
