import Derived.Test.YtpghpeombednkaaGreatDoorROr
import Derived.Test.YtpghpeombednkaaGreatDoorRLaw
import Derived.Deep.RegionWith
namespace Go.Proofs.YtpghpeombednkaaGreatDoor
open Go.RowKit

/-- Two boxed records. -/
def box8 (w : World) (n1 d1 : ByteArray) (t1 l1 : Int) (n2 d2 : ByteArray) (t2 l2 : Int) : World :=
  (w.alloc (.cells #[.string n1, .int .i64 t1, .int .i64 l1, .string d1] 35)).alloc (.cells #[.string n2, .int .i64 t2, .int .i64 l2, .string d2] 35)
/-- What the two boxes read as in every world behind. -/
def In8 (w W : World) (n1 d1 : ByteArray) (t1 l1 : Int) (n2 d2 : ByteArray) (t2 l2 : Int) : Prop :=
  (W.cell? ⟨w.heap.size, 0, none⟩ = some (.string n1) ∧ W.cell? ⟨w.heap.size, 1, none⟩ = some (.int .i64 t1) ∧ W.cell? ⟨w.heap.size, 2, none⟩ = some (.int .i64 l1) ∧ W.cell? ⟨w.heap.size, 3, none⟩ = some (.string d1)) ∧
  (W.cell? ⟨w.heap.size + 1, 0, none⟩ = some (.string n2) ∧ W.cell? ⟨w.heap.size + 1, 1, none⟩ = some (.int .i64 t2) ∧ W.cell? ⟨w.heap.size + 1, 2, none⟩ = some (.int .i64 l2) ∧ W.cell? ⟨w.heap.size + 1, 3, none⟩ = some (.string d2)) ∧ Below w.heap.size w W
theorem in8 {w W : World} {n1 d1 : ByteArray} {t1 l1 : Int} {n2 d2 : ByteArray} {t2 l2 : Int} (h : Below (box8 w n1 d1 t1 l1 n2 d2 t2 l2).heap.size (box8 w n1 d1 t1 l1 n2 d2 t2 l2) W) : In8 w W n1 d1 t1 l1 n2 d2 t2 l2 := by
  unfold box8 at h
  have h2 := box4 h
  have hs : (w.alloc (.cells #[.string n1, .int .i64 t1, .int .i64 l1, .string d1] 35)).heap.size = w.heap.size + 1 := by simp
  have h1 := box4 (w := w) h2.2.2.2.2
  rw [hs] at h2
  exact ⟨⟨h1.1, h1.2.1, h1.2.2.1, h1.2.2.2.1⟩, ⟨h2.1, h2.2.1, h2.2.2.1, h2.2.2.2.1⟩, h1.2.2.2.2⟩

theorem cmpT_good {a b : List UInt8} (h : nameB a = true ∧ nameB b = true) : cmpT a b = cmpR (labelsOf a).reverse (labelsOf b).reverse := by
  unfold cmpT; rw [if_pos]; first | (unfold cmpB; rw [h.1, h.2]; rfl) | (rw [h.1, h.2]; rfl)
theorem cb_zero : ∀ x y : List UInt8, Lib.compareBytes x y = 0 ↔ x = y
  | [], [] => by simp [Lib.compareBytes]
  | [], _ :: _ => by simp [Lib.compareBytes]
  | _ :: _, [] => by simp [Lib.compareBytes]
  | a :: x, b :: y => by
    have ih := cb_zero x y
    unfold Lib.compareBytes
    by_cases h1 : a < b
    · rw [if_pos h1]
      constructor
      · intro h; omega
      · intro h; simp only [List.cons.injEq] at h; rw [h.1] at h1; exact absurd h1 (UInt8.lt_irrefl b)
    · rw [if_neg h1]
      by_cases h2 : b < a
      · rw [if_pos h2]
        constructor
        · intro h; omega
        · intro h; simp only [List.cons.injEq] at h; rw [h.1] at h2; exact absurd h2 (UInt8.lt_irrefl b)
      · rw [if_neg h2, ih]
        have hab : a = b := by
          apply UInt8.toNat_inj.1
          rw [UInt8.lt_iff_toNat_lt] at h1 h2; omega
        simp [hab]
theorem cb_three (x y : List UInt8) : Lib.compareBytes x y = -1 ∨ Lib.compareBytes x y = 0 ∨ Lib.compareBytes x y = 1 := by
  induction x generalizing y with
  | nil => cases y <;> simp [Lib.compareBytes]
  | cons a x ih =>
    cases y with
    | nil => simp [Lib.compareBytes]
    | cons b y =>
      unfold Lib.compareBytes
      split
      · exact .inl rfl
      · split
        · exact .inr (.inr rfl)
        · exact ih y
theorem cb_less {x y : List UInt8} (h : x ≠ y) : lessI (Op.bytesLess x y) = Lib.compareBytes x y := by
  rw [less_cmp]
  have h0 : Lib.compareBytes x y ≠ 0 := fun e => h ((cb_zero x y).1 e)
  unfold lessI
  rcases cb_three x y with e | e | e
  · rw [e]; rfl
  · exact absurd e h0
  · rw [e]; rfl
theorem ci_less {x y : Int} (h : x ≠ y) : lessI (decide (x < y)) = Lib.compareInt x y := by
  unfold lessI Lib.compareInt
  by_cases h1 : x < y
  · rw [if_pos h1, decide_eq_true h1]; rfl
  · rw [decide_eq_false h1, if_neg h1, if_pos (show x > y by omega)]; rfl
theorem ci_zero (x y : Int) : Lib.compareInt x y = 0 ↔ x = y := by
  unfold Lib.compareInt; split
  · constructor <;> intro h <;> omega
  · split
    · constructor <;> intro h <;> omega
    · constructor
      · intro _; omega
      · intro _; rfl
/-- What orderOfRecords reckons. -/
def ordA (n1 : List UInt8) (t1 : Int) (n2 : List UInt8) (t2 : Int) : Int := orI (cmpT n1 n2) (Lib.compareInt t1 t2)
def ordB (t1 l1 : Int) (d1 : List UInt8) (l2 : Int) (d2 : List UInt8) : Int := orI (Lib.compareBytes ((dataP t1 d1).getD []) ((dataP t1 d2).getD [])) (Lib.compareInt l1 l2)
def ordR (n1 : List UInt8) (t1 l1 : Int) (d1 : List UInt8) (n2 : List UInt8) (t2 l2 : Int) (d2 : List UInt8) : Int :=
  if ordA n1 t1 n2 t2 ≠ 0 then ordA n1 t1 n2 t2 else ordB t1 l1 d1 l2 d2
theorem ord_cmp {n1 n2 d1 d2 : List UInt8} {t1 l1 t2 l2 : Int} (h : nameB n1 = true ∧ nameB n2 = true) : ordR n1 t1 l1 d1 n2 t2 l2 d2 = cmpRec n1 t1 l1 d1 n2 t2 l2 d2 := by
  unfold ordR cmpRec ordA ordB orI
  rw [cmpT_good h]
  by_cases hc : cmpR (labelsOf n1).reverse (labelsOf n2).reverse = 0
  · rw [hc]
    simp only [ne_eq, not_true_eq_false, if_false]
    by_cases ht : t1 = t2
    · subst ht
      rw [show Lib.compareInt t1 t1 = 0 from (ci_zero t1 t1).2 rfl]
      simp only [not_true_eq_false, if_false]
      by_cases hd : (dataP t1 d1).getD [] = (dataP t1 d2).getD []
      · rw [(cb_zero _ _).2 hd]
        simp only [not_true_eq_false, if_false, hd]
        by_cases hl : l1 = l2
        · subst hl; rw [(ci_zero l1 l1).2 rfl]; simp
        · simp only [hl, not_false_eq_true, if_true]; exact (ci_less hl).symm
      · rw [if_pos (fun e => hd ((cb_zero _ _).1 e)), if_pos hd, cb_less hd]
    · rw [if_pos (fun e => ht ((ci_zero _ _).1 e)), if_pos ht, ci_less ht]
  · simp only [ne_eq, hc, not_false_eq_true, if_true]

end Go.Proofs.YtpghpeombednkaaGreatDoor
