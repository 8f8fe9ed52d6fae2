import Derived.Test.YtgfiahfoghnpkaaGreatDoorZ05
import Derived.Deep.QuietTactic
import Derived.BigQuiet
import Derived.WalkSmall
import Derived.Deep.RegionWith
namespace Go.Proofs.YtgfiahfoghnpkaaGreatDoor
open Go.RowKit

theorem own_mono {w : World} {base base' e size : Nat} {v : Value} {n : Nat} {xs : List Value} (h : w.ownsRow base e size v n xs) (hb : base' ≤ base) : w.ownsRow base' e size v n xs := by
  obtain ⟨hl, hh | ⟨g, cap, cur, rfl, hg, hr⟩⟩ := h
  · exact ⟨hl, .inl hh⟩
  · exact ⟨hl, .inr ⟨g, cap, cur, rfl, Nat.le_trans hb hg, hr⟩⟩

/-- A list of texts in memory, by its value. -/
theorem row_value {w : World} {v : Value} {P : List (List UInt8)} (h : Row w v P) : ∃ a cap, v = .slice a P.length cap ∧ P.length ≤ cap ∧ cap ≤ 2 ^ 63 - 1 ∧ Hid (0 < P.length → ∃ b o, a = some ⟨b, o, none⟩ ∧ b < w.heap.size ∧ ∀ j, (hj : j < P.length) → w.cell? ⟨b, o + j, none⟩ = some (S P[j])) := by
  obtain ⟨a, cap, rfl, h1, h2, h3⟩ := h
  unfold maxLen at h2
  refine ⟨a, cap, rfl, h1, h2, fun hp => ?_⟩
  rcases h3 with rfl | h3
  · simp at hp
  · exact h3

theorem name_eight {l : List UInt8} (h : nameB l = true) : (labelsOf l).length ≤ 8 := by
  unfold nameB at h; simp only [Bool.and_eq_true, decide_eq_true_eq] at h; exact h.2.2

theorem val_int {k : IntKind} {a b : Int} (h : a = b) : Value.int k a = .int k b := by rw [h]
theorem ret_three {a b c d e f : Value} (h : a = d) (k : b = e) (l : c = f) : Ending.returned (.tuple #[a, b, c]) = .returned (.tuple #[d, e, f]) := by rw [h, k, l]

theorem cut_append (b : UInt8) : ∀ (x y : List UInt8), cut b (x ++ b :: y) = cut b x ++ cut b y
  | [], y => by simp [cut]
  | c :: x, y => by
    have ih := cut_append b x y
    by_cases h : c = b
    · simp [cut, h, ih]
    · cases e : cut b x with
      | nil => exact absurd e (cut_ne b x)
      | cons p r => rw [e] at ih; simp [cut, h, ih, e]
theorem cut_plain (b : UInt8) : ∀ l : List UInt8, b ∉ l → cut b l = [l]
  | [], _ => rfl
  | c :: l, h => by
    simp only [List.mem_cons, not_or] at h
    have ih := cut_plain b l h.2
    simp [cut, Ne.symm h.1, ih]
/-- Labels that are not empty and hold no dot. -/
def Plain (Q : List (List UInt8)) : Prop := ∀ p ∈ Q, p ≠ [] ∧ 46 ∉ p
theorem Plain.drop {Q : List (List UInt8)} (h : Plain Q) (k : Nat) : Plain (Q.drop k) := fun p hp => h p (List.mem_of_mem_drop hp)
theorem lab_ne {p : List UInt8} (h : labelB p = true) : p ≠ [] := by
  intro e; subst e; revert h; decide
theorem joinD_labels (l : List UInt8) : joinD (labelsOf l) = l := by
  unfold labelsOf
  split
  · rename_i h; rw [h]; rfl
  · exact joinD_cut l

def tot (P : List (List UInt8)) : Nat := (P.map List.length).sum
theorem joinD_small : ∀ P : List (List UInt8), (∀ p ∈ P, p.length ≤ 20) → (joinD P).length ≤ 21 * P.length
  | [], _ => by simp [joinD]
  | p :: r, h => by
    have h1 := h p (by simp)
    have ih := joinD_small r (fun q hq => h q (by simp [hq]))
    unfold joinD
    split
    · simp; omega
    · simp; omega

theorem label_le {p : List UInt8} (h : labelB p = true) : p.length ≤ 20 := by
  unfold labelB at h
  rw [Bool.or_eq_true] at h
  rcases h with h1 | h1
  · have : p = [42] := by simpa using h1
    subst this; simp
  · simp only [Bool.and_eq_true, decide_eq_true_eq] at h1
    exact h1.2.1
end Go.Proofs.YtgfiahfoghnpkaaGreatDoor

namespace Go.Proofs.YtgfiahfoghnpkaaGreatDoor
open Go.RowKit

theorem index_no {b : UInt8} : ∀ {l : List UInt8}, b ∉ l → Lib.index l [b] = -1
  | [], _ => by simp [Lib.index]
  | c :: l, h => by
    simp only [List.mem_cons, not_or] at h
    have hp : ([b] : List UInt8).isPrefixOf (c :: l) = false := by simp [List.isPrefixOf, h.1]
    rw [Lib.index, hp, index_no h.2]; simp
theorem index_at {b : UInt8} {r : List UInt8} : ∀ {a : List UInt8}, b ∉ a → Lib.index (a ++ b :: r) [b] = (a.length : Int)
  | [], _ => by rw [List.nil_append, Lib.index]; simp [List.isPrefixOf]
  | c :: a, h => by
    simp only [List.mem_cons, not_or] at h
    have hp : ([b] : List UInt8).isPrefixOf (c :: (a ++ b :: r)) = false := by simp [List.isPrefixOf, h.1]
    rw [List.cons_append, Lib.index, hp, index_at h.2]
    have : (((a.length : Int)) == -1) = false := by rw [beq_eq_false_iff_ne]; omega
    rw [this]; simp
theorem splitK_no {b : UInt8} {n : Nat} {l : List UInt8} (h : b ∉ l) : Lib.splitK [b] 0 n l = [l] := by
  cases n with
  | zero => rfl
  | succ n => rw [Lib.splitK, index_no h]; rfl
theorem splitK_at {b : UInt8} {n : Nat} {a r : List UInt8} (h : b ∉ a) : Lib.splitK [b] 0 (n + 1) (a ++ b :: r) = a :: Lib.splitK [b] 0 n r := by
  rw [Lib.splitK, index_at h]
  have : (((a.length : Int)) == -1) = false := by rw [beq_eq_false_iff_ne]; omega
  rw [this]
  simp only [Bool.false_eq_true, if_false, Int.toNat_natCast, Nat.add_zero, List.length_cons, List.length_nil, Nat.zero_add]
  rw [List.take_left', ← List.drop_drop, List.drop_left']
  · rfl
  · rfl
  · rfl
theorem cut_at {b : UInt8} {a r : List UInt8} (h : b ∉ a) : cut b (a ++ b :: r) = a :: cut b r := by
  rw [cut_append, cut_plain b a h]; rfl
theorem splitK_cut {b : UInt8} : ∀ (n : Nat) (l : List UInt8), (cut b l).length ≤ n + 1 → Lib.splitK [b] 0 n l = cut b l := by
  intro n
  induction n with
  | zero =>
    intro l h
    by_cases hm : b ∈ l
    · obtain ⟨a, r, rfl, ha⟩ := List.eq_append_cons_of_mem hm
      rw [cut_at ha] at h
      have := List.length_pos_iff.2 (cut_ne b r)
      simp only [List.length_cons] at h; omega
    · rw [splitK_no hm, cut_plain b l hm]
  | succ n ih =>
    intro l h
    by_cases hm : b ∈ l
    · obtain ⟨a, r, rfl, ha⟩ := List.eq_append_cons_of_mem hm
      rw [cut_at ha] at h ⊢
      rw [splitK_at ha, ih r (by simp only [List.length_cons] at h; omega)]
    · rw [splitK_no hm, cut_plain b l hm]
theorem splitK_long {b : UInt8} : ∀ (n : Nat) (l : List UInt8), n + 1 ≤ (cut b l).length → (Lib.splitK [b] 0 n l).length = n + 1 := by
  intro n
  induction n with
  | zero => intro l _; rfl
  | succ n ih =>
    intro l h
    by_cases hm : b ∈ l
    · obtain ⟨a, r, rfl, ha⟩ := List.eq_append_cons_of_mem hm
      rw [cut_at ha] at h
      rw [splitK_at ha, List.length_cons, ih r (by simp only [List.length_cons] at h; omega)]
    · rw [cut_plain b l hm] at h; simp at h
theorem split4 {b : UInt8} {l : List UInt8} {N : Nat} (hN : N = min 5 (l.length + 1) - 1) :
    ((Lib.splitK [b] 0 N l).length = 4 ↔ (cut b l).length = 4) ∧ ((cut b l).length = 4 → Lib.splitK [b] 0 N l = cut b l) := by
  have hc := cut_length_le b l
  by_cases h : (cut b l).length ≤ N + 1
  · have e := splitK_cut N l h
    rw [e]; exact ⟨Iff.rfl, fun _ => rfl⟩
  · have e := splitK_long (b := b) N l (by omega)
    rw [e]
    refine ⟨⟨fun h4 => ?_, fun h4 => ?_⟩, fun h4 => ?_⟩ <;> omega
/-- What strings.Cut tells at one byte, by the cutting. -/
theorem libCut_no {b : UInt8} {l : List UInt8} (h : b ∉ l) : Lib.cut l [b] = (l, [], false) := by
  unfold Lib.cut; rw [index_no h]; rfl
theorem libCut_at {b : UInt8} {a r : List UInt8} (h : b ∉ a) : Lib.cut (a ++ b :: r) [b] = (a, r, true) := by
  unfold Lib.cut; rw [index_at h]
  have e1 : (a ++ b :: r).take a.length = a := List.take_left' rfl
  have e2 : (a ++ b :: r).drop (a.length + 1) = r := by rw [← List.drop_drop, List.drop_left' rfl]; rfl
  simp [e1, e2]
end Go.Proofs.YtgfiahfoghnpkaaGreatDoor

namespace Go.Proofs.YtgfiahfoghnpkaaGreatDoor
open Go.RowKit

/-- Texts as they lie in a block of the call's own. -/
def SRow (w : World) (g : Nat) (P : List (List UInt8)) : Prop := g < w.heap.size ∧ ∀ j, (hj : j < P.length) → w.cell? ⟨g, j, none⟩ = some (S P[j]) ∧ w.frozen? ⟨g, j, none⟩ = false
theorem SRow.kept {w w' : World} {g : Nat} {P : List (List UInt8)} (h : SRow w g P) (hb : Below w.heap.size w w') : SRow w' g P :=
  ⟨Nat.lt_of_lt_of_le h.1 hb.size, fun j hj => by rw [hb.cell (p := ⟨g, j, none⟩) h.1, hb.frozen (p := ⟨g, j, none⟩) h.1]; exact h.2 j hj⟩
theorem SRow.set {w : World} {g : Nat} {P : List (List UInt8)} (h : SRow w g P) (k : Nat) (hk : k < P.length) (c : List UInt8) : SRow (w.setCell ⟨g, k, none⟩ (.string ⟨c.toArray⟩)) g (P.set k c) := by
  refine ⟨by simpa using h.1, fun j hj => ?_⟩
  have hj' : j < P.length := by simpa using hj
  refine ⟨?_, by simpa using (h.2 j hj').2⟩
  rw [List.getElem_set]
  split
  · rename_i e; subst e; exact World.cell?_setCell_same _ _ _ (h.2 k hk).1
  · rename_i e
    rw [World.cell?_setCell_other _ _ _ _ (show (⟨g, k, none⟩ : Addr) ≠ ⟨g, j, none⟩ by intro h; cases h; exact e rfl)]
    exact (h.2 j hj').1
theorem SRow.far {w : World} {g g' k : Nat} {P : List (List UInt8)} (h : SRow w g P) (hne : g' ≠ g) (u : Value) : SRow (w.setCell ⟨g', k, none⟩ u) g P := by
  refine ⟨by simpa using h.1, fun j hj => ⟨?_, by simpa using (h.2 j hj).2⟩⟩
  rw [World.cell?_setCell_other _ _ _ _ (show (⟨g', k, none⟩ : Addr) ≠ ⟨g, j, none⟩ by intro h; cases h; exact hne rfl)]
  exact (h.2 j hj).1
theorem SRow.row {w : World} {g cap : Nat} {P : List (List UInt8)} (h : SRow w g P) (hc : P.length ≤ cap) (hm : cap ≤ maxLen) : Row w (.slice (some ⟨g, 0, none⟩) P.length cap) P :=
  ⟨_, cap, rfl, hc, hm, .inr ⟨g, 0, rfl, h.1, fun j hj => by rw [Nat.zero_add]; exact (h.2 j hj).1⟩⟩
end Go.Proofs.YtgfiahfoghnpkaaGreatDoor

namespace Go.Proofs.YtgfiahfoghnpkaaGreatDoor
open Go.RowKit

end Go.Proofs.YtgfiahfoghnpkaaGreatDoor

namespace Go.Proofs.YtgfiahfoghnpkaaGreatDoor
open Go.RowKit

/-- The digits of a number, ahead of what is there; the first argument is a bound on the steps. -/
def mdF : Nat → Nat → List UInt8 → List UInt8
  | 0, _, acc => acc
  | f + 1, k, acc => if k = 0 then acc else mdF f (k / 10) (UInt8.ofNat (48 + k % 10) :: acc)
theorem mdF_fuel : ∀ (f g k : Nat) (acc : List UInt8), k ≤ f → k ≤ g → mdF f k acc = mdF g k acc
  | 0, g, k, acc, h, _ => by
    obtain rfl : k = 0 := by omega
    cases g <;> simp [mdF]
  | f + 1, 0, k, acc, _, h => by
    obtain rfl : k = 0 := by omega
    simp [mdF]
  | f + 1, g + 1, k, acc, h1, h2 => by
    by_cases hk : k = 0
    · simp [mdF, hk]
    · simp only [mdF, hk, if_false]
      exact mdF_fuel f g (k / 10) _ (by omega) (by omega)
theorem mdF_step (k : Nat) (acc : List UInt8) (hk : 0 < k) : mdF k k acc = mdF (k / 10) (k / 10) (UInt8.ofNat (48 + k % 10) :: acc) := by
  obtain ⟨j, rfl⟩ : ∃ j, k = j + 1 := ⟨k - 1, by omega⟩
  rw [mdF, if_neg (by omega)]
  exact mdF_fuel _ _ _ _ (by omega) (Nat.le_refl _)
/-- What markText tells of a number above 0. -/
def mark (k : Nat) : List UInt8 := 109 :: mdF k k []

theorem digit_byte (n : Nat) : (((UInt8.ofNat (48 + n % 10)).toNat : Nat) : Int) = 48 + (n : Int) % 10 := by
  have : (UInt8.ofNat (48 + n % 10)).toNat = 48 + n % 10 := by
    rw [UInt8.toNat_ofNat']; omega
  rw [this]; omega

theorem conv_one (w : World) (c : UInt8) : Sem.run Tryz.prog (convert 98 9 (.slice (some ⟨w.heap.size, 0, none⟩) 1 1)) (w.alloc (.cells #[.int .u8 (c.toNat : Int)] 5)) = .ok (.string ⟨#[c]⟩) (w.alloc (.cells #[.int .u8 (c.toNat : Int)] 5)) := by
  refine run_convert_bytes_back (w.alloc (.cells #[.int .u8 (c.toNat : Int)] 5)) 98 9 5 ⟨w.heap.size, 0, none⟩ 1 [c] Tryz.underlying98 Tryz.underlying5 Tryz.underlying9 (fun j hj => ?_)
  match j, hj with
  | 0, _ => simp [Addr.add]

set_option maxRecDepth 20000 in
set_option maxHeartbeats 1000000 in
theorem markText_any (n : Int) (K : Nat) (w : World) (hn : Hid (n = (K : Int))) (h0 : 0 < n) (hK : n ≤ 4294967280) :
    Calls Tryz.prog 45 #[.int .i64 n] w fun e w' => e = .returned (.string ⟨(mark K).toArray⟩) ∧ Below w.heap.size w w' := by
  go_enter Tryz.func45, Tryz.ntmps45
  go_wp2_with fail
  go_loopw [0, 3] (fun k s wr => ∃ (m : Nat) (out : List UInt8), k = .int .i64 m ∧ s = .string ⟨out.toArray⟩ ∧ out.length + m ≤ 4294967280 ∧ Hid (mdF m m out = mdF K K []) ∧ Below w.heap.size w wr) (fun k _ _ => (intOf k).toNat)
  case atStart => exact ⟨K, [], by rw [hn.out], rfl, by have := hn.out; simp; omega, rfl, Below.refl _ _⟩
  case round =>
    obtain ⟨m, out, rfl, rfl, hlen, HM, hb⟩ := hrel
    by_cases hm : 0 < m
    · have hst := mdF_step m out hm
      have hd := digit_byte m
      obtain ⟨c, hc⟩ : ∃ c, c = UInt8.ofNat (48 + m % 10) := ⟨_, rfl⟩
      rw [← hc] at hst hd
      have hconv := conv_one wr c
      rw [hd] at hconv
      have HST : Hid (mdF (m / 10) (m / 10) (c :: out) = mdF K K []) := by rw [← hst]; exact HM
      clear hst hd hc
      go_wp2_with fail
      go_roundw
      case rel => exact ⟨m / 10, c :: out, congrArg (Value.int .i64) (by omega), congrArg Value.string (data_eq (by simp)), by simp only [List.length_cons]; omega, HST, hb.alloc hb.size _⟩
      case measure => simp [intOf]; omega
    · obtain rfl : m = 0 := by omega
      have HO : Hid (out = mdF K K []) := HM
      go_wp2_with fail
      go_ret
      exact ⟨congrArg (fun x => Ending.returned (Value.string x)) (data_eq (by unfold mark; rw [← HO.out]; simp)), hb⟩
end Go.Proofs.YtgfiahfoghnpkaaGreatDoor

namespace Go.Proofs.YtgfiahfoghnpkaaGreatDoor
open Go.RowKit

theorem grown_refl (w : World) (row : Option Nat) : w.grownBy w row := ⟨rfl, rfl, rfl, Nat.le_refl _, fun _ _ _ => rfl⟩
theorem grown_below {w a b : World} {row : Option Nat} (h : w.grownBy a row) (k : Below a.heap.size a b) : w.grownBy b row :=
  ⟨k.os.trans h.os, k.tape.trans h.tape, k.output.trans h.output, Nat.le_trans h.size k.size, fun i hi hne => (k.block i (Nat.lt_of_lt_of_le hi h.size)).trans (h.block i hi hne)⟩
theorem grown_set {w a : World} {g k : Nat} {u : Value} (h : w.grownBy a (some g)) : w.grownBy (a.setCell ⟨g, k, none⟩ u) (some g) :=
  ⟨h.os, h.tape, h.output, by simpa using h.size, fun i hi hne => (Below.heap_setCell a ⟨g, k, none⟩ u i (fun e => hne (by rw [e]))).trans (h.block i hi hne)⟩
/-- A list of texts that the call owns, or nil. -/
def OwnS (w : World) (base : Nat) (v : Value) (L : List (List UInt8)) : Prop :=
  (v = .slice none 0 0 ∧ L = []) ∨ ∃ g cap, v = .slice (some ⟨g, 0, none⟩) L.length cap ∧ L.length ≤ cap ∧ cap ≤ maxLen ∧ base ≤ g ∧ SRow w g L
theorem OwnS.row {w : World} {base : Nat} {v : Value} {L : List (List UInt8)} (h : OwnS w base v L) : Row w v L := by
  rcases h with ⟨rfl, rfl⟩ | ⟨g, cap, rfl, h1, h2, _, hs⟩
  · exact row_nil w
  · exact hs.row h1 h2
theorem OwnS.kept {w w' : World} {base : Nat} {v : Value} {L : List (List UInt8)} (h : OwnS w base v L) (hb : Below w.heap.size w w') : OwnS w' base v L := by
  rcases h with h | ⟨g, cap, rfl, h1, h2, h3, hs⟩
  · exact .inl h
  · exact .inr ⟨g, cap, rfl, h1, h2, h3, hs.kept hb⟩

end Go.Proofs.YtgfiahfoghnpkaaGreatDoor

namespace Go.Proofs.YtgfiahfoghnpkaaGreatDoor
open Go.RowKit

end Go.Proofs.YtgfiahfoghnpkaaGreatDoor
