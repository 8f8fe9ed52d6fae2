import Derived.Test.YtacmipcjhbkdcaaZ05
import Derived.Test.YtacmipcjhbkdcaaZ06
import Derived.Test.YtacmipcjhbkdcaaZ07
import Derived.Test.YtacmipcjhbkdcaaZ03
import Derived.Lib.AppendStr
import Derived.Laws.IdiomStrings
import Derived.Laws.BytesArg
import Derived.Laws.OwnMore
import Derived.Laws.ResultCell
import Derived.BigQuiet
import Derived.WalkSmall
import Derived.Deep.QuietTactic
import Derived.Deep.RegionWith
import Derived.Laws.AppendOwn
namespace Go.Proofs.Ytacmipcjhbkdcaa
open Go.RowKit

/-- A list of texts as it lies in memory. -/
def Row (w : World) (v : Value) (P : List (List UInt8)) : Prop :=
  ∃ a cap, v = .slice a P.length cap ∧ P.length ≤ cap ∧ cap ≤ maxLen ∧ (P = [] ∨ ∃ b o, a = some ⟨b, o, none⟩ ∧ b < w.heap.size ∧ ∀ j, (hj : j < P.length) → w.cell? ⟨b, o + j, none⟩ = some (S P[j]))

theorem Row.below {w w' : World} {v : Value} {P : List (List UInt8)} (h : Row w v P) {B : Nat} (hb : Below B w w') (hB : ∀ a n c, v = .slice (some a) n c → P ≠ [] → a.block < B) : Row w' v P := by
  obtain ⟨a, cap, rfl, h1, h2, h3⟩ := h
  refine ⟨a, cap, rfl, h1, h2, ?_⟩
  rcases h3 with h3 | ⟨b, o, rfl, hb1, hc⟩
  · exact .inl h3
  · by_cases hp : P = []
    · exact .inl hp
    · refine .inr ⟨b, o, rfl, Nat.lt_of_lt_of_le hb1 hb.size, fun j hj => ?_⟩
      rw [hb.cell (p := ⟨b, o + j, none⟩) (show b < B from hB ⟨b, o, none⟩ _ _ rfl hp)]; exact hc j hj
theorem Row.kept {w w' : World} {v : Value} {P : List (List UInt8)} (h : Row w v P) (hb : Below w.heap.size w w') : Row w' v P := by
  refine h.below hb ?_
  obtain ⟨a, cap, rfl, h1, h2, h3⟩ := h
  intro a' n c e hp
  rcases h3 with h3 | ⟨b, o, rfl, hb1, hc⟩
  · exact absurd h3 hp
  · cases e; exact hb1
theorem row_nil (w : World) : Row w (.slice none 0 0) [] := ⟨none, 0, rfl, Nat.le_refl _, by unfold maxLen; omega, .inl rfl⟩
theorem row_own {w : World} {base : Nat} {v : Value} {P : List (List UInt8)} (h : w.ownsRow base 9 1 v P.length (P.map S)) : Row w v P := by
  by_cases hp : P = []
  · subst hp
    obtain ⟨_, ⟨rfl, _⟩ | ⟨g, cap, cur, rfl, hg, hh, hc, hm, hs, hx⟩⟩ := h
    · exact row_nil w
    · exact ⟨_, cap, rfl, hc, hm, .inl rfl⟩
  · obtain ⟨g, cap, rfl, h1, h2, h3, h4, h5⟩ := own_shape h (List.length_pos_iff.2 hp)
    exact ⟨_, cap, rfl, h3, h4, .inr ⟨g, 0, rfl, h2, fun j hj => by rw [Nat.zero_add, h5 j hj, List.getElem?_map, List.getElem?_eq_getElem hj]; rfl⟩⟩

theorem own_below {w w' : World} {base e size : Nat} {v : Value} {n : Nat} {xs : List Value} (h : w.ownsRow base e size v n xs) (hb : Below w.heap.size w w') : w'.ownsRow base e size v n xs := by
  have h0 := h
  obtain ⟨hl, hh | ⟨g, cap, cur, rfl, hg, hh, hr⟩⟩ := h
  · exact ⟨hl, .inl hh⟩
  · exact ⟨hl, .inr ⟨g, cap, cur, rfl, hg, by rw [hb.block g (h0.lt g rfl).2]; exact hh, hr⟩⟩

theorem shape_of_own {w : World} {base : Nat} {v : Value} {P : List (List UInt8)} (h : w.ownsRow base 9 1 v P.length (P.map S)) :
    ∃ g cap, (v = .slice none 0 0 ∧ P = []) ∨ (v = .slice (some ⟨g, 0, none⟩) P.length cap ∧ base ≤ g ∧ g < w.heap.size ∧ P.length ≤ cap ∧ cap ≤ maxLen ∧ ∀ j, (hj : j < P.length) → w.cell? ⟨g, j, none⟩ = some (S P[j])) := by
  have h0 := h
  obtain ⟨hl, ⟨rfl, hn⟩ | ⟨g, cap, cur, rfl, hg, hh, hc, hm, hs, hx⟩⟩ := h
  · exact ⟨0, 0, .inl ⟨rfl, List.length_eq_zero_iff.1 hn⟩⟩
  · have := h0.lt g rfl
    exact ⟨g, cap, .inr ⟨rfl, this.1, this.2, hc, hm, fun j hj => by rw [h0.cellAt j (by omega), List.getElem?_map, List.getElem?_eq_getElem hj]; rfl⟩⟩

theorem own_mono {w : World} {base base' e size : Nat} {v : Value} {n : Nat} {xs : List Value} (h : w.ownsRow base e size v n xs) (hb : base' ≤ base) : w.ownsRow base' e size v n xs := by
  obtain ⟨hl, hh | ⟨g, cap, cur, rfl, hg, hr⟩⟩ := h
  · exact ⟨hl, .inl hh⟩
  · exact ⟨hl, .inr ⟨g, cap, cur, rfl, Nat.le_trans hb hg, hr⟩⟩

/-- A list of texts in memory, by its value. -/
theorem row_value {w : World} {v : Value} {P : List (List UInt8)} (h : Row w v P) : ∃ a cap, v = .slice a P.length cap ∧ P.length ≤ cap ∧ cap ≤ 2 ^ 63 - 1 ∧ Hid (0 < P.length → ∃ b o, a = some ⟨b, o, none⟩ ∧ b < w.heap.size ∧ ∀ j, (hj : j < P.length) → w.cell? ⟨b, o + j, none⟩ = some (S P[j])) := by
  obtain ⟨a, cap, rfl, h1, h2, h3⟩ := h
  unfold maxLen at h2
  refine ⟨a, cap, rfl, h1, h2, fun hp => ?_⟩
  rcases h3 with rfl | h3
  · simp at hp
  · exact h3

def tot (P : List (List UInt8)) : Nat := (P.map List.length).sum
theorem tot_snoc (P : List (List UInt8)) (k : Nat) (h : k < P.length) : tot (P.take (k + 1)) = tot (P.take k) + P[k].length := by
  unfold tot; rw [List.take_succ_eq_append_getElem h, List.map_append, List.sum_append]; simp only [List.map_cons, List.map_nil, List.sum_cons, List.sum_nil, Nat.add_zero]
theorem tot_full (P : List (List UInt8)) (k : Nat) (h : ¬ k < P.length) : tot (P.take k) = tot P := by rw [List.take_of_length_le (by omega)]
theorem tot_one {P : List (List UInt8)} {p : List UInt8} (h : p ∈ P) : p.length ≤ tot P := by
  unfold tot
  induction P with
  | nil => simp at h
  | cons q r ih =>
    rcases List.mem_cons.1 h with rfl | h
    · simp
    · have := ih h; simp; omega

theorem size_list (x : List UInt8) : (⟨x.toArray⟩ : ByteArray).size = x.length := by show x.toArray.size = _; simp
theorem add_zero_off (g j : Nat) : (⟨g, 0, none⟩ : Addr).add j = ⟨g, j, none⟩ := by
  unfold Addr.add; split <;> simp_all
/-- Texts as they lie in a block of the call's own. -/
def SRow (w : World) (g : Nat) (P : List (List UInt8)) : Prop := g < w.heap.size ∧ ∀ j, (hj : j < P.length) → w.cell? ⟨g, j, none⟩ = some (S P[j]) ∧ w.frozen? ⟨g, j, none⟩ = false
theorem SRow.kept {w w' : World} {g : Nat} {P : List (List UInt8)} (h : SRow w g P) (hb : Below w.heap.size w w') : SRow w' g P :=
  ⟨Nat.lt_of_lt_of_le h.1 hb.size, fun j hj => by rw [hb.cell (p := ⟨g, j, none⟩) h.1, hb.frozen (p := ⟨g, j, none⟩) h.1]; exact h.2 j hj⟩
theorem SRow.set {w : World} {g : Nat} {P : List (List UInt8)} (h : SRow w g P) (k : Nat) (hk : k < P.length) (c : List UInt8) : SRow (w.setCell ⟨g, k, none⟩ (.string ⟨c.toArray⟩)) g (P.set k c) := by
  refine ⟨by simpa using h.1, fun j hj => ?_⟩
  have hj' : j < P.length := by simpa using hj
  refine ⟨?_, by simpa using (h.2 j hj').2⟩
  rw [List.getElem_set]
  split
  · rename_i e; subst e; exact World.cell?_setCell_same _ _ _ (h.2 k hk).1
  · rename_i e
    rw [World.cell?_setCell_other _ _ _ _ (show (⟨g, k, none⟩ : Addr) ≠ ⟨g, j, none⟩ by intro h; cases h; exact e rfl)]
    exact (h.2 j hj').1
theorem SRow.far {w : World} {g g' k : Nat} {P : List (List UInt8)} (h : SRow w g P) (hne : g' ≠ g) (u : Value) : SRow (w.setCell ⟨g', k, none⟩ u) g P := by
  refine ⟨by simpa using h.1, fun j hj => ⟨?_, by simpa using (h.2 j hj).2⟩⟩
  rw [World.cell?_setCell_other _ _ _ _ (show (⟨g', k, none⟩ : Addr) ≠ ⟨g, j, none⟩ by intro h; cases h; exact hne rfl)]
  exact (h.2 j hj).1
theorem SRow.row {w : World} {g cap : Nat} {P : List (List UInt8)} (h : SRow w g P) (hc : P.length ≤ cap) (hm : cap ≤ maxLen) : Row w (.slice (some ⟨g, 0, none⟩) P.length cap) P :=
  ⟨_, cap, rfl, hc, hm, .inr ⟨g, 0, rfl, h.1, fun j hj => by rw [Nat.zero_add]; exact (h.2 j hj).1⟩⟩
theorem srow_own {w : World} {base g cap n : Nat} {P : List (List UInt8)} (h : w.ownsRow base 9 1 (.slice (some ⟨g, 0, none⟩) n cap) n (P.map S)) (hn : n = P.length) : SRow w g P := by
  subst hn
  refine ⟨(h.lt g rfl).2, fun j hj => ⟨?_, h.frozenAt j⟩⟩
  rw [h.cellAt j (by omega), List.getElem?_map, List.getElem?_eq_getElem hj]; rfl

set_option maxRecDepth 20000 in
set_option maxHeartbeats 1000000 in
theorem eqStringS_any (va vb : Value) (A B : List (List UInt8)) (w : World) (hra : Row w va A) (hrb : Row w vb B) :
    Calls Try.prog 69 #[va, vb] w fun e w' => e = .returned (.bool (A == B)) ∧ Below w.heap.size w w' := by
  obtain ⟨aa, ca, rfl, hca, hma, HA⟩ := row_value hra
  obtain ⟨ab, cb, rfl, hcb, hmb, HB⟩ := row_value hrb
  clear hra hrb
  by_cases hl : A.length = B.length
  · have e0 : ((A.length : Int) != (B.length : Int)) = false := by simp; omega
    have HL : Hid (A.length = B.length) := hl
    have hl1 : A.length ≤ B.length := by omega
    have hl2 : B.length ≤ A.length := by omega
    clear hl
    go_enter Try.func69, Try.ntmps69
    go_wp2_with fail
    go_loopw [5] (fun i wr => ∃ k : Nat, k ≤ A.length ∧ i = .int .i64 k ∧ Hid (A.take k = B.take k) ∧ Below w.heap.size w wr) (fun i _ => A.length - (intOf i).toNat)
    case atStart => exact ⟨0, Nat.zero_le _, rfl, rfl, Below.refl _ _⟩
    case round =>
      obtain ⟨k, hk, rfl, HK, hb⟩ := hrel
      by_cases hlt : k < A.length
      · have hltB : k < B.length := by omega
        obtain ⟨ba, oa, ha, hba, hcA⟩ := HA.out (by omega)
        obtain ⟨bb, ob, hb', hbb, hcB⟩ := HB.out (by omega)
        rw [ha, hb']
        have cA := hcA k hlt
        have cB := hcB k hltB
        rw [← hb.cell (p := ⟨ba, oa + k, none⟩) hba] at cA
        rw [← hb.cell (p := ⟨bb, ob + k, none⟩) hbb] at cB
        have HT : Hid (A.take (k + 1) = A.take k ++ [A[k]'hlt] ∧ B.take (k + 1) = B.take k ++ [B[k]'hltB]) := ⟨List.take_succ_eq_append_getElem hlt, List.take_succ_eq_append_getElem hltB⟩
        have HNE : Hid (A[k]'hlt ≠ B[k]'hltB → A ≠ B) := fun h e => by subst e; exact h rfl
        obtain ⟨x, hx⟩ : ∃ x, x = A[k]'hlt := ⟨_, rfl⟩
        obtain ⟨y, hy⟩ : ∃ y, y = B[k]'hltB := ⟨_, rfl⟩
        rw [← hx] at cA HT HNE
        rw [← hy] at cB HT HNE
        unfold S at cA cB
        clear hcA hcB hx hy
        by_cases hxy : x = y
        · subst hxy
          go_wp2_with fail
          go_quiet (fail)
          go_wp2_with fail
          go_roundw
          case rel => exact ⟨k + 1, by omega, by go_num, by show _ = _; rw [HT.out.1, HT.out.2, HK.out], below_drewN hb _⟩
          case measure => simp [intOf]; omega
        · have e1 : (x == y) = false := by simpa using hxy
          have HN : Hid (A ≠ B) := HNE.out hxy
          clear hxy HT HNE
          go_wp2_with fail
          go_quiet (fail)
          go_wp2_with fail
          go_ret
          exact ⟨ret_bool (by rw [beq_eq_false_iff_ne.2 HN.out]), below_drewN hb _⟩
      · have HE : Hid (A = B) := by
          have := HK.out
          rw [List.take_of_length_le (by omega), List.take_of_length_le (by omega)] at this; exact this
        go_wp2_with fail
        go_ret
        exact ⟨ret_bool (by rw [HE.out]; simp), hb⟩
  · have e0 : ((A.length : Int) != (B.length : Int)) = true := by simp; omega
    have HN : Hid (A ≠ B) := fun e => hl (by rw [e])
    clear hl
    go_enter Try.func69, Try.ntmps69
    go_wp2_with fail
    go_ret
    exact ⟨ret_bool (by rw [beq_eq_false_iff_ne.2 HN.out]), Below.refl _ _⟩
/-- The digits of a number, ahead of what is there; the first argument is a bound on the steps. -/
def mdF : Nat → Nat → List UInt8 → List UInt8
  | 0, _, acc => acc
  | f + 1, k, acc => if k = 0 then acc else mdF f (k / 10) (UInt8.ofNat (48 + k % 10) :: acc)
theorem mdF_fuel : ∀ (f g k : Nat) (acc : List UInt8), k ≤ f → k ≤ g → mdF f k acc = mdF g k acc
  | 0, g, k, acc, h, _ => by
    obtain rfl : k = 0 := by omega
    cases g <;> simp [mdF]
  | f + 1, 0, k, acc, _, h => by
    obtain rfl : k = 0 := by omega
    simp [mdF]
  | f + 1, g + 1, k, acc, h1, h2 => by
    by_cases hk : k = 0
    · simp [mdF, hk]
    · simp only [mdF, hk, if_false]
      exact mdF_fuel f g (k / 10) _ (by omega) (by omega)
theorem mdF_step (k : Nat) (acc : List UInt8) (hk : 0 < k) : mdF k k acc = mdF (k / 10) (k / 10) (UInt8.ofNat (48 + k % 10) :: acc) := by
  obtain ⟨j, rfl⟩ : ∃ j, k = j + 1 := ⟨k - 1, by omega⟩
  rw [mdF, if_neg (by omega)]
  exact mdF_fuel _ _ _ _ (by omega) (Nat.le_refl _)
theorem mdF_zero (acc : List UInt8) : mdF 0 0 acc = acc := rfl
/-- What markText tells of a number above 0. -/
def mark (k : Nat) : List UInt8 := 109 :: mdF k k []

theorem digit_byte (n : Nat) : (((UInt8.ofNat (48 + n % 10)).toNat : Nat) : Int) = 48 + (n : Int) % 10 := by
  have : (UInt8.ofNat (48 + n % 10)).toNat = 48 + n % 10 := by
    rw [UInt8.toNat_ofNat']; omega
  rw [this]; omega

theorem conv_one (w : World) (c : UInt8) : Sem.run Try.prog (convert 82 9 (.slice (some ⟨w.heap.size, 0, none⟩) 1 1)) (w.alloc (.cells #[.int .u8 (c.toNat : Int)] 5)) = .ok (.string ⟨#[c]⟩) (w.alloc (.cells #[.int .u8 (c.toNat : Int)] 5)) := by
  refine run_convert_bytes_back (w.alloc (.cells #[.int .u8 (c.toNat : Int)] 5)) 82 9 5 ⟨w.heap.size, 0, none⟩ 1 [c] Try.underlying82 Try.underlying5 Try.underlying9 (fun j hj => ?_)
  match j, hj with
  | 0, _ => simp [Addr.add]

set_option maxRecDepth 20000 in
set_option maxHeartbeats 1000000 in
theorem markText_any (n : Int) (K : Nat) (w : World) (hn : Hid (n = (K : Int))) (h0 : 0 < n) (hK : n ≤ 4294967280) :
    Calls Try.prog 38 #[.int .i64 n] w fun e w' => e = .returned (.string ⟨(mark K).toArray⟩) ∧ Below w.heap.size w w' := by
  go_enter Try.func38, Try.ntmps38
  go_wp2_with fail
  go_loopw [0, 3] (fun k s wr => ∃ (m : Nat) (out : List UInt8), k = .int .i64 m ∧ s = .string ⟨out.toArray⟩ ∧ out.length + m ≤ 4294967280 ∧ Hid (mdF m m out = mdF K K []) ∧ Below w.heap.size w wr) (fun k _ _ => (intOf k).toNat)
  case atStart => exact ⟨K, [], by rw [hn.out], rfl, by have := hn.out; simp; omega, rfl, Below.refl _ _⟩
  case round =>
    obtain ⟨m, out, rfl, rfl, hlen, HM, hb⟩ := hrel
    by_cases hm : 0 < m
    · have hst := mdF_step m out hm
      have hd := digit_byte m
      obtain ⟨c, hc⟩ : ∃ c, c = UInt8.ofNat (48 + m % 10) := ⟨_, rfl⟩
      rw [← hc] at hst hd
      have hconv := conv_one wr c
      rw [hd] at hconv
      have HST : Hid (mdF (m / 10) (m / 10) (c :: out) = mdF K K []) := by rw [← hst]; exact HM
      clear hst hd hc
      go_wp2_with fail
      go_roundw
      case rel => exact ⟨m / 10, c :: out, congrArg (Value.int .i64) (by omega), congrArg Value.string (data_eq (by simp)), by simp only [List.length_cons]; omega, HST, hb.alloc hb.size _⟩
      case measure => simp [intOf]; omega
    · obtain rfl : m = 0 := by omega
      have HO : Hid (out = mdF K K []) := HM
      go_wp2_with fail
      go_ret
      exact ⟨congrArg (fun x => Ending.returned (Value.string x)) (data_eq (by unfold mark; rw [← HO.out]; simp)), hb⟩
theorem grown_refl (w : World) (row : Option Nat) : w.grownBy w row := ⟨rfl, rfl, rfl, Nat.le_refl _, fun _ _ _ => rfl⟩
theorem grown_below {w a b : World} {row : Option Nat} (h : w.grownBy a row) (k : Below a.heap.size a b) : w.grownBy b row :=
  ⟨k.os.trans h.os, k.tape.trans h.tape, k.output.trans h.output, Nat.le_trans h.size k.size, fun i hi hne => (k.block i (Nat.lt_of_lt_of_le hi h.size)).trans (h.block i hi hne)⟩
theorem grown_set {w a : World} {g k : Nat} {u : Value} (h : w.grownBy a (some g)) : w.grownBy (a.setCell ⟨g, k, none⟩ u) (some g) :=
  ⟨h.os, h.tape, h.output, by simpa using h.size, fun i hi hne => (Below.heap_setCell a ⟨g, k, none⟩ u i (fun e => hne (by rw [e]))).trans (h.block i hi hne)⟩
theorem grown_row {w a : World} {g : Nat} {v : Value} {P : List (List UInt8)} (h : w.grownBy a (some g)) (hr : Row w v P) (hne : ∀ b o n c, v = .slice (some ⟨b, o, none⟩) n c → P ≠ [] → b ≠ g) : Row a v P := by
  obtain ⟨x, cap, rfl, h1, h2, h3⟩ := hr
  refine ⟨x, cap, rfl, h1, h2, ?_⟩
  rcases h3 with h3 | ⟨b, o, rfl, hb1, hc⟩
  · exact .inl h3
  · by_cases hp : P = []
    · exact .inl hp
    · exact .inr ⟨b, o, rfl, Nat.lt_of_lt_of_le hb1 h.size, fun j hj => h.cell (hc j hj) (fun e => hne b o _ _ rfl hp (Option.some.inj e))⟩

/-- A list of texts that the call owns, or nil. -/
def OwnS (w : World) (base : Nat) (v : Value) (L : List (List UInt8)) : Prop :=
  (v = .slice none 0 0 ∧ L = []) ∨ ∃ g cap, v = .slice (some ⟨g, 0, none⟩) L.length cap ∧ L.length ≤ cap ∧ cap ≤ maxLen ∧ base ≤ g ∧ SRow w g L
theorem OwnS.row {w : World} {base : Nat} {v : Value} {L : List (List UInt8)} (h : OwnS w base v L) : Row w v L := by
  rcases h with ⟨rfl, rfl⟩ | ⟨g, cap, rfl, h1, h2, _, hs⟩
  · exact row_nil w
  · exact hs.row h1 h2
theorem OwnS.kept {w w' : World} {base : Nat} {v : Value} {L : List (List UInt8)} (h : OwnS w base v L) (hb : Below w.heap.size w w') : OwnS w' base v L := by
  rcases h with h | ⟨g, cap, rfl, h1, h2, h3, hs⟩
  · exact .inl h
  · exact .inr ⟨g, cap, rfl, h1, h2, h3, hs.kept hb⟩

theorem below_any {w wr w1 : World} (hb : Below w.heap.size w wr) (hb1 : Below wr.drew.heap.size wr.drew w1) : Below w.heap.size w w1 := hb.drew.trans (hb1.mono hb.size)
theorem owns_S {w : World} {base : Nat} {v : Value} {P : List (List UInt8)} (h : w.ownsRow base 9 1 v P.length (P.map S)) : OwnS w base v P := by
  obtain ⟨g, cap, ⟨rfl, rfl⟩ | ⟨rfl, hg, hgl, hc, hm, _⟩⟩ := shape_of_own h
  · exact .inl ⟨rfl, rfl⟩
  · exact .inr ⟨g, cap, rfl, hc, hm, hg, srow_own h rfl⟩

theorem blk_new (w : World) (o : Obj) : (w.alloc o).heap[w.heap.size]? = some o := by
  show (w.heap.push o)[w.heap.size]? = some o
  simp
theorem heap3_new (w : World) (a b c : Obj) : (((w.alloc a).alloc b).alloc c).heap[w.heap.size + 1 + 1]? = some c := by
  have h := blk_new ((w.alloc a).alloc b) c
  simpa using h
theorem box3 {w W : World} {a b c : Array Value} {t1 t2 t3 : TypeId} (hb : Below (((w.alloc (.cells a t1)).alloc (.cells b t2)).alloc (.cells c t3)).heap.size (((w.alloc (.cells a t1)).alloc (.cells b t2)).alloc (.cells c t3)) W) :
    (∀ j, W.cell? ⟨w.heap.size, j, none⟩ = a[j]?) ∧ (∀ j, W.cell? ⟨w.heap.size + 1 + 1, j, none⟩ = c[j]?) ∧ (∀ j, W.frozen? ⟨w.heap.size + 1 + 1, j, none⟩ = false) ∧ (∀ j, W.cell? ⟨w.heap.size + 1, j, none⟩ = b[j]?) ∧ (∀ j, W.frozen? ⟨w.heap.size + 1, j, none⟩ = false) ∧ w.heap.size + 1 + 1 < W.heap.size ∧ W.heap[w.heap.size + 1]? = some (.cells b t2) ∧ Below w.heap.size w W := by
  have hA : Below (w.alloc (.cells a t1)).heap.size (w.alloc (.cells a t1)) W := (((Below.refl _ _).alloc (Nat.le_refl _) _).alloc (by simp) _).trans (hb.mono (by simp))
  have hB : Below ((w.alloc (.cells a t1)).alloc (.cells b t2)).heap.size ((w.alloc (.cells a t1)).alloc (.cells b t2)) W := ((Below.refl _ _).alloc (Nat.le_refl _) _).trans (hb.mono (by simp))
  have h2 : ((w.alloc (.cells a t1)).alloc (.cells b t2)).heap[w.heap.size + 1]? = some (.cells b t2) := by
    have h := blk_new (w.alloc (.cells a t1)) (.cells b t2)
    simpa using h
  refine ⟨fun j => ?_, fun j => ?_, fun j => ?_, fun j => ?_, fun j => ?_, Nat.lt_of_lt_of_le (by simp) hb.size, by rw [hB.block _ (by simp)]; exact h2, ((Below.refl w.heap.size w).alloc (Nat.le_refl _) _).trans (hA.mono (by simp))⟩
  · rw [hA.cell (p := ⟨w.heap.size, j, none⟩) (by simp)]
    unfold World.cell?
    rw [blk_new]; rfl
  · rw [hb.cell (p := ⟨w.heap.size + 1 + 1, j, none⟩) (by simp)]
    unfold World.cell?
    rw [heap3_new]; rfl
  · rw [hb.frozen (p := ⟨w.heap.size + 1 + 1, j, none⟩) (by simp)]
    unfold World.frozen?
    rw [heap3_new]; simp
  · rw [hB.cell (p := ⟨w.heap.size + 1, j, none⟩) (by simp)]
    unfold World.cell?
    rw [h2]; rfl
  · rw [hB.frozen (p := ⟨w.heap.size + 1, j, none⟩) (by simp)]
    unfold World.frozen?
    rw [h2]; simp

theorem box2 {w W : World} {a b : Array Value} {t1 t2 : TypeId} (hb : Below ((w.alloc (.cells a t1)).alloc (.cells b t2)).heap.size ((w.alloc (.cells a t1)).alloc (.cells b t2)) W) :
    (∀ j, W.cell? ⟨w.heap.size, j, none⟩ = a[j]?) ∧ (∀ j, W.cell? ⟨w.heap.size + 1, j, none⟩ = b[j]?) ∧ Below w.heap.size w W := by
  have hA : Below (w.alloc (.cells a t1)).heap.size (w.alloc (.cells a t1)) W := ((Below.refl _ _).alloc (Nat.le_refl _) _).trans (hb.mono (by simp))
  have h2 : ((w.alloc (.cells a t1)).alloc (.cells b t2)).heap[w.heap.size + 1]? = some (.cells b t2) := by
    have h := blk_new (w.alloc (.cells a t1)) (.cells b t2)
    simpa using h
  refine ⟨fun j => ?_, fun j => ?_, ((Below.refl w.heap.size w).alloc (Nat.le_refl _) _).trans (hA.mono (by simp))⟩
  · rw [hA.cell (p := ⟨w.heap.size, j, none⟩) (by simp)]
    unfold World.cell?
    rw [blk_new]; rfl
  · rw [hb.cell (p := ⟨w.heap.size + 1, j, none⟩) (by simp)]
    unfold World.cell?
    rw [h2]; rfl

theorem results_row_tmp {P : Program} {fn : Func} {p u : Tmp} {ty : TypeId} (h : fn.results = #[.cell p ty, .tmp u]) (tmps : Array Value) (w : World) (g : Nat) (t : TypeId) (cs : Array Value) (fr : Nat × Nat) (d : TypeDesc) (x : Value)
    (hp : tmps.getD p undef = .pointer (some ⟨g, 0, none⟩)) (hu : tmps.getD u undef = x) (hg : w.heap[g]? = some (.cells cs t fr))
    (hd0 : P.underlying ty = some d) (hd : (match d with | .struct _ | .array _ _ => true | _ => false) = true) (hi : (P.info? ty).map (·.size) = some cs.size) :
    (results fn tmps).run P w = .ok (.tuple #[.agg cs, x]) w := by
  have hp' : tmps[p]?.getD undef = .pointer (some ⟨g, 0, none⟩) := by simpa using hp
  have hu' : tmps[u]?.getD undef = x := by simpa using hu
  rw [results_cell_tmp h]
  simp [hp', hu', asAddr, run_loadVar_row w g t ty cs fr d hg hd0 hd hi, Result.andThen]
theorem own_types {w : World} {b b' : Nat} {e e' : TypeId} {s s' n n' : Nat} {v v' : Value} {xs xs' : List Value} (h : w.ownsRow b e s v n xs) (h' : w.ownsRow b' e' s' v' n' xs') (hne : e ≠ e') : v.ownBlock = none ∨ v.ownBlock ≠ v'.ownBlock := by
  rcases h.2 with ⟨rfl, _⟩ | ⟨g, cap, cur, rfl, _, hg, _⟩
  · exact .inl rfl
  · refine .inr (fun e1 => ?_)
    rcases h'.2 with ⟨rfl, _⟩ | ⟨g', cap', cur', rfl, _, hg', _⟩
    · cases e1
    · have e2 : g = g' := by simpa [Value.ownBlock] using e1
      subst e2
      rw [hg] at hg'
      cases hg'
      exact hne rfl
theorem own_low {w : World} {b c : Nat} {e : TypeId} {s n : Nat} {v : Value} {xs : List Value} (h : w.ownsRow b e s v n xs) (hc : ∀ g, v.ownBlock = some g → c ≤ g) : w.ownsRow c e s v n xs := by
  refine ⟨h.1, ?_⟩
  rcases h.2 with h | ⟨g, cap, cur, rfl, hb, hr⟩
  · exact .inl h
  · exact .inr ⟨g, cap, cur, rfl, hc g rfl, hr⟩

/-- Marks from a number on. -/
def marksK (K n : Nat) : List (List UInt8) := (List.range n).map (fun i => mark (K + i))
theorem marksK_length (K n : Nat) : (marksK K n).length = n := by simp [marksK]
theorem marksK_get (K n k : Nat) (h : k < n) : (marksK K n)[k]'(by rw [marksK_length]; exact h) = mark (K + k) := by simp [marksK]
def halfK (K : Nat) (L : List (List UInt8)) (k : Nat) : List (List UInt8) := marksK K k ++ L.drop k
theorem halfK_length (K : Nat) (L : List (List UInt8)) (k : Nat) (h : k ≤ L.length) : (halfK K L k).length = L.length := by simp [halfK, marksK]; omega
theorem halfK_zero (K : Nat) (L : List (List UInt8)) : halfK K L 0 = L := by simp [halfK, marksK]
theorem halfK_end (K : Nat) (L : List (List UInt8)) : halfK K L L.length = marksK K L.length := by simp [halfK]
theorem halfK_next (K : Nat) (L : List (List UInt8)) (k : Nat) (h : k < L.length) : halfK K L (k + 1) = (halfK K L k).set k (mark (K + k)) := by
  unfold halfK
  have hm : (marksK K k).length = k := marksK_length K k
  rw [List.set_append_right _ _ (by omega), hm, Nat.sub_self, List.drop_eq_getElem_cons h]
  simp only [marksK, List.range_succ, List.map_append, List.map_cons, List.map_nil, List.set_cons_zero, List.append_assoc, List.singleton_append]

set_option maxRecDepth 20000 in
set_option maxHeartbeats 2000000 in
theorem markStrK_any (v : Value) (L : List (List UInt8)) (K base : Nat) (w : World) (h : w.ownsRow base 9 1 v L.length (L.map S)) (hL : L.length ≤ 1048576) (hK0 : 0 < K) (hK : K ≤ 1073741824) :
    Calls Try.prog 54 #[v, .int .i64 (K : Int)] w fun e w' => e = .returned (.int .i64 ((K : Int) + (L.length : Int))) ∧ w'.ownsRow base 9 1 v L.length ((marksK K L.length).map S) ∧ w.grownBy w' v.ownBlock := by
  have h0 := h
  rcases h.2 with ⟨rfl, hn⟩ | ⟨g, cap, cur, rfl, hb, hg, hnc, hcm, _, _⟩
  · have HF : Hid (w.ownsRow base 9 1 (.slice none 0 0) L.length ((marksK K L.length).map S)) := by
      have e : L = [] := List.length_eq_zero_iff.1 hn
      subst e
      exact h0
    have HN : Hid (L.length = 0) := hn
    clear h h0 hn
    go_enter Try.func54, Try.ntmps54
    go_wp2_with fail
    go_loopw [1, 5] (fun q i wr => (q = .int .i64 (K : Int) ∧ i = .int .i64 0) ∧ wr = w) (fun _ _ _ => 0)
    case atStart => exact ⟨⟨rfl, rfl⟩, rfl⟩
    case round =>
      obtain ⟨⟨rfl, rfl⟩, rfl⟩ := hrel
      go_wp2_with fail
      go_ret
      exact ⟨ret_int (by rw [HN.out]; simp), HF.out, grown_refl _ _⟩
  · have HS : Hid (w.ownsRow base 9 1 (.slice (some ⟨g, 0, none⟩) L.length cap) L.length (L.map S)) := h0
    unfold maxLen at hcm
    clear h h0 hg
    go_enter Try.func54, Try.ntmps54
    go_wp2_with fail
    go_loopw [1, 5] (fun q i wr => ∃ k : Nat, k ≤ L.length ∧ i = .int .i64 k ∧ q = .int .i64 ((K : Int) + (k : Int)) ∧ Hid (wr.ownsRow base 9 1 (.slice (some ⟨g, 0, none⟩) L.length cap) L.length ((halfK K L k).map S)) ∧ w.grownBy wr (some g)) (fun _ i _ => L.length - (intOf i).toNat)
    case atStart => exact ⟨0, Nat.zero_le _, rfl, by simp, by rw [halfK_zero]; exact HS, grown_refl _ _⟩
    case round =>
      obtain ⟨k, hk, rfl, rfl, HR, hgr⟩ := hrel
      by_cases hlt : k < L.length
      · go_wp2_with fail
        refine (markText_any _ (K + k) _ (by exact (by omega : (K : Int) + (k : Int) = ((K + k : Nat) : Int))) (by omega) (by omega)).mono ?_
        rintro e w1 ⟨rfl, hb1⟩
        have hs1 := own_below HR.out hb1
        have hcg : w1.cell? ⟨g, k, none⟩ = some (S ((halfK K L k)[k]'(by rw [halfK_length K L k hk]; exact hlt))) := by
          rw [hs1.cellAt k (by omega), List.getElem?_map, List.getElem?_eq_getElem (by rw [halfK_length K L k hk]; exact hlt)]
          rfl
        have hfg : w1.frozen? ⟨g, k, none⟩ = false := hs1.frozenAt k
        have hset := (hs1.stored k (.string ⟨(mark (K + k)).toArray⟩)).1
        have hnx : ((halfK K L k).map S).set k (.string ⟨(mark (K + k)).toArray⟩) = (halfK K L (k + 1)).map S := by rw [halfK_next K L k hlt, List.map_set]; rfl
        rw [hnx] at hset
        obtain ⟨y, hy⟩ : ∃ y, y = mark (K + k) := ⟨_, rfl⟩
        rw [← hy] at hset ⊢
        have HSS : Hid ((w1.setCell ⟨g, k, none⟩ (.string ⟨y.toArray⟩)).ownsRow base 9 1 (.slice (some ⟨g, 0, none⟩) L.length cap) L.length ((halfK K L (k + 1)).map S)) := hset
        have hgr1 := grown_below hgr hb1
        unfold S at hcg
        clear hset hy hs1 hb1 hgr hnx
        go_wp2_with fail
        go_roundw
        case rel => exact ⟨k + 1, by omega, by go_num, by go_num, HSS, grown_set hgr1⟩
        case measure => simp [intOf]; omega
      · have hkk : k = L.length := by omega
        have HF : Hid (wr.ownsRow base 9 1 (.slice (some ⟨g, 0, none⟩) L.length cap) L.length ((marksK K L.length).map S)) := by have := HR.out; rw [hkk, halfK_end] at this; exact this
        have HK : Hid (k = L.length) := hkk
        clear hkk
        go_wp2_with fail
        go_ret
        exact ⟨ret_int (by rw [HK.out]), HF.out, hgr⟩

set_option maxRecDepth 20000 in
set_option maxHeartbeats 2000000 in
theorem heldStrK_any (v : Value) (n K : Nat) (w : World) (hr : Row w v (marksK K n)) (hL : n ≤ 1048576) (hK0 : 0 < K) (hK : K ≤ 1073741824) :
    Calls Try.prog 55 #[v, .int .i64 (K : Int)] w fun e w' => e = .returned (.int .i64 ((K : Int) + (n : Int))) ∧ Below w.heap.size w w' := by
  obtain ⟨a, cap, rfl, hcap, hmax, HROW⟩ := row_value hr
  rw [marksK_length] at hcap ⊢
  clear hr
  go_enter Try.func55, Try.ntmps55
  go_wp2_with fail
  go_loopw [1, 5] (fun q i wr => ∃ k : Nat, k ≤ n ∧ i = .int .i64 k ∧ q = .int .i64 ((K : Int) + (k : Int)) ∧ Below w.heap.size w wr) (fun _ i _ => n - (intOf i).toNat)
  case atStart => exact ⟨0, Nat.zero_le _, rfl, by simp, Below.refl _ _⟩
  case round =>
    obtain ⟨k, hk, rfl, rfl, hb⟩ := hrel
    by_cases hlt : k < n
    · obtain ⟨b, o, ha, hbl, hc⟩ := HROW.out (by rw [marksK_length]; omega)
      rw [ha]
      have hcx := hc k (by rw [marksK_length]; exact hlt)
      rw [marksK_get K n k hlt] at hcx
      have HC : Hid (∀ W, Below w.heap.size w W → W.cell? ⟨b, o + k, none⟩ = some (.string ⟨(mark (K + k)).toArray⟩)) := fun W hW => by rw [hW.cell (p := ⟨b, o + k, none⟩) hbl]; exact hcx
      have hcr := HC.out wr hb
      clear hc hcx
      go_wp2_with fail
      go_region_with (go_at_call 38; refine (markText_any _ (K + k) _ (by exact (by omega : (K : Int) + (k : Int) = ((K + k : Nat) : Int))) (by omega) (by omega)).mono ?_; rintro e w1 ⟨rfl, hb1⟩; have hbw := (below_any hb hb1); have hcw := HC.out w1 hbw)
      all_goals
        go_wp2_with fail
        go_roundw
        case rel => exact ⟨k + 1, by omega, by go_num, by go_num, by first | assumption | exact Below.drew (by assumption)⟩
        case measure => simp [intOf]; omega
    · have HK : Hid (k = n) := (show k = n by omega)
      go_wp2_with fail
      go_ret
      exact ⟨ret_int (by rw [HK.out]), hb⟩

/-- How much texts, and sets, weigh. -/
def wtP (P : List (List UInt8)) : Nat := (P.map List.length).sum
theorem wtP_snoc (P : List (List UInt8)) (k : Nat) (h : k < P.length) : wtP (P.take (k + 1)) = wtP (P.take k) + P[k].length := by
  unfold wtP; rw [List.take_succ_eq_append_getElem h, List.map_append, List.sum_append]; simp only [List.map_cons, List.map_nil, List.sum_cons, List.sum_nil, Nat.add_zero]
theorem wtP_le (P : List (List UInt8)) (k : Nat) : wtP (P.take k) ≤ wtP P := by
  have h : wtP P = wtP (P.take k) + wtP (P.drop k) := by unfold wtP; rw [← List.sum_append, ← List.map_append, List.take_append_drop]
  omega
theorem wtP_one {P : List (List UInt8)} {x : List UInt8} (h : x ∈ P) : x.length ≤ wtP P := by
  obtain ⟨k, hk, rfl⟩ := List.getElem_of_mem h
  have h1 := wtP_snoc P k hk
  have h2 := wtP_le P (k + 1)
  omega
set_option maxRecDepth 20000 in
set_option maxHeartbeats 1000000 in
theorem szStrL_any (v : Value) (P : List (List UInt8)) (left : Int) (w : World) (hr : Row w v P) (hx : Hid (∀ p ∈ P, p.length ≤ maxLen)) (h0 : 0 ≤ left) (h1 : left ≤ 1048576) :
    Calls Try.prog 56 #[v, .int .i64 left] w fun e w' => (∃ q : Int, e = .returned (.int .i64 q) ∧ (q = -1 ∨ (0 ≤ q ∧ q = left - (P.length : Int) - (wtP P : Int)))) ∧ w' = w := by
  obtain ⟨a, cap, rfl, hcap, hmax, HROW⟩ := row_value hr
  clear hr
  by_cases hneg : left - (P.length : Int) < 0
  · go_enter Try.func56, Try.ntmps56
    go_wp2_with fail
    go_ret
    exact ⟨⟨-1, rfl, .inl rfl⟩, rfl⟩
  · have hpos : 0 ≤ left - (P.length : Int) := by omega
    clear hneg
    go_enter Try.func56, Try.ntmps56
    go_wp2_with fail
    go_loopw [1, 5] (fun q i wr => ∃ k : Nat, k ≤ P.length ∧ i = .int .i64 (k : Int) ∧ q = .int .i64 (left - (P.length : Int) - (wtP (P.take k) : Int)) ∧ 0 ≤ left - (P.length : Int) - (wtP (P.take k) : Int) ∧ wr = w) (fun _ i _ => P.length - (intOf i).toNat)
    case atStart => exact ⟨0, Nat.zero_le _, rfl, by simp [wtP], by simpa [wtP] using hpos, rfl⟩
    case round =>
      obtain ⟨k, hk, rfl, rfl, hq0, rfl⟩ := hrel
      by_cases hlt : k < P.length
      · obtain ⟨b, o, ha, hbl, hc⟩ := HROW.out (by omega)
        rw [ha]
        have hcx := hc k hlt
        have hxl := hx.out _ (List.getElem_mem hlt)
        have HST : Hid (wtP (P.take (k + 1)) = wtP (P.take k) + (P[k]'hlt).length) := wtP_snoc P k hlt
        obtain ⟨x, hxe⟩ : ∃ x, x = P[k]'hlt := ⟨_, rfl⟩
        rw [← hxe] at hcx hxl HST
        obtain ⟨q, hq⟩ : ∃ q : Int, q = left - (P.length : Int) - (wtP (P.take k) : Int) := ⟨_, rfl⟩
        have HQ : Hid (q = left - (P.length : Int) - (wtP (P.take k) : Int)) := hq
        rw [← hq] at hq0 ⊢
        have hq1 : q ≤ 1048576 := by omega
        unfold S at hcx
        unfold maxLen at hxl
        clear hc hxe hq
        by_cases g : q - (x.length : Int) < 0
        · go_wp2_with fail
          go_ret
          exact ⟨⟨-1, rfl, .inl rfl⟩, rfl⟩
        · have HQ2 : Hid (q - (x.length : Int) = left - (P.length : Int) - (wtP (P.take (k + 1)) : Int)) := by have h1 := HQ.out; have h2 := HST.out; show q - _ = _; omega
          have g2 : 0 ≤ q - (x.length : Int) := by omega
          go_wp2_with fail
          go_roundw
          case rel => exact ⟨k + 1, by omega, by go_num, by rw [← HQ2.out], by rw [← HQ2.out]; exact g2, by first | rfl | trivial⟩
          case measure => simp [intOf]; omega
      · have hfull : wtP (P.take k) = wtP P := by rw [List.take_of_length_le (by omega)]
        rw [hfull] at hq0 ⊢
        clear hfull
        go_wp2_with fail
        go_ret
        exact ⟨⟨_, rfl, .inr ⟨hq0, rfl⟩⟩, rfl⟩

def partO (P : List (List UInt8)) (k : Nat) : List (List UInt8) := P.take k ++ List.replicate (P.length - k) []
theorem partO_length (P : List (List UInt8)) (k : Nat) (h : k ≤ P.length) : (partO P k).length = P.length := by simp [partO]; omega
theorem partO_next (P : List (List UInt8)) (k : Nat) (h : k < P.length) : partO P (k + 1) = (partO P k).set k P[k] := by
  unfold partO
  have hm : (P.take k).length = k := by simp; omega
  rw [List.take_succ_eq_append_getElem h, List.set_append_right _ _ (by omega), hm, Nat.sub_self]
  obtain ⟨m, hm2⟩ : ∃ m, P.length - k = m + 1 := ⟨P.length - k - 1, by omega⟩
  rw [hm2, show P.length - (k + 1) = m by omega, List.replicate_succ]
  simp only [List.set_cons_zero, List.append_assoc, List.singleton_append]
theorem partO_end (P : List (List UInt8)) : partO P P.length = P := by simp [partO]
theorem made_strs (n : Nat) : (madeCells #[.string ByteArray.empty] n).toList = (List.replicate n ([] : List UInt8)).map S := by
  unfold madeCells
  rw [List.map_replicate]
  apply List.ext_getElem?
  intro i
  simp only [Array.toList_map, Array.toList_range, List.getElem?_map]
  by_cases hi : i < n
  · rw [List.getElem?_range hi, List.getElem?_replicate, if_pos hi]
    simp only [Option.map_some, show (#[Value.string ByteArray.empty] : Array Value).size = 1 from rfl, Nat.mod_one]
    rfl
  · rw [List.getElem?_replicate, if_neg hi, List.getElem?_eq_none (by simp; omega)]; rfl

set_option maxRecDepth 20000 in
set_option maxHeartbeats 1000000 in
theorem toStrO_any (v : Value) (P : List (List UInt8)) (w : World) (hr : Row w v P) (hl : P.length ≤ 1048576) :
    Calls Try.prog 57 #[v] w fun e w' => e = .returned (.slice (some ⟨w.heap.size, 0, none⟩) P.length P.length) ∧ w'.ownsRow w.heap.size 9 1 (.slice (some ⟨w.heap.size, 0, none⟩) P.length P.length) P.length (P.map S) ∧ Below w.heap.size w w' := by
  obtain ⟨i0, hi, hz0, hz1, hz2⟩ := info_parts info_string
  obtain ⟨a, cap, rfl, hcap, hmax, HROW⟩ := row_value hr
  clear hr
  go_enter Try.func57, Try.ntmps57
  go_wp2_with (at_make; refine wpList_make_full _ rfl _ _ 67 rfl w.heap.size 9 i0 (.string ByteArray.empty) 1 Try.underlying67 hi hz0 hz1 _ _ _ _ P.length rfl rfl rfl rfl ?b2 ?b3 ?b4 ?_)
  case b2 => rw [hz2]; omega
  case b3 => unfold maxLen; omega
  case b4 => exact Nat.le_refl _
  intro w1 hown hgrow
  have hb1 : Below w.heap.size w w1 := (Below.refl _ _).grown hgrow (Nat.le_refl _) (fun k h => by cases h)
  have HS1 : Hid (w1.ownsRow w.heap.size 9 1 (.slice (some ⟨w.heap.size, 0, none⟩) P.length P.length) P.length ((partO P 0).map S)) := by
    have e : ((partO P 0).map S) = (madeCells #[.string ByteArray.empty] P.length).toList := by rw [made_strs]; simp [partO]
    have h : w1.ownsRow w.heap.size 9 1 (.slice (some ⟨w.heap.size, 0, none⟩) P.length P.length) P.length ((partO P 0).map S) := by rw [e]; exact hown
    exact h
  clear hown hgrow
  go_wp2_with fail
  go_loopw [4] (fun i wr => ∃ k : Nat, k ≤ P.length ∧ i = .int .i64 k ∧ Hid (wr.ownsRow w.heap.size 9 1 (.slice (some ⟨w.heap.size, 0, none⟩) P.length P.length) P.length ((partO P k).map S)) ∧ Below w.heap.size w wr) (fun i _ => P.length - (intOf i).toNat)
  case atStart => exact ⟨0, Nat.zero_le _, rfl, HS1, hb1⟩
  case round =>
    obtain ⟨k, hk, rfl, HR, hb⟩ := hrel
    by_cases hlt : k < P.length
    · obtain ⟨b, o, ha, hbl, hc⟩ := HROW.out (by omega)
      rw [ha]
      have hcx := hc k hlt
      rw [← hb.cell (p := ⟨b, o + k, none⟩) hbl] at hcx
      have hcg : wr.cell? ⟨w.heap.size, k, none⟩ = some (S ((partO P k)[k]'(by rw [partO_length P k hk]; exact hlt))) := by
        rw [HR.out.cellAt k (by omega), List.getElem?_map, List.getElem?_eq_getElem (by rw [partO_length P k hk]; exact hlt)]; rfl
      have hfg : wr.frozen? ⟨w.heap.size, k, none⟩ = false := HR.out.frozenAt k
      have hset := (HR.out.stored k (.string ⟨(P[k]'hlt).toArray⟩)).1
      have hnx : ((partO P k).map S).set k (.string ⟨(P[k]'hlt).toArray⟩) = (partO P (k + 1)).map S := by rw [partO_next P k hlt, List.map_set]; rfl
      rw [hnx] at hset
      obtain ⟨y, hy⟩ : ∃ y, y = P[k]'hlt := ⟨_, rfl⟩
      rw [← hy] at hcx hset
      have HSS : Hid ((wr.setCell ⟨w.heap.size, k, none⟩ (.string ⟨y.toArray⟩)).ownsRow w.heap.size 9 1 (.slice (some ⟨w.heap.size, 0, none⟩) P.length P.length) P.length ((partO P (k + 1)).map S)) := hset
      unfold S at hcx hcg
      clear hc hset hy hnx
      go_wp2_with fail
      go_roundw
      case rel => exact ⟨k + 1, by omega, by go_num, HSS, hb.setCell (p := ⟨w.heap.size, k, none⟩) (Nat.le_refl _) _⟩
      case measure => simp [intOf]; omega
    · have hkk : k = P.length := by omega
      have HF : Hid (wr.ownsRow w.heap.size 9 1 (.slice (some ⟨w.heap.size, 0, none⟩) P.length P.length) P.length (P.map S)) := by have := HR.out; rw [hkk, partO_end] at this; exact this
      clear hkk
      go_wp2_with fail
      go_ret
      exact ⟨rfl, HF.out, hb⟩
end Go.Proofs.Ytacmipcjhbkdcaa

namespace Go.Proofs.Ytacmipcjhbkdcaa
open Go.RowKit

/-- A link: its log, sent, sure. -/
abbrev LkT : Type := List (List UInt8) × Int × Int
def LkV (v : Value) (x : LkT) : Value := .agg #[v, .int .i64 x.2.1, .int .i64 x.2.2]
/-- The three cells of a link at a place of a block. -/
def LkAt (w : World) (b o : Nat) (x : LkT) (v : Value) : Prop :=
  (w.cell? ⟨b, o, none⟩ = some v ∧ w.cell? ⟨b, o + 1, none⟩ = some (.int .i64 x.2.1) ∧ w.cell? ⟨b, o + 2, none⟩ = some (.int .i64 x.2.2)) ∧ Row w v x.1
/-- A list of links as it lies in memory. -/
def LkRow (w : World) (v : Value) (L : List LkT) : Prop :=
  ∃ a cap, v = .slice a L.length cap ∧ L.length ≤ cap ∧ cap ≤ maxLen ∧ (L = [] ∨ ∃ b o, a = some ⟨b, o, none⟩ ∧ b < w.heap.size ∧ ∀ j, (hj : j < L.length) → ∃ va, LkAt w b (o + j * 3) L[j] va)
theorem LkAt.kept {w w' : World} {b o : Nat} {x : LkT} {v : Value} (h : LkAt w b o x v) (hb : Below w.heap.size w w') : LkAt w' b o x v := by
  have hlt := World.block_lt_of_cell? _ _ h.1.1
  unfold LkAt
  rw [hb.cell (p := ⟨b, o, none⟩) hlt, hb.cell (p := ⟨b, o + 1, none⟩) hlt, hb.cell (p := ⟨b, o + 2, none⟩) hlt]
  exact ⟨h.1, h.2.kept hb⟩
theorem LkRow.kept {w w' : World} {v : Value} {L : List LkT} (h : LkRow w v L) (hb : Below w.heap.size w w') : LkRow w' v L := by
  obtain ⟨a, cap, rfl, h1, h2, h3⟩ := h
  refine ⟨a, cap, rfl, h1, h2, ?_⟩
  rcases h3 with h3 | ⟨b, o, rfl, hb1, hc⟩
  · exact .inl h3
  · exact .inr ⟨b, o, rfl, Nat.lt_of_lt_of_le hb1 hb.size, fun j hj => by obtain ⟨va, h⟩ := hc j hj; exact ⟨va, h.kept hb⟩⟩
theorem lkrow_nil (w : World) : LkRow w (.slice none 0 0) [] := ⟨none, 0, rfl, Nat.le_refl _, by unfold maxLen; omega, .inl rfl⟩
theorem lkrow_value {w : World} {v : Value} {L : List LkT} (h : LkRow w v L) : ∃ a cap, v = .slice a L.length cap ∧ L.length ≤ cap ∧ cap ≤ 9223372036854775807 ∧ Hid (0 < L.length → ∃ b o, a = some ⟨b, o, none⟩ ∧ b < w.heap.size ∧ ∀ j, (hj : j < L.length) → ∃ va, LkAt w b (o + j * 3) L[j] va) := by
  obtain ⟨a, cap, rfl, h1, h2, h3⟩ := h
  unfold maxLen at h2
  refine ⟨a, cap, rfl, h1, by omega, fun hp => ?_⟩
  rcases h3 with rfl | h3
  · simp at hp
  · exact h3
def wtK1 (x : LkT) : Nat := x.1.length + wtP x.1
def wtK (L : List LkT) : Nat := (L.map wtK1).sum
theorem wtK_snoc (L : List LkT) (k : Nat) (h : k < L.length) : wtK (L.take (k + 1)) = wtK (L.take k) + wtK1 L[k] := by
  unfold wtK; rw [List.take_succ_eq_append_getElem h, List.map_append, List.sum_append]; simp only [List.map_cons, List.map_nil, List.sum_cons, List.sum_nil, Nat.add_zero]
theorem wtK_le (L : List LkT) (k : Nat) : wtK (L.take k) ≤ wtK L := by
  have h : wtK L = wtK (L.take k) + wtK (L.drop k) := by unfold wtK; rw [← List.sum_append, ← List.map_append, List.take_append_drop]
  omega
theorem wtK_one {L : List LkT} {x : LkT} (h : x ∈ L) : wtK1 x ≤ wtK L := by
  obtain ⟨k, hk, rfl⟩ := List.getElem_of_mem h
  have h1 := wtK_snoc L k hk
  have h2 := wtK_le L (k + 1)
  omega
def KFit (x : LkT) : Prop := ∀ p ∈ x.1, p.length ≤ maxLen
def KBig (x : LkT) : Prop := x.1.length ≤ 1048576 ∧ ∀ p ∈ x.1, p.length ≤ 1048576
theorem kbig_of {x : LkT} (h : wtK1 x ≤ 1048576) : KBig x := by
  unfold wtK1 at h
  refine ⟨by omega, fun p hp => ?_⟩
  have := wtP_one hp; omega
theorem sz_chain {L : List LkT} {q : Int} (h0 : 0 ≤ q) (h : q = 1048576 - (L.length : Int) - (wtK L : Int)) : L.length + wtK L ≤ 1048576 ∧ ∀ x ∈ L, KBig x := by
  refine ⟨by omega, fun x hx => kbig_of ?_⟩
  have := wtK_one hx; omega
theorem box1k {w W : World} {a : Array Value} {t : TypeId} (hb : Below (w.alloc (.cells a t)).heap.size (w.alloc (.cells a t)) W) : (∀ j, W.cell? ⟨w.heap.size, j, none⟩ = a[j]?) ∧ Below w.heap.size w W := by
  have hz : w.heap.size < (w.alloc (.cells a t)).heap.size := by simp
  refine ⟨fun j => ?_, ((Below.refl w.heap.size w).alloc (Nat.le_refl _) _).trans (hb.mono (Nat.le_of_lt hz))⟩
  rw [hb.cell (p := ⟨w.heap.size, j, none⟩) hz]
  unfold World.cell?
  rw [blk_new]; rfl

set_option maxRecDepth 20000 in
set_option maxHeartbeats 1000000 in
theorem szLink_any (x : LkT) (v : Value) (left : Int) (w : World) (hf : KFit x) (hr : Row w v x.1) (h0 : 0 ≤ left) (h1 : left ≤ 1048576) :
    Calls Try.prog 39 #[LkV v x, .int .i64 left] w fun e w' => (∃ q : Int, e = .returned (.int .i64 q) ∧ (q = -1 ∨ (0 ≤ q ∧ q = left - (wtK1 x : Int)))) ∧ Below w.heap.size w w' := by
  unfold LkV
  have HW : Hid (∀ q : Int, q = left - (x.1.length : Int) - (wtP x.1 : Int) → q = left - (wtK1 x : Int)) := fun q h => by unfold wtK1; omega
  have HX : Hid (∀ p ∈ x.1, p.length ≤ maxLen) := hf
  clear hf
  obtain ⟨P, se, su⟩ := x
  simp only at hr HX HW ⊢
  obtain ⟨aa, ca, rfl, _, hca, _⟩ := id hr
  have HRA : Hid (∀ W, Below w.heap.size w W → Row W (.slice aa P.length ca) P) := fun W hW => hr.kept hW
  clear hr
  go_enter Try.func39, Try.ntmps39
  go_wp2_with fail
  refine (szStrL_any _ P left _ (HRA.out _ ((Below.refl w.heap.size w).alloc (Nat.le_refl _) _)) HX h0 h1).mono ?_
  rintro e w1 ⟨⟨q1, rfl, hq1⟩, rfl⟩
  rcases hq1 with rfl | ⟨hp1, hq1⟩
  · go_wp2_with fail
    go_ret
    exact ⟨⟨-1, rfl, .inl rfl⟩, (Below.refl w.heap.size w).alloc (Nat.le_refl _) _⟩
  · have HQ1 : Hid (q1 = left - (wtK1 (P, se, su) : Int)) := HW.out q1 hq1
    clear hq1
    go_wp2_with fail
    go_ret
    exact ⟨⟨q1, rfl, .inr ⟨hp1, HQ1.out⟩⟩, (Below.refl w.heap.size w).alloc (Nat.le_refl _) _⟩

set_option maxRecDepth 20000 in
set_option maxHeartbeats 1000000 in
theorem szLinkS_any (v : Value) (L : List LkT) (left : Int) (w : World) (hr : LkRow w v L) (hx : Hid (∀ x ∈ L, KFit x)) (h0 : 0 ≤ left) (h1 : left ≤ 1048576) :
    Calls Try.prog 23 #[v, .int .i64 left] w fun e w' => (∃ q : Int, e = .returned (.int .i64 q) ∧ (q = -1 ∨ (0 ≤ q ∧ q = left - (L.length : Int) - (wtK L : Int)))) ∧ Below w.heap.size w w' := by
  obtain ⟨a, cap, rfl, hcap, hmax, HROW⟩ := lkrow_value hr
  have HSZ : Hid (∀ (x : LkT) (va : Value) (q : Int) W, KFit x → Row W va x.1 → 0 ≤ q → q ≤ 1048576 → Calls Try.prog 39 #[.agg #[va, .int .i64 x.2.1, .int .i64 x.2.2], .int .i64 q] W fun e w' => (∃ q2 : Int, e = .returned (.int .i64 q2) ∧ (q2 = -1 ∨ (0 ≤ q2 ∧ q2 = q - (wtK1 x : Int)))) ∧ Below W.heap.size W w') := fun x va q W g1 g3 g4 g5 => szLink_any x va q W g1 g3 g4 g5
  clear hr
  by_cases hneg : left - (L.length : Int) < 0
  · go_enter Try.func23, Try.ntmps23
    go_wp2_with fail
    go_ret
    exact ⟨⟨-1, rfl, .inl rfl⟩, Below.refl _ _⟩
  · have hpos : 0 ≤ left - (L.length : Int) := by omega
    clear hneg
    go_enter Try.func23, Try.ntmps23
    go_wp2_with fail
    go_loopw [1, 5] (fun q i wr => ∃ k : Nat, k ≤ L.length ∧ i = .int .i64 (k : Int) ∧ q = .int .i64 (left - (L.length : Int) - (wtK (L.take k) : Int)) ∧ 0 ≤ left - (L.length : Int) - (wtK (L.take k) : Int) ∧ Below w.heap.size w wr) (fun _ i _ => L.length - (intOf i).toNat)
    case atStart => exact ⟨0, Nat.zero_le _, rfl, by simp [wtK], by simpa [wtK] using hpos, Below.refl _ _⟩
    case round =>
      obtain ⟨k, hk, rfl, rfl, hq0, hb⟩ := hrel
      have hwl := wtK_le L k
      by_cases hlt : k < L.length
      · obtain ⟨b, o, ha, hbl, hcel⟩ := HROW.out (by omega)
        rw [ha]
        obtain ⟨va, hcx0⟩ := hcel k hlt
        have hcx := hcx0.kept hb
        unfold LkAt at hcx
        obtain ⟨⟨c0, c1, c2⟩, hz⟩ := hcx
        have hxl := hx.out _ (List.getElem_mem hlt)
        have HST : Hid (wtK (L.take (k + 1)) = wtK (L.take k) + wtK1 (L[k]'hlt)) := wtK_snoc L k hlt
        obtain ⟨x, hxe⟩ : ∃ x, x = L[k]'hlt := ⟨_, rfl⟩
        rw [← hxe] at c1 c2 hz hxl HST
        obtain ⟨q, hq⟩ : ∃ q : Int, q = left - (L.length : Int) - (wtK (L.take k) : Int) := ⟨_, rfl⟩
        have HQ : Hid (q = left - (L.length : Int) - (wtK (L.take k) : Int)) := hq
        rw [← hq] at hq0 ⊢
        have hq1 : q ≤ 1048576 := by omega
        have HC2 : Hid (Calls Try.prog 39 #[.agg #[va, .int .i64 x.2.1, .int .i64 x.2.2], .int .i64 q] wr fun e w' => (∃ q2 : Int, e = .returned (.int .i64 q2) ∧ (q2 = -1 ∨ (0 ≤ q2 ∧ q2 = q - (wtK1 x : Int)))) ∧ Below wr.heap.size wr w') := HSZ.out x va q wr hxl hz hq0 hq1
        obtain ⟨aa, ca, rfl, _, hca, _⟩ := hz
        clear hcel hxe hq hcx0 hxl
        go_wp2_with fail
        refine HC2.out.mono ?_
        rintro e w2 ⟨⟨q2, rfl, hq2⟩, hb2⟩
        rcases hq2 with rfl | ⟨hq20, hq2e⟩
        · go_wp2_with fail
          go_ret
          exact ⟨⟨-1, rfl, .inl rfl⟩, hb.trans (hb2.mono hb.size)⟩
        · have HQ2 : Hid (q2 = left - (L.length : Int) - (wtK (L.take (k + 1)) : Int)) := by have h1 := HQ.out; have h2 := HST.out; show q2 = _; omega
          clear hq2e HC2
          go_wp2_with fail
          go_roundw
          case rel => exact ⟨k + 1, by omega, by go_num, by rw [HQ2.out], by rw [← HQ2.out]; exact hq20, hb.trans (hb2.mono hb.size)⟩
          case measure => simp [intOf]; omega
      · have hfull : wtK (L.take k) = wtK L := by rw [List.take_of_length_le (by omega)]
        rw [hfull] at hq0 ⊢
        clear hfull hwl
        go_wp2_with fail
        go_ret
        exact ⟨⟨_, rfl, .inr ⟨hq0, rfl⟩⟩, hb⟩
/-- A chain. -/
def ChV (v : Value) : Value := .agg #[v]

set_option maxRecDepth 20000 in
set_option maxHeartbeats 1000000 in
theorem szChain_any (v : Value) (L : List LkT) (left : Int) (w : World) (hr : LkRow w v L) (hx : Hid (∀ x ∈ L, KFit x)) (h0 : 0 ≤ left) (h1 : left ≤ 1048576) :
    Calls Try.prog 5 #[ChV v, .int .i64 left] w fun e w' => (∃ q : Int, e = .returned (.int .i64 q) ∧ (q = -1 ∨ (0 ≤ q ∧ q = left - (L.length : Int) - (wtK L : Int)))) ∧ Below w.heap.size w w' := by
  unfold ChV
  obtain ⟨aa, ca, rfl, _, hca, _⟩ := id hr
  have HRA : Hid (∀ W, Below w.heap.size w W → LkRow W (.slice aa L.length ca) L) := fun W hW => hr.kept hW
  clear hr
  go_enter Try.func5, Try.ntmps5
  go_wp2_with fail
  refine (szLinkS_any _ L left _ (HRA.out _ ((Below.refl w.heap.size w).alloc (Nat.le_refl _) _)) hx h0 h1).mono ?_
  rintro e w1 ⟨⟨q1, rfl, hq1⟩, hb1⟩
  obtain ⟨_, hbw⟩ := box1k hb1
  rcases hq1 with rfl | ⟨hp1, hq1⟩
  · go_wp2_with fail
    go_ret
    exact ⟨⟨-1, rfl, .inl rfl⟩, hbw⟩
  · have HQ1 : Hid (q1 = left - (L.length : Int) - (wtK L : Int)) := hq1
    clear hq1
    go_wp2_with fail
    go_ret
    exact ⟨⟨q1, rfl, .inr ⟨hp1, HQ1.out⟩⟩, hbw⟩

set_option maxRecDepth 20000 in
set_option maxHeartbeats 1000000 in
theorem eqLink_same (x : LkT) (v v2 : Value) (w : World) (ha : Row w v x.1) (ha2 : Row w v2 x.1) :
    Calls Try.prog 53 #[.agg #[v, .int .i64 x.2.1, .int .i64 x.2.2], .agg #[v2, .int .i64 x.2.1, .int .i64 x.2.2]] w fun e w' => e = .returned (.bool true) ∧ Below w.heap.size w w' := by
  obtain ⟨P, se, su⟩ := x
  simp only at ha ha2 ⊢
  obtain ⟨aa, ca, rfl, _, hca, _⟩ := id ha
  obtain ⟨aa2, ca2, rfl, _, hca2, _⟩ := id ha2
  have HRA : Hid (∀ W, Below w.heap.size w W → Calls Try.prog 69 #[.slice aa P.length ca, .slice aa2 P.length ca2] W fun e w' => e = .returned (.bool true) ∧ Below W.heap.size W w') := fun W hW => by
    have h := eqStringS_any _ _ P P W (ha.kept hW) (ha2.kept hW)
    rw [show (P == P) = true by simp] at h
    exact h
  clear ha ha2
  go_enter Try.func53, Try.ntmps53
  go_wp2_with fail
  refine (HRA.out _ (((Below.refl w.heap.size w).alloc (Nat.le_refl _) _).alloc (by simp) _)).mono ?_
  rintro e w1 ⟨rfl, hb1⟩
  obtain ⟨_, _, hbw⟩ := box2 hb1
  go_wp2_with fail
  go_ret
  exact ⟨rfl, hbw⟩

set_option maxRecDepth 20000 in
set_option maxHeartbeats 1000000 in
theorem eqLinkS_same (v1 v2 : Value) (L : List LkT) (w : World) (h1 : LkRow w v1 L) (h2 : LkRow w v2 L) :
    Calls Try.prog 32 #[v1, v2] w fun e w' => e = .returned (.bool true) ∧ Below w.heap.size w w' := by
  obtain ⟨a1, cap1, rfl, hc1, hm1, HR1⟩ := lkrow_value h1
  obtain ⟨a2, cap2, rfl, hc2, hm2, HR2⟩ := lkrow_value h2
  have HEQ : Hid (∀ (x : LkT) (va vb : Value) W, Row W va x.1 → Row W vb x.1 → Calls Try.prog 53 #[.agg #[va, .int .i64 x.2.1, .int .i64 x.2.2], .agg #[vb, .int .i64 x.2.1, .int .i64 x.2.2]] W fun e w' => e = .returned (.bool true) ∧ Below W.heap.size W w') := fun x va vb W g1 g2 => eqLink_same x va vb W g1 g2
  have el : ((L.length : Int) != (L.length : Int)) = false := by simp
  clear h1 h2
  go_enter Try.func32, Try.ntmps32
  go_wp2_with fail
  go_loopw [5] (fun i wr => ∃ k : Nat, k ≤ L.length ∧ i = .int .i64 (k : Int) ∧ Below w.heap.size w wr) (fun i _ => L.length - (intOf i).toNat)
  case atStart => exact ⟨0, Nat.zero_le _, rfl, Below.refl _ _⟩
  case round =>
    obtain ⟨k, hk, rfl, hb⟩ := hrel
    by_cases hlt : k < L.length
    · obtain ⟨b1, o1, ha1, hbl1, hcel1⟩ := HR1.out (by omega)
      obtain ⟨b2, o2, ha2, hbl2, hcel2⟩ := HR2.out (by omega)
      rw [ha1, ha2]
      obtain ⟨va, q1⟩ := hcel1 k hlt
      obtain ⟨vb, q2⟩ := hcel2 k hlt
      obtain ⟨x, hx⟩ : ∃ x, x = L[k]'hlt := ⟨_, rfl⟩
      rw [← hx] at q1 q2
      have HC : Hid (∀ W, Below w.heap.size w W → LkAt W b1 (o1 + k * 3) x va ∧ LkAt W b2 (o2 + k * 3) x vb) := fun W hW => ⟨q1.kept hW, q2.kept hW⟩
      have HEQ2 : Hid (∀ W, Below w.heap.size w W → Calls Try.prog 53 #[.agg #[va, .int .i64 x.2.1, .int .i64 x.2.2], .agg #[vb, .int .i64 x.2.1, .int .i64 x.2.2]] W fun e w' => e = .returned (.bool true) ∧ Below W.heap.size W w') := fun W hW => HEQ.out x va vb W (q1.kept hW).2 (q2.kept hW).2
      have hki : (k : Int) < (L.length : Int) := by omega
      have hbd := hb.drew
      unfold LkAt at HC
      clear hcel1 hcel2 hx q1 q2 HEQ
      go_wp2_with fail
      refine wp_region_quiet (C := fun W => Below w.heap.size w W) (by kernel_rfl) (by kernel_rfl) hbd ?_
      refine wpQuiet_step (fun K hK => ?_)
      rw [if_pos (by rfl)]
      refine ⟨.slice (some ⟨b1, o1, none⟩) L.length cap1, fun W hW => quiet_ok ?_, hK _ ?_⟩
      · have f := HC.out W hW
        obtain ⟨⟨⟨c0, c1, c2⟩, _⟩, ⟨⟨e0, e1, e2⟩, _⟩⟩ := f
        go_simp
        all_goals (try omega)
      clear hK K
      simp only [Act.put, List.setIfInBounds_toArray, List.set_cons_succ, List.set_cons_zero]
      refine wpQuiet_step (fun K hK => ?_)
      rw [if_pos (by rfl)]
      refine ⟨.int .i64 (k : Int), fun W hW => quiet_ok ?_, hK _ ?_⟩
      · have f := HC.out W hW
        obtain ⟨⟨⟨c0, c1, c2⟩, _⟩, ⟨⟨e0, e1, e2⟩, _⟩⟩ := f
        go_simp
        all_goals (try omega)
      clear hK K
      simp only [Act.put, List.setIfInBounds_toArray, List.set_cons_succ, List.set_cons_zero]
      refine wpQuiet_step (fun K hK => ?_)
      rw [if_pos (by rfl)]
      refine ⟨.pointer (some ⟨b1, o1 + k * 3, none⟩), fun W hW => quiet_ok ?_, hK _ ?_⟩
      · have f := HC.out W hW
        obtain ⟨⟨⟨c0, c1, c2⟩, _⟩, ⟨⟨e0, e1, e2⟩, _⟩⟩ := f
        go_simp
        all_goals (try omega)
      clear hK K
      simp only [Act.put, List.setIfInBounds_toArray, List.set_cons_succ, List.set_cons_zero]
      refine wpQuiet_step (fun K hK => ?_)
      rw [if_pos (by rfl)]
      refine ⟨.agg #[va, .int .i64 x.2.1, .int .i64 x.2.2], fun W hW => quiet_ok ?_, hK _ ?_⟩
      · have f := HC.out W hW
        obtain ⟨⟨⟨c0, c1, c2⟩, _⟩, ⟨⟨e0, e1, e2⟩, _⟩⟩ := f
        go_simp
        all_goals (try omega)
      clear hK K
      simp only [Act.put, List.setIfInBounds_toArray, List.set_cons_succ, List.set_cons_zero]
      refine wpQuiet_step (fun K hK => ?_)
      rw [if_pos (by rfl)]
      refine ⟨.slice (some ⟨b2, o2, none⟩) L.length cap2, fun W hW => quiet_ok ?_, hK _ ?_⟩
      · have f := HC.out W hW
        obtain ⟨⟨⟨c0, c1, c2⟩, _⟩, ⟨⟨e0, e1, e2⟩, _⟩⟩ := f
        go_simp
        all_goals (try omega)
      clear hK K
      simp only [Act.put, List.setIfInBounds_toArray, List.set_cons_succ, List.set_cons_zero]
      refine wpQuiet_step (fun K hK => ?_)
      rw [if_pos (by rfl)]
      refine ⟨.int .i64 (k : Int), fun W hW => quiet_ok ?_, hK _ ?_⟩
      · have f := HC.out W hW
        obtain ⟨⟨⟨c0, c1, c2⟩, _⟩, ⟨⟨e0, e1, e2⟩, _⟩⟩ := f
        go_simp
        all_goals (try omega)
      clear hK K
      simp only [Act.put, List.setIfInBounds_toArray, List.set_cons_succ, List.set_cons_zero]
      refine wpQuiet_step (fun K hK => ?_)
      rw [if_pos (by rfl)]
      refine ⟨.pointer (some ⟨b2, o2 + k * 3, none⟩), fun W hW => quiet_ok ?_, hK _ ?_⟩
      · have f := HC.out W hW
        obtain ⟨⟨⟨c0, c1, c2⟩, _⟩, ⟨⟨e0, e1, e2⟩, _⟩⟩ := f
        go_simp
        all_goals (try omega)
      clear hK K
      simp only [Act.put, List.setIfInBounds_toArray, List.set_cons_succ, List.set_cons_zero]
      refine wpQuiet_step (fun K hK => ?_)
      rw [if_pos (by rfl)]
      refine ⟨.agg #[vb, .int .i64 x.2.1, .int .i64 x.2.2], fun W hW => quiet_ok ?_, hK _ ?_⟩
      · have f := HC.out W hW
        obtain ⟨⟨⟨c0, c1, c2⟩, _⟩, ⟨⟨e0, e1, e2⟩, _⟩⟩ := f
        go_simp
        all_goals (try omega)
      clear hK K
      simp only [Act.put, List.setIfInBounds_toArray, List.set_cons_succ, List.set_cons_zero]
      refine wpQuiet_step (fun K hK => ?_)
      rw [if_pos (by rfl)]
      refine ⟨.bool true, fun W hW => quiet_call (f := 53) (args := #[.agg #[va, .int .i64 x.2.1, .int .i64 x.2.2], .agg #[vb, .int .i64 x.2.1, .int .i64 x.2.2]]) ?_ ?_, hK _ ?_⟩
      · go_simp
      · exact (HEQ2.out W hW).mono fun e w'' h => ⟨h.1, hW.trans (h.2.mono hW.size)⟩
      clear hK K
      simp only [Act.put, List.setIfInBounds_toArray, List.set_cons_succ, List.set_cons_zero]
      refine wpQuiet_step (fun K hK => ?_)
      rw [if_pos (by rfl)]
      refine ⟨.bool false, fun W hW => quiet_ok ?_, hK _ ?_⟩
      · have f := HC.out W hW
        obtain ⟨⟨⟨c0, c1, c2⟩, _⟩, ⟨⟨e0, e1, e2⟩, _⟩⟩ := f
        go_simp
        all_goals (try omega)
      clear hK K
      simp only [Act.put, List.setIfInBounds_toArray, List.set_cons_succ, List.set_cons_zero]
      refine wpQuiet_nil ?_
      intro W hW
      go_wp2_with fail
      go_roundw
      case rel => exact ⟨k + 1, by omega, by go_num, hW⟩
      case measure => simp [intOf]; omega
    · go_wp2_with fail
      go_ret
      exact ⟨rfl, hb⟩

set_option maxRecDepth 20000 in
set_option maxHeartbeats 1000000 in
theorem eqChain_same (v v2 : Value) (L : List LkT) (w : World) (ha : LkRow w v L) (ha2 : LkRow w v2 L) :
    Calls Try.prog 11 #[ChV v, ChV v2] w fun e w' => e = .returned (.bool true) ∧ Below w.heap.size w w' := by
  unfold ChV
  obtain ⟨aa, ca, rfl, _, hca, _⟩ := id ha
  obtain ⟨aa2, ca2, rfl, _, hca2, _⟩ := id ha2
  have HRA : Hid (∀ W, Below w.heap.size w W → LkRow W (.slice aa L.length ca) L ∧ LkRow W (.slice aa2 L.length ca2) L) := fun W hW => ⟨ha.kept hW, ha2.kept hW⟩
  clear ha ha2
  go_enter Try.func11, Try.ntmps11
  go_wp2_with fail
  have hA := HRA.out _ (((Below.refl w.heap.size w).alloc (Nat.le_refl _) (.cells #[.slice aa L.length ca] 31)).alloc (by simp) (.cells #[.slice aa2 L.length ca2] 31))
  refine (eqLinkS_same _ _ L _ hA.1 hA.2).mono ?_
  rintro e w1 ⟨rfl, hb1⟩
  obtain ⟨_, _, hbw⟩ := box2 hb1
  clear hA
  go_wp2_with fail
  go_ret
  exact ⟨rfl, hbw⟩
end Go.Proofs.Ytacmipcjhbkdcaa

namespace Go.Proofs.Ytacmipcjhbkdcaa
open Go.RowKit

/-- An append to a row of the call's own: what comes is the same block, or one that was not there. -/
theorem run_append_own_at {P : Program} (w : World) (base : Nat) (t ty e : TypeId) (i : TypeInfo) (z : Value) (size bytes : Nat) (ht : P.underlying t = some (.slice e)) (hi : P.info? e = some i) (hz : i.zero = some z)
    (hsize : i.size = size) (hby : i.bytes = bytes) (hzs : z.cells.size = size) (hsz : 0 < size)
    (v : Value) (n : Nat) (xs : List Value) (hown : w.ownsRow base e size v n xs)
    (a : Addr) (m c : Nat) (news : List Value) (hl : news.length = m * size) (hnews : ∀ j u, news[j]? = some u → w.cell? (a.add j) = some u) (h1 : ∀ u ∈ news, u.oneCell' = true)
    (h63 : n + m ≤ maxLen) (hbytes : (n + m) * bytes ≤ 140737488355328) (hbase : base ≤ w.heap.size) :
    ∃ v' w', (Builtin.append_ #[t, t] ty #[v, .slice (some a) m c]).run P w = .ok v' w' ∧ w'.ownsRow base e size v' (n + m) (xs ++ news) ∧ w.grownBy w' v.ownBlock ∧ (∀ k, v'.ownBlock = some k → v.ownBlock = some k ∨ w.heap.size ≤ k) := by
  obtain ⟨v', w', hr, h2, h3, _⟩ := run_append_own (P := P) w base t ty e i z size bytes ht hi hz hsize hby hzs hsz v n xs hown a m c news hl hnews h1 h63 hbytes hbase
  refine ⟨v', w', hr, h2, h3, fun k hk => ?_⟩
  rcases hown.2 with ⟨rfl, rfl⟩ | ⟨g, cap, cur, rfl, hbg, hg, hnc, hcm, hcs, htake⟩
  · have hx : xs = [] := List.eq_nil_of_length_eq_zero (by simpa using hown.1)
    subst hx
    obtain ⟨v2, w2, hr2, h4, _, _⟩ := run_append_own (P := P) w w.heap.size t ty e i z size bytes ht hi hz hsize hby hzs hsz _ 0 [] (World.ownsRow_nil w w.heap.size e size) a m c news hl hnews h1 h63 hbytes (Nat.le_refl _)
    rw [hr] at hr2
    obtain ⟨rfl, rfl⟩ : v' = v2 ∧ w' = w2 := by injection hr2 with e1 e2; exact ⟨e1, e2⟩
    exact .inr (h4.lt k hk).1
  · have hm63 : n + m ≤ 9223372036854775807 := by unfold maxLen at h63; omega
    subst hsize
    by_cases hroom : n + m ≤ cap
    · have hfit : n * i.size + news.length ≤ cur.size := by rw [hl, hcs, ← Nat.add_mul]; exact Nat.mul_le_mul_right _ hroom
      have hr2 := run_append_room (P := P) w t ty e i ht hi g n cap cur hg a m c news hl hnews h1 hroom hfit
      rw [hr] at hr2
      injection hr2 with e1 e2
      rw [e1] at hk
      exact .inl hk
    · have holds : ∀ j u, xs[j]? = some u → w.cell? ((⟨g, 0, none⟩ : Addr).add j) = some u := hown.cells (g := g) rfl
      have hr2 := run_append_grow (P := P) w t ty e i z ht hi hz ⟨g, 0, none⟩ n cap xs hown.1 holds a m c news hl hnews (by omega) (by omega) (growslice_fits (by omega) (by rw [hby]; exact hbytes))
      rw [hr] at hr2
      injection hr2 with e1 e2
      rw [e1] at hk
      cases hk
      exact .inr (Nat.le_refl _)
theorem wpList_append_own_at {P : Program} (w : World) {ops : Array Oper} {rest : List Oper} {o : Oper} {a : Act} {Q : Exit → Act → World → Prop} (hgd : o.guard = none) (s x : Operand) (t : TypeId)
    (ho : o.op = .call { callee := .builtin .append, args := #[s, x], argTypes := #[t, t] })
    (base : Nat) (e : TypeId) (i : TypeInfo) (z : Value) (size bytes : Nat) (ht : P.underlying t = some (.slice e)) (hi : P.info? e = some i) (hz : i.zero = some z)
    (hsize : i.size = size) (hby : i.bytes = bytes) (hzs : z.cells.size = size) (hsz : 0 < size)
    (v : Value) (n : Nat) (xs : List Value) (hs : a.eval s = v) (hown : w.ownsRow base e size v n xs)
    (ad : Addr) (m c : Nat) (news : List Value) (hx : a.eval x = .slice (some ad) m c) (hl : news.length = m * size) (hnews : ∀ j u, news[j]? = some u → w.cell? (ad.add j) = some u) (h1 : ∀ u ∈ news, u.oneCell' = true)
    (h63 : n + m ≤ maxLen) (hbytes : (n + m) * bytes ≤ 140737488355328) (hbase : base ≤ w.heap.size)
    (h : ∀ v' w', w'.ownsRow base e size v' (n + m) (xs ++ news) → w.grownBy w' v.ownBlock → (∀ k, v'.ownBlock = some k → v.ownBlock = some k ∨ w.heap.size ≤ k) → wpList P ops Q rest (a.put o.dst v') w') : wpList P ops Q (o :: rest) a w := by
  refine wpList_plain hgd fun K hK => ?_
  obtain ⟨v', w', hr, h2, h3, h4⟩ := run_append_own_at (P := P) w base t o.type e i z size bytes ht hi hz hsize hby hzs hsz v n xs hown ad m c news hl hnews h1 h63 hbytes hbase
  unfold Oper.wp
  simp [execOp, ho, resolve, invoke, builtin, hs, hx, hr, Result.andThen]
  exact hK _ _ (h v' w' h2 h3 h4)

/-- The cells of links, one behind the other; the log of each lies where its slice says. -/
def lkc (x : LkT × Value) : List Value := [x.2, .int .i64 x.1.2.1, .int .i64 x.1.2.2]
def lkcs : List (LkT × Value) → List Value
  | [] => []
  | x :: r => lkc x ++ lkcs r
theorem lkcs_length : ∀ L : List (LkT × Value), (lkcs L).length = L.length * 3
  | [] => rfl
  | x :: r => by rw [lkcs, List.length_append, lkcs_length r, List.length_cons]; simp only [lkc, List.length_cons, List.length_nil]; omega
theorem lkcs_app : ∀ A B : List (LkT × Value), lkcs (A ++ B) = lkcs A ++ lkcs B
  | [], _ => rfl
  | x :: r, B => by rw [List.cons_append, lkcs, lkcs_app r B, lkcs, List.append_assoc]
theorem lkcs_one (x : LkT × Value) : lkcs [x] = lkc x := by simp [lkcs]
theorem lkcs_get : ∀ (L : List (LkT × Value)) (j : Nat) (hj : j < L.length) (r : Nat), r < 3 → (lkcs L)[j * 3 + r]? = (lkc L[j])[r]?
  | x :: l, 0, _, r, hr => by
    rw [lkcs, List.getElem?_append_left (by simp only [lkc, List.length_cons, List.length_nil]; omega), Nat.zero_mul, Nat.zero_add]; rfl
  | x :: l, j + 1, hj, r, hr => by
    have ih := lkcs_get l j (by simpa using hj) r hr
    rw [lkcs, List.getElem?_append_right (by simp only [lkc, List.length_cons, List.length_nil]; omega)]
    rw [show (j + 1) * 3 + r - (lkc x).length = j * 3 + r by simp only [lkc, List.length_cons, List.length_nil]; omega, ih]
    rfl
theorem lkcs_mid (A B : List (LkT × Value)) (x y : LkT × Value) (r : Nat) (u : Value) (hr : r < 3) (h : lkc y = (lkc x).set r u) : (lkcs (A ++ x :: B)).set (A.length * 3 + r) u = lkcs (A ++ y :: B) := by
  rw [lkcs_app, lkcs_app, lkcs, lkcs, List.set_append_right _ _ (by rw [lkcs_length]; omega), lkcs_length, show A.length * 3 + r - A.length * 3 = r by omega, List.set_append_left _ _ (by simp only [lkc, List.length_cons, List.length_nil]; omega), h]

def ApartK (x y : LkT × Value) : Prop := ∀ g, x.2.ownBlock = some g → y.2.ownBlock ≠ some g
theorem ApartK.symm {x y : LkT × Value} (h : ApartK x y) : ApartK y x := fun g h1 h2 => h g h2 h1
/-- Links in a row of the call's own, the log of each in a row of its own. -/
def LBld (W : World) (base : Nat) (v : Value) (D : List (LkT × Value)) : Prop :=
  W.ownsRow base 71 3 v D.length (lkcs D) ∧ (∀ x ∈ D, W.ownsRow base 9 1 x.2 x.1.1.length (x.1.1.map S)) ∧ D.Pairwise ApartK
theorem LBld.nil (W : World) (base : Nat) : LBld W base (.slice none 0 0) [] :=
  ⟨World.ownsRow_nil _ _ _ _, fun x hx => by simp at hx, List.Pairwise.nil⟩
theorem LBld.kept {W W' : World} {base : Nat} {v : Value} {D : List (LkT × Value)} (h : LBld W base v D) (hb : Below W.heap.size W W') : LBld W' base v D :=
  ⟨own_below h.1 hb, fun x hx => own_below (h.2.1 x hx) hb, h.2.2⟩
theorem LBld.mono {W : World} {base b : Nat} {v : Value} {D : List (LkT × Value)} (h : LBld W base v D) (hb : b ≤ base) : LBld W b v D :=
  ⟨own_mono h.1 hb, fun x hx => own_mono (h.2.1 x hx) hb, h.2.2⟩
theorem LBld.shape {W : World} {base : Nat} {v : Value} {D : List (LkT × Value)} (h : LBld W base v D) : ∃ a cap, v = .slice a D.length cap ∧ D.length ≤ cap ∧ cap ≤ 9223372036854775807 := by
  rcases h.1.2 with ⟨rfl, hn⟩ | ⟨g, cap, cur, rfl, _, _, h1, h2, _⟩
  · exact ⟨none, 0, by rw [hn], by rw [hn]; exact Nat.le_refl _, by omega⟩
  · exact ⟨_, cap, rfl, h1, by unfold maxLen at h2; omega⟩
theorem LBld.form {W : World} {base : Nat} {v : Value} {D : List (LkT × Value)} (h : LBld W base v D) (hn : 0 < D.length) : ∃ g cap, v = .slice (some ⟨g, 0, none⟩) D.length cap ∧ D.length ≤ cap ∧ cap ≤ 9223372036854775807 ∧ base ≤ g := by
  rcases h.1.2 with ⟨rfl, h0⟩ | ⟨g, cap, cur, rfl, hb, _, h1, h2, _⟩
  · omega
  · exact ⟨g, cap, rfl, h1, by unfold maxLen at h2; omega, hb⟩
theorem lk_at {D : List (LkT × Value)} (k : Nat) (hk : k < D.length) : ∃ A B, D = A ++ D[k] :: B ∧ A.length = k := by
  refine ⟨D.take k, D.drop (k + 1), ?_, by simp; omega⟩
  rw [← List.drop_eq_getElem_cons hk, List.take_append_drop]
/-- The cells of a link among others. -/
theorem LBld.at {W : World} {base g cap n : Nat} {A B : List (LkT × Value)} {x : LkT × Value} (h : LBld W base (.slice (some ⟨g, 0, Option.none⟩) n cap) (A ++ x :: B)) :
    (W.cell? ⟨g, A.length * 3, Option.none⟩ = some x.2 ∧ W.cell? ⟨g, A.length * 3 + 1, Option.none⟩ = some (.int .i64 x.1.2.1) ∧ W.cell? ⟨g, A.length * 3 + 2, Option.none⟩ = some (.int .i64 x.1.2.2)) ∧ ∀ j, W.frozen? ⟨g, j, Option.none⟩ = false := by
  have hl : A.length < (A ++ x :: B).length := by simp
  obtain ⟨a0, c0, hv, _⟩ := h.shape
  obtain rfl : n = (A ++ x :: B).length := by cases hv; rfl
  have c : ∀ r, r < 3 → W.cell? ⟨g, A.length * 3 + r, Option.none⟩ = (lkc x)[r]? := fun r hr => by
    rw [h.1.cellAt (A.length * 3 + r) (by omega), lkcs_get _ A.length hl r hr]
    simp
  exact ⟨⟨c 0 (by omega), c 1 (by omega), c 2 (by omega)⟩, fun j => h.1.frozenAt j⟩
theorem LBld.text {W : World} {base : Nat} {v : Value} {D : List (LkT × Value)} {x : LkT × Value} (h : LBld W base v D) (hx : x ∈ D) : Row W x.2 x.1.1 := row_own (h.2.1 x hx)
theorem place_lk {W : World} {base : Nat} {v : Value} {D : List (LkT × Value)} (h : LBld W base v D) (k : Nat) (hk : k < D.length) : ∃ g cap, v = .slice (some ⟨g, 0, none⟩) D.length cap ∧ base ≤ g ∧ (W.cell? ⟨g, k * 3, none⟩ = some D[k].2 ∧ W.cell? ⟨g, k * 3 + 1, none⟩ = some (.int .i64 D[k].1.2.1) ∧ W.cell? ⟨g, k * 3 + 2, none⟩ = some (.int .i64 D[k].1.2.2)) ∧ (∀ j, W.frozen? ⟨g, j, none⟩ = false) ∧ Row W D[k].2 D[k].1.1 := by
  obtain ⟨A, B, e, hA⟩ := lk_at k hk
  obtain ⟨g, cap, hv, _, _, hg⟩ := h.form (by omega)
  have h2 := h
  rw [e, hv] at h2
  have h3 := h2.at
  rw [hA] at h3
  exact ⟨g, cap, hv, hg, h3.1, h3.2, h.text (List.getElem_mem hk)⟩
theorem LBld.row {W : World} {base : Nat} {v : Value} {D : List (LkT × Value)} (h : LBld W base v D) : LkRow W v (D.map (fun x => x.1)) := by
  rcases h.1.2 with ⟨rfl, hn⟩ | ⟨g, cap, cur, rfl, hb, hg, h1, h2, _⟩
  · obtain rfl : D = [] := List.length_eq_zero_iff.1 hn
    exact lkrow_nil _
  · refine ⟨some ⟨g, 0, none⟩, cap, by rw [List.length_map], by rw [List.length_map]; exact h1, h2, .inr ⟨g, 0, rfl, (h.1.lt g rfl).2, fun j hj => ?_⟩⟩
    have hj' : j < D.length := by rw [List.length_map] at hj; exact hj
    obtain ⟨g2, c2, e, _, hc, _, hr⟩ := place_lk h j hj'
    cases e
    refine ⟨D[j].2, ?_⟩
    rw [List.getElem_map, Nat.zero_add]
    exact ⟨hc, hr⟩
/-- A number of a link written. -/
theorem LBld.put {W : World} {base g cap n : Nat} {A B : List (LkT × Value)} {x y : LkT × Value} (h : LBld W base (.slice (some ⟨g, 0, Option.none⟩) n cap) (A ++ x :: B)) (r : Nat) (u : Value) (hr : r < 3) (hs : lkc y = (lkc x).set r u) (hd : y.1.1 = x.1.1) (hv : y.2 = x.2) :
    LBld (W.setCell ⟨g, A.length * 3 + r, Option.none⟩ u) base (.slice (some ⟨g, 0, Option.none⟩) n cap) (A ++ y :: B) ∧ W.grownBy (W.setCell ⟨g, A.length * 3 + r, Option.none⟩ u) (some g) := by
  obtain ⟨a0, c0, hv0, _⟩ := h.shape
  have hn : n = (A ++ x :: B).length := by cases hv0; rfl
  have hl : (A ++ y :: B).length = (A ++ x :: B).length := by simp
  have h1 := h.1
  rw [← hn] at h1
  obtain ⟨h2, h3⟩ := h1.stored (A.length * 3 + r) u
  refine ⟨⟨?_, fun z hz => ?_, ?_⟩, h3⟩
  · rw [hl, ← hn, ← lkcs_mid A B x y r u hr hs]; exact h2
  · have hmem : ∃ q ∈ A ++ x :: B, q.2 = z.2 ∧ q.1.1 = z.1.1 := by
      rcases List.mem_append.1 hz with hz | hz
      · exact ⟨z, by simp [hz], rfl, rfl⟩
      · rcases List.mem_cons.1 hz with rfl | hz
        · exact ⟨x, by simp, hv.symm, hd.symm⟩
        · exact ⟨z, by simp [hz], rfl, rfl⟩
    obtain ⟨q, hq, e1, e2⟩ := hmem
    have k1 := h.2.1 q hq
    rw [e1, e2] at k1
    exact k1.kept h3 (own_types k1 h1 (by decide))
  · have hp := h.2.2
    rw [List.pairwise_append, List.pairwise_cons] at hp ⊢
    refine ⟨hp.1, ⟨fun z hz a ha => hp.2.1.1 z hz a (by rw [← hv]; exact ha), hp.2.1.2⟩, fun z hz q hq a ha => ?_⟩
    rcases List.mem_cons.1 hq with rfl | hq
    · rw [hv]; exact hp.2.2 z hz x (by simp) a ha
    · exact hp.2.2 z hz q (by simp [hq]) a ha
/-- A log written over, or put elsewhere, and the cell that tells where it lies. -/
theorem LBld.relog {W W' : World} {base g cap n : Nat} {A B : List (LkT × Value)} {x : LkT × Value} {d : List (List UInt8)} {dv : Value} (h : LBld W base (.slice (some ⟨g, 0, Option.none⟩) n cap) (A ++ x :: B))
    (ho : W'.ownsRow base 9 1 dv d.length (d.map S)) (hg : W.grownBy W' x.2.ownBlock) (hf : ∀ k, dv.ownBlock = some k → x.2.ownBlock = some k ∨ W.heap.size ≤ k) :
    LBld (W'.setCell ⟨g, A.length * 3, Option.none⟩ dv) base (.slice (some ⟨g, 0, Option.none⟩) n cap) (A ++ ((d, x.1.2), dv) :: B) ∧ W'.grownBy (W'.setCell ⟨g, A.length * 3, Option.none⟩ dv) (some g) ∧ (∀ z, z ∈ A ∨ z ∈ B → W'.ownsRow base 9 1 z.2 z.1.1.length (z.1.1.map S)) ∧ (W'.cell? ⟨g, A.length * 3, Option.none⟩ = some x.2 ∧ W'.cell? ⟨g, A.length * 3 + 1, Option.none⟩ = some (.int .i64 x.1.2.1) ∧ W'.cell? ⟨g, A.length * 3 + 2, Option.none⟩ = some (.int .i64 x.1.2.2)) ∧ ∀ j, W'.frozen? ⟨g, j, Option.none⟩ = false := by
  obtain ⟨a0, c0, hv0, _⟩ := h.shape
  have hn : n = (A ++ x :: B).length := by cases hv0; rfl
  have hl : (A ++ ((d, x.1.2), dv) :: B).length = (A ++ x :: B).length := by simp
  have hx1 := h.2.1 x (by simp)
  have h0 : W'.ownsRow base 71 3 (.slice (some ⟨g, 0, Option.none⟩) n cap) (A ++ x :: B).length (lkcs (A ++ x :: B)) := h.1.kept hg (own_types h.1 hx1 (by decide))
  have h1 := h0
  rw [← hn] at h1
  obtain ⟨h2, h3⟩ := h1.stored (A.length * 3 + 0) dv
  have hp := h.2.2
  rw [List.pairwise_append, List.pairwise_cons] at hp
  have hne : ∀ z, z ∈ A ∨ z ∈ B → ApartK z x := fun z hz => hz.elim (fun h => hp.2.2 z h x (by simp)) (fun h => (hp.2.1.1 z h).symm)
  have hzk : ∀ z, z ∈ A ∨ z ∈ B → W'.ownsRow base 9 1 z.2 z.1.1.length (z.1.1.map S) := fun z hz => (h.2.1 z (by rcases hz with hz | hz <;> simp [hz])).kept hg (by
    cases e : z.2.ownBlock with
    | none => exact .inl rfl
    | some k => exact .inr (fun e2 => hne z hz k e e2.symm))
  have hset : ∀ {y : Value} {m : Nat} {xs : List Value} {b : Nat}, W'.ownsRow b 9 1 y m xs → (W'.setCell ⟨g, A.length * 3, Option.none⟩ dv).ownsRow b 9 1 y m xs := fun {y m xs b} hy => hy.kept h3 (own_types hy h1 (by decide))
  have hfr : ∀ z, z ∈ A ∨ z ∈ B → ∀ k, dv.ownBlock = some k → z.2.ownBlock ≠ some k := fun z hz k hk e => by
    rcases hf k hk with h4 | h4
    · exact hne z hz k e h4
    · have := ((h.2.1 z (by rcases hz with hz | hz <;> simp [hz])).lt k e).2
      omega
  have hlA : A.length < (A ++ x :: B).length := by simp
  have hc : ∀ r, r < 3 → W'.cell? ⟨g, A.length * 3 + r, Option.none⟩ = (lkc x)[r]? := fun r hr => by
    rw [h1.cellAt (A.length * 3 + r) (by rw [hn]; omega), lkcs_get _ A.length hlA r hr]
    simp
  refine ⟨⟨?_, fun z hz => ?_, ?_⟩, h3, hzk, ⟨hc 0 (by omega), hc 1 (by omega), hc 2 (by omega)⟩, fun j => h1.frozenAt j⟩
  · rw [hl, ← hn, ← lkcs_mid A B x ((d, x.1.2), dv) 0 dv (by omega) rfl]; exact h2
  · rcases List.mem_append.1 hz with hz | hz
    · exact hset (hzk z (.inl hz))
    · rcases List.mem_cons.1 hz with rfl | hz
      · exact hset ho
      · exact hset (hzk z (.inr hz))
  · rw [List.pairwise_append, List.pairwise_cons]
    refine ⟨hp.1, ⟨fun z hz a ha => hfr z (.inr hz) a ha, hp.2.1.2⟩, fun z hz q hq a ha => ?_⟩
    rcases List.mem_cons.1 hq with rfl | hq
    · exact fun e => hfr z (.inl hz) a e ha
    · exact hp.2.2 z hz q (by simp [hq]) a ha
/-- A log written over where it lies. -/
theorem LBld.over {W W' : World} {base : Nat} {v : Value} {A B : List (LkT × Value)} {x : LkT × Value} {d : List (List UInt8)} (h : LBld W base v (A ++ x :: B))
    (ho : W'.ownsRow base 9 1 x.2 d.length (d.map S)) (hg : W.grownBy W' x.2.ownBlock) : LBld W' base v (A ++ ((d, x.1.2), x.2) :: B) := by
  have hx1 := h.2.1 x (by simp)
  have hp := h.2.2
  rw [List.pairwise_append, List.pairwise_cons] at hp
  have hne : ∀ z, z ∈ A ∨ z ∈ B → ApartK z x := fun z hz => hz.elim (fun h => hp.2.2 z h x (by simp)) (fun h => (hp.2.1.1 z h).symm)
  have hzk : ∀ z, z ∈ A ∨ z ∈ B → W'.ownsRow base 9 1 z.2 z.1.1.length (z.1.1.map S) := fun z hz => (h.2.1 z (by rcases hz with hz | hz <;> simp [hz])).kept hg (by
    cases e : z.2.ownBlock with
    | none => exact .inl rfl
    | some k => exact .inr (fun e2 => hne z hz k e e2.symm))
  have hl : (A ++ ((d, x.1.2), x.2) :: B).length = (A ++ x :: B).length := by simp
  have hc : lkcs (A ++ ((d, x.1.2), x.2) :: B) = lkcs (A ++ x :: B) := by rw [lkcs_app, lkcs_app, lkcs, lkcs]; rfl
  refine ⟨?_, fun z hz => ?_, ?_⟩
  · rw [hl, hc]; exact h.1.kept hg (own_types h.1 hx1 (by decide))
  · rcases List.mem_append.1 hz with hz | hz
    · exact hzk z (.inl hz)
    · rcases List.mem_cons.1 hz with rfl | hz
      · exact ho
      · exact hzk z (.inr hz)
  · rw [List.pairwise_append, List.pairwise_cons]
    refine ⟨hp.1, ⟨fun z hz a ha => hp.2.1.1 z hz a ha, hp.2.1.2⟩, fun z hz q hq a ha => ?_⟩
    rcases List.mem_cons.1 hq with rfl | hq
    · exact hp.2.2 z hz x (by simp) a ha
    · exact hp.2.2 z hz q (by simp [hq]) a ha
theorem LBld.lt {W : World} {base : Nat} {v : Value} {D : List (LkT × Value)} (h : LBld W base v D) : (∀ k, v.ownBlock = some k → base ≤ k ∧ k < W.heap.size) ∧ ∀ x ∈ D, ∀ k, x.2.ownBlock = some k → base ≤ k ∧ k < W.heap.size :=
  ⟨fun k hk => h.1.lt k hk, fun x hx k hk => (h.2.1 x hx).lt k hk⟩
/-- What is elsewhere stays. -/
theorem LBld.low {W W' : World} {base B : Nat} {v : Value} {D : List (LkT × Value)} (h : LBld W base v D) (hb : Below B W W') (hB : ∀ k, v.ownBlock = some k → k < B) (hD : ∀ x ∈ D, ∀ k, x.2.ownBlock = some k → k < B) : LBld W' base v D := by
  have key : ∀ {u : Value} {e s n : Nat} {xs : List Value}, W.ownsRow base e s u n xs → (∀ k, u.ownBlock = some k → k < B) → W'.ownsRow base e s u n xs := fun {u e s n xs} ho hu => by
    refine ⟨ho.1, ?_⟩
    rcases ho.2 with h0 | ⟨g, cap, cur, rfl, h1, h2, h3⟩
    · exact .inl h0
    · exact .inr ⟨g, cap, cur, rfl, h1, (hb.block g (hu g rfl)).trans h2, h3⟩
  exact ⟨key h.1 hB, fun x hx => key (h.2.1 x hx) (hD x hx), h.2.2⟩
theorem LBld.kpt {W W' : World} {S : Nat → Prop} {base : Nat} {v : Value} {D : List (LkT × Value)} (h : LBld W base v D) (hk : Kpt W W' S) (hv : ∀ k, v.ownBlock = some k → ¬ S k) (hD : ∀ x ∈ D, ∀ k, x.2.ownBlock = some k → ¬ S k) : LBld W' base v D := by
  have key : ∀ {u : Value} {e s n : Nat} {xs : List Value}, W.ownsRow base e s u n xs → (∀ k, u.ownBlock = some k → ¬ S k) → W'.ownsRow base e s u n xs := fun {u e s n xs} ho hu => by
    have hlt := ho.lt
    refine ⟨ho.1, ?_⟩
    rcases ho.2 with h0 | ⟨g, cap, cur, rfl, h1, h2, h3⟩
    · exact .inl h0
    · exact .inr ⟨g, cap, cur, rfl, h1, (hk.block g (hlt g rfl).2 (hu g rfl)).trans h2, h3⟩
  exact ⟨key h.1 hv, fun x hx => key (h.2.1 x hx) (hD x hx), h.2.2⟩
end Go.Proofs.Ytacmipcjhbkdcaa

namespace Go.Proofs.Ytacmipcjhbkdcaa
open Go.RowKit

theorem info_link : (Try.prog.info? 71).map (fun i => (i.zero, i.size, i.bytes)) = some (some (.agg #[.slice none 0 0, .int .i64 0, .int .i64 0]), 3, 40) := by kernel_rfl
/-- Three cells stored. -/
def pt3 (w : World) (g : Nat) (v0 v1 v2 : Value) : World := ((w.setCell ⟨g, 0, none⟩ v0).setCell ⟨g, 1, none⟩ v1).setCell ⟨g, 2, none⟩ v2
theorem pt3_heap {w : World} {g : Nat} {t : TypeId} {v0 v1 v2 u0 u1 u2 : Value} (h : w.heap[g]? = some (.cells #[u0, u1, u2] t)) : (pt3 w g v0 v1 v2).heap[g]? = some (.cells #[v0, v1, v2] t) := by
  have e0 := heap_setCell_same _ _ 0 _ _ v0 h
  have e1 := heap_setCell_same _ _ 1 _ _ v1 e0
  have e2 := heap_setCell_same _ _ 2 _ _ v2 e1
  unfold pt3
  simpa using e2
theorem pt3_grown (w : World) (g : Nat) (v0 v1 v2 : Value) : w.grownBy (pt3 w g v0 v1 v2) (some g) := grown_set (grown_set (grown_set (grown_refl _ _)))
theorem pt3_other (w : World) (g g' : Nat) (v0 v1 v2 : Value) (h : g' ≠ g) : (pt3 w g v0 v1 v2).heap[g']? = w.heap[g']? := by
  unfold pt3
  rw [heap_setCell_other _ _ _ _ h, heap_setCell_other _ _ _ _ h, heap_setCell_other _ _ _ _ h]

set_option maxRecDepth 20000 in
set_option maxHeartbeats 2000000 in
theorem toLink_any (x : LkT) (v : Value) (w : World) (hr : Row w v x.1) (hl : x.1.length ≤ 1048576) :
    Calls Try.prog 43 #[.agg #[v, .int .i64 x.2.1, .int .i64 x.2.2]] w fun e w' => (∃ t, e = .returned (.agg #[.slice (some ⟨t, 0, none⟩) x.1.length x.1.length, .int .i64 x.2.1, .int .i64 x.2.2]) ∧ w.heap.size ≤ t ∧ w'.ownsRow w.heap.size 9 1 (.slice (some ⟨t, 0, none⟩) x.1.length x.1.length) x.1.length (x.1.map S)) ∧ Below w.heap.size w w' := by
  obtain ⟨P, se, su⟩ := x
  simp only at hr hl ⊢
  obtain ⟨aa, ca, rfl, _, hca, _⟩ := id hr
  have HRA : Hid (∀ W, Below w.heap.size w W → Row W (.slice aa P.length ca) P) := fun W hW => hr.kept hW
  clear hr
  go_enter Try.func43, Try.ntmps43
  go_wp2_with fail
  refine (toStrO_any _ P _ (HRA.out _ ((((Below.refl w.heap.size w).alloc (Nat.le_refl _) _).alloc (by simp) _).alloc (by simp; omega) _)) hl).mono ?_
  rintro e w1 ⟨rfl, hq1, hb1⟩
  obtain ⟨c, d, fz, r, rz, hsz, hblk, hbw⟩ := box3 hb1
  have c0 := c 0
  have c1 := c 1
  have c2 := c 2
  have d0 := d 0
  have d1 := d 1
  have d2 := d 2
  have fz0 := fz 0
  have fz1 := fz 1
  have fz2 := fz 2
  have r0 := r 0
  have r1 := r 1
  have r2 := r 2
  have s0 := rz 0
  have s1 := rz 1
  have s2 := rz 2
  simp at c0 c1 c2 d0 d1 d2 r0 r1 r2
  have HQ : Hid (w1.ownsRow w.heap.size 9 1 (.slice (some ⟨w.heap.size + 1 + 1 + 1, 0, none⟩) P.length P.length) P.length (P.map S)) := by
    have h : w1.ownsRow w.heap.size 9 1 (.slice (some ⟨w.heap.size + 1 + 1 + 1, 0, none⟩) P.length P.length) P.length (P.map S) := by
      refine own_low (by simpa using hq1) (fun k hk => ?_)
      simp [Value.ownBlock] at hk
      omega
    exact h
  have HK : Hid (w1.heap[w.heap.size + 1]? = some (.cells #[.slice none 0 0, .int .i64 0, .int .i64 0] 71)) := hblk
  clear c d fz r rz hq1 hblk
  go_wp2_with fail
  (try simp only [Exit.inBlock, Exit.then])
  refine bodyPost_ret (results_cell_row rfl _ _ (w.heap.size + 1) 71 #[.slice (some ⟨w.heap.size + 1 + 1 + 1, 0, none⟩) P.length P.length, .int .i64 se, .int .i64 su] (0, 0) _ rfl ?_ Try.underlying71 rfl (by kernel_rfl)) rfl ⟨⟨w.heap.size + 1 + 1 + 1, rfl, by omega, ?_⟩, ?_⟩
  · exact pt3_heap (w := pt3 w1 (w.heap.size + 1 + 1) _ _ _) (by rw [pt3_other _ _ _ _ _ _ (by omega)]; exact HK.out)
  · have h1 := HQ.out.kept (pt3_grown w1 (w.heap.size + 1 + 1) (.slice (some ⟨w.heap.size + 1 + 1 + 1, 0, none⟩) P.length P.length) (.int .i64 se) (.int .i64 su)) (.inr (by simp [Value.ownBlock]))
    exact h1.kept (pt3_grown _ (w.heap.size + 1) _ _ _) (.inr (by simp [Value.ownBlock]; omega))
  · have hb2 := hbw.grown (pt3_grown w1 (w.heap.size + 1 + 1) (.slice (some ⟨w.heap.size + 1 + 1 + 1, 0, none⟩) P.length P.length) (.int .i64 se) (.int .i64 su)) hbw.size (fun k hk => by cases hk; omega)
    exact hb2.grown (pt3_grown _ (w.heap.size + 1) _ _ _) hb2.size (fun k hk => by cases hk; omega)

/-- Links that are not there yet. -/
def noLks : Nat → List Value
  | 0 => []
  | n + 1 => [.slice none 0 0, .int .i64 0, .int .i64 0] ++ noLks n
theorem noLks_length : ∀ n, (noLks n).length = n * 3
  | 0 => rfl
  | n + 1 => by rw [noLks, List.length_append, noLks_length n]; simp only [List.length_cons, List.length_nil]; omega
theorem noLks_get : ∀ n i, i < n * 3 → (noLks n)[i]? = [Value.slice none 0 0, .int .i64 0, .int .i64 0][i % 3]?
  | 0, i, h => by omega
  | n + 1, i, h => by
    rw [noLks]
    by_cases hi : i < 3
    · rw [List.getElem?_append_left (by simpa using hi), show i % 3 = i by omega]
    · rw [List.getElem?_append_right (by simp; omega)]
      simp only [List.length_cons, List.length_nil]
      rw [noLks_get n (i - 3) (by omega), show (i - 3) % 3 = i % 3 by omega]
theorem made_noLks (n : Nat) : (madeCells #[.slice none 0 0, .int .i64 0, .int .i64 0] (n * 3)).toList = noLks n := by
  apply List.ext_getElem?
  intro i
  unfold madeCells
  simp only [Array.toList_map, Array.toList_range, List.getElem?_map]
  by_cases hi : i < n * 3
  · rw [List.getElem?_range hi, noLks_get n i hi]
    simp only [Option.map_some, show (#[Value.slice none 0 0, .int .i64 0, .int .i64 0] : Array Value).size = 3 from rfl]
    have h4 : i % 3 < 3 := Nat.mod_lt _ (by omega)
    generalize i % 3 = r at h4
    match r, h4 with
    | 0, _ => rfl
    | 1, _ => rfl
    | 2, _ => rfl
  · rw [List.getElem?_eq_none (by simp; omega), List.getElem?_eq_none (by rw [noLks_length]; omega)]; rfl
theorem lkcs_none : ∀ n, lkcs (List.replicate n ((([], 0, 0) : LkT), Value.slice none 0 0)) = noLks n
  | 0 => rfl
  | n + 1 => by rw [List.replicate_succ, lkcs, noLks, lkcs_none n]; rfl
/-- Links made: none has anything. -/
theorem made_links {w1 : World} {g n : Nat} (h : w1.ownsRow g 71 3 (.slice (some ⟨g, 0, none⟩) n n) n (madeCells #[.slice none 0 0, .int .i64 0, .int .i64 0] (n * 3)).toList) : LBld w1 g (.slice (some ⟨g, 0, none⟩) n n) (List.replicate n (([], 0, 0), .slice none 0 0)) := by
  refine ⟨?_, fun x hx => ?_, ?_⟩
  · rw [lkcs_none, ← made_noLks, List.length_replicate]; exact h
  · obtain rfl := List.eq_of_mem_replicate hx
    exact World.ownsRow_nil _ _ _ _
  · exact List.pairwise_replicate.2 (.inr (fun g hg => by cases hg))
/-- A link written whole, its log one that was not among the others. -/
theorem LBld.store {W : World} {base g cap n : Nat} {A B : List (LkT × Value)} {x y : LkT × Value} (h : LBld W base (.slice (some ⟨g, 0, Option.none⟩) n cap) (A ++ x :: B)) (hy : W.ownsRow base 9 1 y.2 y.1.1.length (y.1.1.map S)) (hf : ∀ z, z ∈ A ∨ z ∈ B → ApartK z y) :
    LBld (((W.setCell ⟨g, A.length * 3, Option.none⟩ y.2).setCell ⟨g, A.length * 3 + 1, Option.none⟩ (.int .i64 y.1.2.1)).setCell ⟨g, A.length * 3 + 2, Option.none⟩ (.int .i64 y.1.2.2)) base (.slice (some ⟨g, 0, Option.none⟩) n cap) (A ++ y :: B) := by
  obtain ⟨a0, c0, hv0, _⟩ := h.shape
  have hn : n = (A ++ x :: B).length := by cases hv0; rfl
  have hl : (A ++ y :: B).length = (A ++ x :: B).length := by simp
  have h1 := h.1
  rw [← hn] at h1
  have a1 := h1.stored (A.length * 3 + 0) y.2
  have a2 := a1.1.stored (A.length * 3 + 1) (.int .i64 y.1.2.1)
  have a3 := a2.1.stored (A.length * 3 + 2) (.int .i64 y.1.2.2)
  have hg : W.grownBy (((W.setCell ⟨g, A.length * 3, Option.none⟩ y.2).setCell ⟨g, A.length * 3 + 1, Option.none⟩ (.int .i64 y.1.2.1)).setCell ⟨g, A.length * 3 + 2, Option.none⟩ (.int .i64 y.1.2.2)) (some g) := grown_set (grown_set (grown_set (grown_refl _ _)))
  have hp := h.2.2
  rw [List.pairwise_append, List.pairwise_cons] at hp
  refine ⟨?_, fun z hz => ?_, ?_⟩
  · have e1 := lkcs_mid A B x ((x.1.1, x.1.2), y.2) 0 y.2 (by omega) rfl
    have e2 := lkcs_mid A B ((x.1.1, x.1.2), y.2) ((x.1.1, y.1.2.1, x.1.2.2), y.2) 1 (.int .i64 y.1.2.1) (by omega) rfl
    have e3 := lkcs_mid A B ((x.1.1, y.1.2.1, x.1.2.2), y.2) y 2 (.int .i64 y.1.2.2) (by omega) rfl
    rw [hl, ← hn, ← e3, ← e2, ← e1]; exact a3.1
  · rcases List.mem_append.1 hz with hz | hz
    · have k := h.2.1 z (by simp [hz]); exact k.kept hg (own_types k h1 (by decide))
    · rcases List.mem_cons.1 hz with rfl | hz
      · exact hy.kept hg (own_types hy h1 (by decide))
      · have k := h.2.1 z (by simp [hz]); exact k.kept hg (own_types k h1 (by decide))
  · rw [List.pairwise_append, List.pairwise_cons]
    refine ⟨hp.1, ⟨fun z hz => (hf z (.inr hz)).symm, hp.2.1.2⟩, fun z hz q hq => ?_⟩
    rcases List.mem_cons.1 hq with rfl | hq
    · exact hf z (.inl hz)
    · exact hp.2.2 z hz q (by simp [hq])

set_option maxRecDepth 20000 in
set_option maxHeartbeats 2000000 in
theorem toLinkS_any (v : Value) (L : List LkT) (w : World) (hr : LkRow w v L) (hl : L.length ≤ 1048576) (hx : Hid (∀ x ∈ L, KBig x)) :
    Calls Try.prog 27 #[v] w fun e w' => ∃ D, D.map (fun x : LkT × Value => x.1) = L ∧ e = .returned (.slice (some ⟨w.heap.size, 0, none⟩) L.length L.length) ∧ LBld w' w.heap.size (.slice (some ⟨w.heap.size, 0, none⟩) L.length L.length) D ∧ Below w.heap.size w w' := by
  obtain ⟨i0, hi, hz0, hz1, hz2⟩ := info_parts info_link
  obtain ⟨a, cap, rfl, hcap, hmax, HROW⟩ := lkrow_value hr
  have HTO : Hid (∀ (x : LkT) (va : Value) W, Row W va x.1 → x.1.length ≤ 1048576 → Calls Try.prog 43 #[.agg #[va, .int .i64 x.2.1, .int .i64 x.2.2]] W fun e w' => (∃ t, e = .returned (.agg #[.slice (some ⟨t, 0, none⟩) x.1.length x.1.length, .int .i64 x.2.1, .int .i64 x.2.2]) ∧ W.heap.size ≤ t ∧ w'.ownsRow W.heap.size 9 1 (.slice (some ⟨t, 0, none⟩) x.1.length x.1.length) x.1.length (x.1.map S)) ∧ Below W.heap.size W w') := fun x va W h1 h2 => toLink_any x va W h1 h2
  clear hr
  go_enter Try.func27, Try.ntmps27
  go_wp2_with (at_make; refine wpList_make_full _ rfl _ _ 29 rfl w.heap.size 71 i0 (.agg #[.slice none 0 0, .int .i64 0, .int .i64 0]) 3 Try.underlying29 hi hz0 hz1 _ _ _ _ L.length rfl rfl rfl rfl ?b2 ?b3 ?b4 ?_)
  case b2 => rw [hz2]; omega
  case b3 => unfold maxLen; omega
  case b4 => exact Nat.le_refl _
  intro w1 hown hgrow
  have hb1 : Below w.heap.size w w1 := (Below.refl _ _).grown hgrow (Nat.le_refl _) (fun k h => by cases h)
  have HS1 : Hid (LBld w1 w.heap.size (.slice (some ⟨w.heap.size, 0, none⟩) L.length L.length) (List.replicate L.length (([], 0, 0), .slice none 0 0))) := made_links hown
  clear hown hgrow
  go_wp2_with fail
  go_loopw [4] (fun i wr => ∃ (k : Nat) (D : List (LkT × Value)), (k ≤ L.length ∧ D.length = k) ∧ i = .int .i64 (k : Int) ∧ Hid (D.map (fun x => x.1) = L.take k) ∧ Hid (LBld wr w.heap.size (.slice (some ⟨w.heap.size, 0, none⟩) L.length L.length) (D ++ List.replicate (L.length - k) (([], 0, 0), .slice none 0 0))) ∧ Below w.heap.size w wr) (fun i _ => L.length - (intOf i).toNat)
  case atStart => exact ⟨0, [], ⟨Nat.zero_le _, rfl⟩, rfl, rfl, HS1, hb1⟩
  case round =>
    obtain ⟨k, D, ⟨hk, hDk⟩, rfl, HM, HR, hb⟩ := hrel
    have HDK : Hid (D.length = k) := hDk
    clear HS1 hb1 hDk
    by_cases hlt : k < L.length
    · obtain ⟨b, o, ha, hbl, hcel⟩ := HROW.out (by omega)
      rw [ha]
      obtain ⟨va, hcx0⟩ := hcel k hlt
      have hcx := hcx0.kept hb
      have hxl := (hx.out _ (List.getElem_mem hlt)).1
      have HMN : Hid (∀ y : LkT × Value, y.1 = L[k]'hlt → (D ++ [y]).map (fun x => x.1) = L.take (k + 1)) := fun y hy => by rw [List.map_append, HM.out, List.take_succ_eq_append_getElem hlt]; simp [hy]
      obtain ⟨x, hxe⟩ : ∃ x, x = L[k]'hlt := ⟨_, rfl⟩
      rw [← hxe] at hcx hxl HMN
      have hz : Row wr va x.1 := hcx.2
      unfold LkAt at hcx
      obtain ⟨⟨c0, c1, c2⟩, _⟩ := hcx
      have HC2 : Hid (Calls Try.prog 43 #[.agg #[va, .int .i64 x.2.1, .int .i64 x.2.2]] wr fun e w' => (∃ t, e = .returned (.agg #[.slice (some ⟨t, 0, none⟩) x.1.length x.1.length, .int .i64 x.2.1, .int .i64 x.2.2]) ∧ wr.heap.size ≤ t ∧ w'.ownsRow wr.heap.size 9 1 (.slice (some ⟨t, 0, none⟩) x.1.length x.1.length) x.1.length (x.1.map S)) ∧ Below wr.heap.size wr w') := HTO.out x va wr hz hxl
      obtain ⟨aa, ca, rfl, _, _, _⟩ := hz
      clear hcel hxe hcx0 HTO
      go_wp2_with fail
      refine HC2.out.mono ?_
      rintro e w2 ⟨⟨t, rfl, ht, ho⟩, hb2⟩
      obtain ⟨m, hm⟩ : ∃ m, L.length - k = m + 1 := ⟨L.length - k - 1, by omega⟩
      have hT2 := HR.out.kept hb2
      have hDl := HDK.out
      rw [hm, List.replicate_succ] at hT2
      have hob : w2.ownsRow w.heap.size 9 1 (.slice (some ⟨t, 0, none⟩) x.1.length x.1.length) x.1.length (x.1.map S) := own_low ho (fun q hq => by simp [Value.ownBlock] at hq; have := hb.size; omega)
      have hpt := hT2.store (y := (x, .slice (some ⟨t, 0, none⟩) x.1.length x.1.length)) hob (fun z hz q hq e2 => by
        have h3 : z.2.ownBlock = some q → q < wr.heap.size := fun h => (HR.out.lt.2 z (by rw [hm, List.replicate_succ]; rcases hz with hz | hz <;> simp [hz]) q h).2
        have h4 := h3 hq
        simp [Value.ownBlock] at e2
        omega)
      obtain ⟨⟨m0, m1, m2⟩, hfz⟩ := hT2.at
      have f0 := hfz (k * 3)
      have f1 := hfz (k * 3 + 1)
      have f2 := hfz (k * 3 + 2)
      rw [hDl] at hpt m0 m1 m2
      have hbw2 : Below w.heap.size w w2 := hb.trans (hb2.mono hb.size)
      have HQ : Hid (∀ W, W = w2 → LBld (((W.setCell ⟨w.heap.size, k * 3, none⟩ (.slice (some ⟨t, 0, none⟩) x.1.length x.1.length)).setCell ⟨w.heap.size, k * 3 + 1, none⟩ (.int .i64 x.2.1)).setCell ⟨w.heap.size, k * 3 + 2, none⟩ (.int .i64 x.2.2)) w.heap.size (.slice (some ⟨w.heap.size, 0, none⟩) L.length L.length) ((D ++ [(x, .slice (some ⟨t, 0, none⟩) x.1.length x.1.length)]) ++ List.replicate (L.length - (k + 1)) (([], 0, 0), .slice none 0 0))) := fun W hW => by
        rw [hW, show L.length - (k + 1) = m by omega, List.append_assoc]; exact hpt
      have HMX : Hid ((D ++ [((x : LkT), Value.slice (some ⟨t, 0, none⟩) x.1.length x.1.length)]).map (fun x => x.1) = L.take (k + 1)) := HMN.out _ rfl
      have HDL : Hid ((D ++ [((x : LkT), Value.slice (some ⟨t, 0, none⟩) x.1.length x.1.length)]).length = k + 1) := by show _ = _; rw [List.length_append, hDl]; rfl
      clear hpt hT2 hfz hb2 c0 c1 c2 ho hob HC2 hDl HMN hm
      go_wp2_with fail
      go_roundw
      case rel => exact ⟨k + 1, _, ⟨by omega, HDL.out⟩, by go_num, HMX, HQ.out _ rfl, ((hbw2.setCell (p := ⟨w.heap.size, k * 3, none⟩) (Nat.le_refl _) _).setCell (p := ⟨w.heap.size, k * 3 + 1, none⟩) (Nat.le_refl _) _).setCell (p := ⟨w.heap.size, k * 3 + 2, none⟩) (Nat.le_refl _) _⟩
      case measure => simp [intOf]; omega
    · have HF : Hid (LBld wr w.heap.size (.slice (some ⟨w.heap.size, 0, none⟩) L.length L.length) D) := by have h := HR.out; rw [show L.length - k = 0 by omega, List.replicate_zero, List.append_nil] at h; exact h
      have HFM : Hid (D.map (fun x => x.1) = L) := by have h := HM.out; rw [List.take_of_length_le (by omega)] at h; exact h
      clear HR HM
      go_wp2_with fail
      go_ret
      exact ⟨D, HFM.out, rfl, HF.out, hb⟩
theorem LBld.far {w : World} {base g k : Nat} {v : Value} {D : List (LkT × Value)} (h : LBld w base v D) (hg : g < base) (u : Value) : LBld (w.setCell ⟨g, k, none⟩ u) base v D := by
  have hgr : w.grownBy (w.setCell ⟨g, k, none⟩ u) (some g) := grown_set (grown_refl _ _)
  have ne : ∀ {z : Value}, (∀ j, z.ownBlock = some j → base ≤ j) → z.ownBlock = none ∨ z.ownBlock ≠ some g := fun {z} hz => by
    cases e : z.ownBlock with
    | none => exact .inl rfl
    | some j => exact .inr (fun e2 => by have := hz j e; cases e2; omega)
  exact ⟨h.1.kept hgr (ne (fun j hj => (h.lt.1 j hj).1)), fun x hx => (h.2.1 x hx).kept hgr (ne (fun j hj => (h.lt.2 x hx j hj).1)), h.2.2⟩

set_option maxRecDepth 20000 in
set_option maxHeartbeats 2000000 in
theorem toChain_any (v : Value) (L : List LkT) (w : World) (hr : LkRow w v L) (hl : L.length ≤ 1048576) (hx : Hid (∀ x ∈ L, KBig x)) :
    Calls Try.prog 8 #[ChV v] w fun e w' => (∃ g D, e = .returned (ChV (.slice (some ⟨g, 0, none⟩) L.length L.length)) ∧ w.heap.size ≤ g ∧ D.map (fun x : LkT × Value => x.1) = L ∧ LBld w' w.heap.size (.slice (some ⟨g, 0, none⟩) L.length L.length) D) ∧ Below w.heap.size w w' := by
  unfold ChV
  obtain ⟨aa, ca, rfl, _, hca, _⟩ := id hr
  have HRA : Hid (∀ W, Below w.heap.size w W → LkRow W (.slice aa L.length ca) L) := fun W hW => hr.kept hW
  clear hr
  go_enter Try.func8, Try.ntmps8
  go_wp2_with fail
  refine (toLinkS_any _ L _ (HRA.out _ ((((Below.refl w.heap.size w).alloc (Nat.le_refl _) _).alloc (by simp) _).alloc (by simp; omega) _)) hl hx).mono ?_
  rintro e w1 ⟨D, hDL, rfl, hq1, hb1⟩
  obtain ⟨c, d, fz, r, rz, hsz, hblk, hbw⟩ := box3 hb1
  have d0 := d 0
  have fz0 := fz 0
  have r0 := r 0
  have s0 := rz 0
  simp at d0 r0
  have HDL : Hid (D.map (fun x : LkT × Value => x.1) = L) := hDL
  have HQ : Hid (LBld w1 (w.heap.size + 1 + 1 + 1) (.slice (some ⟨w.heap.size + 1 + 1 + 1, 0, none⟩) L.length L.length) D) := by
    have h : LBld w1 (w.heap.size + 1 + 1 + 1) (.slice (some ⟨w.heap.size + 1 + 1 + 1, 0, none⟩) L.length L.length) D := by simpa using hq1
    exact h
  have HK : Hid (w1.heap[w.heap.size + 1]? = some (.cells #[.slice none 0 0] 31)) := hblk
  clear c d fz r rz hq1 hblk hDL
  go_wp2_with fail
  (try simp only [Exit.inBlock, Exit.then])
  refine bodyPost_ret (results_cell_row rfl _ _ (w.heap.size + 1) 31 #[.slice (some ⟨w.heap.size + 1 + 1 + 1, 0, none⟩) L.length L.length] (0, 0) _ rfl ?_ Try.underlying31 rfl (by kernel_rfl)) rfl ⟨⟨w.heap.size + 1 + 1 + 1, D, rfl, by omega, HDL.out, ?_⟩, ?_⟩
  · have e0 := heap_setCell_same (w1.setCell ⟨w.heap.size + 1 + 1, 0, none⟩ (.slice (some ⟨w.heap.size + 1 + 1 + 1, 0, none⟩) L.length L.length)) (w.heap.size + 1) 0 _ _ (.slice (some ⟨w.heap.size + 1 + 1 + 1, 0, none⟩) L.length L.length) (by rw [heap_setCell_other _ _ _ _ (show w.heap.size + 1 ≠ w.heap.size + 1 + 1 by omega)]; exact HK.out)
    simpa using e0
  · exact ((HQ.out.far (g := w.heap.size + 1 + 1) (by omega) _).far (g := w.heap.size + 1) (by omega) _).mono (by omega)
  · exact (hbw.setCell (p := ⟨w.heap.size + 1 + 1, 0, none⟩) (by show w.heap.size ≤ w.heap.size + 1 + 1; omega) _).setCell (p := ⟨w.heap.size + 1, 0, none⟩) (by show w.heap.size ≤ w.heap.size + 1; omega) _
end Go.Proofs.Ytacmipcjhbkdcaa

namespace Go.Proofs.Ytacmipcjhbkdcaa
open Go.RowKit

/-- Links with marks in them, from a number on. -/
def mkK (K : Nat) (x : LkT × Value) : LkT × Value := ((marksK K x.1.1.length, ((K + x.1.1.length : Nat) : Int), ((K + x.1.1.length + 1 : Nat) : Int)), x.2)
def markD : Nat → List (LkT × Value) → List (LkT × Value)
  | _, [] => []
  | K, x :: r => mkK K x :: markD (K + x.1.1.length + 2) r
def totD : List (LkT × Value) → Nat
  | [] => 0
  | x :: r => x.1.1.length + 2 + totD r
theorem totD_cons (x : LkT × Value) (r : List (LkT × Value)) : totD (x :: r) = x.1.1.length + 2 + totD r := rfl
theorem markD_cons (K : Nat) (x : LkT × Value) (r : List (LkT × Value)) : markD K (x :: r) = mkK K x :: markD (K + x.1.1.length + 2) r := rfl
theorem markD_len : ∀ (L : List (LkT × Value)) (K : Nat), (markD K L).length = L.length
  | [], _ => rfl
  | x :: r, K => by simp only [markD, List.length_cons, markD_len r]
theorem totD_wt : ∀ D : List (LkT × Value), totD D ≤ 2 * D.length + wtK (D.map (fun x => x.1))
  | [] => by simp [totD]
  | x :: r => by
    have ih := totD_wt r
    have e : wtK ((x :: r).map (fun x => x.1)) = wtK1 x.1 + wtK (r.map (fun x => x.1)) := by simp [wtK]
    rw [totD_cons, e, List.length_cons]
    unfold wtK1
    omega
/-- Blocks that a chain lies in. -/
def inK (v : Value) (D : List (LkT × Value)) (k : Nat) : Prop := v.ownBlock = some k ∨ ∃ x ∈ D, x.2.ownBlock = some k
theorem LBld.inlt {W : World} {base : Nat} {v : Value} {D : List (LkT × Value)} (h : LBld W base v D) : ∀ k, inK v D k → base ≤ k ∧ k < W.heap.size := fun k hk => by
  rcases hk with hk | ⟨x, hx, hk⟩
  · exact h.lt.1 k hk
  · exact h.lt.2 x hx k hk
theorem mark_in {v : Value} : ∀ {D : List (LkT × Value)} {K k : Nat}, inK v (markD K D) k → inK v D k
  | [], _, _, h => h
  | x :: r, K, k, h => by
    rcases h with h | ⟨y, hy, h⟩
    · exact .inl h
    · rw [markD_cons] at hy
      rcases List.mem_cons.1 hy with rfl | hy
      · exact .inr ⟨x, by simp, h⟩
      · rcases mark_in (v := v) (.inr ⟨y, hy, h⟩) with h1 | ⟨z, hz, h1⟩
        · exact .inl h1
        · exact .inr ⟨z, by simp [hz], h1⟩

set_option maxRecDepth 20000 in
set_option maxHeartbeats 4000000 in
theorem markLinkS_any (v : Value) (D : List (LkT × Value)) (base : Nat) (w : World) (h : LBld w base v D) (hl : D.length ≤ 1048576) (hd : Hid (∀ x ∈ D, x.1.1.length ≤ 1048576)) (HTOT : Hid (totD D ≤ 200000000)) (K0 : Nat) (hK1 : 0 < K0) (hK2 : K0 ≤ 200000000) :
    Calls Try.prog 33 #[v, .int .i64 (K0 : Int)] w fun e w' => e = .returned (.int .i64 (((K0 + totD D : Nat)) : Int)) ∧ LBld w' base v (markD K0 D) ∧ Kpt w w' (inK v D) := by
  have HB0 : Hid (LBld w base v D) := h
  obtain ⟨a, cap, hv, hc1, hc2⟩ := h.shape
  have HFORM : Hid (0 < D.length → ∃ g, a = some ⟨g, 0, none⟩) := fun hp => by
    obtain ⟨g, c, e, _, _, hg⟩ := h.form hp
    rw [hv] at e
    cases e
    exact ⟨g, rfl⟩
  subst hv
  obtain ⟨n, hn⟩ : ∃ n, n = D.length := ⟨_, rfl⟩
  obtain ⟨top, htop⟩ : ∃ top : Nat → Prop, top = inK (.slice a n cap) D := ⟨_, rfl⟩
  have HTV : Hid (∀ k, (Value.slice a n cap).ownBlock = some k → top k) := fun k hk => by rw [htop]; exact .inl hk
  have htd : Hid (∀ x ∈ D, ∀ k, x.2.ownBlock = some k → top k) := fun x hx k hk => by rw [htop]; exact .inr ⟨x, hx, hk⟩
  rw [← hn] at hc1 HB0 HFORM ⊢
  rw [← htop]
  have HNL : Hid (n = D.length) := hn
  have hn100 : n ≤ 1048576 := by omega
  clear h hn hl htop
  go_enter Try.func33, Try.ntmps33
  go_wp2_with fail
  go_loopw [1, 5] (fun q i wr => ∃ (KK : Nat) (A B : List (LkT × Value)), (A.length ≤ n ∧ n ≤ A.length + B.length ∧ A.length + B.length ≤ n) ∧ 0 < KK ∧ i = .int .i64 (A.length : Int) ∧ q = .int .i64 (KK : Int) ∧ Hid (markD K0 D = A ++ markD KK B) ∧ Hid (KK + totD B = K0 + totD D) ∧ Hid (∀ x ∈ B, x.1.1.length ≤ 1048576) ∧ Hid (LBld wr base (.slice a n cap) (A ++ B)) ∧ Hid (∀ x ∈ B, ∀ k, x.2.ownBlock = some k → top k) ∧ Hid (Kpt w wr top)) (fun _ i _ => n - (intOf i).toNat)
  case atStart => exact ⟨K0, [], D, ⟨Nat.zero_le _, by rw [HNL.out]; simp, by rw [HNL.out]; simp⟩, hK1, rfl, rfl, rfl, rfl, hd, HB0, htd, Kpt.refl _ _⟩
  case round =>
    obtain ⟨KK, A, B, ⟨hA1, hA2, hA3⟩, hK0, rfl, rfl, HM, HT, HDB, HB, HTB, HKW⟩ := hrel
    clear HB0
    cases B with
    | cons x B =>
      simp only [List.length_cons] at hA2 hA3
      obtain ⟨g, ha⟩ := HFORM.out (by omega)
      subst ha
      have HGT : Hid (top g) := HTV.out g rfl
      have HDT : Hid (∀ k, x.2.ownBlock = some k → top k) := HTB.out x (by simp)
      have HTB5 : Hid (∀ x ∈ B, ∀ k, x.2.ownBlock = some k → top k) := fun z hz => HTB.out z (by simp [hz])
      have HXD : Hid (x.1.1.length ≤ 1048576) := HDB.out x (by simp)
      have hKt : KK + x.1.1.length ≤ 401000000 := by
        have h1 := HT.out
        have h2 := HTOT.out
        rw [totD_cons] at h1
        omega
      obtain ⟨m, hm⟩ : ∃ m, m = A.length := ⟨_, rfl⟩
      have HMA : Hid (m = A.length) := hm
      rw [← hm] at hA1 hA2 hA3 ⊢
      have hmn : m < n := by omega
      have hmi : (m : Int) < (n : Int) := by omega
      obtain ⟨⟨xd, xs, xu⟩, dv⟩ := x
      simp only at hKt
      have HMS : Hid (Calls Try.prog 54 #[dv, .int .i64 (KK : Int)] wr fun e w' => e = .returned (.int .i64 ((KK : Int) + (xd.length : Int))) ∧ w'.ownsRow base 9 1 dv xd.length ((marksK KK xd.length).map S) ∧ wr.grownBy w' dv.ownBlock) :=
        markStrK_any dv xd KK base wr (HB.out.2.1 ((xd, xs, xu), dv) (by simp)) HXD.out hK0 (by omega)
      obtain ⟨⟨c0, c1, c2⟩, hfz⟩ := HB.out.at
      rw [← HMA.out] at c0 c1 c2
      obtain ⟨ad, nd, cd, hdv⟩ : ∃ ad nd cd, dv = .slice ad nd cd := by
        rcases (HB.out.2.1 ((xd, xs, xu), dv) (by simp)).2 with ⟨h, _⟩ | ⟨q, c, _, h, _⟩
        · exact ⟨_, _, _, h⟩
        · exact ⟨_, _, _, h⟩
      subst hdv
      clear hm hfz
      go_wp2_with fail
      refine HMS.out.mono ?_
      rintro e w5 ⟨rfl, ho5, hg5⟩
      have HK5 : Hid (Kpt w w5 top) := HKW.out.trans ((grown_kpt hg5).mono (fun k _ hk => HDT.out k hk))
      have hrl := HB.out.relog (d := marksK KK xd.length) (by rw [marksK_length]; exact ho5) hg5 (fun k hk => .inl hk)
      obtain ⟨_, _, _, ⟨z0, z1, z2⟩, zf⟩ := hrl
      have HB5 : Hid (LBld w5 base (.slice (some ⟨g, 0, none⟩) n cap) (A ++ ((marksK KK xd.length, xs, xu), .slice ad nd cd) :: B)) := HB.out.over (by rw [marksK_length]; exact ho5) hg5
      rw [← HMA.out] at z1 z2
      have f1 := zf (m * 3 + 1)
      have f2 := zf (m * 3 + 2)
      obtain ⟨e1, he1⟩ : ∃ e1 : Int, e1 = (KK : Int) + (xd.length : Int) := ⟨_, rfl⟩
      have HE1 : Hid (e1 = ((KK + xd.length : Nat) : Int)) := by show _ = _; omega
      have hr1 : 0 ≤ e1 ∧ e1 ≤ 401000000 := by omega
      obtain ⟨hP1, hG1⟩ := HB5.out.put (y := ((marksK KK xd.length, e1, xu), .slice ad nd cd)) 1 (.int .i64 e1) (by omega) rfl rfl rfl
      obtain ⟨hP2, hG2⟩ := hP1.put (y := ((marksK KK xd.length, e1, e1 + 1), .slice ad nd cd)) 2 (.int .i64 (e1 + 1)) (by omega) rfl rfl rfl
      rw [← HMA.out] at hP2 hG1 hG2
      rw [← he1]
      have HB7 : Hid (LBld ((w5.setCell ⟨g, m * 3 + 1, none⟩ (.int .i64 e1)).setCell ⟨g, m * 3 + 2, none⟩ (.int .i64 (e1 + 1))) base (.slice (some ⟨g, 0, none⟩) n cap) (A ++ [mkK KK ((xd, xs, xu), .slice ad nd cd)] ++ B)) := by
        have e2 : e1 + 1 = ((KK + xd.length + 1 : Nat) : Int) := by have := HE1.out; omega
        rw [List.append_assoc]
        unfold mkK
        simp only [← e2, ← HE1.out]
        exact hP2
      have HK7 : Hid (Kpt w ((w5.setCell ⟨g, m * 3 + 1, none⟩ (.int .i64 e1)).setCell ⟨g, m * 3 + 2, none⟩ (.int .i64 (e1 + 1))) top) := HK5.out.trans ((grown_kpt (grown_set (g := g) (k := m * 3 + 2) (u := .int .i64 (e1 + 1)) (grown_set (g := g) (k := m * 3 + 1) (u := .int .i64 e1) (grown_refl w5 _)))).mono (fun k _ hk => by cases hk; exact HGT.out))
      have HM5 : Hid (markD K0 D = A ++ [mkK KK ((xd, xs, xu), .slice ad nd cd)] ++ markD (KK + xd.length + 2) B) := by rw [HM.out, List.append_assoc]; exact rfl
      have HT5 : Hid (KK + xd.length + 2 + totD B = K0 + totD D) := by have h := HT.out; rw [totD_cons] at h; have e : (((xd, xs, xu), Value.slice ad nd cd) : LkT × Value).1.1.length = xd.length := rfl; rw [e] at h; show _ = _; omega
      have HA5 : Hid ((A ++ [mkK KK ((xd, xs, xu), Value.slice ad nd cd)]).length = m + 1) := by show _ = _; rw [List.length_append, ← HMA.out]; rfl
      have HDB5 : Hid (∀ x ∈ B, x.1.1.length ≤ 1048576) := fun z hz => HDB.out z (by simp [hz])
      have HKK : Hid (e1 + 1 + 1 = ((KK + xd.length + 2 : Nat) : Int)) := by have := HE1.out; show _ = _; omega
      clear ho5 hg5 z0 HMS HB HB5 hP1 hP2 hG1 hG2 he1 c0 c1 c2 zf HKW
      go_wp2_with fail
      go_roundw
      case rel => exact ⟨KK + xd.length + 2, _, B, ⟨by rw [HA5.out]; omega, by rw [HA5.out]; omega, by rw [HA5.out]; omega⟩, by omega, by rw [HA5.out]; go_num, by rw [← HKK.out], HM5, HT5, HDB5, HB7, HTB5, HK7⟩
      case measure => simp [intOf]; omega
    | nil =>
      simp only [List.length_nil, Nat.add_zero] at hA2 hA3
      have HF : Hid (LBld wr base (.slice a n cap) (markD K0 D)) := by have h := HB.out; rw [List.append_nil] at h; have e := HM.out; rw [show markD KK [] = [] from rfl, List.append_nil] at e; have h2 : LBld wr base (.slice a n cap) (markD K0 D) := (by rw [e]; exact h); exact h2
      have HQ : Hid ((KK : Int) = ((K0 + totD D : Nat) : Int)) := by have h := HT.out; rw [show totD [] = 0 from rfl] at h; show _ = _; omega
      have hAn : ¬ (A.length : Int) < (n : Int) := by omega
      clear HM HT HB
      go_wp2_with fail
      go_ret
      exact ⟨ret_int HQ.out, HF.out, HKW.out⟩

set_option maxRecDepth 20000 in
set_option maxHeartbeats 4000000 in
theorem heldLinkS_any {K0 : Nat} (v : Value) (D : List (LkT × Value)) (base : Nat) (w : World) (h : LBld w base v (markD K0 D)) (hl : D.length ≤ 1048576) (hd : Hid (∀ x ∈ D, x.1.1.length ≤ 1048576)) (HTOT : Hid (totD D ≤ 200000000)) (hK1 : 0 < K0) (hK2 : K0 ≤ 200000000) :
    Calls Try.prog 34 #[v, .int .i64 (K0 : Int)] w fun e w' => e = .returned (.int .i64 (((K0 + totD D : Nat)) : Int)) ∧ Below w.heap.size w w' := by
  have HB0 : Hid (LBld w base v (markD K0 D)) := h
  obtain ⟨a, cap, hv, hc1, hc2⟩ := h.shape
  have HFORM : Hid (0 < D.length → ∃ g, a = some ⟨g, 0, none⟩) := fun hp => by
    obtain ⟨g, c, e, _, _, hg⟩ := h.form (by rw [markD_len]; exact hp)
    rw [hv] at e
    cases e
    exact ⟨g, rfl⟩
  rw [markD_len] at hv hc1
  subst hv
  obtain ⟨n, hn⟩ : ∃ n, n = D.length := ⟨_, rfl⟩
  rw [← hn] at hc1 HB0 HFORM ⊢
  have HNL : Hid (n = D.length) := hn
  have hn100 : n ≤ 1048576 := by omega
  clear h hn hl
  go_enter Try.func34, Try.ntmps34
  go_wp2_with fail
  go_loopw [1, 5] (fun q i wr => ∃ (KK : Nat) (A B : List (LkT × Value)), (A.length ≤ n ∧ n ≤ A.length + B.length ∧ A.length + B.length ≤ n) ∧ 0 < KK ∧ i = .int .i64 (A.length : Int) ∧ q = .int .i64 (KK : Int) ∧ Hid (markD K0 D = A ++ markD KK B) ∧ Hid (KK + totD B = K0 + totD D) ∧ Hid (∀ x ∈ B, x.1.1.length ≤ 1048576) ∧ Below w.heap.size w wr) (fun _ i _ => n - (intOf i).toNat)
  case atStart => exact ⟨K0, [], D, ⟨Nat.zero_le _, by rw [HNL.out]; simp, by rw [HNL.out]; simp⟩, hK1, rfl, rfl, rfl, rfl, hd, Below.refl _ _⟩
  case round =>
    obtain ⟨KK, A, B, ⟨hA1, hA2, hA3⟩, hK0, rfl, rfl, HM, HT, HDB, hb⟩ := hrel
    cases B with
    | cons x B =>
      simp only [List.length_cons] at hA2 hA3
      obtain ⟨g, ha⟩ := HFORM.out (by omega)
      subst ha
      have HXD : Hid (x.1.1.length ≤ 1048576) := HDB.out x (by simp)
      have hKt : KK + x.1.1.length ≤ 401000000 := by
        have h1 := HT.out
        have h2 := HTOT.out
        rw [totD_cons] at h1
        omega
      obtain ⟨m, hm⟩ : ∃ m, m = A.length := ⟨_, rfl⟩
      have HMA : Hid (m = A.length) := hm
      rw [← hm] at hA1 hA2 hA3 ⊢
      have hmn : m < n := by omega
      have hmi : (m : Int) < (n : Int) := by omega
      obtain ⟨⟨xd, xs, xu⟩, dv⟩ := x
      simp only at hKt
      obtain ⟨e1, he1⟩ : ∃ e1 : Int, e1 = (KK : Int) + (xd.length : Int) := ⟨_, rfl⟩
      have HE1 : Hid (e1 = ((KK + xd.length : Nat) : Int)) := by show _ = _; omega
      have hr1 : 0 ≤ e1 ∧ e1 ≤ 401000000 := by omega
      have HCE : Hid (∀ W, Below w.heap.size w W → (W.cell? ⟨g, m * 3, none⟩ = some dv ∧ W.cell? ⟨g, m * 3 + 1, none⟩ = some (.int .i64 e1) ∧ W.cell? ⟨g, m * 3 + 2, none⟩ = some (.int .i64 (e1 + 1))) ∧ Row W dv (marksK KK xd.length)) := fun W hW => by
        have h1 := HB0.out.kept hW
        rw [HM.out] at h1
        rw [markD_cons] at h1
        have h2 := h1.at.1
        rw [← HMA.out] at h2
        have e2 : e1 + 1 = ((KK + xd.length + 1 : Nat) : Int) := by have := HE1.out; omega
        rw [e2, HE1.out]
        exact ⟨h2, h1.text (x := mkK KK ((xd, xs, xu), dv)) (by simp)⟩
      have HHS : Hid (∀ W, Below w.heap.size w W → Calls Try.prog 55 #[dv, .int .i64 (KK : Int)] W fun e w' => e = .returned (.int .i64 e1) ∧ Below W.heap.size W w') := fun W hW => by
        rw [he1]
        exact heldStrK_any dv xd.length KK W (HCE.out W hW).2 HXD.out hK0 (by omega)
      obtain ⟨ad, nd, cd, hdv⟩ : ∃ ad nd cd, dv = .slice ad nd cd := by
        obtain ⟨a, c, e, _⟩ := (HCE.out wr hb).2
        exact ⟨a, _, c, e⟩
      subst hdv
      obtain ⟨⟨c0, c1, c2⟩, _⟩ := HCE.out wr hb
      have HTR : Hid (∀ W W', Below w.heap.size w W → Below W.heap.size W W' → Below w.heap.size w W') := fun W W' h1 h2 => h1.trans (h2.mono h1.size)
      have HM5 : Hid (markD K0 D = A ++ [mkK KK ((xd, xs, xu), .slice ad nd cd)] ++ markD (KK + xd.length + 2) B) := by rw [HM.out, List.append_assoc]; exact rfl
      have HT5 : Hid (KK + xd.length + 2 + totD B = K0 + totD D) := by have h := HT.out; rw [totD_cons] at h; have e : (((xd, xs, xu), Value.slice ad nd cd) : LkT × Value).1.1.length = xd.length := rfl; rw [e] at h; show _ = _; omega
      have HA5 : Hid ((A ++ [mkK KK ((xd, xs, xu), Value.slice ad nd cd)]).length = m + 1) := by show _ = _; rw [List.length_append, ← HMA.out]; rfl
      have HDB5 : Hid (∀ x ∈ B, x.1.1.length ≤ 1048576) := fun z hz => HDB.out z (by simp [hz])
      have HKK : Hid (e1 + 1 + 1 = ((KK + xd.length + 2 : Nat) : Int)) := by have := HE1.out; show _ = _; omega
      have en1 : (e1 != e1) = false := by simp
      have en2 : ((e1 + 1) != (e1 + 1)) = false := by simp
      have enz : ¬ e1 < 0 := by omega
      clear hm HDB HM HT he1
      go_wp2_with fail
      refine (HHS.out wr hb).mono ?_
      rintro e w5 ⟨rfl, hb5⟩
      have hbw5 := HTR.out _ _ hb hb5
      clear c0 c1 c2
      obtain ⟨⟨c0, c1, c2⟩, _⟩ := HCE.out w5 hbw5
      clear HHS hb5 HCE
      go_wp2_with fail
      go_roundw
      case rel => exact ⟨KK + xd.length + 2, _, B, ⟨by rw [HA5.out]; omega, by rw [HA5.out]; omega, by rw [HA5.out]; omega⟩, by omega, by rw [HA5.out]; go_num, by rw [← HKK.out], HM5, HT5, HDB5, hbw5⟩
      case measure => simp [intOf]; omega
    | nil =>
      simp only [List.length_nil, Nat.add_zero] at hA2 hA3
      have HQ : Hid ((KK : Int) = ((K0 + totD D : Nat) : Int)) := by have h := HT.out; rw [show totD [] = 0 from rfl] at h; show _ = _; omega
      have hAn : ¬ (A.length : Int) < (n : Int) := by omega
      clear HM HT
      go_wp2_with fail
      go_ret
      exact ⟨ret_int HQ.out, hb⟩

set_option maxRecDepth 20000 in
set_option maxHeartbeats 1000000 in
theorem markChain_any (v : Value) (D : List (LkT × Value)) (base : Nat) (w : World) (h : LBld w base v D) (hl : D.length ≤ 1048576) (hd : Hid (∀ x ∈ D, x.1.1.length ≤ 1048576)) (HTOT : Hid (totD D ≤ 200000000)) :
    Calls Try.prog 12 #[ChV v, .int .i64 1] w fun e w' => e = .returned (.int .i64 (((1 + totD D : Nat)) : Int)) ∧ LBld w' base v (markD 1 D) ∧ Kpt w w' (inK v D) := by
  unfold ChV
  obtain ⟨aa, ca, hva, _⟩ := h.shape
  obtain ⟨W0, hW0⟩ : ∃ W0, W0 = w.alloc (.cells #[v] 31) := ⟨_, rfl⟩
  have HW0 : Hid (w.alloc (.cells #[v] 31) = W0) := hW0.symm
  have HR : Hid (LBld W0 base v D) := by rw [hW0]; exact h.kept ((Below.refl _ _).alloc (Nat.le_refl _) _)
  have HK : Hid (Kpt w W0 (inK v D)) := by rw [hW0]; exact kpt_alloc _ _ _
  have HM : Hid (∀ W, LBld W base v D → Calls Try.prog 33 #[v, .int .i64 1] W fun e w' => e = .returned (.int .i64 (((1 + totD D : Nat)) : Int)) ∧ LBld w' base v (markD 1 D) ∧ Kpt W w' (inK v D)) := fun W hW => markLinkS_any v D base W hW hl hd HTOT 1 Nat.one_pos (by omega)
  have e0 : W0 = w.alloc (.cells #[v] 31) := hW0
  have c0 : W0.cell? ⟨w.heap.size, 0, none⟩ = some v := by rw [e0]; unfold World.cell?; rw [blk_new]; rfl
  clear hW0 h e0
  subst hva
  go_enter Try.func12, Try.ntmps12
  go_wp2_with fail
  rw [HW0.out]
  refine (HM.out W0 HR.out).mono ?_
  rintro e w1 ⟨rfl, h1, h2⟩
  have H1 : Hid (LBld w1 base (.slice aa D.length ca) (markD 1 D)) := h1
  have H2 : Hid (Kpt w w1 (inK (.slice aa D.length ca) D)) := HK.out.trans h2
  clear h1 h2
  go_wp2_with fail
  go_ret
  exact ⟨rfl, H1.out, H2.out⟩

set_option maxRecDepth 20000 in
set_option maxHeartbeats 1000000 in
theorem heldChain_any (v : Value) (D : List (LkT × Value)) (base : Nat) (w : World) (h : LBld w base v (markD 1 D)) (hl : D.length ≤ 1048576) (hd : Hid (∀ x ∈ D, x.1.1.length ≤ 1048576)) (HTOT : Hid (totD D ≤ 200000000)) :
    Calls Try.prog 13 #[ChV v, .int .i64 1] w fun e w' => e = .returned (.int .i64 (((1 + totD D : Nat)) : Int)) ∧ Below w.heap.size w w' := by
  unfold ChV
  obtain ⟨aa, ca, hva, _⟩ := h.shape
  rw [markD_len] at hva
  obtain ⟨W0, hW0⟩ : ∃ W0, W0 = w.alloc (.cells #[v] 31) := ⟨_, rfl⟩
  have HW0 : Hid (w.alloc (.cells #[v] 31) = W0) := hW0.symm
  have hb0 : Below w.heap.size w W0 := by rw [hW0]; exact (Below.refl _ _).alloc (Nat.le_refl _) _
  have HR : Hid (LBld W0 base v (markD 1 D)) := h.kept hb0
  have HB : Hid (Below w.heap.size w W0) := hb0
  have HM : Hid (∀ W, LBld W base v (markD 1 D) → Calls Try.prog 34 #[v, .int .i64 1] W fun e w' => e = .returned (.int .i64 (((1 + totD D : Nat)) : Int)) ∧ Below W.heap.size W w') := fun W hW => heldLinkS_any (K0 := 1) v D base W hW hl hd HTOT Nat.one_pos (by omega)
  have e0 : W0 = w.alloc (.cells #[v] 31) := hW0
  have c0 : W0.cell? ⟨w.heap.size, 0, none⟩ = some v := by rw [e0]; unfold World.cell?; rw [blk_new]; rfl
  have hpos : ¬ (((1 + totD D : Nat)) : Int) < 0 := by omega
  clear hW0 h hb0 e0
  subst hva
  go_enter Try.func13, Try.ntmps13
  go_wp2_with fail
  rw [HW0.out]
  refine (HM.out W0 HR.out).mono ?_
  rintro e w1 ⟨rfl, h1⟩
  have H1 : Hid (Below w.heap.size w w1) := HB.out.trans (h1.mono HB.out.size)
  clear h1
  go_wp2_with fail
  go_ret
  exact ⟨rfl, H1.out⟩
end Go.Proofs.Ytacmipcjhbkdcaa

namespace Go.Proofs.Ytacmipcjhbkdcaa
open Go.RowKit

/-- A log is the beginning of another one. -/
def begB (a b : List (List UInt8)) : Bool := decide (a.length ≤ b.length) && (a == b.take a.length)
def logB (l : List (List UInt8)) : Bool := decide (l.length ≤ 40) && l.all (fun p => decide (p.length ≤ 20))
def tailB (x : LkT) : Bool := logB x.1 && decide (x.2.1 = 0) && decide (x.2.2 = (x.1.length : Int))
def aheadB (x y : LkT) : Bool := logB x.1 && begB y.1 x.1 && (decide (0 ≤ x.2.1) && decide (x.2.1 ≤ (y.1.length : Int))) && (decide (0 ≤ x.2.2) && decide (x.2.2 ≤ y.2.2))
def goodL : List LkT → Bool
  | [] => false
  | [x] => tailB x
  | x :: y :: r => aheadB x y && goodL (y :: r)
/-- What GoodChain tells. -/
def chB (L : List LkT) : Bool := (decide (1 ≤ L.length) && decide (L.length ≤ 6)) && goodL L
def zLk : LkT := ([], 0, 0)
theorem goodL_last {L : List LkT} {k : Nat} (h : k + 1 = L.length) : goodL (L.drop k) = tailB (L[k]'(by omega)) := by
  rw [List.drop_eq_getElem_cons (by omega), List.drop_of_length_le (by omega)]; rfl
theorem goodL_next {L : List LkT} {k : Nat} (h : k + 1 < L.length) : goodL (L.drop k) = (aheadB (L[k]'(by omega)) (L[k + 1]'h) && goodL (L.drop (k + 1))) := by
  rw [List.drop_eq_getElem_cons (by omega), List.drop_eq_getElem_cons h]; rfl
theorem chB_len {L : List LkT} (h : chB L = true) : 1 ≤ L.length ∧ L.length ≤ 6 := by
  unfold chB at h; simp only [Bool.and_eq_true, decide_eq_true_eq] at h; exact h.1
theorem chB_drop {L : List LkT} (h : chB L = true) : ∀ k, k < L.length → goodL (L.drop k) = true := by
  have h0 : goodL L = true := by unfold chB at h; simp only [Bool.and_eq_true] at h; exact h.2
  intro k
  induction k with
  | zero => intro _; simpa using h0
  | succ k ih =>
    intro hk
    have h1 := ih (by omega)
    rw [goodL_next hk] at h1
    simp only [Bool.and_eq_true] at h1
    exact h1.2
theorem chB_tail {L : List LkT} (h : chB L = true) {k : Nat} (hk : k + 1 = L.length) : tailB (L[k]'(by omega)) = true := by
  rw [← goodL_last hk]; exact chB_drop h k (by omega)
theorem chB_ahead {L : List LkT} (h : chB L = true) {k : Nat} (hk : k + 1 < L.length) : aheadB (L[k]'(by omega)) (L[k + 1]'hk) = true := by
  have h1 := chB_drop h k (by omega)
  rw [goodL_next hk] at h1
  simp only [Bool.and_eq_true] at h1
  exact h1.1
theorem chB_log {L : List LkT} (h : chB L = true) {k : Nat} (hk : k < L.length) : logB (L[k]'hk).1 = true := by
  by_cases e : k + 1 = L.length
  · have h1 := chB_tail h e
    unfold tailB at h1; simp only [Bool.and_eq_true] at h1; exact h1.1.1
  · have h1 := chB_ahead h (show k + 1 < L.length by omega)
    unfold aheadB at h1; simp only [Bool.and_eq_true] at h1; exact h1.1.1.1
theorem logB_len {l : List (List UInt8)} (h : logB l = true) : l.length ≤ 40 := by
  unfold logB at h; simp only [Bool.and_eq_true, decide_eq_true_eq] at h; exact h.1
theorem logB_text {l : List (List UInt8)} (h : logB l = true) : ∀ p ∈ l, p.length ≤ 20 := by
  unfold logB at h; simp only [Bool.and_eq_true, decide_eq_true_eq, List.all_eq_true] at h; exact h.2
/-- Who is not surer than the next one is not surer than the tail. -/
theorem chB_sure {L : List LkT} (h : chB L = true) : ∀ m k, (hk : k < L.length) → L.length = k + 1 + m → 0 ≤ (L[k]'hk).2.2 ∧ (L[k]'hk).2.2 ≤ ((L[L.length - 1]'(by omega)).1.length : Int) ∧ (L[L.length - 1]'(by omega)).1.length ≤ (L[k]'hk).1.length
  | 0, k, hk, e => by
    have h1 := chB_tail h (show k + 1 = L.length by omega)
    unfold tailB at h1; simp only [Bool.and_eq_true, decide_eq_true_eq] at h1
    have e2 : L.length - 1 = k := by omega
    simp only [e2]
    omega
  | m + 1, k, hk, e => by
    have ih := chB_sure h m (k + 1) (by omega) (by omega)
    have h1 := chB_ahead h (show k + 1 < L.length by omega)
    unfold aheadB begB at h1; simp only [Bool.and_eq_true, decide_eq_true_eq] at h1
    omega

/-- What the specification asks of one link. -/
def spB (L : List LkT) (i : Nat) : Bool :=
  let x := L.getD i zLk
  logB x.1 && (decide (i = 0) || begB x.1 (L.getD (i - 1) zLk).1) &&
    (if i + 1 = L.length then decide (x.2.1 = 0) && decide (x.2.2 = (x.1.length : Int))
     else (decide (0 ≤ x.2.1) && decide (x.2.1 ≤ ((L.getD (i + 1) zLk).1.length : Int))) && (decide (0 ≤ x.2.2) && decide (x.2.2 ≤ ((L.getD (L.length - 1) zLk).1.length : Int))) && decide (x.2.2 ≤ (L.getD (i + 1) zLk).2.2))
theorem getD_z {L : List LkT} {i : Nat} (h : i < L.length) : L.getD i zLk = L[i] := by simp [h]
theorem spB_of {L : List LkT} (h : chB L = true) {i : Nat} (hi : i < L.length) : spB L i = true := by
  have hl := chB_log h hi
  have hsu := chB_sure h (L.length - 1 - i) i hi (by omega)
  unfold spB
  simp only [getD_z hi, getD_z (show L.length - 1 < L.length by omega)]
  have hb : (decide (i = 0) || begB (L[i]'hi).1 (L.getD (i - 1) zLk).1) = true := by
    by_cases h0 : i = 0
    · simp [h0]
    · have h1 := chB_ahead h (k := i - 1) (by omega)
      unfold aheadB at h1
      simp only [Bool.and_eq_true, show i - 1 + 1 = i by omega] at h1
      rw [getD_z (show i - 1 < L.length by omega)]
      simp only [Bool.or_eq_true]
      exact .inr h1.1.1.2
  rw [hl, hb, Bool.true_and, Bool.true_and]
  by_cases e : i + 1 = L.length
  · have h1 := chB_tail h e
    unfold tailB at h1
    simp only [Bool.and_eq_true] at h1
    rw [if_pos e, h1.1.2, h1.2]; rfl
  · have h1 := chB_ahead h (show i + 1 < L.length by omega)
    unfold aheadB at h1
    simp only [Bool.and_eq_true, decide_eq_true_eq] at h1
    rw [if_neg e, getD_z (show i + 1 < L.length by omega)]
    simp only [Bool.and_eq_true, decide_eq_true_eq]
    omega
theorem chB_of {L : List LkT} (h1 : 1 ≤ L.length) (h6 : L.length ≤ 6) (h : ∀ i, i < L.length → spB L i = true) : chB L = true := by
  have key : ∀ m k, k < L.length → L.length = k + 1 + m → goodL (L.drop k) = true := by
    intro m
    induction m with
    | zero =>
      intro k hk e
      rw [goodL_last (show k + 1 = L.length by omega)]
      have hs := h k hk
      unfold spB at hs
      simp only [getD_z hk, if_pos (show k + 1 = L.length by omega), Bool.and_eq_true] at hs
      unfold tailB
      rw [hs.1.1, hs.2.1, hs.2.2]; rfl
    | succ m ih =>
      intro k hk e
      have hk1 : k + 1 < L.length := by omega
      rw [goodL_next hk1, ih (k + 1) hk1 (by omega), Bool.and_true]
      have hs := h k hk
      have hn := h (k + 1) hk1
      unfold spB at hs hn
      simp only [getD_z hk, getD_z hk1, if_neg (show ¬ k + 1 = L.length by omega), Bool.and_eq_true] at hs
      simp only [getD_z hk1, show k + 1 - 1 = k by omega, getD_z hk, Bool.and_eq_true, Bool.or_eq_true, decide_eq_true_eq] at hn
      have hb : begB (L[k + 1]'hk1).1 (L[k]'hk).1 = true := by
        rcases hn.1.2 with h0 | h0
        · omega
        · exact h0
      unfold aheadB
      rw [hs.1.1, hb, hs.2.1.1.1, hs.2.1.1.2, hs.2.1.2.1, hs.2.2]; rfl
  have h0 := key (L.length - 1) 0 (by omega) (by omega)
  unfold chB
  simp only [List.drop_zero] at h0
  rw [h0]
  simp [h1, h6]
end Go.Proofs.Ytacmipcjhbkdcaa

namespace Go.Proofs.Ytacmipcjhbkdcaa
open Go.RowKit



set_option maxRecDepth 20000 in
set_option maxHeartbeats 400000 in
theorem l15Begins_any (va vb : Value) (A B : List (List UInt8)) (w : World) (hra : Row w va A) (hrb : Row w vb B) :
    Calls Try.prog 41 #[va, vb] w fun e w' => e = .returned (.bool (begB A B)) ∧ ∃ m, w' = w.drewN m := by
  obtain ⟨aa, ca, rfl, hca, hma, HA⟩ := row_value hra
  obtain ⟨ab, cb, rfl, hcb, hmb, HB⟩ := row_value hrb
  clear hra hrb
  go_enter Try.func41, Try.ntmps41
  go_wp2_with fail
  go_loopw [8] (fun i wr => ∃ k : Nat, k ≤ A.length ∧ i = .int .i64 (k : Int) ∧ Hid (k ≤ B.length ∧ A.take k = B.take k) ∧ ∃ m, wr = w.drewN m) (fun i _ => A.length - (intOf i).toNat)
  case atStart => exact ⟨0, Nat.zero_le _, rfl, ⟨Nat.zero_le _, rfl⟩, 0, rfl⟩
  case round =>
    obtain ⟨k, hk, rfl, HK, m, rfl⟩ := hrel
    by_cases hlt : k < A.length
    · by_cases hltB : k < B.length
      · obtain ⟨ba, oa, ha, hba, hcA⟩ := HA.out (by omega)
        obtain ⟨bb, ob, hb', hbb, hcB⟩ := HB.out (by omega)
        rw [ha, hb']
        have cA := hcA k hlt
        have cB := hcB k hltB
        have HT : Hid (A.take (k + 1) = A.take k ++ [A[k]'hlt] ∧ B.take (k + 1) = B.take k ++ [B[k]'hltB]) := ⟨List.take_succ_eq_append_getElem hlt, List.take_succ_eq_append_getElem hltB⟩
        have HNE : Hid (A[k]'hlt ≠ B[k]'hltB → begB A B = false) := fun h => by
          unfold begB
          by_cases hl : A.length ≤ B.length
          · rw [decide_eq_true hl, Bool.true_and, beq_eq_false_iff_ne]
            intro e
            apply h
            have e2 := congrArg (fun l => l[k]?) e
            simp only [List.getElem?_take, if_pos hlt, List.getElem?_eq_getElem hlt, List.getElem?_eq_getElem hltB, Option.some.injEq] at e2
            exact e2
          · rw [decide_eq_false hl]; rfl
        obtain ⟨x, hx⟩ : ∃ x, x = A[k]'hlt := ⟨_, rfl⟩
        obtain ⟨y, hy⟩ : ∃ y, y = B[k]'hltB := ⟨_, rfl⟩
        rw [← hx] at cA HT HNE
        rw [← hy] at cB HT HNE
        unfold S at cA cB
        have hge : decide ((B.length : Int) ≤ (k : Int)) = false := by simp; omega
        have hkA : (k : Int) < (A.length : Int) := by omega
        have hkB : (k : Int) < (B.length : Int) := by omega
        clear hcA hcB hx hy
        by_cases hxy : x = y
        · subst hxy
          go_wp2_with fail
          go_quiet (fail)
          go_wp2_with fail
          go_roundw
          case rel => exact ⟨k + 1, by omega, by go_num, ⟨by omega, by rw [HT.out.1, HT.out.2, HK.out.2]⟩, (by first | exact ⟨_, rfl⟩ | exact ⟨_, World.drewN_drewN _ _ _⟩)⟩
          case measure => simp [intOf]; omega
        · have e1 : (x == y) = false := by simpa using hxy
          have HN : Hid (begB A B = false) := HNE.out hxy
          clear hxy HT HNE
          go_wp2_with fail
          go_quiet (fail)
          go_wp2_with fail
          go_ret
          exact ⟨ret_bool HN.out.symm, (by first | exact ⟨_, rfl⟩ | exact ⟨_, World.drewN_drewN _ _ _⟩)⟩
      · have HN : Hid (begB A B = false) := by
          show _ = _
          unfold begB; rw [decide_eq_false (by omega)]; rfl
        have hge : decide ((B.length : Int) ≤ (k : Int)) = true := by simp; omega
        have hkA : (k : Int) < (A.length : Int) := by omega
        go_wp2_with fail
        go_quiet (fail)
        go_wp2_with fail
        go_ret
        exact ⟨ret_bool HN.out.symm, (by first | exact ⟨_, rfl⟩ | exact ⟨_, World.drewN_drewN _ _ _⟩)⟩
    · have HN : Hid (begB A B = true) := by
        obtain ⟨h1, h2⟩ := HK.out
        have e : k = A.length := by omega
        subst e
        show _ = _
        unfold begB
        rw [decide_eq_true h1, Bool.true_and, beq_iff_eq, ← h2, List.take_length]
      go_wp2_with fail
      go_ret
      exact ⟨ret_bool HN.out.symm, m, rfl⟩

/-- Both cells of a block told. -/
theorem cells_at {W : World} {g : Nat} {cs : Array Value} {t : TypeId} (h : W.heap[g]? = some (.cells cs t)) : ∀ j, W.cell? ⟨g, j, none⟩ = cs[j]? := fun j => by unfold World.cell?; rw [h]; rfl

set_option maxRecDepth 20000 in
set_option maxHeartbeats 8000000 in
theorem sGoodChain_any (v : Value) (L : List LkT) (w : World) (hr : LkRow w v L) :
    Calls Try.prog 24 #[ChV v] w fun e w' => e = .returned (.bool (chB L)) ∧ Below w.heap.size w w' := by
  unfold ChV
  obtain ⟨a, cap, rfl, hcap, hmax, HROW⟩ := lkrow_value hr
  have HW1 : Hid (∀ W, Calls Try.prog 40 #[.int .i64 (L.length : Int), .int .i64 1, .int .i64 6] W fun e w' => e = .returned (.bool (decide (1 ≤ (L.length : Int)) && decide ((L.length : Int) ≤ 6))) ∧ w' = W) := fun W => l1In_any _ _ _ W
  have HBG : Hid (∀ (A B : List (List UInt8)) (va vb : Value) W, Row W va A → Row W vb B → Calls Try.prog 41 #[va, vb] W fun e w' => e = .returned (.bool (begB A B)) ∧ ∃ m, w' = W.drewN m) := fun A B va vb W h1 h2 => l15Begins_any va vb A B W h1 h2
  clear hr
  have hb0 : Below w.heap.size w (w.alloc (.cells #[.slice a L.length cap] 31)) := (Below.refl _ _).alloc (Nat.le_refl _) _
  by_cases hin : 1 ≤ L.length ∧ L.length ≤ 6
  · obtain ⟨h1, h6⟩ := hin
    rw [show (decide (1 ≤ (L.length : Int)) && decide ((L.length : Int) ≤ 6)) = true by simp; omega] at HW1
    have HCO : Hid ((∀ i, i < L.length → spB L i = true) → chB L = true) := fun h => chB_of h1 h6 h
    have HCN : Hid (∀ i, i < L.length → spB L i = false → chB L = false) := fun i hi h => by
      cases hc : chB L with
      | false => rfl
      | true => rw [spB_of hc hi] at h; cases h
    obtain ⟨b, o, ha, hbl, hcel⟩ := HROW.out (by omega)
    have HCEL : Hid (∀ j, (hj : j < L.length) → ∃ va, LkAt w b (o + j * 3) L[j] va) := hcel
    subst ha
    obtain ⟨n, hn⟩ : ∃ n, n + 1 = L.length := ⟨L.length - 1, by omega⟩
    have hlt : n < L.length := by omega
    obtain ⟨va, hx⟩ := hcel n hlt
    have hxk := hx.kept hb0
    obtain ⟨y, hye⟩ : ∃ y, y = L[n]'hlt := ⟨_, rfl⟩
    have HYE : Hid (L.getD (L.length - 1) zLk = y) := by show _ = _; rw [getD_z (show L.length - 1 < L.length by omega), hye]; simp only [← hn, Nat.add_sub_cancel]
    rw [← hye] at hx hxk
    have HTR : Hid (Row w va y.1) := hx.2
    unfold LkAt at hxk
    obtain ⟨⟨c0, c1, c2⟩, hzr⟩ := hxk
    obtain ⟨aa, ca, rfl, _, _, _⟩ := hzr
    have hni : ((L.length : Int) - 1) = (n : Int) := by omega
    have HND : Hid (L.length = n + 1) := hn.symm
    have hnL : (n : Int) < (L.length : Int) := by omega
    have wn : wrap64 ((L.length : Int) - 1) = (n : Int) := by unfold wrap64; omega
    clear hcel hx hye HROW hn hcap
    go_enter Try.func24, Try.ntmps24
    go_wp2_with fail
    refine (HW1.out _).mono ?_
    rintro e w1 ⟨rfl, rfl⟩
    go_wp2_with fail
    have HZ : Hid (∀ W, Below (w.heap.size + 2) ((w.alloc (.cells #[.slice (some ⟨b, o, none⟩) L.length cap] 31)).alloc (.cells #[.slice aa y.1.length ca, .int .i64 y.2.1, .int .i64 y.2.2] 71)) W → ((W.cell? ⟨w.heap.size + 1, 0, none⟩ = some (.slice aa y.1.length ca) ∧ W.cell? ⟨w.heap.size + 1, 1, none⟩ = some (.int .i64 y.2.1) ∧ W.cell? ⟨w.heap.size + 1, 2, none⟩ = some (.int .i64 y.2.2)) ∧ W.cell? ⟨w.heap.size, 0, none⟩ = some (.slice (some ⟨b, o, none⟩) L.length cap)) ∧ Below w.heap.size w W) := fun W hW => by
      have hb2 : Below ((w.alloc (.cells #[.slice (some ⟨b, o, none⟩) L.length cap] 31)).alloc (.cells #[.slice aa y.1.length ca, .int .i64 y.2.1, .int .i64 y.2.2] 71)).heap.size ((w.alloc (.cells #[.slice (some ⟨b, o, none⟩) L.length cap] 31)).alloc (.cells #[.slice aa y.1.length ca, .int .i64 y.2.1, .int .i64 y.2.2] 71)) W := by simpa using hW
      obtain ⟨h1, h2, h3⟩ := box2 hb2
      exact ⟨⟨⟨h2 0, h2 1, h2 2⟩, h1 0⟩, h3⟩
    go_loopw [24] (fun iv wr => ∃ i : Nat, i ≤ L.length ∧ iv = .int .i64 (i : Int) ∧ Hid (∀ j, j < i → spB L j = true) ∧ Below w.heap.size w wr ∧ Hid ((wr.cell? ⟨w.heap.size + 1, 0, none⟩ = some (.slice aa y.1.length ca) ∧ wr.cell? ⟨w.heap.size + 1, 1, none⟩ = some (.int .i64 y.2.1) ∧ wr.cell? ⟨w.heap.size + 1, 2, none⟩ = some (.int .i64 y.2.2)) ∧ wr.cell? ⟨w.heap.size, 0, none⟩ = some (.slice (some ⟨b, o, none⟩) L.length cap))) (fun iv _ => L.length - (intOf iv).toNat)
    case atStart => exact ⟨0, Nat.zero_le _, rfl, fun j h => absurd h (Nat.not_lt_zero _), (HZ.out _ (Below.refl _ _)).2, (HZ.out _ (Below.refl _ _)).1⟩
    case round =>
      obtain ⟨i, hi, rfl, HP, hb, HC0⟩ := hrel
      clear c0 c1 c2 HZ
      by_cases hil : i < L.length
      · obtain ⟨vx, hx⟩ := HCEL.out i hil
        have hxk := hx.kept hb
        obtain ⟨x, hxe⟩ : ∃ x, x = L[i]'hil := ⟨_, rfl⟩
        rw [← hxe] at hx hxk
        have HSP : Hid (spB L i = (logB x.1 && (decide (i = 0) || begB x.1 (L.getD (i - 1) zLk).1) && (if i + 1 = L.length then decide (x.2.1 = 0) && decide (x.2.2 = (x.1.length : Int)) else (decide (0 ≤ x.2.1) && decide (x.2.1 ≤ ((L.getD (i + 1) zLk).1.length : Int))) && (decide (0 ≤ x.2.2) && decide (x.2.2 ≤ ((L.getD (L.length - 1) zLk).1.length : Int))) && decide (x.2.2 ≤ (L.getD (i + 1) zLk).2.2)))) := by
          show _ = _
          unfold spB
          rw [getD_z hil, ← hxe]
        unfold LkAt at hxk
        obtain ⟨⟨x0, x1, x2⟩, hxr⟩ := hxk
        obtain ⟨ax, cx, rfl, hcx, hmx, HXR⟩ := row_value hxr
        have hiL : (i : Int) < (L.length : Int) := by omega
        obtain ⟨W0, hW0⟩ : ∃ W0, W0 = wr.alloc (.cells #[.slice ax x.1.length cx, .int .i64 x.2.1, .int .i64 x.2.2] 71) := ⟨_, rfl⟩
        have HBW : Hid (Below wr.heap.size wr W0) := by rw [hW0]; exact (Below.refl _ _).alloc (Nat.le_refl _) _
        have hw0 : ∀ W, Below W0.heap.size W0 W → W.cell? ⟨wr.heap.size, 0, none⟩ = some (.slice ax x.1.length cx) ∧ W.cell? ⟨wr.heap.size, 1, none⟩ = some (.int .i64 x.2.1) ∧ W.cell? ⟨wr.heap.size, 2, none⟩ = some (.int .i64 x.2.2) := fun W hW => by
          rw [hW0] at hW
          obtain ⟨h1, _⟩ := box1k hW
          exact ⟨h1 0, h1 1, h1 2⟩
        have HWX : Hid (∀ W, Below W0.heap.size W0 W → W.cell? ⟨wr.heap.size, 0, none⟩ = some (.slice ax x.1.length cx) ∧ W.cell? ⟨wr.heap.size, 1, none⟩ = some (.int .i64 x.2.1) ∧ W.cell? ⟨wr.heap.size, 2, none⟩ = some (.int .i64 x.2.2)) := hw0
        have HBX : Hid (∀ (_ : Nat) W, Below W0.heap.size W0 W → Below w.heap.size w W) := fun _ W hW => hb.trans ((HBW.out.trans (hW.mono HBW.out.size)).mono hb.size)
        have HCX : Hid (∀ (_ : Nat) W, Below W0.heap.size W0 W → (W.cell? ⟨w.heap.size + 1, 0, none⟩ = some (.slice aa y.1.length ca) ∧ W.cell? ⟨w.heap.size + 1, 1, none⟩ = some (.int .i64 y.2.1) ∧ W.cell? ⟨w.heap.size + 1, 2, none⟩ = some (.int .i64 y.2.2)) ∧ W.cell? ⟨w.heap.size, 0, none⟩ = some (.slice (some ⟨b, o, none⟩) L.length cap)) := fun _ W hW => by
          have h := HBW.out.trans (hW.mono HBW.out.size)
          have q1 := World.block_lt_of_cell? _ _ HC0.out.1.1
          have q2 := World.block_lt_of_cell? _ _ HC0.out.2
          rw [h.cell (p := ⟨w.heap.size + 1, 0, none⟩) q1, h.cell (p := ⟨w.heap.size + 1, 1, none⟩) q1, h.cell (p := ⟨w.heap.size + 1, 2, none⟩) q1, h.cell (p := ⟨w.heap.size, 0, none⟩) q2]
          exact HC0.out
        have HKP : Hid (∀ (j : Nat) (z : LkT) (v : Value) W, LkAt w b (o + j * 3) z v → Below W0.heap.size W0 W → LkAt W b (o + j * 3) z v) := fun j z v W h hW => h.kept (HBX.out 0 W hW)
        have HDN : Hid (∀ (k : Nat) (W : World), Below w.heap.size w W → Below w.heap.size w (W.drewN k)) := fun k W h => below_drewN h _
        have HDC : Hid (∀ (k : Nat) (W : World), ((W.cell? ⟨w.heap.size + 1, 0, none⟩ = some (.slice aa y.1.length ca) ∧ W.cell? ⟨w.heap.size + 1, 1, none⟩ = some (.int .i64 y.2.1) ∧ W.cell? ⟨w.heap.size + 1, 2, none⟩ = some (.int .i64 y.2.2)) ∧ W.cell? ⟨w.heap.size, 0, none⟩ = some (.slice (some ⟨b, o, none⟩) L.length cap)) → Hid (((W.drewN k).cell? ⟨w.heap.size + 1, 0, none⟩ = some (.slice aa y.1.length ca) ∧ (W.drewN k).cell? ⟨w.heap.size + 1, 1, none⟩ = some (.int .i64 y.2.1) ∧ (W.drewN k).cell? ⟨w.heap.size + 1, 2, none⟩ = some (.int .i64 y.2.2)) ∧ (W.drewN k).cell? ⟨w.heap.size, 0, none⟩ = some (.slice (some ⟨b, o, none⟩) L.length cap))) := fun k W h => h
        have HW0 : Hid (wr.alloc (.cells #[.slice ax x.1.length cx, .int .i64 x.2.1, .int .i64 x.2.2] 71) = W0) := hW0.symm
        have hbf : Below W0.heap.size W0 W0 := Below.refl _ _
        have HXW : Hid (0 < x.1.length → ∃ b o, ax = some ⟨b, o, none⟩ ∧ ∀ j, (hj : j < x.1.length) → W0.cell? ⟨b, o + j, none⟩ = some (S x.1[j])) := fun h => by
          obtain ⟨b, o, e1, e2, e3⟩ := HXR.out h
          exact ⟨b, o, e1, fun j hj => by rw [HBW.out.cell (p := ⟨b, o + j, none⟩) e2]; exact e3 j hj⟩
        have HXV : Hid (Row W0 (.slice ax x.1.length cx) x.1) := hxr.kept HBW.out
        obtain ⟨p00, _⟩ := HC0.out
        have q0 := HC0.out.2
        clear hW0 hx hxe hw0 hxr p00
        go_wp2_with fail
        rw [HW0.out]
        obtain ⟨g0, g1, g2⟩ := HWX.out W0 hbf
        clear x0 x1 x2 q0
        go_wp2_with fail
        go_loop [32] (fun jv => ∃ j : Nat, j ≤ x.1.length ∧ jv = .int .i64 (j : Int) ∧ Hid (∀ q, (hq : q < x.1.length) → q < j → x.1[q].length ≤ 20)) (fun jv => x.1.length - (intOf jv).toNat)
        case atStart => exact ⟨0, Nat.zero_le _, rfl, fun q _ h => absurd h (Nat.not_lt_zero _)⟩
        case round =>
          obtain ⟨j, hj, rfl, HT⟩ := hrel
          by_cases hjl : j < x.1.length
          · obtain ⟨bx, ox, ha, hcX⟩ := HXW.out (by omega)
            subst ha
            have cX := hcX j hjl
            have HTN : Hid (¬ 20 < (x.1[j]'hjl).length → ∀ q, (hq : q < x.1.length) → q < j + 1 → x.1[q].length ≤ 20) := fun h q hq hq2 => by
              rcases Nat.lt_or_ge q j with h' | h'
              · exact HT.out q hq h'
              · obtain rfl : q = j := by omega
                omega
            have HTF : Hid (20 < (x.1[j]'hjl).length → logB x.1 = false) := fun h => by
              cases hl : logB x.1 with
              | false => rfl
              | true => have := logB_text hl _ (List.getElem_mem hjl); omega
            obtain ⟨p, hp⟩ : ∃ p, p = x.1[j]'hjl := ⟨_, rfl⟩
            rw [← hp] at cX HTN HTF
            unfold S at cX
            have hjL : (j : Int) < (x.1.length : Int) := by omega
            clear hcX hp
            by_cases h20 : 20 < p.length
            · have e20 : decide ((20 : Int) < (p.length : Int)) = true := by simp; omega
              have HF : Hid (chB L = false) := HCN.out i hil (by rw [HSP.out, HTF.out h20]; rfl)
              go_wp2_with fail
              go_ret
              exact ⟨ret_bool HF.out.symm, HBX.out 0 _ hbf⟩
            · have e20 : decide ((20 : Int) < (p.length : Int)) = false := by simp; omega
              have HT2 := HTN.out h20
              have HT3 : Hid (∀ q, (hq : q < x.1.length) → q < j + 1 → x.1[q].length ≤ 20) := HT2
              clear HT2
              go_wp2_with fail
              go_round
              case rel => exact ⟨j + 1, by omega, by go_num, HT3⟩
              case measure => simp [intOf]; omega
          · have HAL : Hid (x.1.all (fun p => decide (p.length ≤ 20)) = true) := by
              show _ = _
              rw [List.all_eq_true]
              intro p hp
              obtain ⟨q, hq, rfl⟩ := List.getElem_of_mem hp
              rw [decide_eq_true_eq]
              exact HT.out q hq (by omega)
            have hjn : ¬ (j : Int) < (x.1.length : Int) := by omega
            clear HT HXW
            by_cases h40 : 40 < x.1.length
            · have e40 : decide ((40 : Int) < (x.1.length : Int)) = true := by simp; omega
              have HF : Hid (chB L = false) := HCN.out i hil (by rw [HSP.out]; unfold logB; rw [decide_eq_false (show ¬ x.1.length ≤ 40 by omega)]; rfl)
              go_wp2_with fail
              go_quiet (fail)
              go_wp2_with fail
              go_ret
              exact ⟨ret_bool HF.out.symm, HDN.out _ _ (HBX.out 0 _ hbf)⟩
            · have e40 : decide ((40 : Int) < (x.1.length : Int)) = false := by simp; omega
              have HLG : Hid (logB x.1 = true) := by show _ = _; unfold logB; rw [decide_eq_true (show x.1.length ≤ 40 by omega), HAL.out]; rfl
              rw [HLG.out, Bool.true_and] at HSP
              clear HLG HAL
              by_cases hi0 : i = 0
              · have ei0 : decide ((0 : Int) < (i : Int)) = false := by simp; omega
                rw [show (decide (i = 0) || begB x.1 (L.getD (i - 1) zLk).1) = true by simp [hi0], Bool.true_and] at HSP
                have hi0n : ¬ 0 < i := by omega
                clear hi0
                go_wp2_with fail
                go_quiet (fail)
                have hbq : Below W0.heap.size W0 (W0.drewN nq) := below_drewN hbf _
                obtain ⟨WQ, hWQ⟩ : ∃ WQ, WQ = W0.drewN nq := ⟨_, rfl⟩
                rw [← hWQ] at hbq ⊢
                obtain ⟨g0, g1, g2⟩ := HWX.out WQ hbq
                have q0 := (HCX.out 0 WQ hbq).2
                clear hWQ
                by_cases hlast : i = n
                · have el : ((i : Int) == (n : Int)) = true := by simp [hlast]
                  have HLL : Hid (i + 1 = L.length) := by show _ = _; have := HND.out; omega
                  rw [if_pos HLL.out] at HSP
                  by_cases hs0 : x.2.1 = 0
                  · by_cases hs1 : x.2.2 = (x.1.length : Int)
                    · have HOK : Hid (spB L i = true) := by show _ = _; rw [HSP.out, hs0, hs1]; simp
                      have e1 : (x.2.1 != 0) = false := by simp [hs0]
                      have e2 : (x.2.2 != (x.1.length : Int)) = false := by simp [hs1]
                      have HN1 : Hid (∀ j, j < i + 1 → spB L j = true) := fun j hj => by
                        rcases Nat.lt_or_ge j i with h | h
                        · exact HP.out j h
                        · obtain rfl : j = i := by omega
                          exact HOK.out
                      clear hs0 hs1 HSP HP
                      go_wp2_with fail
                      go_roundw
                      case rel => exact ⟨i + 1, by omega, by go_num, HN1, HBX.out 0 _ hbq, HCX.out 0 _ hbq⟩
                      case measure => simp [intOf]; omega
                    · have e1 : (x.2.1 != 0) = false := by simp [hs0]
                      have e2 : (x.2.2 != (x.1.length : Int)) = true := by simpa using hs1
                      have HF : Hid (chB L = false) := HCN.out i hil (by rw [HSP.out]; simp [hs1])
                      clear hs0 hs1 HSP
                      go_wp2_with fail
                      go_ret
                      exact ⟨ret_bool HF.out.symm, HBX.out 0 _ hbq⟩
                  · have e1 : (x.2.1 != 0) = true := by simpa using hs0
                    have HF : Hid (chB L = false) := HCN.out i hil (by rw [HSP.out]; simp [hs0])
                    clear hs0 HSP
                    go_wp2_with fail
                    go_ret
                    exact ⟨ret_bool HF.out.symm, HBX.out 0 _ hbq⟩
                · have el : ((i : Int) == (n : Int)) = false := by rw [beq_eq_false_iff_ne]; omega
                  have hi1 : i + 1 < L.length := by have := HND.out; omega
                  rw [if_neg (show ¬ i + 1 = L.length by omega), getD_z hi1, HYE.out] at HSP
                  obtain ⟨vn, hnx⟩ := HCEL.out (i + 1) hi1
                  obtain ⟨z, hze⟩ : ∃ z, z = L[i + 1]'hi1 := ⟨_, rfl⟩
                  rw [← hze] at hnx HSP
                  have hnk := HKP.out _ _ _ _ hnx hbq
                  unfold LkAt at hnk
                  obtain ⟨⟨n0, n1, n2⟩, hzr⟩ := hnk
                  obtain ⟨an, cn, rfl, _, _, _⟩ := hzr
                  obtain ⟨m, hm⟩ : ∃ m, m = i + 1 := ⟨_, rfl⟩
                  have wm : IntKind.i64.wrap ((i : Int) + 1) = (m : Int) := by rw [wrap_small _ (by omega) (by omega)]; omega
                  have hmL : (m : Int) < (L.length : Int) := by omega
                  rw [← hm] at n0 n1 n2
                  obtain ⟨b1, hb1⟩ : ∃ b1, b1 = (decide (0 ≤ x.2.1) && decide (x.2.1 ≤ (z.1.length : Int))) := ⟨_, rfl⟩
                  obtain ⟨b2, hb2⟩ : ∃ b2, b2 = (decide (0 ≤ x.2.2) && decide (x.2.2 ≤ (y.1.length : Int))) := ⟨_, rfl⟩
                  obtain ⟨b3, hb3⟩ : ∃ b3, b3 = decide (z.2.2 < x.2.2) := ⟨_, rfl⟩
                  have HI1 : Hid (∀ W, Calls Try.prog 40 #[.int .i64 x.2.1, .int .i64 0, .int .i64 (z.1.length : Int)] W fun e w' => e = .returned (.bool b1) ∧ w' = W) := fun W => by rw [hb1]; exact l1In_any _ _ _ W
                  have HI2 : Hid (∀ W, Calls Try.prog 40 #[.int .i64 x.2.2, .int .i64 0, .int .i64 (y.1.length : Int)] W fun e w' => e = .returned (.bool b2) ∧ w' = W) := fun W => by rw [hb2]; exact l1In_any _ _ _ W
                  have HSB : Hid (spB L i = (b1 && b2 && !b3)) := by
                    show _ = _
                    rw [HSP.out, hb1, hb2, hb3]
                    have e3 : decide (x.2.2 ≤ z.2.2) = !decide (z.2.2 < x.2.2) := by
                      by_cases h : x.2.2 ≤ z.2.2
                      · simp [h]
                      · simp [h]; omega
                    rw [e3]
                  obtain ⟨⟨t0, t1, t2⟩, r0⟩ := HCX.out 0 _ hbq
                  clear hb1 hb2 hze hm HSP hnx
                  cases b1 with
                  | false =>
                    have HF : Hid (chB L = false) := HCN.out i hil (by rw [HSB.out]; rfl)
                    go_wp2_with fail
                    go_quiet ((go_at_call 40; exact Calls.quiet_of_same (HI1.out _)))
                    go_wp2_with fail
                    go_ret
                    exact ⟨ret_bool HF.out.symm, HDN.out _ _ (HBX.out 0 _ hbq)⟩
                  | true =>
                    cases b2 with
                    | false =>
                      have HF : Hid (chB L = false) := HCN.out i hil (by rw [HSB.out]; rfl)
                      go_wp2_with fail
                      go_quiet (first | (go_at_call_of 40 (x.2.1); exact Calls.quiet_of_same (HI1.out _)) | (go_at_call_of 40 (x.2.2); exact Calls.quiet_of_same (HI2.out _)))
                      go_wp2_with fail
                      go_ret
                      exact ⟨ret_bool HF.out.symm, HDN.out _ _ (HBX.out 0 _ hbq)⟩
                    | true =>
                      cases b3 with
                      | true =>
                        have HF : Hid (chB L = false) := HCN.out i hil (by rw [HSB.out]; rfl)
                        have e3 : decide (z.2.2 < x.2.2) = true := hb3.symm
                        clear hb3
                        go_wp2_with fail
                        go_quiet (first | (go_at_call_of 40 (x.2.1); exact Calls.quiet_of_same (HI1.out _)) | (go_at_call_of 40 (x.2.2); exact Calls.quiet_of_same (HI2.out _)))
                        go_wp2_with fail
                        go_ret
                        exact ⟨ret_bool HF.out.symm, HDN.out _ _ (HBX.out 0 _ hbq)⟩
                      | false =>
                        have e3 : decide (z.2.2 < x.2.2) = false := hb3.symm
                        have HN1 : Hid (∀ j, j < i + 1 → spB L j = true) := fun j hj => by
                          rcases Nat.lt_or_ge j i with h | h
                          · exact HP.out j h
                          · obtain rfl : j = i := by omega
                            rw [HSB.out]; rfl
                        clear hb3
                        go_wp2_with fail
                        go_quiet (first | (go_at_call_of 40 (x.2.1); exact Calls.quiet_of_same (HI1.out _)) | (go_at_call_of 40 (x.2.2); exact Calls.quiet_of_same (HI2.out _)))
                        clear wm
                        go_wp2_with fail
                        go_roundw
                        case rel => exact ⟨i + 1, by omega, by go_num, HN1, HDN.out _ _ (HBX.out 0 _ hbq), HDC.out _ _ (HCX.out 0 _ hbq)⟩
                        case measure => simp [intOf]; omega
              · have ei0 : decide ((0 : Int) < (i : Int)) = true := by simp; omega
                have hi0p : 0 < i := by omega
                have hip : i - 1 < L.length := by omega
                rw [show (decide (i = 0) || begB x.1 (L.getD (i - 1) zLk).1) = begB x.1 (L.getD (i - 1) zLk).1 by simp [hi0], getD_z hip] at HSP
                obtain ⟨vp, hpx⟩ := HCEL.out (i - 1) hip
                obtain ⟨p, hpe⟩ : ∃ p, p = L[i - 1]'hip := ⟨_, rfl⟩
                rw [← hpe] at hpx HSP
                have hpk := HKP.out _ _ _ _ hpx hbf
                obtain ⟨q, hq⟩ : ∃ q, q = begB x.1 p.1 := ⟨_, rfl⟩
                have HBC : Hid (∀ k : Nat, Calls Try.prog 41 #[.slice ax x.1.length cx, vp] (W0.drewN k) fun e w' => e = .returned (.bool q) ∧ ∃ m, w' = (W0.drewN k).drewN m) := fun k => by
                  have hd : Below W0.heap.size W0 (W0.drewN k) := below_drewN hbf _
                  rw [hq]; exact HBG.out _ _ _ _ _ (HXV.out.kept hd) ((HKP.out _ _ _ _ hpx hbf).2.kept hd)
                rw [← hq] at HSP
                unfold LkAt at hpk
                obtain ⟨⟨k0, k1, k2⟩, hzr⟩ := hpk
                obtain ⟨ap, cp, rfl, _, _, _⟩ := hzr
                obtain ⟨m, hm⟩ : ∃ m, m = i - 1 := ⟨_, rfl⟩
                have wm : IntKind.i64.wrap ((i : Int) - 1) = (m : Int) := by rw [wrap_small _ (by omega) (by omega)]; omega
                have hmL : (m : Int) < (L.length : Int) := by omega
                rw [← hm] at k0 k1 k2
                have q0 := (HCX.out 0 W0 hbf).2
                clear hq hpe hm hpx hi0
                cases q with
                | false =>
                  have HF : Hid (chB L = false) := HCN.out i hil (by rw [HSP.out]; rfl)
                  go_wp2_with fail
                  go_quiet ((go_at_call 41; exact Calls.quiet_of (HBC.out _)))
                  go_wp2_with fail
                  go_ret
                  exact ⟨ret_bool HF.out.symm, HDN.out _ _ (HBX.out 0 _ hbf)⟩
                | true =>
                  rw [Bool.true_and] at HSP
                  go_wp2_with fail
                  go_quiet ((go_at_call 41; exact Calls.quiet_of (HBC.out _)))
                  have hbq : Below W0.heap.size W0 (W0.drewN nq) := below_drewN hbf _
                  obtain ⟨WQ, hWQ⟩ : ∃ WQ, WQ = W0.drewN nq := ⟨_, rfl⟩
                  rw [← hWQ] at hbq ⊢
                  obtain ⟨g0, g1, g2⟩ := HWX.out WQ hbq
                  have q0 := (HCX.out 0 WQ hbq).2
                  clear hWQ wm hmL k0 k1 k2 HBC
                  by_cases hlast : i = n
                  · have el : ((i : Int) == (n : Int)) = true := by simp [hlast]
                    have HLL : Hid (i + 1 = L.length) := by show _ = _; have := HND.out; omega
                    rw [if_pos HLL.out] at HSP
                    by_cases hs0 : x.2.1 = 0
                    · by_cases hs1 : x.2.2 = (x.1.length : Int)
                      · have HOK : Hid (spB L i = true) := by show _ = _; rw [HSP.out, hs0, hs1]; simp
                        have e1 : (x.2.1 != 0) = false := by simp [hs0]
                        have e2 : (x.2.2 != (x.1.length : Int)) = false := by simp [hs1]
                        have HN1 : Hid (∀ j, j < i + 1 → spB L j = true) := fun j hj => by
                          rcases Nat.lt_or_ge j i with h | h
                          · exact HP.out j h
                          · obtain rfl : j = i := by omega
                            exact HOK.out
                        clear hs0 hs1 HSP HP
                        go_wp2_with fail
                        go_roundw
                        case rel => exact ⟨i + 1, by omega, by go_num, HN1, HBX.out 0 _ hbq, HCX.out 0 _ hbq⟩
                        case measure => simp [intOf]; omega
                      · have e1 : (x.2.1 != 0) = false := by simp [hs0]
                        have e2 : (x.2.2 != (x.1.length : Int)) = true := by simpa using hs1
                        have HF : Hid (chB L = false) := HCN.out i hil (by rw [HSP.out]; simp [hs1])
                        clear hs0 hs1 HSP
                        go_wp2_with fail
                        go_ret
                        exact ⟨ret_bool HF.out.symm, HBX.out 0 _ hbq⟩
                    · have e1 : (x.2.1 != 0) = true := by simpa using hs0
                      have HF : Hid (chB L = false) := HCN.out i hil (by rw [HSP.out]; simp [hs0])
                      clear hs0 HSP
                      go_wp2_with fail
                      go_ret
                      exact ⟨ret_bool HF.out.symm, HBX.out 0 _ hbq⟩
                  · have el : ((i : Int) == (n : Int)) = false := by rw [beq_eq_false_iff_ne]; omega
                    have hi1 : i + 1 < L.length := by have := HND.out; omega
                    rw [if_neg (show ¬ i + 1 = L.length by omega), getD_z hi1, HYE.out] at HSP
                    obtain ⟨vn, hnx⟩ := HCEL.out (i + 1) hi1
                    obtain ⟨z, hze⟩ : ∃ z, z = L[i + 1]'hi1 := ⟨_, rfl⟩
                    rw [← hze] at hnx HSP
                    have hnk := HKP.out _ _ _ _ hnx hbq
                    unfold LkAt at hnk
                    obtain ⟨⟨n0, n1, n2⟩, hzr⟩ := hnk
                    obtain ⟨an, cn, rfl, _, _, _⟩ := hzr
                    obtain ⟨m, hm⟩ : ∃ m, m = i + 1 := ⟨_, rfl⟩
                    have wm : IntKind.i64.wrap ((i : Int) + 1) = (m : Int) := by rw [wrap_small _ (by omega) (by omega)]; omega
                    have hmL : (m : Int) < (L.length : Int) := by omega
                    rw [← hm] at n0 n1 n2
                    obtain ⟨b1, hb1⟩ : ∃ b1, b1 = (decide (0 ≤ x.2.1) && decide (x.2.1 ≤ (z.1.length : Int))) := ⟨_, rfl⟩
                    obtain ⟨b2, hb2⟩ : ∃ b2, b2 = (decide (0 ≤ x.2.2) && decide (x.2.2 ≤ (y.1.length : Int))) := ⟨_, rfl⟩
                    obtain ⟨b3, hb3⟩ : ∃ b3, b3 = decide (z.2.2 < x.2.2) := ⟨_, rfl⟩
                    have HI1 : Hid (∀ W, Calls Try.prog 40 #[.int .i64 x.2.1, .int .i64 0, .int .i64 (z.1.length : Int)] W fun e w' => e = .returned (.bool b1) ∧ w' = W) := fun W => by rw [hb1]; exact l1In_any _ _ _ W
                    have HI2 : Hid (∀ W, Calls Try.prog 40 #[.int .i64 x.2.2, .int .i64 0, .int .i64 (y.1.length : Int)] W fun e w' => e = .returned (.bool b2) ∧ w' = W) := fun W => by rw [hb2]; exact l1In_any _ _ _ W
                    have HSB : Hid (spB L i = (b1 && b2 && !b3)) := by
                      show _ = _
                      rw [HSP.out, hb1, hb2, hb3]
                      have e3 : decide (x.2.2 ≤ z.2.2) = !decide (z.2.2 < x.2.2) := by
                        by_cases h : x.2.2 ≤ z.2.2
                        · simp [h]
                        · simp [h]; omega
                      rw [e3]
                    obtain ⟨⟨t0, t1, t2⟩, r0⟩ := HCX.out 0 _ hbq
                    clear hb1 hb2 hze hm HSP hnx
                    cases b1 with
                    | false =>
                      have HF : Hid (chB L = false) := HCN.out i hil (by rw [HSB.out]; rfl)
                      go_wp2_with fail
                      go_quiet ((go_at_call 40; exact Calls.quiet_of_same (HI1.out _)))
                      go_wp2_with fail
                      go_ret
                      exact ⟨ret_bool HF.out.symm, HDN.out _ _ (HBX.out 0 _ hbq)⟩
                    | true =>
                      cases b2 with
                      | false =>
                        have HF : Hid (chB L = false) := HCN.out i hil (by rw [HSB.out]; rfl)
                        go_wp2_with fail
                        go_quiet (first | (go_at_call_of 40 (x.2.1); exact Calls.quiet_of_same (HI1.out _)) | (go_at_call_of 40 (x.2.2); exact Calls.quiet_of_same (HI2.out _)))
                        go_wp2_with fail
                        go_ret
                        exact ⟨ret_bool HF.out.symm, HDN.out _ _ (HBX.out 0 _ hbq)⟩
                      | true =>
                        cases b3 with
                        | true =>
                          have HF : Hid (chB L = false) := HCN.out i hil (by rw [HSB.out]; rfl)
                          have e3 : decide (z.2.2 < x.2.2) = true := hb3.symm
                          clear hb3
                          go_wp2_with fail
                          go_quiet (first | (go_at_call_of 40 (x.2.1); exact Calls.quiet_of_same (HI1.out _)) | (go_at_call_of 40 (x.2.2); exact Calls.quiet_of_same (HI2.out _)))
                          go_wp2_with fail
                          go_ret
                          exact ⟨ret_bool HF.out.symm, HDN.out _ _ (HBX.out 0 _ hbq)⟩
                        | false =>
                          have e3 : decide (z.2.2 < x.2.2) = false := hb3.symm
                          have HN1 : Hid (∀ j, j < i + 1 → spB L j = true) := fun j hj => by
                            rcases Nat.lt_or_ge j i with h | h
                            · exact HP.out j h
                            · obtain rfl : j = i := by omega
                              rw [HSB.out]; rfl
                          clear hb3
                          go_wp2_with fail
                          go_quiet (first | (go_at_call_of 40 (x.2.1); exact Calls.quiet_of_same (HI1.out _)) | (go_at_call_of 40 (x.2.2); exact Calls.quiet_of_same (HI2.out _)))
                          clear wm
                          go_wp2_with fail
                          go_roundw
                          case rel => exact ⟨i + 1, by omega, by go_num, HN1, HDN.out _ _ (HBX.out 0 _ hbq), HDC.out _ _ (HCX.out 0 _ hbq)⟩
                          case measure => simp [intOf]; omega
      · have HF : Hid (chB L = true) := HCO.out (fun j hj => HP.out j (by omega))
        have hin : ¬ (i : Int) < (L.length : Int) := by omega
        go_wp2_with fail
        go_ret
        exact ⟨ret_bool HF.out.symm, hb⟩
  · rw [show (decide (1 ≤ (L.length : Int)) && decide ((L.length : Int) ≤ 6)) = false by
      rw [Bool.and_eq_false_iff]; simp only [decide_eq_false_iff_not]; omega] at HW1
    have HF : Hid (chB L = false) := by
      show _ = _
      unfold chB
      rw [show (decide (1 ≤ L.length) && decide (L.length ≤ 6)) = false by rw [Bool.and_eq_false_iff]; simp only [decide_eq_false_iff_not]; omega]
      rfl
    clear hin HROW
    go_enter Try.func24, Try.ntmps24
    go_wp2_with fail
    refine (HW1.out _).mono ?_
    rintro e w1 ⟨rfl, rfl⟩
    go_wp2_with fail
    go_ret
    exact ⟨ret_bool HF.out.symm, hb0⟩
end Go.Proofs.Ytacmipcjhbkdcaa
