import Derived.Test.YthmneeahncojjaaGreatDoorZ05
import Derived.Deep.QuietTactic
import Derived.BigQuiet
import Derived.WalkSmall
import Derived.Test.YthmneeahncojjaaGreatDoorZ03
import Derived.Deep.RegionWith
namespace Go.Proofs.YthmneeahncojjaaGreatDoor
open Go.RowKit

theorem shape_of_own {w : World} {base : Nat} {v : Value} {P : List (List UInt8)} (h : w.ownsRow base 9 1 v P.length (P.map S)) :
    ∃ g cap, (v = .slice none 0 0 ∧ P = []) ∨ (v = .slice (some ⟨g, 0, none⟩) P.length cap ∧ base ≤ g ∧ g < w.heap.size ∧ P.length ≤ cap ∧ cap ≤ maxLen ∧ ∀ j, (hj : j < P.length) → w.cell? ⟨g, j, none⟩ = some (S P[j])) := by
  have h0 := h
  obtain ⟨hl, ⟨rfl, hn⟩ | ⟨g, cap, cur, rfl, hg, hh, hc, hm, hs, hx⟩⟩ := h
  · exact ⟨0, 0, .inl ⟨rfl, List.length_eq_zero_iff.1 hn⟩⟩
  · have := h0.lt g rfl
    exact ⟨g, cap, .inr ⟨rfl, this.1, this.2, hc, hm, fun j hj => by rw [h0.cellAt j (by omega), List.getElem?_map, List.getElem?_eq_getElem hj]; rfl⟩⟩

theorem own_mono {w : World} {base base' e size : Nat} {v : Value} {n : Nat} {xs : List Value} (h : w.ownsRow base e size v n xs) (hb : base' ≤ base) : w.ownsRow base' e size v n xs := by
  obtain ⟨hl, hh | ⟨g, cap, cur, rfl, hg, hr⟩⟩ := h
  · exact ⟨hl, .inl hh⟩
  · exact ⟨hl, .inr ⟨g, cap, cur, rfl, Nat.le_trans hb hg, hr⟩⟩

/-- A list of texts in memory, by its value. -/
theorem row_value {w : World} {v : Value} {P : List (List UInt8)} (h : Row w v P) : ∃ a cap, v = .slice a P.length cap ∧ P.length ≤ cap ∧ cap ≤ 2 ^ 63 - 1 ∧ Hid (0 < P.length → ∃ b o, a = some ⟨b, o, none⟩ ∧ b < w.heap.size ∧ ∀ j, (hj : j < P.length) → w.cell? ⟨b, o + j, none⟩ = some (S P[j])) := by
  obtain ⟨a, cap, rfl, h1, h2, h3⟩ := h
  unfold maxLen at h2
  refine ⟨a, cap, rfl, h1, h2, fun hp => ?_⟩
  rcases h3 with rfl | h3
  · simp at hp
  · exact h3

theorem name_eight {l : List UInt8} (h : nameB l = true) : (labelsOf l).length ≤ 8 := by
  unfold nameB at h; simp only [Bool.and_eq_true, decide_eq_true_eq] at h; exact h.2.2

theorem val_int {k : IntKind} {a b : Int} (h : a = b) : Value.int k a = .int k b := by rw [h]
theorem ret_three {a b c d e f : Value} (h : a = d) (k : b = e) (l : c = f) : Ending.returned (.tuple #[a, b, c]) = .returned (.tuple #[d, e, f]) := by rw [h, k, l]

theorem cut_append (b : UInt8) : ∀ (x y : List UInt8), cut b (x ++ b :: y) = cut b x ++ cut b y
  | [], y => by simp [cut]
  | c :: x, y => by
    have ih := cut_append b x y
    by_cases h : c = b
    · simp [cut, h, ih]
    · cases e : cut b x with
      | nil => exact absurd e (cut_ne b x)
      | cons p r => rw [e] at ih; simp [cut, h, ih, e]
theorem cut_no (b : UInt8) : ∀ l, ∀ p ∈ cut b l, b ∉ p
  | [], p, hp => by simp [cut] at hp; simp [hp]
  | c :: l, p, hp => by
    have ih := cut_no b l
    by_cases h : c = b
    · simp only [cut, h, if_true, List.mem_cons] at hp
      rcases hp with rfl | hp
      · simp
      · exact ih p hp
    · cases e : cut b l with
      | nil => exact absurd e (cut_ne b l)
      | cons q r =>
        simp only [cut, h, if_false, e, List.mem_cons] at hp
        rcases hp with rfl | hp
        · have := ih q (by rw [e]; simp)
          simp only [List.mem_cons, not_or]; exact ⟨fun e => h e.symm, this⟩
        · exact ih p (by rw [e]; simp [hp])
theorem cut_plain (b : UInt8) : ∀ l : List UInt8, b ∉ l → cut b l = [l]
  | [], _ => rfl
  | c :: l, h => by
    simp only [List.mem_cons, not_or] at h
    have ih := cut_plain b l h.2
    simp [cut, Ne.symm h.1, ih]
theorem cut_joinD : ∀ Q : List (List UInt8), Q ≠ [] → (∀ p ∈ Q, 46 ∉ p) → cut 46 (joinD Q) = Q
  | [], h, _ => absurd rfl h
  | [p], _, h => by simp [joinD, cut_plain 46 p (h p (by simp))]
  | p :: q :: r, _, h => by
    have ih := cut_joinD (q :: r) (by simp) (fun x hx => h x (by simp at hx ⊢; right; exact hx))
    rw [joinD, if_neg (by simp), cut_append, ih, cut_plain 46 p (h p (by simp))]
    rfl

/-- Labels that are not empty and hold no dot. -/
def Plain (Q : List (List UInt8)) : Prop := ∀ p ∈ Q, p ≠ [] ∧ 46 ∉ p
theorem Plain.drop {Q : List (List UInt8)} (h : Plain Q) (k : Nat) : Plain (Q.drop k) := fun p hp => h p (List.mem_of_mem_drop hp)
theorem plain_ne {r : List (List UInt8)} (hr : r ≠ []) (h : Plain r) : joinD r ≠ [] := by
  match r, hr with
  | p :: q, _ =>
    have hp := (h p (by simp)).1
    unfold joinD
    split
    · exact hp
    · simp
theorem lab_ne {p : List UInt8} (h : labelB p = true) : p ≠ [] := by
  intro e; subst e; revert h; decide
theorem name_plain {l : List UInt8} (h : nameB l = true) : Plain (labelsOf l) := by
  intro p hp
  have h1 : labelB p = true := by
    unfold nameB at h; simp only [Bool.and_eq_true, List.all_eq_true] at h; exact h.1 p hp
  refine ⟨lab_ne h1, ?_⟩
  unfold labelsOf at hp
  split at hp
  · simp at hp
  · exact cut_no 46 l p hp
theorem joinD_labels (l : List UInt8) : joinD (labelsOf l) = l := by
  unfold labelsOf
  split
  · rename_i h; rw [h]; rfl
  · exact joinD_cut l

def tot (P : List (List UInt8)) : Nat := (P.map List.length).sum
theorem tot_snoc (P : List (List UInt8)) (k : Nat) (h : k < P.length) : tot (P.take (k + 1)) = tot (P.take k) + P[k].length := by
  unfold tot; rw [List.take_succ_eq_append_getElem h, List.map_append, List.sum_append]; simp only [List.map_cons, List.map_nil, List.sum_cons, List.sum_nil, Nat.add_zero]
theorem tot_full (P : List (List UInt8)) (k : Nat) (h : ¬ k < P.length) : tot (P.take k) = tot P := by rw [List.take_of_length_le (by omega)]
theorem tot_one {P : List (List UInt8)} {p : List UInt8} (h : p ∈ P) : p.length ≤ tot P := by
  unfold tot
  induction P with
  | nil => simp at h
  | cons q r ih =>
    rcases List.mem_cons.1 h with rfl | h
    · simp
    · have := ih h; simp; omega

theorem joinD_tot : ∀ P : List (List UInt8), (joinD P).length ≤ tot P + P.length
  | [] => by simp [joinD, tot]
  | p :: r => by
    have ih := joinD_tot r
    have e : tot (p :: r) = p.length + tot r := by simp [tot]
    unfold joinD
    split
    · rw [e]; simp; omega
    · rw [e]; simp; omega
theorem label_nodot {p : List UInt8} (h : labelB p = true) : 46 ∉ p := by
  intro hm
  unfold labelB at h
  rw [Bool.or_eq_true] at h
  rcases h with h | h
  · have : p = [42] := by simpa using h
    rw [this] at hm; revert hm; decide
  · simp only [Bool.and_eq_true, List.all_eq_true] at h
    have := h.2.2 46 hm
    revert this; decide

/-- What NameOf tells. -/
def nameOfB (P : List (List UInt8)) : Bool := P.all labelB && nameB (joinD P)
def nameOfT (P : List (List UInt8)) : List UInt8 := if nameOfB P = true then joinD P else []
theorem nameOf_eq {P : List (List UInt8)} : nameOfB P = (areB P && decide ((joinD P).length ≤ 60)) := by
  unfold nameOfB areB
  cases ha : P.all labelB with
  | false => simp
  | true =>
    have hp : Plain P := fun p hp => ⟨lab_ne (List.all_eq_true.1 ha p hp), label_nodot (List.all_eq_true.1 ha p hp)⟩
    have hl : labelsOf (joinD P) = P := by
      unfold labelsOf
      by_cases h0 : P = []
      · subst h0; simp [joinD]
      · rw [if_neg (plain_ne h0 hp), cut_joinD P h0 (fun p h => (hp p h).2)]
    unfold nameB; rw [hl, ha, Bool.true_and, Bool.true_and, Bool.and_true, Bool.and_comm]

theorem val_strJ {x : ByteArray} {l : List UInt8} (h : x.data.toList = l) : Value.string x = .string ⟨l.toArray⟩ := by rw [data_eq h]

theorem ret_S {x y : List UInt8} (h : x = y) : Ending.returned (.string ⟨x.toArray⟩) = .returned (.string ⟨y.toArray⟩) := by rw [h]
end Go.Proofs.YthmneeahncojjaaGreatDoor

namespace Go.Proofs.YthmneeahncojjaaGreatDoor
open Go.RowKit

/-- A digit; a text of digits read as a number. -/
def digB (c : UInt8) : Bool := decide (48 ≤ c.toNat) && decide (c.toNat ≤ 57)
def decV (l : List UInt8) : Nat := l.foldl (fun n c => 10 * n + (c.toNat - 48)) 0
/-- What l1Int tells. -/
def intV (l : List UInt8) : Int := if 1 ≤ l.length ∧ l.length ≤ 10 ∧ ¬ (l.head? = some 48 ∧ 1 < l.length) ∧ l.all digB = true then (decV l : Int) else -1
theorem decV_snoc (l : List UInt8) (k : Nat) (h : k < l.length) : decV (l.take (k + 1)) = 10 * decV (l.take k) + (l[k].toNat - 48) := by
  unfold decV; rw [List.take_succ_eq_append_getElem h, List.foldl_append]; rfl
theorem decV_lt (l : List UInt8) : ∀ k, (l.take k).all digB = true → decV (l.take k) < 10 ^ k
  | 0, _ => by simp [decV]
  | k + 1, h => by
    by_cases hk : k < l.length
    · have hs := decV_snoc l k hk
      have ht := List.take_succ_eq_append_getElem hk
      rw [ht] at h
      simp only [List.all_append, Bool.and_eq_true] at h
      have ih := decV_lt l k h.1
      have hd : digB l[k] = true := by simpa using h.2
      unfold digB at hd
      simp only [Bool.and_eq_true, decide_eq_true_eq] at hd
      rw [hs, Nat.pow_succ]; omega
    · have e : l.take (k + 1) = l.take k := by rw [List.take_of_length_le (by omega), List.take_of_length_le (by omega)]
      rw [e] at h ⊢
      have ih := decV_lt l k h
      rw [Nat.pow_succ]; omega

/-- A number in digits. -/
def numL (n : Nat) : List UInt8 := if n < 10 then [UInt8.ofNat (48 + n)] else numL (n / 10) ++ [UInt8.ofNat (48 + n % 10)]
theorem numL_small {n : Nat} (h : n < 10) : numL n = [UInt8.ofNat (48 + n)] := by rw [numL, if_pos h]
theorem numL_big {n : Nat} (h : ¬ n < 10) : numL n = numL (n / 10) ++ [UInt8.ofNat (48 + n % 10)] := by rw [numL, if_neg h]
theorem numL_length : ∀ (k n : Nat), n < 10 ^ (k + 1) → (numL n).length ≤ k + 1
  | 0, n, h => by rw [numL_small (by simpa using h)]; simp
  | k + 1, n, h => by
    by_cases h10 : n < 10
    · rw [numL_small h10]; simp
    · rw [numL_big h10, List.length_append]
      have := numL_length k (n / 10) (by rw [Nat.pow_succ] at h; omega)
      simp; omega

theorem val_strM {x : ByteArray} {l : List UInt8} (h : x.data.toList = l) : Value.string x = .string ⟨l.toArray⟩ := by rw [data_eq h]
theorem byte_new {w : World} {n : Int} {k : Nat} (hn : n = (k : Int)) (hk : k ≤ 255) :
    Sem.run Tryz.prog (convert 75 9 (.slice (some ⟨w.heap.size, 0, none⟩) 1 1)) (w.alloc (.cells #[.int .u8 n] 5)) = .ok (.string ⟨#[UInt8.ofNat k]⟩) (w.alloc (.cells #[.int .u8 n] 5)) := by
  refine run_convert_bytes_back _ 75 9 5 ⟨w.heap.size, 0, none⟩ 1 [UInt8.ofNat k] Tryz.underlying75 Tryz.underlying5 Tryz.underlying9 (fun j hj => ?_)
  match j, hj with
  | 0, _ =>
    have := b8_ofNat hk
    unfold B8 at this
    rw [cell_new_one w (.int .u8 n) 5 0 (.int .u8 n) rfl, hn]
    exact congrArg some this.symm

theorem byte_kept {w W : World} {n : Int} {k : Nat} (hn : n = (k : Int)) (hk : k ≤ 255) (hb : Below (w.alloc (.cells #[.int .u8 n] 5)).drew.heap.size (w.alloc (.cells #[.int .u8 n] 5)).drew W) :
    Sem.run Tryz.prog (convert 75 9 (.slice (some ⟨w.heap.size, 0, none⟩) 1 1)) W = .ok (.string ⟨#[UInt8.ofNat k]⟩) W := by
  refine run_convert_bytes_back _ 75 9 5 ⟨w.heap.size, 0, none⟩ 1 [UInt8.ofNat k] Tryz.underlying75 Tryz.underlying5 Tryz.underlying9 (fun j hj => ?_)
  match j, hj with
  | 0, _ =>
    have := b8_ofNat hk
    unfold B8 at this
    have e : (w.alloc (.cells #[.int .u8 n] 5)).drew.cell? ((⟨w.heap.size, 0, none⟩ : Addr).add 0) = some (.int .u8 n) := cell_new_one w (.int .u8 n) 5 0 (.int .u8 n) rfl
    rw [hb.cell (p := (⟨w.heap.size, 0, none⟩ : Addr).add 0) (show w.heap.size < (w.alloc (.cells #[.int .u8 n] 5)).heap.size by simp), e, hn]
    exact congrArg some this.symm

theorem below_anyN {w wr w1 : World} (hb : Below w.heap.size w wr) (hb1 : Below wr.drew.heap.size wr.drew w1) : Below w.heap.size w w1 := hb.drew.trans (hb1.mono hb.size)

set_option maxRecDepth 20000 in
set_option maxHeartbeats 1000000 in
theorem l1Num_any : ∀ (m : Nat) (n : Nat) (w : World), n ≤ m → n < 1000000000000000000 →
    Calls Tryz.prog 27 #[.int .i64 (n : Int)] w fun e w' => e = .returned (.string ⟨(numL n).toArray⟩) ∧ Below w.heap.size w w' := by
  intro m
  induction m with
  | zero =>
    intro n w hm hn
    have h10 : n < 10 := by omega
    have HN : Hid (numL n = [UInt8.ofNat (48 + n)]) := numL_small h10
    have hconv := byte_new (w := w) (n := 48 + (n : Int)) (k := 48 + n) (by omega) (by omega)
    go_enter Tryz.func27, Tryz.ntmps27
    go_wp2_with fail
    go_ret
    exact ⟨congrArg Ending.returned (val_strM (by rw [HN.out]; simp)), (Below.refl _ _).alloc (Nat.le_refl _) _⟩
  | succ m ih =>
    intro n w hm hn
    by_cases h10 : n < 10
    · have HN : Hid (numL n = [UInt8.ofNat (48 + n)]) := numL_small h10
      have hconv := byte_new (w := w) (n := 48 + (n : Int)) (k := 48 + n) (by omega) (by omega)
      go_enter Tryz.func27, Tryz.ntmps27
      go_wp2_with fail
      go_ret
      exact ⟨congrArg Ending.returned (val_strM (by rw [HN.out]; simp)), (Below.refl _ _).alloc (Nat.le_refl _) _⟩
    · have HN : Hid (numL n = numL (n / 10) ++ [UInt8.ofNat (48 + n % 10)]) := numL_big h10
      have hl := numL_length 17 (n / 10) (by omega)
      have HIH0 := fun W => ih (n / 10) W (by omega) (by omega)
      obtain ⟨q, hq⟩ : ∃ q, q = n / 10 := ⟨_, rfl⟩
      have hqi : (n : Int) / 10 = (q : Int) := by omega
      have HQ : Hid ((n : Int) / 10 = (q : Int)) := hqi
      rw [← hq] at HN HIH0 hl
      obtain ⟨z, hz⟩ : ∃ z, z = numL q := ⟨_, rfl⟩
      rw [← hz] at HN HIH0 hl
      have HIH : Hid (∀ W, Calls Tryz.prog 27 #[.int .i64 (q : Int)] W fun e w' => e = .returned (.string ⟨z.toArray⟩) ∧ Below W.heap.size W w') := HIH0
      obtain ⟨d, hd⟩ : ∃ d, d = 48 + n % 10 := ⟨_, rfl⟩
      have hdi : IntKind.u8.wrap (IntKind.i64.wrap (48 + (n : Int).tmod 10)) = (d : Int) := by
        rw [Int.tmod_eq_emod_of_nonneg (by omega), wrap_small _ (by omega) (by omega), IntKind.wrap_u8]; omega
      have HWQ : Hid (IntKind.i64.wrap (q : Int) = (q : Int)) := wrap_small _ (by omega) (by omega)
      have hd5 : d ≤ 255 := by omega
      have HD : Hid (d = 48 + n % 10) := hd
      rw [← hd] at HN
      clear ih hz hq hqi HIH0 hd hn
      have HB : Hid (∀ W : World, Sem.run Tryz.prog (convert 75 9 (.slice (some ⟨W.heap.size, 0, none⟩) 1 1)) (W.alloc (.cells #[.int .u8 (IntKind.u8.wrap (IntKind.i64.wrap (48 + (n : Int).tmod 10)))] 5)) = .ok (.string ⟨#[UInt8.ofNat d]⟩) (W.alloc (.cells #[.int .u8 (IntKind.u8.wrap (IntKind.i64.wrap (48 + (n : Int).tmod 10)))] 5))) := fun W => byte_new hdi hd5
      have HBK : Hid (∀ W2 : World, Below (w.alloc (.cells #[.int .u8 (IntKind.u8.wrap (IntKind.i64.wrap (48 + (n : Int).tmod 10)))] 5)).drew.heap.size (w.alloc (.cells #[.int .u8 (IntKind.u8.wrap (IntKind.i64.wrap (48 + (n : Int).tmod 10)))] 5)).drew W2 → Sem.run Tryz.prog (convert 75 9 (.slice (some ⟨w.heap.size, 0, none⟩) 1 1)) W2 = .ok (.string ⟨#[UInt8.ofNat d]⟩) W2) := fun W2 hb => byte_kept hdi hd5 hb
      have hconv1 := HBK.out _ (Below.refl _ _)
      clear hdi
      go_enter Tryz.func27, Tryz.ntmps27
      go_wp2_with fail
      go_region_with (go_at_call 27; rw [HQ.out, HWQ.out]; refine (HIH.out _).mono ?_; rintro e w1 ⟨rfl, hb1⟩; (first | have hconv2 := HBK.out _ hb1 | have hconv2 := HB.out w1))
      all_goals
        go_wp2_with fail
        go_ret
        refine ⟨congrArg Ending.returned (val_strM (by rw [HN.out]; simp)), ?_⟩
        first
        | exact below_anyN ((Below.refl _ _).alloc (Nat.le_refl _) _) hb1
        | exact (below_anyN (Below.refl _ _) hb1).alloc (below_anyN (Below.refl _ _) hb1).size _

theorem dig_step {l : List UInt8} {k : Nat} (h : (l.take k).all digB = true) (hk : k < l.length) (ho : digB l[k] = true) : (l.take (k + 1)).all digB = true := by
  rw [List.take_succ_eq_append_getElem hk]; simp only [List.all_append, h, List.all_cons, ho, List.all_nil, Bool.and_true]
theorem dig_full {l : List UInt8} {k : Nat} (h : (l.take k).all digB = true) (hk : ¬ k < l.length) : l.all digB = true := by
  rwa [List.take_of_length_le (by omega)] at h
theorem dig_not {l : List UInt8} {k : Nat} (hk : k < l.length) (ho : digB l[k] = false) : l.all digB = false := by
  rw [Bool.eq_false_iff]; intro h
  have := List.all_eq_true.1 h l[k] (List.getElem_mem _)
  rw [ho] at this; cases this
theorem intV_bad {l : List UInt8} (h : l.all digB = false) : intV l = -1 := by unfold intV; rw [if_neg]; rintro ⟨_, _, _, h4⟩; rw [h] at h4; cases h4
theorem pow10 {k : Nat} (h : k ≤ 10) : 10 ^ k ≤ 10000000000 := Nat.le_trans (Nat.pow_le_pow_right (by omega) h) (by decide)

set_option maxRecDepth 20000 in
set_option maxHeartbeats 1000000 in
theorem l1Int_any (s : ByteArray) (w : World) (hs : s.size ≤ 4294967280) :
    Calls Tryz.prog 55 #[.string s] w fun e w' => e = .returned (.int .i64 (intV s.data.toList)) ∧ w' = w := by
  have HLEN : Hid (s.data.toList.length = s.size) := (by simp : s.data.toList.length = s.size)
  by_cases hin : 1 ≤ s.size ∧ s.size ≤ 10
  · have hin1 := hin.1
    have hin2 := hin.2
    have hd : (decide ((1 : Int) ≤ (s.size : Int)) && decide ((s.size : Int) ≤ 10)) = true := by
      rw [decide_eq_true (show (1 : Int) ≤ (s.size : Int) by omega), decide_eq_true (show (s.size : Int) ≤ 10 by omega)]; rfl
    have HD : Hid ((decide ((1 : Int) ≤ (s.size : Int)) && decide ((s.size : Int) ≤ 10)) = true) := hd
    clear hd hin
    have h0lt : 0 < s.size := by omega
    have HHEAD : Hid (s.data.toList.head? = some s[0]) := by
      rw [List.head?_eq_getElem?, List.getElem?_eq_getElem (by rw [HLEN.out]; exact h0lt)]; exact rfl
    by_cases hz : s[0] = 48 ∧ 1 < s.size
    · have HR : Hid (intV s.data.toList = -1) := by
        unfold intV; rw [if_neg]; exact rfl
        rintro ⟨_, _, h3, _⟩; exact h3 ⟨by rw [HHEAD.out, hz.1], by rw [HLEN.out]; exact hz.2⟩
      have e1 : ((s[0].toNat : Int) == 48) = true := by rw [hz.1]; rfl
      have hz2 := hz.2
      clear hz
      go_enter Tryz.func55, Tryz.ntmps55
      go_wp2_with fail
      refine (l1In_any _ _ _ _).mono ?_
      rintro e w1 ⟨rfl, rfl⟩
      rw [HD.out]
      go_wp2_with fail
      go_ret
      exact ⟨ret_int HR.out.symm, rfl⟩
    · have HZ : Hid (¬ (s.data.toList.head? = some 48 ∧ 1 < s.data.toList.length)) := by
        rintro ⟨h1, h2⟩
        rw [HHEAD.out] at h1
        rw [HLEN.out] at h2
        exact hz ⟨Option.some.inj h1, h2⟩
      by_cases h48 : s[0] = 48
      · have e1 : ((s[0].toNat : Int) == 48) = true := by rw [h48]; rfl
        have h1s : s.size ≤ 1 := by
          by_cases e : 1 < s.size
          · exact absurd ⟨h48, e⟩ hz
          · omega
        clear hz h48
        go_enter Tryz.func55, Tryz.ntmps55
        go_wp2_with fail
        refine (l1In_any _ _ _ _).mono ?_
        rintro e w1 ⟨rfl, rfl⟩
        rw [HD.out]
        go_wp2_with fail
        go_loop [3, 4] (fun n i => ∃ k : Nat, k ≤ s.size ∧ i = .int .i64 (k : Int) ∧ n = .int .i64 ((decV (s.data.toList.take k) : Nat) : Int) ∧ Hid ((s.data.toList.take k).all digB = true)) (fun _ i => s.size - (intOf i).toNat)
        case atStart => exact ⟨0, Nat.zero_le _, rfl, rfl, rfl⟩
        case round =>
          obtain ⟨k, hk, rfl, rfl, HA⟩ := hrel
          have hlt10 := decV_lt s.data.toList k HA.out
          have hp10 := pow10 (k := k) (by omega)
          have hdv : decV (s.data.toList.take k) < 10000000000 := by omega
          clear hlt10 hp10
          by_cases hlt : k < s.size
          · have hkl : k < s.data.toList.length := by rw [HLEN.out]; exact hlt
            have hc255 : s[k].toNat < 256 := s[k].toNat_lt
            have HST : Hid (decV (s.data.toList.take (k + 1)) = 10 * decV (s.data.toList.take k) + (s[k].toNat - 48)) := decV_snoc s.data.toList k hkl
            have HNO : Hid (digB s[k] = false → intV s.data.toList = -1) := fun h => intV_bad (dig_not hkl h)
            have HYES : Hid (digB s[k] = true → (s.data.toList.take (k + 1)).all digB = true) := fun h => dig_step HA.out hkl h
            obtain ⟨v, hv⟩ : ∃ v, v = decV (s.data.toList.take k) := ⟨_, rfl⟩
            rw [← hv] at hdv HST ⊢
            clear hv
            rcases (show (s[k].toNat : Int) < 48 ∨ (57 : Int) < (s[k].toNat : Int) ∨ ((48 : Int) ≤ (s[k].toNat : Int) ∧ (s[k].toNat : Int) ≤ 57) by omega) with g | g | ⟨g1, g2⟩
            · have HR : Hid (intV s.data.toList = -1) := HNO.out (by unfold digB; rw [decide_eq_false (by omega)]; rfl)
              go_wp2_with fail
              go_ret
              exact ⟨ret_int HR.out.symm, rfl⟩
            · have HR : Hid (intV s.data.toList = -1) := HNO.out (by unfold digB; rw [decide_eq_false (p := s[k].toNat ≤ 57) (by omega), Bool.and_false])
              go_wp2_with fail
              go_ret
              exact ⟨ret_int HR.out.symm, rfl⟩
            · have HAN : Hid ((s.data.toList.take (k + 1)).all digB = true) := HYES.out (by unfold digB; rw [decide_eq_true (by omega), decide_eq_true (by omega)]; rfl)
              have hsub : 48 ≤ s[k].toNat := by omega
              go_wp2_with fail
              go_round
              case rel => exact ⟨k + 1, by omega, by go_num, by rw [HST.out]; congr 1; omega, HAN⟩
              case measure => simp [intOf]; omega
          · have hfull : s.data.toList.take k = s.data.toList := List.take_of_length_le (by rw [HLEN.out]; omega)
            have HR : Hid (intV s.data.toList = ((decV (s.data.toList.take k) : Nat) : Int)) := by
              have h1 := dig_full HA.out (by rw [HLEN.out]; exact hlt)
              rw [hfull]
              exact if_pos ⟨by rw [HLEN.out]; exact hin1, by rw [HLEN.out]; exact hin2, HZ.out, h1⟩
            clear hfull
            obtain ⟨v, hv⟩ : ∃ v, v = decV (s.data.toList.take k) := ⟨_, rfl⟩
            rw [← hv] at hdv HR ⊢
            clear hv
            go_wp2_with fail
            go_ret
            exact ⟨ret_int HR.out.symm, rfl⟩
      · have e1 : ((s[0].toNat : Int) == 48) = false := by
          rw [beq_eq_false_iff_ne]; intro h; exact h48 (UInt8.toNat_inj.1 (by show s[0].toNat = 48; omega))
        clear hz h48
        go_enter Tryz.func55, Tryz.ntmps55
        go_wp2_with fail
        refine (l1In_any _ _ _ _).mono ?_
        rintro e w1 ⟨rfl, rfl⟩
        rw [HD.out]
        go_wp2_with fail
        go_loop [3, 4] (fun n i => ∃ k : Nat, k ≤ s.size ∧ i = .int .i64 (k : Int) ∧ n = .int .i64 ((decV (s.data.toList.take k) : Nat) : Int) ∧ Hid ((s.data.toList.take k).all digB = true)) (fun _ i => s.size - (intOf i).toNat)
        case atStart => exact ⟨0, Nat.zero_le _, rfl, rfl, rfl⟩
        case round =>
          obtain ⟨k, hk, rfl, rfl, HA⟩ := hrel
          have hlt10 := decV_lt s.data.toList k HA.out
          have hp10 := pow10 (k := k) (by omega)
          have hdv : decV (s.data.toList.take k) < 10000000000 := by omega
          clear hlt10 hp10
          by_cases hlt : k < s.size
          · have hkl : k < s.data.toList.length := by rw [HLEN.out]; exact hlt
            have hc255 : s[k].toNat < 256 := s[k].toNat_lt
            have HST : Hid (decV (s.data.toList.take (k + 1)) = 10 * decV (s.data.toList.take k) + (s[k].toNat - 48)) := decV_snoc s.data.toList k hkl
            have HNO : Hid (digB s[k] = false → intV s.data.toList = -1) := fun h => intV_bad (dig_not hkl h)
            have HYES : Hid (digB s[k] = true → (s.data.toList.take (k + 1)).all digB = true) := fun h => dig_step HA.out hkl h
            obtain ⟨v, hv⟩ : ∃ v, v = decV (s.data.toList.take k) := ⟨_, rfl⟩
            rw [← hv] at hdv HST ⊢
            clear hv
            rcases (show (s[k].toNat : Int) < 48 ∨ (57 : Int) < (s[k].toNat : Int) ∨ ((48 : Int) ≤ (s[k].toNat : Int) ∧ (s[k].toNat : Int) ≤ 57) by omega) with g | g | ⟨g1, g2⟩
            · have HR : Hid (intV s.data.toList = -1) := HNO.out (by unfold digB; rw [decide_eq_false (by omega)]; rfl)
              go_wp2_with fail
              go_ret
              exact ⟨ret_int HR.out.symm, rfl⟩
            · have HR : Hid (intV s.data.toList = -1) := HNO.out (by unfold digB; rw [decide_eq_false (p := s[k].toNat ≤ 57) (by omega), Bool.and_false])
              go_wp2_with fail
              go_ret
              exact ⟨ret_int HR.out.symm, rfl⟩
            · have HAN : Hid ((s.data.toList.take (k + 1)).all digB = true) := HYES.out (by unfold digB; rw [decide_eq_true (by omega), decide_eq_true (by omega)]; rfl)
              have hsub : 48 ≤ s[k].toNat := by omega
              go_wp2_with fail
              go_round
              case rel => exact ⟨k + 1, by omega, by go_num, by rw [HST.out]; congr 1; omega, HAN⟩
              case measure => simp [intOf]; omega
          · have hfull : s.data.toList.take k = s.data.toList := List.take_of_length_le (by rw [HLEN.out]; omega)
            have HR : Hid (intV s.data.toList = ((decV (s.data.toList.take k) : Nat) : Int)) := by
              have h1 := dig_full HA.out (by rw [HLEN.out]; exact hlt)
              rw [hfull]
              exact if_pos ⟨by rw [HLEN.out]; exact hin1, by rw [HLEN.out]; exact hin2, HZ.out, h1⟩
            clear hfull
            obtain ⟨v, hv⟩ : ∃ v, v = decV (s.data.toList.take k) := ⟨_, rfl⟩
            rw [← hv] at hdv HR ⊢
            clear hv
            go_wp2_with fail
            go_ret
            exact ⟨ret_int HR.out.symm, rfl⟩
  · have HR : Hid (intV s.data.toList = -1) := by
      unfold intV; rw [if_neg]; exact rfl
      rintro ⟨h1, h2, _⟩; rw [HLEN.out] at h1 h2; exact hin ⟨h1, h2⟩
    have hd : (decide ((1 : Int) ≤ (s.size : Int)) && decide ((s.size : Int) ≤ 10)) = false := by
      simp only [Bool.and_eq_false_iff, decide_eq_false_iff_not]; omega
    have HD : Hid ((decide ((1 : Int) ≤ (s.size : Int)) && decide ((s.size : Int) ≤ 10)) = false) := hd
    clear hd hin
    go_enter Tryz.func55, Tryz.ntmps55
    go_wp2_with fail
    refine (l1In_any _ _ _ _).mono ?_
    rintro e w1 ⟨rfl, rfl⟩
    rw [HD.out]
    go_wp2_with fail
    go_ret
    exact ⟨ret_int HR.out.symm, rfl⟩
end Go.Proofs.YthmneeahncojjaaGreatDoor

namespace Go.Proofs.YthmneeahncojjaaGreatDoor
open Go.RowKit

theorem index_no {b : UInt8} : ∀ {l : List UInt8}, b ∉ l → Lib.index l [b] = -1
  | [], _ => by simp [Lib.index]
  | c :: l, h => by
    simp only [List.mem_cons, not_or] at h
    have hp : ([b] : List UInt8).isPrefixOf (c :: l) = false := by simp [List.isPrefixOf, h.1]
    rw [Lib.index, hp, index_no h.2]; simp
theorem index_at {b : UInt8} {r : List UInt8} : ∀ {a : List UInt8}, b ∉ a → Lib.index (a ++ b :: r) [b] = (a.length : Int)
  | [], _ => by rw [List.nil_append, Lib.index]; simp [List.isPrefixOf]
  | c :: a, h => by
    simp only [List.mem_cons, not_or] at h
    have hp : ([b] : List UInt8).isPrefixOf (c :: (a ++ b :: r)) = false := by simp [List.isPrefixOf, h.1]
    rw [List.cons_append, Lib.index, hp, index_at h.2]
    have : (((a.length : Int)) == -1) = false := by rw [beq_eq_false_iff_ne]; omega
    rw [this]; simp
theorem splitK_no {b : UInt8} {n : Nat} {l : List UInt8} (h : b ∉ l) : Lib.splitK [b] 0 n l = [l] := by
  cases n with
  | zero => rfl
  | succ n => rw [Lib.splitK, index_no h]; rfl
theorem splitK_at {b : UInt8} {n : Nat} {a r : List UInt8} (h : b ∉ a) : Lib.splitK [b] 0 (n + 1) (a ++ b :: r) = a :: Lib.splitK [b] 0 n r := by
  rw [Lib.splitK, index_at h]
  have : (((a.length : Int)) == -1) = false := by rw [beq_eq_false_iff_ne]; omega
  rw [this]
  simp only [Bool.false_eq_true, if_false, Int.toNat_natCast, Nat.add_zero, List.length_cons, List.length_nil, Nat.zero_add]
  rw [List.take_left', ← List.drop_drop, List.drop_left']
  · rfl
  · rfl
  · rfl
theorem cut_at {b : UInt8} {a r : List UInt8} (h : b ∉ a) : cut b (a ++ b :: r) = a :: cut b r := by
  rw [cut_append, cut_plain b a h]; rfl
theorem splitK_cut {b : UInt8} : ∀ (n : Nat) (l : List UInt8), (cut b l).length ≤ n + 1 → Lib.splitK [b] 0 n l = cut b l := by
  intro n
  induction n with
  | zero =>
    intro l h
    by_cases hm : b ∈ l
    · obtain ⟨a, r, rfl, ha⟩ := List.eq_append_cons_of_mem hm
      rw [cut_at ha] at h
      have := List.length_pos_iff.2 (cut_ne b r)
      simp only [List.length_cons] at h; omega
    · rw [splitK_no hm, cut_plain b l hm]
  | succ n ih =>
    intro l h
    by_cases hm : b ∈ l
    · obtain ⟨a, r, rfl, ha⟩ := List.eq_append_cons_of_mem hm
      rw [cut_at ha] at h ⊢
      rw [splitK_at ha, ih r (by simp only [List.length_cons] at h; omega)]
    · rw [splitK_no hm, cut_plain b l hm]
theorem splitK_long {b : UInt8} : ∀ (n : Nat) (l : List UInt8), n + 1 ≤ (cut b l).length → (Lib.splitK [b] 0 n l).length = n + 1 := by
  intro n
  induction n with
  | zero => intro l _; rfl
  | succ n ih =>
    intro l h
    by_cases hm : b ∈ l
    · obtain ⟨a, r, rfl, ha⟩ := List.eq_append_cons_of_mem hm
      rw [cut_at ha] at h
      rw [splitK_at ha, List.length_cons, ih r (by simp only [List.length_cons] at h; omega)]
    · rw [cut_plain b l hm] at h; simp at h
theorem split4 {b : UInt8} {l : List UInt8} {N : Nat} (hN : N = min 5 (l.length + 1) - 1) :
    ((Lib.splitK [b] 0 N l).length = 4 ↔ (cut b l).length = 4) ∧ ((cut b l).length = 4 → Lib.splitK [b] 0 N l = cut b l) := by
  have hc := cut_length_le b l
  by_cases h : (cut b l).length ≤ N + 1
  · have e := splitK_cut N l h
    rw [e]; exact ⟨Iff.rfl, fun _ => rfl⟩
  · have e := splitK_long (b := b) N l (by omega)
    rw [e]
    refine ⟨⟨fun h4 => ?_, fun h4 => ?_⟩, fun h4 => ?_⟩ <;> omega
theorem split_three {b : UInt8} {l : List UInt8} (h : 4 ≤ (cut b l).length) : ∃ p q t r, l = p ++ b :: (q ++ b :: (t ++ b :: r)) ∧ cut b l = p :: q :: t :: cut b r ∧ Lib.splitK [b] 0 3 l = [p, q, t, r] := by
  have step : ∀ {l : List UInt8}, 2 ≤ (cut b l).length → ∃ a r, l = a ++ b :: r ∧ b ∉ a ∧ cut b l = a :: cut b r := by
    intro l h
    by_cases hm : b ∈ l
    · obtain ⟨a, r, rfl, ha⟩ := List.eq_append_cons_of_mem hm
      exact ⟨a, r, rfl, ha, cut_at ha⟩
    · rw [cut_plain b l hm] at h; simp at h
  obtain ⟨p, r1, e1, hp, c1⟩ := step (l := l) (by omega)
  rw [c1, List.length_cons] at h
  obtain ⟨q, r2, e2, hq, c2⟩ := step (l := r1) (by omega)
  rw [c2, List.length_cons] at h
  obtain ⟨t, r3, e3, ht, c3⟩ := step (l := r2) (by omega)
  refine ⟨p, q, t, r3, by rw [e1, e2, e3], by rw [c1, c2, c3], ?_⟩
  rw [e1, splitK_at hp, e2, splitK_at hq, e3, splitK_at ht]; rfl
/-- What strings.Cut tells at one byte, by the cutting. -/
theorem libCut_no {b : UInt8} {l : List UInt8} (h : b ∉ l) : Lib.cut l [b] = (l, [], false) := by
  unfold Lib.cut; rw [index_no h]; rfl
theorem libCut_at {b : UInt8} {a r : List UInt8} (h : b ∉ a) : Lib.cut (a ++ b :: r) [b] = (a, r, true) := by
  unfold Lib.cut; rw [index_at h]
  have e1 : (a ++ b :: r).take a.length = a := List.take_left' rfl
  have e2 : (a ++ b :: r).drop (a.length + 1) = r := by rw [← List.drop_drop, List.drop_left' rfl]; rfl
  simp [e1, e2]
end Go.Proofs.YthmneeahncojjaaGreatDoor

namespace Go.Proofs.YthmneeahncojjaaGreatDoor
open Go.RowKit

set_option maxRecDepth 20000 in
set_option maxHeartbeats 1000000 in
theorem l1Join_any (v : Value) (P : List (List UInt8)) (w : World) (hr : Row w v P) (hl : Hid ((joinD P).length ≤ 1048576)) :
    Calls Tryz.prog 82 #[v] w fun e w' => e = .returned (.string ⟨(joinD P).toArray⟩) ∧ w' = w := by
  obtain ⟨a, cap, rfl, hcap, hmax, HROW⟩ := row_value hr
  clear hr
  go_enter Tryz.func82, Tryz.ntmps82
  go_wp2_with fail
  go_loop [3, 8] (fun v i => ∃ k : Nat, k ≤ P.length ∧ i = .int .i64 k ∧ v = .string ⟨(joinD (P.take k)).toArray⟩) (fun _ i => P.length - (intOf i).toNat)
  case atStart => exact ⟨0, Nat.zero_le _, rfl, rfl⟩
  case round =>
    obtain ⟨k, hk, rfl, rfl⟩ := hrel
    have hjl : (joinD (P.take k)).length ≤ 1048576 := Nat.le_trans (joinD_take_le P k) hl.out
    by_cases hlt : k < P.length
    · obtain ⟨b, o, ha, hbl, hc⟩ := HROW.out (by omega)
      rw [ha]
      have hcx := hc k hlt
      have hxl := joinD_take_le P (k + 1)
      have hlo := hl.out
      obtain ⟨x, hx⟩ : ∃ x, x = P[k]'hlt := ⟨_, rfl⟩
      rw [← hx] at hcx
      unfold S at hcx
      clear hc
      by_cases h0 : k = 0
      · subst h0
        rw [Nat.add_zero] at hcx
        have hJ := joinD_one P hlt
        rw [← hx] at hJ
        rw [show 0 + 1 = 1 from rfl, hJ] at hxl
        have HJ : Hid (joinD (P.take 1) = x) := hJ
        obtain ⟨z, hz⟩ : ∃ z, z = joinD (P.take 0) := ⟨_, rfl⟩
        rw [← hz] at hjl ⊢
        have HZ : Hid (z = []) := by rw [hz]; exact (by simp [joinD] : joinD (P.take 0) = [])
        clear hJ hx hz
        go_wp2_with fail
        go_round
        case rel => exact ⟨1, by omega, by go_num, val_strJ (by rw [HJ.out, HZ.out]; simp)⟩
        case measure => simp [intOf]; omega
      · have hJ := joinD_step P k (by omega) hlt
        rw [← hx] at hJ
        rw [hJ] at hxl
        have HJ : Hid (joinD (P.take (k + 1)) = joinD (P.take k) ++ [46] ++ x) := hJ
        simp only [List.length_append, List.length_cons, List.length_nil] at hxl
        have hk0 : (0 : Int) < (k : Int) := by omega
        obtain ⟨z, hz⟩ : ∃ z, z = joinD (P.take k) := ⟨_, rfl⟩
        rw [← hz] at hxl hjl HJ ⊢
        clear hJ hx hz
        go_wp2_with fail
        go_round
        case rel => exact ⟨k + 1, by omega, by go_num, val_strJ (by rw [HJ.out]; simp)⟩
        case measure => simp [intOf]; omega
    · have hfull : Hid (P.take k = P) := List.take_of_length_le (by omega)
      go_wp2_with fail
      go_ret
      exact ⟨ret_S (by rw [hfull.out]), rfl⟩

set_option maxRecDepth 20000 in
set_option maxHeartbeats 1000000 in
theorem iNameOf_any (v : Value) (P : List (List UInt8)) (w : World) (hr : Row w v P) (hl : Hid (P.length + tot P ≤ 1048576)) (hE : Env w) :
    Calls Tryz.prog 109 #[v] w fun e w' => e = .returned (.tuple #[.string ⟨(nameOfT P).toArray⟩, .bool (nameOfB P)]) ∧ Below w.heap.size w w' := by
  have HJL : Hid ((joinD P).length ≤ 1048576) := by have := joinD_tot P; have := hl.out; exact (show (joinD P).length ≤ 1048576 by omega)
  have HPL : Hid (∀ p ∈ P, p.length ≤ maxLen) := fun p hp => by have := tot_one hp; have := hl.out; unfold maxLen; omega
  have hT := hE.1
  cases hA : areB P with
  | false =>
    have HA : Hid (areB P = false) := hA
    have HN : Hid (nameOfB P = false) := by rw [nameOf_eq, hA]; exact rfl
    clear hA
    go_enter Tryz.func109, Tryz.ntmps109
    go_wp2_with fail
    refine (areLabels_any v P w hT hr HPL).mono ?_
    rintro e w1 ⟨rfl, hb1⟩
    rw [HA.out]
    go_wp2_with fail
    go_ret2
    exact ⟨ret_two (by unfold nameOfT; rw [HN.out]; rfl) (val_bool HN.out.symm), hb1⟩
  | true =>
    have HA : Hid (areB P = true) := hA
    have HN : Hid (nameOfB P = decide ((joinD P).length ≤ 60)) := by rw [nameOf_eq, hA, Bool.true_and]; exact rfl
    clear hA
    go_enter Tryz.func109, Tryz.ntmps109
    go_wp2_with fail
    refine (areLabels_any v P w hT hr HPL).mono ?_
    rintro e w1 ⟨rfl, hb1⟩
    rw [HA.out]
    have hr1 := hr.kept hb1
    go_wp2_with fail
    refine (joinLabels_any v P w1 hr1 HJL).mono ?_
    rintro e w2 ⟨rfl, hb2⟩
    have hbb := hb1.trans (hb2.mono hb1.size)
    have hjl := HJL.out
    obtain ⟨x, hx⟩ : ∃ x, x = joinD P := ⟨_, rfl⟩
    rw [← hx] at HN hjl ⊢
    have HX : Hid (x = joinD P) := hx
    clear hx hb1 hb2 hr hr1
    by_cases h60 : (60 : Int) < (x.length : Int)
    · have HNN : Hid (nameOfB P = false) := by rw [HN.out]; exact decide_eq_false (by omega)
      go_wp2_with fail
      go_ret2
      exact ⟨ret_two (by unfold nameOfT; rw [HNN.out]; rfl) (val_bool HNN.out.symm), hbb⟩
    · have HNN : Hid (nameOfB P = true) := by rw [HN.out]; exact decide_eq_true (by omega)
      go_wp2_with fail
      go_ret2
      exact ⟨ret_two (by unfold nameOfT; rw [HNN.out, HX.out]; rfl) (val_bool HNN.out.symm), hbb⟩
end Go.Proofs.YthmneeahncojjaaGreatDoor

namespace Go.Proofs.YthmneeahncojjaaGreatDoor
open Go.RowKit

/-- Texts as they lie in a block of the call's own. -/
def SRow (w : World) (g : Nat) (P : List (List UInt8)) : Prop := g < w.heap.size ∧ ∀ j, (hj : j < P.length) → w.cell? ⟨g, j, none⟩ = some (S P[j]) ∧ w.frozen? ⟨g, j, none⟩ = false
theorem SRow.kept {w w' : World} {g : Nat} {P : List (List UInt8)} (h : SRow w g P) (hb : Below w.heap.size w w') : SRow w' g P :=
  ⟨Nat.lt_of_lt_of_le h.1 hb.size, fun j hj => by rw [hb.cell (p := ⟨g, j, none⟩) h.1, hb.frozen (p := ⟨g, j, none⟩) h.1]; exact h.2 j hj⟩
theorem SRow.set {w : World} {g : Nat} {P : List (List UInt8)} (h : SRow w g P) (k : Nat) (hk : k < P.length) (c : List UInt8) : SRow (w.setCell ⟨g, k, none⟩ (.string ⟨c.toArray⟩)) g (P.set k c) := by
  refine ⟨by simpa using h.1, fun j hj => ?_⟩
  have hj' : j < P.length := by simpa using hj
  refine ⟨?_, by simpa using (h.2 j hj').2⟩
  rw [List.getElem_set]
  split
  · rename_i e; subst e; exact World.cell?_setCell_same _ _ _ (h.2 k hk).1
  · rename_i e
    rw [World.cell?_setCell_other _ _ _ _ (show (⟨g, k, none⟩ : Addr) ≠ ⟨g, j, none⟩ by intro h; cases h; exact e rfl)]
    exact (h.2 j hj').1
theorem SRow.far {w : World} {g g' k : Nat} {P : List (List UInt8)} (h : SRow w g P) (hne : g' ≠ g) (u : Value) : SRow (w.setCell ⟨g', k, none⟩ u) g P := by
  refine ⟨by simpa using h.1, fun j hj => ⟨?_, by simpa using (h.2 j hj).2⟩⟩
  rw [World.cell?_setCell_other _ _ _ _ (show (⟨g', k, none⟩ : Addr) ≠ ⟨g, j, none⟩ by intro h; cases h; exact hne rfl)]
  exact (h.2 j hj).1
theorem SRow.row {w : World} {g cap : Nat} {P : List (List UInt8)} (h : SRow w g P) (hc : P.length ≤ cap) (hm : cap ≤ maxLen) : Row w (.slice (some ⟨g, 0, none⟩) P.length cap) P :=
  ⟨_, cap, rfl, hc, hm, .inr ⟨g, 0, rfl, h.1, fun j hj => by rw [Nat.zero_add]; exact (h.2 j hj).1⟩⟩
theorem srow_own {w : World} {base g cap n : Nat} {P : List (List UInt8)} (h : w.ownsRow base 9 1 (.slice (some ⟨g, 0, none⟩) n cap) n (P.map S)) (hn : n = P.length) : SRow w g P := by
  subst hn
  refine ⟨(h.lt g rfl).2, fun j hj => ⟨?_, h.frozenAt j⟩⟩
  rw [h.cellAt j (by omega), List.getElem?_map, List.getElem?_eq_getElem hj]; rfl

set_option maxRecDepth 20000 in
set_option maxHeartbeats 1000000 in
theorem szStringS_any (v : Value) (P : List (List UInt8)) (w : World) (hr : Row w v P) (hl : Hid (∀ p ∈ P, p.length ≤ maxLen)) :
    Calls Tryz.prog 77 #[v, .int .i64 1048576] w fun e w' => ∃ r : Int, e = .returned (.int .i64 r) ∧ (0 ≤ r → P.length + tot P ≤ 1048576) ∧ w' = w := by
  obtain ⟨a, cap, rfl, hcap, hmax, HROW⟩ := row_value hr
  clear hr
  by_cases h0 : (1048576 : Int) - (P.length : Int) < 0
  · go_enter Tryz.func77, Tryz.ntmps77
    go_wp2_with fail
    go_ret
    refine ⟨_, rfl, ?_, rfl⟩
    intro h; exact absurd h (by decide)
  · go_enter Tryz.func77, Tryz.ntmps77
    go_wp2_with fail
    go_loop [1, 5] (fun l i => ∃ (k : Nat) (x : Int), k ≤ P.length ∧ i = .int .i64 k ∧ l = .int .i64 x ∧ 0 ≤ x ∧ x ≤ 1048576 ∧ Hid (x = 1048576 - P.length - tot (P.take k))) (fun _ i => P.length - (intOf i).toNat)
    case atStart => exact ⟨0, _, Nat.zero_le _, rfl, rfl, by omega, by omega, by show _ = _; simp [tot]⟩
    case round =>
      obtain ⟨k, x, hk, rfl, rfl, hx0, hx1, HX⟩ := hrel
      by_cases hlt : k < P.length
      · obtain ⟨b, o, ha, hbl, hc⟩ := HROW.out (by omega)
        rw [ha]
        have hcx := hc k hlt
        have hpl := hl.out (P[k]'hlt) (List.getElem_mem _)
        have HT := tot_snoc P k hlt
        obtain ⟨y, hy⟩ : ∃ y, y = P[k]'hlt := ⟨_, rfl⟩
        rw [← hy] at hcx hpl HT
        have HTT : Hid (tot (P.take (k + 1)) = tot (P.take k) + y.length) := HT
        unfold S at hcx
        unfold maxLen at hpl
        clear hc hy HT
        by_cases hneg : x - (y.length : Int) < 0
        · go_wp2_with fail
          go_ret
          refine ⟨_, rfl, ?_, rfl⟩
          intro h; exact absurd h (by decide)
        · go_wp2_with fail
          go_round
          case rel => exact ⟨k + 1, x - y.length, by omega, by go_num, by go_num, by omega, by omega, by show _ = _; rw [HTT.out, HX.out]; omega⟩
          case measure => simp [intOf]; omega
      · have HF := tot_full P k hlt
        have HFF : Hid (tot (P.take k) = tot P) := HF
        clear HF
        go_wp2_with fail
        go_ret
        refine ⟨_, rfl, ?_, rfl⟩
        intro h
        have h1 := HX.out
        have h2 := HFF.out
        omega
end Go.Proofs.YthmneeahncojjaaGreatDoor

namespace Go.Proofs.YthmneeahncojjaaGreatDoor
open Go.RowKit

/-- What has been copied behind k rounds. -/
def part (P : List (List UInt8)) (k : Nat) : List (List UInt8) := P.take k ++ List.replicate (P.length - k) []
theorem part_length (P : List (List UInt8)) (k : Nat) (h : k ≤ P.length) : (part P k).length = P.length := by simp [part]; omega
theorem part_next (P : List (List UInt8)) (k : Nat) (h : k < P.length) : part P (k + 1) = (part P k).set k P[k] := by
  unfold part
  have hm : (P.take k).length = k := by simp; omega
  rw [List.take_succ_eq_append_getElem h, List.set_append_right _ _ (by omega), hm, Nat.sub_self]
  obtain ⟨m, hm2⟩ : ∃ m, P.length - k = m + 1 := ⟨P.length - k - 1, by omega⟩
  rw [hm2, show P.length - (k + 1) = m by omega, List.replicate_succ]
  simp only [List.set_cons_zero, List.append_assoc, List.singleton_append]
theorem part_end (P : List (List UInt8)) : part P P.length = P := by simp [part]

theorem made_srow {w w1 : World} {P : List (List UInt8)} (h : w1.ownsRow w.heap.size 9 1 (.slice (some ⟨w.heap.size, 0, none⟩) P.length P.length) P.length (madeCells #[.string ByteArray.empty] P.length).toList) : SRow w1 w.heap.size (part P 0) := by
  have e : (madeCells #[.string ByteArray.empty] P.length).toList = (part P 0).map S := by
    rw [← Lib.cellsOf_nil P.length]
    simp [Lib.cellsOf, part, S]
    right; rfl
  rw [e] at h
  exact srow_own h (by simp [part])

set_option maxRecDepth 20000 in
set_option maxHeartbeats 1000000 in
theorem toStringS_any (v : Value) (P : List (List UInt8)) (w : World) (hr : Row w v P) (hl : P.length ≤ 1048576) :
    Calls Tryz.prog 78 #[v] w fun e w' => e = .returned (.slice (some ⟨w.heap.size, 0, none⟩) P.length P.length) ∧ SRow w' w.heap.size P ∧ Below w.heap.size w w' := by
  obtain ⟨i0, hi, hz0, hz1, hz2⟩ := info_parts info_string
  obtain ⟨a, cap, rfl, hcap, hmax, HROW⟩ := row_value hr
  clear hr
  go_enter Tryz.func78, Tryz.ntmps78
  go_wp2_with (at_make; refine wpList_make_full _ rfl _ _ 66 rfl w.heap.size 9 i0 (.string ByteArray.empty) 1 Tryz.underlying66 hi hz0 hz1 _ _ _ _ P.length rfl rfl rfl rfl ?b2 ?b3 ?b4 ?_)
  case b2 => rw [hz2]; omega
  case b3 => unfold maxLen; omega
  case b4 => exact Nat.le_refl _
  intro w1 hown hgrow
  have hb1 : Below w.heap.size w w1 := (Below.refl _ _).grown hgrow (Nat.le_refl _) (fun k h => by cases h)
  have hs1 := made_srow (w := w) (P := P) hown
  have HS1 : Hid (SRow w1 w.heap.size (part P 0)) := hs1
  clear hown hgrow hs1
  go_wp2_with fail
  go_loopw [4] (fun i wr => ∃ k : Nat, k ≤ P.length ∧ i = .int .i64 k ∧ Hid (SRow wr w.heap.size (part P k)) ∧ Below w.heap.size w wr) (fun i _ => P.length - (intOf i).toNat)
  case atStart => exact ⟨0, Nat.zero_le _, rfl, HS1, hb1⟩
  case round =>
    obtain ⟨k, hk, rfl, HR, hb⟩ := hrel
    by_cases hlt : k < P.length
    · obtain ⟨b, o, ha, hbl, hc⟩ := HROW.out (by omega)
      rw [ha]
      have hcx := hc k hlt
      rw [← hb.cell (p := ⟨b, o + k, none⟩) hbl] at hcx
      have hpk := HR.out.2 k (by rw [part_length P k hk]; exact hlt)
      have hcg := hpk.1
      have hfg := hpk.2
      have hset := HR.out.set k (by rw [part_length P k hk]; exact hlt) (P[k]'hlt)
      rw [← part_next P k hlt] at hset
      obtain ⟨y, hy⟩ : ∃ y, y = P[k]'hlt := ⟨_, rfl⟩
      rw [← hy] at hcx hset
      have HSS : Hid (SRow (wr.setCell ⟨w.heap.size, k, none⟩ (.string ⟨y.toArray⟩)) w.heap.size (part P (k + 1))) := hset
      unfold S at hcx hcg
      clear hc hset hpk hy
      go_wp2_with fail
      go_roundw
      case rel => exact ⟨k + 1, by omega, by go_num, HSS, hb.setCell (p := ⟨w.heap.size, k, none⟩) (Nat.le_refl _) _⟩
      case measure => simp [intOf]; omega
    · have hkk : k = P.length := by omega
      have HF : Hid (SRow wr w.heap.size P) := by have := HR.out; rw [hkk, part_end] at this; exact this
      clear hkk
      go_wp2_with fail
      go_ret
      exact ⟨rfl, HF.out, hb⟩

set_option maxRecDepth 20000 in
set_option maxHeartbeats 1000000 in
theorem eqStringS_any (va vb : Value) (A B : List (List UInt8)) (w : World) (hra : Row w va A) (hrb : Row w vb B) :
    Calls Tryz.prog 76 #[va, vb] w fun e w' => e = .returned (.bool (A == B)) ∧ Below w.heap.size w w' := by
  obtain ⟨aa, ca, rfl, hca, hma, HA⟩ := row_value hra
  obtain ⟨ab, cb, rfl, hcb, hmb, HB⟩ := row_value hrb
  clear hra hrb
  by_cases hl : A.length = B.length
  · have e0 : ((A.length : Int) != (B.length : Int)) = false := by simp; omega
    have HL : Hid (A.length = B.length) := hl
    have hl1 : A.length ≤ B.length := by omega
    have hl2 : B.length ≤ A.length := by omega
    clear hl
    go_enter Tryz.func76, Tryz.ntmps76
    go_wp2_with fail
    go_loopw [5] (fun i wr => ∃ k : Nat, k ≤ A.length ∧ i = .int .i64 k ∧ Hid (A.take k = B.take k) ∧ Below w.heap.size w wr) (fun i _ => A.length - (intOf i).toNat)
    case atStart => exact ⟨0, Nat.zero_le _, rfl, rfl, Below.refl _ _⟩
    case round =>
      obtain ⟨k, hk, rfl, HK, hb⟩ := hrel
      by_cases hlt : k < A.length
      · have hltB : k < B.length := by omega
        obtain ⟨ba, oa, ha, hba, hcA⟩ := HA.out (by omega)
        obtain ⟨bb, ob, hb', hbb, hcB⟩ := HB.out (by omega)
        rw [ha, hb']
        have cA := hcA k hlt
        have cB := hcB k hltB
        rw [← hb.cell (p := ⟨ba, oa + k, none⟩) hba] at cA
        rw [← hb.cell (p := ⟨bb, ob + k, none⟩) hbb] at cB
        have HT : Hid (A.take (k + 1) = A.take k ++ [A[k]'hlt] ∧ B.take (k + 1) = B.take k ++ [B[k]'hltB]) := ⟨List.take_succ_eq_append_getElem hlt, List.take_succ_eq_append_getElem hltB⟩
        have HNE : Hid (A[k]'hlt ≠ B[k]'hltB → A ≠ B) := fun h e => by subst e; exact h rfl
        obtain ⟨x, hx⟩ : ∃ x, x = A[k]'hlt := ⟨_, rfl⟩
        obtain ⟨y, hy⟩ : ∃ y, y = B[k]'hltB := ⟨_, rfl⟩
        rw [← hx] at cA HT HNE
        rw [← hy] at cB HT HNE
        unfold S at cA cB
        clear hcA hcB hx hy
        by_cases hxy : x = y
        · subst hxy
          go_wp2_with fail
          go_quiet (fail)
          go_wp2_with fail
          go_roundw
          case rel => exact ⟨k + 1, by omega, by go_num, by show _ = _; rw [HT.out.1, HT.out.2, HK.out], below_drewN hb _⟩
          case measure => simp [intOf]; omega
        · have e1 : (x == y) = false := by simpa using hxy
          have HN : Hid (A ≠ B) := HNE.out hxy
          clear hxy HT HNE
          go_wp2_with fail
          go_quiet (fail)
          go_wp2_with fail
          go_ret
          exact ⟨ret_bool (by rw [beq_eq_false_iff_ne.2 HN.out]), below_drewN hb _⟩
      · have HE : Hid (A = B) := by
          have := HK.out
          rw [List.take_of_length_le (by omega), List.take_of_length_le (by omega)] at this; exact this
        go_wp2_with fail
        go_ret
        exact ⟨ret_bool (by rw [HE.out]; simp), hb⟩
  · have e0 : ((A.length : Int) != (B.length : Int)) = true := by simp; omega
    have HN : Hid (A ≠ B) := fun e => hl (by rw [e])
    clear hl
    go_enter Tryz.func76, Tryz.ntmps76
    go_wp2_with fail
    go_ret
    exact ⟨ret_bool (by rw [beq_eq_false_iff_ne.2 HN.out]), Below.refl _ _⟩
end Go.Proofs.YthmneeahncojjaaGreatDoor
