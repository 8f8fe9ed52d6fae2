import Derived.Lib.SplitLaws
namespace Go.Proofs.YtoobaaklklommaaGreatDoor
open Go Go.Lib

/-- A text cut at each of a byte. -/
def cut (b : UInt8) : List UInt8 → List (List UInt8)
  | [] => [[]]
  | c :: l => if c = b then [] :: cut b l else
    match cut b l with
    | [] => [[c]]
    | p :: r => (c :: p) :: r

theorem cut_ne (b : UInt8) : ∀ l, cut b l ≠ []
  | [] => by simp [cut]
  | c :: l => by
    unfold cut
    split
    · simp
    · split <;> simp

theorem cut_snoc (b c : UInt8) : ∀ l, ∃ r p, cut b l = r ++ [p] ∧ cut b (l ++ [c]) = if c = b then r ++ [p] ++ [[]] else r ++ [p ++ [c]]
  | [] => by
    refine ⟨[], [], rfl, ?_⟩
    by_cases h : c = b <;> simp [cut, h]
  | d :: l => by
    obtain ⟨r, p, h1, h2⟩ := cut_snoc b c l
    by_cases hd : d = b
    · refine ⟨[] :: r, p, by simp [cut, hd, h1], ?_⟩
      by_cases h : c = b
      · subst h; simp only [List.cons_append, cut, hd, h2, if_true]
      · simp only [List.cons_append, cut, hd, h2, h, if_true, if_false]
    · cases r with
      | nil =>
        refine ⟨[], d :: p, by simp [cut, hd, h1], ?_⟩
        by_cases h : c = b
        · subst h; simp [cut, hd, h2]
        · simp [cut, hd, h2, h]
      | cons q r =>
        refine ⟨(d :: q) :: r, p, by simp [cut, hd, h1], ?_⟩
        by_cases h : c = b
        · subst h; simp [cut, hd, h2]
        · simp [cut, hd, h2, h]

/-- The loop's relation: 'out' behind 'k' bytes, the piece that is being read beginning at 'fr'. -/
def Cutting (b : UInt8) (l : List UInt8) (k fr : Nat) (out : List (List UInt8)) : Prop := fr ≤ k ∧ cut b (l.take k) = out ++ [(l.take k).drop fr]

theorem cutting_start (b : UInt8) (l : List UInt8) : Cutting b l 0 0 [] := ⟨Nat.le_refl _, by simp [cut]⟩

theorem cutting_hit {b : UInt8} {l : List UInt8} {k fr : Nat} {out : List (List UInt8)} (h : Cutting b l k fr out) (hk : k < l.length) (hc : l[k] = b) :
    Cutting b l (k + 1) (k + 1) (out ++ [(l.take k).drop fr]) := by
  obtain ⟨r, p, h1, h2⟩ := cut_snoc b l[k] (l.take k)
  refine ⟨Nat.le_refl _, ?_⟩
  rw [List.take_succ_eq_append_getElem hk, h2, if_pos hc, ← h1, h.2]
  simp

theorem cutting_miss {b : UInt8} {l : List UInt8} {k fr : Nat} {out : List (List UInt8)} (h : Cutting b l k fr out) (hk : k < l.length) (hc : ¬ l[k] = b) :
    Cutting b l (k + 1) fr out := by
  obtain ⟨r, p, h1, h2⟩ := cut_snoc b l[k] (l.take k)
  refine ⟨by have := h.1; omega, ?_⟩
  rw [List.take_succ_eq_append_getElem hk, h2, if_neg hc]
  have e := h.2
  rw [h1] at e
  obtain ⟨e1, e2⟩ := List.append_inj' e rfl
  simp only [List.cons.injEq, and_true] at e2
  rw [e1, e2, List.drop_append_of_le_length (by simp; have := h.1; omega)]

theorem cutting_end {b : UInt8} {l : List UInt8} {k fr : Nat} {out : List (List UInt8)} (h : Cutting b l k fr out) (hk : l.length ≤ k) :
    cut b l = out ++ [l.drop fr] := by
  have := h.2
  rwa [List.take_of_length_le hk] at this

theorem cut_length_le (b : UInt8) : ∀ l, (cut b l).length ≤ l.length + 1
  | [] => by simp [cut]
  | c :: l => by
    have h := cut_length_le b l
    unfold cut
    split
    · simp; omega
    · split
      · simp
      · rename_i p r e; rw [e] at h; simp at h ⊢; omega

theorem cutting_length {b : UInt8} {l : List UInt8} {k fr : Nat} {out : List (List UInt8)} (h : Cutting b l k fr out) (hk : k ≤ l.length) : out.length ≤ k := by
  have := cut_length_le b (l.take k)
  rw [h.2] at this
  simp at this; omega

theorem cut_piece_le (b : UInt8) : ∀ l, ∀ p ∈ cut b l, p.length ≤ l.length
  | [], p, hp => by simp [cut] at hp; simp [hp]
  | c :: l, p, hp => by
    have ih := cut_piece_le b l
    unfold cut at hp
    split at hp
    · rcases List.mem_cons.1 hp with rfl | hp
      · simp
      · have := ih p hp; simp; omega
    · split at hp
      · simp at hp; simp [hp]
      · rename_i q r e
        rcases List.mem_cons.1 hp with rfl | hp
        · have := ih q (by rw [e]; simp); simp; omega
        · have := ih p (by rw [e]; simp [hp]); simp; omega

/-- What strings.Split tells is the same. -/
theorem split_one (b : UInt8) : ∀ s : List UInt8, splitK [b] 0 (count s [b]) s = cut b s
  | [] => by rw [count_miss (by simp [index])]; rfl
  | c :: l => by
    have ih := split_one b l
    by_cases h : c = b
    · subst h
      have hix : index (c :: l) [c] = ((0 : Nat) : Int) := by rw [index]; simp [List.isPrefixOf]
      rw [count_cons_eq, Nat.add_comm, splitK, hix]
      simp [cut, ih]
    · rw [count_cons_ne c b l h]
      have hp : ([b] : List UInt8).isPrefixOf (c :: l) = false := by simp [List.isPrefixOf, Ne.symm h]
      have hix : index (c :: l) [b] = if index l [b] == -1 then -1 else index l [b] + 1 := by rw [index, hp]; simp
      by_cases hm : index l [b] = -1
      · rw [count_miss hm] at ih ⊢
        simp only [splitK] at ih ⊢
        simp [cut, h, ← ih]
      · have hge := index_ge l [b]
        obtain ⟨j, hj⟩ : ∃ j : Nat, index l [b] = j := ⟨(index l [b]).toNat, by omega⟩
        have hix' : index (c :: l) [b] = ((j + 1 : Nat) : Int) := by rw [hix, if_neg (fun e => hm (beq_iff_eq.1 e)), hj]; omega
        have hcnt := count_hit (sub := [b]) (by simp) hj
        rw [hcnt, Nat.add_comm 1] at ih ⊢
        rw [splitK, hix']
        rw [splitK, hj] at ih
        have n1 : (((j : Nat) : Int) == -1) = false := by rw [beq_eq_false_iff_ne]; omega
        have n2 : (((j + 1 : Nat) : Int) == -1) = false := by rw [beq_eq_false_iff_ne]; omega
        rw [n1] at ih
        rw [n2]
        simp only [Int.toNat_natCast, Nat.add_zero, List.length_cons, List.length_nil, Nat.zero_add] at ih ⊢
        have t1 : (j : Int).toNat = j := by omega
        simp only [cut, h, if_false, ← ih]
        simp
end Go.Proofs.YtoobaaklklommaaGreatDoor
