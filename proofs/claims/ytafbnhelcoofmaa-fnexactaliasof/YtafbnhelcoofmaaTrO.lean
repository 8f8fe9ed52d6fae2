import Derived.Test.YtafbnhelcoofmaaLTrnM
import Derived.Test.YtafbnhelcoofmaaApT
import Derived.Test.YtafbnhelcoofmaaPkT
namespace Go.Proofs.Ytafbnhelcoofmaa
open Go.RowKit

/-- A turn that the call owns, or the zero one. -/
def OwnT (w : World) (base : Nat) (va vu : Value) (A U : List Int) : Prop :=
  (va = .slice none 0 0 ∧ vu = .slice none 0 0 ∧ A = [] ∧ U = []) ∨ ∃ g1 c1 g2 c2, va = .slice (some ⟨g1, 0, none⟩) A.length c1 ∧ vu = .slice (some ⟨g2, 0, none⟩) U.length c2 ∧ A.length ≤ c1 ∧ c1 ≤ 9223372036854775807 ∧ U.length ≤ c2 ∧ c2 ≤ 9223372036854775807 ∧ base ≤ g1 ∧ base ≤ g2 ∧ g1 ≠ g2 ∧ ZSRow w g1 A ∧ ZSRow w g2 U
/-- Which blocks a turn lies in. -/
def inT (va vu : Value) (k : Nat) : Prop := va.ownBlock = some k ∨ vu.ownBlock = some k
theorem OwnT.shape {w : World} {base : Nat} {va vu : Value} {A U : List Int} (h : OwnT w base va vu A U) : ∃ a1 c1 a2 c2, va = .slice a1 A.length c1 ∧ vu = .slice a2 U.length c2 := by
  rcases h with ⟨rfl, rfl, rfl, rfl⟩ | ⟨g1, c1, g2, c2, rfl, rfl, _⟩
  · exact ⟨none, 0, none, 0, rfl, rfl⟩
  · exact ⟨_, c1, _, c2, rfl, rfl⟩
theorem OwnT.rows {w : World} {base : Nat} {va vu : Value} {A U : List Int} (h : OwnT w base va vu A U) : ZRow .i64 w va A ∧ ZRow .i64 w vu U := by
  rcases h with ⟨rfl, rfl, rfl, rfl⟩ | ⟨g1, c1, g2, c2, rfl, rfl, h1, h2, h3, h4, _, _, _, s1, s2⟩
  · exact ⟨zrow_nil .i64 w, zrow_nil .i64 w⟩
  · exact ⟨s1.rowc h1 h2, s2.rowc h3 h4⟩
theorem OwnT.kept {w w' : World} {base : Nat} {va vu : Value} {A U : List Int} (h : OwnT w base va vu A U) (hb : Below w.heap.size w w') : OwnT w' base va vu A U := by
  rcases h with h | ⟨g1, c1, g2, c2, rfl, rfl, h1, h2, h3, h4, h5, h6, h7, s1, s2⟩
  · exact .inl h
  · exact .inr ⟨g1, c1, g2, c2, rfl, rfl, h1, h2, h3, h4, h5, h6, h7, s1.kept hb, s2.kept hb⟩
theorem OwnT.kpt {w w' : World} {S : Nat → Prop} {base : Nat} {va vu : Value} {A U : List Int} (h : OwnT w base va vu A U) (hk : Kpt w w' S) (hn : ∀ g, inT va vu g → ¬ S g) : OwnT w' base va vu A U := by
  rcases h with h | ⟨g1, c1, g2, c2, rfl, rfl, h1, h2, h3, h4, h5, h6, h7, s1, s2⟩
  · exact .inl h
  · exact .inr ⟨g1, c1, g2, c2, rfl, rfl, h1, h2, h3, h4, h5, h6, h7, s1.apart hk (hn g1 (.inl rfl)), s2.apart hk (hn g2 (.inr rfl))⟩
theorem OwnT.lt {w : World} {base : Nat} {va vu : Value} {A U : List Int} (h : OwnT w base va vu A U) : ∀ g, inT va vu g → base ≤ g ∧ g < w.heap.size := by
  rcases h with ⟨rfl, rfl, _, _⟩ | ⟨g1, c1, g2, c2, rfl, rfl, _, _, _, _, h5, h6, _, s1, s2⟩
  · intro g hg; rcases hg with h | h <;> cases h
  · intro g hg
    rcases hg with h | h
    · have e : g1 = g := Option.some.inj h
      rw [← e]; exact ⟨h5, s1.1⟩
    · have e : g2 = g := Option.some.inj h
      rw [← e]; exact ⟨h6, s2.1⟩
theorem OwnT.base {w : World} {b b' : Nat} {va vu : Value} {A U : List Int} (h : OwnT w b va vu A U) (hb : b' ≤ b) : OwnT w b' va vu A U := by
  rcases h with h | ⟨g1, c1, g2, c2, rfl, rfl, h1, h2, h3, h4, h5, h6, h7, s1, s2⟩
  · exact .inl h
  · exact .inr ⟨g1, c1, g2, c2, rfl, rfl, h1, h2, h3, h4, Nat.le_trans hb h5, Nat.le_trans hb h6, h7, s1, s2⟩
set_option maxRecDepth 20000 in
set_option maxHeartbeats 1000000 in
theorem markNil_any (K : Int) (w : World) : Calls Try.prog 12 #[.slice none 0 0, .int .i64 K] w fun e w' => e = .returned (.int .i64 K) ∧ w' = w := by
  go_enter Try.func12, Try.ntmps12
  go_wp2_with fail
  go_rounds 1
  go_ret
  exact ⟨rfl, rfl⟩
set_option maxRecDepth 20000 in
set_option maxHeartbeats 2000000 in
theorem markNilT_any (w : World) :
    Calls Try.prog 18 #[TrnV (.slice none 0 0) (.slice none 0 0), .int .i64 1] w fun e w' => e = .returned (.int .i64 1) ∧ Below w.heap.size w w' := by
  unfold TrnV
  have hb0 : Below w.heap.size w (w.alloc (.cells #[.slice none 0 0, .slice none 0 0] 33)) := (Below.refl w.heap.size w).alloc (Nat.le_refl _) _
  go_enter Try.func18, Try.ntmps18
  go_wp2_with fail
  refine (markNil_any 1 _).mono ?_
  rintro e w1 ⟨rfl, rfl⟩
  go_wp2_with fail
  refine (markNil_any 1 _).mono ?_
  rintro e w2 ⟨rfl, rfl⟩
  go_wp2_with fail
  go_ret
  exact ⟨rfl, hb0⟩
/-- A turn's marks. -/
theorem markTurnO_any (va vu : Value) (A U : List Int) (base : Nat) (w : World) (h : OwnT w base va vu A U) (hA : A.length ≤ 1048576) (hU : U.length ≤ 1048576) :
    Calls Try.prog 18 #[TrnV va vu, .int .i64 1] w fun e w' => e = .returned (.int .i64 (1 + (A.length : Int) + (U.length : Int))) ∧ OwnT w' base va vu (mksZ 1 A.length) (mksZ (1 + A.length) U.length) ∧ Kpt w w' (inT va vu) := by
  rcases h with ⟨rfl, rfl, rfl, rfl⟩ | ⟨g1, c1, g2, c2, rfl, rfl, h1, h2, h3, h4, h5, h6, h7, s1, s2⟩
  · refine (markNilT_any w).mono ?_
    rintro e w' ⟨rfl, hb⟩
    exact ⟨rfl, .inl ⟨rfl, rfl, rfl, rfl⟩, below_kpt0 hb _⟩
  · refine (markTurn_any g1 c1 g2 c2 A U w s1 s2 h7 hA hU h1 h2 h3 h4).mono ?_
    rintro e w' ⟨rfl, q1, q2, hk⟩
    exact ⟨rfl, .inr ⟨g1, c1, g2, c2, by rw [mksZ_length], by rw [mksZ_length], by rw [mksZ_length]; exact h1, h2, by rw [mksZ_length]; exact h3, h4, h5, h6, h7, q1, q2⟩, hk.mono (fun k _ hh => hh.elim (fun e => .inl (by rw [e]; rfl)) (fun e => .inr (by rw [e]; rfl)))⟩
set_option maxRecDepth 20000 in
set_option maxHeartbeats 2000000 in
theorem heldNilT_any (w : World) :
    Calls Try.prog 19 #[TrnV (.slice none 0 0) (.slice none 0 0), .int .i64 1] w fun e w' => e = .returned (.int .i64 1) ∧ Below w.heap.size w w' := by
  unfold TrnV
  have hb0 : Below w.heap.size w (w.alloc (.cells #[.slice none 0 0, .slice none 0 0] 33)) := (Below.refl w.heap.size w).alloc (Nat.le_refl _) _
  go_enter Try.func19, Try.ntmps19
  go_wp2_with fail
  refine (heldIntZ_any (.slice none 0 0) 0 1 _ (zrow_nil .i64 _) (by omega) (by omega)).mono ?_
  rintro e w1 ⟨rfl, rfl⟩
  go_wp2_with fail
  refine (heldIntZ_any (.slice none 0 0) 0 1 _ (zrow_nil .i64 _) (by omega) (by omega)).mono ?_
  rintro e w2 ⟨rfl, rfl⟩
  go_wp2_with fail
  go_ret
  exact ⟨rfl, hb0⟩
theorem heldTurnO_any (va vu : Value) (n1 n2 : Nat) (base : Nat) (w : World) (h : OwnT w base va vu (mksZ 1 n1) (mksZ (1 + n1) n2)) (hA : n1 ≤ 1048576) (hU : n2 ≤ 1048576) :
    Calls Try.prog 19 #[TrnV va vu, .int .i64 1] w fun e w' => e = .returned (.int .i64 (1 + (n1 : Int) + (n2 : Int))) ∧ Below w.heap.size w w' := by
  rcases h with ⟨rfl, rfl, e1, e2⟩ | ⟨g1, c1, g2, c2, rfl, rfl, h1, h2, h3, h4, _, _, _, s1, s2⟩
  · have l1 : n1 = 0 := by have := mksZ_length 1 n1; rw [e1] at this; simpa using this.symm
    have l2 : n2 = 0 := by have := mksZ_length (1 + n1) n2; rw [e2] at this; simpa using this.symm
    subst l1; subst l2
    exact heldNilT_any w
  · rw [mksZ_length] at h1 h3
    have h := heldTurn_any g1 c1 g2 c2 n1 n2 w s1 s2 hA hU h1 h2 h3 h4
    rw [mksZ_length, mksZ_length]
    exact h
end Go.Proofs.Ytafbnhelcoofmaa
