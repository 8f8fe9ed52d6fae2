import Derived.Test.YtphhgjdpfcmpgaaGreatDoorZ26
import Derived.Test.YtphhgjdpfcmpgaaGreatDoorZ25
namespace Go.Proofs.YtphhgjdpfcmpgaaGreatDoor
open Go.RowKit

/-- What is left of a message that is cut. -/
def cutM (mi code : Int) (nm : List UInt8) (ty size : Int) : Nat → Bool → List (List UInt8 × Int × Int × List UInt8) → List (List UInt8 × Int × Int × List UInt8) → Option (Bool × List (List UInt8 × Int × Int × List UInt8) × List (List UInt8 × Int × Int × List UInt8))
  | 0, _, _, _ => none
  | f + 1, c, A, U => if ((msgW mi true c code nm ty A U).length : Int) ≤ size then some (c, A, U) else if 0 < U.length then cutM mi code nm ty size f true A (lessL U) else if 0 < A.length then cutM mi code nm ty size f true (lessL A) U else none
def cutR (mi : Int) (reply cutm : Bool) (code : Int) (nm : List UInt8) (ty : Int) (A U : List (List UInt8 × Int × Int × List UInt8)) (size : Int) : Option (Bool × List (List UInt8 × Int × Int × List UInt8) × List (List UInt8 × Int × Int × List UInt8)) :=
  if msgB mi reply cutm code nm ty A U = true ∧ reply = true ∧ 20 ≤ size ∧ size ≤ 600 then cutM mi code nm ty size (A.length + U.length + 1) cutm A U else none
/-- The state of a cutting that tells R. -/
def GoC (mi code : Int) (nm : List UInt8) (ty size : Int) (R : Option (Bool × List (List UInt8 × Int × Int × List UInt8) × List (List UInt8 × Int × Int × List UInt8))) (c : Bool) (A U : List (List UInt8 × Int × Int × List UInt8)) : Prop :=
  ∃ f, A.length + U.length < f ∧ cutM mi code nm ty size f c A U = R
section
variable {mi code : Int} {nm : List UInt8} {ty size : Int} {R : Option (Bool × List (List UInt8 × Int × Int × List UInt8) × List (List UInt8 × Int × Int × List UInt8))} {c : Bool} {A U : List (List UInt8 × Int × Int × List UInt8)}
theorem goC_done (g : GoC mi code nm ty size R c A U) (h : ((msgW mi true c code nm ty A U).length : Int) ≤ size) : R = some (c, A, U) := by
  obtain ⟨f, hf, hr⟩ := g
  obtain ⟨m, rfl⟩ : ∃ m, f = m + 1 := ⟨f - 1, by omega⟩
  rw [cutM, if_pos h] at hr; exact hr.symm
theorem goC_auth (g : GoC mi code nm ty size R c A U) (h : ¬ ((msgW mi true c code nm ty A U).length : Int) ≤ size) (h1 : 0 < U.length) : GoC mi code nm ty size R true A (lessL U) := by
  obtain ⟨f, hf, hr⟩ := g
  obtain ⟨m, rfl⟩ : ∃ m, f = m + 1 := ⟨f - 1, by omega⟩
  rw [cutM, if_neg h, if_pos h1] at hr
  have := lessL_lt h1
  exact ⟨m, by omega, hr⟩
theorem goC_ans (g : GoC mi code nm ty size R c A U) (h : ¬ ((msgW mi true c code nm ty A U).length : Int) ≤ size) (h1 : ¬ 0 < U.length) (h2 : 0 < A.length) : GoC mi code nm ty size R true (lessL A) U := by
  obtain ⟨f, hf, hr⟩ := g
  obtain ⟨m, rfl⟩ : ∃ m, f = m + 1 := ⟨f - 1, by omega⟩
  rw [cutM, if_neg h, if_neg h1, if_pos h2] at hr
  have := lessL_lt h2
  exact ⟨m, by omega, hr⟩
theorem goC_none (g : GoC mi code nm ty size R c A U) (h : ¬ ((msgW mi true c code nm ty A U).length : Int) ≤ size) (h1 : ¬ 0 < U.length) (h2 : ¬ 0 < A.length) : R = none := by
  obtain ⟨f, hf, hr⟩ := g
  obtain ⟨m, rfl⟩ : ∃ m, f = m + 1 := ⟨f - 1, by omega⟩
  rw [cutM, if_neg h, if_neg h1, if_neg h2] at hr; exact hr.symm
theorem goodM_auth {c2 : Bool} (h : GoodM mi true c code nm ty A U) : GoodM mi true c2 code nm ty A (lessL U) := by
  have hl : (lessL U).length ≤ U.length := List.length_take_le' _ _
  exact ⟨h.id0, h.id1, h.code0, h.code1, h.name, h.ty0, h.ty1, h.few, Nat.le_trans hl h.fewU, fun x hx => h.all x (by
    rcases List.mem_append.1 hx with hx | hx
    · exact List.mem_append.2 (.inl hx)
    · exact List.mem_append.2 (.inr (lessL_mem hx))), fun e => by cases e⟩
theorem goodM_ans {c2 : Bool} (h : GoodM mi true c code nm ty A U) : GoodM mi true c2 code nm ty (lessL A) U := by
  have hl : (lessL A).length ≤ A.length := List.length_take_le' _ _
  exact ⟨h.id0, h.id1, h.code0, h.code1, h.name, h.ty0, h.ty1, Nat.le_trans hl h.few, h.fewU, fun x hx => h.all x (by
    rcases List.mem_append.1 hx with hx | hx
    · exact List.mem_append.2 (.inl (lessL_mem hx))
    · exact List.mem_append.2 (.inr hx)), fun e => by cases e⟩
end
theorem OwnQ.mono {w : World} {base base' : Nat} {v : Value} {L : List (List UInt8 × Int × Int × List UInt8)} (h : OwnQ w base v L) (hb : base' ≤ base) : OwnQ w base' v L := by
  rcases h with h | ⟨g, cap, e, h1, h2, h3, hs⟩
  · exact .inl h
  · exact .inr ⟨g, cap, e, h1, h2, Nat.le_trans hb h3, hs⟩
theorem OwnQ.nil {w : World} {base : Nat} {v : Value} {L : List (List UInt8 × Int × Int × List UInt8)} (h : OwnQ w base v L) : ∀ n c, v = .slice none n c → c = 0 := by
  rcases h with ⟨rfl, _⟩ | ⟨g, cap, rfl, _⟩
  · intro n c e; cases e; rfl
  · intro n c e; cases e
/-- How many elements a slice in a cell has. -/
def lenAt (w : World) (b i : Nat) : Nat := match w.cell? ⟨b, i, none⟩ with
  | some (.slice _ n _) => n
  | _ => 0
theorem lenAt_eq {w : World} {b i n c : Nat} {a : Option Addr} (h : w.cell? ⟨b, i, none⟩ = some (.slice a n c)) : lenAt w b i = n := by unfold lenAt; rw [h]
end Go.Proofs.YtphhgjdpfcmpgaaGreatDoor
