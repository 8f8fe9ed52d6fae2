import Derived.Test.YtjkabglaldkjgaaGreatDoorRRZ44
import Derived.Test.YtjkabglaldkjgaaGreatDoorRRZ48
import Derived.Test.YtjkabglaldkjgaaGreatDoorRRZ11
import Derived.Test.YtjkabglaldkjgaaGreatDoorRRZ42
namespace Go.Proofs.YtjkabglaldkjgaaGreatDoorRR
open Go.RowKit

/-- The names to which records lead. -/
def tgtL (P : List (List UInt8 × Int × Int × List UInt8)) : List (List UInt8) := P.map (fun x => toT x.2.1 x.2.2.2)
theorem tgtL_snoc (P : List (List UInt8 × Int × Int × List UInt8)) (k : Nat) (h : k < P.length) : tgtL (P.take (k + 1)) = tgtL (P.take k) ++ [toT P[k].2.1 P[k].2.2.2] := by
  unfold tgtL; rw [List.take_succ_eq_append_getElem h, List.map_append]; rfl
/-- Each text where it is met first. -/
def putN (a : List (List UInt8)) (t : List UInt8) : List (List UInt8) := if a.any (fun x => x == t) = true then a else a ++ [t]
def leadL (ts : List (List UInt8)) : List (List UInt8) := ts.foldl putN []
theorem lead_snoc (ts : List (List UInt8)) (t : List UInt8) : leadL (ts ++ [t]) = putN (leadL ts) t := by unfold leadL; rw [List.foldl_append]; rfl
theorem fold_mem (x : List UInt8) : ∀ ts a : List (List UInt8), x ∈ ts.foldl putN a ↔ x ∈ a ∨ x ∈ ts
  | [], a => by simp
  | t :: r, a => by
    rw [List.foldl_cons, fold_mem x r]
    have h : x ∈ putN a t ↔ x ∈ a ∨ x = t := by
      unfold putN
      by_cases hc : a.any (fun x => x == t) = true
      · rw [if_pos hc]
        rw [List.any_eq_true] at hc
        obtain ⟨y, hy, he⟩ := hc
        have he' : y = t := by simpa using he
        constructor
        · exact .inl
        · rintro (h | rfl)
          · exact h
          · rw [← he']; exact hy
      · rw [if_neg hc]; simp
    rw [h, List.mem_cons, or_assoc]
theorem lead_any (ts : List (List UInt8)) (t : List UInt8) : (leadL ts).any (fun x => x == t) = ts.any (fun x => x == t) := by
  rw [Bool.eq_iff_iff, List.any_eq_true, List.any_eq_true]
  constructor
  · rintro ⟨x, hx, he⟩
    exact ⟨x, by rcases (fold_mem x ts []).1 hx with h | h; cases h; exact h, he⟩
  · rintro ⟨x, hx, he⟩
    exact ⟨x, (fold_mem x ts []).2 (.inr hx), he⟩
theorem fold_len : ∀ ts a : List (List UInt8), (ts.foldl putN a).length ≤ a.length + ts.length
  | [], a => by simp
  | t :: r, a => by
    rw [List.foldl_cons]
    have h := fold_len r (putN a t)
    have h2 : (putN a t).length ≤ a.length + 1 := by unfold putN; split <;> simp
    simp only [List.length_cons]
    omega
theorem lead_len (ts : List (List UInt8)) : (leadL ts).length ≤ ts.length := by have h := fold_len ts []; unfold leadL; simpa using h
/-- The records of type 1 of names, name by name. -/
def glueL (L : List (List UInt8 × Int × Int × List UInt8)) (ls : List (List UInt8)) : List (List UInt8 × Int × Int × List UInt8) := ls.flatMap (fun n => setL L n 1)
theorem glue_snoc (L : List (List UInt8 × Int × Int × List UInt8)) (ls : List (List UInt8)) (n : List UInt8) : glueL L (ls ++ [n]) = glueL L ls ++ setL L n 1 := by unfold glueL; simp
theorem glue_len (L : List (List UInt8 × Int × Int × List UInt8)) : ∀ ls : List (List UInt8), (glueL L ls).length ≤ ls.length * L.length
  | [] => by unfold glueL; simp
  | n :: r => by
    have h := glue_len L r
    have h2 := setL_len L n 1
    have e : (glueL L (n :: r)).length = (setL L n 1).length + (glueL L r).length := by unfold glueL; simp
    rw [e, List.length_cons, Nat.add_mul]
    omega
theorem glue_take (L : List (List UInt8 × Int × Int × List UInt8)) (ls : List (List UInt8)) (k : Nat) (h : k < ls.length) : glueL L (ls.take (k + 1)) = glueL L (ls.take k) ++ setL L ls[k] 1 := by
  rw [List.take_succ_eq_append_getElem h, glue_snoc]
/-- A record of a type that leads. -/
def ledB (x : (List UInt8 × Int × Int × List UInt8)) : Bool := recB x.1 x.2.1 x.2.2.1 x.2.2.2 && (x.2.1 == 2 || x.2.1 == 15)
theorem targ_ne {l : List UInt8} (h : targB l = true) : l.isEmpty = false := by
  cases l with
  | nil => rw [targ_nil] at h; cases h
  | cons a r => rfl
theorem led_targ (x : (List UInt8 × Int × Int × List UInt8)) : (targO x.1 x.2.1 x.2.2.1 x.2.2.2 && !(x.2.1 == 5)) = ledB x := by
  obtain ⟨n, t, l, d⟩ := x
  show (targO n t l d && !(t == 5)) = (recB n t l d && (t == 2 || t == 15))
  unfold targO
  cases hB : recB n t l d with
  | false => rfl
  | true =>
    rw [Bool.true_and, Bool.true_and]
    have hd : (dataP t d).isSome = true := by unfold recB at hB; simp only [Bool.and_eq_true] at hB; exact hB.1
    by_cases h2 : t = 2
    · subst h2
      have e : dataP 2 d = dataN d := by unfold dataP; rw [if_neg (by omega), if_pos (.inl rfl)]
      rw [e] at hd
      unfold dataN at hd
      have ht : targB d = true := by
        cases hc : targB d with
        | true => rfl
        | false => rw [hc] at hd; cases hd
      rw [show toT 2 d = d from if_pos (.inl rfl), targ_ne ht]; rfl
    · by_cases h15 : t = 15
      · subst h15
        have e : dataP 15 d = dataM d := by unfold dataP; rw [if_neg (by omega), if_neg (by omega), if_neg (by omega), if_pos rfl]
        rw [e] at hd
        unfold dataM at hd
        split at hd
        · rename_i a b hc
          have ht : targB b = true := by
            by_cases hcc : numIn a 65535 = true ∧ targB b = true
            · exact hcc.2
            · rw [if_neg hcc] at hd; cases hd
          rw [show toT 15 d = b by unfold toT; rw [if_neg (by omega), if_pos rfl, hc]; rfl, targ_ne ht]; rfl
        · cases hd
      · have e2 : (t == 2) = false := by simpa using h2
        have e15 : (t == 15) = false := by simpa using h15
        rw [e2, e15]
        by_cases h5 : t = 5
        · subst h5; simp
        · rw [show toT t d = [] by unfold toT; rw [if_neg (by omega), if_neg (by omega)]]; rfl
theorem led_type {x : (List UInt8 × Int × Int × List UInt8)} (h : ledB x = true) : x.2.1 = 2 ∨ x.2.1 = 15 := by
  unfold ledB at h; simp only [Bool.and_eq_true, Bool.or_eq_true, beq_iff_eq] at h; exact h.2
theorem led_x {x : (List UInt8 × Int × Int × List UInt8)} (h : ledB x = true) : targX x.1 x.2.1 x.2.2.1 x.2.2.2 = toT x.2.1 x.2.2.2 := by
  rw [← led_targ, Bool.and_eq_true] at h
  unfold targX; rw [if_pos h.1]
/-- What GlueFor asks for, and what it tells. -/
def glueB (ap : List UInt8) (ct : Int) (L P : List (List UInt8 × Int × Int × List UInt8)) : Bool := zoneB ap ct L && (decide (P.length ≤ 12) && P.all ledB)
def glueX (ap : List UInt8) (ct : Int) (L P : List (List UInt8 × Int × Int × List UInt8)) : List (List UInt8 × Int × Int × List UInt8) := if glueB ap ct L P = true then glueL L (leadL (tgtL P)) else []
theorem glueX_len (ap : List UInt8) (ct : Int) (L P : List (List UInt8 × Int × Int × List UInt8)) : (glueX ap ct L P).length ≤ 480 := by
  unfold glueX
  by_cases h : glueB ap ct L P = true
  · rw [if_pos h]
    unfold glueB at h
    simp only [Bool.and_eq_true, decide_eq_true_eq] at h
    have h1 := glue_len L (leadL (tgtL P))
    have h2 := lead_len (tgtL P)
    have h3 : (tgtL P).length = P.length := by unfold tgtL; simp
    have h4 := (zone_facts h.1).2.2.2.2.2
    have h5 : (leadL (tgtL P)).length * L.length ≤ 12 * 40 := Nat.mul_le_mul (by omega) h4
    omega
  · rw [if_neg h]; simp
end Go.Proofs.YtjkabglaldkjgaaGreatDoorRR
