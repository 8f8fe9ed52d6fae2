import Derived.Test.YtoobaaklklommaaDoorZ12
import Derived.Test.YtoobaaklklommaaDoorZ05
import Derived.Lib.LaidTab
import Derived.Lib.ConvBytes
import Derived.WalkSmall
namespace Go.Proofs.YtoobaaklklommaaDoor
open Go.RowKit Go.Sort

/-- A package variable of the library's that holds an error. -/
def VarIn (w : World) (n : String) : Prop := ∃ tp p, w.var? Tryd.prog n = some #[.iface tp p]
/-- What the walks of records ask of the world. -/
def EnvR (w : World) : Prop := Env w ∧ Lib.TabIs Tryd.prog w "internal/strconv.uint64pow10" .u64 Lib.pow10Tab ∧ VarIn w "strconv.ErrSyntax" ∧ VarIn w "strconv.ErrRange"
theorem var_kept {w w' : World} {n : String} {cs : Array Value} (hv : w.var? Tryd.prog n = some cs) (h : Below w.heap.size w w') : w'.var? Tryd.prog n = some cs := by
  unfold World.var? at hv ⊢
  cases hg : Tryd.prog.globalNamed n with
  | none => rw [hg] at hv; simp at hv
  | some g =>
    rw [hg] at hv
    simp only [Option.bind_some] at hv ⊢
    have hlt : g < w.heap.size := by
      apply Classical.byContradiction; intro hc
      rw [Array.getElem?_eq_none (by omega)] at hv; simp at hv
    rw [h.block g hlt]; exact hv
theorem VarIn.below {w w' : World} {n : String} (h : VarIn w n) (hb : Below w.heap.size w w') : VarIn w' n := by
  obtain ⟨tp, p, hv⟩ := h; exact ⟨tp, p, var_kept hv hb⟩
theorem EnvR.below {w w' : World} (h : EnvR w) (hb : Below w.heap.size w w') : EnvR w' :=
  ⟨h.1.below hb, var_kept h.2.1 hb, h.2.2.1.below hb, h.2.2.2.below hb⟩
theorem below_bytesW (w : World) (e : TypeId) (s : ByteArray) : Below w.heap.size w (Lib.bytesWorld w e s) :=
  (Below.refl _ _).grown (row := none) ⟨rfl, rfl, rfl, by rw [Lib.bytesWorld_size]; omega, fun k hk _ => Lib.bytesWorld_at_old w e s k hk⟩ (Nat.le_refl _) (fun k h => by cases h)
theorem below_growW {w w' : World} (h : ∃ k os, w' = grow (w.drewN k) os) : Below w.heap.size w w' := by
  obtain ⟨k, os, rfl⟩ := h
  exact ⟨rfl, rfl, rfl, by simp [grow], fun i hi => by show (w.heap ++ os)[i]? = _; rw [Array.getElem?_append_left (by exact hi)]⟩
/-- What Itoa alone asks for. -/
def EnvT (w : World) : Prop := Env w ∧ Lib.TabIs Tryd.prog w "internal/strconv.uint64pow10" .u64 Lib.pow10Tab
theorem EnvR.tab {w : World} (h : EnvR w) : EnvT w := ⟨h.1, h.2.1⟩
theorem EnvT.below {w w' : World} (h : EnvT w) (hb : Below w.heap.size w w') : EnvT w' := ⟨h.1.below hb, var_kept h.2 hb⟩
theorem itoaT_nat (n : Nat) (w : World) (h1 : n ≤ 9223372036854775807) (hE : EnvT w) :
    Calls Tryd.prog 43 #[.int .i64 (n : Int)] w fun e w' => e = .returned (.string ⟨(numL n).toArray⟩) ∧ Below w.heap.size w w' := by
  have h := (Tryd.strconv_Itoa n (by omega) (by omega) w hE.2).mono fun _ _ h => (⟨h.1, below_growW h.2⟩ : _ ∧ Below w.heap.size w _)
  rw [show Lib.itoa (n : Int) = numL n by unfold Lib.itoa; rw [if_neg (by omega), decDigits_numL]; rfl] at h
  exact h
theorem itoa_any (n : Int) (w : World) (h0 : -9223372036854775808 ≤ n) (h1 : n ≤ 9223372036854775807) (hE : EnvR w) :
    Calls Tryd.prog 43 #[.int .i64 n] w fun e w' => e = .returned (.string ⟨(Lib.itoa n).toArray⟩) ∧ Below w.heap.size w w' :=
  (Tryd.strconv_Itoa n h0 h1 w hE.2.1).mono fun _ _ h => ⟨h.1, below_growW h.2⟩
theorem itoa_nat (n : Nat) (w : World) (h1 : n ≤ 9223372036854775807) (hE : EnvR w) :
    Calls Tryd.prog 43 #[.int .i64 (n : Int)] w fun e w' => e = .returned (.string ⟨(numL n).toArray⟩) ∧ Below w.heap.size w w' := by
  have h := itoa_any n w (by omega) (by omega) hE
  rw [show Lib.itoa (n : Int) = numL n by unfold Lib.itoa; rw [if_neg (by omega), decDigits_numL]; rfl] at h
  exact h

/-- What readNumber answers. -/
def rdVal (l : List UInt8) (m : Int) : Value := .tuple #[.int .i64 (rdNum l m), .bool (numIn l m)]
theorem rd_ret_no {l : List UInt8} {m : Int} (h : numIn l m = false) : Ending.returned (.tuple #[.int .i64 0, .bool false]) = .returned (rdVal l m) := by
  unfold rdVal; rw [num_no h, h]
theorem rd_ret_yes {l : List UInt8} {m n : Int} (h : numIn l m = true ∧ rdNum l m = n) : Ending.returned (.tuple #[.int .i64 n, .bool true]) = .returned (rdVal l m) := by
  unfold rdVal; rw [h.1, h.2]
theorem itoa_len {n : Int} (h0 : 0 ≤ n) (h1 : n < 10000000000) : (Lib.itoa n).length ≤ 10 := by
  unfold Lib.itoa; rw [if_neg (by omega), decDigits_numL]; exact numL_length 9 _ (by omega)

end Go.Proofs.YtoobaaklklommaaDoor
