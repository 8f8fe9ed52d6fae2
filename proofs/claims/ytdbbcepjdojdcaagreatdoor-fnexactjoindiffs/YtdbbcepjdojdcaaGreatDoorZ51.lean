import Derived.Test.YtdbbcepjdojdcaaGreatDoorZ41
import Derived.Test.YtdbbcepjdojdcaaGreatDoorZ46
import Derived.Test.YtdbbcepjdojdcaaGreatDoorZ50
import Derived.Test.YtdbbcepjdojdcaaGreatDoorCards
import Derived.Test.YtdbbcepjdojdcaaGreatDoorTie
import Derived.Test.YtdbbcepjdojdcaaGreatDoorZ06
namespace Go.Proofs.YtdbbcepjdojdcaaGreatDoor.joinDiffs
open Go.RowKit

theorem walk (f1 t1 : Int) (v10 v11 : Value) (A1 U1 : List (List UInt8 × Int × Int × List UInt8)) (f2 t2 : Int) (v20 v21 : Value) (A2 U2 : List (List UInt8 × Int × Int × List UInt8)) (w : World)
    (hr10 : RRow w v10 A1) (hx10 : Hid (∀ x ∈ A1, x.1.length ≤ maxLen ∧ x.2.2.2.length ≤ maxLen)) (hr11 : RRow w v11 U1) (hx11 : Hid (∀ x ∈ U1, x.1.length ≤ maxLen ∧ x.2.2.2.length ≤ maxLen)) (hr20 : RRow w v20 A2) (hx20 : Hid (∀ x ∈ A2, x.1.length ≤ maxLen ∧ x.2.2.2.length ≤ maxLen)) (hr21 : RRow w v21 U2) (hx21 : Hid (∀ x ∈ U2, x.1.length ≤ maxLen ∧ x.2.2.2.length ≤ maxLen)) (hE : EnvR w) :
    Calls Tryz.prog 4 #[DifV f1 t1 v10 v11, DifV f2 t2 v20 v21] w fun e w' => e = .returned (.bool true) ∧ Below w.heap.size w w' := by
  have l1 : A1.length ≤ maxLen := by obtain ⟨_, cap, _, h1, h2, _⟩ := hr10; omega
  have l2 : U1.length ≤ maxLen := by obtain ⟨_, cap, _, h1, h2, _⟩ := hr11; omega
  have l3 : A2.length ≤ maxLen := by obtain ⟨_, cap, _, h1, h2, _⟩ := hr20; omega
  have l4 : U2.length ≤ maxLen := by obtain ⟨_, cap, _, h1, h2, _⟩ := hr21; omega
  cases hB : (joiB f1 t1 A1 U1 f2 t2 A2 U2 && difB f1 t2 (andQ (wthR A1 U2) (wthR A2 U1)) (andQ (wthR U1 A2) (wthR U2 A1))) with
  | false =>
    refine core f1 t1 v10 v11 A1 U1 f2 t2 v20 v21 A2 U2 false 0 0 [] [] w hr10 hx10 hr11 hx11 hr20 hx20 hr21 hx21 hE (fun _ _ _ _ => by simp) (fun hLa hLu hXa hXu hLb hLc hXb hXc g1 g2 g3 g4 W q1 q2 q3 q4 => ?_) (fun hLa hLu hXa hXu hLb hLc hXb hXc g1 g2 g3 g4 W hW q1 q2 q3 q4 => ?_)
    · exact (sJoinDiffs_any f1 t1 _ _ A1 U1 f2 t2 _ _ A2 U2 W (q1.row (Nat.le_refl _) l1) (q2.row (Nat.le_refl _) l2) (q3.row (Nat.le_refl _) l3) (q4.row (Nat.le_refl _) l4) hXa hXu hXb hXc).mono (fun e w' h' => ⟨h'.1.1 hB, h'.2⟩)
    · exact (iJoinDiffs_any f1 t1 _ _ A1 U1 f2 t2 _ _ A2 U2 W (q1.row (Nat.le_refl _) l1) (q2.row (Nat.le_refl _) l2) (q3.row (Nat.le_refl _) l3) (q4.row (Nat.le_refl _) l4) hXa hXu hXb hXc hW).mono (fun e w' h' => ⟨h'.1.1 hB, h'.2⟩)
  | true =>
    have hlr : (andQ (wthR A1 U2) (wthR A2 U1)).length ≤ 1048576 ∧ (andQ (wthR U1 A2) (wthR U2 A1)).length ≤ 1048576 := by
      rw [Bool.and_eq_true] at hB
      have k := joi_len hB.1
      omega
    refine core f1 t1 v10 v11 A1 U1 f2 t2 v20 v21 A2 U2 true f1 t2 (andQ (wthR A1 U2) (wthR A2 U1)) (andQ (wthR U1 A2) (wthR U2 A1)) w hr10 hx10 hr11 hx11 hr20 hx20 hr21 hx21 hE (fun _ _ _ _ => hlr) (fun hLa hLu hXa hXu hLb hLc hXb hXc g1 g2 g3 g4 W q1 q2 q3 q4 => ?_) (fun hLa hLu hXa hXu hLb hLc hXb hXc g1 g2 g3 g4 W hW q1 q2 q3 q4 => ?_)
    · exact (sJoinDiffs_any f1 t1 _ _ A1 U1 f2 t2 _ _ A2 U2 W (q1.row (Nat.le_refl _) l1) (q2.row (Nat.le_refl _) l2) (q3.row (Nat.le_refl _) l3) (q4.row (Nat.le_refl _) l4) hXa hXu hXb hXc).mono (fun e w' h' => ⟨h'.1.2 hB, h'.2⟩)
    · exact (iJoinDiffs_any f1 t1 _ _ A1 U1 f2 t2 _ _ A2 U2 W (q1.row (Nat.le_refl _) l1) (q2.row (Nat.le_refl _) l2) (q3.row (Nat.le_refl _) l3) (q4.row (Nat.le_refl _) l4) hXa hXu hXb hXc hW).mono (fun e w' h' => ⟨h'.1.2 hB, h'.2⟩)
end Go.Proofs.YtdbbcepjdojdcaaGreatDoor.joinDiffs

/- Whatever the arguments: the law FnExactJoinDiffs returns true, and each argument reads behind the call as it read before. Condition: the listed package variables start as the program's own text lays them (the card ties them). -/
namespace Go.Proofs.YtdbbcepjdojdcaaGreatDoor.joinDiffs
open Go.ChangeShapes Go.WideShapes Go.ChangeAt Go.RowKit Go.Deep
open Go.ChangeMaps (open_string shut_string)

set_option maxRecDepth 100000 in
theorem contract (H : Type) (enc : TypeId × Value → H) (W : World) (base : Nat) (args : Array Value) (ds gs : List (DataW H)) (before : List MemPlace)
    (hval : ∀ (j : Nat) t v, Tryz.f4.params[j]? = some t → args[j]? = some v → Value.okWide Tryz.prog W .any base t v)
    (hW : DataW.Whole enc Tryz.prog Tryz.f4.params.toList Rows.fnExactJoinDiffsSpec.vars false W args.toList ds gs before) (hL : laidMetH Tryz.prog Rows.fnExactJoinDiffsRow.laid W) (hsh : W.ShapedOpen Tryz.prog) :
    Calls Tryz.prog 4 args W fun e W' => ∃ v, e = .returned v ∧ Rows.fnExactJoinDiffsSpec.post enc Tryz.prog Tryz.f4 false true false false W args v W' := by
  have hW' := hW
  obtain ⟨p, q, hA0, hV, rfl, hfz, hnd⟩ := hW
  have hA : DataW.TrodAll enc Tryz.prog W 0 (fun _ => true) true Tryz.f4.params.toList args.toList ds p := hA0
  rw [Tryz.params4] at hA hval
  obtain ⟨v0, vs0, d0, ds0, p0, q0, hargs, rfl, rfl, h0, r0⟩ := trodAll_cons hA
  obtain ⟨v1, vs1, d1, ds1, p1, q1, rfl, rfl, rfl, h1, r1⟩ := trodAll_cons r0
  obtain ⟨rfl, rfl, rfl⟩ := trodAll_nil r1
  obtain rfl : args = #[v0, v1] := by cases args; simp_all
  obtain ⟨g, t, cs, fuel, d, pv, rfl, _⟩ := trodVars_one hV
  have k0 := h0
  have lt0 : ∀ x ∈ p0, x.block < W.heap.size := by obtain ⟨m, hm⟩ := k0; exact DataW.trod_lt m _ _ _ hm
  obtain ⟨fr0, to0, va0, vu0, A0, U0, rfl, ha0, hxa0, hu0, hxu0⟩ := dif_of_read (hval 0 26 v0 rfl rfl) h0
  have k1 := h1
  have lt1 : ∀ x ∈ p1, x.block < W.heap.size := by obtain ⟨m, hm⟩ := k1; exact DataW.trod_lt m _ _ _ hm
  obtain ⟨fr1, to1, va1, vu1, A1, U1, rfl, ha1, hxa1, hu1, hxu1⟩ := dif_of_read (hval 1 26 v1 rfl rfl) h1
  clear hA0
  have hE := envR_of hL (by kernel_rfl) (by kernel_rfl) (by kernel_rfl) (by kernel_rfl) hsh
  refine (walk fr0 to0 va0 vu0 A0 U0 fr1 to1 va1 vu1 A1 U1 W ha0 hxa0 hu0 hxu0 ha1 hxa1 hu1 hxu1 hE).mono fun e W' ⟨he, bel⟩ => ?_
  subst he
  exact ⟨_, rfl, _, _, _, [], _, q, hW', trodAll_mk1 (shut_bool Tryz.underlying4 _), (trodAll_cons_mk (Below.trod laidOut (by kernel_rfl) (of_decide_eq_true (by kernel_rfl)) k0 bel lt0) (trodAll_cons_mk (Below.trod laidOut (by kernel_rfl) (of_decide_eq_true (by kernel_rfl)) k1 bel lt1) trodAll_mk0)), Below.trodVars laidOut bel (by kernel_rfl) hV, bel.frame _, fun h => by cases h⟩

set_option maxRecDepth 100000 in
theorem lifted (os : Os) (started : os.Started) (H : Type) (enc : TypeId × Value → H) (F : Stop.Interp) :
    ReturnsInHanded {} Tryz.checked os 4 .any ((OpenSpec.ofChange Rows.fnExactJoinDiffsSpec).preRow enc Tryz.prog Tryz.f4 Rows.fnExactJoinDiffsRow.domain false Rows.fnExactJoinDiffsRow.laid) (((OpenSpec.ofChange Rows.fnExactJoinDiffsSpec).at F).post enc Tryz.prog Tryz.f4 false true false false) := by
  refine returnsInHanded_of_row (C := Tryz.checked) (s := OpenSpec.ofChange Rows.fnExactJoinDiffsSpec) own started (by kernel_rfl) Tryz.func4
    (witness_laid (enc := enc) (C := Tryz.checked) false (World.laidAll Tryz.prog os Rows.fnExactJoinDiffsRow.laid) #[.agg #[.int .i64 0, .int .i64 0, .slice none 0 0, .slice none 0 0], .agg #[.int .i64 0, .int .i64 0, .slice none 0 0, .slice none 0 0]] (World.laidAll_os _ _ _) (World.shaped_of_ZipB (by kernel_rfl) (by kernel_rfl)) (by kernel_rfl)
      (pre_laid 8 (by kernel_rfl) (by kernel_rfl) (by rw [MakeChecks.laidMetH_plain _ _ _ (by kernel_rfl)]; exact laidMet_laidAll _ (by kernel_rfl) (by kernel_rfl)))) ?_
  intro W base args ds gs before hval hW _ _ _ hL hsh _
  exact contract H enc W base args ds gs before hval hW hL hsh

set_option maxRecDepth 100000 in
theorem said : Rows.FnExactJoinDiffsSaid :=
  OpenClaim.holds_of_cond 4 Tryz.f4 rfl rfl rfl rfl rfl rfl rfl ⟨rfl, rfl, rfl, rfl, rfl⟩ rfl rfl rfl rfl rfl (by kernel_rfl) Tryz.func4 (by kernel_rfl)
    (of_decide_eq_true (by kernel_rfl)) (by unfold Func.isWrapper; first | (rw [if_pos (by decide +kernel)]; kernel_rfl) | (rw [if_neg (by decide +kernel)]; exact ⟨rfl, rfl⟩))
    (fun os started H enc _ F => by rw [OpenClaim.pre_eq_preRow]; exact lifted os started H enc F)

set_option maxRecDepth 100000 in
theorem plain (f : FuncId) (fn : Func) (hf : Tryz.pinned.checked.prog.funcNamed "loop.example/g00300/laws.FnExactJoinDiffs" = some f) (hfn : Tryz.pinned.checked.prog.funcs[f]? = some fn) :
    true = Tryz.pinned.checked.prog.looks [] ∧ ∀ (j : Nat) t, fn.params[j]? = some t → Tryz.pinned.checked.prog.wantsStandIn t = false := by
  obtain rfl : f = 4 := Option.some.inj ((show Tryz.prog.funcNamed "loop.example/g00300/laws.FnExactJoinDiffs" = some 4 by kernel_rfl).symm.trans hf) |>.symm
  obtain rfl : fn = Tryz.f4 := (Option.some.inj (Tryz.func4.symm.trans hfn)).symm
  refine ⟨by kernel_rfl, fun j t ht => ?_⟩
  rw [Tryz.params4] at ht
  have hm : t ∈ [26, 26] := by simpa using Array.mem_of_getElem? ht
  have hall : ([26, 26].all fun u => !Tryz.prog.wantsStandIn u) = true := by kernel_rfl
  exact (show Tryz.prog.wantsStandIn t = false by simpa using List.all_eq_true.1 hall t hm)
end Go.Proofs.YtdbbcepjdojdcaaGreatDoor.joinDiffs

namespace Go.Proofs.YtdbbcepjdojdcaaGreatDoor
set_option maxRecDepth 100000 in
theorem fnExactJoinDiffs_card : Rows.FnExactJoinDiffsCardSaid :=
  Claim7.holds_tied_plain_at .later [] _ _ _ _ joinDiffs.said (fun _ h => by cases h) (by kernel_rfl) (fun _ h => by cases h) fnExactJoinDiffs_row_tie rfl ⟨rfl, rfl⟩ (by kernel_rfl) rfl joinDiffs.plain (by kernel_rfl)
end Go.Proofs.YtdbbcepjdojdcaaGreatDoor
