import Derived.Test.YtbgkocjpenkijaaGreatDoorSMsgQ
import Derived.Test.YtbgkocjpenkijaaGreatDoorRGood
namespace Go.Proofs.YtbgkocjpenkijaaGreatDoor
open Go.RowKit

set_option maxRecDepth 20000 in
set_option maxHeartbeats 400000 in
theorem isCode_any (n : Int) (w : World) : Calls Tryz.prog 55 #[.int .i64 n] w fun e w' => e = .returned (.bool (codeB n)) ∧ w' = w := by
  by_cases h : n = 0 ∨ n = 1 ∨ n = 3 ∨ n = 5
  · have HR : Hid (codeB n = true) := by rcases h with rfl | rfl | rfl | rfl <;> rfl
    rcases h with rfl | rfl | rfl | rfl <;> (go_enter Tryz.func55, Tryz.ntmps55; go_wp2_with fail; go_ret; exact ⟨ret_bool HR.out.symm, rfl⟩)
  · have HR : Hid (codeB n = false) := by
      cases hc : codeB n with
      | false => exact rfl
      | true => exfalso; unfold codeB hasB at hc; simp at hc; omega
    have h0 : ¬ n = 0 := by omega
    have h1 : ¬ n = 1 := by omega
    have h3 : ¬ n = 3 := by omega
    have h5 : ¬ n = 5 := by omega
    clear h
    go_enter Tryz.func55, Tryz.ntmps55
    go_wp2_with fail
    go_ret
    exact ⟨ret_bool HR.out.symm, rfl⟩

set_option maxRecDepth 20000 in
set_option maxHeartbeats 400000 in
theorem isType_any (n : Int) (w : World) : Calls Tryz.prog 84 #[.int .i64 n] w fun e w' => e = .returned (.bool (typB n)) ∧ w' = w := by
  by_cases h : n = 1 ∨ n = 2 ∨ n = 5 ∨ n = 6 ∨ n = 15 ∨ n = 16
  · have HR : Hid (typB n = true) := by rcases h with rfl | rfl | rfl | rfl | rfl | rfl <;> rfl
    rcases h with rfl | rfl | rfl | rfl | rfl | rfl <;> (go_enter Tryz.func84, Tryz.ntmps84; go_wp2_with fail; go_ret; exact ⟨ret_bool HR.out.symm, rfl⟩)
  · have HR : Hid (typB n = false) := by
      cases hc : typB n with
      | false => exact rfl
      | true => exfalso; unfold typB hasB at hc; simp at hc; omega
    have h1 : ¬ n = 1 := by omega
    have h2 : ¬ n = 2 := by omega
    have h5 : ¬ n = 5 := by omega
    have h6 : ¬ n = 6 := by omega
    have h15 : ¬ n = 15 := by omega
    have h16 : ¬ n = 16 := by omega
    clear h
    go_enter Tryz.func84, Tryz.ntmps84
    go_wp2_with fail
    go_ret
    exact ⟨ret_bool HR.out.symm, rfl⟩

/-- All of a list are good records. -/
def aresB (L : List (List UInt8 × Int × Int × List UInt8)) : Bool := L.all (fun x => recB x.1 x.2.1 x.2.2.1 x.2.2.2)
theorem aresB_bad {L : List (List UInt8 × Int × Int × List UInt8)} (k : Nat) (hk : k < L.length) (h : recB L[k].1 L[k].2.1 L[k].2.2.1 L[k].2.2.2 = false) : aresB L = false := by
  unfold aresB; rw [List.all_eq_false]; exact ⟨_, List.getElem_mem hk, by simpa using h⟩
theorem aresB_all {L : List (List UInt8 × Int × Int × List UInt8)} (h : ∀ j, (hj : j < L.length) → recB L[j].1 L[j].2.1 L[j].2.2.1 L[j].2.2.2 = true) : aresB L = true := by
  unfold aresB; rw [List.all_eq_true]; intro x hx
  obtain ⟨j, hj, rfl⟩ := List.getElem_of_mem hx
  exact h j hj
theorem recsB_are (L : List (List UInt8 × Int × Int × List UInt8)) : recsB L = (aresB L && decide ((L.length : Int) ≤ 12)) := rfl

set_option maxRecDepth 20000 in
set_option maxHeartbeats 1000000 in
theorem areRecords_any (v : Value) (L : List (List UInt8 × Int × Int × List UInt8)) (w : World) (hr : RRow w v L) (hx : Hid (∀ x ∈ L, x.1.length ≤ 1048576 ∧ x.2.2.2.length ≤ 1048576)) (hE : EnvR w) :
    Calls Tryz.prog 58 #[v] w fun e w' => e = .returned (.bool (aresB L)) ∧ Below w.heap.size w w' := by
  obtain ⟨a, cap, rfl, hcap, hmax, hrow⟩ := hr
  have HROW : Hid (L = [] ∨ ∃ b o, a = some ⟨b, o, none⟩ ∧ b < w.heap.size ∧ ∀ j, (hj : j < L.length) → RecAt w b (o + j * 4) L[j]) := hrow
  have HGR : Hid (∀ (x : List UInt8 × Int × Int × List UInt8) W, EnvR W → x.2.2.2.length ≤ 1048576 → Calls Tryz.prog 85 #[.agg #[.string ⟨x.1.toArray⟩, .int .i64 x.2.1, .int .i64 x.2.2.1, .string ⟨x.2.2.2.toArray⟩]] W fun e w' => e = .returned (.bool (recB x.1 x.2.1 x.2.2.1 x.2.2.2)) ∧ Below W.heap.size W w') := fun x W g1 g2 =>
    iGoodRecord_any ⟨x.1.toArray⟩ ⟨x.2.2.2.toArray⟩ x.2.1 x.2.2.1 W (by rw [size_list]; exact g2) g1
  unfold maxLen at hmax
  clear hrow
  go_enter Tryz.func58, Tryz.ntmps58
  go_wp2_with fail
  go_loopw [7] (fun i wr => ∃ k : Nat, k ≤ L.length ∧ i = .int .i64 (k : Int) ∧ Hid (∀ j, (hj : j < L.length) → j < k → recB L[j].1 L[j].2.1 L[j].2.2.1 L[j].2.2.2 = true) ∧ Below w.heap.size w wr) (fun i _ => L.length - (intOf i).toNat)
  case atStart => exact ⟨0, Nat.zero_le _, rfl, fun j _ h => absurd h (Nat.not_lt_zero _), Below.refl _ _⟩
  case round =>
    obtain ⟨k, hk, rfl, HA, hb⟩ := hrel
    by_cases hlt : k < L.length
    · rcases HROW.out with hr | ⟨b, o, ha, hbl, hcel⟩
      · rw [hr] at hlt; simp at hlt
      · rw [ha]
        have hcx := (hcel k hlt).kept hb
        unfold RecAt at hcx
        obtain ⟨c0, c1, c2, c3⟩ := hcx
        have hxl := hx.out _ (List.getElem_mem hlt)
        have HBAD : Hid (recB (L[k]'hlt).1 (L[k]'hlt).2.1 (L[k]'hlt).2.2.1 (L[k]'hlt).2.2.2 = false → aresB L = false) := aresB_bad k hlt
        have HOK : Hid (recB (L[k]'hlt).1 (L[k]'hlt).2.1 (L[k]'hlt).2.2.1 (L[k]'hlt).2.2.2 = true → ∀ j, (hj : j < L.length) → j < k + 1 → recB L[j].1 L[j].2.1 L[j].2.2.1 L[j].2.2.2 = true) := fun h j hj h1 => by
          rcases Nat.lt_or_ge j k with h' | h'
          · exact HA.out j hj h'
          · obtain rfl : j = k := by omega
            exact h
        obtain ⟨x, hxe⟩ : ∃ x, x = L[k]'hlt := ⟨_, rfl⟩
        rw [← hxe] at c0 c1 c2 c3 hxl HBAD HOK
        have HCC := HGR.out x
        have HC : Hid (∀ W, Below wr.heap.size wr W → Calls Tryz.prog 85 #[.agg #[.string ⟨x.1.toArray⟩, .int .i64 x.2.1, .int .i64 x.2.2.1, .string ⟨x.2.2.2.toArray⟩]] W fun e w' => e = .returned (.bool (recB x.1 x.2.1 x.2.2.1 x.2.2.2)) ∧ Below W.heap.size W w') := fun W hW => HCC W (hE.below (hb.trans (hW.mono hb.size))) hxl.2
        clear hcel hxe HCC
        cases hR : recB x.1 x.2.1 x.2.2.1 x.2.2.2 with
        | false =>
          have HR : Hid (aresB L = false) := HBAD.out hR
          rw [hR] at HC
          clear hR HBAD HOK
          go_wp2_with fail
          refine (HC.out _ ((Below.refl _ _).alloc (Nat.le_refl _) _)).mono ?_
          rintro e w2 ⟨rfl, hb2⟩
          go_wp2_with fail
          go_ret
          exact ⟨ret_bool HR.out.symm, hb.trans ((box4 hb2).2.2.2.2.mono hb.size)⟩
        | true =>
          have HR : Hid (∀ j, (hj : j < L.length) → j < k + 1 → recB L[j].1 L[j].2.1 L[j].2.2.1 L[j].2.2.2 = true) := HOK.out hR
          rw [hR] at HC
          clear hR HBAD HOK
          go_wp2_with fail
          refine (HC.out _ ((Below.refl _ _).alloc (Nat.le_refl _) _)).mono ?_
          rintro e w2 ⟨rfl, hb2⟩
          go_wp2_with fail
          go_roundw
          case rel => exact ⟨k + 1, by omega, by go_num, HR, hb.trans ((box4 hb2).2.2.2.2.mono hb.size)⟩
          case measure => simp [intOf]; omega
    · have HR : Hid (aresB L = true) := aresB_all (fun j hj => HA.out j hj (by omega))
      go_wp2_with fail
      go_ret
      exact ⟨ret_bool HR.out.symm, hb⟩

/-- The byte of what a message is. -/
def marksI (reply cutm : Bool) : Int := (if reply = true then 128 else 0) + (if cutm = true then 1 else 0)
/-- The head of a message. -/
def HeadV (nm : ByteArray) (ty mi marks code la lu : Int) : Value := .agg #[.string nm, .int .i64 ty, .int .i64 mi, .int .i64 marks, .int .i64 code, .int .i64 la, .int .i64 lu]

set_option maxRecDepth 20000 in
set_option maxHeartbeats 400000 in
theorem ownerGood_any (nm : ByteArray) (ty : Int) (w : World) (hE : EnvR w) :
    Calls Tryz.prog 56 #[.agg #[.string nm, .int .i64 ty]] w fun e w' => e = .returned (.bool (nameB nm.data.toList && typB ty)) ∧ Below w.heap.size w w' := by
  have HB : Hid (∀ (t : TypeId) W, Below (w.alloc (.cells #[.string nm, .int .i64 ty] t)).heap.size (w.alloc (.cells #[.string nm, .int .i64 ty] t)) W → W.cell? ⟨w.heap.size, 0, none⟩ = some (.string nm) ∧ W.cell? ⟨w.heap.size, 1, none⟩ = some (.int .i64 ty) ∧ Below w.heap.size w W) := fun t W hb => by
    have hz : w.heap.size < (w.alloc (.cells #[.string nm, .int .i64 ty] t)).heap.size := by simp
    refine ⟨?_, ?_, ((Below.refl w.heap.size w).alloc (Nat.le_refl _) _).trans (hb.mono (Nat.le_of_lt hz))⟩
    all_goals (rw [hb.cell (p := ⟨w.heap.size, _, none⟩) hz]; simp)
  go_enter Tryz.func56, Tryz.ntmps56
  go_wp2_with fail
  refine (iGoodName_any nm _ (hE.1.below ((Below.refl _ _).alloc (Nat.le_refl _) _))).mono ?_
  rintro e w1 ⟨rfl, hb1⟩
  obtain ⟨c0, c1, hbw⟩ := HB.out _ _ hb1
  clear hb1
  cases hN : nameB nm.data.toList with
  | false =>
    go_wp2_with fail
    go_ret
    exact ⟨ret_bool (by rw [hN]; rfl), hbw⟩
  | true =>
    go_wp2_with fail
    refine (isType_any ty _).mono ?_
    rintro e w2 ⟨rfl, rfl⟩
    go_wp2_with fail
    go_ret
    exact ⟨ret_bool (by rw [hN]; rfl), hbw⟩

set_option maxRecDepth 20000 in
set_option maxHeartbeats 400000 in
theorem isBare_any (nm : ByteArray) (ty mi marks code la lu : Int) (w : World) (h1 : 0 ≤ la) (h2 : la ≤ 12) (h3 : 0 ≤ lu) (h4 : lu ≤ 12) :
    Calls Tryz.prog 57 #[HeadV nm ty mi marks code la lu] w fun e w' => e = .returned (.bool (decide (marks = 0) && (decide (code = 0) && decide (la + lu = 0)))) ∧ Below w.heap.size w w' := by
  unfold HeadV
  by_cases hm : marks = 0
  · by_cases hc : code = 0
    · subst hm hc
      go_enter Tryz.func57, Tryz.ntmps57
      go_wp2_with fail
      go_ret
      exact ⟨ret_bool (by simp; rfl), (Below.refl w.heap.size w).alloc (Nat.le_refl _) _⟩
    · subst hm
      go_enter Tryz.func57, Tryz.ntmps57
      go_wp2_with fail
      go_ret
      exact ⟨ret_bool (by simp [hc]), (Below.refl w.heap.size w).alloc (Nat.le_refl _) _⟩
  · go_enter Tryz.func57, Tryz.ntmps57
    go_wp2_with fail
    go_ret
    exact ⟨ret_bool (by simp [hm]), (Below.refl w.heap.size w).alloc (Nat.le_refl _) _⟩

set_option maxRecDepth 20000 in
set_option maxHeartbeats 1000000 in
theorem headOf_any (mi : Int) (reply cutm : Bool) (code : Int) (nm : ByteArray) (ty : Int) (va vu : Value) (A U : List (List UInt8 × Int × Int × List UInt8)) (w : World) (ha : RRow w va A) (hu : RRow w vu U) :
    Calls Tryz.prog 42 #[MsgV mi reply cutm code nm ty va vu] w fun e w' => e = .returned (HeadV nm ty mi (marksI reply cutm) code A.length U.length) ∧ Below w.heap.size w w' := by
  unfold MsgV HeadV
  obtain ⟨aa, ca, rfl, _, hca, _⟩ := ha
  obtain ⟨au, cu, rfl, _, hcu, _⟩ := hu
  cases reply <;> cases cutm
  all_goals
    go_enter Tryz.func42, Tryz.ntmps42
    go_wp2_with fail
    (try simp only [Exit.inBlock, Exit.then])
    refine bodyPost_ret (results_cell_row rfl _ _ (w.heap.size + 1) 70 _ (0, 0) _ rfl ?_ Tryz.underlying70 rfl (by kernel_rfl)) rfl ⟨rfl, ((Below.refl w.heap.size w).alloc (Nat.le_refl _) _).alloc (by simp) _⟩
    rw [heap_alloc2_new]; rfl

theorem head_cells {W : World} {b : Nat} {v0 v1 v2 v3 v4 v5 v6 : Value} {t : TypeId} (h : W.heap[b]? = some (.cells #[v0, v1, v2, v3, v4, v5, v6] t)) :
    W.cell? ⟨b, 0, none⟩ = some v0 ∧ W.cell? ⟨b, 1, none⟩ = some v1 ∧ W.cell? ⟨b, 2, none⟩ = some v2 ∧ W.cell? ⟨b, 3, none⟩ = some v3 ∧ W.cell? ⟨b, 4, none⟩ = some v4 ∧ W.cell? ⟨b, 5, none⟩ = some v5 ∧ W.cell? ⟨b, 6, none⟩ = some v6 := by
  refine ⟨?_, ?_, ?_, ?_, ?_, ?_, ?_⟩ <;> (unfold World.cell?; rw [h]; rfl)
theorem marks_zero (reply cutm : Bool) : decide (marksI reply cutm = 0) = (!reply && !cutm) := by cases reply <;> cases cutm <;> rfl
theorem msgB_la {mi : Int} {reply cutm : Bool} {code : Int} {nm : List UInt8} {ty : Int} {A U : List (List UInt8 × Int × Int × List UInt8)} (h : (12 : Int) < A.length) : msgB mi reply cutm code nm ty A U = false := by
  unfold msgB
  have : recsB A = false := by unfold recsB; rw [decide_eq_false (by omega), Bool.and_false]
  rw [this]; simp
theorem msgB_lu {mi : Int} {reply cutm : Bool} {code : Int} {nm : List UInt8} {ty : Int} {A U : List (List UInt8 × Int × Int × List UInt8)} (h : (12 : Int) < U.length) : msgB mi reply cutm code nm ty A U = false := by
  unfold msgB
  have : recsB U = false := by unfold recsB; rw [decide_eq_false (by omega), Bool.and_false]
  rw [this]; simp
/-- The same in the program's order. -/
theorem msgB_by {mi : Int} {reply cutm : Bool} {code : Int} {nm : List UInt8} {ty : Int} {A U : List (List UInt8 × Int × Int × List UInt8)} (ha : A.length ≤ 12) (hu : U.length ≤ 12) :
    msgB mi reply cutm code nm ty A U = ((decide (0 ≤ mi) && decide (mi ≤ 65535)) && (codeB code && ((nameB nm && typB ty) && ((reply || (decide (marksI reply cutm = 0) && (decide (code = 0) && decide ((A.length : Int) + (U.length : Int) = 0)))) && (aresB A && aresB U))))) := by
  unfold msgB
  have e1 : recsB A = aresB A := by rw [recsB_are, decide_eq_true (by omega), Bool.and_true]
  have e2 : recsB U = aresB U := by rw [recsB_are, decide_eq_true (by omega), Bool.and_true]
  have e3 : decide ((A.length : Int) + (U.length : Int) = 0) = (decide ((A.length : Int) = 0) && decide ((U.length : Int) = 0)) := by
    rw [← Bool.decide_and]; exact decide_eq_decide.2 (by omega)
  rw [e1, e2, e3, marks_zero]
  cases (decide (0 ≤ mi) && decide (mi ≤ 65535)) <;> cases codeB code <;> cases nameB nm <;> cases typB ty <;> cases reply <;> cases cutm <;> cases decide (code = 0) <;> cases decide ((A.length : Int) = 0) <;> cases decide ((U.length : Int) = 0) <;> cases aresB A <;> cases aresB U <;> rfl

set_option maxRecDepth 20000 in
set_option maxHeartbeats 2000000 in
theorem iGoodMessage_any (mi : Int) (reply cutm : Bool) (code : Int) (nm : ByteArray) (ty : Int) (va vu : Value) (A U : List (List UInt8 × Int × Int × List UInt8)) (w : World) (ha : RRow w va A) (hu : RRow w vu U)
    (hxa : Hid (∀ x ∈ A, x.1.length ≤ 1048576 ∧ x.2.2.2.length ≤ 1048576)) (hxu : Hid (∀ x ∈ U, x.1.length ≤ 1048576 ∧ x.2.2.2.length ≤ 1048576)) (hE : EnvR w) :
    Calls Tryz.prog 19 #[MsgV mi reply cutm code nm ty va vu] w fun e w' => e = .returned (.bool (msgB mi reply cutm code nm.data.toList ty A U)) ∧ Below w.heap.size w w' := by
  have HD : Hid (∀ W, Below w.heap.size w W → Calls Tryz.prog 42 #[MsgV mi reply cutm code nm ty va vu] W fun e w' => e = .returned (HeadV nm ty mi (marksI reply cutm) code A.length U.length) ∧ Below W.heap.size W w') := fun W hW => headOf_any mi reply cutm code nm ty va vu A U W (ha.kept hW) (hu.kept hW)
  unfold MsgV at HD ⊢
  obtain ⟨aa, ca, rfl, _, hca, _⟩ := id ha
  obtain ⟨au, cu, rfl, _, hcu, _⟩ := id hu
  have HRA : Hid (∀ W, Below w.heap.size w W → RRow W (.slice aa A.length ca) A) := fun W hW => ha.kept hW
  have HRU : Hid (∀ W, Below w.heap.size w W → RRow W (.slice au U.length cu) U) := fun W hW => hu.kept hW
  clear ha hu
  have hb0 : Below w.heap.size w (w.alloc (.cells #[.int .i64 mi, .bool reply, .bool cutm, .int .i64 code, .string nm, .int .i64 ty, .slice aa A.length ca, .slice au U.length cu] 25)) := (Below.refl w.heap.size w).alloc (Nat.le_refl _) _
  by_cases g1 : (12 : Int) < A.length
  · have HR : Hid (msgB mi reply cutm code nm.data.toList ty A U = false) := msgB_la g1
    go_enter Tryz.func19, Tryz.ntmps19
    go_wp2_with fail
    go_ret
    exact ⟨ret_bool HR.out.symm, hb0⟩
  · by_cases g2 : (12 : Int) < U.length
    · have HR : Hid (msgB mi reply cutm code nm.data.toList ty A U = false) := msgB_lu g2
      go_enter Tryz.func19, Tryz.ntmps19
      go_wp2_with fail
      go_ret
      exact ⟨ret_bool HR.out.symm, hb0⟩
    · have HM : Hid (msgB mi reply cutm code nm.data.toList ty A U = ((decide (0 ≤ mi) && decide (mi ≤ 65535)) && (codeB code && ((nameB nm.data.toList && typB ty) && ((reply || (decide (marksI reply cutm = 0) && (decide (code = 0) && decide ((A.length : Int) + (U.length : Int) = 0)))) && (aresB A && aresB U)))))) := msgB_by (by omega) (by omega)
      obtain ⟨mk, hmk⟩ : ∃ mk, mk = marksI reply cutm := ⟨_, rfl⟩
      rw [← hmk] at HM HD
      clear hmk
      obtain ⟨ok, hok⟩ : ∃ ok, ok = msgB mi reply cutm code nm.data.toList ty A U := ⟨_, rfl⟩
      rw [← hok] at HM ⊢
      clear hok
      go_enter Tryz.func19, Tryz.ntmps19
      go_wp2_with fail
      refine (HD.out _ hb0).mono ?_
      rintro e w1 ⟨rfl, hb1⟩
      unfold HeadV
      obtain ⟨⟨c0, c1, c2, c3, c4, c5, c6, c7⟩, hbw1⟩ := box8 hb1
      have hz1 : w.heap.size < w1.heap.size := Nat.lt_of_lt_of_le (by simp) hb1.size
      have HB : Hid (∀ W, Below (w1.alloc (.cells #[.string nm, .int .i64 ty, .int .i64 mi, .int .i64 mk, .int .i64 code, .int .i64 A.length, .int .i64 U.length] 70)).heap.size (w1.alloc (.cells #[.string nm, .int .i64 ty, .int .i64 mi, .int .i64 mk, .int .i64 code, .int .i64 A.length, .int .i64 U.length] 70)) W →
          MsgAt W w.heap.size mi reply cutm code nm ty (.slice aa A.length ca) (.slice au U.length cu) ∧ W.heap[w1.heap.size]? = some (.cells #[.string nm, .int .i64 ty, .int .i64 mi, .int .i64 mk, .int .i64 code, .int .i64 A.length, .int .i64 U.length] 70) ∧ Below w.heap.size w W) := fun W hW => by
        have h1 : Below w1.heap.size w1 W := ((Below.refl w1.heap.size w1).alloc (Nat.le_refl _) _).trans (hW.mono (by simp))
        have h2 := box8 (hb1.trans (h1.mono hb1.size))
        exact ⟨h2.1, (hW.block _ (by simp)).trans (blk_new _ _), h2.2⟩
      have hbz := Below.refl (w1.alloc (.cells #[.string nm, .int .i64 ty, .int .i64 mi, .int .i64 mk, .int .i64 code, .int .i64 A.length, .int .i64 U.length] 70)).heap.size (w1.alloc (.cells #[.string nm, .int .i64 ty, .int .i64 mi, .int .i64 mk, .int .i64 code, .int .i64 A.length, .int .i64 U.length] 70))
      have hbwz := (HB.out _ hbz).2.2
      by_cases h1 : mi < 0
      · have HR : Hid (ok = false) := by rw [HM.out, decide_eq_false (by omega : ¬ (0 : Int) ≤ mi)]; rfl
        go_wp2_with fail
        go_ret
        exact ⟨ret_bool HR.out.symm, hbwz⟩
      · by_cases h2 : (65535 : Int) < mi
        · have HR : Hid (ok = false) := by rw [HM.out, decide_eq_false (by omega : ¬ mi ≤ 65535), Bool.and_false]; rfl
          go_wp2_with fail
          go_ret
          exact ⟨ret_bool HR.out.symm, hbwz⟩
        · rw [decide_eq_true (by omega : (0 : Int) ≤ mi), decide_eq_true (by omega : mi ≤ 65535)] at HM
          go_wp2_with fail
          refine (isCode_any code _).mono ?_
          rintro e w2 ⟨rfl, rfl⟩
          cases h3 : codeB code with
          | false =>
            have HR : Hid (ok = false) := by rw [HM.out, h3]; rfl
            clear h3
            go_wp2_with fail
            go_ret
            exact ⟨ret_bool HR.out.symm, hbwz⟩
          | true =>
            rw [h3] at HM
            clear h3
            go_wp2_with fail
            refine (ownerGood_any nm ty _ (hE.below hbwz)).mono ?_
            rintro e w3 ⟨rfl, hb3⟩
            clear c0 c1 c2 c3 c4 c5 c6 c7
            obtain ⟨⟨c0, c1, c2, c3, c4, c5, c6, c7⟩, HH, hbw3⟩ := HB.out _ hb3
            obtain ⟨d0, d1, d2, d3, d4, d5, d6⟩ := head_cells HH
            clear HH
            cases h4 : (nameB nm.data.toList && typB ty) with
            | false =>
              have HR : Hid (ok = false) := by rw [HM.out, h4]; rfl
              clear h4
              go_wp2_with fail
              go_ret
              exact ⟨ret_bool HR.out.symm, hbw3⟩
            | true =>
              rw [h4] at HM
              clear h4
              cases reply with
              | true =>
                have HZ : Hid (w1.heap.size ≤ w3.heap.size) := Nat.le_trans (by simp) hb3.size
                go_wp2_with fail
                refine (areRecords_any _ A _ (HRA.out _ hbw3) hxa (hE.below hbw3)).mono ?_
                rintro e w5 ⟨rfl, hb5⟩
                have hbw5 := hbw3.trans (hb5.mono hbw3.size)
                have c7' : w5.cell? ⟨w.heap.size, 7, none⟩ = some (.slice au U.length cu) := (hb5.cell (p := ⟨w.heap.size, 7, none⟩) (Nat.lt_of_lt_of_le hz1 HZ.out)).trans c7
                clear c0 c1 c2 c3 c4 c5 c6 c7
                cases h6 : aresB A with
                | false =>
                  have HR : Hid (ok = false) := by rw [HM.out, h6]; rfl
                  clear h6
                  go_wp2_with fail
                  go_ret
                  exact ⟨ret_bool HR.out.symm, hbw5⟩
                | true =>
                  have HR : Hid (ok = aresB U) := by rw [HM.out, h6]; rfl
                  clear h6
                  go_wp2_with fail
                  refine (areRecords_any _ U _ (HRU.out _ hbw5) hxu (hE.below hbw5)).mono ?_
                  rintro e w6 ⟨rfl, hb6⟩
                  go_wp2_with fail
                  go_ret
                  exact ⟨ret_bool HR.out.symm, hbw5.trans (hb6.mono hbw5.size)⟩
              | false =>
                go_wp2_with fail
                refine (isBare_any nm ty mi mk code A.length U.length _ (by omega) (by omega) (by omega) (by omega)).mono ?_
                rintro e w4 ⟨rfl, hb4⟩
                have hb34 := hb3.trans (hb4.mono hb3.size)
                clear c0 c1 c2 c3 c4 c5 c6 c7 d0 d1 d2 d3 d4 d5 d6
                obtain ⟨⟨c0, c1, c2, c3, c4, c5, c6, c7⟩, _, hbw4⟩ := HB.out _ hb34
                have HZ : Hid (w1.heap.size ≤ w4.heap.size) := Nat.le_trans (by simp) hb34.size
                cases h5 : (decide (mk = 0) && (decide (code = 0) && decide ((A.length : Int) + (U.length : Int) = 0))) with
                | false =>
                  have HR : Hid (ok = false) := by rw [HM.out, h5]; rfl
                  clear h5
                  go_wp2_with fail
                  go_ret
                  exact ⟨ret_bool HR.out.symm, hbw4⟩
                | true =>
                  rw [h5] at HM
                  clear h5
                  go_wp2_with fail
                  refine (areRecords_any _ A _ (HRA.out _ hbw4) hxa (hE.below hbw4)).mono ?_
                  rintro e w5 ⟨rfl, hb5⟩
                  have hbw5 := hbw4.trans (hb5.mono hbw4.size)
                  have c7' : w5.cell? ⟨w.heap.size, 7, none⟩ = some (.slice au U.length cu) := (hb5.cell (p := ⟨w.heap.size, 7, none⟩) (Nat.lt_of_lt_of_le hz1 HZ.out)).trans c7
                  clear c0 c1 c2 c3 c4 c5 c6 c7
                  cases h6 : aresB A with
                  | false =>
                    have HR : Hid (ok = false) := by rw [HM.out, h6]; rfl
                    clear h6
                    go_wp2_with fail
                    go_ret
                    exact ⟨ret_bool HR.out.symm, hbw5⟩
                  | true =>
                    have HR : Hid (ok = aresB U) := by rw [HM.out, h6]; rfl
                    clear h6
                    go_wp2_with fail
                    refine (areRecords_any _ U _ (HRU.out _ hbw5) hxu (hE.below hbw5)).mono ?_
                    rintro e w6 ⟨rfl, hb6⟩
                    go_wp2_with fail
                    go_ret
                    exact ⟨ret_bool HR.out.symm, hbw5.trans (hb6.mono hbw5.size)⟩
end Go.Proofs.YtbgkocjpenkijaaGreatDoor
