import Derived.Test.YtpghpeombednkaaGreatDoorZ13
import Derived.Test.YtpghpeombednkaaGreatDoorZ05
namespace Go.Proofs.YtpghpeombednkaaGreatDoor
open Go.RowKit

/-- A good section. -/
def recsB (L : List (List UInt8 × Int × Int × List UInt8)) : Bool := L.all (fun x => recB x.1 x.2.1 x.2.2.1 x.2.2.2) && decide ((L.length : Int) ≤ 12)
theorem recsB_bad {L : List (List UInt8 × Int × Int × List UInt8)} (k : Nat) (hk : k < L.length) (h : recB L[k].1 L[k].2.1 L[k].2.2.1 L[k].2.2.2 = false) : recsB L = false := by
  unfold recsB
  have : L.all (fun x => recB x.1 x.2.1 x.2.2.1 x.2.2.2) = false := by
    rw [List.all_eq_false]; exact ⟨_, List.getElem_mem hk, by simpa using h⟩
  rw [this]; rfl
theorem recsB_all {L : List (List UInt8 × Int × Int × List UInt8)} (h : ∀ j, (hj : j < L.length) → recB L[j].1 L[j].2.1 L[j].2.2.1 L[j].2.2.2 = true) : recsB L = decide ((L.length : Int) ≤ 12) := by
  unfold recsB
  have : L.all (fun x => recB x.1 x.2.1 x.2.2.1 x.2.2.2) = true := by
    rw [List.all_eq_true]; intro x hx
    obtain ⟨j, hj, rfl⟩ := List.getElem_of_mem hx
    exact h j hj
  rw [this]; rfl

set_option maxRecDepth 20000 in
set_option maxHeartbeats 1000000 in
theorem l4Records_any (v : Value) (L : List (List UInt8 × Int × Int × List UInt8)) (w : World) (hr : RRow w v L) (hx : Hid (∀ x ∈ L, x.1.length ≤ 1048576 ∧ x.2.2.2.length ≤ 1048576)) :
    Calls Tryz.prog 73 #[v] w fun e w' => e = .returned (.bool (recsB L)) ∧ Below w.heap.size w w' := by
  obtain ⟨a, cap, rfl, hcap, hmax, hrow⟩ := hr
  have HROW : Hid (L = [] ∨ ∃ b o, a = some ⟨b, o, none⟩ ∧ b < w.heap.size ∧ ∀ j, (hj : j < L.length) → RecAt w b (o + j * 4) L[j]) := hrow
  have HGR : Hid (∀ (x : List UInt8 × Int × Int × List UInt8) W, x.1.length ≤ 1048576 → x.2.2.2.length ≤ 1048576 → Calls Tryz.prog 48 #[.agg #[.string ⟨x.1.toArray⟩, .int .i64 x.2.1, .int .i64 x.2.2.1, .string ⟨x.2.2.2.toArray⟩]] W fun e w' => e = .returned (.bool (recB x.1 x.2.1 x.2.2.1 x.2.2.2)) ∧ Below W.heap.size W w') := fun x W g1 g2 =>
    sGoodRecord_any ⟨x.1.toArray⟩ ⟨x.2.2.2.toArray⟩ x.2.1 x.2.2.1 W (by rw [size_list]; exact g1) (by rw [size_list]; exact g2)
  unfold maxLen at hmax
  clear hrow
  go_enter Tryz.func73, Tryz.ntmps73
  go_wp2_with fail
  go_loopw [7] (fun i wr => ∃ k : Nat, k ≤ L.length ∧ i = .int .i64 (k : Int) ∧ Hid (∀ j, (hj : j < L.length) → j < k → recB L[j].1 L[j].2.1 L[j].2.2.1 L[j].2.2.2 = true) ∧ Below w.heap.size w wr) (fun i _ => L.length - (intOf i).toNat)
  case atStart => exact ⟨0, Nat.zero_le _, rfl, fun j _ h => absurd h (Nat.not_lt_zero _), Below.refl _ _⟩
  case round =>
    obtain ⟨k, hk, rfl, HA, hb⟩ := hrel
    by_cases hlt : k < L.length
    · rcases HROW.out with hr | ⟨b, o, ha, hbl, hcel⟩
      · rw [hr] at hlt; simp at hlt
      · rw [ha]
        have hcx := (hcel k hlt).kept hb
        unfold RecAt at hcx
        obtain ⟨c0, c1, c2, c3⟩ := hcx
        have hxl := hx.out _ (List.getElem_mem hlt)
        have HBAD : Hid (recB (L[k]'hlt).1 (L[k]'hlt).2.1 (L[k]'hlt).2.2.1 (L[k]'hlt).2.2.2 = false → recsB L = false) := recsB_bad k hlt
        have HOK : Hid (recB (L[k]'hlt).1 (L[k]'hlt).2.1 (L[k]'hlt).2.2.1 (L[k]'hlt).2.2.2 = true → ∀ j, (hj : j < L.length) → j < k + 1 → recB L[j].1 L[j].2.1 L[j].2.2.1 L[j].2.2.2 = true) := fun h j hj h1 => by
          rcases Nat.lt_or_ge j k with h' | h'
          · exact HA.out j hj h'
          · obtain rfl : j = k := by omega
            exact h
        obtain ⟨x, hxe⟩ : ∃ x, x = L[k]'hlt := ⟨_, rfl⟩
        rw [← hxe] at c0 c1 c2 c3 hxl HBAD HOK
        have HCC := HGR.out x
        have HC : Hid (∀ W, Calls Tryz.prog 48 #[.agg #[.string ⟨x.1.toArray⟩, .int .i64 x.2.1, .int .i64 x.2.2.1, .string ⟨x.2.2.2.toArray⟩]] W fun e w' => e = .returned (.bool (recB x.1 x.2.1 x.2.2.1 x.2.2.2)) ∧ Below W.heap.size W w') := fun W => HCC W hxl.1 hxl.2
        clear hcel hxe HCC
        cases hR : recB x.1 x.2.1 x.2.2.1 x.2.2.2 with
        | false =>
          have HR : Hid (recsB L = false) := HBAD.out hR
          rw [hR] at HC
          clear hR HBAD HOK
          go_wp2_with fail
          refine (HC.out _).mono ?_
          rintro e w2 ⟨rfl, hb2⟩
          go_wp2_with fail
          go_ret
          exact ⟨ret_bool HR.out.symm, hb.trans ((box4 hb2).2.2.2.2.mono hb.size)⟩
        | true =>
          have HR : Hid (∀ j, (hj : j < L.length) → j < k + 1 → recB L[j].1 L[j].2.1 L[j].2.2.1 L[j].2.2.2 = true) := HOK.out hR
          rw [hR] at HC
          clear hR HBAD HOK
          go_wp2_with fail
          refine (HC.out _).mono ?_
          rintro e w2 ⟨rfl, hb2⟩
          go_wp2_with fail
          go_roundw
          case rel => exact ⟨k + 1, by omega, by go_num, HR, hb.trans ((box4 hb2).2.2.2.2.mono hb.size)⟩
          case measure => simp [intOf]; omega
    · have HR : Hid (recsB L = decide ((L.length : Int) ≤ 12)) := recsB_all (fun j hj => HA.out j hj (by omega))
      go_wp2_with fail
      go_ret
      exact ⟨ret_bool HR.out.symm, hb⟩
end Go.Proofs.YtpghpeombednkaaGreatDoor

namespace Go.Proofs.YtpghpeombednkaaGreatDoor
open Go.RowKit

/-- A message's value. -/
def MsgV (mi : Int) (reply cutm : Bool) (code : Int) (nm : ByteArray) (ty : Int) (va vu : Value) : Value := .agg #[.int .i64 mi, .bool reply, .bool cutm, .int .i64 code, .string nm, .int .i64 ty, va, vu]
/-- A good message. -/
def msgB (mi : Int) (reply cutm : Bool) (code : Int) (nm : List UInt8) (ty : Int) (A U : List (List UInt8 × Int × Int × List UInt8)) : Bool :=
  (decide (0 ≤ mi) && decide (mi ≤ 65535)) && (codeB code && (nameB nm && (typB ty && (recsB A && (recsB U && (reply || (!cutm && (decide (code = 0) && (decide ((A.length : Int) = 0) && decide ((U.length : Int) = 0))))))))))
/-- A message's eight cells. -/
def MsgAt (w : World) (b : Nat) (mi : Int) (reply cutm : Bool) (code : Int) (nm : ByteArray) (ty : Int) (va vu : Value) : Prop :=
  w.cell? ⟨b, 0, none⟩ = some (.int .i64 mi) ∧ w.cell? ⟨b, 1, none⟩ = some (.bool reply) ∧ w.cell? ⟨b, 2, none⟩ = some (.bool cutm) ∧ w.cell? ⟨b, 3, none⟩ = some (.int .i64 code) ∧ w.cell? ⟨b, 4, none⟩ = some (.string nm) ∧ w.cell? ⟨b, 5, none⟩ = some (.int .i64 ty) ∧ w.cell? ⟨b, 6, none⟩ = some va ∧ w.cell? ⟨b, 7, none⟩ = some vu
theorem box8 {w W : World} {mi : Int} {reply cutm : Bool} {code : Int} {nm : ByteArray} {ty : Int} {va vu : Value} {t : TypeId} (hb : Below (w.alloc (.cells #[.int .i64 mi, .bool reply, .bool cutm, .int .i64 code, .string nm, .int .i64 ty, va, vu] t)).heap.size (w.alloc (.cells #[.int .i64 mi, .bool reply, .bool cutm, .int .i64 code, .string nm, .int .i64 ty, va, vu] t)) W) :
    MsgAt W w.heap.size mi reply cutm code nm ty va vu ∧ Below w.heap.size w W := by
  have hz : w.heap.size < (w.alloc (.cells #[.int .i64 mi, .bool reply, .bool cutm, .int .i64 code, .string nm, .int .i64 ty, va, vu] t)).heap.size := by simp
  refine ⟨⟨?_, ?_, ?_, ?_, ?_, ?_, ?_, ?_⟩, ((Below.refl w.heap.size w).alloc (Nat.le_refl _) _).trans (hb.mono (Nat.le_of_lt hz))⟩
  all_goals (rw [hb.cell (p := ⟨w.heap.size, _, none⟩) hz]; simp)

theorem l1Has_lit (ps : List Nat) (n : Int) (w : World) (t : TypeId) (h : ps.length ≤ maxLen) :
    Calls Tryz.prog 70 #[.slice (some ⟨w.heap.size, 0, none⟩) ps.length ps.length, .int .i64 n] (w.alloc (.cells (ps.map (fun p : Nat => Value.int .i64 (p : Int))).toArray t)) fun e w' => e = .returned (.bool (hasB ps n)) ∧ Below w.heap.size w w' :=
  (l1Has_any _ ps n _ (irow_lit w ps t h)).mono (fun _ _ ⟨h1, h2⟩ => ⟨h1, h2 ▸ (Below.refl w.heap.size w).alloc (Nat.le_refl _) _⟩)
theorem hasCode_any (n : Int) (w : World) (t : TypeId) (b : Nat) (hb : b = w.heap.size) :
    Calls Tryz.prog 70 #[.slice (some ⟨b, 0, none⟩) 4 4, .int .i64 n] (w.alloc (.cells #[.int .i64 0, .int .i64 1, .int .i64 3, .int .i64 5] t)) fun e w' => e = .returned (.bool (codeB n)) ∧ Below w.heap.size w w' := by
  subst hb; exact l1Has_lit [0, 1, 3, 5] n w t (by decide)

set_option maxRecDepth 20000 in
set_option maxHeartbeats 2000000 in
theorem sGoodMessage_any (mi : Int) (reply cutm : Bool) (code : Int) (nm : ByteArray) (ty : Int) (va vu : Value) (A U : List (List UInt8 × Int × Int × List UInt8)) (w : World) (hn : nm.size ≤ 1048576) (ha : RRow w va A) (hu : RRow w vu U)
    (hxa : Hid (∀ x ∈ A, x.1.length ≤ 1048576 ∧ x.2.2.2.length ≤ 1048576)) (hxu : Hid (∀ x ∈ U, x.1.length ≤ 1048576 ∧ x.2.2.2.length ≤ 1048576)) :
    Calls Tryz.prog 30 #[MsgV mi reply cutm code nm ty va vu] w fun e w' => e = .returned (.bool (msgB mi reply cutm code nm.data.toList ty A U)) ∧ Below w.heap.size w w' := by
  unfold MsgV
  obtain ⟨aa, ca, rfl, _, hca, _⟩ := id ha
  obtain ⟨au, cu, rfl, _, hcu, _⟩ := id hu
  have HRA : Hid (∀ W, Below w.heap.size w W → RRow W (.slice aa A.length ca) A) := fun W hW => ha.kept hW
  have HRU : Hid (∀ W, Below w.heap.size w W → RRow W (.slice au U.length cu) U) := fun W hW => hu.kept hW
  clear ha hu
  go_enter Tryz.func30, Tryz.ntmps30
  go_wp2_with fail
  refine (l1In_any mi 0 65535 _).mono ?_
  rintro e w1 ⟨rfl, rfl⟩
  have HB : Hid (∀ (t : TypeId) W, Below (w.alloc (.cells #[.int .i64 mi, .bool reply, .bool cutm, .int .i64 code, .string nm, .int .i64 ty, .slice aa A.length ca, .slice au U.length cu] t)).heap.size (w.alloc (.cells #[.int .i64 mi, .bool reply, .bool cutm, .int .i64 code, .string nm, .int .i64 ty, .slice aa A.length ca, .slice au U.length cu] t)) W → MsgAt W w.heap.size mi reply cutm code nm ty (.slice aa A.length ca) (.slice au U.length cu) ∧ Below w.heap.size w W) := fun _ W hW => box8 hW
  cases h1 : (decide ((0 : Int) ≤ mi) && decide (mi ≤ 65535)) with
  | false =>
    have HR : Hid (msgB mi reply cutm code nm.data.toList ty A U = false) := by unfold msgB; rw [h1]; rfl
    clear h1
    go_wp2_with fail
    go_ret
    exact ⟨ret_bool HR.out.symm, ((Below.refl w.heap.size w).alloc (Nat.le_refl _) _)⟩
  | true =>
    have H1 : Hid ((decide ((0 : Int) ≤ mi) && decide (mi ≤ 65535)) = true) := h1
    clear h1
    go_wp2_with fail
    refine (hasCode_any code _ _ _ (by simp)).mono ?_
    rintro e w2 ⟨rfl, hb2⟩
    have hbB := hb2
    obtain ⟨⟨c0, c1, c2, c3, c4, c5, c6, c7⟩, hbw⟩ := HB.out _ _ hbB
    cases h2 : codeB code with
    | false =>
      have HR : Hid (msgB mi reply cutm code nm.data.toList ty A U = false) := by unfold msgB; rw [h2, H1.out]; rfl
      clear h2
      go_wp2_with fail
      go_ret
      exact ⟨ret_bool HR.out.symm, hbw⟩
    | true =>
      have H2 : Hid (codeB code = true) := h2
      clear h2
      go_wp2_with fail
      refine (sGoodName_any nm _ (by omega)).mono ?_
      rintro e w3 ⟨rfl, hb3⟩
      have hbB3 := hbB.trans (hb3.mono hbB.size)
      clear c0 c1 c2 c3 c4 c5 c6 c7 hbw
      obtain ⟨⟨c0, c1, c2, c3, c4, c5, c6, c7⟩, hbw⟩ := HB.out _ _ hbB3
      cases h3 : nameB nm.data.toList with
      | false =>
        have HR : Hid (msgB mi reply cutm code nm.data.toList ty A U = false) := by unfold msgB; rw [h3, H1.out, H2.out]; rfl
        clear h3
        go_wp2_with fail
        go_ret
        exact ⟨ret_bool HR.out.symm, hbw⟩
      | true =>
        have H3 : Hid (nameB nm.data.toList = true) := h3
        clear h3
        go_wp2_with fail
        refine (l3Type_any ty _).mono ?_
        rintro e w4 ⟨rfl, hb4⟩
        have hbB4 := hbB3.trans (hb4.mono hbB3.size)
        clear c0 c1 c2 c3 c4 c5 c6 c7 hbw
        obtain ⟨⟨c0, c1, c2, c3, c4, c5, c6, c7⟩, hbw⟩ := HB.out _ _ hbB4
        cases h4 : typB ty with
        | false =>
          have HR : Hid (msgB mi reply cutm code nm.data.toList ty A U = false) := by unfold msgB; rw [h4, H1.out, H2.out, H3.out]; rfl
          clear h4
          go_wp2_with fail
          go_ret
          exact ⟨ret_bool HR.out.symm, hbw⟩
        | true =>
          have H4 : Hid (typB ty = true) := h4
          clear h4
          go_wp2_with fail
          refine (l4Records_any _ A _ (HRA.out _ hbw) hxa).mono ?_
          rintro e w5 ⟨rfl, hb5⟩
          have hbB5 := hbB4.trans (hb5.mono hbB4.size)
          clear c0 c1 c2 c3 c4 c5 c6 c7 hbw
          obtain ⟨⟨c0, c1, c2, c3, c4, c5, c6, c7⟩, hbw⟩ := HB.out _ _ hbB5
          cases h5 : recsB A with
          | false =>
            have HR : Hid (msgB mi reply cutm code nm.data.toList ty A U = false) := by unfold msgB; rw [h5, H1.out, H2.out, H3.out, H4.out]; rfl
            clear h5
            go_wp2_with fail
            go_ret
            exact ⟨ret_bool HR.out.symm, hbw⟩
          | true =>
            have H5 : Hid (recsB A = true) := h5
            clear h5
            go_wp2_with fail
            refine (l4Records_any _ U _ (HRU.out _ hbw) hxu).mono ?_
            rintro e w6 ⟨rfl, hb6⟩
            have hbB6 := hbB5.trans (hb6.mono hbB5.size)
            clear c0 c1 c2 c3 c4 c5 c6 c7 hbw
            obtain ⟨⟨c0, c1, c2, c3, c4, c5, c6, c7⟩, hbw⟩ := HB.out _ _ hbB6
            cases h6 : recsB U with
            | false =>
              have HR : Hid (msgB mi reply cutm code nm.data.toList ty A U = false) := by unfold msgB; rw [h6, H1.out, H2.out, H3.out, H4.out, H5.out]; rfl
              clear h6
              go_wp2_with fail
              go_ret
              exact ⟨ret_bool HR.out.symm, hbw⟩
            | true =>
              have H6 : Hid (recsB U = true) := h6
              clear h6
              have HM : Hid (msgB mi reply cutm code nm.data.toList ty A U = (reply || (!cutm && (decide (code = 0) && (decide ((A.length : Int) = 0) && decide ((U.length : Int) = 0)))))) := by unfold msgB; rw [H1.out, H2.out, H3.out, H4.out, H5.out, H6.out]; rfl
              cases reply with
              | true =>
                go_wp2_with fail
                go_ret
                exact ⟨ret_bool (by rw [HM.out]; rfl), hbw⟩
              | false =>
                cases cutm with
                | true =>
                  go_wp2_with fail
                  go_ret
                  exact ⟨ret_bool (by rw [HM.out]; rfl), hbw⟩
                | false =>
                  by_cases h7 : code = 0
                  · by_cases h8 : A.length = 0
                    · go_wp2_with fail
                      go_ret
                      exact ⟨ret_bool (by rw [HM.out]; rw [h7, h8]; rfl), hbw⟩
                    · go_wp2_with fail
                      go_ret
                      exact ⟨ret_bool (by rw [HM.out]; simp [h8]), hbw⟩
                  · go_wp2_with fail
                    go_ret
                    exact ⟨ret_bool (by rw [HM.out]; simp [h7]), hbw⟩
end Go.Proofs.YtpghpeombednkaaGreatDoor
