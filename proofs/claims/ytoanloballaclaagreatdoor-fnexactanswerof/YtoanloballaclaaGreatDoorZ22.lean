import Derived.Test.YtoanloballaclaaGreatDoorZ16
import Derived.Test.YtoanloballaclaaGreatDoorZ20
import Derived.Test.YtoanloballaclaaGreatDoorZ05
import Derived.Deep.QuietTactic
import Derived.BigQuiet
import Derived.Test.YtoanloballaclaaGreatDoorZ03
namespace Go.Proofs.YtoanloballaclaaGreatDoor
open Go.RowKit

/-- A host's name among names: good, not the root, not one of those ahead. -/
def nmB (P : List (List UInt8)) (j : Nat) : Bool := nameB (P.getD j []) && !(P.getD j [] == []) && !((P.take j).contains (P.getD j []))
def nmsB (P : List (List UInt8)) : Bool := (List.range P.length).all (nmB P) && inB (P.length : Int) 1 12
/-- How many in a row change what is told. -/
def mostH (ri fa : Int) (u : Bool) : Int := if u then fa else ri
def rowB (ri fa : Int) (x : HosT) : Bool := inB x.2.2 0 (mostH ri fa x.2.1 - 1)
def nmL (L : List HosT) : List (List UInt8) := L.map (fun x => x.1)
/-- Health that is good. -/
def goodH (ri fa : Int) (L : List HosT) : Bool := inB ri 1 10 && inB fa 1 10 && L.all (rowB ri fa) && nmsB (nmL L)
theorem nmL_length (L : List HosT) : (nmL L).length = L.length := by simp [nmL]
theorem nmL_at {L : List HosT} {j : Nat} (h : j < L.length) : (nmL L).getD j [] = L[j].1 := by
  unfold nmL
  rw [List.getD_eq_getElem?_getD, List.getElem?_map, List.getElem?_eq_getElem h]; rfl
theorem nmL_snoc (L : List HosT) (k : Nat) (h : k < L.length) : nmL (L.take (k + 1)) = nmL (L.take k) ++ [L[k].1] := by
  unfold nmL; rw [List.take_succ_eq_append_getElem h, List.map_append]; rfl
theorem nms_bad {P : List (List UInt8)} {j : Nat} (hj : j < P.length) (h : nmB P j = false) : nmsB P = false := by
  unfold nmsB
  have : (List.range P.length).all (nmB P) = false := by
    rw [List.all_eq_false]
    exact ⟨j, List.mem_range.2 hj, by rw [h]; simp⟩
  rw [this]; rfl
theorem nms_good {P : List (List UInt8)} (h : ∀ j, j < P.length → nmB P j = true) : nmsB P = inB (P.length : Int) 1 12 := by
  unfold nmsB
  have : (List.range P.length).all (nmB P) = true := List.all_eq_true.2 fun j hj => h j (List.mem_range.1 hj)
  rw [this]; rfl
theorem good_name {ri fa : Int} {L : List HosT} {j : Nat} (hj : j < L.length) (h : nmB (nmL L) j = false) : goodH ri fa L = false := by
  unfold goodH; rw [nms_bad (by rw [nmL_length]; exact hj) h]; simp
theorem good_row {ri fa : Int} {L : List HosT} {j : Nat} (hj : j < L.length) (h : rowB ri fa L[j] = false) : goodH ri fa L = false := by
  unfold goodH
  have : L.all (rowB ri fa) = false := by
    rw [List.all_eq_false]
    exact ⟨L[j], List.getElem_mem hj, by rw [h]; simp⟩
  rw [this]; simp
theorem good_all {ri fa : Int} {L : List HosT} (h1 : inB ri 1 10 = true) (h2 : inB fa 1 10 = true) (h3 : inB (L.length : Int) 1 12 = true) (h : ∀ j, (hj : j < L.length) → nmB (nmL L) j = true ∧ rowB ri fa L[j] = true) : goodH ri fa L = true := by
  unfold goodH
  rw [nms_good (fun j hj => (h j (by rw [nmL_length] at hj; exact hj)).1), nmL_length, h1, h2, h3]
  have : L.all (rowB ri fa) = true := List.all_eq_true.2 fun x hx => by
    obtain ⟨j, hj, rfl⟩ := List.getElem_of_mem hx
    exact (h j hj).2
  rw [this]; rfl
theorem good_parts {ri fa : Int} {L : List HosT} (h : goodH ri fa L = true) : (1 ≤ ri ∧ ri ≤ 10) ∧ (1 ≤ fa ∧ fa ≤ 10) ∧ (1 ≤ L.length ∧ L.length ≤ 12) ∧ (∀ x ∈ L, 0 ≤ x.2.2 ∧ x.2.2 ≤ mostH ri fa x.2.1 - 1) ∧ (∀ x ∈ L, nameB x.1 = true) := by
  unfold goodH nmsB at h
  simp only [Bool.and_eq_true, nmL_length, inB, decide_eq_true_eq] at h
  obtain ⟨⟨⟨h1, h2⟩, h3⟩, h4, h5⟩ := h
  refine ⟨h1, h2, by omega, fun x hx => ?_, fun x hx => ?_⟩
  · have := List.all_eq_true.1 h3 x hx
    simpa [rowB, inB] using this
  · obtain ⟨j, hj, rfl⟩ := List.getElem_of_mem hx
    have := List.all_eq_true.1 h4 j (List.mem_range.2 hj)
    unfold nmB at this
    rw [nmL_at hj] at this
    simp only [Bool.and_eq_true] at this
    exact this.1.1
/-- The specification holds a row against a bound that may have gone round. -/
def rowW (ri fa : Int) (x : HosT) : Bool := inB x.2.2 0 (wrap64 (mostH ri fa x.2.1 - 1))
theorem most_in {ri fa : Int} {u : Bool} (h1 : inB ri 1 10 = true) (h2 : inB fa 1 10 = true) : 1 ≤ mostH ri fa u ∧ mostH ri fa u ≤ 10 := by
  simp only [inB, Bool.and_eq_true, decide_eq_true_eq] at h1 h2
  unfold mostH; split <;> omega
theorem row_w {ri fa : Int} {x : HosT} (h1 : inB ri 1 10 = true) (h2 : inB fa 1 10 = true) : rowW ri fa x = rowB ri fa x := by
  have h := most_in (u := x.2.1) h1 h2
  unfold rowW rowB
  rw [IntWalk.wrap64_in _ ⟨by omega, by omega⟩]
theorem good_off {ri fa : Int} {L : List HosT} (h : (inB ri 1 10 && inB fa 1 10) = false) : goodH ri fa L = false := by
  unfold goodH; rw [h]; rfl
theorem good_roww {ri fa : Int} {L : List HosT} {j : Nat} (hj : j < L.length) (h : rowW ri fa L[j] = false) : goodH ri fa L = false := by
  cases h1 : inB ri 1 10 with
  | false => exact good_off (by rw [h1]; rfl)
  | true =>
    cases h2 : inB fa 1 10 with
    | false => exact good_off (by rw [h1, h2]; rfl)
    | true => exact good_row hj ((row_w h1 h2).symm.trans h)
theorem good_rows {ri fa : Int} {L : List HosT} (h : ∀ j, (hj : j < L.length) → rowW ri fa L[j] = true) : goodH ri fa L = (inB ri 1 10 && inB fa 1 10 && nmsB (nmL L)) := by
  cases h1 : inB ri 1 10 with
  | false => rw [good_off (by rw [h1]; rfl)]; rfl
  | true =>
    cases h2 : inB fa 1 10 with
    | false => rw [good_off (by rw [h1, h2]; rfl)]; rfl
    | true =>
      have : L.all (rowB ri fa) = true := List.all_eq_true.2 fun x hx => by
        obtain ⟨j, hj, rfl⟩ := List.getElem_of_mem hx
        exact (row_w h1 h2).symm.trans (h j hj)
      unfold goodH; rw [h1, h2, this]; rfl
/-- The first of a list that is so, or -1. -/
def FirstI (p : HosT → Bool) (L : List HosT) (i : Int) : Prop := (i = -1 ∧ ∀ x ∈ L, p x = false) ∨ ∃ k : Nat, ∃ hk : k < L.length, i = (k : Int) ∧ p L[k] = true ∧ ∀ j, (hj : j < L.length) → j < k → p L[j] = false
theorem first_is {L : List HosT} {j : Nat} (hj : j < L.length) {i : Int} (h : FirstI (fun x => x.1 == L[j].1) L i) : (i == (j : Int)) = !(((nmL L).take j).contains L[j].1) := by
  rcases h with ⟨_, h⟩ | ⟨k, hk, rfl, hp, hn⟩
  · have := h L[j] (List.getElem_mem hj); simp at this
  · have hkj : k ≤ j := by
      rcases Nat.lt_or_ge j k with h1 | h1
      · have := hn j hj h1; simp at this
      · exact h1
    rcases Nat.lt_or_ge k j with h1 | h1
    · have hm : L[j].1 ∈ (nmL L).take j := by
        rw [List.mem_take_iff_getElem]
        refine ⟨k, by rw [nmL_length]; omega, ?_⟩
        have : L[k].1 = L[j].1 := by simpa using hp
        rw [← this]; simp [nmL]
      rw [List.contains_iff_mem.2 hm, beq_eq_false_iff_ne.2 (by omega)]; rfl
    · obtain rfl : k = j := by omega
      have hm : ((nmL L).take k).contains L[k].1 = false := by
        rw [Bool.eq_false_iff]
        intro hc
        obtain ⟨m, hm, he⟩ := List.mem_take_iff_getElem.1 (List.contains_iff_mem.1 hc)
        rw [nmL_length] at hm
        have h2 := hn m (by omega) (by omega)
        simp only [nmL, List.getElem_map] at he
        rw [beq_eq_false_iff_ne] at h2
        exact h2 he
      rw [hm]; simp
/-- Whether the host with a name is up; and whether there is one. -/
def upV (L : List HosT) (s : List UInt8) : Option HosT := L.find? (fun x => x.1 == s)
theorem up_first {L : List HosT} {s : List UInt8} {i : Int} (h : FirstI (fun x => x.1 == s) L i) : (i = -1 ∧ upV L s = none) ∨ ∃ k : Nat, ∃ hk : k < L.length, i = (k : Int) ∧ upV L s = some L[k] := by
  rcases h with ⟨h1, h⟩ | ⟨k, hk, rfl, hp, hn⟩
  · exact .inl ⟨h1, by unfold upV; rw [List.find?_eq_none]; intro x hx; have h2 := h x hx; simp only at h2; rw [h2]; simp⟩
  · refine .inr ⟨k, hk, rfl, ?_⟩
    unfold upV
    rw [List.find?_eq_some_iff_getElem]
    exact ⟨hp, k, hk, rfl, fun j hj => by have h2 := hn j (by omega) hj; simp only at h2; rw [h2]; rfl⟩
end Go.Proofs.YtoanloballaclaaGreatDoor

namespace Go.Proofs.YtoanloballaclaaGreatDoor
open Go.RowKit

set_option maxRecDepth 20000 in
set_option maxHeartbeats 400000 in
theorem named1_any (xn s : List UInt8) (u : Bool) (r : Int) (g : Nat) (w : World) (h0 : w.cell? ⟨g, 0, none⟩ = some (.string ⟨s.toArray⟩)) (hg : g < w.heap.size) :
    Calls Tryz.prog 119 #[.agg #[.string ⟨xn.toArray⟩, .bool u, .int .i64 r], .pointer (some ⟨g, 0, none⟩)] w fun e w' => e = .returned (.bool (xn == s)) ∧ Below w.heap.size w w' := by
  have hb0 : Below w.heap.size w (w.alloc (.cells #[.string ⟨xn.toArray⟩, .bool u, .int .i64 r] 101)) := (Below.refl _ _).alloc (Nat.le_refl _) _
  go_enter Tryz.func119, Tryz.ntmps119
  go_wp2_with fail
  go_ret
  exact ⟨rfl, hb0⟩

/-- A function value that tells of each host whether it is so. -/
def PredH (g : Nat) (lb : Array Value) (p : HosT → Bool) (L : List HosT) (w : World) : Prop :=
  ∀ (W : World) (x : HosT), x ∈ L → Below w.heap.size w W → Calls Tryz.prog g (#[.agg #[.string ⟨x.1.toArray⟩, .bool x.2.1, .int .i64 x.2.2]] ++ lb) W fun e w' => e = .returned (.bool (p x)) ∧ Below W.heap.size W w'

set_option maxRecDepth 20000 in
set_option maxHeartbeats 1000000 in
theorem indexFuncH_any (g : Nat) (lb : Array Value) (p : HosT → Bool) (v : Value) (L : List HosT) (w : World) (hr : HstRow w v L) (hp : Hid (PredH g lb p L w)) (eg : ∀ args w, (callFunc g args).run Tryz.prog w = .ok (.enter g args) w) :
    Calls Tryz.prog 118 #[v, .func (.func g) #[] lb] w fun e w' => (∃ i : Int, e = .returned (.int .i64 i) ∧ FirstI p L i) ∧ Below w.heap.size w w' := by
  obtain ⟨a, cap, rfl, hcap, hmax, HROW⟩ := hst_value hr
  clear hr
  go_enter Tryz.func118, Tryz.ntmps118
  go_wp2_with fail
  go_loopw [8] (fun i wr => ∃ k : Nat, k ≤ L.length ∧ i = .int .i64 (k : Int) ∧ Hid (∀ j, (hj : j < L.length) → j < k → p L[j] = false) ∧ Below w.heap.size w wr) (fun i _ => L.length - (intOf i).toNat)
  case atStart => exact ⟨0, Nat.zero_le _, rfl, fun j _ h => absurd h (Nat.not_lt_zero _), Below.refl _ _⟩
  case round =>
    obtain ⟨k, hk, rfl, HA, hb⟩ := hrel
    by_cases hlt : k < L.length
    · obtain ⟨b, o, ha, hbl, hcel⟩ := HROW.out (by omega)
      rw [ha]
      have hcx := (hcel k hlt).kept hb
      unfold HstAt at hcx
      obtain ⟨c0, c1, c2⟩ := hcx
      have hcall := hp.out wr _ (List.getElem_mem hlt) hb
      have HHIT : Hid (p (L[k]'hlt) = true → FirstI p L (k : Int)) := fun h => .inr ⟨k, hlt, rfl, h, HA.out⟩
      have HOK : Hid (p (L[k]'hlt) = false → ∀ j, (hj : j < L.length) → j < k + 1 → p L[j] = false) := fun h j hj h1 => by
        rcases Nat.lt_or_ge j k with h' | h'
        · exact HA.out j hj h'
        · obtain rfl : j = k := by omega
          exact h
      obtain ⟨x, hxe⟩ : ∃ x, x = L[k]'hlt := ⟨_, rfl⟩
      rw [← hxe] at c0 c1 c2 hcall HHIT HOK
      clear hcel hxe
      cases hR : p x with
      | true =>
        have HR := HHIT.out hR
        rw [hR] at hcall
        go_wp2_with (go_at_fn g; refine hcall.mono ?_; rintro e w' ⟨rfl, hb'⟩)
        go_ret
        exact ⟨⟨(k : Int), rfl, HR⟩, hb.trans (hb'.mono hb.size)⟩
      | false =>
        have HR := HOK.out hR
        rw [hR] at hcall
        go_wp2_with (go_at_fn g; refine hcall.mono ?_; rintro e w' ⟨rfl, hb'⟩)
        go_roundw
        case rel => exact ⟨k + 1, by omega, by go_num, HR, hb.trans (hb'.mono hb.size)⟩
        case measure => simp [intOf]; omega
    · have HR : Hid (FirstI p L (-1)) := .inl ⟨rfl, fun x hx => by
        obtain ⟨j, hj, rfl⟩ := List.getElem_of_mem hx
        exact HA.out j hj (by omega)⟩
      go_wp2_with fail
      go_ret
      exact ⟨⟨-1, rfl, HR.out⟩, hb⟩

set_option maxRecDepth 20000 in
set_option maxHeartbeats 1000000 in
theorem firstNamed_any (ri fa : Int) (v : Value) (L : List HosT) (s : List UInt8) (w : World) (hr : HstRow w v L) :
    Calls Tryz.prog 106 #[HeaV ri fa v, .string ⟨s.toArray⟩] w fun e w' => (∃ i : Int, e = .returned (.int .i64 i) ∧ FirstI (fun x => x.1 == s) L i) ∧ Below w.heap.size w w' := by
  unfold HeaV
  obtain ⟨W0, hW0⟩ : ∃ W0, W0 = (w.alloc (.cells #[.int .i64 ri, .int .i64 fa, v] 38)).alloc (.cells #[.string ⟨s.toArray⟩] 9) := ⟨_, rfl⟩
  have hb0 : Below w.heap.size w W0 := by rw [hW0]; exact ((Below.refl w.heap.size w).alloc (Nat.le_refl _) _).alloc (by simp) _
  have hz0 : w.heap.size + 1 < W0.heap.size := by rw [hW0]; simp
  have HI : Hid (Calls Tryz.prog 118 #[v, .func (.func 119) #[] #[.pointer (some ⟨w.heap.size + 1, 0, none⟩)]] W0 fun e w' => (∃ i : Int, e = .returned (.int .i64 i) ∧ FirstI (fun x => x.1 == s) L i) ∧ Below W0.heap.size W0 w') :=
    indexFuncH_any 119 #[.pointer (some ⟨w.heap.size + 1, 0, none⟩)] (fun x => x.1 == s) v L W0 (hr.kept hb0) (fun W x hx hW => by
      have h0 : W0.cell? ⟨w.heap.size + 1, 0, none⟩ = some (.string ⟨s.toArray⟩) := by
        rw [hW0]; unfold World.cell?; rw [hst_new2]; rfl
      exact named1_any x.1 s x.2.1 x.2.2 (w.heap.size + 1) W ((hW.cell (p := ⟨w.heap.size + 1, 0, none⟩) hz0).trans h0) (Nat.lt_of_lt_of_le hz0 hW.size)) (fun _ _ => by kernel_rfl)
  have HW0 : Hid ((w.alloc (.cells #[.int .i64 ri, .int .i64 fa, v] 38)).alloc (.cells #[.string ⟨s.toArray⟩] 9) = W0) := hW0.symm
  obtain ⟨aa, ca, rfl, _, hca, _⟩ := id hr
  clear hW0 hr
  go_enter Tryz.func106, Tryz.ntmps106
  go_wp2_with fail
  rw [HW0.out]
  refine HI.out.mono ?_
  rintro e w1 ⟨⟨i, rfl, hi⟩, hb1⟩
  have HF : Hid (FirstI (fun x => x.1 == s) L i) := hi
  have hbw := hb0.trans (hb1.mono hb0.size)
  clear hi
  go_wp2_with fail
  go_ret
  exact ⟨⟨i, rfl, HF.out⟩, hbw⟩

set_option maxRecDepth 20000 in
set_option maxHeartbeats 400000 in
theorem rowToTurn_any (ri fa : Int) (v : Value) (L : List HosT) (j : Nat) (hj : j < L.length) (w : World) (hr : HstRow w v L) :
    Calls Tryz.prog 107 #[HeaV ri fa v, .int .i64 (j : Int)] w fun e w' => e = .returned (.int .i64 (mostH ri fa L[j].2.1)) ∧ Below w.heap.size w w' := by
  unfold HeaV
  obtain ⟨a, cap, rfl, hcap, hmax, HROW⟩ := hst_value hr
  obtain ⟨b, o, rfl, hbl, hcel⟩ := HROW.out (by omega)
  have hb0 : Below w.heap.size w (w.alloc (.cells #[.int .i64 ri, .int .i64 fa, .slice (some ⟨b, o, none⟩) L.length cap] 38)) := (Below.refl w.heap.size w).alloc (Nat.le_refl _) _
  have hc := (hcel j hj).kept hb0
  unfold HstAt at hc
  obtain ⟨c0, c1, c2⟩ := hc
  obtain ⟨⟨xn, u, r⟩, hx⟩ : ∃ x, x = L[j] := ⟨_, rfl⟩
  rw [← hx] at c0 c1 c2 ⊢
  simp only at c0 c1 c2 ⊢
  clear hcel hx HROW hr
  cases u
  · go_enter Tryz.func107, Tryz.ntmps107
    go_wp2_with fail
    go_ret
    exact ⟨rfl, hb0⟩
  · go_enter Tryz.func107, Tryz.ntmps107
    go_wp2_with fail
    go_ret
    exact ⟨rfl, hb0⟩
end Go.Proofs.YtoanloballaclaaGreatDoor

namespace Go.Proofs.YtoanloballaclaaGreatDoor
open Go.RowKit

theorem hea_cells {w W : World} {a b c : Value} {t : TypeId} (hb : Below (w.alloc (.cells #[a, b, c] t)).heap.size (w.alloc (.cells #[a, b, c] t)) W) :
    (W.cell? ⟨w.heap.size, 0, none⟩ = some a ∧ W.cell? ⟨w.heap.size, 1, none⟩ = some b ∧ W.cell? ⟨w.heap.size, 2, none⟩ = some c) ∧ Below w.heap.size w W :=
  ⟨(hst_cells (hst_below hb).1).1, (hst_below hb).2⟩

set_option maxRecDepth 20000 in
set_option maxHeartbeats 2000000 in
theorem isGoodAt_any (ri fa : Int) (v : Value) (L : List HosT) (j : Nat) (hj : j < L.length) (w : World) (hr : HstRow w v L) (hE : Env w) (h1 : inB ri 1 10 = true) (h2 : inB fa 1 10 = true) :
    Calls Tryz.prog 92 #[HeaV ri fa v, .int .i64 (j : Int)] w fun e w' => e = .returned (.bool (nmB (nmL L) j && rowB ri fa L[j])) ∧ Below w.heap.size w w' := by
  have HFN : Hid (∀ s W, Below w.heap.size w W → Calls Tryz.prog 106 #[HeaV ri fa v, .string ⟨s.toArray⟩] W fun e w' => (∃ i : Int, e = .returned (.int .i64 i) ∧ FirstI (fun x => x.1 == s) L i) ∧ Below W.heap.size W w') := fun s W hW => firstNamed_any ri fa v L s W (hr.kept hW)
  have HRT : Hid (∀ W, Below w.heap.size w W → Calls Tryz.prog 107 #[HeaV ri fa v, .int .i64 (j : Int)] W fun e w' => e = .returned (.int .i64 (mostH ri fa L[j].2.1)) ∧ Below W.heap.size W w') := fun W hW => rowToTurn_any ri fa v L j hj W (hr.kept hW)
  have HGN : Hid (∀ W, Below w.heap.size w W → Calls Tryz.prog 81 #[.string ⟨L[j].1.toArray⟩] W fun e w' => e = .returned (.bool (nameB L[j].1)) ∧ Below W.heap.size W w') := fun W hW => by
    have h := iGoodName_any ⟨L[j].1.toArray⟩ W (hE.below hW)
    simpa using h
  have hm := most_in (u := L[j].2.1) h1 h2
  have HNM : Hid (nmB (nmL L) j = (nameB L[j].1 && !(L[j].1 == []) && !(((nmL L).take j).contains L[j].1))) := by show nmB (nmL L) j = _; unfold nmB; rw [nmL_at hj]
  have HFI : Hid (∀ i, FirstI (fun x => x.1 == L[j].1) L i → (i == (j : Int)) = !(((nmL L).take j).contains L[j].1)) := fun i h => first_is hj h
  have HRW : Hid (rowB ri fa L[j] = inB L[j].2.2 0 (mostH ri fa L[j].2.1 - 1)) := rfl
  unfold HeaV at HFN HRT ⊢
  obtain ⟨a, cap, rfl, hcap, hmax, HROW⟩ := hst_value hr
  obtain ⟨b, o, rfl, hbl, hcel⟩ := HROW.out (by omega)
  have HC : Hid (∀ W, Below w.heap.size w W → HstAt W b (o + j * 3) L[j]) := fun W hW => (hcel j hj).kept hW
  obtain ⟨good, hgood⟩ : ∃ good, good = (nmB (nmL L) j && rowB ri fa L[j]) := ⟨_, rfl⟩
  have HGD : Hid (good = (nmB (nmL L) j && rowB ri fa L[j])) := hgood
  rw [← hgood]
  obtain ⟨⟨xn, u, r⟩, hx⟩ : ∃ x, x = L[j] := ⟨_, rfl⟩
  rw [HNM.out, HRW.out] at HGD
  rw [← hx] at HRT HGN hm HFI HC HGD
  simp only at HRT HGN hm HFI HC HGD
  obtain ⟨m, hme⟩ : ∃ m, m = mostH ri fa u := ⟨_, rfl⟩
  rw [← hme] at HRT hm HGD
  obtain ⟨con, hcon⟩ : ∃ con, con = !(((nmL L).take j).contains xn) := ⟨_, rfl⟩
  rw [← hcon] at HFI HGD
  have hb0 : Below w.heap.size w (w.alloc (.cells #[.int .i64 ri, .int .i64 fa, .slice (some ⟨b, o, none⟩) L.length cap] 38)) := (Below.refl w.heap.size w).alloc (Nat.le_refl _) _
  unfold HstAt at HC
  simp only at HC
  have hc0 := HC.out _ hb0
  obtain ⟨c0, c1, c2⟩ := hc0
  have HX : Hid (∀ W, Below (w.alloc (.cells #[.int .i64 ri, .int .i64 fa, .slice (some ⟨b, o, none⟩) L.length cap] 38)).heap.size (w.alloc (.cells #[.int .i64 ri, .int .i64 fa, .slice (some ⟨b, o, none⟩) L.length cap] 38)) W → (W.cell? ⟨w.heap.size, 0, none⟩ = some (.int .i64 ri) ∧ W.cell? ⟨w.heap.size, 1, none⟩ = some (.int .i64 fa) ∧ W.cell? ⟨w.heap.size, 2, none⟩ = some (.slice (some ⟨b, o, none⟩) L.length cap)) ∧ (W.cell? ⟨b, o + j * 3, none⟩ = some (.string ⟨xn.toArray⟩) ∧ W.cell? ⟨b, o + j * 3 + 1, none⟩ = some (.bool u) ∧ W.cell? ⟨b, o + j * 3 + 2, none⟩ = some (.int .i64 r)) ∧ Below w.heap.size w W) := fun W hW => ⟨(hea_cells hW).1, HC.out W (hea_cells hW).2, (hea_cells hW).2⟩
  clear hcel hx hgood hme hcon HROW hr HNM HRW h1 h2
  by_cases hn : xn = []
  · subst hn
    have HR : Hid (false = good) := by show false = good; rw [HGD.out]; simp
    go_enter Tryz.func92, Tryz.ntmps92
    go_wp2_with fail
    go_ret
    exact ⟨ret_bool HR.out, hb0⟩
  · have e1 : (xn == []) = false := by simpa using hn
    rw [e1] at HGD
    cases hN : nameB xn with
    | false =>
      have HR : Hid (false = good) := by rw [HGD.out, hN]; rfl
      rw [hN] at HGN
      clear hN
      go_enter Tryz.func92, Tryz.ntmps92
      go_wp2_with fail
      refine (HGN.out _ hb0).mono ?_
      rintro e w1 ⟨rfl, hb1⟩
      have hbw := (hea_cells hb1).2
      go_wp2_with fail
      go_ret
      exact ⟨ret_bool HR.out, hbw⟩
    | true =>
      rw [hN] at HGN HGD
      clear hN
      go_enter Tryz.func92, Tryz.ntmps92
      go_wp2_with fail
      refine (HGN.out _ hb0).mono ?_
      rintro e w1 ⟨rfl, hb1⟩
      obtain ⟨⟨d0, d1, d2⟩, _, hbw⟩ := HX.out _ hb1
      go_wp2_with fail
      refine (HFN.out xn _ hbw).mono ?_
      rintro e w2 ⟨⟨i, rfl, hi⟩, hb2⟩
      have hfi := HFI.out i hi
      have hb12 := hb1.trans (hb2.mono hb1.size)
      clear d0 d1 d2 c0 c1 c2 hi hb2
      cases con with
      | false =>
        have HR : Hid (false = good) := by rw [HGD.out]; rfl
        have hne : (i != (j : Int)) = true := by simp only [bne, hfi]; rfl
        have hbw2 := (hea_cells hb12).2
        clear hfi
        go_wp2_with fail
        go_ret
        exact ⟨ret_bool HR.out, hbw2⟩
      | true =>
        have hij : i = (j : Int) := by simpa using hfi
        subst hij
        have HR : Hid (inB r 0 (m - 1) = good) := by rw [HGD.out]; rfl
        have hne : ((j : Int) != (j : Int)) = false := by simp
        have HX2 : Hid (∀ W, Below w2.heap.size w2 W → (W.cell? ⟨w.heap.size, 0, none⟩ = some (.int .i64 ri) ∧ W.cell? ⟨w.heap.size, 1, none⟩ = some (.int .i64 fa) ∧ W.cell? ⟨w.heap.size, 2, none⟩ = some (.slice (some ⟨b, o, none⟩) L.length cap)) ∧ (W.cell? ⟨b, o + j * 3, none⟩ = some (.string ⟨xn.toArray⟩) ∧ W.cell? ⟨b, o + j * 3 + 1, none⟩ = some (.bool u) ∧ W.cell? ⟨b, o + j * 3 + 2, none⟩ = some (.int .i64 r)) ∧ Below w.heap.size w W) := fun W hW => HX.out W (hb12.trans (hW.mono hb12.size))
        have HRT2 : Hid (∀ W, Below w2.heap.size w2 W → Calls Tryz.prog 107 #[.agg #[.int .i64 ri, .int .i64 fa, .slice (some ⟨b, o, none⟩) L.length cap], .int .i64 (j : Int)] W fun e w' => e = .returned (.int .i64 m) ∧ Below W.heap.size W w') := fun W hW => HRT.out W (HX2.out W hW).2.2
        have HTR : Hid (∀ W W', Below w2.heap.size w2 W → Below W.heap.size W W' → Below w2.heap.size w2 W') := fun W W' h1 h2 => h1.trans (h2.mono h1.size)
        have hbd : Below w2.heap.size w2 w2.drew := (Below.refl _ _).drew
        have HIW : Hid (∀ W, Calls Tryz.prog 50 #[.int .i64 r, .int .i64 0, .int .i64 (m - 1)] W fun e w' => e = .returned (.bool (inB r 0 (m - 1))) ∧ w' = W) := fun W => iWithin_any r 0 (m - 1) W
        obtain ⟨ans, hans⟩ : ∃ ans, ans = inB r 0 (m - 1) := ⟨_, rfl⟩
        rw [← hans] at HIW HR
        have hji : (j : Int) < (L.length : Int) := by omega
        have hwm : IntKind.i64.wrap (m - 1) = m - 1 := IntWalk.i64_in _ (by omega)
        clear hfi hb1 hbw hb12 HX HRT HFI hans HGD HC HFN HGN
        go_wp2_with fail
        refine wp_region_quiet (C := fun W => Below w2.heap.size w2 W) (by kernel_rfl) (by kernel_rfl) hbd ?_
        refine wpQuiet_step (fun K hK => ?_)
        rw [if_pos (by rfl)]
        refine ⟨.pointer (some ⟨w.heap.size, 2, none⟩), fun W hW => quiet_ok ?_, hK _ ?_⟩
        · have q := HX2.out W hW
          obtain ⟨⟨m0, m1, m2⟩, ⟨z0, z1, z2⟩, _⟩ := q
          go_simp
          all_goals (try omega)
        clear hK K
        simp only [Act.put, List.setIfInBounds_toArray, List.set_cons_succ, List.set_cons_zero]
        refine wpQuiet_step (fun K hK => ?_)
        rw [if_pos (by rfl)]
        refine ⟨.slice (some ⟨b, o, none⟩) L.length cap, fun W hW => quiet_ok ?_, hK _ ?_⟩
        · have q := HX2.out W hW
          obtain ⟨⟨m0, m1, m2⟩, ⟨z0, z1, z2⟩, _⟩ := q
          go_simp
          all_goals (try omega)
        clear hK K
        simp only [Act.put, List.setIfInBounds_toArray, List.set_cons_succ, List.set_cons_zero]
        refine wpQuiet_step (fun K hK => ?_)
        rw [if_pos (by rfl)]
        refine ⟨.int .i64 (j : Int), fun W hW => quiet_ok ?_, hK _ ?_⟩
        · have q := HX2.out W hW
          obtain ⟨⟨m0, m1, m2⟩, ⟨z0, z1, z2⟩, _⟩ := q
          go_simp
          all_goals (try omega)
        clear hK K
        simp only [Act.put, List.setIfInBounds_toArray, List.set_cons_succ, List.set_cons_zero]
        refine wpQuiet_step (fun K hK => ?_)
        rw [if_pos (by rfl)]
        refine ⟨.pointer (some ⟨b, o + j * 3, none⟩), fun W hW => quiet_ok ?_, hK _ ?_⟩
        · have q := HX2.out W hW
          obtain ⟨⟨m0, m1, m2⟩, ⟨z0, z1, z2⟩, _⟩ := q
          go_simp
          all_goals (try omega)
        clear hK K
        simp only [Act.put, List.setIfInBounds_toArray, List.set_cons_succ, List.set_cons_zero]
        refine wpQuiet_step (fun K hK => ?_)
        rw [if_pos (by rfl)]
        refine ⟨.pointer (some ⟨b, o + j * 3 + 2, none⟩), fun W hW => quiet_ok ?_, hK _ ?_⟩
        · have q := HX2.out W hW
          obtain ⟨⟨m0, m1, m2⟩, ⟨z0, z1, z2⟩, _⟩ := q
          go_simp
          all_goals (try omega)
        clear hK K
        simp only [Act.put, List.setIfInBounds_toArray, List.set_cons_succ, List.set_cons_zero]
        refine wpQuiet_step (fun K hK => ?_)
        rw [if_pos (by rfl)]
        refine ⟨.int .i64 r, fun W hW => quiet_ok ?_, hK _ ?_⟩
        · have q := HX2.out W hW
          obtain ⟨⟨m0, m1, m2⟩, ⟨z0, z1, z2⟩, _⟩ := q
          go_simp
          all_goals (try omega)
        clear hK K
        simp only [Act.put, List.setIfInBounds_toArray, List.set_cons_succ, List.set_cons_zero]
        refine wpQuiet_step (fun K hK => ?_)
        rw [if_pos (by rfl)]
        refine ⟨.agg #[.int .i64 ri, .int .i64 fa, .slice (some ⟨b, o, none⟩) L.length cap], fun W hW => quiet_ok ?_, hK _ ?_⟩
        · have q := HX2.out W hW
          obtain ⟨⟨m0, m1, m2⟩, ⟨z0, z1, z2⟩, _⟩ := q
          go_simp
          all_goals (try omega)
        clear hK K
        simp only [Act.put, List.setIfInBounds_toArray, List.set_cons_succ, List.set_cons_zero]
        refine wpQuiet_step (fun K hK => ?_)
        rw [if_pos (by rfl)]
        refine ⟨.int .i64 (j : Int), fun W hW => quiet_ok ?_, hK _ ?_⟩
        · have q := HX2.out W hW
          obtain ⟨⟨m0, m1, m2⟩, ⟨z0, z1, z2⟩, _⟩ := q
          go_simp
          all_goals (try omega)
        clear hK K
        simp only [Act.put, List.setIfInBounds_toArray, List.set_cons_succ, List.set_cons_zero]
        refine wpQuiet_step (fun K hK => ?_)
        rw [if_pos (by rfl)]
        refine ⟨.int .i64 m, fun W hW => quiet_call (f := 107) (args := #[.agg #[.int .i64 ri, .int .i64 fa, .slice (some ⟨b, o, none⟩) L.length cap], .int .i64 (j : Int)]) ?_ ?_, hK _ ?_⟩
        · go_simp
        · exact (HRT2.out W hW).mono fun e w'' h => ⟨h.1, HTR.out _ _ hW h.2⟩
        clear hK K
        simp only [Act.put, List.setIfInBounds_toArray, List.set_cons_succ, List.set_cons_zero]
        refine wpQuiet_step (fun K hK => ?_)
        rw [if_pos (by rfl)]
        refine ⟨.int .i64 (m - 1), fun W hW => quiet_ok ?_, hK _ ?_⟩
        · have q := HX2.out W hW
          obtain ⟨⟨m0, m1, m2⟩, ⟨z0, z1, z2⟩, _⟩ := q
          go_simp
          all_goals (try omega)
        clear hK K
        simp only [Act.put, List.setIfInBounds_toArray, List.set_cons_succ, List.set_cons_zero]
        refine wpQuiet_step (fun K hK => ?_)
        rw [if_pos (by rfl)]
        refine ⟨.bool ans, fun W hW => quiet_call (f := 50) (args := #[.int .i64 r, .int .i64 0, .int .i64 (m - 1)]) ?_ ?_, hK _ ?_⟩
        · go_simp
        · exact (HIW.out W).mono fun e w'' h => ⟨h.1, by rw [h.2]; exact hW⟩
        clear hK K
        simp only [Act.put, List.setIfInBounds_toArray, List.set_cons_succ, List.set_cons_zero]
        refine wpQuiet_step (fun K hK => ?_)
        rw [if_pos (by rfl)]
        refine ⟨.bool ans, fun W hW => quiet_ok ?_, hK _ ?_⟩
        · have q := HX2.out W hW
          obtain ⟨⟨m0, m1, m2⟩, ⟨z0, z1, z2⟩, _⟩ := q
          go_simp
          all_goals (try omega)
        clear hK K
        simp only [Act.put, List.setIfInBounds_toArray, List.set_cons_succ, List.set_cons_zero]
        refine wpQuiet_nil ?_
        intro W hW
        have hbW := (HX2.out W hW).2.2
        go_wp2_with fail
        go_ret
        exact ⟨ret_bool HR.out, hbW⟩

set_option maxRecDepth 20000 in
set_option maxHeartbeats 2000000 in
theorem iGoodHealth_any (ri fa : Int) (v : Value) (L : List HosT) (w : World) (hr : HstRow w v L) (hE : Env w) :
    Calls Tryz.prog 68 #[HeaV ri fa v] w fun e w' => e = .returned (.bool (goodH ri fa L)) ∧ Below w.heap.size w w' := by
  have HGA : Hid (inB ri 1 10 = true → inB fa 1 10 = true → ∀ j (hj : j < L.length) W, Below w.heap.size w W → Calls Tryz.prog 92 #[HeaV ri fa v, .int .i64 (j : Int)] W fun e w' => e = .returned (.bool (nmB (nmL L) j && rowB ri fa L[j])) ∧ Below W.heap.size W w') := fun h1 h2 j hj W hW => isGoodAt_any ri fa v L j hj W (hr.kept hW) (hE.below hW) h1 h2
  obtain ⟨good, hgood⟩ : ∃ good, good = goodH ri fa L := ⟨_, rfl⟩
  have HGD : Hid (good = goodH ri fa L) := hgood
  rw [← hgood]
  unfold HeaV at HGA ⊢
  obtain ⟨a, cap, rfl, hcap, hmax, _⟩ := hst_value hr
  have hb0 : Below w.heap.size w (w.alloc (.cells #[.int .i64 ri, .int .i64 fa, .slice a L.length cap] 38)) := (Below.refl w.heap.size w).alloc (Nat.le_refl _) _
  have HW1 : Hid (∀ n W, Calls Tryz.prog 50 #[.int .i64 n, .int .i64 1, .int .i64 10] W fun e w' => e = .returned (.bool (inB n 1 10)) ∧ w' = W) := fun n W => iWithin_any n 1 10 W
  have HW2 : Hid (∀ n W, Calls Tryz.prog 50 #[.int .i64 n, .int .i64 1, .int .i64 12] W fun e w' => e = .returned (.bool (inB n 1 12)) ∧ w' = W) := fun n W => iWithin_any n 1 12 W
  clear hgood hr
  cases h1 : inB ri 1 10 with
  | false =>
    have HR : Hid (false = good) := by rw [HGD.out, good_off (by rw [h1]; rfl)]; rfl
    have HA := HW1.out ri
    rw [h1] at HA
    go_enter Tryz.func68, Tryz.ntmps68
    go_wp2_with fail
    refine (HA _).mono ?_
    rintro e w1 ⟨rfl, rfl⟩
    go_wp2_with fail
    go_ret
    exact ⟨ret_bool HR.out, hb0⟩
  | true =>
    have HA := HW1.out ri
    rw [h1] at HA
    cases h2 : inB fa 1 10 with
    | false =>
      have HR : Hid (false = good) := by rw [HGD.out, good_off (by rw [h1, h2]; rfl)]; rfl
      have HB := HW1.out fa
      rw [h2] at HB
      go_enter Tryz.func68, Tryz.ntmps68
      go_wp2_with fail
      refine (HA _).mono ?_
      rintro e w1 ⟨rfl, rfl⟩
      go_wp2_with fail
      refine (HB _).mono ?_
      rintro e w1 ⟨rfl, rfl⟩
      go_wp2_with fail
      go_ret
      exact ⟨ret_bool HR.out, hb0⟩
    | true =>
      have HB := HW1.out fa
      rw [h2] at HB
      cases h3 : inB (L.length : Int) 1 12 with
      | false =>
        have HR : Hid (false = good) := by rw [HGD.out]; show false = goodH ri fa L; unfold goodH nmsB; rw [nmL_length, h3]; simp
        have HD := HW2.out (L.length : Int)
        rw [h3] at HD
        go_enter Tryz.func68, Tryz.ntmps68
        go_wp2_with fail
        refine (HA _).mono ?_
        rintro e w1 ⟨rfl, rfl⟩
        go_wp2_with fail
        refine (HB _).mono ?_
        rintro e w1 ⟨rfl, rfl⟩
        go_wp2_with fail
        refine (HD _).mono ?_
        rintro e w1 ⟨rfl, rfl⟩
        go_wp2_with fail
        go_ret
        exact ⟨ret_bool HR.out, hb0⟩
      | true =>
        have HD := HW2.out (L.length : Int)
        rw [h3] at HD
        have HBAD : Hid (∀ j (hj : j < L.length), (nmB (nmL L) j && rowB ri fa L[j]) = false → false = good) := fun j hj h => by
          rw [HGD.out]
          cases hq : nmB (nmL L) j with
          | false => exact (good_name hj hq).symm
          | true => rw [hq] at h; exact (good_row hj (by simpa using h)).symm
        have HALL : Hid ((∀ j, (hj : j < L.length) → (nmB (nmL L) j && rowB ri fa L[j]) = true) → true = good) := fun h => by
          rw [HGD.out]; exact (good_all h1 h2 h3 (fun j hj => by have := h j hj; simpa using this)).symm
        have HG := HGA.out h1 h2
        clear HGD HW1 HW2 h1 h2 h3 HGA
        go_enter Tryz.func68, Tryz.ntmps68
        go_wp2_with fail
        refine (HA _).mono ?_
        rintro e w1 ⟨rfl, rfl⟩
        go_wp2_with fail
        refine (HB _).mono ?_
        rintro e w1 ⟨rfl, rfl⟩
        go_wp2_with fail
        refine (HD _).mono ?_
        rintro e w1 ⟨rfl, rfl⟩
        go_wp2_with fail
        clear HA HB HD
        obtain ⟨W0, hW0⟩ : ∃ W0, W0 = w.alloc (.cells #[.int .i64 ri, .int .i64 fa, .slice a L.length cap] 38) := ⟨_, rfl⟩
        have HX : Hid (∀ W, Below W0.heap.size W0 W → (W.cell? ⟨w.heap.size, 0, none⟩ = some (.int .i64 ri) ∧ W.cell? ⟨w.heap.size, 1, none⟩ = some (.int .i64 fa) ∧ W.cell? ⟨w.heap.size, 2, none⟩ = some (.slice a L.length cap)) ∧ Below w.heap.size w W) := fun W hW => by rw [hW0] at hW; exact hea_cells hW
        rw [← hW0]
        clear hW0 hb0
        go_loopw [24] (fun i wr => ∃ k : Nat, k ≤ L.length ∧ i = .int .i64 (k : Int) ∧ Hid (∀ j, (hj : j < L.length) → j < k → (nmB (nmL L) j && rowB ri fa L[j]) = true) ∧ Below W0.heap.size W0 wr) (fun i _ => L.length - (intOf i).toNat)
        case atStart => exact ⟨0, Nat.zero_le _, rfl, fun j _ h => absurd h (Nat.not_lt_zero _), Below.refl _ _⟩
        case round =>
          obtain ⟨k, hk, rfl, HK, hb⟩ := hrel
          obtain ⟨⟨d0, d1, d2⟩, hbw⟩ := HX.out _ hb
          by_cases hlt : k < L.length
          · have HC : Hid (Calls Tryz.prog 92 #[.agg #[.int .i64 ri, .int .i64 fa, .slice a L.length cap], .int .i64 (k : Int)] wr fun e w' => e = .returned (.bool (nmB (nmL L) k && rowB ri fa (L[k]'hlt))) ∧ Below wr.heap.size wr w') := HG k hlt wr hbw
            have HB1 : Hid ((nmB (nmL L) k && rowB ri fa (L[k]'hlt)) = false → false = good) := HBAD.out k hlt
            have HUP : Hid ((nmB (nmL L) k && rowB ri fa (L[k]'hlt)) = true → ∀ j, (hj : j < L.length) → j < k + 1 → (nmB (nmL L) j && rowB ri fa L[j]) = true) := fun h j hj h1 => by
              rcases Nat.lt_or_ge j k with h' | h'
              · exact HK.out j hj h'
              · obtain rfl : j = k := by omega
                exact h
            cases hq : (nmB (nmL L) k && rowB ri fa (L[k]'hlt)) with
            | false =>
              rw [hq] at HC
              have HR : Hid (false = good) := HB1.out hq
              clear hq HUP HB1
              go_wp2_with fail
              refine HC.out.mono ?_
              rintro e w2 ⟨rfl, hb2⟩
              have hbw2 := hbw.trans (hb2.mono hbw.size)
              go_wp2_with fail
              go_ret
              exact ⟨ret_bool HR.out, hbw2⟩
            | true =>
              rw [hq] at HC
              have HN : Hid (∀ j, (hj : j < L.length) → j < k + 1 → (nmB (nmL L) j && rowB ri fa L[j]) = true) := HUP.out hq
              clear hq HUP HB1
              go_wp2_with fail
              refine HC.out.mono ?_
              rintro e w2 ⟨rfl, hb2⟩
              have hb3 := hb.trans (hb2.mono hb.size)
              go_wp2_with fail
              go_roundw
              case rel => exact ⟨k + 1, by omega, by go_num, HN, hb3⟩
              case measure => simp [intOf]; omega
          · have HR : Hid (true = good) := HALL.out (fun j hj => HK.out j hj (by omega))
            go_wp2_with fail
            go_ret
            exact ⟨ret_bool HR.out, hbw⟩
end Go.Proofs.YtoanloballaclaaGreatDoor

namespace Go.Proofs.YtoanloballaclaaGreatDoor
open Go.RowKit

theorem nm_at {P : List (List UInt8)} {k : Nat} (h : k < P.length) : nmB P k = (nameB P[k] && !(P[k] == []) && !((P.take k).contains P[k])) := by
  unfold nmB
  rw [List.getD_eq_getElem?_getD, List.getElem?_eq_getElem h]; rfl
theorem con_hit {P : List (List UInt8)} {k m : Nat} (hk : k ≤ P.length) (hm : m < k) {s : List UInt8} (h : P[m]'(by omega) = s) : (P.take k).contains s = true := by
  rw [List.contains_iff_mem, List.mem_take_iff_getElem]
  exact ⟨m, by omega, h⟩
theorem con_miss {P : List (List UInt8)} {k : Nat} {s : List UInt8} (h : ∀ m, (hm : m < P.length) → m < k → P[m] ≠ s) : (P.take k).contains s = false := by
  rw [Bool.eq_false_iff]
  intro hc
  obtain ⟨m, hm, he⟩ := List.mem_take_iff_getElem.1 (List.contains_iff_mem.1 hc)
  exact h m (by omega) (by omega) he

set_option maxRecDepth 20000 in
set_option maxHeartbeats 2000000 in
theorem l13Names_any (v : Value) (P : List (List UInt8)) (w : World) (hr : Row w v P) (hl : P.length ≤ 1048576) (hx : Hid (∀ x ∈ P, x.length ≤ 1048576)) :
    Calls Tryz.prog 64 #[v] w fun e w' => e = .returned (.bool (nmsB P)) ∧ Below w.heap.size w w' := by
  obtain ⟨a, cap, rfl, hcap, hmax, HROW⟩ := row_value hr
  clear hr
  obtain ⟨good, hgood⟩ : ∃ good, good = nmsB P := ⟨_, rfl⟩
  have HGD : Hid (good = nmsB P) := hgood
  rw [← hgood]
  have HGN : Hid (∀ (x : List UInt8) W, x ∈ P → Calls Tryz.prog 61 #[.string ⟨x.toArray⟩] W fun e w' => e = .returned (.bool (nameB x)) ∧ Below W.heap.size W w') := fun x W hxm => by
    have h := sGoodName_any ⟨x.toArray⟩ W (by have := hx.out x hxm; rw [size_list]; omega)
    simpa using h
  have HIN : Hid (∀ W, Calls Tryz.prog 62 #[.int .i64 (P.length : Int), .int .i64 1, .int .i64 12] W fun e w' => e = .returned (.bool (inB (P.length : Int) 1 12)) ∧ w' = W) := fun W => l1In_any _ 1 12 W
  clear hgood
  go_enter Tryz.func64, Tryz.ntmps64
  go_wp2_with fail
  go_loopw [9] (fun i wr => ∃ k : Nat, k ≤ P.length ∧ i = .int .i64 (k : Int) ∧ Hid (∀ j, j < k → nmB P j = true) ∧ Below w.heap.size w wr) (fun i _ => P.length - (intOf i).toNat)
  case atStart => exact ⟨0, Nat.zero_le _, rfl, fun j h => absurd h (Nat.not_lt_zero _), Below.refl _ _⟩
  case round =>
    obtain ⟨k, hk, rfl, HK, hb⟩ := hrel
    by_cases hlt : k < P.length
    · obtain ⟨b, o, ha, hbl, hcel⟩ := HROW.out (by omega)
      rw [ha]
      have HC : Hid (∀ W, Below w.heap.size w W → ∀ j, (hj : j < P.length) → W.cell? ⟨b, o + j, none⟩ = some (.string ⟨P[j].toArray⟩)) := fun W hW j hj => by
        rw [hW.cell (p := ⟨b, o + j, none⟩) hbl]; exact hcel j hj
      have hcx := HC.out wr hb k hlt
      have HG1 := HGN.out _ wr (List.getElem_mem hlt)
      have HNM : Hid (nmB P k = (nameB (P[k]'hlt) && !((P[k]'hlt) == []) && !((P.take k).contains (P[k]'hlt)))) := nm_at hlt
      have HBAD : Hid (nmB P k = false → false = good) := fun h => by rw [HGD.out]; exact (nms_bad hlt h).symm
      have HHIT : Hid (∀ m, (hm : m < k) → P[m]'(by omega) = P[k]'hlt → false = good) := fun m hm h => HBAD.out (by rw [HNM.out, con_hit hk hm h]; simp)
      have HEND : Hid (nameB (P[k]'hlt) = true → ((P[k]'hlt) == []) = false → (∀ m, (hm : m < P.length) → m < k → P[m] ≠ P[k]'hlt) → ∀ j, j < k + 1 → nmB P j = true) := fun h1 h2 h3 j hj => by
        rcases Nat.lt_or_ge j k with h' | h'
        · exact HK.out j h'
        · obtain rfl : j = k := by omega
          rw [HNM.out, h1, h2, con_miss h3]; rfl
      obtain ⟨s, hs⟩ : ∃ s, s = P[k]'hlt := ⟨_, rfl⟩
      rw [← hs] at hcx HG1 HNM HHIT HEND
      have HG : Hid (Calls Tryz.prog 61 #[.string ⟨s.toArray⟩] wr fun e w' => e = .returned (.bool (nameB s)) ∧ Below wr.heap.size wr w') := HG1
      clear hcel hs HG1
      cases hN : nameB s with
      | false =>
        rw [hN] at HG HNM
        have HR : Hid (false = good) := HBAD.out HNM.out
        clear hN
        go_wp2_with fail
        refine HG.out.mono ?_
        rintro e w1 ⟨rfl, hb1⟩
        have hbw := hb.trans (hb1.mono hb.size)
        go_wp2_with fail
        go_ret
        exact ⟨ret_bool HR.out, hbw⟩
      | true =>
        rw [hN] at HG HNM HEND
        clear hN
        by_cases hn : s = []
        · subst hn
          have HR : Hid (false = good) := HBAD.out (by rw [HNM.out]; rfl)
          go_wp2_with fail
          refine HG.out.mono ?_
          rintro e w1 ⟨rfl, hb1⟩
          have hbw := hb.trans (hb1.mono hb.size)
          go_wp2_with fail
          go_ret
          exact ⟨ret_bool HR.out, hbw⟩
        · have e1 : (s == []) = false := by simpa using hn
          have HEND2 : Hid ((∀ m, (hm : m < P.length) → m < k → P[m] ≠ s) → ∀ j, j < k + 1 → nmB P j = true) := fun h => HEND.out rfl e1 h
          clear HEND HNM HBAD
          go_wp2_with fail
          refine HG.out.mono ?_
          rintro e w1 ⟨rfl, hb1⟩
          have hbw := hb.trans (hb1.mono hb.size)
          clear hb1 hcx HG
          go_wp2_with fail
          go_loopw [25] (fun i wr2 => ∃ m : Nat, m ≤ k ∧ i = .int .i64 (m : Int) ∧ Hid (∀ j, (hj : j < P.length) → j < m → P[j] ≠ s) ∧ Below w.heap.size w wr2) (fun i _ => k - (intOf i).toNat)
          case atStart => exact ⟨0, Nat.zero_le _, rfl, fun j _ h => absurd h (Nat.not_lt_zero _), hbw⟩
          case round =>
            obtain ⟨m, hm, rfl, HM, hb2⟩ := hrel
            by_cases hlm : m < k
            · have hcm := HC.out _ hb2 m (by omega)
              have HH := HHIT.out m hlm
              have HUP : Hid (P[m]'(by omega) ≠ s → ∀ j, (hj : j < P.length) → j < m + 1 → P[j] ≠ s) := fun h j hj h1 => by
                rcases Nat.lt_or_ge j m with h' | h'
                · exact HM.out j hj h'
                · obtain rfl : j = m := by omega
                  exact h
              obtain ⟨t, ht⟩ : ∃ t, t = P[m]'(by omega) := ⟨_, rfl⟩
              rw [← ht] at hcm HH HUP
              clear ht
              by_cases hts : t = s
              · have HR : Hid (false = good) := HH hts
                have e2 : (t == s) = true := by simpa using hts
                clear HH hts HUP
                go_wp2_with fail
                go_ret
                exact ⟨ret_bool HR.out, hb2⟩
              · have HN := HUP.out hts
                have HN2 : Hid (∀ j, (hj : j < P.length) → j < m + 1 → P[j] ≠ s) := HN
                have e2 : (t == s) = false := by simpa using hts
                clear HH hts HUP HN
                go_wp2_with fail
                go_roundw
                case rel => exact ⟨m + 1, by omega, by go_num, HN2, hb2⟩
                case measure => simp [intOf]; omega
            · have HN2 : Hid (∀ j, j < k + 1 → nmB P j = true) := HEND2.out (fun j hj h => HM.out j hj (by omega))
              go_wp2_with fail
              go_roundw
              case rel => exact ⟨k + 1, by omega, by go_num, HN2, hb2⟩
              case measure => simp [intOf]; omega
    · have HR : Hid (inB (P.length : Int) 1 12 = good) := by show _ = good; rw [HGD.out]; exact (nms_good (fun j hj => HK.out j (by omega))).symm
      go_wp2_with fail
      refine (HIN.out _).mono ?_
      rintro e w1 ⟨rfl, rfl⟩
      go_wp2_with fail
      go_ret
      exact ⟨ret_bool HR.out, hb⟩

set_option maxRecDepth 20000 in
set_option maxHeartbeats 400000 in
theorem l13Most_any (ri fa r : Int) (u : Bool) (n : ByteArray) (v : Value) (w : World) (hv : Hid (∃ a l c, v = .slice a l c)) :
    Calls Tryz.prog 63 #[HeaV ri fa v, .agg #[.string n, .bool u, .int .i64 r]] w fun e w' => e = .returned (.int .i64 (mostH ri fa u)) ∧ Below w.heap.size w w' := by
  unfold HeaV
  obtain ⟨a, l, c, rfl⟩ := hv.out
  have hb0 : Below w.heap.size w ((w.alloc (.cells #[.int .i64 ri, .int .i64 fa, .slice a l c] 38)).alloc (.cells #[.string n, .bool u, .int .i64 r] 101)) := ((Below.refl w.heap.size w).alloc (Nat.le_refl _) _).alloc (by simp) _
  clear hv
  cases u
  · go_enter Tryz.func63, Tryz.ntmps63
    go_wp2_with fail
    go_ret
    exact ⟨rfl, hb0⟩
  · go_enter Tryz.func63, Tryz.ntmps63
    go_wp2_with fail
    go_ret
    exact ⟨rfl, hb0⟩
end Go.Proofs.YtoanloballaclaaGreatDoor

namespace Go.Proofs.YtoanloballaclaaGreatDoor
open Go.RowKit

theorem wrap_64 (n : Int) : IntKind.i64.wrap n = wrap64 n := by rw [IntKind.wrap_i64]; unfold wrap64; rfl

set_option maxRecDepth 20000 in
set_option maxHeartbeats 4000000 in
theorem sGoodHealth_any (ri fa : Int) (v : Value) (L : List HosT) (w : World) (hr : HstRow w v L) (hl : L.length ≤ 1048576) (hx : Hid (∀ x ∈ L, x.1.length ≤ 1048576)) :
    Calls Tryz.prog 36 #[HeaV ri fa v] w fun e w' => e = .returned (.bool (goodH ri fa L)) ∧ Below w.heap.size w w' := by
  obtain ⟨i0, hi, hz0, hz1, hz2⟩ := info_parts info_string
  obtain ⟨good, hgood⟩ : ∃ good, good = goodH ri fa L := ⟨_, rfl⟩
  have HGD : Hid (good = goodH ri fa L) := hgood
  rw [← hgood]
  have HMO : Hid (∀ (x : HosT) W, Calls Tryz.prog 63 #[HeaV ri fa v, .agg #[.string ⟨x.1.toArray⟩, .bool x.2.1, .int .i64 x.2.2]] W fun e w' => e = .returned (.int .i64 (mostH ri fa x.2.1)) ∧ Below W.heap.size W w') := fun x W => l13Most_any ri fa x.2.2 x.2.1 ⟨x.1.toArray⟩ v W (by obtain ⟨a, cap, h, _⟩ := hr; exact ⟨a, _, cap, h⟩)
  have HL : Hid (∀ vn W, Row W vn (nmL L) → Calls Tryz.prog 64 #[vn] W fun e w' => e = .returned (.bool (nmsB (nmL L))) ∧ Below W.heap.size W w') := fun vn W h => l13Names_any vn (nmL L) W h (by rw [nmL_length]; exact hl) (fun x hxm => by
    obtain ⟨y, hy, rfl⟩ := List.mem_map.1 hxm
    exact hx.out y hy)
  have HIN : Hid (∀ n W, Calls Tryz.prog 62 #[.int .i64 n, .int .i64 1, .int .i64 10] W fun e w' => e = .returned (.bool (inB n 1 10)) ∧ w' = W) := fun n W => l1In_any n 1 10 W
  have HIR : Hid (∀ n q W, Calls Tryz.prog 62 #[.int .i64 n, .int .i64 0, .int .i64 q] W fun e w' => e = .returned (.bool (inB n 0 q)) ∧ w' = W) := fun n q W => l1In_any n 0 q W
  unfold HeaV at HMO ⊢
  obtain ⟨a, cap, rfl, hcap, hmax, HROW⟩ := hst_value hr
  obtain ⟨W0, hW0⟩ : ∃ W0, W0 = w.alloc (.cells #[.int .i64 ri, .int .i64 fa, .slice a L.length cap] 38) := ⟨_, rfl⟩
  have HX : Hid (∀ W, Below W0.heap.size W0 W → (W.cell? ⟨w.heap.size, 0, none⟩ = some (.int .i64 ri) ∧ W.cell? ⟨w.heap.size, 1, none⟩ = some (.int .i64 fa) ∧ W.cell? ⟨w.heap.size, 2, none⟩ = some (.slice a L.length cap)) ∧ Below w.heap.size w W) := fun W hW => by rw [hW0] at hW; exact hea_cells hW
  have HW0 : Hid (w.alloc (.cells #[.int .i64 ri, .int .i64 fa, .slice a L.length cap] 38) = W0) := hW0.symm
  clear hgood hr hW0 hx
  go_enter Tryz.func36, Tryz.ntmps36
  go_wp2_with fail
  rw [HW0.out]
  clear HW0
  go_loopw [3, 9] (fun nv i wr => ∃ (k : Nat) (vn : Value), k ≤ L.length ∧ i = .int .i64 (k : Int) ∧ vn = nv ∧ Hid (wr.ownsRow W0.heap.size 9 1 vn (nmL (L.take k)).length ((nmL (L.take k)).map S)) ∧ Hid (∀ j, (hj : j < L.length) → j < k → rowW ri fa L[j] = true) ∧ Below W0.heap.size W0 wr) (fun _ i _ => L.length - (intOf i).toNat)
  case atStart => exact ⟨0, _, Nat.zero_le _, rfl, rfl, World.ownsRow_nil _ _ _ _, fun j _ h => absurd h (Nat.not_lt_zero _), Below.refl _ _⟩
  case round =>
    obtain ⟨k, vn, hk, rfl, rfl, HO, HK, hb⟩ := hrel
    by_cases hlt : k < L.length
    · obtain ⟨b, o, ha, hbl, hcel⟩ := HROW.out (by omega)
      have hcx := (hcel k hlt).kept (HX.out _ hb).2
      unfold HstAt at hcx
      obtain ⟨c0, c1, c2⟩ := hcx
      have HSN : Hid (nmL (L.take (k + 1)) = nmL (L.take k) ++ [(L[k]'hlt).1]) := nmL_snoc L k hlt
      have hkl : (nmL (L.take k)).length = k := by rw [nmL_length, List.length_take]; omega
      have HRW : Hid (rowW ri fa (L[k]'hlt) = inB (L[k]'hlt).2.2 0 (wrap64 (mostH ri fa (L[k]'hlt).2.1 - 1))) := rfl
      have HBAD : Hid (rowW ri fa (L[k]'hlt) = false → false = good) := fun h => by rw [HGD.out]; exact (good_roww hlt h).symm
      have HUP : Hid (rowW ri fa (L[k]'hlt) = true → ∀ j, (hj : j < L.length) → j < k + 1 → rowW ri fa L[j] = true) := fun h j hj h1 => by
        rcases Nat.lt_or_ge j k with h' | h'
        · exact HK.out j hj h'
        · obtain rfl : j = k := by omega
          exact h
      have HMX := HMO.out (L[k]'hlt)
      obtain ⟨x, hxe⟩ : ∃ x, x = L[k]'hlt := ⟨_, rfl⟩
      rw [← hxe] at c0 c1 c2 HSN HRW HBAD HUP HMX
      obtain ⟨xn, u, r⟩ := x
      simp only at c0 c1 c2 HSN HRW HMX
      obtain ⟨m, hm⟩ : ∃ m, m = mostH ri fa u := ⟨_, rfl⟩
      rw [← hm] at HRW HMX
      obtain ⟨q, hq⟩ : ∃ q, IntKind.i64.wrap (m - 1) = q := ⟨_, rfl⟩
      rw [← wrap_64, hq] at HRW
      have HIQ := HIR.out r q
      obtain ⟨ok, hok⟩ : ∃ ok, ok = rowW ri fa (xn, u, r) := ⟨_, rfl⟩
      rw [← HRW.out, ← hok] at HIQ
      rw [← hok] at HBAD HUP
      obtain ⟨W1, hW1⟩ : ∃ W1, W1 = wr.alloc (.cells #[.string ⟨xn.toArray⟩, .bool u, .int .i64 r] 101) := ⟨_, rfl⟩
      have hb01 : Below W0.heap.size W0 W1 := by rw [hW1]; exact hb.alloc hb.size _
      have HX1 : Hid (∀ W, Below W1.heap.size W1 W → (W.cell? ⟨wr.heap.size, 0, none⟩ = some (.string ⟨xn.toArray⟩) ∧ W.cell? ⟨wr.heap.size, 1, none⟩ = some (.bool u) ∧ W.cell? ⟨wr.heap.size, 2, none⟩ = some (.int .i64 r)) ∧ (W.cell? ⟨w.heap.size, 0, none⟩ = some (.int .i64 ri) ∧ W.cell? ⟨w.heap.size, 1, none⟩ = some (.int .i64 fa) ∧ W.cell? ⟨w.heap.size, 2, none⟩ = some (.slice a L.length cap))) := fun W hW => ⟨by rw [hW1] at hW; exact (hea_cells hW).1, (HX.out W (hb01.trans (hW.mono hb01.size))).1⟩
      have HO1 : Hid (W1.ownsRow W0.heap.size 9 1 vn (nmL (L.take k)).length ((nmL (L.take k)).map S)) := by rw [hW1]; exact HO.out.alloc _
      have HMC : Hid (∀ W, Calls Tryz.prog 63 #[.agg #[.int .i64 ri, .int .i64 fa, .slice a L.length cap], .agg #[.string ⟨xn.toArray⟩, .bool u, .int .i64 r]] W fun e w' => e = .returned (.int .i64 m) ∧ Below W.heap.size W w') := HMX
      have HIC : Hid (∀ W, Calls Tryz.prog 62 #[.int .i64 r, .int .i64 0, .int .i64 q] W fun e w' => e = .returned (.bool ok) ∧ w' = W) := HIQ
      have HTR : Hid (∀ W W', Below W1.heap.size W1 W → Below W.heap.size W W' → Below W1.heap.size W1 W') := fun W W' h1 h2 => h1.trans (h2.mono h1.size)
      have HW1 : Hid (wr.alloc (.cells #[.string ⟨xn.toArray⟩, .bool u, .int .i64 r] 101) = W1) := hW1.symm
      have hbd : Below W1.heap.size W1 W1.drew := (Below.refl _ _).drew
      rw [ha]
      rw [ha] at HX1 HMC
      clear hcel hxe hm hok HRW HMX HIQ hW1
      go_wp2_with fail
      rw [HW1.out]
      clear c0 c1 c2
      refine wp_region_quiet (C := fun W => Below W1.heap.size W1 W) (by kernel_rfl) (by kernel_rfl) hbd ?_
      refine wpQuiet_step (fun K hK => ?_)
      rw [if_pos (by rfl)]
      refine ⟨.pointer (some ⟨wr.heap.size, 2, none⟩), fun W hW => quiet_ok ?_, hK _ ?_⟩
      · have z := HX1.out W hW
        obtain ⟨⟨m0, m1, m2⟩, ⟨z0, z1, z2⟩⟩ := z
        go_simp
        all_goals (try omega)
      clear hK K
      simp only [Act.put, List.setIfInBounds_toArray, List.set_cons_succ, List.set_cons_zero]
      refine wpQuiet_step (fun K hK => ?_)
      rw [if_pos (by rfl)]
      refine ⟨.int .i64 r, fun W hW => quiet_ok ?_, hK _ ?_⟩
      · have z := HX1.out W hW
        obtain ⟨⟨m0, m1, m2⟩, ⟨z0, z1, z2⟩⟩ := z
        go_simp
        all_goals (try omega)
      clear hK K
      simp only [Act.put, List.setIfInBounds_toArray, List.set_cons_succ, List.set_cons_zero]
      refine wpQuiet_step (fun K hK => ?_)
      rw [if_pos (by rfl)]
      refine ⟨.agg #[.int .i64 ri, .int .i64 fa, .slice (some ⟨b, o, none⟩) L.length cap], fun W hW => quiet_ok ?_, hK _ ?_⟩
      · have z := HX1.out W hW
        obtain ⟨⟨m0, m1, m2⟩, ⟨z0, z1, z2⟩⟩ := z
        go_simp
        all_goals (try omega)
      clear hK K
      simp only [Act.put, List.setIfInBounds_toArray, List.set_cons_succ, List.set_cons_zero]
      refine wpQuiet_step (fun K hK => ?_)
      rw [if_pos (by rfl)]
      refine ⟨.agg #[.string ⟨xn.toArray⟩, .bool u, .int .i64 r], fun W hW => quiet_ok ?_, hK _ ?_⟩
      · have z := HX1.out W hW
        obtain ⟨⟨m0, m1, m2⟩, ⟨z0, z1, z2⟩⟩ := z
        go_simp
        all_goals (try omega)
      clear hK K
      simp only [Act.put, List.setIfInBounds_toArray, List.set_cons_succ, List.set_cons_zero]
      refine wpQuiet_step (fun K hK => ?_)
      rw [if_pos (by rfl)]
      refine ⟨.int .i64 m, fun W hW => quiet_call (f := 63) (args := #[.agg #[.int .i64 ri, .int .i64 fa, .slice (some ⟨b, o, none⟩) L.length cap], .agg #[.string ⟨xn.toArray⟩, .bool u, .int .i64 r]]) ?_ ?_, hK _ ?_⟩
      · go_simp
      · exact (HMC.out W).mono fun e w'' h => ⟨h.1, HTR.out _ _ hW h.2⟩
      clear hK K
      simp only [Act.put, List.setIfInBounds_toArray, List.set_cons_succ, List.set_cons_zero]
      refine wpQuiet_step (fun K hK => ?_)
      rw [if_pos (by rfl)]
      refine ⟨.int .i64 q, fun W hW => quiet_ok ?_, hK _ ?_⟩
      · have z := HX1.out W hW
        obtain ⟨⟨m0, m1, m2⟩, ⟨z0, z1, z2⟩⟩ := z
        go_simp
        all_goals (try omega)
      clear hK K
      simp only [Act.put, List.setIfInBounds_toArray, List.set_cons_succ, List.set_cons_zero]
      refine wpQuiet_step (fun K hK => ?_)
      rw [if_pos (by rfl)]
      refine ⟨.bool ok, fun W hW => quiet_call (f := 62) (args := #[.int .i64 r, .int .i64 0, .int .i64 q]) ?_ ?_, hK _ ?_⟩
      · go_simp
      · exact (HIC.out W).mono fun e w'' h => ⟨h.1, by rw [h.2]; exact hW⟩
      clear hK K
      simp only [Act.put, List.setIfInBounds_toArray, List.set_cons_succ, List.set_cons_zero]
      refine wpQuiet_step (fun K hK => ?_)
      rw [if_pos (by rfl)]
      refine ⟨.bool (!ok), fun W hW => quiet_ok ?_, hK _ ?_⟩
      · have z := HX1.out W hW
        obtain ⟨⟨m0, m1, m2⟩, ⟨z0, z1, z2⟩⟩ := z
        go_simp
        all_goals (try omega)
      clear hK K
      simp only [Act.put, List.setIfInBounds_toArray, List.set_cons_succ, List.set_cons_zero]
      refine wpQuiet_nil ?_
      intro W hW
      have hbW0 := hb01.trans (hW.mono hb01.size)
      have hbW := (HX.out W hbW0).2
      obtain ⟨⟨m0, m1, m2⟩, _⟩ := HX1.out W hW
      have hownW : W.ownsRow W0.heap.size 9 1 vn (nmL (L.take k)).length ((nmL (L.take k)).map S) := own_below HO1.out hW
      have hzW := hbW0.size
      clear hW hb01 HX1 HO1 HMC HIC HTR hbd HO HK
      cases ok with
      | false =>
        have HR : Hid (false = good) := HBAD.out rfl
        go_wp2_with fail
        go_ret
        exact ⟨ret_bool HR.out, hbW⟩
      | true =>
        have HN : Hid (∀ j, (hj : j < L.length) → j < k + 1 → rowW ri fa L[j] = true) := HUP.out rfl
        clear HBAD HUP
        go_wp2_with (at_builtin; refine wpList_append_own _ rfl (.tmp 21) (.tmp 24) 100 rfl W0.heap.size 9 i0 (.string ByteArray.empty) 1 16 Tryz.underlying100 hi hz0 hz1 hz2 rfl (by decide) _ _ _ rfl (hownW.alloc _) ⟨W.heap.size, 0, none⟩ 1 1 [.string ⟨xn.toArray⟩] rfl rfl ?c1 ?c2 ?c3 ?c4 ?c5 ?_)
        case c1 => exact cell_new_one W (.string ⟨xn.toArray⟩) 9
        case c2 => exact one_string _
        case c3 => unfold maxLen; omega
        case c4 => omega
        case c5 => simp; omega
        intro v4 w4 hown4 hgrow4 _
        have hb4 := below_append hbW0 hownW hgrow4
        have HO4 : Hid (w4.ownsRow W0.heap.size 9 1 v4 (nmL (L.take (k + 1))).length ((nmL (L.take (k + 1))).map S)) := by
          show w4.ownsRow W0.heap.size 9 1 v4 (nmL (L.take (k + 1))).length ((nmL (L.take (k + 1))).map S)
          rw [HSN.out, List.length_append, List.map_append, hkl]
          exact hown4
        clear hownW hown4 hgrow4
        go_wp2_with fail
        go_roundw
        case rel => exact ⟨k + 1, _, by omega, by go_num, rfl, HO4, HN, hb4⟩
        case measure => simp [intOf]; omega
    · have HRW : Hid (Row wr vn (nmL L)) := by
        have h := HO.out
        rw [List.take_of_length_le (by omega)] at h
        exact row_own h
      have HE : Hid (good = (inB ri 1 10 && inB fa 1 10 && nmsB (nmL L))) := by show good = _; rw [HGD.out]; exact good_rows (fun j hj => HK.out j hj (by omega))
      obtain ⟨⟨d0, d1, d2⟩, hbw⟩ := HX.out _ hb
      have HA : Hid (∀ W, Calls Tryz.prog 62 #[.int .i64 ri, .int .i64 1, .int .i64 10] W fun e w' => e = .returned (.bool (inB ri 1 10)) ∧ w' = W) := HIN.out ri
      have HB : Hid (∀ W, Calls Tryz.prog 62 #[.int .i64 fa, .int .i64 1, .int .i64 10] W fun e w' => e = .returned (.bool (inB fa 1 10)) ∧ w' = W) := HIN.out fa
      have HN : Hid (Calls Tryz.prog 64 #[vn] wr fun e w' => e = .returned (.bool (nmsB (nmL L))) ∧ Below wr.heap.size wr w') := HL.out vn wr HRW.out
      obtain ⟨na, nc, hne, _⟩ := row_value HRW.out
      subst hne
      clear HO HK HGD HIN HIR HL HMO
      cases h1 : inB ri 1 10 with
      | false =>
        rw [h1] at HA HE
        have HR : Hid (false = good) := HE.out.symm
        go_wp2_with fail
        refine (HA.out _).mono ?_
        rintro e w1 ⟨rfl, rfl⟩
        go_wp2_with fail
        go_ret
        exact ⟨ret_bool HR.out, hbw⟩
      | true =>
        rw [h1] at HA HE
        cases h2 : inB fa 1 10 with
        | false =>
          rw [h2] at HB HE
          have HR : Hid (false = good) := HE.out.symm
          go_wp2_with fail
          refine (HA.out _).mono ?_
          rintro e w1 ⟨rfl, rfl⟩
          go_wp2_with fail
          refine (HB.out _).mono ?_
          rintro e w1 ⟨rfl, rfl⟩
          go_wp2_with fail
          go_ret
          exact ⟨ret_bool HR.out, hbw⟩
        | true =>
          rw [h2] at HB HE
          have HR : Hid (nmsB (nmL L) = good) := HE.out.symm
          go_wp2_with fail
          refine (HA.out _).mono ?_
          rintro e w1 ⟨rfl, rfl⟩
          go_wp2_with fail
          refine (HB.out _).mono ?_
          rintro e w1 ⟨rfl, rfl⟩
          go_wp2_with fail
          refine HN.out.mono ?_
          rintro e w3 ⟨rfl, hb3⟩
          have hbw3 := hbw.trans (hb3.mono hbw.size)
          go_wp2_with fail
          go_ret
          exact ⟨ret_bool HR.out, hbw3⟩
end Go.Proofs.YtoanloballaclaaGreatDoor

namespace Go.Proofs.YtoanloballaclaaGreatDoor
open Go.RowKit

/-- What RowOf tells. -/
def rowV (ri fa : Int) (L : List HosT) (n : Int) : Int × Bool := if goodH ri fa L = true ∧ 0 ≤ n ∧ n < (L.length : Int) then ((L.getD n.toNat ([], false, 0)).2.2, true) else (0, false)
/-- What IsUp tells. -/
def upO (ri fa : Int) (L : List HosT) (s : List UInt8) : Bool × Bool := if goodH ri fa L = true then match upV L s with
  | none => (false, false)
  | some x => (x.2.1, true) else (false, false)
theorem ret_pair {a b c d : Value} (h : a = c) (k : b = d) : Ending.returned (.tuple #[a, b]) = .returned (.tuple #[c, d]) := by rw [h, k]
theorem row_yes {ri fa : Int} {L : List HosT} {j : Nat} (hg : goodH ri fa L = true) (hj : j < L.length) : rowV ri fa L (j : Int) = (L[j].2.2, true) := by
  unfold rowV
  rw [if_pos ⟨hg, by omega, by omega⟩, Int.toNat_natCast, List.getD_eq_getElem?_getD, List.getElem?_eq_getElem hj]; rfl
theorem row_off {ri fa : Int} {L : List HosT} {n : Int} (h : goodH ri fa L = false ∨ ¬ (0 ≤ n ∧ n < (L.length : Int))) : rowV ri fa L n = (0, false) := by
  unfold rowV
  rw [if_neg]
  rintro ⟨h1, h2⟩
  rcases h with h | h
  · rw [h1] at h; cases h
  · exact h h2
theorem in_at {n : Int} {k : Nat} (h : inB n 0 ((k : Int) - 1) = true) : ∃ j : Nat, n = (j : Int) ∧ j < k := by
  simp only [inB, Bool.and_eq_true, decide_eq_true_eq] at h
  exact ⟨n.toNat, by omega, by omega⟩
theorem in_off {n : Int} {k : Nat} (h : inB n 0 ((k : Int) - 1) = false) : ¬ (0 ≤ n ∧ n < (k : Int)) := by
  intro ⟨h1, h2⟩
  have : inB n 0 ((k : Int) - 1) = true := by simp only [inB, Bool.and_eq_true, decide_eq_true_eq]; omega
  rw [this] at h; cases h

set_option maxRecDepth 20000 in
set_option maxHeartbeats 1000000 in
theorem iIsUp_any (ri fa : Int) (s : List UInt8) (v : Value) (L : List HosT) (w : World) (hr : HstRow w v L) (hE : Env w) :
    Calls Tryz.prog 94 #[HeaV ri fa v, .string ⟨s.toArray⟩] w fun e w' => e = .returned (.tuple #[.bool (upO ri fa L s).1, .bool (upO ri fa L s).2]) ∧ Below w.heap.size w w' := by
  have HG : Hid (∀ W, Below w.heap.size w W → Calls Tryz.prog 68 #[HeaV ri fa v] W fun e w' => e = .returned (.bool (goodH ri fa L)) ∧ Below W.heap.size W w') := fun W hW => iGoodHealth_any ri fa v L W (hr.kept hW) (hE.below hW)
  have HN : Hid (∀ W, Below w.heap.size w W → Calls Tryz.prog 106 #[HeaV ri fa v, .string ⟨s.toArray⟩] W fun e w' => (∃ i : Int, e = .returned (.int .i64 i) ∧ FirstI (fun x => x.1 == s) L i) ∧ Below W.heap.size W w') := fun W hW => firstNamed_any ri fa v L s W (hr.kept hW)
  obtain ⟨ans, hans⟩ : ∃ ans, ans = upO ri fa L s := ⟨_, rfl⟩
  rw [← hans]
  have HOFF : Hid (goodH ri fa L = false → ans = (false, false)) := fun h => by rw [hans]; unfold upO; rw [h]; rfl
  have HNO : Hid (goodH ri fa L = true → upV L s = none → ans = (false, false)) := fun h e => by rw [hans]; unfold upO; rw [h, e]; rfl
  have HYES : Hid (∀ x, goodH ri fa L = true → upV L s = some x → ans = (x.2.1, true)) := fun x h e => by rw [hans]; unfold upO; rw [h, e]; rfl
  unfold HeaV at HG HN ⊢
  obtain ⟨a, cap, rfl, hcap, hmax, HROW⟩ := hst_value hr
  have hb0 : Below w.heap.size w (w.alloc (.cells #[.int .i64 ri, .int .i64 fa, .slice a L.length cap] 38)) := (Below.refl w.heap.size w).alloc (Nat.le_refl _) _
  clear hr hans
  cases hg : goodH ri fa L with
  | false =>
    have HR : Hid (ans = (false, false)) := HOFF.out hg
    rw [hg] at HG
    go_enter Tryz.func94, Tryz.ntmps94
    go_wp2_with fail
    refine (HG.out _ hb0).mono ?_
    rintro e w1 ⟨rfl, hb1⟩
    have hbw := (hea_cells hb1).2
    go_wp2_with fail
    go_ret2
    exact ⟨ret_two (by rw [HR.out]; first | done | rfl) (by rw [HR.out]; first | done | rfl), hbw⟩
  | true =>
    rw [hg] at HG
    go_enter Tryz.func94, Tryz.ntmps94
    go_wp2_with fail
    refine (HG.out _ hb0).mono ?_
    rintro e w1 ⟨rfl, hb1⟩
    obtain ⟨⟨d0, d1, d2⟩, hbw⟩ := hea_cells hb1
    go_wp2_with fail
    refine (HN.out _ hbw).mono ?_
    rintro e w2 ⟨⟨i, rfl, hi⟩, hb2⟩
    have hbw2 := hbw.trans (hb2.mono hbw.size)
    have hb12 := hb1.trans (hb2.mono hb1.size)
    clear d0 d1 d2
    rcases up_first hi with ⟨rfl, hu⟩ | ⟨k, hk, rfl, hu⟩
    · have HR : Hid (ans = (false, false)) := HNO.out hg hu
      clear hi hu
      go_wp2_with fail
      go_ret2
      exact ⟨ret_two (by rw [HR.out]; first | done | rfl) (by rw [HR.out]; first | done | rfl), hbw2⟩
    · have HR : Hid (ans = (L[k].2.1, true)) := HYES.out _ hg hu
      obtain ⟨b, o, ha, hbl, hcel⟩ := HROW.out (by omega)
      have c1 := ((hcel k hk).kept hbw2).2.1
      obtain ⟨u, hue⟩ : ∃ u, u = L[k].2.1 := ⟨_, rfl⟩
      rw [← hue] at HR c1
      obtain ⟨⟨d0, d1, d2⟩, _⟩ := hea_cells hb12
      subst ha
      clear hi hu hcel hue
      go_wp2_with fail
      go_ret2
      exact ⟨ret_two (by rw [HR.out]; first | done | rfl) (by rw [HR.out]; first | done | rfl), hbw2⟩

theorem find_none {L : List HosT} {s : List UInt8} (h : ∀ j, (hj : j < L.length) → j < L.length → L[j].1 ≠ s) : upV L s = none := by
  unfold upV
  rw [List.find?_eq_none]
  intro x hx
  obtain ⟨j, hj, rfl⟩ := List.getElem_of_mem hx
  have := h j hj hj
  simpa using this
theorem find_hit {L : List HosT} {s : List UInt8} {k : Nat} (hk : k < L.length) (h : ∀ j, (hj : j < L.length) → j < k → L[j].1 ≠ s) (e : L[k].1 = s) : upV L s = some L[k] := by
  unfold upV
  rw [List.find?_eq_some_iff_getElem]
  exact ⟨by simpa using e, k, hk, rfl, fun j hj => by have := h j (by omega) hj; simpa using this⟩

set_option maxRecDepth 20000 in
set_option maxHeartbeats 1000000 in
theorem sIsUp_any (ri fa : Int) (s : List UInt8) (v : Value) (L : List HosT) (w : World) (hr : HstRow w v L) (hl : L.length ≤ 1048576) (hx : Hid (∀ x ∈ L, x.1.length ≤ 1048576)) :
    Calls Tryz.prog 91 #[HeaV ri fa v, .string ⟨s.toArray⟩] w fun e w' => e = .returned (.tuple #[.bool (upO ri fa L s).1, .bool (upO ri fa L s).2]) ∧ Below w.heap.size w w' := by
  have HG : Hid (∀ W, Below w.heap.size w W → Calls Tryz.prog 36 #[HeaV ri fa v] W fun e w' => e = .returned (.bool (goodH ri fa L)) ∧ Below W.heap.size W w') := fun W hW => sGoodHealth_any ri fa v L W (hr.kept hW) hl hx
  obtain ⟨ans, hans⟩ : ∃ ans, ans = upO ri fa L s := ⟨_, rfl⟩
  rw [← hans]
  have HOFF : Hid (goodH ri fa L = false → ans = (false, false)) := fun h => by rw [hans]; unfold upO; rw [h]; rfl
  have HNO : Hid (goodH ri fa L = true → upV L s = none → ans = (false, false)) := fun h e => by rw [hans]; unfold upO; rw [h, e]; rfl
  have HYES : Hid (∀ x, goodH ri fa L = true → upV L s = some x → ans = (x.2.1, true)) := fun x h e => by rw [hans]; unfold upO; rw [h, e]; rfl
  unfold HeaV at HG ⊢
  obtain ⟨a, cap, rfl, hcap, hmax, HROW⟩ := hst_value hr
  have hb0 : Below w.heap.size w (w.alloc (.cells #[.int .i64 ri, .int .i64 fa, .slice a L.length cap] 38)) := (Below.refl w.heap.size w).alloc (Nat.le_refl _) _
  clear hr hans
  cases hg : goodH ri fa L with
  | false =>
    have HR : Hid (ans = (false, false)) := HOFF.out hg
    rw [hg] at HG
    go_enter Tryz.func91, Tryz.ntmps91
    go_wp2_with fail
    refine (HG.out _ hb0).mono ?_
    rintro e w1 ⟨rfl, hb1⟩
    have hbw := (hea_cells hb1).2
    go_wp2_with fail
    go_ret2
    exact ⟨ret_two (by rw [HR.out]; first | done | rfl) (by rw [HR.out]; first | done | rfl), hbw⟩
  | true =>
    rw [hg] at HG
    go_enter Tryz.func91, Tryz.ntmps91
    go_wp2_with fail
    refine (HG.out _ hb0).mono ?_
    rintro e w1 ⟨rfl, hb1⟩
    obtain ⟨⟨d0, d1, d2⟩, hbw⟩ := hea_cells hb1
    clear hb1 HG HOFF
    go_wp2_with fail
    go_loopw [14] (fun i wr => ∃ k : Nat, k ≤ L.length ∧ i = .int .i64 (k : Int) ∧ Hid (∀ j, (hj : j < L.length) → j < k → L[j].1 ≠ s) ∧ Below w.heap.size w wr) (fun i _ => L.length - (intOf i).toNat)
    case atStart => exact ⟨0, Nat.zero_le _, rfl, fun j _ h => absurd h (Nat.not_lt_zero _), hbw⟩
    case round =>
      obtain ⟨k, hk, rfl, HK, hb⟩ := hrel
      by_cases hlt : k < L.length
      · obtain ⟨b, o, ha, hbl, hcel⟩ := HROW.out (by omega)
        have hcx := (hcel k hlt).kept hb
        unfold HstAt at hcx
        obtain ⟨c0, c1, c2⟩ := hcx
        have HY : Hid ((L[k]'hlt).1 = s → ans = ((L[k]'hlt).2.1, true)) := fun e => HYES.out _ hg (find_hit hlt HK.out e)
        have HUP : Hid ((L[k]'hlt).1 ≠ s → ∀ j, (hj : j < L.length) → j < k + 1 → L[j].1 ≠ s) := fun h j hj h1 => by
          rcases Nat.lt_or_ge j k with h' | h'
          · exact HK.out j hj h'
          · obtain rfl : j = k := by omega
            exact h
        obtain ⟨x, hxe⟩ : ∃ x, x = L[k]'hlt := ⟨_, rfl⟩
        rw [← hxe] at c0 c1 c2 HY HUP
        obtain ⟨xn, u, r⟩ := x
        simp only at c0 c1 c2 HY HUP
        have hbk := hb.alloc hb.size (.cells #[.string ⟨xn.toArray⟩, .bool u, .int .i64 r] 101)
        rw [ha]
        clear hcel hxe
        by_cases he : xn = s
        · have HR : Hid (ans = (u, true)) := HY.out he
          have e2 : (xn == s) = true := by simpa using he
          clear HY HUP he
          go_wp2_with fail
          go_ret2
          exact ⟨ret_two (by rw [HR.out]; first | done | rfl) (by rw [HR.out]; first | done | rfl), hbk⟩
        · have HN : Hid (∀ j, (hj : j < L.length) → j < k + 1 → L[j].1 ≠ s) := HUP.out he
          have e2 : (xn == s) = false := by simpa using he
          clear HY HUP he
          go_wp2_with fail
          go_roundw
          case rel => exact ⟨k + 1, by omega, by go_num, HN, hbk⟩
          case measure => simp [intOf]; omega
      · have HR : Hid (ans = (false, false)) := HNO.out hg (find_none (fun j hj _ => HK.out j hj (by omega)))
        go_wp2_with fail
        go_ret2
        exact ⟨ret_two (by rw [HR.out]; first | done | rfl) (by rw [HR.out]; first | done | rfl), hb⟩
end Go.Proofs.YtoanloballaclaaGreatDoor
