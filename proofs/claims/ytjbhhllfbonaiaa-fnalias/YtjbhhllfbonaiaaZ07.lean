import Derived.Test.YtjbhhllfbonaiaaZ05
import Derived.Test.YtjbhhllfbonaiaaZ06
import Derived.Laws.ResultCell
namespace Go.Proofs.Ytjbhhllfbonaiaa
open Go.RowKit

/-- A serial that none of a list is newer than; the first such one. -/
def okB (n o : Int) : Bool := tldB n o && !newB n o
def nwB (L : List Int) (n : Int) : Bool := L.all (okB n)
def nwO (L : List Int) : Option Int := if inB (L.length : Int) 1 20 && L.all serB then L.find? (nwB L) else none
def nwV (L : List Int) : Value := .tuple #[.int .i64 ((nwO L).getD 0), .bool (nwO L).isSome]
theorem nw_len {L : List Int} (h : inB (L.length : Int) 1 20 = false) : nwO L = none := by unfold nwO; rw [h]; rfl
theorem nw_bad {L : List Int} {k : Nat} (hk : k < L.length) (h : serB L[k] = false) : nwO L = none := by
  unfold nwO
  rw [if_neg]
  intro hh
  have h2 := List.all_eq_true.1 (Bool.and_eq_true_iff.1 hh).2 L[k] (List.getElem_mem hk)
  rw [h] at h2; cases h2
theorem nw_find {L : List Int} (h1 : inB (L.length : Int) 1 20 = true) (h2 : L.all serB = true) : nwO L = L.find? (nwB L) := by unfold nwO; rw [h1, h2]; rfl
theorem find_at {L : List Int} {p : Int → Bool} {k : Nat} (hk : k < L.length) (h : (L.take k).find? p = none) (hp : p L[k] = true) : L.find? p = some L[k] := by
  have h2 : (L.take k ++ L[k] :: L.drop (k + 1)).find? p = some L[k] := by rw [List.find?_append, h, List.find?_cons, hp]; rfl
  have e : L.take k ++ L[k] :: L.drop (k + 1) = L := by simp
  rw [e] at h2; exact h2
theorem find_on {L : List Int} {p : Int → Bool} {k : Nat} (hk : k < L.length) (h : (L.take k).find? p = none) (hp : p L[k] = false) : (L.take (k + 1)).find? p = none := by
  rw [List.take_succ_eq_append_getElem hk, List.find?_append, h]; simp [hp]
theorem all_on {L : List Int} {p : Int → Bool} {k : Nat} (hk : k < L.length) : (L.take (k + 1)).all p = ((L.take k).all p && p L[k]) := by
  rw [List.take_succ_eq_append_getElem hk, List.all_append]; simp
theorem nw_ret {L : List Int} {o : Option Int} (h : nwO L = o) : Ending.returned (.tuple #[.int .i64 (o.getD 0), .bool o.isSome]) = .returned (nwV L) := by unfold nwV; rw [h]
theorem les_ser {a b : Int} (ha : serB a = true) (hb : serB b = true) : lesV a b = .tuple #[.bool (newB a b), .bool (tldB a b)] := by unfold lesV; rw [ha, hb]; rfl

end Go.Proofs.Ytjbhhllfbonaiaa

namespace Go.Proofs.Ytjbhhllfbonaiaa
open Go.RowKit

/-- A weight; a number that is near 0; good weights. -/
def wtB (n : Int) : Bool := inB n 0 50
def smB (n : Int) : Bool := inB n (-10000) 10000
def goodW (L : List Int) : Bool := inB (L.length : Int) 1 12 && L.all wtB && decide (0 < L.sum)
theorem sum_on {L : List Int} {k : Nat} (hk : k < L.length) : (L.take (k + 1)).sum = (L.take k).sum + L[k] := by
  rw [List.take_succ_eq_append_getElem hk, List.sum_append]; simp
theorem wt_in {n : Int} (h : wtB n = true) : 0 ≤ n ∧ n ≤ 50 := by simpa [wtB, inB] using h
theorem sm_in {n : Int} (h : smB n = true) : -10000 ≤ n ∧ n ≤ 10000 := by simpa [smB, inB] using h
theorem wt_sm {n : Int} (h : wtB n = true) : smB n = true := by
  have := wt_in h
  simp [smB, inB]; omega
theorem all_sm {L : List Int} (h : L.all wtB = true) : L.all smB = true :=
  List.all_eq_true.2 fun x hx => wt_sm (List.all_eq_true.1 h x hx)
theorem sm_sum : ∀ (L : List Int), L.all smB = true → -10000 * (L.length : Int) ≤ L.sum ∧ L.sum ≤ 10000 * (L.length : Int)
  | [], _ => by simp
  | x :: l, h => by
    rw [List.all_cons, Bool.and_eq_true] at h
    have h1 := sm_in h.1
    have h2 := sm_sum l h.2
    rw [List.sum_cons, List.length_cons]
    omega
theorem take_sm {L : List Int} (k : Nat) (h : L.all smB = true) : (L.take k).all smB = true :=
  List.all_eq_true.2 fun x hx => List.all_eq_true.1 h x (List.mem_of_mem_take hx)
theorem all_bad {L : List Int} {p : Int → Bool} {k : Nat} (hk : k < L.length) (h : p L[k] = false) : L.all p = false := by
  rw [Bool.eq_false_iff]; intro h2
  have h3 := List.all_eq_true.1 h2 _ (List.getElem_mem hk)
  rw [h] at h3; cases h3
theorem good_bad {L : List Int} (h : L.all wtB = false) : goodW L = false := by unfold goodW; rw [h]; simp
theorem good_len {L : List Int} (h : inB (L.length : Int) 1 12 = false) : goodW L = false := by unfold goodW; rw [h]; simp
theorem goodW_all {L : List Int} {q : Bool} (h : L.all wtB = true) (hq : inB (L.length : Int) 1 12 = q) : goodW L = (q && decide (0 < L.sum)) := by unfold goodW; rw [h, hq]; simp
theorem i64_wrap {x : Int} (h1 : -9223372036854775808 ≤ x) (h2 : x ≤ 9223372036854775807) : IntKind.i64.wrap x = x := by
  simp [IntKind.wrap, IntKind.signed, IntKind.bits]; omega

set_option maxRecDepth 20000 in
set_option maxHeartbeats 1000000 in
theorem sumOf_any (v : Value) (L : List Int) (w : World) (hr : ZRow .i64 w v L) (hl : L.length ≤ 1048576) (hs : L.all smB = true) :
    Calls Try.prog 15 #[v] w fun e w' => e = .returned (.int .i64 L.sum) ∧ w' = w := by
  obtain ⟨a, cap, rfl, hcap, hmax, HROW⟩ := zrow_value hr
  clear hr
  have HS : Hid (L.all smB = true) := hs
  clear hs
  go_enter Try.func15, Try.ntmps15
  go_wp2_with fail
  go_loopw [3, 8] (fun s i wr => ∃ k : Nat, k ≤ L.length ∧ i = .int .i64 (k : Int) ∧ s = .int .i64 (L.take k).sum ∧ wr = w) (fun _ i _ => L.length - (intOf i).toNat)
  case atStart => exact ⟨0, Nat.zero_le _, rfl, rfl, rfl⟩
  case round =>
    obtain ⟨k, hk, rfl, rfl, rfl⟩ := hrel
    by_cases hlt : k < L.length
    · obtain ⟨b, o, ha, hbl, hc⟩ := HROW.out (by omega)
      rw [ha]
      have hcx := hc k hlt
      have HN : Hid ((L.take (k + 1)).sum = (L.take k).sum + L[k]'hlt) := sum_on hlt
      have hx1 := sm_in (List.all_eq_true.1 HS.out _ (List.getElem_mem hlt))
      have hs1 := sm_sum (L.take k) (take_sm k HS.out)
      rw [List.length_take, Nat.min_eq_left hk] at hs1
      obtain ⟨x, hx⟩ : ∃ x, x = L[k]'hlt := ⟨_, rfl⟩
      rw [← hx] at hcx HN hx1
      obtain ⟨s, hse⟩ : ∃ s, s = (L.take k).sum := ⟨_, rfl⟩
      rw [← hse] at HN hs1 ⊢
      clear hc hx hse
      go_wp2_with fail
      go_roundw
      case rel => exact ⟨k + 1, by omega, by go_num, by rw [HN.out], by trivial⟩
      case measure => simp [intOf]; omega
    · have HE : Hid ((L.take k).sum = L.sum) := by show _ = _; rw [List.take_of_length_le (by omega)]
      rw [HE.out]
      go_wp2_with fail
      go_ret
      exact ⟨rfl, rfl⟩

set_option maxRecDepth 20000 in
set_option maxHeartbeats 1000000 in
theorem sGoodWeights_any (v : Value) (L : List Int) (w : World) (hr : ZRow .i64 w v L) (hl : L.length ≤ 1048576) :
    Calls Try.prog 19 #[v] w fun e w' => e = .returned (.bool (goodW L)) ∧ w' = w := by
  obtain ⟨a, cap, rfl, hcap, hmax, HROW⟩ := zrow_value hr
  clear hr
  go_enter Try.func19, Try.ntmps19
  go_wp2_with fail
  go_loopw [3, 8] (fun s i wr => ∃ k : Nat, k ≤ L.length ∧ i = .int .i64 (k : Int) ∧ s = .int .i64 (L.take k).sum ∧ Hid ((L.take k).all wtB = true) ∧ wr = w) (fun _ i _ => L.length - (intOf i).toNat)
  case atStart => exact ⟨0, Nat.zero_le _, rfl, rfl, rfl, rfl⟩
  case round =>
    obtain ⟨k, hk, rfl, rfl, HA, rfl⟩ := hrel
    have hs1 := sm_sum (L.take k) (all_sm HA.out)
    rw [List.length_take, Nat.min_eq_left hk] at hs1
    by_cases hlt : k < L.length
    · obtain ⟨b, o, ha, hbl, hc⟩ := HROW.out (by omega)
      rw [ha]
      have hcx := hc k hlt
      have HN : Hid ((L.take (k + 1)).sum = (L.take k).sum + L[k]'hlt) := sum_on hlt
      have HNA : Hid ((L.take (k + 1)).all wtB = ((L.take k).all wtB && wtB (L[k]'hlt))) := all_on hlt
      have HBAD : Hid (wtB (L[k]'hlt) = false → goodW L = false) := fun h => good_bad (all_bad hlt h)
      obtain ⟨x, hx⟩ : ∃ x, x = L[k]'hlt := ⟨_, rfl⟩
      rw [← hx] at hcx HN HNA HBAD
      obtain ⟨s, hse⟩ : ∃ s, s = (L.take k).sum := ⟨_, rfl⟩
      rw [← hse] at HN hs1 ⊢
      clear hc hx hse
      cases hq : inB x 0 50 with
      | false =>
        have HB : Hid (goodW L = false) := HBAD.out hq
        go_wp2_with fail
        refine (l1In_anyY _ _ _ _).mono ?_
        rintro e w1 ⟨rfl, rfl⟩
        rw [hq]
        go_wp2_with fail
        go_ret
        exact ⟨ret_boolY HB.out.symm, rfl⟩
      | true =>
        have hx1 := wt_in hq
        go_wp2_with fail
        refine (l1In_anyY _ _ _ _).mono ?_
        rintro e w1 ⟨rfl, rfl⟩
        rw [hq]
        have HQ : Hid (wtB x = true) := hq
        clear hq
        go_wp2_with fail
        go_roundw
        case rel => exact ⟨k + 1, by omega, by go_num, by rw [HN.out], by show _ = true; rw [HNA.out, HA.out, HQ.out]; rfl, by trivial⟩
        case measure => simp [intOf]; omega
    · have HE : Hid ((L.take k).sum = L.sum) := by show _ = _; rw [List.take_of_length_le (by omega)]
      have HALL : Hid (L.all wtB = true) := by have := HA.out; rw [List.take_of_length_le (by omega)] at this; exact this
      rw [HE.out]
      clear hs1
      obtain ⟨s, hse⟩ : ∃ s, s = L.sum := ⟨_, rfl⟩
      rw [← hse]
      have HSE : Hid (s = L.sum) := hse
      clear hse
      cases hq : inB (L.length : Int) 1 12 with
      | false =>
        go_wp2_with fail
        refine (l1In_anyY _ _ _ _).mono ?_
        rintro e w1 ⟨rfl, rfl⟩
        rw [hq]
        have HQ : Hid (goodW L = false) := good_len hq
        clear hq
        go_wp2_with fail
        go_ret
        exact ⟨ret_boolY HQ.out.symm, rfl⟩
      | true =>
        have HG : Hid (goodW L = decide (0 < s)) := by show _ = _; rw [goodW_all HALL.out hq, HSE.out]; simp
        go_wp2_with fail
        refine (l1In_anyY _ _ _ _).mono ?_
        rintro e w1 ⟨rfl, rfl⟩
        rw [hq]
        clear hq
        go_wp2_with fail
        go_ret
        exact ⟨ret_boolY HG.out.symm, rfl⟩

set_option maxRecDepth 20000 in
set_option maxHeartbeats 1000000 in
theorem iGoodWeights_any (v : Value) (L : List Int) (w : World) (hr : ZRow .i64 w v L) :
    Calls Try.prog 7 #[v] w fun e w' => e = .returned (.bool (goodW L)) ∧ w' = w := by
  have HR0 : Hid (ZRow .i64 w v L) := hr
  obtain ⟨a, cap, rfl, hcap, hmax, HROW⟩ := zrow_value hr
  clear hr
  cases h1 : inB (L.length : Int) 1 12 with
  | false =>
    go_enter Try.func7, Try.ntmps7
    go_wp2_with fail
    refine (iWithin_anyY _ _ _ _).mono ?_
    rintro e w1 ⟨rfl, rfl⟩
    rw [h1]
    go_wp2_with fail
    go_ret
    exact ⟨ret_boolY (good_len h1).symm, rfl⟩
  | true =>
    have hl : L.length ≤ 12 := by
      have : 1 ≤ (L.length : Int) ∧ (L.length : Int) ≤ 12 := by simpa [inB] using h1
      omega
    have H1 : Hid (inB (L.length : Int) 1 12 = true) := h1
    go_enter Try.func7, Try.ntmps7
    go_wp2_with fail
    refine (iWithin_anyY _ _ _ _).mono ?_
    rintro e w1 ⟨rfl, rfl⟩
    rw [h1]
    clear h1
    go_wp2_with fail
    go_loopw [11] (fun i wr => ∃ k : Nat, k ≤ L.length ∧ i = .int .i64 (k : Int) ∧ Hid ((L.take k).all wtB = true) ∧ wr = w1) (fun i _ => L.length - (intOf i).toNat)
    case atStart => exact ⟨0, Nat.zero_le _, rfl, rfl, rfl⟩
    case round =>
      obtain ⟨k, hk, rfl, HA, rfl⟩ := hrel
      by_cases hlt : k < L.length
      · obtain ⟨b, o, ha, hbl, hc⟩ := HROW.out (by omega)
        rw [ha]
        have hcx := hc k hlt
        have HNA : Hid ((L.take (k + 1)).all wtB = ((L.take k).all wtB && wtB (L[k]'hlt))) := all_on hlt
        have HBAD : Hid (wtB (L[k]'hlt) = false → goodW L = false) := fun h => good_bad (all_bad hlt h)
        obtain ⟨x, hx⟩ : ∃ x, x = L[k]'hlt := ⟨_, rfl⟩
        rw [← hx] at hcx HNA HBAD
        clear hc hx
        cases hq : inB x 0 50 with
        | false =>
          have HB : Hid (goodW L = false) := HBAD.out hq
          go_wp2_with fail
          refine (iWithin_anyY _ _ _ _).mono ?_
          rintro e w2 ⟨rfl, rfl⟩
          rw [hq]
          go_wp2_with fail
          go_ret
          exact ⟨ret_boolY HB.out.symm, rfl⟩
        | true =>
          go_wp2_with fail
          refine (iWithin_anyY _ _ _ _).mono ?_
          rintro e w2 ⟨rfl, rfl⟩
          rw [hq]
          have HQ : Hid (wtB x = true) := hq
          clear hq
          go_wp2_with fail
          go_roundw
          case rel => exact ⟨k + 1, by omega, by go_num, by show _ = true; rw [HNA.out, HA.out, HQ.out]; rfl, by trivial⟩
          case measure => simp [intOf]; omega
      · have HALL : Hid (L.all wtB = true) := by have := HA.out; rw [List.take_of_length_le (by omega)] at this; exact this
        have HG : Hid (goodW L = decide (0 < L.sum)) := by show _ = _; rw [goodW_all HALL.out H1.out]; simp
        go_wp2_with fail
        refine (sumOf_any _ L _ HR0.out (by omega) (all_sm HALL.out)).mono ?_
        rintro e w2 ⟨rfl, rfl⟩
        go_wp2_with fail
        go_ret
        exact ⟨ret_boolY HG.out.symm, rfl⟩
end Go.Proofs.Ytjbhhllfbonaiaa

namespace Go.Proofs.Ytjbhhllfbonaiaa
open Go.RowKit

/-- A turn. -/
def TrnV (va vu : Value) : Value := .agg #[va, vu]
theorem trn_new (w : World) (o : Obj) : (w.alloc o).heap[w.heap.size]? = some o := by
  show (w.heap.push o)[w.heap.size]? = some o
  simp
theorem trn_new3 (w : World) (a b c : Obj) : (((w.alloc a).alloc b).alloc c).heap[w.heap.size + 1 + 1]? = some c := by
  have h := trn_new ((w.alloc a).alloc b) c
  simpa using h
theorem trn_cells {W : World} {b : Nat} {v0 v1 : Value} {t : TypeId} (h : W.heap[b]? = some (.cells #[v0, v1] t)) :
    (W.cell? ⟨b, 0, none⟩ = some v0 ∧ W.cell? ⟨b, 1, none⟩ = some v1) ∧ (W.frozen? ⟨b, 0, none⟩ = false ∧ W.frozen? ⟨b, 1, none⟩ = false) := by
  refine ⟨⟨?_, ?_⟩, ⟨?_, ?_⟩⟩
  all_goals first
    | (unfold World.cell?; rw [h]; rfl)
    | (unfold World.frozen?; rw [h]; simp)
theorem trn_below {w W : World} {o : Obj} (hb : Below (w.alloc o).heap.size (w.alloc o) W) : W.heap[w.heap.size]? = some o ∧ Below w.heap.size w W :=
  ⟨(hb.block _ (by simp)).trans (trn_new _ _), ((Below.refl w.heap.size w).alloc (Nat.le_refl _) _).trans (hb.mono (by simp))⟩
theorem trn_below2 {w W : World} {a b : Obj} (hb : Below ((w.alloc a).alloc b).heap.size ((w.alloc a).alloc b) W) : W.heap[w.heap.size]? = some a ∧ W.heap[w.heap.size + 1]? = some b ∧ Below w.heap.size w W := by
  have hA : Below (w.alloc a).heap.size (w.alloc a) W := ((Below.refl _ _).alloc (Nat.le_refl _) _).trans (hb.mono (by simp))
  obtain ⟨h1, h2⟩ := trn_below hA
  exact ⟨h1, (hb.block _ (by simp)).trans (heap_alloc2_new _ _ _), h2⟩
theorem trn_below3 {w W : World} {a b c : Obj} (hb : Below (((w.alloc a).alloc b).alloc c).heap.size (((w.alloc a).alloc b).alloc c) W) : W.heap[w.heap.size]? = some a ∧ W.heap[w.heap.size + 1]? = some b ∧ W.heap[w.heap.size + 1 + 1]? = some c ∧ w.heap.size + 1 + 1 < W.heap.size ∧ Below w.heap.size w W := by
  have hA : Below ((w.alloc a).alloc b).heap.size ((w.alloc a).alloc b) W := ((Below.refl _ _).alloc (Nat.le_refl _) _).trans (hb.mono (by simp))
  obtain ⟨h1, h2, h3⟩ := trn_below2 hA
  exact ⟨h1, h2, (hb.block _ (by simp)).trans (trn_new3 _ _ _ _), Nat.lt_of_lt_of_le (by simp) hb.size, h3⟩
theorem ZSRow.far {w : World} {g g' k : Nat} {L : List Int} (h : ZSRow w g L) (hne : g' ≠ g) (u : Value) : ZSRow (w.setCell ⟨g', k, none⟩ u) g L := by
  refine ⟨by simpa using h.1, fun j hj => ⟨?_, by simpa using (h.2 j hj).2⟩⟩
  rw [World.cell?_setCell_other _ _ _ _ (show (⟨g', k, none⟩ : Addr) ≠ ⟨g, j, none⟩ from fun e => hne (by injection e))]
  exact (h.2 j hj).1
/-- Two cells stored. -/
def put2v (w : World) (g : Nat) (v0 v1 : Value) : World := (w.setCell ⟨g, 0, none⟩ v0).setCell ⟨g, 1, none⟩ v1
theorem put2v_heap {w : World} {g : Nat} {t : TypeId} {v0 v1 u0 u1 : Value} (h : w.heap[g]? = some (.cells #[u0, u1] t)) : (put2v w g v0 v1).heap[g]? = some (.cells #[v0, v1] t) := by
  have e0 := heap_setCell_same _ _ 0 _ _ v0 h
  have e1 := heap_setCell_same _ _ 1 _ _ v1 e0
  unfold put2v
  simpa using e1
theorem put2v_far {w : World} {g g' : Nat} {v0 v1 : Value} {L : List Int} (h : ZSRow w g L) (hne : g' ≠ g) : ZSRow (put2v w g' v0 v1) g L := (h.far hne _).far hne _
theorem put2v_below {B : Nat} {a w : World} (h : Below B a w) {g : Nat} (hg : B ≤ g) (v0 v1 : Value) : Below B a (put2v w g v0 v1) :=
  (h.setCell (p := ⟨g, 0, none⟩) hg _).setCell (p := ⟨g, 1, none⟩) hg _

end Go.Proofs.Ytjbhhllfbonaiaa

namespace Go.Proofs.Ytjbhhllfbonaiaa
open Go.RowKit

/-- A good turn. -/
def goodT (A U : List Int) : Bool := goodW A && decide (U.length = A.length) && U.all smB && decide (U.sum = 0)
theorem good12 {L : List Int} (h : goodW L = true) : L.length ≤ 12 := by
  unfold goodW inB at h
  simp only [Bool.and_eq_true, decide_eq_true_eq] at h
  omega

end Go.Proofs.Ytjbhhllfbonaiaa

namespace Go.Proofs.Ytjbhhllfbonaiaa
open Go.RowKit

theorem ints_oneZT (P : List Int) : ∀ u ∈ P.map (Value.int .i64), u.oneCell' = true := by
  intro u hu
  obtain ⟨x, _, rfl⟩ := List.mem_map.1 hu
  rfl
theorem add_0T (b o j : Nat) : (⟨b, o, none⟩ : Addr).add j = ⟨b, o + j, none⟩ := by unfold Addr.add; split <;> simp_all
theorem own_emptyT (w : World) (e : TypeId) (size : Nat) : (w.alloc (.cells #[] e)).ownsRow w.heap.size e size (.slice (some ⟨w.heap.size, 0, none⟩) 0 0) 0 [] :=
  ⟨by simp, .inr ⟨w.heap.size, 0, #[], rfl, Nat.le_refl _, trn_new _ _, Nat.le_refl _, Nat.zero_le _, by simp, by simp⟩⟩
theorem src_intsT {W : World} {b o : Nat} {P : List Int} (hc : ∀ j, (hj : j < P.length) → W.cell? ⟨b, o + j, none⟩ = some (.int .i64 P[j])) : ∀ j u, (P.map (Value.int .i64))[j]? = some u → W.cell? ((⟨b, o, none⟩ : Addr).add j) = some u := fun j u h => by
  rw [List.getElem?_map] at h
  by_cases hj : j < P.length
  · rw [List.getElem?_eq_getElem hj] at h
    cases h
    rw [add_0T]; exact hc j hj
  · rw [List.getElem?_eq_none (by omega)] at h; cases h
theorem zs_of_ownT {w : World} {base : Nat} {v : Value} {P : List Int} (hp : 0 < P.length) (h : w.ownsRow base 3 1 v P.length (P.map (Value.int .i64))) : ∃ t cap, v = .slice (some ⟨t, 0, none⟩) P.length cap ∧ P.length ≤ cap ∧ cap ≤ 9223372036854775807 ∧ base ≤ t ∧ ZSRow w t P := by
  have h0 := h
  obtain ⟨_, ⟨_, hn⟩ | ⟨g, cap, cur, rfl, hg, _, h1, h2, _, _⟩⟩ := h
  · omega
  · unfold maxLen at h2
    exact ⟨g, cap, rfl, h1, by omega, hg, zs_own h0⟩

end Go.Proofs.Ytjbhhllfbonaiaa
