import Derived.Test.YtjkabglaldkjgaaGreatDoorRRZ46
import Derived.Test.YtjkabglaldkjgaaGreatDoorRRZ47
import Derived.Test.YtjkabglaldkjgaaGreatDoorRRZ31
import Derived.BigQuiet
import Derived.Deep.QuietTactic
namespace Go.Proofs.YtjkabglaldkjgaaGreatDoorRR
open Go.RowKit

set_option maxRecDepth 20000 in
set_option maxHeartbeats 1000000 in
theorem sRuleOf_any (ap : ByteArray) (v : Value) (L : List (List UInt8 × Int × Int × List UInt8)) (w : World) (hr : RRow w v L) (hap : ap.size ≤ 1048576) (hl : L.length ≤ 1048576) (hx : Hid (∀ x ∈ L, x.1.length ≤ 1048576 ∧ x.2.2.2.length ≤ 1048576)) :
    Calls Tryz.prog 26 #[.string ap, v] w fun e w' => e = .returned (.int .i64 (ruleB ap.data.toList L)) ∧ Below w.heap.size w w' := by
  have HRR : Hid (∀ W, Below w.heap.size w W → RRow W v L) := fun W hW => hr.kept hW
  obtain ⟨a, cap, rfl, _⟩ := hr
  have HRB : Hid (ruleB ap.data.toList L = if (apexB ap.data.toList && listB L) = true then ruleS ap.data.toList L else 9) := ruleB_spec _ _
  obtain ⟨r, hr⟩ : ∃ r, r = ruleB ap.data.toList L := ⟨_, rfl⟩
  rw [← hr] at HRB ⊢
  clear hr
  cases h1 : apexB ap.data.toList with
  | false =>
    have HR : Hid (r = 9) := by rw [HRB.out, h1]; rfl
    clear HRB
    go_enter Tryz.func26, Tryz.ntmps26
    go_wp2_with fail
    refine (l6Apex_any ap w (by omega)).mono ?_
    rintro e w1 ⟨rfl, hb1⟩
    rw [h1]
    go_wp2_with fail
    go_ret
    exact ⟨ret_intI HR.out.symm, hb1⟩
  | true =>
    rw [h1, Bool.true_and] at HRB
    have hname : Hid (nameB ap.data.toList = true) := apex_name h1
    cases h2 : listB L with
    | false =>
      have HR : Hid (r = 9) := by rw [HRB.out, h2]; rfl
      clear HRB
      go_enter Tryz.func26, Tryz.ntmps26
      go_wp2_with fail
      refine (l6Apex_any ap w (by omega)).mono ?_
      rintro e w1 ⟨rfl, hb1⟩
      rw [h1]
      go_wp2_with fail
      refine (l6List_any _ L w1 (HRR.out _ hb1) hx).mono ?_
      rintro e w2 ⟨rfl, hb2⟩
      rw [h2]
      go_wp2_with fail
      go_ret
      exact ⟨ret_intI HR.out.symm, hb1.trans (hb2.mono hb1.size)⟩
    | true =>
      have HR : Hid (r = ruleS ap.data.toList L) := by rw [HRB.out, h2]; rfl
      have hgood : Hid (∀ x ∈ L, nameB x.1 = true) := fun x hxm => by
        unfold listB at h2
        simp only [Bool.and_eq_true] at h2
        exact ares_name h2.2.1 hxm
      clear HRB
      go_enter Tryz.func26, Tryz.ntmps26
      go_wp2_with fail
      refine (l6Apex_any ap w (by omega)).mono ?_
      rintro e w1 ⟨rfl, hb1⟩
      rw [h1]
      go_wp2_with fail
      refine (l6List_any _ L w1 (HRR.out _ hb1) hx).mono ?_
      rintro e w2 ⟨rfl, hb2⟩
      rw [h2]
      have hbw2 := hb1.trans (hb2.mono hb1.size)
      go_wp2_with fail
      refine (l6Rule_any ap _ L w2 (HRR.out _ hbw2) hx hname hgood hl).mono ?_
      rintro e w3 ⟨rfl, hb3⟩
      rw [← HR.out]
      go_wp2_with fail
      go_ret
      exact ⟨rfl, hbw2.trans (hb3.mono hbw2.size)⟩

theorem sGoodZone_any (nm : ByteArray) (ct : Int) (v : Value) (L : List (List UInt8 × Int × Int × List UInt8)) (w : World) (hr : RRow w v L) (hap : nm.size ≤ 1048576) (hl : L.length ≤ 1048576) (hx : Hid (∀ x ∈ L, x.1.length ≤ 1048576 ∧ x.2.2.2.length ≤ 1048576)) :
    Calls Tryz.prog 16 #[ZonV nm ct v] w fun e w' => e = .returned (.bool (zoneB nm.data.toList ct L)) ∧ Below w.heap.size w w' :=
  sGoodZone_of nm ct v L w hr (fun W hW => sRuleOf_any nm v L W (hr.kept hW) hap hl hx)
end Go.Proofs.YtjkabglaldkjgaaGreatDoorRR

namespace Go.Proofs.YtjkabglaldkjgaaGreatDoorRR
open Go.RowKit

/-- The records of a name and a type. -/
def setL (L : List (List UInt8 × Int × Int × List UInt8)) (n : List UInt8) (t : Int) : List (List UInt8 × Int × Int × List UInt8) := L.filter (fun x => x.1 == n && x.2.1 == t)
def setB (ap : List UInt8) (ct : Int) (L : List (List UInt8 × Int × Int × List UInt8)) (n : List UInt8) (t : Int) : Bool := (nameB n && typB t) && zoneB ap ct L
def setX (ap : List UInt8) (ct : Int) (L : List (List UInt8 × Int × Int × List UInt8)) (n : List UInt8) (t : Int) : List (List UInt8 × Int × Int × List UInt8) := if setB ap ct L n t = true then setL L n t else []
theorem setL_snoc (L : List (List UInt8 × Int × Int × List UInt8)) (n : List UInt8) (t : Int) (k : Nat) (h : k < L.length) : setL (L.take (k + 1)) n t = if L[k].1 = n ∧ L[k].2.1 = t then setL (L.take k) n t ++ [L[k]] else setL (L.take k) n t := by
  unfold setL
  rw [List.take_succ_eq_append_getElem h, List.filter_append]
  by_cases h1 : L[k].1 = n ∧ L[k].2.1 = t
  · rw [if_pos h1]; simp [h1.1, h1.2]
  · rw [if_neg h1]
    have e : (L[k].1 == n && L[k].2.1 == t) = false := by
      cases hc : (L[k].1 == n && L[k].2.1 == t) with
      | false => rfl
      | true => simp only [Bool.and_eq_true, beq_iff_eq] at hc; exact absurd hc h1
    simp [e]
theorem setL_len (L : List (List UInt8 × Int × Int × List UInt8)) (n : List UInt8) (t : Int) : (setL L n t).length ≤ L.length := by unfold setL; exact List.length_filter_le _ _
theorem setL_mem {L : List (List UInt8 × Int × Int × List UInt8)} {n : List UInt8} {t : Int} {x : (List UInt8 × Int × Int × List UInt8)} (h : x ∈ setL L n t) : x ∈ L := by unfold setL at h; exact (List.mem_filter.1 h).1

set_option maxRecDepth 20000 in
set_option maxHeartbeats 2000000 in
theorem l6Set_any (v0 : Value) (L : List (List UInt8 × Int × Int × List UInt8)) (n : ByteArray) (t : Int) (w : World) (hr : RRow w v0 L) (hl : L.length ≤ 1048576) :
    Calls Tryz.prog 30 #[v0, .string n, .int .i64 t] w fun e w' => (∃ u, e = .returned u ∧ OwnQ w' w.heap.size u (setL L n.data.toList t)) ∧ Below w.heap.size w w' := by
  obtain ⟨a, cap, rfl, hcap, hmax, hrow⟩ := hr
  have HROW : Hid (L = [] ∨ ∃ b o, a = some ⟨b, o, none⟩ ∧ b < w.heap.size ∧ ∀ j, (hj : j < L.length) → RecAt w b (o + j * 4) L[j]) := hrow
  clear hrow
  unfold maxLen at hmax
  have HO0 : Hid (w.ownsRow w.heap.size 44 4 (.slice none 0 0) (setL (L.take 0) n.data.toList t).length (rcells (setL (L.take 0) n.data.toList t))) := by
    have h : w.ownsRow w.heap.size 44 4 (.slice none 0 0) (setL (L.take 0) n.data.toList t).length (rcells (setL (L.take 0) n.data.toList t)) := by simpa [rcells, setL] using World.ownsRow_nil _ _ _ _
    exact h
  go_enter Tryz.func30, Tryz.ntmps30
  go_wp2_with fail
  go_loopw [7, 12] (fun vv i wr => ∃ (k : Nat) (v : Value), k ≤ L.length ∧ i = .int .i64 (k : Int) ∧ v = vv ∧ Hid (wr.ownsRow w.heap.size 44 4 v (setL (L.take k) n.data.toList t).length (rcells (setL (L.take k) n.data.toList t))) ∧ Below w.heap.size w wr) (fun _ i _ => L.length - (intOf i).toNat)
  case atStart => exact ⟨0, _, Nat.zero_le _, rfl, rfl, HO0, Below.refl _ _⟩
  case round =>
    obtain ⟨k, v, hk, rfl, rfl, HO, hb⟩ := hrel
    by_cases hlt : k < L.length
    · rcases HROW.out with hr | ⟨b, o, ha, hbl, hcel⟩
      · rw [hr] at hlt; simp at hlt
      · rw [ha]
        have hcx := (hcel k hlt).kept hb
        unfold RecAt at hcx
        obtain ⟨c0, c1, c2, c3⟩ := hcx
        have HSN := setL_snoc L n.data.toList t k hlt
        have HLN : Hid ((setL (L.take k) n.data.toList t).length ≤ k) := Nat.le_trans (setL_len _ _ _) (by rw [List.length_take]; omega)
        obtain ⟨x, hxe⟩ : ∃ x, x = L[k]'hlt := ⟨_, rfl⟩
        rw [← hxe] at c0 c1 c2 c3 HSN
        obtain ⟨xn, xt, xl, xd⟩ := x
        simp only at c0 c1 c2 c3 HSN
        have hbA := hb.alloc hb.size (.cells #[.string ⟨xn.toArray⟩, .int .i64 xt, .int .i64 xl, .string ⟨xd.toArray⟩] 44)
        have HOW2 : Hid ((wr.alloc (.cells #[.string ⟨xn.toArray⟩, .int .i64 xt, .int .i64 xl, .string ⟨xd.toArray⟩] 44)).ownsRow w.heap.size 44 4 v (setL (L.take k) n.data.toList t).length (rcells (setL (L.take k) n.data.toList t))) := HO.out.alloc _
        clear hcel hxe
        by_cases hn : xn = n.data.toList
        · have e1 : (xn == n.toList) = true := by rw [ByteArray.toList_eq]; simpa using hn
          by_cases ht : xt = t
          · have HNX : Hid (setL (L.take (k + 1)) n.data.toList t = setL (L.take k) n.data.toList t ++ [(xn, xt, xl, xd)]) := by rw [HSN, if_pos ⟨hn, ht⟩]; exact rfl
            have e2 : (xt == t) = true := by simpa using ht
            clear HSN hn ht
            go_wp2_with (first | (at_builtin; refine wpList_append_rows rfl (.tmp 26) (.tmp 28) 27 rfl Tryz.underlying27 w.heap.size v _ (setL (L.take k) n.data.toList t) rfl rfl ?b0 _ [(xn, xt, xl, xd)] rfl ?b1 ?b2 ?b3 ?b4 ?_))
            case b0 => exact HOW2.out.alloc _
            case b1 => exact rrow_one _ (xn, xt, xl, xd) _ _ (by simp)
            case b2 => intro n c h; cases h
            case b3 =>
              have h := HLN.out
              show (setL (L.take k) n.data.toList t).length + 1 ≤ 1048576
              omega
            case b4 => exact Nat.le_trans hbA.size (by simp)
            intro v2 w4 hown hgrow
            have HO4 : Hid (w4.ownsRow w.heap.size 44 4 v2 (setL (L.take (k + 1)) n.data.toList t).length (rcells (setL (L.take (k + 1)) n.data.toList t))) := by
              have e : (setL (L.take k) n.data.toList t ++ [(xn, xt, xl, xd)]).length = (setL (L.take k) n.data.toList t).length + 1 := by rw [List.length_append]; rfl
              show w4.ownsRow w.heap.size 44 4 v2 (setL (L.take (k + 1)) n.data.toList t).length (rcells (setL (L.take (k + 1)) n.data.toList t))
              rw [HNX.out, e]; exact hown
            have hbw4 : Below w.heap.size w w4 := (hbA.alloc (by simpa using hbA.size) _).grown hgrow (by simp; have := hb.size; omega) (fun j hj => (HO.out.lt j hj).1)
            clear hown hgrow
            go_wp2_with fail
            go_roundw
            case rel => exact ⟨k + 1, v2, by omega, by go_num, rfl, HO4, hbw4⟩
            case measure => simp [intOf]; omega
          · have HNX : Hid (setL (L.take (k + 1)) n.data.toList t = setL (L.take k) n.data.toList t) := by rw [HSN, if_neg (fun h => ht h.2)]; exact rfl
            have e2 : (xt == t) = false := by simpa using ht
            clear HSN hn
            go_wp2_with fail
            go_roundw
            case rel => exact ⟨k + 1, v, by omega, by go_num, rfl, by rw [HNX.out]; exact HOW2.out, hbA⟩
            case measure => simp [intOf]; omega
        · have HNX : Hid (setL (L.take (k + 1)) n.data.toList t = setL (L.take k) n.data.toList t) := by rw [HSN, if_neg (fun h => hn h.1)]; exact rfl
          have e1 : (xn == n.toList) = false := by rw [ByteArray.toList_eq]; simpa using hn
          clear HSN hn
          go_wp2_with fail
          go_roundw
          case rel => exact ⟨k + 1, v, by omega, by go_num, rfl, by rw [HNX.out]; exact HOW2.out, hbA⟩
          case measure => simp [intOf]; omega
    · have HOL : Hid (OwnQ wr w.heap.size v (setL L n.data.toList t)) := by
        have h := HO.out
        rw [List.take_of_length_le (by omega)] at h
        exact own_q h
      go_wp2_with fail
      go_ret
      exact ⟨⟨_, rfl, HOL.out⟩, hb⟩

end Go.Proofs.YtjkabglaldkjgaaGreatDoorRR

namespace Go.Proofs.YtjkabglaldkjgaaGreatDoorRR
open Go.RowKit

set_option maxRecDepth 20000 in
set_option maxHeartbeats 4000000 in
theorem setOf_any (v0 : Value) (L : List (List UInt8 × Int × Int × List UInt8)) (nl : List UInt8) (t : Int) (w : World) (hr : RRow w v0 L) (hl : L.length ≤ 1048576) (hx : Hid (∀ x ∈ L, x.1.length ≤ 1048576 ∧ x.2.2.2.length ≤ 1048576)) :
    Calls Tryz.prog 22 #[v0, .agg #[.string ⟨nl.toArray⟩, .int .i64 t]] w fun e w' => (∃ u, e = .returned u ∧ OwnQ w' w.heap.size u (setL L nl t)) ∧ Below w.heap.size w w' := by
  obtain ⟨a, cap, rfl, hcap, hmax, hrow⟩ := hr
  have HROW : Hid (L = [] ∨ ∃ b o, a = some ⟨b, o, none⟩ ∧ b < w.heap.size ∧ ∀ j, (hj : j < L.length) → RecAt w b (o + j * 4) L[j]) := hrow
  clear hrow
  unfold maxLen at hmax
  obtain ⟨W1, hW1⟩ : ∃ W1, W1 = w.alloc (.cells #[.string ⟨nl.toArray⟩, .int .i64 t] 52) := ⟨_, rfl⟩
  have hbw1 : Below w.heap.size w W1 := by rw [hW1]; exact (Below.refl _ _).alloc (Nat.le_refl _) _
  have hz1 : w.heap.size < W1.heap.size := by rw [hW1]; simp
  have HW1 : Hid (W1.heap[w.heap.size]? = some (.cells #[.string ⟨nl.toArray⟩, .int .i64 t] 52)) := by rw [hW1]; exact blk_new _ _
  have HWW : Hid (w.alloc (.cells #[.string ⟨nl.toArray⟩, .int .i64 t] 52) = W1) := hW1.symm
  clear hW1
  have HO0 : Hid (W1.ownsRow W1.heap.size 44 4 (.slice none 0 0) (setL (L.take 0) nl t).length (rcells (setL (L.take 0) nl t))) := by
    have h : W1.ownsRow W1.heap.size 44 4 (.slice none 0 0) (setL (L.take 0) nl t).length (rcells (setL (L.take 0) nl t)) := by simpa [rcells, setL] using World.ownsRow_nil _ _ _ _
    exact h
  go_enter Tryz.func22, Tryz.ntmps22
  go_wp2_with fail
  rw [HWW.out]
  go_loopw [5, 10] (fun vv i wr => ∃ (k : Nat) (v : Value), k ≤ L.length ∧ i = .int .i64 (k : Int) ∧ v = vv ∧ Hid (wr.ownsRow W1.heap.size 44 4 v (setL (L.take k) nl t).length (rcells (setL (L.take k) nl t))) ∧ Below W1.heap.size W1 wr) (fun _ i _ => L.length - (intOf i).toNat)
  case atStart => exact ⟨0, _, Nat.zero_le _, rfl, rfl, HO0, Below.refl _ _⟩
  case round =>
    obtain ⟨k, v, hk, rfl, rfl, HOW, hb⟩ := hrel
    have hbw := hbw1.trans (hb.mono hbw1.size)
    by_cases hlt : k < L.length
    · rcases HROW.out with hr | ⟨b, o, ha, hbl, hcel⟩
      · rw [hr] at hlt; simp at hlt
      · have hcx := (hcel k hlt).kept hbw
        rw [ha]
        unfold RecAt at hcx
        obtain ⟨d0, d1, d2, d3⟩ := hcx
        have HSN := setL_snoc L nl t k hlt
        have HLN : Hid ((setL (L.take k) nl t).length ≤ k) := Nat.le_trans (setL_len _ _ _) (by rw [List.length_take]; omega)
        obtain ⟨x, hxe⟩ : ∃ x, x = L[k]'hlt := ⟨_, rfl⟩
        rw [← hxe] at d0 d1 d2 d3 HSN
        obtain ⟨xn, xt, xl, xd⟩ := x
        simp only at d0 d1 d2 d3 HSN
        obtain ⟨W0, hW0⟩ : ∃ W0, W0 = wr.alloc (.cells #[.string ⟨xn.toArray⟩, .int .i64 xt, .int .i64 xl, .string ⟨xd.toArray⟩] 44) := ⟨_, rfl⟩
        have HW0 : Hid (wr.alloc (.cells #[.string ⟨xn.toArray⟩, .int .i64 xt, .int .i64 xl, .string ⟨xd.toArray⟩] 44) = W0) := hW0.symm
        have hbd : Below W0.heap.size W0 W0.drew := (Below.refl _ _).drew
        have HTR : Hid (∀ W W', Below W0.heap.size W0 W → Below W.heap.size W W' → Below W0.heap.size W0 W') := fun W W' h1 h2 => h1.trans (h2.mono h1.size)
        have HOX : Hid (∀ W, Calls Tryz.prog 35 #[.agg #[.string ⟨xn.toArray⟩, .int .i64 xt, .int .i64 xl, .string ⟨xd.toArray⟩]] W fun e w' => e = .returned (.agg #[.string ⟨xn.toArray⟩, .int .i64 xt]) ∧ Below W.heap.size W w') := fun W => ownerOf_any ⟨xn.toArray⟩ ⟨xd.toArray⟩ xt xl W
        have HX : Hid (∀ W, Below W0.heap.size W0 W → (W.cell? ⟨wr.heap.size, 0, none⟩ = some (.string ⟨xn.toArray⟩) ∧ W.cell? ⟨wr.heap.size, 1, none⟩ = some (.int .i64 xt) ∧ W.cell? ⟨wr.heap.size, 2, none⟩ = some (.int .i64 xl) ∧ W.cell? ⟨wr.heap.size, 3, none⟩ = some (.string ⟨xd.toArray⟩)) ∧ (W.cell? ⟨w.heap.size, 0, none⟩ = some (.string ⟨nl.toArray⟩) ∧ W.cell? ⟨w.heap.size, 1, none⟩ = some (.int .i64 t)) ∧ Below wr.heap.size wr W ∧ wr.heap.size < W.heap.size) := fun W hW => by
          have hz0 : wr.heap.size < W0.heap.size := by rw [hW0]; simp
          have hW' := hW
          rw [hW0] at hW'
          have h := box4 hW'
          have h2 := hb.trans (h.2.2.2.2.mono hb.size)
          have hblk := (h2.block (w.heap.size) (by omega)).trans HW1.out
          refine ⟨⟨h.1, h.2.1, h.2.2.1, h.2.2.2.1⟩, ⟨?_, ?_⟩, h.2.2.2.2, Nat.lt_of_lt_of_le hz0 hW.size⟩ <;> (unfold World.cell?; rw [hblk]; rfl)
        obtain ⟨same, hsame⟩ : ∃ same, same = (xn == nl && xt == t) := ⟨_, rfl⟩
        have HE : Hid (same = (xn == nl && xt == t)) := hsame
        have HYES : Hid (same = true → setL (L.take (k + 1)) nl t = setL (L.take k) nl t ++ [(xn, xt, xl, xd)]) := fun h => by
          rw [hsame] at h
          simp only [Bool.and_eq_true, beq_iff_eq] at h
          rw [HSN, if_pos h]
        have HNO : Hid (same = false → setL (L.take (k + 1)) nl t = setL (L.take k) nl t) := fun h => by
          rw [HSN, if_neg (fun hh => by rw [hsame, hh.1, hh.2] at h; simp at h)]
        clear hcel hxe hW0 hsame HSN
        go_wp2_with fail
        rw [HW0.out]
        refine wp_region_quiet (C := fun W => Below W0.heap.size W0 W) (by kernel_rfl) (by kernel_rfl) hbd ?_
        refine wpQuiet_step (fun K hK => ?_)
        rw [if_pos (by rfl)]
        refine ⟨.agg #[.string ⟨xn.toArray⟩, .int .i64 xt, .int .i64 xl, .string ⟨xd.toArray⟩], fun W hW => quiet_ok ?_, hK _ ?_⟩
        · have q := HX.out W hW
          obtain ⟨⟨m0, m1, m2, m3⟩, ⟨z0, z1⟩, _⟩ := q
          go_simp
          all_goals (try omega)
        clear hK K
        simp only [Act.put, List.setIfInBounds_toArray, List.set_cons_succ, List.set_cons_zero]
        refine wpQuiet_step (fun K hK => ?_)
        rw [if_pos (by rfl)]
        refine ⟨.agg #[.string ⟨xn.toArray⟩, .int .i64 xt], fun W hW => quiet_call (f := 35) (args := #[.agg #[.string ⟨xn.toArray⟩, .int .i64 xt, .int .i64 xl, .string ⟨xd.toArray⟩]]) ?_ ?_, hK _ ?_⟩
        · go_simp
        · exact (HOX.out W).mono fun e w'' h => ⟨h.1, HTR.out _ _ hW h.2⟩
        clear hK K
        simp only [Act.put, List.setIfInBounds_toArray, List.set_cons_succ, List.set_cons_zero]
        refine wpQuiet_step (fun K hK => ?_)
        rw [if_pos (by rfl)]
        refine ⟨.agg #[.string ⟨nl.toArray⟩, .int .i64 t], fun W hW => quiet_ok ?_, hK _ ?_⟩
        · have q := HX.out W hW
          obtain ⟨⟨m0, m1, m2, m3⟩, ⟨z0, z1⟩, _⟩ := q
          go_simp
          all_goals (try omega)
        clear hK K
        simp only [Act.put, List.setIfInBounds_toArray, List.set_cons_succ, List.set_cons_zero]
        refine wpQuiet_step (fun K hK => ?_)
        rw [if_pos (by rfl)]
        refine ⟨.bool same, fun W hW => quiet_ok ?_, hK _ ?_⟩
        · go_simp
          exact own_if2 (fun b => Result.ok (Next.value (Value.bool b)) W) HE.out
        clear hK K
        simp only [Act.put, List.setIfInBounds_toArray, List.set_cons_succ, List.set_cons_zero]
        refine wpQuiet_nil ?_
        intro W hW
        obtain ⟨⟨m0, m1, m2, m3⟩, _, hbr, hzW⟩ := HX.out W hW
        have hbW : Below W1.heap.size W1 W := hb.trans (hbr.mono hb.size)
        have HOWW : Hid (W.ownsRow W1.heap.size 44 4 v (setL (L.take k) nl t).length (rcells (setL (L.take k) nl t))) := own_below HOW.out hbr
        cases same with
        | true =>
          have HNX := HYES.out rfl
          have HNXH : Hid (setL (L.take (k + 1)) nl t = setL (L.take k) nl t ++ [(xn, xt, xl, xd)]) := HNX
          clear HNX HYES HNO HE
          go_wp2_with (first | (at_builtin; refine wpList_append_rows rfl (.tmp 18) (.tmp 20) 27 rfl Tryz.underlying27 W1.heap.size v _ (setL (L.take k) nl t) rfl rfl ?b0 _ [(xn, xt, xl, xd)] rfl ?b1 ?b2 ?b3 ?b4 ?_))
          case b0 => exact HOWW.out.alloc _
          case b1 => exact rrow_one _ (xn, xt, xl, xd) _ _ (by simp)
          case b2 => intro n c h; cases h
          case b3 =>
            have h := HLN.out
            show (setL (L.take k) nl t).length + 1 ≤ 1048576
            omega
          case b4 => exact Nat.le_trans hbW.size (by simp)
          intro v2 w4 hown hgrow
          have HO4 : Hid (w4.ownsRow W1.heap.size 44 4 v2 (setL (L.take (k + 1)) nl t).length (rcells (setL (L.take (k + 1)) nl t))) := by
            show w4.ownsRow W1.heap.size 44 4 v2 (setL (L.take (k + 1)) nl t).length (rcells (setL (L.take (k + 1)) nl t))
            have e : (setL (L.take k) nl t ++ [(xn, xt, xl, xd)]).length = (setL (L.take k) nl t).length + 1 := by rw [List.length_append]; rfl
            rw [HNXH.out, e]; exact hown
          have hbw4 : Below W1.heap.size W1 w4 := (hbW.alloc hbW.size _).grown hgrow (Nat.le_trans hbW.size (by simp)) (fun j hj => (HOWW.out.lt j hj).1)
          clear hown hgrow
          go_wp2_with fail
          go_roundw
          case rel => exact ⟨k + 1, v2, by omega, by go_num, rfl, HO4, hbw4⟩
          case measure => simp [intOf]; omega
        | false =>
          have HNX := HNO.out rfl
          have HNXH : Hid (setL (L.take (k + 1)) nl t = setL (L.take k) nl t) := HNX
          clear HNX HYES HNO HE
          go_wp2_with fail
          go_roundw
          case rel => exact ⟨k + 1, v, by omega, by go_num, rfl, by rw [HNXH.out]; exact HOWW.out, hbW⟩
          case measure => simp [intOf]; omega
    · have HOL : Hid (RRow wr v (setL L nl t)) := by
        have h := HOW.out
        rw [List.take_of_length_le (by omega)] at h
        exact (own_q h).row
      have hsl : (setL L nl t).length ≤ 1048576 := Nat.le_trans (setL_len _ _ _) hl
      have hsx : Hid (∀ x ∈ setL L nl t, x.1.length ≤ 1048576 ∧ x.2.2.2.length ≤ 1048576) := fun x hxm => hx.out x (setL_mem hxm)
      go_wp2_with fail
      refine (copyRecords_any v (setL L nl t) wr HOL.out hsl hsx).mono ?_
      rintro e w5 ⟨u, rfl, hu, hb5⟩
      go_wp2_with fail
      go_ret
      exact ⟨⟨u, rfl, hu.base hbw.size⟩, hbw.trans (hb5.mono hbw.size)⟩

end Go.Proofs.YtjkabglaldkjgaaGreatDoorRR
