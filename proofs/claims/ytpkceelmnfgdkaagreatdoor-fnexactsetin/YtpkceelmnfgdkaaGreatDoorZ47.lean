import Derived.Test.YtpkceelmnfgdkaaGreatDoorZ45
import Derived.Test.YtpkceelmnfgdkaaGreatDoorZ46
import Derived.Test.YtpkceelmnfgdkaaGreatDoorZ31
import Derived.BigQuiet
import Derived.Deep.QuietTactic
import Derived.Deep.RegionHeld3
namespace Go.Proofs.YtpkceelmnfgdkaaGreatDoor
open Go.RowKit

set_option maxRecDepth 20000 in
set_option maxHeartbeats 1000000 in
theorem sRuleOf_any (ap : ByteArray) (v : Value) (L : List (List UInt8 × Int × Int × List UInt8)) (w : World) (hr : RRow w v L) (hap : ap.size ≤ 1048576) (hl : L.length ≤ 1048576) (hx : Hid (∀ x ∈ L, x.1.length ≤ 1048576 ∧ x.2.2.2.length ≤ 1048576)) :
    Calls Tryz.prog 38 #[.string ap, v] w fun e w' => e = .returned (.int .i64 (ruleB ap.data.toList L)) ∧ Below w.heap.size w w' := by
  have HRR : Hid (∀ W, Below w.heap.size w W → RRow W v L) := fun W hW => hr.kept hW
  obtain ⟨a, cap, rfl, _⟩ := hr
  have HRB : Hid (ruleB ap.data.toList L = if (apexB ap.data.toList && listB L) = true then ruleS ap.data.toList L else 9) := ruleB_spec _ _
  obtain ⟨r, hr⟩ : ∃ r, r = ruleB ap.data.toList L := ⟨_, rfl⟩
  rw [← hr] at HRB ⊢
  clear hr
  cases h1 : apexB ap.data.toList with
  | false =>
    have HR : Hid (r = 9) := by rw [HRB.out, h1]; rfl
    clear HRB
    go_enter Tryz.func38, Tryz.ntmps38
    go_wp2_with fail
    refine (l6Apex_any ap w (by omega)).mono ?_
    rintro e w1 ⟨rfl, hb1⟩
    rw [h1]
    go_wp2_with fail
    go_ret
    exact ⟨ret_intI HR.out.symm, hb1⟩
  | true =>
    rw [h1, Bool.true_and] at HRB
    have hname : Hid (nameB ap.data.toList = true) := apex_name h1
    cases h2 : listB L with
    | false =>
      have HR : Hid (r = 9) := by rw [HRB.out, h2]; rfl
      clear HRB
      go_enter Tryz.func38, Tryz.ntmps38
      go_wp2_with fail
      refine (l6Apex_any ap w (by omega)).mono ?_
      rintro e w1 ⟨rfl, hb1⟩
      rw [h1]
      go_wp2_with fail
      refine (l6List_any _ L w1 (HRR.out _ hb1) hx).mono ?_
      rintro e w2 ⟨rfl, hb2⟩
      rw [h2]
      go_wp2_with fail
      go_ret
      exact ⟨ret_intI HR.out.symm, hb1.trans (hb2.mono hb1.size)⟩
    | true =>
      have HR : Hid (r = ruleS ap.data.toList L) := by rw [HRB.out, h2]; rfl
      have hgood : Hid (∀ x ∈ L, nameB x.1 = true) := fun x hxm => by
        unfold listB at h2
        simp only [Bool.and_eq_true] at h2
        exact ares_name h2.2.1 hxm
      clear HRB
      go_enter Tryz.func38, Tryz.ntmps38
      go_wp2_with fail
      refine (l6Apex_any ap w (by omega)).mono ?_
      rintro e w1 ⟨rfl, hb1⟩
      rw [h1]
      go_wp2_with fail
      refine (l6List_any _ L w1 (HRR.out _ hb1) hx).mono ?_
      rintro e w2 ⟨rfl, hb2⟩
      rw [h2]
      have hbw2 := hb1.trans (hb2.mono hb1.size)
      go_wp2_with fail
      refine (l6Rule_any ap _ L w2 (HRR.out _ hbw2) hx hname hgood hl).mono ?_
      rintro e w3 ⟨rfl, hb3⟩
      rw [← HR.out]
      go_wp2_with fail
      go_ret
      exact ⟨rfl, hbw2.trans (hb3.mono hbw2.size)⟩

theorem sGoodZone_any (nm : ByteArray) (ct : Int) (v : Value) (L : List (List UInt8 × Int × Int × List UInt8)) (w : World) (hr : RRow w v L) (hap : nm.size ≤ 1048576) (hl : L.length ≤ 1048576) (hx : Hid (∀ x ∈ L, x.1.length ≤ 1048576 ∧ x.2.2.2.length ≤ 1048576)) :
    Calls Tryz.prog 20 #[ZonV nm ct v] w fun e w' => e = .returned (.bool (zoneB nm.data.toList ct L)) ∧ Below w.heap.size w w' :=
  sGoodZone_of nm ct v L w hr (fun W hW => sRuleOf_any nm v L W (hr.kept hW) hap hl hx)
end Go.Proofs.YtpkceelmnfgdkaaGreatDoor

namespace Go.Proofs.YtpkceelmnfgdkaaGreatDoor
open Go.RowKit

/-- The records of a name and a type. -/
def setL (L : List (List UInt8 × Int × Int × List UInt8)) (n : List UInt8) (t : Int) : List (List UInt8 × Int × Int × List UInt8) := L.filter (fun x => x.1 == n && x.2.1 == t)
def setB (ap : List UInt8) (ct : Int) (L : List (List UInt8 × Int × Int × List UInt8)) (n : List UInt8) (t : Int) : Bool := (nameB n && typB t) && zoneB ap ct L
def setX (ap : List UInt8) (ct : Int) (L : List (List UInt8 × Int × Int × List UInt8)) (n : List UInt8) (t : Int) : List (List UInt8 × Int × Int × List UInt8) := if setB ap ct L n t = true then setL L n t else []
theorem setL_snoc (L : List (List UInt8 × Int × Int × List UInt8)) (n : List UInt8) (t : Int) (k : Nat) (h : k < L.length) : setL (L.take (k + 1)) n t = if L[k].1 = n ∧ L[k].2.1 = t then setL (L.take k) n t ++ [L[k]] else setL (L.take k) n t := by
  unfold setL
  rw [List.take_succ_eq_append_getElem h, List.filter_append]
  by_cases h1 : L[k].1 = n ∧ L[k].2.1 = t
  · rw [if_pos h1]; simp [h1.1, h1.2]
  · rw [if_neg h1]
    have e : (L[k].1 == n && L[k].2.1 == t) = false := by
      cases hc : (L[k].1 == n && L[k].2.1 == t) with
      | false => rfl
      | true => simp only [Bool.and_eq_true, beq_iff_eq] at hc; exact absurd hc h1
    simp [e]
theorem setL_len (L : List (List UInt8 × Int × Int × List UInt8)) (n : List UInt8) (t : Int) : (setL L n t).length ≤ L.length := by unfold setL; exact List.length_filter_le _ _
theorem setL_mem {L : List (List UInt8 × Int × Int × List UInt8)} {n : List UInt8} {t : Int} {x : (List UInt8 × Int × Int × List UInt8)} (h : x ∈ setL L n t) : x ∈ L := by unfold setL at h; exact (List.mem_filter.1 h).1

set_option maxRecDepth 20000 in
set_option maxHeartbeats 2000000 in
theorem l6Set_any (v0 : Value) (L : List (List UInt8 × Int × Int × List UInt8)) (n : ByteArray) (t : Int) (w : World) (hr : RRow w v0 L) (hl : L.length ≤ 1048576) :
    Calls Tryz.prog 30 #[v0, .string n, .int .i64 t] w fun e w' => (∃ u, e = .returned u ∧ OwnQ w' w.heap.size u (setL L n.data.toList t)) ∧ Below w.heap.size w w' := by
  obtain ⟨a, cap, rfl, hcap, hmax, hrow⟩ := hr
  have HROW : Hid (L = [] ∨ ∃ b o, a = some ⟨b, o, none⟩ ∧ b < w.heap.size ∧ ∀ j, (hj : j < L.length) → RecAt w b (o + j * 4) L[j]) := hrow
  clear hrow
  unfold maxLen at hmax
  have HO0 : Hid (w.ownsRow w.heap.size 57 4 (.slice none 0 0) (setL (L.take 0) n.data.toList t).length (rcells (setL (L.take 0) n.data.toList t))) := by
    have h : w.ownsRow w.heap.size 57 4 (.slice none 0 0) (setL (L.take 0) n.data.toList t).length (rcells (setL (L.take 0) n.data.toList t)) := by simpa [rcells, setL] using World.ownsRow_nil _ _ _ _
    exact h
  go_enter Tryz.func30, Tryz.ntmps30
  go_wp2_with fail
  go_loopw [7, 12] (fun vv i wr => ∃ (k : Nat) (v : Value), k ≤ L.length ∧ i = .int .i64 (k : Int) ∧ v = vv ∧ Hid (wr.ownsRow w.heap.size 57 4 v (setL (L.take k) n.data.toList t).length (rcells (setL (L.take k) n.data.toList t))) ∧ Below w.heap.size w wr) (fun _ i _ => L.length - (intOf i).toNat)
  case atStart => exact ⟨0, _, Nat.zero_le _, rfl, rfl, HO0, Below.refl _ _⟩
  case round =>
    obtain ⟨k, v, hk, rfl, rfl, HO, hb⟩ := hrel
    by_cases hlt : k < L.length
    · rcases HROW.out with hr | ⟨b, o, ha, hbl, hcel⟩
      · rw [hr] at hlt; simp at hlt
      · rw [ha]
        have hcx := (hcel k hlt).kept hb
        unfold RecAt at hcx
        obtain ⟨c0, c1, c2, c3⟩ := hcx
        have HSN := setL_snoc L n.data.toList t k hlt
        have HLN : Hid ((setL (L.take k) n.data.toList t).length ≤ k) := Nat.le_trans (setL_len _ _ _) (by rw [List.length_take]; omega)
        obtain ⟨x, hxe⟩ : ∃ x, x = L[k]'hlt := ⟨_, rfl⟩
        rw [← hxe] at c0 c1 c2 c3 HSN
        obtain ⟨xn, xt, xl, xd⟩ := x
        simp only at c0 c1 c2 c3 HSN
        have hbA := hb.alloc hb.size (.cells #[.string ⟨xn.toArray⟩, .int .i64 xt, .int .i64 xl, .string ⟨xd.toArray⟩] 57)
        have HOW2 : Hid ((wr.alloc (.cells #[.string ⟨xn.toArray⟩, .int .i64 xt, .int .i64 xl, .string ⟨xd.toArray⟩] 57)).ownsRow w.heap.size 57 4 v (setL (L.take k) n.data.toList t).length (rcells (setL (L.take k) n.data.toList t))) := HO.out.alloc _
        clear hcel hxe
        by_cases hn : xn = n.data.toList
        · have e1 : (xn == n.toList) = true := by rw [ByteArray.toList_eq]; simpa using hn
          by_cases ht : xt = t
          · have HNX : Hid (setL (L.take (k + 1)) n.data.toList t = setL (L.take k) n.data.toList t ++ [(xn, xt, xl, xd)]) := by rw [HSN, if_pos ⟨hn, ht⟩]; exact rfl
            have e2 : (xt == t) = true := by simpa using ht
            clear HSN hn ht
            go_wp2_with (first | (at_builtin; refine wpList_append_rows rfl (.tmp 26) (.tmp 28) 28 rfl Tryz.underlying28 w.heap.size v _ (setL (L.take k) n.data.toList t) rfl rfl ?b0 _ [(xn, xt, xl, xd)] rfl ?b1 ?b2 ?b3 ?b4 ?_))
            case b0 => exact HOW2.out.alloc _
            case b1 => exact rrow_one _ (xn, xt, xl, xd) _ _ (by simp)
            case b2 => intro n c h; cases h
            case b3 =>
              have h := HLN.out
              show (setL (L.take k) n.data.toList t).length + 1 ≤ 1048576
              omega
            case b4 => exact Nat.le_trans hbA.size (by simp)
            intro v2 w4 hown hgrow
            have HO4 : Hid (w4.ownsRow w.heap.size 57 4 v2 (setL (L.take (k + 1)) n.data.toList t).length (rcells (setL (L.take (k + 1)) n.data.toList t))) := by
              have e : (setL (L.take k) n.data.toList t ++ [(xn, xt, xl, xd)]).length = (setL (L.take k) n.data.toList t).length + 1 := by rw [List.length_append]; rfl
              show w4.ownsRow w.heap.size 57 4 v2 (setL (L.take (k + 1)) n.data.toList t).length (rcells (setL (L.take (k + 1)) n.data.toList t))
              rw [HNX.out, e]; exact hown
            have hbw4 : Below w.heap.size w w4 := (hbA.alloc (by simpa using hbA.size) _).grown hgrow (by simp; have := hb.size; omega) (fun j hj => (HO.out.lt j hj).1)
            clear hown hgrow
            go_wp2_with fail
            go_roundw
            case rel => exact ⟨k + 1, v2, by omega, by go_num, rfl, HO4, hbw4⟩
            case measure => simp [intOf]; omega
          · have HNX : Hid (setL (L.take (k + 1)) n.data.toList t = setL (L.take k) n.data.toList t) := by rw [HSN, if_neg (fun h => ht h.2)]; exact rfl
            have e2 : (xt == t) = false := by simpa using ht
            clear HSN hn
            go_wp2_with fail
            go_roundw
            case rel => exact ⟨k + 1, v, by omega, by go_num, rfl, by rw [HNX.out]; exact HOW2.out, hbA⟩
            case measure => simp [intOf]; omega
        · have HNX : Hid (setL (L.take (k + 1)) n.data.toList t = setL (L.take k) n.data.toList t) := by rw [HSN, if_neg (fun h => hn h.1)]; exact rfl
          have e1 : (xn == n.toList) = false := by rw [ByteArray.toList_eq]; simpa using hn
          clear HSN hn
          go_wp2_with fail
          go_roundw
          case rel => exact ⟨k + 1, v, by omega, by go_num, rfl, by rw [HNX.out]; exact HOW2.out, hbA⟩
          case measure => simp [intOf]; omega
    · have HOL : Hid (OwnQ wr w.heap.size v (setL L n.data.toList t)) := by
        have h := HO.out
        rw [List.take_of_length_le (by omega)] at h
        exact own_q h
      go_wp2_with fail
      go_ret
      exact ⟨⟨_, rfl, HOL.out⟩, hb⟩

set_option maxRecDepth 20000 in
set_option maxHeartbeats 1000000 in
theorem sSetIn_any (nm : ByteArray) (ct : Int) (v : Value) (L : List (List UInt8 × Int × Int × List UInt8)) (n : ByteArray) (t : Int) (w : World) (hr : RRow w v L) (hap : nm.size ≤ 1048576) (hn : n.size ≤ 1048576) (hl : L.length ≤ 1048576) (hx : Hid (∀ x ∈ L, x.1.length ≤ 1048576 ∧ x.2.2.2.length ≤ 1048576)) :
    Calls Tryz.prog 13 #[ZonV nm ct v, .string n, .int .i64 t] w fun e w' => (∃ u, e = .returned (.tuple #[u, .bool (setB nm.data.toList ct L n.data.toList t)]) ∧ RRow w' u (setX nm.data.toList ct L n.data.toList t)) ∧ Below w.heap.size w w' := by
  have HG : Hid (∀ W, Below w.heap.size w W → Calls Tryz.prog 20 #[ZonV nm ct v] W fun e w' => e = .returned (.bool (zoneB nm.data.toList ct L)) ∧ Below W.heap.size W w') := fun W hW => sGoodZone_any nm ct v L W (hr.kept hW) hap hl hx
  have HSET : Hid (∀ W, Below w.heap.size w W → Calls Tryz.prog 30 #[v, .string n, .int .i64 t] W fun e w' => (∃ u, e = .returned u ∧ OwnQ w' W.heap.size u (setL L n.data.toList t)) ∧ Below W.heap.size W w') := fun W hW => l6Set_any v L n t W (hr.kept hW) hl
  obtain ⟨a, cap, rfl, _⟩ := hr
  have HB : Hid (setB nm.data.toList ct L n.data.toList t = ((nameB n.data.toList && typB t) && zoneB nm.data.toList ct L)) := rfl
  have HXX : Hid (setX nm.data.toList ct L n.data.toList t = if setB nm.data.toList ct L n.data.toList t = true then setL L n.data.toList t else []) := rfl
  obtain ⟨ok, hok⟩ : ∃ ok, ok = setB nm.data.toList ct L n.data.toList t := ⟨_, rfl⟩
  rw [← hok] at HB HXX ⊢
  clear hok
  have hb0 : Below w.heap.size w (w.alloc (.cells #[.string nm, .int .i64 ct, .slice a L.length cap] 30)) := (Below.refl _ _).alloc (Nat.le_refl _) _
  unfold ZonV at HG ⊢
  cases hZ : zoneB nm.data.toList ct L with
  | false =>
    have HO : Hid (ok = false) := by rw [HB.out, hZ, Bool.and_false]; exact rfl
    have HXN : Hid (setX nm.data.toList ct L n.data.toList t = []) := by rw [HXX.out, HO.out]; rfl
    rw [hZ] at HG
    go_enter Tryz.func13, Tryz.ntmps13
    go_wp2_with fail
    refine (HG.out _ hb0).mono ?_
    rintro e w1 ⟨rfl, hb1⟩
    have hbw := (box3c hb1).2.2.2
    go_wp2_with fail
    go_ret2
    exact ⟨⟨_, by rw [HO.out]; rfl, by rw [HXN.out]; exact rrow_nil _⟩, hbw⟩
  | true =>
    rw [hZ, Bool.and_true] at HB
    rw [hZ] at HG
    cases hN : nameB n.data.toList with
    | false =>
      have HO : Hid (ok = false) := by rw [HB.out, hN, Bool.false_and]; exact rfl
      have HXN : Hid (setX nm.data.toList ct L n.data.toList t = []) := by rw [HXX.out, HO.out]; rfl
      go_enter Tryz.func13, Tryz.ntmps13
      go_wp2_with fail
      refine (HG.out _ hb0).mono ?_
      rintro e w1 ⟨rfl, hb1⟩
      have hbw := (box3c hb1).2.2.2
      go_wp2_with fail
      refine (sGoodName_any n _ (by omega)).mono ?_
      rintro e w2 ⟨rfl, hb2⟩
      rw [hN]
      go_wp2_with fail
      go_ret2
      exact ⟨⟨_, by rw [HO.out]; rfl, by rw [HXN.out]; exact rrow_nil _⟩, hbw.trans (hb2.mono hbw.size)⟩
    | true =>
      rw [hN, Bool.true_and] at HB
      cases hT : typB t with
      | false =>
        have HO : Hid (ok = false) := by rw [HB.out, hT]; exact rfl
        have HXN : Hid (setX nm.data.toList ct L n.data.toList t = []) := by rw [HXX.out, HO.out]; rfl
        go_enter Tryz.func13, Tryz.ntmps13
        go_wp2_with fail
        refine (HG.out _ hb0).mono ?_
        rintro e w1 ⟨rfl, hb1⟩
        have hbw := (box3c hb1).2.2.2
        go_wp2_with fail
        refine (sGoodName_any n _ (by omega)).mono ?_
        rintro e w2 ⟨rfl, hb2⟩
        rw [hN]
        have hbw2 := hbw.trans (hb2.mono hbw.size)
        go_wp2_with fail
        refine (l3Type_any t _).mono ?_
        rintro e w3 ⟨rfl, hb3⟩
        rw [hT]
        go_wp2_with fail
        go_ret2
        exact ⟨⟨_, by rw [HO.out]; rfl, by rw [HXN.out]; exact rrow_nil _⟩, hbw2.trans (hb3.mono hbw2.size)⟩
      | true =>
        have HO : Hid (ok = true) := by rw [HB.out, hT]; exact rfl
        have HXN : Hid (setX nm.data.toList ct L n.data.toList t = setL L n.data.toList t) := by rw [HXX.out, HO.out]; rfl
        go_enter Tryz.func13, Tryz.ntmps13
        go_wp2_with fail
        refine (HG.out _ hb0).mono ?_
        rintro e w1 ⟨rfl, hb1⟩
        obtain ⟨c0, c1, c2, hbw⟩ := box3c hb1
        have hz1 : w.heap.size < w1.heap.size := Nat.lt_of_lt_of_le (by simp) hb1.size
        go_wp2_with fail
        refine (sGoodName_any n _ (by omega)).mono ?_
        rintro e w2 ⟨rfl, hb2⟩
        rw [hN]
        have hbw2 := hbw.trans (hb2.mono hbw.size)
        have c2' := (hb2.cell (p := ⟨w.heap.size, 2, none⟩) hz1).trans c2
        have hz2 : w.heap.size < w2.heap.size := Nat.lt_of_lt_of_le hz1 hb2.size
        go_wp2_with fail
        refine (l3Type_any t _).mono ?_
        rintro e w3 ⟨rfl, hb3⟩
        rw [hT]
        have hbw3 := hbw2.trans (hb3.mono hbw2.size)
        have c2'' := (hb3.cell (p := ⟨w.heap.size, 2, none⟩) hz2).trans c2'
        clear c0 c1 c2 c2'
        go_wp2_with fail
        refine (HSET.out _ hbw3).mono ?_
        rintro e w4 ⟨⟨u, rfl, ho⟩, hb4⟩
        go_wp2_with fail
        go_ret2
        exact ⟨⟨u, by rw [HO.out]; rfl, by rw [HXN.out]; exact ho.row⟩, hbw3.trans (hb4.mono hbw3.size)⟩
end Go.Proofs.YtpkceelmnfgdkaaGreatDoor

namespace Go.Proofs.YtpkceelmnfgdkaaGreatDoor
open Go.RowKit

set_option maxRecDepth 20000 in
set_option maxHeartbeats 4000000 in
theorem setOf_any (v0 : Value) (L : List (List UInt8 × Int × Int × List UInt8)) (nl : List UInt8) (t : Int) (w : World) (hr : RRow w v0 L) (hl : L.length ≤ 1048576) (hx : Hid (∀ x ∈ L, x.1.length ≤ 1048576 ∧ x.2.2.2.length ≤ 1048576)) :
    Calls Tryz.prog 33 #[v0, .agg #[.string ⟨nl.toArray⟩, .int .i64 t]] w fun e w' => (∃ u, e = .returned u ∧ OwnQ w' w.heap.size u (setL L nl t)) ∧ Below w.heap.size w w' := by
  obtain ⟨a, cap, rfl, hcap, hmax, hrow⟩ := hr
  have HROW : Hid (L = [] ∨ ∃ b o, a = some ⟨b, o, none⟩ ∧ b < w.heap.size ∧ ∀ j, (hj : j < L.length) → RecAt w b (o + j * 4) L[j]) := hrow
  clear hrow
  unfold maxLen at hmax
  obtain ⟨W1, hW1⟩ : ∃ W1, W1 = w.alloc (.cells #[.string ⟨nl.toArray⟩, .int .i64 t] 52) := ⟨_, rfl⟩
  have hbw1 : Below w.heap.size w W1 := by rw [hW1]; exact (Below.refl _ _).alloc (Nat.le_refl _) _
  have hz1 : w.heap.size < W1.heap.size := by rw [hW1]; simp
  have HW1 : Hid (W1.heap[w.heap.size]? = some (.cells #[.string ⟨nl.toArray⟩, .int .i64 t] 52)) := by rw [hW1]; exact blk_new _ _
  have HWW : Hid (w.alloc (.cells #[.string ⟨nl.toArray⟩, .int .i64 t] 52) = W1) := hW1.symm
  clear hW1
  have HO0 : Hid (W1.ownsRow W1.heap.size 57 4 (.slice none 0 0) (setL (L.take 0) nl t).length (rcells (setL (L.take 0) nl t))) := by
    have h : W1.ownsRow W1.heap.size 57 4 (.slice none 0 0) (setL (L.take 0) nl t).length (rcells (setL (L.take 0) nl t)) := by simpa [rcells, setL] using World.ownsRow_nil _ _ _ _
    exact h
  go_enter Tryz.func33, Tryz.ntmps33
  go_wp2_with fail
  rw [HWW.out]
  go_loopw [5, 10] (fun vv i wr => ∃ (k : Nat) (v : Value), k ≤ L.length ∧ i = .int .i64 (k : Int) ∧ v = vv ∧ Hid (wr.ownsRow W1.heap.size 57 4 v (setL (L.take k) nl t).length (rcells (setL (L.take k) nl t))) ∧ Below W1.heap.size W1 wr) (fun _ i _ => L.length - (intOf i).toNat)
  case atStart => exact ⟨0, _, Nat.zero_le _, rfl, rfl, HO0, Below.refl _ _⟩
  case round =>
    obtain ⟨k, v, hk, rfl, rfl, HOW, hb⟩ := hrel
    have hbw := hbw1.trans (hb.mono hbw1.size)
    by_cases hlt : k < L.length
    · rcases HROW.out with hr | ⟨b, o, ha, hbl, hcel⟩
      · rw [hr] at hlt; simp at hlt
      · have hcx := (hcel k hlt).kept hbw
        rw [ha]
        unfold RecAt at hcx
        obtain ⟨d0, d1, d2, d3⟩ := hcx
        have HSN := setL_snoc L nl t k hlt
        have HLN : Hid ((setL (L.take k) nl t).length ≤ k) := Nat.le_trans (setL_len _ _ _) (by rw [List.length_take]; omega)
        obtain ⟨x, hxe⟩ : ∃ x, x = L[k]'hlt := ⟨_, rfl⟩
        rw [← hxe] at d0 d1 d2 d3 HSN
        obtain ⟨xn, xt, xl, xd⟩ := x
        simp only at d0 d1 d2 d3 HSN
        obtain ⟨W0, hW0⟩ : ∃ W0, W0 = wr.alloc (.cells #[.string ⟨xn.toArray⟩, .int .i64 xt, .int .i64 xl, .string ⟨xd.toArray⟩] 57) := ⟨_, rfl⟩
        have HW0 : Hid (wr.alloc (.cells #[.string ⟨xn.toArray⟩, .int .i64 xt, .int .i64 xl, .string ⟨xd.toArray⟩] 57) = W0) := hW0.symm
        have hbd : Below W0.heap.size W0 W0.drew := (Below.refl _ _).drew
        have HTR : Hid (∀ W W', Below W0.heap.size W0 W → Below W.heap.size W W' → Below W0.heap.size W0 W') := fun W W' h1 h2 => h1.trans (h2.mono h1.size)
        have HOX : Hid (∀ W, Calls Tryz.prog 55 #[.agg #[.string ⟨xn.toArray⟩, .int .i64 xt, .int .i64 xl, .string ⟨xd.toArray⟩]] W fun e w' => e = .returned (.agg #[.string ⟨xn.toArray⟩, .int .i64 xt]) ∧ Below W.heap.size W w') := fun W => ownerOf_any ⟨xn.toArray⟩ ⟨xd.toArray⟩ xt xl W
        have HX : Hid (∀ W, Below W0.heap.size W0 W → (W.cell? ⟨wr.heap.size, 0, none⟩ = some (.string ⟨xn.toArray⟩) ∧ W.cell? ⟨wr.heap.size, 1, none⟩ = some (.int .i64 xt) ∧ W.cell? ⟨wr.heap.size, 2, none⟩ = some (.int .i64 xl) ∧ W.cell? ⟨wr.heap.size, 3, none⟩ = some (.string ⟨xd.toArray⟩)) ∧ (W.cell? ⟨w.heap.size, 0, none⟩ = some (.string ⟨nl.toArray⟩) ∧ W.cell? ⟨w.heap.size, 1, none⟩ = some (.int .i64 t)) ∧ Below wr.heap.size wr W ∧ wr.heap.size < W.heap.size) := fun W hW => by
          have hz0 : wr.heap.size < W0.heap.size := by rw [hW0]; simp
          have hW' := hW
          rw [hW0] at hW'
          have h := box4 hW'
          have h2 := hb.trans (h.2.2.2.2.mono hb.size)
          have hblk := (h2.block (w.heap.size) (by omega)).trans HW1.out
          refine ⟨⟨h.1, h.2.1, h.2.2.1, h.2.2.2.1⟩, ⟨?_, ?_⟩, h.2.2.2.2, Nat.lt_of_lt_of_le hz0 hW.size⟩ <;> (unfold World.cell?; rw [hblk]; rfl)
        obtain ⟨same, hsame⟩ : ∃ same, same = (xn == nl && xt == t) := ⟨_, rfl⟩
        have HE : Hid (same = (xn == nl && xt == t)) := hsame
        have HYES : Hid (same = true → setL (L.take (k + 1)) nl t = setL (L.take k) nl t ++ [(xn, xt, xl, xd)]) := fun h => by
          rw [hsame] at h
          simp only [Bool.and_eq_true, beq_iff_eq] at h
          rw [HSN, if_pos h]
        have HNO : Hid (same = false → setL (L.take (k + 1)) nl t = setL (L.take k) nl t) := fun h => by
          rw [HSN, if_neg (fun hh => by rw [hsame, hh.1, hh.2] at h; simp at h)]
        clear hcel hxe hW0 hsame HSN
        go_wp2_with fail
        rw [HW0.out]
        refine wp_region_quiet (C := fun W => Below W0.heap.size W0 W) (by kernel_rfl) (by kernel_rfl) hbd ?_
        refine wpQuiet_step (fun K hK => ?_)
        rw [if_pos (by rfl)]
        refine ⟨.agg #[.string ⟨xn.toArray⟩, .int .i64 xt, .int .i64 xl, .string ⟨xd.toArray⟩], fun W hW => quiet_ok ?_, hK _ ?_⟩
        · have q := HX.out W hW
          obtain ⟨⟨m0, m1, m2, m3⟩, ⟨z0, z1⟩, _⟩ := q
          go_simp
          all_goals (try omega)
        clear hK K
        simp only [Act.put, List.setIfInBounds_toArray, List.set_cons_succ, List.set_cons_zero]
        refine wpQuiet_step (fun K hK => ?_)
        rw [if_pos (by rfl)]
        refine ⟨.agg #[.string ⟨xn.toArray⟩, .int .i64 xt], fun W hW => quiet_call (f := 55) (args := #[.agg #[.string ⟨xn.toArray⟩, .int .i64 xt, .int .i64 xl, .string ⟨xd.toArray⟩]]) ?_ ?_, hK _ ?_⟩
        · go_simp
        · exact (HOX.out W).mono fun e w'' h => ⟨h.1, HTR.out _ _ hW h.2⟩
        clear hK K
        simp only [Act.put, List.setIfInBounds_toArray, List.set_cons_succ, List.set_cons_zero]
        refine wpQuiet_step (fun K hK => ?_)
        rw [if_pos (by rfl)]
        refine ⟨.agg #[.string ⟨nl.toArray⟩, .int .i64 t], fun W hW => quiet_ok ?_, hK _ ?_⟩
        · have q := HX.out W hW
          obtain ⟨⟨m0, m1, m2, m3⟩, ⟨z0, z1⟩, _⟩ := q
          go_simp
          all_goals (try omega)
        clear hK K
        simp only [Act.put, List.setIfInBounds_toArray, List.set_cons_succ, List.set_cons_zero]
        refine wpQuiet_step (fun K hK => ?_)
        rw [if_pos (by rfl)]
        refine ⟨.bool same, fun W hW => quiet_ok ?_, hK _ ?_⟩
        · go_simp
          exact own_if2 (fun b => Result.ok (Next.value (Value.bool b)) W) HE.out
        clear hK K
        simp only [Act.put, List.setIfInBounds_toArray, List.set_cons_succ, List.set_cons_zero]
        refine wpQuiet_nil ?_
        intro W hW
        obtain ⟨⟨m0, m1, m2, m3⟩, _, hbr, hzW⟩ := HX.out W hW
        have hbW : Below W1.heap.size W1 W := hb.trans (hbr.mono hb.size)
        have HOWW : Hid (W.ownsRow W1.heap.size 57 4 v (setL (L.take k) nl t).length (rcells (setL (L.take k) nl t))) := own_below HOW.out hbr
        cases same with
        | true =>
          have HNX := HYES.out rfl
          have HNXH : Hid (setL (L.take (k + 1)) nl t = setL (L.take k) nl t ++ [(xn, xt, xl, xd)]) := HNX
          clear HNX HYES HNO HE
          go_wp2_with (first | (at_builtin; refine wpList_append_rows rfl (.tmp 18) (.tmp 20) 28 rfl Tryz.underlying28 W1.heap.size v _ (setL (L.take k) nl t) rfl rfl ?b0 _ [(xn, xt, xl, xd)] rfl ?b1 ?b2 ?b3 ?b4 ?_))
          case b0 => exact HOWW.out.alloc _
          case b1 => exact rrow_one _ (xn, xt, xl, xd) _ _ (by simp)
          case b2 => intro n c h; cases h
          case b3 =>
            have h := HLN.out
            show (setL (L.take k) nl t).length + 1 ≤ 1048576
            omega
          case b4 => exact Nat.le_trans hbW.size (by simp)
          intro v2 w4 hown hgrow
          have HO4 : Hid (w4.ownsRow W1.heap.size 57 4 v2 (setL (L.take (k + 1)) nl t).length (rcells (setL (L.take (k + 1)) nl t))) := by
            show w4.ownsRow W1.heap.size 57 4 v2 (setL (L.take (k + 1)) nl t).length (rcells (setL (L.take (k + 1)) nl t))
            have e : (setL (L.take k) nl t ++ [(xn, xt, xl, xd)]).length = (setL (L.take k) nl t).length + 1 := by rw [List.length_append]; rfl
            rw [HNXH.out, e]; exact hown
          have hbw4 : Below W1.heap.size W1 w4 := (hbW.alloc hbW.size _).grown hgrow (Nat.le_trans hbW.size (by simp)) (fun j hj => (HOWW.out.lt j hj).1)
          clear hown hgrow
          go_wp2_with fail
          go_roundw
          case rel => exact ⟨k + 1, v2, by omega, by go_num, rfl, HO4, hbw4⟩
          case measure => simp [intOf]; omega
        | false =>
          have HNX := HNO.out rfl
          have HNXH : Hid (setL (L.take (k + 1)) nl t = setL (L.take k) nl t) := HNX
          clear HNX HYES HNO HE
          go_wp2_with fail
          go_roundw
          case rel => exact ⟨k + 1, v, by omega, by go_num, rfl, by rw [HNXH.out]; exact HOWW.out, hbW⟩
          case measure => simp [intOf]; omega
    · have HOL : Hid (RRow wr v (setL L nl t)) := by
        have h := HOW.out
        rw [List.take_of_length_le (by omega)] at h
        exact (own_q h).row
      have hsl : (setL L nl t).length ≤ 1048576 := Nat.le_trans (setL_len _ _ _) hl
      have hsx : Hid (∀ x ∈ setL L nl t, x.1.length ≤ 1048576 ∧ x.2.2.2.length ≤ 1048576) := fun x hxm => hx.out x (setL_mem hxm)
      go_wp2_with fail
      refine (copyRecords_any v (setL L nl t) wr HOL.out hsl hsx).mono ?_
      rintro e w5 ⟨u, rfl, hu, hb5⟩
      go_wp2_with fail
      go_ret
      exact ⟨⟨u, rfl, hu.base hbw.size⟩, hbw.trans (hb5.mono hbw.size)⟩

set_option maxRecDepth 20000 in
set_option maxHeartbeats 4000000 in
theorem iSetIn_any (nm : ByteArray) (ct : Int) (v0 : Value) (L : List (List UInt8 × Int × Int × List UInt8)) (n : ByteArray) (t : Int) (w : World) (hr : RRow w v0 L) (hap : nm.size ≤ 1048576) (hl : L.length ≤ 1048576) (hx : Hid (∀ x ∈ L, x.1.length ≤ 1048576 ∧ x.2.2.2.length ≤ 1048576)) (hE : EnvZ w) :
    Calls Tryz.prog 14 #[ZonV nm ct v0, .string n, .int .i64 t] w fun e w' => (∃ u, e = .returned (.tuple #[u, .bool (setB nm.data.toList ct L n.data.toList t)]) ∧ OwnQ w' w.heap.size u (setX nm.data.toList ct L n.data.toList t)) ∧ Below w.heap.size w w' := by
  have HSO : Hid (∀ nl W, Below w.heap.size w W → Calls Tryz.prog 33 #[v0, .agg #[.string ⟨nl.toArray⟩, .int .i64 t]] W fun e w' => (∃ u, e = .returned u ∧ OwnQ w' W.heap.size u (setL L nl t)) ∧ Below W.heap.size W w') := fun nl W hW => setOf_any v0 L nl t W (hr.kept hW) hl hx
  have HG : Hid (∀ W, Below w.heap.size w W → Calls Tryz.prog 32 #[ZonV nm ct v0] W fun e w' => e = .returned (.bool (zoneB nm.data.toList ct L)) ∧ Below W.heap.size W w') := fun W hW => iGoodZone_any nm ct v0 L W (hr.kept hW) hap hx (hE.below hW)
  obtain ⟨a, cap, rfl, _⟩ := hr
  have HB : Hid (setB nm.data.toList ct L n.data.toList t = ((nameB n.data.toList && typB t) && zoneB nm.data.toList ct L)) := rfl
  have HXX : Hid (setX nm.data.toList ct L n.data.toList t = if setB nm.data.toList ct L n.data.toList t = true then setL L n.data.toList t else []) := rfl
  obtain ⟨ok, hok⟩ : ∃ ok, ok = setB nm.data.toList ct L n.data.toList t := ⟨_, rfl⟩
  rw [← hok] at HB HXX ⊢
  clear hok
  have hb0 : Below w.heap.size w ((w.alloc (.cells #[.string nm, .int .i64 ct, .slice a L.length cap] 30)).alloc (.cells #[.string n, .int .i64 t] 52)) := ((Below.refl _ _).alloc (Nat.le_refl _) _).alloc (by simp) _
  unfold ZonV at HG ⊢
  cases hN : (nameB n.data.toList && typB t) with
  | false =>
    have HO : Hid (ok = false) := by rw [HB.out, hN, Bool.false_and]; exact rfl
    have HXN : Hid (setX nm.data.toList ct L n.data.toList t = []) := by rw [HXX.out, HO.out]; rfl
    go_enter Tryz.func14, Tryz.ntmps14
    go_wp2_with fail
    refine (ownerGood_any n t _ (hE.below hb0).1).mono ?_
    rintro e w1 ⟨rfl, hb1⟩
    rw [hN]
    have hbw := (heaps2 hb1).2.2
    go_wp2_with fail
    go_ret2
    exact ⟨⟨_, by rw [HO.out]; rfl, by rw [HXN.out]; exact .inl ⟨rfl, rfl⟩⟩, hbw⟩
  | true =>
    rw [hN, Bool.true_and] at HB
    cases hZ : zoneB nm.data.toList ct L with
    | false =>
      have HO : Hid (ok = false) := by rw [HB.out, hZ]; exact rfl
      have HXN : Hid (setX nm.data.toList ct L n.data.toList t = []) := by rw [HXX.out, HO.out]; rfl
      rw [hZ] at HG
      go_enter Tryz.func14, Tryz.ntmps14
      go_wp2_with fail
      refine (ownerGood_any n t _ (hE.below hb0).1).mono ?_
      rintro e w1 ⟨rfl, hb1⟩
      rw [hN]
      obtain ⟨hz, ho, hbw⟩ := heaps2 hb1
      obtain ⟨⟨c0, c1, c2⟩, _⟩ := zon_cells hz
      go_wp2_with fail
      refine (HG.out _ hbw).mono ?_
      rintro e w2 ⟨rfl, hb2⟩
      go_wp2_with fail
      go_ret2
      exact ⟨⟨_, by rw [HO.out]; rfl, by rw [HXN.out]; exact .inl ⟨rfl, rfl⟩⟩, hbw.trans (hb2.mono hbw.size)⟩
    | true =>
      have HO : Hid (ok = true) := by rw [HB.out, hZ]; exact rfl
      have HXN : Hid (setX nm.data.toList ct L n.data.toList t = setL L n.data.toList t) := by rw [HXX.out, HO.out]; rfl
      rw [hZ] at HG
      obtain ⟨nl, hnl⟩ : ∃ nl, nl = n.data.toList := ⟨_, rfl⟩
      obtain rfl : n = ⟨nl.toArray⟩ := data_eq hnl.symm
      have HXM : Hid (setX nm.data.toList ct L (⟨nl.toArray⟩ : ByteArray).data.toList t = setL L nl t) := HXN.out
      clear hnl HXN hZ
      go_enter Tryz.func14, Tryz.ntmps14
      go_wp2_with fail
      refine (ownerGood_any ⟨nl.toArray⟩ t _ (hE.below hb0).1).mono ?_
      rintro e w1 ⟨rfl, hb1⟩
      rw [hN]
      obtain ⟨hz, ho, hbw⟩ := heaps2 hb1
      obtain ⟨⟨c0, c1, c2⟩, _⟩ := zon_cells hz
      have hz1 : w.heap.size + 2 ≤ w1.heap.size := by have h := hb1.size; simpa using h
      go_wp2_with fail
      refine (HG.out _ hbw).mono ?_
      rintro e w2 ⟨rfl, hb2⟩
      have hbw2 := hbw.trans (hb2.mono hbw.size)
      have hz2 : w.heap.size + 2 ≤ w2.heap.size := Nat.le_trans hz1 hb2.size
      have HZ2 : Hid (w2.heap[w.heap.size]? = some (.cells #[.string nm, .int .i64 ct, .slice a L.length cap] 30)) := (hb2.block _ (by omega)).trans hz
      have HW2 : Hid (w2.heap[w.heap.size + 1]? = some (.cells #[.string ⟨nl.toArray⟩, .int .i64 t] 52)) := (hb2.block _ (by omega)).trans ho
      clear c0 c1 c2 hz ho hb1 hb2 hbw
      obtain ⟨⟨c0, c1, c2⟩, _⟩ := zon_cells HZ2.out
      have HSO2 := HSO.out nl _ hbw2
      obtain ⟨o0, o1⟩ : w2.cell? ⟨w.heap.size + 1, 0, none⟩ = some (.string ⟨nl.toArray⟩) ∧ w2.cell? ⟨w.heap.size + 1, 1, none⟩ = some (.int .i64 t) := by
        have hblk := HW2.out
        constructor <;> (unfold World.cell?; rw [hblk]; rfl)
      have HS3 : Hid (Calls Tryz.prog 33 #[.slice a L.length cap, .agg #[.string ⟨nl.toArray⟩, .int .i64 t]] w2 fun e w' => (∃ u, e = .returned u ∧ OwnQ w' w2.heap.size u (setL L nl t)) ∧ Below w2.heap.size w2 w') := HSO2
      clear HSO2 HSO
      go_wp2_with fail
      refine HS3.out.mono ?_
      rintro e w5 ⟨⟨u, rfl, hu⟩, hb5⟩
      go_wp2_with fail
      go_ret2
      exact ⟨⟨u, by rw [HO.out]; rfl, by rw [HXM.out]; exact hu.base hbw2.size⟩, hbw2.trans (hb5.mono hbw2.size)⟩
end Go.Proofs.YtpkceelmnfgdkaaGreatDoor

namespace Go.Proofs.YtpkceelmnfgdkaaGreatDoor.setIn
open Go.RowKit

set_option maxRecDepth 20000 in
set_option maxHeartbeats 16000000 in
theorem core (nm : ByteArray) (ct : Int) (va : Value) (L : List (List UInt8 × Int × Int × List UInt8)) (n : ByteArray) (t : Int) (ok : Bool) (S : List (List UInt8 × Int × Int × List UInt8)) (w : World) (hn : nm.size ≤ maxLen) (ha : RRow w va L) (hxa : Hid (∀ x ∈ L, x.1.length ≤ maxLen ∧ x.2.2.2.length ≤ maxLen)) (hE : EnvZ w) (hnn : n.size ≤ 1048576) (hSL : S.length ≤ L.length)
    (HS0 : Hid (∀ g W, nm.size ≤ 1048576 → L.length ≤ 1048576 → Hid (∀ x ∈ L, x.1.length ≤ 1048576 ∧ x.2.2.2.length ≤ 1048576) → QRow W g L → Calls Tryz.prog 13 #[ZonV nm ct (.slice (some ⟨g, 0, none⟩) L.length L.length), .string n, .int .i64 t] W fun e w' => (∃ u, e = .returned (.tuple #[u, .bool ok]) ∧ RRow w' u S) ∧ Below W.heap.size W w'))
    (HI0 : Hid (∀ g W, EnvZ W → nm.size ≤ 1048576 → L.length ≤ 1048576 → Hid (∀ x ∈ L, x.1.length ≤ 1048576 ∧ x.2.2.2.length ≤ 1048576) → QRow W g L → Calls Tryz.prog 14 #[ZonV nm ct (.slice (some ⟨g, 0, none⟩) L.length L.length), .string n, .int .i64 t] W fun e w' => (∃ u, e = .returned (.tuple #[u, .bool ok]) ∧ OwnQ w' W.heap.size u S) ∧ Below W.heap.size W w')) :
    Calls Tryz.prog 5 #[ZonV nm ct va, .string n, .int .i64 t] w fun e w' => e = .returned (.bool true) ∧ Below w.heap.size w w' := by
  obtain ⟨aa, ca, hva, _, hca, _⟩ := id ha
  have gN : ¬ (1048576 : Int) < (n.size : Int) := by omega
  have HSZ : Hid (∀ W, Below w.heap.size w W → Calls Tryz.prog 6 #[ZonV nm ct va, .int .i64 1048576] W fun e w' => (∃ q : Int, e = .returned (.int .i64 q) ∧ (q = -1 ∨ (0 ≤ q ∧ q = 1048576 - (nm.size : Int) - (L.length : Int) - (wtR L : Int)))) ∧ Below W.heap.size W w') := fun W hW => szZone_any nm ct va L 1048576 W hn (ha.kept hW) hxa (by omega) (by omega)
  have HTO : Hid (L.length ≤ 1048576 → ∀ W, Below w.heap.size w W → Calls Tryz.prog 8 #[ZonV nm ct va] W fun e w' => (∃ g, e = .returned (ZonV nm ct (.slice (some ⟨g, 0, none⟩) L.length L.length)) ∧ W.heap.size ≤ g ∧ QRow w' g L) ∧ Below W.heap.size W w') := fun h1 W hW => toZone_any nm ct va L W (ha.kept hW) h1
  subst hva
  clear ha
  unfold ZonV at HSZ HTO ⊢
  go_enter Tryz.func5, Tryz.ntmps5
  go_wp2_with fail
  refine (HSZ.out _ ((Below.refl w.heap.size w).alloc (Nat.le_refl _) _)).mono ?_
  rintro e w1 ⟨⟨q, rfl, hq⟩, hb1⟩
  have hbw1 : Below w.heap.size w w1 := ((Below.refl w.heap.size w).alloc (Nat.le_refl _) _).trans (hb1.mono (by simp))
  have HP1 : Hid (w1.heap[w.heap.size]? = some (.cells #[.string nm, .int .i64 ct, .slice aa L.length ca] 24)) := (hb1.block w.heap.size (by simp)).trans (blk_new _ _)
  have hz1 : w.heap.size < w1.heap.size := Nat.lt_of_lt_of_le (by simp) hb1.size
  clear hb1
  rcases hq with rfl | ⟨hq0, hqe⟩
  · go_wp2_with fail
    go_ret
    exact ⟨rfl, hbw1⟩
  · obtain ⟨hn', hL, hL2⟩ := sz_zone hq0 hqe
    have HL2 : Hid (∀ x ∈ L, x.1.length ≤ 1048576 ∧ x.2.2.2.length ≤ 1048576) := hL2
    have HT : Hid (∀ W, Below w.heap.size w W → Calls Tryz.prog 8 #[.agg #[.string nm, .int .i64 ct, .slice aa L.length ca]] W fun e w' => (∃ g, e = .returned (.agg #[.string nm, .int .i64 ct, .slice (some ⟨g, 0, none⟩) L.length L.length]) ∧ W.heap.size ≤ g ∧ QRow w' g L) ∧ Below W.heap.size W w') := HTO.out hL
    have HSP : Hid (∀ g W, QRow W g L → Calls Tryz.prog 13 #[ZonV nm ct (.slice (some ⟨g, 0, none⟩) L.length L.length), .string n, .int .i64 t] W fun e w' => (∃ u, e = .returned (.tuple #[u, .bool ok]) ∧ RRow w' u S) ∧ Below W.heap.size W w') := fun g W h1 => HS0.out g W hn' hL HL2 h1
    have HI : Hid (∀ g W, EnvZ W → QRow W g L → Calls Tryz.prog 14 #[ZonV nm ct (.slice (some ⟨g, 0, none⟩) L.length L.length), .string n, .int .i64 t] W fun e w' => (∃ u, e = .returned (.tuple #[u, .bool ok]) ∧ OwnQ w' W.heap.size u S) ∧ Below W.heap.size W w') := fun g W hW h1 => HI0.out g W hW hn' hL HL2 h1
    have HEQ : Hid (∀ g1 g2 W, QRow W g1 L → QRow W g2 L → Calls Tryz.prog 10 #[ZonV nm ct (.slice (some ⟨g1, 0, none⟩) L.length L.length), ZonV nm ct (.slice (some ⟨g2, 0, none⟩) L.length L.length)] W fun e w' => e = .returned (.bool true) ∧ Below W.heap.size W w') := fun g1 g2 W h1 h2 => eqZone_same nm ct _ _ L W (h1.row (Nat.le_refl _) (by unfold maxLen; omega)) (h2.row (Nat.le_refl _) (by unfold maxLen; omega))
    have HMZ : Hid (∀ g base W, base ≤ g → QRow W g L → Calls Tryz.prog 16 #[ZonV nm ct (.slice (some ⟨g, 0, none⟩) L.length L.length), .int .i64 1] W fun e w' => e = .returned (.int .i64 (1 + 4 * (L.length : Int))) ∧ Kpt W w' (fun k => k = g)) := fun g base W hbg h1 => (markZone_any nm ct _ L base 1 W (.inr ⟨g, L.length, rfl, Nat.le_refl _, by unfold maxLen; omega, hbg, h1⟩) hL (by omega) (by omega)).mono fun e w' h => ⟨h.1, h.2.2.mono (fun k _ hk => by injection hk with hk; exact hk.symm)⟩
    have HMR : Hid (∀ v base W, OwnQ W base v S → Calls Tryz.prog 17 #[v, .int .i64 1] W fun e w' => e = .returned (.int .i64 (1 + 4 * (S.length : Int))) ∧ OwnQ w' base v (mrks 1 S.length) ∧ W.grownBy w' v.ownBlock) := fun v base W h1 => markRecordS_any v S base 1 W h1 (by omega) (by omega) (by omega)
    have HHD : Hid (∀ v base W, OwnQ W base v (mrks 1 S.length) → Calls Tryz.prog 18 #[v, .int .i64 1] W fun e w' => e = .returned (.int .i64 (1 + 4 * (S.length : Int))) ∧ Below W.heap.size W w') := fun v base W h1 => heldRecordS_any v S.length 1 W h1.row (by omega) (by omega) (by omega)
    have HES : Hid (∀ v1 v2 W, RRow W v1 S → RRow W v2 S → Calls Tryz.prog 15 #[v1, v2] W fun e w' => e = .returned (.bool true) ∧ Below W.heap.size W w') := fun v1 v2 W h1 h2 => eqRecordS_same v1 v2 S W h1 h2
    obtain ⟨p, hp⟩ : ∃ p : Int, p = 1 + 4 * (S.length : Int) := ⟨_, rfl⟩
    rw [← hp] at HMR HHD
    obtain ⟨pz, hpz⟩ : ∃ pz : Int, pz = 1 + 4 * (L.length : Int) := ⟨_, rfl⟩
    rw [← hpz] at HMZ
    have hp0 : decide (p < 0) = false := by simp; omega
    have hpp : (p != p) = false := by simp
    have hz0 : decide (pz < 0) = false := by simp; omega
    have e2 : (ok != ok) = false := by simp
    clear hp hpz
    unfold ZonV at HSP HI HEQ HMZ
    obtain ⟨⟨p0, p1, p2⟩, _⟩ := zon_cells HP1.out
    clear hqe hL2 HTO HI0 HS0 HSZ
    go_wp2_with fail
    refine (HT.out _ hbw1).mono ?_
    rintro e w2 ⟨⟨g1, rfl, hg1, hqa⟩, hb2⟩
    clear p0 p1 p2
    have hbw2 : Below w.heap.size w w2 := hbw1.trans (hb2.mono hbw1.size)
    have HP2 : Hid (w2.heap[w.heap.size]? = some (.cells #[.string nm, .int .i64 ct, .slice aa L.length ca] 24)) := (hb2.block w.heap.size hz1).trans HP1.out
    have hz2 : w.heap.size < w2.heap.size := Nat.lt_of_lt_of_le hz1 hb2.size
    have HQA : Hid (QRow w2 g1 L) := hqa
    clear hqa hg1 hb2 HP1 hbw1
    go_wp2_with fail
    refine (HSP.out g1 _ HQA.out).mono ?_
    rintro e w3 ⟨⟨u0, rfl, hr0⟩, hb3⟩
    have hbw3 : Below w.heap.size w w3 := hbw2.trans (hb3.mono hbw2.size)
    have HP3 : Hid (w3.heap[w.heap.size]? = some (.cells #[.string nm, .int .i64 ct, .slice aa L.length ca] 24)) := (hb3.block w.heap.size hz2).trans HP2.out
    have hz3 : w.heap.size < w3.heap.size := Nat.lt_of_lt_of_le hz2 hb3.size
    obtain ⟨a0, k0, hu0, _, hk0, hrow0⟩ := id hr0
    have HBL0 : Hid (∀ g o n c, u0 = .slice (some ⟨g, o, none⟩) n c → S ≠ [] → g < w3.heap.size) := fun g o n c he hne => by
      rcases hrow0 with h | ⟨b, o', hb', hbl, _⟩
      · exact absurd h hne
      · rw [hu0, hb'] at he; injection he with he _ _; injection he with he; injection he with he; omega
    have HR0 : Hid (RRow w3 u0 S) := hr0
    subst hu0
    obtain ⟨⟨p0, p1, p2⟩, _⟩ := zon_cells HP3.out
    clear HQA hb3 HP2 hbw2 hr0 hrow0
    go_wp2_with fail
    refine (HT.out _ hbw3).mono ?_
    rintro e w4 ⟨⟨g3, rfl, hg3, hqa⟩, hb4⟩
    clear p0 p1 p2
    have hbw4 : Below w.heap.size w w4 := hbw3.trans (hb4.mono hbw3.size)
    have HP4 : Hid (w4.heap[w.heap.size]? = some (.cells #[.string nm, .int .i64 ct, .slice aa L.length ca] 24)) := (hb4.block w.heap.size hz3).trans HP3.out
    have hz4 : w.heap.size < w4.heap.size := Nat.lt_of_lt_of_le hz3 hb4.size
    have HQ4 : Hid (QRow w4 g3 L) := hqa
    have hg3l : g3 < w4.heap.size := hqa.1
    have HR4 : Hid (RRow w4 (.slice a0 S.length k0) S) := HR0.out.kept hb4
    have hbA : Below w4.heap.size w4 (w4.alloc (.cells #[.string nm, .int .i64 ct, .slice (some ⟨g3, 0, none⟩) L.length L.length] 30)) := (Below.refl _ _).alloc (Nat.le_refl _) _
    clear hqa hb4 HP3 hbw3
    go_wp2_with fail
    refine (HI.out g3 _ (hE.below (hbw4.alloc hbw4.size _)) (HQ4.out.kept hbA)).mono ?_
    rintro e w5 ⟨⟨u1, rfl, ho1⟩, hb5⟩
    obtain ⟨a1, k1, hu1, hk1⟩ := ho1.shape
    subst hu1
    have hb45 : Below w4.heap.size w4 w5 := hbA.trans (hb5.mono (by simp))
    have hbw5 : Below w.heap.size w w5 := hbw4.trans (hb45.mono hbw4.size)
    have hz45 : w4.heap.size < w5.heap.size := Nat.lt_of_lt_of_le (by simp) hb5.size
    have HX5 : Hid (w5.heap[w4.heap.size]? = some (.cells #[.string nm, .int .i64 ct, .slice (some ⟨g3, 0, none⟩) L.length L.length] 30)) := (hb5.block w4.heap.size (by simp)).trans (blk_new _ _)
    have HP5 : Hid (w5.heap[w.heap.size]? = some (.cells #[.string nm, .int .i64 ct, .slice aa L.length ca] 24)) := (hb45.block w.heap.size hz4).trans HP4.out
    have HO5 : Hid (OwnQ w5 (w4.heap.size + 1) (.slice a1 S.length k1) S) := by
      have h : OwnQ w5 (w4.heap.size + 1) (.slice a1 S.length k1) S := by simpa using ho1
      exact h
    have HR5 : Hid (RRow w5 (.slice a0 S.length k0) S) := HR4.out.kept hb45
    have HQ5 : Hid (QRow w5 g3 L) := HQ4.out.kept hb45
    clear ho1 hb5 hb45 HP4 HQ4 HR4 hbw4 hbA
    go_wp2_with fail
    refine (HES.out _ _ _ HO5.out.row HR5.out).mono ?_
    rintro e w6 ⟨rfl, hb6⟩
    have hbw6 : Below w.heap.size w w6 := hbw5.trans (hb6.mono hbw5.size)
    have hz56 : w5.heap.size ≤ w6.heap.size := hb6.size
    have HC : Hid (∀ W, Below w6.heap.size w6 W → (W.cell? ⟨w.heap.size, 0, none⟩ = some (.string nm) ∧ W.cell? ⟨w.heap.size, 1, none⟩ = some (.int .i64 ct) ∧ W.cell? ⟨w.heap.size, 2, none⟩ = some (.slice aa L.length ca)) ∧ (W.cell? ⟨w4.heap.size, 0, none⟩ = some (.string nm) ∧ W.cell? ⟨w4.heap.size, 1, none⟩ = some (.int .i64 ct) ∧ W.cell? ⟨w4.heap.size, 2, none⟩ = some (.slice (some ⟨g3, 0, none⟩) L.length L.length)) ∧ Below w6.heap.size w6 W) := fun W hW =>
      ⟨(zon_cells ((hW.block w.heap.size (by omega)).trans ((hb6.block w.heap.size (by omega)).trans HP5.out))).1, (zon_cells ((hW.block w4.heap.size (by omega)).trans ((hb6.block w4.heap.size hz45).trans HX5.out))).1, hW⟩
    have HT6 : Hid (∀ W, Below w6.heap.size w6 W → Calls Tryz.prog 8 #[.agg #[.string nm, .int .i64 ct, .slice aa L.length ca]] W fun e w' => (∃ g, e = .returned (.agg #[.string nm, .int .i64 ct, .slice (some ⟨g, 0, none⟩) L.length L.length]) ∧ W.heap.size ≤ g ∧ QRow w' g L) ∧ Below W.heap.size W w') := fun W hW => HT.out W (hbw6.trans (hW.mono hbw6.size))
    have HEQ6 : Hid (∀ g W, Below w6.heap.size w6 W → QRow W g L → Calls Tryz.prog 10 #[.agg #[.string nm, .int .i64 ct, .slice (some ⟨g3, 0, none⟩) L.length L.length], .agg #[.string nm, .int .i64 ct, .slice (some ⟨g, 0, none⟩) L.length L.length]] W fun e w' => e = .returned (.bool true) ∧ Below W.heap.size W w') := fun g W hW h1 => HEQ.out g3 g W ((HQ5.out.kept hb6).kept hW) h1
    have HTR : Hid (∀ W W', Below w6.heap.size w6 W → Below W.heap.size W W' → Below w6.heap.size w6 W') := fun W W' h1 h2 => h1.trans (h2.mono h1.size)
    have HALL : Hid (∀ W, Below w6.heap.size w6 W → W.heap[w.heap.size]? = some (.cells #[.string nm, .int .i64 ct, .slice aa L.length ca] 24) ∧ W.heap[w4.heap.size]? = some (.cells #[.string nm, .int .i64 ct, .slice (some ⟨g3, 0, none⟩) L.length L.length] 30) ∧ OwnQ W (w4.heap.size + 1) (.slice a1 S.length k1) S ∧ RRow W (.slice a0 S.length k0) S ∧ QRow W g3 L ∧ Below w.heap.size w W ∧ w5.heap.size ≤ W.heap.size ∧ (∀ g, (Value.slice a1 S.length k1).ownBlock = some g → w4.heap.size + 1 ≤ g ∧ g < w5.heap.size)) := fun W hW =>
      ⟨(hW.block w.heap.size (by omega)).trans ((hb6.block w.heap.size (by omega)).trans HP5.out), (hW.block w4.heap.size (by omega)).trans ((hb6.block w4.heap.size hz45).trans HX5.out), (HO5.out.kept hb6).kept hW, (HR5.out.kept hb6).kept hW, (HQ5.out.kept hb6).kept hW, hbw6.trans (hW.mono hbw6.size), Nat.le_trans hz56 hW.size, HO5.out.lt⟩
    have hbz : Below w6.heap.size w6 w6 := Below.refl _ _
    have hbd : Below w6.heap.size w6 w6.drew := (Below.refl _ _).drew
    clear HP5 HX5 HO5 HR5 HQ5 hb6 hbw5 HEQ HSP
    go_wp2_with fail
    go_region_held3 (fun W => (W.cell? ⟨w.heap.size, 0, none⟩ = some (.string nm) ∧ W.cell? ⟨w.heap.size, 1, none⟩ = some (.int .i64 ct) ∧ W.cell? ⟨w.heap.size, 2, none⟩ = some (.slice aa L.length ca)) ∧ (W.cell? ⟨w4.heap.size, 0, none⟩ = some (.string nm) ∧ W.cell? ⟨w4.heap.size, 1, none⟩ = some (.int .i64 ct) ∧ W.cell? ⟨w4.heap.size, 2, none⟩ = some (.slice (some ⟨g3, 0, none⟩) L.length L.length)) ∧ Below w6.heap.size w6 W) (first | exact HC.out _ (by assumption) | exact HC.out _ (Below.drew (by assumption)))
      (first
      | (go_at_call 8; refine (HT6.out _ (by assumption)).mono ?_; rintro e w7 ⟨⟨g5, rfl, _, hqa6⟩, hb7⟩; have hb67 := HTR.out _ _ (by assumption) hb7)
      | (go_at_call 10; refine (HEQ6.out _ _ (by assumption) (by assumption)).mono ?_; rintro e w8 ⟨rfl, hb8⟩; have hb68 := HTR.out _ _ (by assumption) hb8))
    obtain ⟨q1, q2, q3, q4, q5, hbw8, hz58, hlt1⟩ := HALL.out _ hb68
    have HP8 : Hid (w8.heap[w.heap.size]? = some (.cells #[.string nm, .int .i64 ct, .slice aa L.length ca] 24)) := q1
    have HX8 : Hid (w8.heap[w4.heap.size]? = some (.cells #[.string nm, .int .i64 ct, .slice (some ⟨g3, 0, none⟩) L.length L.length] 30)) := q2
    have HO8 : Hid (OwnQ w8 (w4.heap.size + 1) (.slice a1 S.length k1) S) := q3
    have HR8 : Hid (RRow w8 (.slice a0 S.length k0) S) := q4
    have HQ8 : Hid (QRow w8 g3 L) := q5
    have HLT : Hid (∀ g, (Value.slice a1 S.length k1).ownBlock = some g → w4.heap.size + 1 ≤ g ∧ g < w5.heap.size) := hlt1
    obtain ⟨⟨x0, x1, x2⟩, _⟩ := zon_cells q2
    clear q1 q2 q3 q4 q5 hlt1 hb8 hb68 HC HT6 HEQ6 HTR HALL hbz hbd hbw6 hz56
    (try clear hb7 hb67 hqa6)
    go_wp2_with fail
    refine (HMZ.out g3 w3.heap.size _ hg3 HQ8.out).mono ?_
    rintro e w9 ⟨rfl, hk9⟩
    clear x0 x1 x2
    have hz89 : w8.heap.size ≤ w9.heap.size := hk9.size
    have HP9 : Hid (w9.heap[w.heap.size]? = some (.cells #[.string nm, .int .i64 ct, .slice aa L.length ca] 24)) := (hk9.block w.heap.size (by omega) (by omega)).trans HP8.out
    have HO9 : Hid (OwnQ w9 (w4.heap.size + 1) (.slice a1 S.length k1) S) := HO8.out.kpt hk9 (fun g hg h => by have h1 := HLT.out g hg; omega)
    have HR9 : Hid (RRow w9 (.slice a0 S.length k0) S) := HR8.out.kpt hk9 (fun g o n c he hne h => by have h1 := HBL0.out g o n c he hne; omega)
    have hbw9 : Below w.heap.size w w9 := hbw8.trans (hk9.below hbw8.size (fun k hk h => by omega))
    clear hk9 HP8 HX8 HO8 HR8 HQ8
    go_wp2_with fail
    refine (HES.out _ _ _ HO9.out.row HR9.out).mono ?_
    rintro e w10 ⟨rfl, hb10⟩
    have HP10 : Hid (w10.heap[w.heap.size]? = some (.cells #[.string nm, .int .i64 ct, .slice aa L.length ca] 24)) := (hb10.block w.heap.size (by omega)).trans HP9.out
    have HO10 : Hid (OwnQ w10 (w4.heap.size + 1) (.slice a1 S.length k1) S) := HO9.out.kept hb10
    have HR10 : Hid (RRow w10 (.slice a0 S.length k0) S) := HR9.out.kept hb10
    have hbw10 : Below w.heap.size w w10 := hbw9.trans (hb10.mono hbw9.size)
    have hz910 : w9.heap.size ≤ w10.heap.size := hb10.size
    clear hb10 HP9 HO9 HR9 hbw9
    go_wp2_with fail
    refine (HMR.out _ _ _ HO10.out).mono ?_
    rintro e w11 ⟨rfl, ho11, hg11⟩
    have hk11 := grown_kpt hg11
    have hz1011 : w10.heap.size ≤ w11.heap.size := hk11.size
    have HP11 : Hid (w11.heap[w.heap.size]? = some (.cells #[.string nm, .int .i64 ct, .slice aa L.length ca] 24)) := (hk11.block w.heap.size (by omega) (fun h => by have h1 := HLT.out _ h; omega)).trans HP10.out
    have HR11 : Hid (RRow w11 (.slice a0 S.length k0) S) := HR10.out.kpt hk11 (fun g o n c he hne h => by have h1 := HBL0.out g o n c he hne; have h2 := HLT.out _ h; omega)
    have hbw11 : Below w.heap.size w w11 := hbw10.trans (hk11.below hbw10.size (fun k hk h => by have h1 := HLT.out _ h; omega))
    have HO11 : Hid (OwnQ w11 (w4.heap.size + 1) (.slice a1 S.length k1) (mrks 1 S.length)) := ho11
    clear ho11 hg11 hk11 HP10 HO10 HR10 hbw10
    go_wp2_with fail
    refine (HHD.out _ _ _ HO11.out).mono ?_
    rintro e w12 ⟨rfl, hb12⟩
    have HP12 : Hid (w12.heap[w.heap.size]? = some (.cells #[.string nm, .int .i64 ct, .slice aa L.length ca] 24)) := (hb12.block w.heap.size (by omega)).trans HP11.out
    have HO12 : Hid (OwnQ w12 (w4.heap.size + 1) (.slice a1 S.length k1) (mrks 1 S.length)) := HO11.out.kept hb12
    have HR12 : Hid (RRow w12 (.slice a0 S.length k0) S) := HR11.out.kept hb12
    have hbw12 : Below w.heap.size w w12 := hbw11.trans (hb12.mono hbw11.size)
    obtain ⟨⟨p0, p1, p2⟩, _⟩ := zon_cells HP12.out
    clear hb12 HP11 HO11 HR11 hbw11
    go_wp2_with fail
    refine (HT.out _ hbw12).mono ?_
    rintro e w13 ⟨⟨g7, rfl, hg7, hqa⟩, hb13⟩
    clear p0 p1 p2
    have HQ13 : Hid (QRow w13 g7 L) := hqa
    have HO13 : Hid (OwnQ w13 (w4.heap.size + 1) (.slice a1 S.length k1) (mrks 1 S.length)) := HO12.out.kept hb13
    have HR13 : Hid (RRow w13 (.slice a0 S.length k0) S) := HR12.out.kept hb13
    have hbw13 : Below w.heap.size w w13 := hbw12.trans (hb13.mono hbw12.size)
    clear hqa hg7 hb13 HO12 HR12 hbw12
    go_wp2_with fail
    refine (HI.out g7 _ (hE.below hbw13) HQ13.out).mono ?_
    rintro e w14 ⟨⟨u2, rfl, ho2⟩, hb14⟩
    obtain ⟨a2, k2, hu2, hk2⟩ := ho2.shape
    subst hu2
    have HRR2 : Hid (RRow w14 (.slice a2 S.length k2) S) := ho2.row
    have HO14 : Hid (OwnQ w14 (w4.heap.size + 1) (.slice a1 S.length k1) (mrks 1 S.length)) := HO13.out.kept hb14
    have HR14 : Hid (RRow w14 (.slice a0 S.length k0) S) := HR13.out.kept hb14
    have hbw14 : Below w.heap.size w w14 := hbw13.trans (hb14.mono hbw13.size)
    clear ho2 hb14 HO13 HR13 hbw13 HQ13
    go_wp2_with fail
    refine (HES.out _ _ _ HRR2.out HR14.out).mono ?_
    rintro e w15 ⟨rfl, hb15⟩
    have HO15 : Hid (OwnQ w15 (w4.heap.size + 1) (.slice a1 S.length k1) (mrks 1 S.length)) := HO14.out.kept hb15
    have hbw15 : Below w.heap.size w w15 := hbw14.trans (hb15.mono hbw14.size)
    clear hb15 HO14 HR14 hbw14
    go_wp2_with fail
    refine (HHD.out _ _ _ HO15.out).mono ?_
    rintro e w16 ⟨rfl, hb16⟩
    have hbw16 : Below w.heap.size w w16 := hbw15.trans (hb16.mono hbw15.size)
    go_wp2_with fail
    go_ret
    exact ⟨rfl, hbw16⟩

theorem setX_len (ap : List UInt8) (ct : Int) (L : List (List UInt8 × Int × Int × List UInt8)) (n : List UInt8) (t : Int) : (setX ap ct L n t).length ≤ L.length := by
  unfold setX
  split
  · exact setL_len _ _ _
  · exact Nat.zero_le _

set_option maxRecDepth 20000 in
set_option maxHeartbeats 1000000 in
theorem walk (nm : ByteArray) (ct : Int) (va : Value) (L : List (List UInt8 × Int × Int × List UInt8)) (n : ByteArray) (t : Int) (w : World) (hn : nm.size ≤ maxLen) (ha : RRow w va L) (hxa : Hid (∀ x ∈ L, x.1.length ≤ maxLen ∧ x.2.2.2.length ≤ maxLen)) (_hc : -9223372036854775808 ≤ ct ∧ ct ≤ 9223372036854775807) (hs : n.size ≤ maxLen) (_ht : -9223372036854775808 ≤ t ∧ t ≤ 9223372036854775807) (hE : EnvZ w) :
    Calls Tryz.prog 5 #[ZonV nm ct va, .string n, .int .i64 t] w fun e w' => e = .returned (.bool true) ∧ Below w.heap.size w w' := by
  have la : L.length ≤ maxLen := by obtain ⟨_, cap, _, h1, h2, _⟩ := ha; omega
  have hs2 := hs
  unfold maxLen at hs2
  by_cases h : (1048576 : Int) < (n.size : Int)
  · obtain ⟨aa, ca, rfl, _⟩ := id ha
    unfold ZonV
    go_enter Tryz.func5, Tryz.ntmps5
    go_wp2_with fail
    go_ret
    exact ⟨rfl, (Below.refl w.heap.size w).alloc (Nat.le_refl _) _⟩
  · have hnn : n.size ≤ 1048576 := by omega
    exact core nm ct va L n t _ _ w hn ha hxa hE hnn (setX_len _ _ _ _ _) (fun g W h1 h2 h3 q => sSetIn_any nm ct _ L n t W (q.row (Nat.le_refl _) la) h1 hnn h2 h3) (fun g W hW h1 h2 h3 q => iSetIn_any nm ct _ L n t W (q.row (Nat.le_refl _) la) h1 h2 h3 hW)
end Go.Proofs.YtpkceelmnfgdkaaGreatDoor.setIn
