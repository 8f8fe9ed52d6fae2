import Derived.Test.YtoobaaklklommaaGreatDoorZ30
import Derived.Test.YtoobaaklklommaaGreatDoorZ26
import Derived.Test.YtoobaaklklommaaGreatDoorZ41
import Derived.BigQuiet
import Derived.Deep.QuietTactic
import Derived.Test.YtoobaaklklommaaGreatDoorZ07
import Derived.Test.YtoobaaklklommaaGreatDoorZ04
namespace Go.Proofs.YtoobaaklklommaaGreatDoor
open Go.RowKit

theorem held_at {L : List (List UInt8 × Int × Int × List UInt8)} {n : List UInt8} {t : Int} (k : Nat) (hk : k < L.length) (h1 : L[k].1 = n) (h2 : L[k].2.1 = t) : heldB L n t = true := held_iff.2 ⟨_, List.getElem_mem hk, h1, h2⟩
theorem held_none {L : List (List UInt8 × Int × Int × List UInt8)} {n : List UInt8} {t : Int} (h : ∀ j, (hj : j < L.length) → ¬ (L[j].1 = n ∧ L[j].2.1 = t)) : heldB L n t = false := by
  cases hc : heldB L n t with
  | false => exact rfl
  | true =>
    obtain ⟨x, hx, h1, h2⟩ := held_iff.1 hc
    obtain ⟨j, hj, rfl⟩ := List.getElem_of_mem hx
    exact absurd ⟨h1, h2⟩ (h j hj)

set_option maxRecDepth 20000 in
set_option maxHeartbeats 1000000 in
theorem l6Has_any (v : Value) (L : List (List UInt8 × Int × Int × List UInt8)) (on : ByteArray) (ot : Int) (w : World) (hr : RRow w v L) :
    Calls Tryz.prog 129 #[v, .string on, .int .i64 ot] w fun e w' => e = .returned (.bool (heldB L on.data.toList ot)) ∧ Below w.heap.size w w' := by
  obtain ⟨a, cap, rfl, hcap, hmax, hrow⟩ := hr
  have HROW : Hid (L = [] ∨ ∃ b o, a = some ⟨b, o, none⟩ ∧ b < w.heap.size ∧ ∀ j, (hj : j < L.length) → RecAt w b (o + j * 4) L[j]) := hrow
  unfold maxLen at hmax
  clear hrow
  go_enter Tryz.func129, Tryz.ntmps129
  go_wp2_with fail
  go_loopw [11] (fun i wr => ∃ k : Nat, k ≤ L.length ∧ i = .int .i64 (k : Int) ∧ Hid (∀ j, (hj : j < L.length) → j < k → ¬ (L[j].1 = on.data.toList ∧ L[j].2.1 = ot)) ∧ Below w.heap.size w wr) (fun i _ => L.length - (intOf i).toNat)
  case atStart => exact ⟨0, Nat.zero_le _, rfl, fun j _ h => absurd h (Nat.not_lt_zero _), Below.refl _ _⟩
  case round =>
    obtain ⟨k, hk, rfl, HA, hb⟩ := hrel
    by_cases hlt : k < L.length
    · rcases HROW.out with hr | ⟨b, o, ha, hbl, hcel⟩
      · rw [hr] at hlt; simp at hlt
      · rw [ha]
        have hcx := (hcel k hlt).kept hb
        unfold RecAt at hcx
        obtain ⟨c0, c1, c2, c3⟩ := hcx
        have HHIT : Hid ((L[k]'hlt).1 = on.data.toList → (L[k]'hlt).2.1 = ot → heldB L on.data.toList ot = true) := held_at k hlt
        have HOK : Hid (¬ ((L[k]'hlt).1 = on.data.toList ∧ (L[k]'hlt).2.1 = ot) → ∀ j, (hj : j < L.length) → j < k + 1 → ¬ (L[j].1 = on.data.toList ∧ L[j].2.1 = ot)) := fun h j hj h1 => by
          rcases Nat.lt_or_ge j k with h' | h'
          · exact HA.out j hj h'
          · obtain rfl : j = k := by omega
            exact h
        obtain ⟨x, hxe⟩ : ∃ x, x = L[k]'hlt := ⟨_, rfl⟩
        rw [← hxe] at c0 c1 c2 c3 HHIT HOK
        obtain ⟨xn, xt, xl, xd⟩ := x
        simp only at c0 c1 c2 c3 HHIT HOK
        have hbk := hb.alloc hb.size (.cells #[.string ⟨xn.toArray⟩, .int .i64 xt, .int .i64 xl, .string ⟨xd.toArray⟩] 108)
        clear hcel hxe
        by_cases hn : xn = on.data.toList
        · have e1 : (xn == on.toList) = true := by rw [ByteArray.toList_eq]; simpa using hn
          by_cases ht : xt = ot
          · have HR : Hid (heldB L on.data.toList ot = true) := HHIT.out hn ht
            clear HHIT HOK hn
            subst ht
            go_wp2_with fail
            go_ret
            exact ⟨ret_bool HR.out.symm, hbk⟩
          · have HR := HOK.out (fun h => ht h.2)
            have e2 : (xt == ot) = false := by simpa using ht
            clear HHIT HOK hn
            go_wp2_with fail
            go_roundw
            case rel => exact ⟨k + 1, by omega, by go_num, HR, hbk⟩
            case measure => simp [intOf]; omega
        · have HR := HOK.out (fun h => hn h.1)
          have e1 : (xn == on.toList) = false := by rw [ByteArray.toList_eq]; simpa using hn
          clear HHIT HOK hn
          go_wp2_with fail
          go_roundw
          case rel => exact ⟨k + 1, by omega, by go_num, HR, hbk⟩
          case measure => simp [intOf]; omega
    · have HR : Hid (heldB L on.data.toList ot = false) := held_none (fun j hj => HA.out j hj (by omega))
      go_wp2_with fail
      go_ret
      exact ⟨ret_bool HR.out.symm, hb⟩

end Go.Proofs.YtoobaaklklommaaGreatDoor

namespace Go.Proofs.YtoobaaklklommaaGreatDoor
open Go.RowKit

theorem zcut_step (L : List (List UInt8 × Int × Int × List UInt8)) (nm : List UInt8) (j : Nat) : zcutJ L nm (j + 1) = if heldB L (upAt nm j) 2 = true then some j else zcutJ L nm j := by
  unfold zcutJ
  rw [List.range_succ, List.filter_append]
  by_cases h : heldB L (upAt nm j) 2 = true
  · rw [if_pos h]
    have e : [j].filter (fun j => heldB L (upAt nm j) 2) = [j] := by simp [h]
    rw [e, List.getLast?_append]; simp
  · rw [if_neg h]
    have e : [j].filter (fun j => heldB L (upAt nm j) 2) = [] := by simp [h]
    rw [e, List.append_nil]
theorem up_zero (nm : List UInt8) : upAt nm 0 = nm := by unfold upAt; rw [List.drop_zero, joinD_labels]
theorem up_next {nm : List UInt8} (h : nameB nm = true) {j : Nat} (hj : j < (labelsOf nm).length) : parentL (upAt nm j) = upAt nm (j + 1) := parent_drop (name_plain h) j hj
theorem up_ne {ap nm : List UInt8} (h : nameB nm = true) {j : Nat} (hj : j < upN ap nm) : upAt nm j ≠ ap ∧ upAt nm j ≠ [] := by
  obtain ⟨_, _, u3⟩ := up_below h j
  unfold upN at hj
  refine ⟨fun e => ?_, fun e => ?_⟩
  · rw [e] at u3; omega
  · rw [e] at u3; have : (labelsOf ([] : List UInt8)).length = 0 := rfl; omega
theorem up_in {ap nm : List UInt8} (h : nameB nm = true) (ha : nameB ap = true) (hb : belowB nm ap = true) {j : Nat} (hj : j ≤ upN ap nm) : belowB (upAt nm j) ap = true := by
  obtain ⟨_, u2, u3⟩ := up_below h j
  have hl : labelsOf (upAt nm j) = (labelsOf nm).drop j := labels_join ((name_plain h).drop j)
  have hs : labelsOf ap <:+ labelsOf nm := List.reverse_prefix.1 ((below_iff h ha).1 hb)
  rw [below_iff u2 ha, List.reverse_prefix, hl]
  obtain ⟨t, ht⟩ := hs
  have hlen : (labelsOf nm).length = t.length + (labelsOf ap).length := by rw [← ht]; simp
  unfold upN at hj
  rw [← ht, List.drop_append_of_le_length (by omega)]
  exact List.suffix_append _ _
theorem up_end {ap nm : List UInt8} (h : nameB nm = true) (ha : nameB ap = true) (hb : belowB nm ap = true) : upAt nm (upN ap nm) = ap := (up_of h ha hb).1

/-- How long a text is. -/
def strLen : Value → Nat
  | .string b => b.size
  | _ => 0
theorem up_len {nm : List UInt8} (h : nameB nm = true) (j : Nat) : (upAt nm j).length ≤ 60 := (name_parts (up_below h j).2.1).2.1
/-- What l6Cut tells. -/
def cutV (nm : List UInt8) (o : Option Nat) : List UInt8 × Bool := ((o.map (upAt nm)).getD [], o.isSome)

set_option maxRecDepth 20000 in
set_option maxHeartbeats 2000000 in
theorem l6Cut_any (ap : ByteArray) (v : Value) (L : List (List UInt8 × Int × Int × List UInt8)) (nm : ByteArray) (w : World) (hr : RRow w v L) (hn : Hid (nameB nm.data.toList = true ∧ nameB ap.data.toList = true ∧ belowB nm.data.toList ap.data.toList = true)) :
    Calls Tryz.prog 154 #[.string ap, v, .string nm] w fun e w' => e = .returned (.tuple #[.string ⟨(cutV nm.data.toList (zcutJ L nm.data.toList (upN ap.data.toList nm.data.toList))).1.toArray⟩, .bool (cutV nm.data.toList (zcutJ L nm.data.toList (upN ap.data.toList nm.data.toList))).2]) ∧ Below w.heap.size w w' := by
  have HRR : Hid (∀ W, Below w.heap.size w W → RRow W v L) := fun W hW => hr.kept hW
  obtain ⟨a, cap, rfl, _⟩ := hr
  obtain ⟨n0, hn0⟩ : ∃ n0, n0 = nm.data.toList := ⟨_, rfl⟩
  obtain ⟨p0, hp0⟩ : ∃ p0, p0 = ap.data.toList := ⟨_, rfl⟩
  obtain rfl : nm = ⟨n0.toArray⟩ := data_eq hn0.symm
  obtain rfl : ap = ⟨p0.toArray⟩ := data_eq hp0.symm
  clear hn0 hp0
  have hn' : nameB n0 = true ∧ nameB p0 = true ∧ belowB n0 p0 = true := hn.out
  obtain ⟨hn1, hn2, hn3⟩ := hn'
  show Calls Tryz.prog 154 _ w fun e w' => e = .returned (.tuple #[.string ⟨(cutV n0 (zcutJ L n0 (upN p0 n0))).1.toArray⟩, .bool (cutV n0 (zcutJ L n0 (upN p0 n0))).2]) ∧ Below w.heap.size w w'
  have HLB : Hid (∀ j W, j ≤ upN p0 n0 → Calls Tryz.prog 153 #[.string ⟨(upAt n0 j).toArray⟩, .string ⟨p0.toArray⟩] W fun e w' => e = .returned (.bool true) ∧ w' = W) := fun j W hj => by
    have h := l1Below_any ⟨(upAt n0 j).toArray⟩ ⟨p0.toArray⟩ W (by rw [size_list]; have := up_len hn1 j; omega) (by rw [size_list]; have := (name_parts hn2).2.1; omega)
    have e : belowB (upAt n0 j) p0 = true := up_in hn1 hn2 hn3 hj
    rw [show (⟨(upAt n0 j).toArray⟩ : ByteArray).data.toList = upAt n0 j from rfl, show (⟨p0.toArray⟩ : ByteArray).data.toList = p0 from rfl, e] at h
    exact h
  have HHAS : Hid (∀ j W, Below w.heap.size w W → Calls Tryz.prog 129 #[.slice a L.length cap, .string ⟨(upAt n0 j).toArray⟩, .int .i64 2] W fun e w' => e = .returned (.bool (heldB L (upAt n0 j) 2)) ∧ Below W.heap.size W w') := fun j W hW => l6Has_any _ L ⟨(upAt n0 j).toArray⟩ 2 W (HRR.out W hW)
  have HPAR : Hid (∀ j W, j < upN p0 n0 → Calls Tryz.prog 186 #[.string ⟨(upAt n0 j).toArray⟩] W fun e w' => e = .returned (.string ⟨(upAt n0 (j + 1)).toArray⟩) ∧ w' = W) := fun j W hj => by
    have h := l1Parent_any ⟨(upAt n0 j).toArray⟩ W (by rw [size_list]; have := up_len hn1 j; omega)
    rw [show (⟨(upAt n0 j).toArray⟩ : ByteArray).data.toList = upAt n0 j from rfl, up_next hn1 (by unfold upN at hj; omega)] at h
    exact h
  have HEND : Hid (upAt n0 (upN p0 n0) = p0) := up_end hn1 hn2 hn3
  have HNE : Hid (∀ j, j < upN p0 n0 → upAt n0 j ≠ p0 ∧ upAt n0 j ≠ []) := fun j hj => up_ne hn1 hj
  have HSH : Hid (∀ j, j < upN p0 n0 → (upAt n0 (j + 1)).length < (upAt n0 j).length) := fun j hj => drop_shorter (name_plain hn1) j (by unfold upN at hj; omega)
  have HZ : Hid (∀ j, zcutJ L n0 (j + 1) = if heldB L (upAt n0 j) 2 = true then some j else zcutJ L n0 j) := fun j => zcut_step L n0 j
  have H0 : Hid (upAt n0 0 = n0) := up_zero n0
  obtain ⟨J, hJ⟩ : ∃ J, J = upN p0 n0 := ⟨_, rfl⟩
  rw [← hJ] at HLB HPAR HEND HNE HSH ⊢
  clear hJ hn hn1 hn2 hn3
  go_enter Tryz.func154, Tryz.ntmps154
  go_wp2_with fail
  go_loopw [2, 8, 9] (fun n f h wr => ∃ j : Nat, j ≤ J ∧ n = .string ⟨(upAt n0 j).toArray⟩ ∧ f = .string ⟨(cutV n0 (zcutJ L n0 j)).1.toArray⟩ ∧ h = .bool (cutV n0 (zcutJ L n0 j)).2 ∧ Below w.heap.size w wr) (fun n _ _ _ => strLen n)
  case atStart => exact ⟨0, Nat.zero_le _, by rw [H0.out], rfl, rfl, Below.refl _ _⟩
  case round =>
    obtain ⟨j, hj, rfl, rfl, rfl, hb⟩ := hrel
    by_cases hlt : j < J
    · have HN := HNE.out j hlt
      have HS := HSH.out j hlt
      have HC1 := HLB.out j
      have HC2 := HHAS.out j
      have HC3 := HPAR.out j
      have HZJ := HZ.out j
      obtain ⟨u, hu⟩ : ∃ u, u = upAt n0 j := ⟨_, rfl⟩
      obtain ⟨u2, hu2⟩ : ∃ u2, u2 = upAt n0 (j + 1) := ⟨_, rfl⟩
      rw [← hu] at HN HS HC1 HC2 HC3 HZJ ⊢
      rw [← hu2] at HS HC3
      have HU : Hid (upAt n0 j = u ∧ upAt n0 (j + 1) = u2) := ⟨hu.symm, hu2.symm⟩
      have HH1 : Hid (∀ W, Calls Tryz.prog 153 #[.string ⟨u.toArray⟩, .string ⟨p0.toArray⟩] W fun e w' => e = .returned (.bool true) ∧ w' = W) := fun W => HC1 W hj
      have HH2 : Hid (∀ W, Below w.heap.size w W → Calls Tryz.prog 129 #[.slice a L.length cap, .string ⟨u.toArray⟩, .int .i64 2] W fun e w' => e = .returned (.bool (heldB L u 2)) ∧ Below W.heap.size W w') := HC2
      have HH3 : Hid (∀ W, Calls Tryz.prog 186 #[.string ⟨u.toArray⟩] W fun e w' => e = .returned (.string ⟨u2.toArray⟩) ∧ w' = W) := fun W => HC3 W hlt
      have e1 : (u == p0) = false := by simpa using HN.1
      have e2 : (u == []) = false := by simpa using HN.2
      have e3 : u.isEmpty = false := by simpa using HN.2
      have n1 : ¬ u = p0 := HN.1
      have n2 : ¬ u = [] := HN.2
      clear hu hu2 HC1 HC2 HC3 HN
      cases hH : heldB L u 2 with
      | true =>
        have HR : Hid (zcutJ L n0 (j + 1) = some j) := by rw [HZJ, hH]; rfl
        rw [hH] at HH2
        clear HZJ hH
        go_wp2_with fail
        refine (HH1.out _).mono ?_
        rintro e wx ⟨rfl, rfl⟩
        go_wp2_with fail
        refine (HH2.out _ hb).mono ?_
        rintro e w2 ⟨rfl, hb2⟩
        go_wp2_with fail
        refine (HH3.out _).mono ?_
        rintro e wx ⟨rfl, rfl⟩
        go_wp2_with fail
        go_roundw
        case rel => exact ⟨j + 1, hlt, by rw [HU.out.2], by rw [HR.out]; show _ = Value.string ⟨(upAt n0 j).toArray⟩; rw [HU.out.1], by rw [HR.out]; rfl, hb.trans (hb2.mono hb.size)⟩
        case measure => show (⟨u2.toArray⟩ : ByteArray).size < (⟨u.toArray⟩ : ByteArray).size; rw [size_list, size_list]; exact HS
      | false =>
        have HR : Hid (zcutJ L n0 (j + 1) = zcutJ L n0 j) := by rw [HZJ, hH]; rfl
        rw [hH] at HH2
        clear HZJ hH
        go_wp2_with fail
        refine (HH1.out _).mono ?_
        rintro e wx ⟨rfl, rfl⟩
        go_wp2_with fail
        refine (HH2.out _ hb).mono ?_
        rintro e w2 ⟨rfl, hb2⟩
        go_wp2_with fail
        refine (HH3.out _).mono ?_
        rintro e wx ⟨rfl, rfl⟩
        go_wp2_with fail
        go_roundw
        case rel => exact ⟨j + 1, hlt, by rw [HU.out.2], by rw [HR.out], by rw [HR.out], hb.trans (hb2.mono hb.size)⟩
        case measure => show (⟨u2.toArray⟩ : ByteArray).size < (⟨u.toArray⟩ : ByteArray).size; rw [size_list, size_list]; exact HS
    · obtain rfl : j = J := by omega
      rw [HEND.out]
      go_wp2_with fail
      go_ret2
      exact ⟨rfl, hb⟩
end Go.Proofs.YtoobaaklklommaaGreatDoor
