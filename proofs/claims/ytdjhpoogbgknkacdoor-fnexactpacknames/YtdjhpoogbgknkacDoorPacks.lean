import Derived.Test.YtdjhpoogbgknkacDoorPutX
namespace Go.Proofs.YtdjhpoogbgknkacDoor
open Go.RowKit

/-- Names put one behind the other. -/
def pkR : List UInt8 → List (List UInt8) → Option (List UInt8)
  | b, [] => some b
  | b, s :: r => match putR b s with
    | none => none
    | some y => pkR y r
def packR (P : List (List UInt8)) : Option (List UInt8) := if P.length ≤ 20 then pkR [] P else none
theorem pk_none {P : List (List UInt8)} {cur : List UInt8} {k : Nat} {R : Option (List UInt8)} (h : R = pkR cur (P.drop k)) (hk : k < P.length) (hp : putR cur P[k] = none) : R = none := by
  rw [h, List.drop_eq_getElem_cons hk, pkR, hp]
theorem pk_some {P : List (List UInt8)} {cur y : List UInt8} {k : Nat} {R : Option (List UInt8)} (h : R = pkR cur (P.drop k)) (hk : k < P.length) (hp : putR cur P[k] = some y) : R = pkR y (P.drop (k + 1)) := by
  rw [h, List.drop_eq_getElem_cons hk, pkR, hp]
theorem pk_end {P : List (List UInt8)} {cur : List UInt8} {k : Nat} {R : Option (List UInt8)} (h : R = pkR cur (P.drop k)) (hk : ¬ k < P.length) : R = some cur := by
  rw [h, List.drop_of_length_le (by omega), pkR]

set_option maxRecDepth 20000 in
set_option maxHeartbeats 1000000 in
theorem iPackNames_any (v : Value) (P : List (List UInt8)) (w : World) (hr : Row w v P) (_hl : Hid (P.length + tot P ≤ 1048576)) (hE : Env w) :
    Calls Tryd.prog 11 #[v] w fun e w' => e = putVal (packR P) ∧ Below w.heap.size w w' := by
  obtain ⟨a, cap, rfl, hcap, hmax, HROW⟩ := row_value hr
  clear hr
  by_cases h20 : P.length ≤ 20
  · have HR0 : Hid (packR P = pkR [] (P.drop 0)) := by rw [List.drop_zero]; exact if_pos h20
    go_enter Tryd.func11, Tryd.ntmps11
    go_wp2_with fail
    go_loopw [4, 14] (fun vb i wr => ∃ (k : Nat) (cur : List UInt8), k ≤ P.length ∧ i = .int .i64 (k : Int) ∧ vb = .string ⟨cur.toArray⟩ ∧ Hid (packR P = pkR cur (P.drop k)) ∧ Below w.heap.size w wr) (fun _ i _ => P.length - (intOf i).toNat)
    case atStart => exact ⟨0, [], Nat.zero_le _, rfl, rfl, HR0, Below.refl _ _⟩
    case round =>
      obtain ⟨k, cur, hk, rfl, rfl, HR, hb⟩ := hrel
      by_cases hlt : k < P.length
      · obtain ⟨b, o, ha, hbl, hc⟩ := HROW.out (by omega)
        rw [ha]
        have hcx := hc k hlt
        rw [← hb.cell (p := ⟨b, o + k, none⟩) hbl] at hcx
        have HNO : Hid (putR cur (P[k]'hlt) = none → packR P = none) := fun h => pk_none HR.out hlt h
        have HYES : Hid (∀ y, putR cur (P[k]'hlt) = some y → packR P = pkR y (P.drop (k + 1))) := fun y h => pk_some HR.out hlt h
        obtain ⟨x, hx⟩ : ∃ x, x = P[k]'hlt := ⟨_, rfl⟩
        rw [← hx] at hcx HNO HYES
        unfold S at hcx
        clear hc hx
        go_wp2_with fail
        refine (iPutName_any ⟨cur.toArray⟩ ⟨x.toArray⟩ _ (hE.below hb)).mono ?_
        rintro e w2 ⟨rfl, hb2⟩
        have hb02 := hb.trans (hb2.mono hb.size)
        rw [show (⟨cur.toArray⟩ : ByteArray).data.toList = cur from rfl, show (⟨x.toArray⟩ : ByteArray).data.toList = x from rfl]
        unfold putVal
        cases hR : putR cur x with
        | none =>
          have HN : Hid (packR P = none) := HNO.out hR
          clear hR
          go_wp2_with fail
          go_ret2
          exact ⟨put_none HN.out, hb02⟩
        | some y =>
          have HN : Hid (packR P = pkR y (P.drop (k + 1))) := HYES.out y hR
          clear hR
          rw [show (some y).getD [] = y from rfl, show (some y).isSome = true from rfl]
          go_wp2_with fail
          go_roundw
          case rel => exact ⟨k + 1, y, by omega, by go_num, rfl, HN, hb02⟩
          case measure => simp [intOf]; omega
      · have HN : Hid (packR P = some cur) := pk_end HR.out hlt
        go_wp2_with fail
        go_ret2
        exact ⟨put_some HN.out rfl, hb⟩
  · have HN : Hid (packR P = none) := if_neg h20
    have g : (20 : Int) < (P.length : Int) := by omega
    go_enter Tryd.func11, Tryd.ntmps11
    go_wp2_with fail
    go_ret2
    exact ⟨put_none HN.out, Below.refl _ _⟩

set_option maxRecDepth 20000 in
set_option maxHeartbeats 1000000 in
theorem sPackNames_any (v : Value) (P : List (List UInt8)) (w : World) (hr : Row w v P) (hl : Hid (P.length + tot P ≤ 1048576)) :
    Calls Tryd.prog 9 #[v] w fun e w' => e = putVal (packR P) ∧ Below w.heap.size w w' := by
  obtain ⟨a, cap, rfl, hcap, hmax, HROW⟩ := row_value hr
  clear hr
  by_cases h20 : P.length ≤ 20
  · have HR0 : Hid (packR P = pkR [] (P.drop 0)) := by rw [List.drop_zero]; exact if_pos h20
    go_enter Tryd.func9, Tryd.ntmps9
    go_wp2_with fail
    go_loopw [4, 14] (fun vb i wr => ∃ (k : Nat) (cur : List UInt8), k ≤ P.length ∧ i = .int .i64 (k : Int) ∧ vb = .string ⟨cur.toArray⟩ ∧ Hid (packR P = pkR cur (P.drop k)) ∧ Below w.heap.size w wr) (fun _ i _ => P.length - (intOf i).toNat)
    case atStart => exact ⟨0, [], Nat.zero_le _, rfl, rfl, HR0, Below.refl _ _⟩
    case round =>
      obtain ⟨k, cur, hk, rfl, rfl, HR, hb⟩ := hrel
      by_cases hlt : k < P.length
      · obtain ⟨b, o, ha, hbl, hc⟩ := HROW.out (by omega)
        rw [ha]
        have hcx := hc k hlt
        rw [← hb.cell (p := ⟨b, o + k, none⟩) hbl] at hcx
        have HNO : Hid (putR cur (P[k]'hlt) = none → packR P = none) := fun h => pk_none HR.out hlt h
        have HYES : Hid (∀ y, putR cur (P[k]'hlt) = some y → packR P = pkR y (P.drop (k + 1))) := fun y h => pk_some HR.out hlt h
        have hxl : (⟨(P[k]'hlt).toArray⟩ : ByteArray).size ≤ 4294967280 := by
          have h1 := tot_one (List.getElem_mem hlt)
          have h2 := hl.out
          rw [size_list]; omega
        obtain ⟨x, hx⟩ : ∃ x, x = P[k]'hlt := ⟨_, rfl⟩
        rw [← hx] at hcx HNO HYES hxl
        unfold S at hcx
        clear hc hx
        go_wp2_with fail
        refine (sPutName_any ⟨cur.toArray⟩ ⟨x.toArray⟩ _ hxl).mono ?_
        rintro e w2 ⟨rfl, hb2⟩
        have hb02 := hb.trans (hb2.mono hb.size)
        rw [show (⟨cur.toArray⟩ : ByteArray).data.toList = cur from rfl, show (⟨x.toArray⟩ : ByteArray).data.toList = x from rfl]
        unfold putVal
        cases hR : putR cur x with
        | none =>
          have HN : Hid (packR P = none) := HNO.out hR
          clear hR
          go_wp2_with fail
          go_ret2
          exact ⟨put_none HN.out, hb02⟩
        | some y =>
          have HN : Hid (packR P = pkR y (P.drop (k + 1))) := HYES.out y hR
          clear hR
          rw [show (some y).getD [] = y from rfl, show (some y).isSome = true from rfl]
          go_wp2_with fail
          go_roundw
          case rel => exact ⟨k + 1, y, by omega, by go_num, rfl, HN, hb02⟩
          case measure => simp [intOf]; omega
      · have HN : Hid (packR P = some cur) := pk_end HR.out hlt
        go_wp2_with fail
        go_ret2
        exact ⟨put_some HN.out rfl, hb⟩
  · have HN : Hid (packR P = none) := if_neg h20
    have g : (20 : Int) < (P.length : Int) := by omega
    go_enter Tryd.func9, Tryd.ntmps9
    go_wp2_with fail
    go_ret2
    exact ⟨put_none HN.out, Below.refl _ _⟩
end Go.Proofs.YtdjhpoogbgknkacDoor
