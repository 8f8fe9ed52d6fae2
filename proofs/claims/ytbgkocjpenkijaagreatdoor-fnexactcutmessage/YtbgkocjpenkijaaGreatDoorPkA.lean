import Derived.Test.YtbgkocjpenkijaaGreatDoorSMsgN
namespace Go.Proofs.YtbgkocjpenkijaaGreatDoor
open Go.RowKit

/-- Names put one behind the other. -/
def pkR : List UInt8 → List (List UInt8) → Option (List UInt8)
  | b, [] => some b
  | b, s :: r => match putR b s with
    | none => none
    | some y => pkR y r
theorem pk_none {P : List (List UInt8)} {cur : List UInt8} {k : Nat} {R : Option (List UInt8)} (h : R = pkR cur (P.drop k)) (hk : k < P.length) (hp : putR cur P[k] = none) : R = none := by
  rw [h, List.drop_eq_getElem_cons hk, pkR, hp]
theorem pk_some {P : List (List UInt8)} {cur y : List UInt8} {k : Nat} {R : Option (List UInt8)} (h : R = pkR cur (P.drop k)) (hk : k < P.length) (hp : putR cur P[k] = some y) : R = pkR y (P.drop (k + 1)) := by
  rw [h, List.drop_eq_getElem_cons hk, pkR, hp]
theorem pk_end {P : List (List UInt8)} {cur : List UInt8} {k : Nat} {R : Option (List UInt8)} (h : R = pkR cur (P.drop k)) (hk : ¬ k < P.length) : R = some cur := by
  rw [h, List.drop_of_length_le (by omega), pkR]
theorem packAll_more : ∀ (P : List (List UInt8)) (b : List UInt8), b.length ≤ (packAll b P).length
  | [], b => by simp [packAll]
  | s :: r, b => by
    have h2 := packAll_more r (b ++ packed b s)
    rw [packAll]
    simp only [List.length_append] at h2
    omega
/-- Put one behind the other is packed, where it is not too long. -/
theorem pkR_all : ∀ (P : List (List UInt8)) (b : List UInt8), (∀ p ∈ P, nameB p = true) → b.length ≤ 600 → pkR b P = if (packAll b P).length ≤ 600 then some (packAll b P) else none
  | [], b, _, hb => by rw [pkR, packAll, if_pos hb]
  | s :: r, b, h, hb => by
    rw [pkR, packAll]
    have hm := packAll_more r (b ++ packed b s)
    rw [List.length_append] at hm
    by_cases hc : b.length + (packed b s).length ≤ 600
    · have e : putR b s = some (b ++ packed b s) := if_pos ⟨hb, h s (by simp), hc⟩
      rw [e]
      exact pkR_all r (b ++ packed b s) (fun p hp => h p (by simp [hp])) (by rw [List.length_append]; exact hc)
    · have e : putR b s = none := if_neg (fun hh => hc hh.2.2)
      rw [e, if_neg (by omega)]

set_option maxRecDepth 20000 in
set_option maxHeartbeats 1000000 in
theorem iPackAll_any (v : Value) (P : List (List UInt8)) (w : World) (hr : Row w v P) (hE : Env w) :
    Calls Tryz.prog 48 #[v] w fun e w' => e = putVal (pkR [] P) ∧ Below w.heap.size w w' := by
  obtain ⟨a, cap, rfl, hcap, hmax, HROW⟩ := row_value hr
  clear hr
  have HR0 : Hid (pkR [] P = pkR [] (P.drop 0)) := by rw [List.drop_zero]; exact rfl
  obtain ⟨R, hR⟩ : ∃ R, R = pkR [] P := ⟨_, rfl⟩
  rw [← hR] at HR0 ⊢
  clear hR
  go_enter Tryz.func48, Tryz.ntmps48
  go_wp2_with fail
  go_loopw [4, 11] (fun vb i wr => ∃ (k : Nat) (cur : List UInt8), k ≤ P.length ∧ i = .int .i64 (k : Int) ∧ vb = .string ⟨cur.toArray⟩ ∧ Hid (R = pkR cur (P.drop k)) ∧ Below w.heap.size w wr) (fun _ i _ => P.length - (intOf i).toNat)
  case atStart => exact ⟨0, [], Nat.zero_le _, rfl, rfl, HR0, Below.refl _ _⟩
  case round =>
    obtain ⟨k, cur, hk, rfl, rfl, HR, hb⟩ := hrel
    by_cases hlt : k < P.length
    · obtain ⟨b, o, ha, hbl, hc⟩ := HROW.out (by omega)
      rw [ha]
      have hcx := hc k hlt
      rw [← hb.cell (p := ⟨b, o + k, none⟩) hbl] at hcx
      have HNO : Hid (putR cur (P[k]'hlt) = none → R = none) := fun h => pk_none HR.out hlt h
      have HYES : Hid (∀ y, putR cur (P[k]'hlt) = some y → R = pkR y (P.drop (k + 1))) := fun y h => pk_some HR.out hlt h
      obtain ⟨x, hx⟩ : ∃ x, x = P[k]'hlt := ⟨_, rfl⟩
      rw [← hx] at hcx HNO HYES
      unfold S at hcx
      clear hc hx
      go_wp2_with fail
      refine (iPutName_any ⟨cur.toArray⟩ ⟨x.toArray⟩ _ (hE.below hb)).mono ?_
      rintro e w2 ⟨rfl, hb2⟩
      have hb02 := hb.trans (hb2.mono hb.size)
      rw [show (⟨cur.toArray⟩ : ByteArray).data.toList = cur from rfl, show (⟨x.toArray⟩ : ByteArray).data.toList = x from rfl]
      unfold putVal
      cases hR : putR cur x with
      | none =>
        have HN : Hid (R = none) := HNO.out hR
        clear hR
        go_wp2_with fail
        go_ret2
        exact ⟨put_none HN.out, hb02⟩
      | some y =>
        have HN : Hid (R = pkR y (P.drop (k + 1))) := HYES.out y hR
        clear hR
        rw [show (some y).getD [] = y from rfl, show (some y).isSome = true from rfl]
        go_wp2_with fail
        go_roundw
        case rel => exact ⟨k + 1, y, by omega, by go_num, rfl, HN, hb02⟩
        case measure => simp [intOf]; omega
    · have HN : Hid (R = some cur) := pk_end HR.out hlt
      go_wp2_with fail
      go_ret2
      exact ⟨put_some HN.out rfl, hb⟩
end Go.Proofs.YtbgkocjpenkijaaGreatDoor
