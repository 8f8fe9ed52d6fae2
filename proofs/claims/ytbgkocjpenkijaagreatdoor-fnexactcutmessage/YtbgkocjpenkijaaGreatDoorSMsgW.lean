import Derived.Test.YtbgkocjpenkijaaGreatDoorSMsgWa
import Derived.Test.YtbgkocjpenkijaaGreatDoorSMsgWb
import Derived.Test.YtbgkocjpenkijaaGreatDoorSMsgWc
namespace Go.Proofs.YtbgkocjpenkijaaGreatDoor
open Go.RowKit

theorem l4Bytes_any (mi : Int) (reply cutm : Bool) (code : Int) (nm : ByteArray) (ty : Int) (va vu : Value) (A U : List (List UInt8 × Int × Int × List UInt8)) (w : World) (hG : GoodM mi reply cutm code nm.data.toList ty A U) (ha : RRow w va A) (hu : RRow w vu U)
    (HXD : Hid (∀ x ∈ A ++ U, x.2.2.2.length ≤ 1048576)) (hna : ∀ n c, va = .slice none n c → c = 0) (hnu : ∀ n c, vu = .slice none n c → c = 0) :
    Calls Tryz.prog 40 #[MsgV mi reply cutm code nm ty va vu] w fun e w' => e = .returned (.string ⟨(msgW mi reply cutm code nm.data.toList ty A U).toArray⟩) ∧ Below w.heap.size w w' := by
  cases reply with
  | true => cases cutm with
    | true => exact l4Bytes_tt mi code nm ty va vu A U w hG ha hu HXD hna hnu
    | false => exact l4Bytes_tf mi code nm ty va vu A U w hG ha hu HXD hna hnu
  | false => cases cutm with
    | true => exact absurd (hG.plain rfl) (by simp)
    | false => exact l4Bytes_ff mi code nm ty va vu A U w hG ha hu HXD hna hnu

/-- What MessageBytes tells. -/
def msgX (mi : Int) (reply cutm : Bool) (code : Int) (nm : List UInt8) (ty : Int) (A U : List (List UInt8 × Int × Int × List UInt8)) : List UInt8 := if msgB mi reply cutm code nm ty A U = true then msgW mi reply cutm code nm ty A U else []
def mbVal (mi : Int) (reply cutm : Bool) (code : Int) (nm : List UInt8) (ty : Int) (A U : List (List UInt8 × Int × Int × List UInt8)) : Value := .tuple #[.string ⟨(msgX mi reply cutm code nm ty A U).toArray⟩, .bool (msgB mi reply cutm code nm ty A U)]

set_option maxRecDepth 20000 in
set_option maxHeartbeats 2000000 in
theorem sMessageBytes_any (mi : Int) (reply cutm : Bool) (code : Int) (nm : ByteArray) (ty : Int) (va vu : Value) (A U : List (List UInt8 × Int × Int × List UInt8)) (w : World) (hn : nm.size ≤ 1048576) (ha : RRow w va A) (hu : RRow w vu U)
    (hxa : Hid (∀ x ∈ A, x.1.length ≤ 1048576 ∧ x.2.2.2.length ≤ 1048576)) (hxu : Hid (∀ x ∈ U, x.1.length ≤ 1048576 ∧ x.2.2.2.length ≤ 1048576)) (hna : ∀ n c, va = .slice none n c → c = 0) (hnu : ∀ n c, vu = .slice none n c → c = 0) :
    Calls Tryz.prog 21 #[MsgV mi reply cutm code nm ty va vu] w fun e w' => e = .returned (mbVal mi reply cutm code nm.data.toList ty A U) ∧ Below w.heap.size w w' := by
  have HG : Hid (∀ W, Below w.heap.size w W → Calls Tryz.prog 17 #[MsgV mi reply cutm code nm ty va vu] W fun e w' => e = .returned (.bool (msgB mi reply cutm code nm.data.toList ty A U)) ∧ Below W.heap.size W w') := fun W hW => sGoodMessage_any mi reply cutm code nm ty va vu A U W hn (ha.kept hW) (hu.kept hW) hxa hxu
  have HXD : Hid (∀ x ∈ A ++ U, x.2.2.2.length ≤ 1048576) := fun x hx => by
    rcases List.mem_append.1 hx with h | h
    · exact (hxa.out x h).2
    · exact (hxu.out x h).2
  have HB : Hid (∀ W, Below w.heap.size w W → msgB mi reply cutm code nm.data.toList ty A U = true → Calls Tryz.prog 40 #[MsgV mi reply cutm code nm ty va vu] W fun e w' => e = .returned (.string ⟨(msgW mi reply cutm code nm.data.toList ty A U).toArray⟩) ∧ Below W.heap.size W w') := fun W hW h => l4Bytes_any mi reply cutm code nm ty va vu A U W (goodM h) (ha.kept hW) (hu.kept hW) HXD hna hnu
  obtain ⟨aa, ca, hva, _, hca, _⟩ := id ha
  obtain ⟨au, cu, hvu, _, hcu, _⟩ := id hu
  subst hva
  subst hvu
  clear ha hu hna hnu HXD
  unfold mbVal
  cases hok : msgB mi reply cutm code nm.data.toList ty A U with
  | false =>
    have HX : Hid (msgX mi reply cutm code nm.data.toList ty A U = []) := if_neg (by rw [hok]; simp)
    rw [hok] at HG
    clear hok HB
    unfold MsgV at HG ⊢
    go_enter Tryz.func21, Tryz.ntmps21
    go_wp2_with fail
    refine (HG.out _ ((Below.refl w.heap.size w).alloc (Nat.le_refl _) _)).mono ?_
    rintro e w1 ⟨rfl, hb1⟩
    have hbw := (box8 hb1).2
    clear hb1
    go_wp2_with fail
    go_ret2
    exact ⟨ret_two (by rw [HX.out]; rfl) rfl, hbw⟩
  | true =>
    have HX : Hid (msgX mi reply cutm code nm.data.toList ty A U = msgW mi reply cutm code nm.data.toList ty A U) := if_pos hok
    have HB2 : Hid (∀ W, Below w.heap.size w W → Calls Tryz.prog 40 #[MsgV mi reply cutm code nm ty (.slice aa A.length ca) (.slice au U.length cu)] W fun e w' => e = .returned (.string ⟨(msgW mi reply cutm code nm.data.toList ty A U).toArray⟩) ∧ Below W.heap.size W w') := fun W hW => HB.out W hW hok
    rw [hok] at HG
    clear hok HB
    unfold MsgV at HG HB2 ⊢
    go_enter Tryz.func21, Tryz.ntmps21
    go_wp2_with fail
    refine (HG.out _ ((Below.refl w.heap.size w).alloc (Nat.le_refl _) _)).mono ?_
    rintro e w1 ⟨rfl, hb1⟩
    obtain ⟨⟨c0, c1, c2, c3, c4, c5, c6, c7⟩, hbw⟩ := box8 hb1
    clear hb1
    go_wp2_with fail
    refine (HB2.out _ hbw).mono ?_
    rintro e w2 ⟨rfl, hb2⟩
    go_wp2_with fail
    go_ret2
    exact ⟨ret_two (val_strM (x := ⟨(msgW mi reply cutm code nm.data.toList ty A U).toArray⟩) HX.out.symm) rfl, hbw.trans (hb2.mono hbw.size)⟩
end Go.Proofs.YtbgkocjpenkijaaGreatDoor
