import Derived.Test.YtbgkocjpenkijaaGreatDoorCutX
import Derived.Test.YtbgkocjpenkijaaGreatDoorQMsg
namespace Go.Proofs.YtbgkocjpenkijaaGreatDoor
open Go.RowKit

/-- What the program's CutMessage tells. -/
def CutOwn (w' : World) (base : Nat) (R : Option (Bool × List (List UInt8 × Int × Int × List UInt8) × List (List UInt8 × Int × Int × List UInt8))) (mi code : Int) (nm : ByteArray) (ty : Int) (e : Ending) : Prop :=
  (R = none → MOwn w' base false 0 false false 0 ⟨#[]⟩ 0 [] [] e) ∧ ∀ c A U, R = some (c, A, U) → MOwn w' base true mi true c code nm ty A U e
theorem ownn {w' : World} {base : Nat} {R : Option (Bool × List (List UInt8 × Int × Int × List UInt8) × List (List UInt8 × Int × Int × List UInt8))} {mi code : Int} {nm : ByteArray} {ty : Int} (h : R = none) : CutOwn w' base R mi code nm ty (.returned (.tuple #[noMsg, .bool false])) :=
  ⟨fun _ => mown_no _ _, fun c A U h2 => by rw [h] at h2; cases h2⟩
theorem owny {w' : World} {base : Nat} {R : Option (Bool × List (List UInt8 × Int × Int × List UInt8) × List (List UInt8 × Int × Int × List UInt8))} {mi code : Int} {nm : ByteArray} {ty : Int} {c : Bool} {A U : List (List UInt8 × Int × Int × List UInt8)} {va vu : Value} (h : R = some (c, A, U)) (ha : OwnQ w' base va A) (hu : OwnQ w' base vu U) (hap : ∀ g, va.ownBlock = some g → vu.ownBlock ≠ some g) :
    CutOwn w' base R mi code nm ty (.returned (.tuple #[MsgV mi true c code nm ty va vu, .bool true])) :=
  ⟨fun h2 => (by rw [h] at h2; cases h2), fun c2 A2 U2 h2 => by
    rw [h] at h2
    simp only [Option.some.injEq, Prod.mk.injEq] at h2
    obtain ⟨rfl, rfl, rfl⟩ := h2
    exact ⟨va, vu, rfl, ha, hu, hap⟩⟩
theorem msgB_sub {mi : Int} {c c2 : Bool} {code : Int} {nm : List UInt8} {ty : Int} {A U A2 U2 : List (List UInt8 × Int × Int × List UInt8)} (h : msgB mi true c code nm ty A U = true) (hA : ∀ x ∈ A2, x ∈ A) (hU : ∀ x ∈ U2, x ∈ U) (la : A2.length ≤ A.length) (lu : U2.length ≤ U.length) : msgB mi true c2 code nm ty A2 U2 = true := by
  unfold msgB at h ⊢
  have sub : ∀ X Y : List (List UInt8 × Int × Int × List UInt8), (∀ x ∈ X, x ∈ Y) → X.length ≤ Y.length → recsB Y = true → recsB X = true := fun X Y h1 h2 h3 => by
    unfold recsB at h3 ⊢
    rw [Bool.and_eq_true] at h3 ⊢
    refine ⟨?_, ?_⟩
    · rw [List.all_eq_true] at *
      exact fun x hx => h3.1 x (h1 x hx)
    · have := of_decide_eq_true h3.2
      exact decide_eq_true (by omega)
  simp only [Bool.and_eq_true] at h ⊢
  exact ⟨h.1, h.2.1, h.2.2.1, h.2.2.2.1, sub _ _ hA la h.2.2.2.2.1, sub _ _ hU lu h.2.2.2.2.2.1, rfl⟩
theorem RRow.less {w : World} {a : Option Addr} {cap : Nat} {L : List (List UInt8 × Int × Int × List UInt8)} (h : RRow w (.slice a L.length cap) L) : RRow w (.slice a (lessL L).length cap) (lessL L) := by
  obtain ⟨a', cap', he, h1, h2, h3⟩ := h
  cases he
  have hl : (lessL L).length ≤ L.length := List.length_take_le' _ _
  refine ⟨a, cap, rfl, Nat.le_trans hl h1, h2, ?_⟩
  rcases h3 with h3 | ⟨b, o, rfl, hb, hr⟩
  · exact .inl (by rw [h3]; rfl)
  · refine .inr ⟨b, o, rfl, hb, fun j hj => ?_⟩
    have h4 := hr j (by omega)
    have e : (lessL L)[j] = L[j]'(by omega) := List.getElem_take
    rw [e]; exact h4
/-- Whether it fits is whether its bytes are few enough. -/
theorem fit_is {mi : Int} {c : Bool} {code : Int} {nm : List UInt8} {ty : Int} {A U : List (List UInt8 × Int × Int × List UInt8)} {size : Int} (h : msgB mi true c code nm ty A U = true) (hs : size ≤ 600) : fitB (mbI mi true c code nm ty A U) size = decide (((msgW mi true c code nm ty A U).length : Int) ≤ size) := by
  unfold mbI
  by_cases hn : (namW nm (A ++ U)).length ≤ 600
  · rw [if_pos ⟨h, hn⟩]; rfl
  · rw [if_neg (fun hh => hn hh.2)]
    have : (namW nm (A ++ U)).length ≤ (msgW mi true c code nm ty A U).length := by
      unfold msgW; simp only [List.length_append]; omega
    rw [decide_eq_false (by omega)]; rfl
theorem msgW_len {mi : Int} {reply c : Bool} {code : Int} {nm : List UInt8} {ty : Int} {A U : List (List UInt8 × Int × Int × List UInt8)} (h : GoodM mi reply c code nm ty A U) : (msgW mi reply c code nm ty A U).length ≤ 1000000 := by
  have h1 := namW_len (nm := nm) (L := A ++ U) h.name h.all
  have h2 := recsW_len (A ++ U) h.all
  have h3 := h.few
  have h4 := h.fewU
  unfold msgW
  simp only [List.length_append, beB_length] at h1 h2 ⊢
  omega
/-- The cutting, at the head of the program's loop. -/
structure CutJ (w0 : World) (mi code : Int) (nm : ByteArray) (ty size : Int) (R : Option (Bool × List (List UInt8 × Int × Int × List UInt8) × List (List UInt8 × Int × Int × List UInt8))) (aa au : Option Addr) (ca cu : Nat) (W : World) (c : Bool) (A U : List (List UInt8 × Int × Int × List UInt8)) : Prop where
  msg : W.heap[w0.heap.size]? = some (.cells #[.int .i64 mi, .bool true, .bool c, .int .i64 code, .string nm, .int .i64 ty, .slice aa A.length ca, .slice au U.length cu] 25)
  res : W.heap[w0.heap.size + 1]? = some (.cells #[.int .i64 0, .bool false, .bool false, .int .i64 0, .string ⟨#[]⟩, .int .i64 0, .slice none 0 0, .slice none 0 0] 25)
  below : Below w0.heap.size w0 W
  big : w0.heap.size + 2 ≤ W.heap.size
  row1 : RRow w0 (.slice aa A.length ca) A
  row2 : RRow w0 (.slice au U.length cu) U
  isgood : msgB mi true c code nm.data.toList ty A U = true
  going : GoC mi code nm.data.toList ty size R c A U
  small1 : ∀ x ∈ A, x.1.length ≤ 1048576 ∧ x.2.2.2.length ≤ 1048576
  small2 : ∀ x ∈ U, x.1.length ≤ 1048576 ∧ x.2.2.2.length ≤ 1048576
section
variable {w0 : World} {mi code : Int} {nm : ByteArray} {ty size : Int} {R : Option (Bool × List (List UInt8 × Int × Int × List UInt8) × List (List UInt8 × Int × Int × List UInt8))} {aa au : Option Addr} {ca cu : Nat} {W W2 : World} {c : Bool} {A U : List (List UInt8 × Int × Int × List UInt8)}
theorem CutJ.kept (h : CutJ w0 mi code nm ty size R aa au ca cu W c A U) (hb : Below W.heap.size W W2) : CutJ w0 mi code nm ty size R aa au ca cu W2 c A U :=
  ⟨(hb.block _ (by have := h.big; omega)).trans h.msg, (hb.block _ (by have := h.big; omega)).trans h.res, h.below.trans (hb.mono h.below.size), Nat.le_trans h.big hb.size, h.row1, h.row2, h.isgood, h.going, h.small1, h.small2⟩
theorem CutJ.auth (h : CutJ w0 mi code nm ty size R aa au ca cu W c A U) (hn : ¬ ((msgW mi true c code nm.data.toList ty A U).length : Int) ≤ size) (h1 : 0 < U.length) :
    CutJ w0 mi code nm ty size R aa au ca cu ((W.setCell ⟨w0.heap.size, 7, none⟩ (.slice au (lessL U).length cu)).setCell ⟨w0.heap.size, 2, none⟩ (.bool true)) true A (lessL U) := by
  have hz := h.big
  have K : Kpt W ((W.setCell ⟨w0.heap.size, 7, none⟩ (.slice au (lessL U).length cu)).setCell ⟨w0.heap.size, 2, none⟩ (.bool true)) (fun j => j = w0.heap.size) := (kpt_set _ _ _ _ (S := fun j => j = w0.heap.size) rfl).trans (kpt_set _ _ _ _ rfl)
  have hl : (lessL U).length ≤ U.length := List.length_take_le' _ _
  refine ⟨?_, (K.block _ (by omega) (by omega)).trans h.res, h.below.trans (K.below h.below.size (fun j hj => by omega)), Nat.le_trans hz K.size, h.row1, h.row2.less, msgB_sub h.isgood (fun x hx => hx) (fun x hx => lessL_mem hx) (Nat.le_refl _) hl, goC_auth h.going hn h1, h.small1, fun x hx => h.small2 x (lessL_mem hx)⟩
  have e1 := heap_setCell_same _ _ 7 _ _ (.slice au (lessL U).length cu) h.msg
  have e2 := heap_setCell_same _ _ 2 _ _ (.bool true) e1
  exact e2.trans (by rfl)
theorem CutJ.ans (h : CutJ w0 mi code nm ty size R aa au ca cu W c A U) (hn : ¬ ((msgW mi true c code nm.data.toList ty A U).length : Int) ≤ size) (h0 : ¬ 0 < U.length) (h1 : 0 < A.length) :
    CutJ w0 mi code nm ty size R aa au ca cu ((W.setCell ⟨w0.heap.size, 6, none⟩ (.slice aa (lessL A).length ca)).setCell ⟨w0.heap.size, 2, none⟩ (.bool true)) true (lessL A) U := by
  have hz := h.big
  have K : Kpt W ((W.setCell ⟨w0.heap.size, 6, none⟩ (.slice aa (lessL A).length ca)).setCell ⟨w0.heap.size, 2, none⟩ (.bool true)) (fun j => j = w0.heap.size) := (kpt_set _ _ _ _ (S := fun j => j = w0.heap.size) rfl).trans (kpt_set _ _ _ _ rfl)
  have hl : (lessL A).length ≤ A.length := List.length_take_le' _ _
  refine ⟨?_, (K.block _ (by omega) (by omega)).trans h.res, h.below.trans (K.below h.below.size (fun j hj => by omega)), Nat.le_trans hz K.size, h.row1.less, h.row2, msgB_sub h.isgood (fun x hx => lessL_mem hx) (fun x hx => hx) hl (Nat.le_refl _), goC_ans h.going hn h0 h1, fun x hx => h.small1 x (lessL_mem hx), h.small2⟩
  have e1 := heap_setCell_same _ _ 6 _ _ (.slice aa (lessL A).length ca) h.msg
  have e2 := heap_setCell_same _ _ 2 _ _ (.bool true) e1
  exact e2.trans (by rfl)
end

set_option maxRecDepth 20000 in
set_option maxHeartbeats 4000000 in
theorem iCutMessage_any (mi : Int) (reply cutm : Bool) (code : Int) (nm : ByteArray) (ty : Int) (va vu : Value) (A U : List (List UInt8 × Int × Int × List UInt8)) (size : Int) (w : World) (hn : nm.size ≤ 1048576) (ha : RRow w va A) (hu : RRow w vu U)
    (hxa : Hid (∀ x ∈ A, x.1.length ≤ 1048576 ∧ x.2.2.2.length ≤ 1048576)) (hxu : Hid (∀ x ∈ U, x.1.length ≤ 1048576 ∧ x.2.2.2.length ≤ 1048576)) (hna : ∀ n c, va = .slice none n c → c = 0) (hnu : ∀ n c, vu = .slice none n c → c = 0) (hE : EnvR w) :
    Calls Tryz.prog 11 #[MsgV mi reply cutm code nm ty va vu, .int .i64 size] w fun e w' => CutOwn w' w.heap.size (cutR mi reply cutm code nm.data.toList ty A U size) mi code nm ty e ∧ Below w.heap.size w w' := by
  have HG : Hid (∀ W, Below w.heap.size w W → Calls Tryz.prog 19 #[MsgV mi reply cutm code nm ty va vu] W fun e w' => e = .returned (.bool (msgB mi reply cutm code nm.data.toList ty A U)) ∧ Below W.heap.size W w') := fun W hW => iGoodMessage_any mi reply cutm code nm ty va vu A U W (ha.kept hW) (hu.kept hW) hxa hxu (hE.below hW)
  obtain ⟨aa, ca, hva, _, hca, _⟩ := id ha
  obtain ⟨au, cu, hvu, _, hcu, _⟩ := id hu
  subst hva
  subst hvu
  have HNA : Hid (∀ m n c, Value.slice aa m ca = .slice none n c → c = 0) := fun m n c h => by injection h with h1 h2 h3; exact hna A.length c (by rw [h1, h3])
  have HNU : Hid (∀ m n c, Value.slice au m cu = .slice none n c → c = 0) := fun m n c h => by injection h with h1 h2 h3; exact hnu U.length c (by rw [h1, h3])
  have HR1 : Hid (RRow w (.slice aa A.length ca) A) := ha
  have HR2 : Hid (RRow w (.slice au U.length cu) U) := hu
  obtain ⟨R, hR⟩ : ∃ R, R = cutR mi reply cutm code nm.data.toList ty A U size := ⟨_, rfl⟩
  rw [← hR]
  have HRR : Hid (R = cutR mi reply cutm code nm.data.toList ty A U size) := hR
  have hb0 : Below w.heap.size w ((w.alloc (.cells #[.int .i64 mi, .bool reply, .bool cutm, .int .i64 code, .string nm, .int .i64 ty, .slice aa A.length ca, .slice au U.length cu] 25)).alloc (.cells #[.int .i64 0, .bool false, .bool false, .int .i64 0, .string ⟨#[]⟩, .int .i64 0, .slice none 0 0, .slice none 0 0] 25)) := ((Below.refl w.heap.size w).alloc (Nat.le_refl _) _).alloc (by simp) _
  clear hR ha hu hna hnu
  by_cases g1 : size < 20
  · have HN : Hid (R = none) := by rw [HRR.out]; unfold cutR; exact if_neg (fun h => by omega)
    unfold MsgV
    go_enter Tryz.func11, Tryz.ntmps11
    go_wp2_with fail
    (try simp only [Exit.inBlock, Exit.then])
    refine bodyPost_ret (results_row_tmp rfl _ _ (w.heap.size + 1) 25 #[.int .i64 0, .bool false, .bool false, .int .i64 0, .string ⟨#[]⟩, .int .i64 0, .slice none 0 0, .slice none 0 0] (0, 0) _ (.bool false) rfl rfl ?_ Tryz.underlying25 rfl (by kernel_rfl)) rfl ⟨ownn HN.out, ?_⟩
    · rw [heap_alloc2_new]
    · exact hb0
  · by_cases g2 : (600 : Int) < size
    · have HN : Hid (R = none) := by rw [HRR.out]; unfold cutR; exact if_neg (fun h => by omega)
      unfold MsgV
      go_enter Tryz.func11, Tryz.ntmps11
      go_wp2_with fail
      (try simp only [Exit.inBlock, Exit.then])
      refine bodyPost_ret (results_row_tmp rfl _ _ (w.heap.size + 1) 25 #[.int .i64 0, .bool false, .bool false, .int .i64 0, .string ⟨#[]⟩, .int .i64 0, .slice none 0 0, .slice none 0 0] (0, 0) _ (.bool false) rfl rfl ?_ Tryz.underlying25 rfl (by kernel_rfl)) rfl ⟨ownn HN.out, ?_⟩
      · rw [heap_alloc2_new]
      · exact hb0
    · cases reply with
      | false =>
        have HN : Hid (R = none) := by rw [HRR.out]; unfold cutR; exact if_neg (fun h => by cases h.2.1)
        unfold MsgV
        go_enter Tryz.func11, Tryz.ntmps11
        go_wp2_with fail
        (try simp only [Exit.inBlock, Exit.then])
        refine bodyPost_ret (results_row_tmp rfl _ _ (w.heap.size + 1) 25 #[.int .i64 0, .bool false, .bool false, .int .i64 0, .string ⟨#[]⟩, .int .i64 0, .slice none 0 0, .slice none 0 0] (0, 0) _ (.bool false) rfl rfl ?_ Tryz.underlying25 rfl (by kernel_rfl)) rfl ⟨ownn HN.out, ?_⟩
        · rw [heap_alloc2_new]
        · exact hb0
      | true =>
        obtain ⟨ok, hok⟩ : ∃ ok, ok = msgB mi true cutm code nm.data.toList ty A U := ⟨_, rfl⟩
        have HOK : Hid (ok = msgB mi true cutm code nm.data.toList ty A U) := hok
        rw [← hok] at HG
        clear hok
        unfold MsgV at HG ⊢
        go_enter Tryz.func11, Tryz.ntmps11
        go_wp2_with fail
        refine (HG.out _ hb0).mono ?_
        rintro e w1 ⟨rfl, hb1⟩
        obtain ⟨hm, hr, hbw1⟩ := heaps2 hb1
        have hz1 : w.heap.size + 2 ≤ w1.heap.size := by have h := hb1.size; simpa using h
        cases ok with
        | false =>
          have HN : Hid (R = none) := by rw [HRR.out]; unfold cutR; exact if_neg (fun h => by rw [← HOK.out] at h; cases h.1)
          have HR : Hid (w1.heap[w.heap.size + 1]? = some (.cells #[.int .i64 0, .bool false, .bool false, .int .i64 0, .string ⟨#[]⟩, .int .i64 0, .slice none 0 0, .slice none 0 0] 25)) := hr
          obtain ⟨c0, c1, c2, c3, c4, c5, c6, c7⟩ := msg_cells hr
          obtain ⟨f0, f1, f2, f3, f4, f5, f6, f7⟩ := msg_frozen hr
          clear hm hr hb1
          go_wp2_with fail
          (try simp only [Exit.inBlock, Exit.then])
          refine bodyPost_ret (results_row_tmp rfl _ _ (w.heap.size + 1) 25 #[.int .i64 0, .bool false, .bool false, .int .i64 0, .string ⟨#[]⟩, .int .i64 0, .slice none 0 0, .slice none 0 0] (0, 0) _ (.bool false) rfl rfl ?_ Tryz.underlying25 rfl (by kernel_rfl)) rfl ⟨ownn HN.out, ?_⟩
          · exact put8_heap HR.out
          · exact put8_below hbw1 (Nat.le_succ _) _ _ _ _ _ _ _ _
        | true =>
          have HI0 : Hid (CutJ w mi code nm ty size R aa au ca cu w1 cutm A U) := ⟨hm, hr, hbw1, hz1, HR1.out, HR2.out, HOK.out.symm, ⟨A.length + U.length + 1, by omega, by rw [HRR.out]; unfold cutR; rw [if_pos ⟨HOK.out.symm, rfl, by omega, by omega⟩]⟩, hxa.out, hxu.out⟩
          clear hm hr hb1
          go_wp2_with fail
          go_loopw [23] (fun _ wr => ∃ (c : Bool) (A' U' : List (List UInt8 × Int × Int × List UInt8)), Hid (CutJ w mi code nm ty size R aa au ca cu wr c A' U')) (fun _ wr => lenAt wr w.heap.size 6 + lenAt wr w.heap.size 7)
          case atStart => exact ⟨_, _, _, HI0⟩
          case round =>
            obtain ⟨c, A', U', HI⟩ := hrel
            have HF0 : Calls Tryz.prog 36 #[MsgV mi true c code nm ty (.slice aa A'.length ca) (.slice au U'.length cu), .int .i64 size] wr fun e w' => e = .returned (.bool (fitB (mbI mi true c code nm.data.toList ty A' U') size)) ∧ Below wr.heap.size wr w' := fits_any mi true c code nm ty _ _ A' U' size wr (HI.out.row1.kept HI.out.below) (HI.out.row2.kept HI.out.below) (HNA.out _) (HNU.out _) HI.out.small1 HI.out.small2 (hE.below HI.out.below) (fun b hb => by
              unfold mbI at hb
              split at hb
              · cases hb
                have := msgW_len (goodM HI.out.isgood)
                omega
              · cases hb)
            rw [fit_is HI.out.isgood (by omega)] at HF0
            have hfA : A'.length ≤ 12 := (goodM HI.out.isgood).few
            have hfU : U'.length ≤ 12 := (goodM HI.out.isgood).fewU
            obtain ⟨fit, hfit⟩ : ∃ fit, fit = decide (((msgW mi true c code nm.data.toList ty A' U').length : Int) ≤ size) := ⟨_, rfl⟩
            rw [← hfit] at HF0
            have HF : Hid (Calls Tryz.prog 36 #[MsgV mi true c code nm ty (.slice aa A'.length ca) (.slice au U'.length cu), .int .i64 size] wr fun e w' => e = .returned (.bool fit) ∧ Below wr.heap.size wr w') := HF0
            have HFT : Hid (fit = decide (((msgW mi true c code nm.data.toList ty A' U').length : Int) ≤ size)) := hfit
            have HMS : Hid (lenAt wr w.heap.size 6 = A'.length ∧ lenAt wr w.heap.size 7 = U'.length) := ⟨lenAt_eq (msg_cells HI.out.msg).2.2.2.2.2.2.1, lenAt_eq (msg_cells HI.out.msg).2.2.2.2.2.2.2⟩
            unfold MsgV at HF
            obtain ⟨c0, c1, c2, c3, c4, c5, c6, c7⟩ := msg_cells HI.out.msg
            clear hfit HF0
            go_wp2_with fail
            refine HF.out.mono ?_
            rintro e w5 ⟨rfl, hb5⟩
            have HI5 : Hid (CutJ w mi code nm ty size R aa au ca cu w5 c A' U') := HI.out.kept hb5
            clear c0 c1 c2 c3 c4 c5 c6 c7 hb5 HF
            obtain ⟨c0, c1, c2, c3, c4, c5, c6, c7⟩ := msg_cells HI5.out.msg
            obtain ⟨g0, g1, g2, g3, g4, g5, g6, g7⟩ := msg_frozen HI5.out.msg
            cases fit with
            | true =>
              have HDN : Hid (R = some (c, A', U')) := goC_done HI5.out.going (of_decide_eq_true HFT.out.symm)
              have HCP : Hid (Calls Tryz.prog 38 #[MsgV mi true c code nm ty (.slice aa A'.length ca) (.slice au U'.length cu)] w5 fun e w' => (∃ va' vu', e = .returned (MsgV mi true c code nm ty va' vu') ∧ OwnQ w' w5.heap.size va' A' ∧ OwnQ w' w5.heap.size vu' U' ∧ ∀ g, va'.ownBlock = some g → vu'.ownBlock ≠ some g) ∧ Below w5.heap.size w5 w') := copyMessage_any mi true c code nm ty _ _ A' U' w5 hn (HI5.out.row1.kept HI5.out.below) (HI5.out.row2.kept HI5.out.below) (by omega) (by omega) HI5.out.small1 HI5.out.small2
              unfold MsgV at HCP
              go_wp2_with fail
              refine HCP.out.mono ?_
              rintro e w6 ⟨⟨va, vu, rfl, hoa, hou, hap⟩, hb6⟩
              obtain ⟨a1, k1, hva, _⟩ := hoa.shape
              obtain ⟨a2, k2, hvu, _⟩ := hou.shape
              subst hva hvu
              have HI6 : Hid (CutJ w mi code nm ty size R aa au ca cu w6 c A' U') := HI5.out.kept hb6
              have hz5 := HI5.out.big
              have HOA : Hid (OwnQ w6 w5.heap.size (.slice a1 A'.length k1) A') := hoa
              have HOU : Hid (OwnQ w6 w5.heap.size (.slice a2 U'.length k2) U') := hou
              have HAP : Hid (∀ g, (Value.slice a1 A'.length k1).ownBlock = some g → (Value.slice a2 U'.length k2).ownBlock ≠ some g) := hap
              clear c0 c1 c2 c3 c4 c5 c6 c7 g0 g1 g2 g3 g4 g5 g6 g7 hoa hou hap hb6 HCP
              obtain ⟨d0, d1, d2, d3, d4, d5, d6, d7⟩ := msg_cells HI6.out.res
              obtain ⟨f0, f1, f2, f3, f4, f5, f6, f7⟩ := msg_frozen HI6.out.res
              go_wp2_with fail
              (try simp only [Exit.inBlock, Exit.then])
              refine bodyPost_ret (results_row_tmp rfl _ _ (w.heap.size + 1) 25 #[.int .i64 mi, .bool true, .bool c, .int .i64 code, .string nm, .int .i64 ty, .slice a1 A'.length k1, .slice a2 U'.length k2] (0, 0) _ (.bool true) rfl rfl ?_ Tryz.underlying25 rfl (by kernel_rfl)) rfl ⟨owny HDN.out ?_ ?_ HAP.out, ?_⟩
              · exact put8_heap HI6.out.res
              · exact (HOA.out.kpt (kpt_put8 w6 (w.heap.size + 1) _ _ _ _ _ _ _ _ (S := fun k => k = w.heap.size + 1) rfl) (fun g hg h => by have h1 := HOA.out.lt g hg; omega)).base (by omega)
              · exact (HOU.out.kpt (kpt_put8 w6 (w.heap.size + 1) _ _ _ _ _ _ _ _ (S := fun k => k = w.heap.size + 1) rfl) (fun g hg h => by have h1 := HOU.out.lt g hg; omega)).base (by omega)
              · exact put8_below HI6.out.below (Nat.le_succ _) _ _ _ _ _ _ _ _
            | false =>
              have HNL : Hid (((msgW mi true c code nm.data.toList ty A' U').length : Int) ≤ size → False) := fun h => by
                have h2 := HFT.out
                rw [decide_eq_true h] at h2; cases h2
              by_cases hU : 0 < U'.length
              · have hUi : (0 : Int) < (U'.length : Int) := by omega
                have HLS : Hid (Calls Tryz.prog 37 #[.slice au U'.length cu] w5 fun e w' => e = .returned (.slice au (lessL U').length cu) ∧ Below w5.heap.size w5 w') := withoutLast_any au cu U' w5 (HI5.out.row2.kept HI5.out.below) hU (by omega)
                go_wp2_with fail
                refine HLS.out.mono ?_
                rintro e w6 ⟨rfl, hb6⟩
                have HI5b : Hid (CutJ w mi code nm ty size R aa au ca cu w6 c A' U') := HI5.out.kept hb6
                have HI6 : Hid (CutJ w mi code nm ty size R aa au ca cu ((w6.setCell ⟨w.heap.size, 7, none⟩ (.slice au (lessL U').length cu)).setCell ⟨w.heap.size, 2, none⟩ (.bool true)) true A' (lessL U')) := HI5b.out.auth HNL.out hU
                have HM6 : Hid (lenAt ((w6.setCell ⟨w.heap.size, 7, none⟩ (.slice au (lessL U').length cu)).setCell ⟨w.heap.size, 2, none⟩ (.bool true)) w.heap.size 6 + lenAt ((w6.setCell ⟨w.heap.size, 7, none⟩ (.slice au (lessL U').length cu)).setCell ⟨w.heap.size, 2, none⟩ (.bool true)) w.heap.size 7 < lenAt wr w.heap.size 6 + lenAt wr w.heap.size 7) := by
                  have h := msg_cells HI6.out.msg
                  have hl := lessL_lt hU
                  show _ < _
                  rw [HMS.out.1, HMS.out.2, lenAt_eq h.2.2.2.2.2.2.1, lenAt_eq h.2.2.2.2.2.2.2]; omega
                clear c0 c1 c2 c3 c4 c5 c6 c7 g0 g1 g2 g3 g4 g5 g6 g7 hb6 HLS
                obtain ⟨c0, c1, c2, c3, c4, c5, c6, c7⟩ := msg_cells HI5b.out.msg
                obtain ⟨g0, g1, g2, g3, g4, g5, g6, g7⟩ := msg_frozen HI5b.out.msg
                go_wp2_with fail
                go_roundw
                case rel => exact ⟨_, _, _, HI6⟩
                case measure => exact HM6.out
              · have hU0 : U'.length = 0 := by omega
                by_cases hA : 0 < A'.length
                · have hAi : (0 : Int) < (A'.length : Int) := by omega
                  have HLS : Hid (Calls Tryz.prog 37 #[.slice aa A'.length ca] w5 fun e w' => e = .returned (.slice aa (lessL A').length ca) ∧ Below w5.heap.size w5 w') := withoutLast_any aa ca A' w5 (HI5.out.row1.kept HI5.out.below) hA (by omega)
                  go_wp2_with fail
                  refine HLS.out.mono ?_
                  rintro e w6 ⟨rfl, hb6⟩
                  have HI5b : Hid (CutJ w mi code nm ty size R aa au ca cu w6 c A' U') := HI5.out.kept hb6
                  have HI6 : Hid (CutJ w mi code nm ty size R aa au ca cu ((w6.setCell ⟨w.heap.size, 6, none⟩ (.slice aa (lessL A').length ca)).setCell ⟨w.heap.size, 2, none⟩ (.bool true)) true (lessL A') U') := HI5b.out.ans HNL.out hU hA
                  have HM6 : Hid (lenAt ((w6.setCell ⟨w.heap.size, 6, none⟩ (.slice aa (lessL A').length ca)).setCell ⟨w.heap.size, 2, none⟩ (.bool true)) w.heap.size 6 + lenAt ((w6.setCell ⟨w.heap.size, 6, none⟩ (.slice aa (lessL A').length ca)).setCell ⟨w.heap.size, 2, none⟩ (.bool true)) w.heap.size 7 < lenAt wr w.heap.size 6 + lenAt wr w.heap.size 7) := by
                    have h := msg_cells HI6.out.msg
                    have hl := lessL_lt hA
                    show _ < _
                    rw [HMS.out.1, HMS.out.2, lenAt_eq h.2.2.2.2.2.2.1, lenAt_eq h.2.2.2.2.2.2.2]; omega
                  clear c0 c1 c2 c3 c4 c5 c6 c7 g0 g1 g2 g3 g4 g5 g6 g7 hb6 HLS
                  obtain ⟨c0, c1, c2, c3, c4, c5, c6, c7⟩ := msg_cells HI5b.out.msg
                  obtain ⟨g0, g1, g2, g3, g4, g5, g6, g7⟩ := msg_frozen HI5b.out.msg
                  go_wp2_with fail
                  go_roundw
                  case rel => exact ⟨_, _, _, HI6⟩
                  case measure => exact HM6.out
                · have hA0 : A'.length = 0 := by omega
                  have HN : Hid (R = none) := goC_none HI5.out.going HNL.out hU hA
                  obtain ⟨d0, d1, d2, d3, d4, d5, d6, d7⟩ := msg_cells HI5.out.res
                  obtain ⟨f0, f1, f2, f3, f4, f5, f6, f7⟩ := msg_frozen HI5.out.res
                  go_wp2_with fail
                  (try simp only [Exit.inBlock, Exit.then])
                  refine bodyPost_ret (results_row_tmp rfl _ _ (w.heap.size + 1) 25 #[.int .i64 0, .bool false, .bool false, .int .i64 0, .string ⟨#[]⟩, .int .i64 0, .slice none 0 0, .slice none 0 0] (0, 0) _ (.bool false) rfl rfl ?_ Tryz.underlying25 rfl (by kernel_rfl)) rfl ⟨ownn HN.out, ?_⟩
                  · exact put8_heap HI5.out.res
                  · exact put8_below HI5.out.below (Nat.le_succ _) _ _ _ _ _ _ _ _
end Go.Proofs.YtbgkocjpenkijaaGreatDoor
