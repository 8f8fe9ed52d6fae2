import Derived.Test.YtpghpeombednkaaGreatDoorZ38
import Derived.Test.YtpghpeombednkaaGreatDoorZ35
import Derived.Test.YtpghpeombednkaaGreatDoorZ30
import Derived.Test.YtpghpeombednkaaGreatDoorZ26
import Derived.Test.YtpghpeombednkaaGreatDoorZ10
namespace Go.Proofs.YtpghpeombednkaaGreatDoor
open Go.RowKit

/-- What the program's CutMessage tells. -/
def CutOwn (w' : World) (base : Nat) (R : Option (Bool × List (List UInt8 × Int × Int × List UInt8) × List (List UInt8 × Int × Int × List UInt8))) (mi code : Int) (nm : ByteArray) (ty : Int) (e : Ending) : Prop :=
  (R = none → MOwn w' base false 0 false false 0 ⟨#[]⟩ 0 [] [] e) ∧ ∀ c A U, R = some (c, A, U) → MOwn w' base true mi true c code nm ty A U e
theorem ownn {w' : World} {base : Nat} {R : Option (Bool × List (List UInt8 × Int × Int × List UInt8) × List (List UInt8 × Int × Int × List UInt8))} {mi code : Int} {nm : ByteArray} {ty : Int} (h : R = none) : CutOwn w' base R mi code nm ty (.returned (.tuple #[noMsg, .bool false])) :=
  ⟨fun _ => mown_no _ _, fun c A U h2 => by rw [h] at h2; cases h2⟩
theorem owny {w' : World} {base : Nat} {R : Option (Bool × List (List UInt8 × Int × Int × List UInt8) × List (List UInt8 × Int × Int × List UInt8))} {mi code : Int} {nm : ByteArray} {ty : Int} {c : Bool} {A U : List (List UInt8 × Int × Int × List UInt8)} {va vu : Value} (h : R = some (c, A, U)) (ha : OwnQ w' base va A) (hu : OwnQ w' base vu U) (hap : ∀ g, va.ownBlock = some g → vu.ownBlock ≠ some g) :
    CutOwn w' base R mi code nm ty (.returned (.tuple #[MsgV mi true c code nm ty va vu, .bool true])) :=
  ⟨fun h2 => (by rw [h] at h2; cases h2), fun c2 A2 U2 h2 => by
    rw [h] at h2
    simp only [Option.some.injEq, Prod.mk.injEq] at h2
    obtain ⟨rfl, rfl, rfl⟩ := h2
    exact ⟨va, vu, rfl, ha, hu, hap⟩⟩
theorem msgB_sub {mi : Int} {c c2 : Bool} {code : Int} {nm : List UInt8} {ty : Int} {A U A2 U2 : List (List UInt8 × Int × Int × List UInt8)} (h : msgB mi true c code nm ty A U = true) (hA : ∀ x ∈ A2, x ∈ A) (hU : ∀ x ∈ U2, x ∈ U) (la : A2.length ≤ A.length) (lu : U2.length ≤ U.length) : msgB mi true c2 code nm ty A2 U2 = true := by
  unfold msgB at h ⊢
  have sub : ∀ X Y : List (List UInt8 × Int × Int × List UInt8), (∀ x ∈ X, x ∈ Y) → X.length ≤ Y.length → recsB Y = true → recsB X = true := fun X Y h1 h2 h3 => by
    unfold recsB at h3 ⊢
    rw [Bool.and_eq_true] at h3 ⊢
    refine ⟨?_, ?_⟩
    · rw [List.all_eq_true] at *
      exact fun x hx => h3.1 x (h1 x hx)
    · have := of_decide_eq_true h3.2
      exact decide_eq_true (by omega)
  simp only [Bool.and_eq_true] at h ⊢
  exact ⟨h.1, h.2.1, h.2.2.1, h.2.2.2.1, sub _ _ hA la h.2.2.2.2.1, sub _ _ hU lu h.2.2.2.2.2.1, rfl⟩
theorem RRow.less {w : World} {a : Option Addr} {cap : Nat} {L : List (List UInt8 × Int × Int × List UInt8)} (h : RRow w (.slice a L.length cap) L) : RRow w (.slice a (lessL L).length cap) (lessL L) := by
  obtain ⟨a', cap', he, h1, h2, h3⟩ := h
  cases he
  have hl : (lessL L).length ≤ L.length := List.length_take_le' _ _
  refine ⟨a, cap, rfl, Nat.le_trans hl h1, h2, ?_⟩
  rcases h3 with h3 | ⟨b, o, rfl, hb, hr⟩
  · exact .inl (by rw [h3]; rfl)
  · refine .inr ⟨b, o, rfl, hb, fun j hj => ?_⟩
    have h4 := hr j (by omega)
    have e : (lessL L)[j] = L[j]'(by omega) := List.getElem_take
    rw [e]; exact h4
/-- Whether it fits is whether its bytes are few enough. -/
theorem fit_is {mi : Int} {c : Bool} {code : Int} {nm : List UInt8} {ty : Int} {A U : List (List UInt8 × Int × Int × List UInt8)} {size : Int} (h : msgB mi true c code nm ty A U = true) (_hs : size ≤ 600) : fitB (mbI mi true c code nm ty A U) size = decide (((msgW mi true c code nm ty A U).length : Int) ≤ size) := by
  unfold mbI fitB
  rw [if_pos h]; rfl
theorem msgW_len {mi : Int} {reply c : Bool} {code : Int} {nm : List UInt8} {ty : Int} {A U : List (List UInt8 × Int × Int × List UInt8)} (h : GoodM mi reply c code nm ty A U) : (msgW mi reply c code nm ty A U).length ≤ 1000000 := by
  have h1 := namW_len (nm := nm) (L := A ++ U) h.name h.all
  have h2 := recsW_len (A ++ U) h.all
  have h3 := h.few
  have h4 := h.fewU
  unfold msgW
  simp only [List.length_append, beB_length] at h1 h2 ⊢
  omega
/-- The cutting, at the head of the program's loop. -/
structure CutJ (w0 : World) (mi code : Int) (nm : ByteArray) (ty size : Int) (R : Option (Bool × List (List UInt8 × Int × Int × List UInt8) × List (List UInt8 × Int × Int × List UInt8))) (aa au : Option Addr) (ca cu : Nat) (W : World) (c : Bool) (A U : List (List UInt8 × Int × Int × List UInt8)) : Prop where
  msg : W.heap[w0.heap.size]? = some (.cells #[.int .i64 mi, .bool true, .bool c, .int .i64 code, .string nm, .int .i64 ty, .slice aa A.length ca, .slice au U.length cu] 25)
  res : W.heap[w0.heap.size + 1]? = some (.cells #[.int .i64 0, .bool false, .bool false, .int .i64 0, .string ⟨#[]⟩, .int .i64 0, .slice none 0 0, .slice none 0 0] 25)
  below : Below w0.heap.size w0 W
  big : w0.heap.size + 2 ≤ W.heap.size
  row1 : RRow w0 (.slice aa A.length ca) A
  row2 : RRow w0 (.slice au U.length cu) U
  isgood : msgB mi true c code nm.data.toList ty A U = true
  going : GoC mi code nm.data.toList ty size R c A U
  small1 : ∀ x ∈ A, x.1.length ≤ 1048576 ∧ x.2.2.2.length ≤ 1048576
  small2 : ∀ x ∈ U, x.1.length ≤ 1048576 ∧ x.2.2.2.length ≤ 1048576
section
variable {w0 : World} {mi code : Int} {nm : ByteArray} {ty size : Int} {R : Option (Bool × List (List UInt8 × Int × Int × List UInt8) × List (List UInt8 × Int × Int × List UInt8))} {aa au : Option Addr} {ca cu : Nat} {W W2 : World} {c : Bool} {A U : List (List UInt8 × Int × Int × List UInt8)}
theorem CutJ.kept (h : CutJ w0 mi code nm ty size R aa au ca cu W c A U) (hb : Below W.heap.size W W2) : CutJ w0 mi code nm ty size R aa au ca cu W2 c A U :=
  ⟨(hb.block _ (by have := h.big; omega)).trans h.msg, (hb.block _ (by have := h.big; omega)).trans h.res, h.below.trans (hb.mono h.below.size), Nat.le_trans h.big hb.size, h.row1, h.row2, h.isgood, h.going, h.small1, h.small2⟩
theorem CutJ.auth (h : CutJ w0 mi code nm ty size R aa au ca cu W c A U) (hn : ¬ ((msgW mi true c code nm.data.toList ty A U).length : Int) ≤ size) (h1 : 0 < U.length) :
    CutJ w0 mi code nm ty size R aa au ca cu ((W.setCell ⟨w0.heap.size, 7, none⟩ (.slice au (lessL U).length cu)).setCell ⟨w0.heap.size, 2, none⟩ (.bool true)) true A (lessL U) := by
  have hz := h.big
  have K : Kpt W ((W.setCell ⟨w0.heap.size, 7, none⟩ (.slice au (lessL U).length cu)).setCell ⟨w0.heap.size, 2, none⟩ (.bool true)) (fun j => j = w0.heap.size) := (kpt_set _ _ _ _ (S := fun j => j = w0.heap.size) rfl).trans (kpt_set _ _ _ _ rfl)
  have hl : (lessL U).length ≤ U.length := List.length_take_le' _ _
  refine ⟨?_, (K.block _ (by omega) (by omega)).trans h.res, h.below.trans (K.below h.below.size (fun j hj => by omega)), Nat.le_trans hz K.size, h.row1, h.row2.less, msgB_sub h.isgood (fun x hx => hx) (fun x hx => lessL_mem hx) (Nat.le_refl _) hl, goC_auth h.going hn h1, h.small1, fun x hx => h.small2 x (lessL_mem hx)⟩
  have e1 := heap_setCell_same _ _ 7 _ _ (.slice au (lessL U).length cu) h.msg
  have e2 := heap_setCell_same _ _ 2 _ _ (.bool true) e1
  exact e2.trans (by rfl)
theorem CutJ.ans (h : CutJ w0 mi code nm ty size R aa au ca cu W c A U) (hn : ¬ ((msgW mi true c code nm.data.toList ty A U).length : Int) ≤ size) (h0 : ¬ 0 < U.length) (h1 : 0 < A.length) :
    CutJ w0 mi code nm ty size R aa au ca cu ((W.setCell ⟨w0.heap.size, 6, none⟩ (.slice aa (lessL A).length ca)).setCell ⟨w0.heap.size, 2, none⟩ (.bool true)) true (lessL A) U := by
  have hz := h.big
  have K : Kpt W ((W.setCell ⟨w0.heap.size, 6, none⟩ (.slice aa (lessL A).length ca)).setCell ⟨w0.heap.size, 2, none⟩ (.bool true)) (fun j => j = w0.heap.size) := (kpt_set _ _ _ _ (S := fun j => j = w0.heap.size) rfl).trans (kpt_set _ _ _ _ rfl)
  have hl : (lessL A).length ≤ A.length := List.length_take_le' _ _
  refine ⟨?_, (K.block _ (by omega) (by omega)).trans h.res, h.below.trans (K.below h.below.size (fun j hj => by omega)), Nat.le_trans hz K.size, h.row1.less, h.row2, msgB_sub h.isgood (fun x hx => lessL_mem hx) (fun x hx => hx) hl (Nat.le_refl _), goC_ans h.going hn h0 h1, fun x hx => h.small1 x (lessL_mem hx), h.small2⟩
  have e1 := heap_setCell_same _ _ 6 _ _ (.slice aa (lessL A).length ca) h.msg
  have e2 := heap_setCell_same _ _ 2 _ _ (.bool true) e1
  exact e2.trans (by rfl)
end

set_option maxRecDepth 20000 in
set_option maxHeartbeats 4000000 in
theorem iCutMessage_any (mi : Int) (reply cutm : Bool) (code : Int) (nm : ByteArray) (ty : Int) (va vu : Value) (A U : List (List UInt8 × Int × Int × List UInt8)) (size : Int) (w : World) (hn : nm.size ≤ 1048576) (ha : RRow w va A) (hu : RRow w vu U)
    (hxa : Hid (∀ x ∈ A, x.1.length ≤ 1048576 ∧ x.2.2.2.length ≤ 1048576)) (hxu : Hid (∀ x ∈ U, x.1.length ≤ 1048576 ∧ x.2.2.2.length ≤ 1048576)) (hna : ∀ n c, va = .slice none n c → c = 0) (hnu : ∀ n c, vu = .slice none n c → c = 0) (hE : EnvR w) :
    Calls Tryz.prog 8 #[MsgV mi reply cutm code nm ty va vu, .int .i64 size] w fun e w' => CutOwn w' w.heap.size (cutR mi reply cutm code nm.data.toList ty A U size) mi code nm ty e ∧ Below w.heap.size w w' := by
  have HG : Hid (∀ W, Below w.heap.size w W → Calls Tryz.prog 26 #[MsgV mi reply cutm code nm ty va vu] W fun e w' => e = .returned (.bool (msgB mi reply cutm code nm.data.toList ty A U)) ∧ Below W.heap.size W w') := fun W hW => iGoodMessage_any mi reply cutm code nm ty va vu A U W (ha.kept hW) (hu.kept hW) hxa hxu (hE.below hW)
  obtain ⟨aa, ca, hva, _, hca, _⟩ := id ha
  obtain ⟨au, cu, hvu, _, hcu, _⟩ := id hu
  subst hva
  subst hvu
  have HNA : Hid (∀ m n c, Value.slice aa m ca = .slice none n c → c = 0) := fun m n c h => by injection h with h1 h2 h3; exact hna A.length c (by rw [h1, h3])
  have HNU : Hid (∀ m n c, Value.slice au m cu = .slice none n c → c = 0) := fun m n c h => by injection h with h1 h2 h3; exact hnu U.length c (by rw [h1, h3])
  have HR1 : Hid (RRow w (.slice aa A.length ca) A) := ha
  have HR2 : Hid (RRow w (.slice au U.length cu) U) := hu
  obtain ⟨R, hR⟩ : ∃ R, R = cutR mi reply cutm code nm.data.toList ty A U size := ⟨_, rfl⟩
  rw [← hR]
  have HRR : Hid (R = cutR mi reply cutm code nm.data.toList ty A U size) := hR
  have hb0 : Below w.heap.size w ((w.alloc (.cells #[.int .i64 mi, .bool reply, .bool cutm, .int .i64 code, .string nm, .int .i64 ty, .slice aa A.length ca, .slice au U.length cu] 25)).alloc (.cells #[.int .i64 0, .bool false, .bool false, .int .i64 0, .string ⟨#[]⟩, .int .i64 0, .slice none 0 0, .slice none 0 0] 25)) := ((Below.refl w.heap.size w).alloc (Nat.le_refl _) _).alloc (by simp) _
  clear hR ha hu hna hnu
  by_cases g1 : size < 20
  · have HN : Hid (R = none) := by rw [HRR.out]; unfold cutR; exact if_neg (fun h => by omega)
    unfold MsgV
    go_enter Tryz.func8, Tryz.ntmps8
    go_wp2_with fail
    (try simp only [Exit.inBlock, Exit.then])
    refine bodyPost_ret (results_row_tmp rfl _ _ (w.heap.size + 1) 25 #[.int .i64 0, .bool false, .bool false, .int .i64 0, .string ⟨#[]⟩, .int .i64 0, .slice none 0 0, .slice none 0 0] (0, 0) _ (.bool false) rfl rfl ?_ Tryz.underlying25 rfl (by kernel_rfl)) rfl ⟨ownn HN.out, ?_⟩
    · rw [heap_alloc2_new]
    · exact hb0
  · by_cases g2 : (600 : Int) < size
    · have HN : Hid (R = none) := by rw [HRR.out]; unfold cutR; exact if_neg (fun h => by omega)
      unfold MsgV
      go_enter Tryz.func8, Tryz.ntmps8
      go_wp2_with fail
      (try simp only [Exit.inBlock, Exit.then])
      refine bodyPost_ret (results_row_tmp rfl _ _ (w.heap.size + 1) 25 #[.int .i64 0, .bool false, .bool false, .int .i64 0, .string ⟨#[]⟩, .int .i64 0, .slice none 0 0, .slice none 0 0] (0, 0) _ (.bool false) rfl rfl ?_ Tryz.underlying25 rfl (by kernel_rfl)) rfl ⟨ownn HN.out, ?_⟩
      · rw [heap_alloc2_new]
      · exact hb0
    · cases reply with
      | false =>
        have HN : Hid (R = none) := by rw [HRR.out]; unfold cutR; exact if_neg (fun h => by cases h.2.1)
        unfold MsgV
        go_enter Tryz.func8, Tryz.ntmps8
        go_wp2_with fail
        (try simp only [Exit.inBlock, Exit.then])
        refine bodyPost_ret (results_row_tmp rfl _ _ (w.heap.size + 1) 25 #[.int .i64 0, .bool false, .bool false, .int .i64 0, .string ⟨#[]⟩, .int .i64 0, .slice none 0 0, .slice none 0 0] (0, 0) _ (.bool false) rfl rfl ?_ Tryz.underlying25 rfl (by kernel_rfl)) rfl ⟨ownn HN.out, ?_⟩
        · rw [heap_alloc2_new]
        · exact hb0
      | true =>
        obtain ⟨ok, hok⟩ : ∃ ok, ok = msgB mi true cutm code nm.data.toList ty A U := ⟨_, rfl⟩
        have HOK : Hid (ok = msgB mi true cutm code nm.data.toList ty A U) := hok
        rw [← hok] at HG
        clear hok
        unfold MsgV at HG ⊢
        go_enter Tryz.func8, Tryz.ntmps8
        go_wp2_with fail
        refine (HG.out _ hb0).mono ?_
        rintro e w1 ⟨rfl, hb1⟩
        obtain ⟨hm, hr, hbw1⟩ := heaps2 hb1
        have hz1 : w.heap.size + 2 ≤ w1.heap.size := by have h := hb1.size; simpa using h
        cases ok with
        | false =>
          have HN : Hid (R = none) := by rw [HRR.out]; unfold cutR; exact if_neg (fun h => by rw [← HOK.out] at h; cases h.1)
          have HR : Hid (w1.heap[w.heap.size + 1]? = some (.cells #[.int .i64 0, .bool false, .bool false, .int .i64 0, .string ⟨#[]⟩, .int .i64 0, .slice none 0 0, .slice none 0 0] 25)) := hr
          obtain ⟨c0, c1, c2, c3, c4, c5, c6, c7⟩ := msg_cells hr
          obtain ⟨f0, f1, f2, f3, f4, f5, f6, f7⟩ := msg_frozen hr
          clear hm hr hb1
          go_wp2_with fail
          (try simp only [Exit.inBlock, Exit.then])
          refine bodyPost_ret (results_row_tmp rfl _ _ (w.heap.size + 1) 25 #[.int .i64 0, .bool false, .bool false, .int .i64 0, .string ⟨#[]⟩, .int .i64 0, .slice none 0 0, .slice none 0 0] (0, 0) _ (.bool false) rfl rfl ?_ Tryz.underlying25 rfl (by kernel_rfl)) rfl ⟨ownn HN.out, ?_⟩
          · exact put8_heap HR.out
          · exact put8_below hbw1 (Nat.le_succ _) _ _ _ _ _ _ _ _
        | true =>
          have HI0 : Hid (CutJ w mi code nm ty size R aa au ca cu w1 cutm A U) := ⟨hm, hr, hbw1, hz1, HR1.out, HR2.out, HOK.out.symm, ⟨A.length + U.length + 1, by omega, by rw [HRR.out]; unfold cutR; rw [if_pos ⟨HOK.out.symm, rfl, by omega, by omega⟩]⟩, hxa.out, hxu.out⟩
          clear hm hr hb1
          go_wp2_with fail
          go_loopw [23] (fun _ wr => ∃ (c : Bool) (A' U' : List (List UInt8 × Int × Int × List UInt8)), Hid (CutJ w mi code nm ty size R aa au ca cu wr c A' U')) (fun _ wr => lenAt wr w.heap.size 6 + lenAt wr w.heap.size 7)
          case atStart => exact ⟨_, _, _, HI0⟩
          case round =>
            obtain ⟨c, A', U', HI⟩ := hrel
            have HF0 : Calls Tryz.prog 27 #[MsgV mi true c code nm ty (.slice aa A'.length ca) (.slice au U'.length cu), .int .i64 size] wr fun e w' => e = .returned (.bool (fitB (mbI mi true c code nm.data.toList ty A' U') size)) ∧ Below wr.heap.size wr w' := fits_any mi true c code nm ty _ _ A' U' size wr (HI.out.row1.kept HI.out.below) (HI.out.row2.kept HI.out.below) (HNA.out _) (HNU.out _) HI.out.small1 HI.out.small2 (hE.below HI.out.below) (fun b hb => by
              unfold mbI at hb
              split at hb
              · cases hb
                have := msgW_len (goodM HI.out.isgood)
                omega
              · cases hb)
            rw [fit_is HI.out.isgood (by omega)] at HF0
            have hfA : A'.length ≤ 12 := (goodM HI.out.isgood).few
            have hfU : U'.length ≤ 12 := (goodM HI.out.isgood).fewU
            obtain ⟨fit, hfit⟩ : ∃ fit, fit = decide (((msgW mi true c code nm.data.toList ty A' U').length : Int) ≤ size) := ⟨_, rfl⟩
            rw [← hfit] at HF0
            have HF : Hid (Calls Tryz.prog 27 #[MsgV mi true c code nm ty (.slice aa A'.length ca) (.slice au U'.length cu), .int .i64 size] wr fun e w' => e = .returned (.bool fit) ∧ Below wr.heap.size wr w') := HF0
            have HFT : Hid (fit = decide (((msgW mi true c code nm.data.toList ty A' U').length : Int) ≤ size)) := hfit
            have HMS : Hid (lenAt wr w.heap.size 6 = A'.length ∧ lenAt wr w.heap.size 7 = U'.length) := ⟨lenAt_eq (msg_cells HI.out.msg).2.2.2.2.2.2.1, lenAt_eq (msg_cells HI.out.msg).2.2.2.2.2.2.2⟩
            unfold MsgV at HF
            obtain ⟨c0, c1, c2, c3, c4, c5, c6, c7⟩ := msg_cells HI.out.msg
            clear hfit HF0
            go_wp2_with fail
            refine HF.out.mono ?_
            rintro e w5 ⟨rfl, hb5⟩
            have HI5 : Hid (CutJ w mi code nm ty size R aa au ca cu w5 c A' U') := HI.out.kept hb5
            clear c0 c1 c2 c3 c4 c5 c6 c7 hb5 HF
            obtain ⟨c0, c1, c2, c3, c4, c5, c6, c7⟩ := msg_cells HI5.out.msg
            obtain ⟨g0, g1, g2, g3, g4, g5, g6, g7⟩ := msg_frozen HI5.out.msg
            cases fit with
            | true =>
              have HDN : Hid (R = some (c, A', U')) := goC_done HI5.out.going (of_decide_eq_true HFT.out.symm)
              have HCP : Hid (Calls Tryz.prog 29 #[MsgV mi true c code nm ty (.slice aa A'.length ca) (.slice au U'.length cu)] w5 fun e w' => (∃ va' vu', e = .returned (MsgV mi true c code nm ty va' vu') ∧ OwnQ w' w5.heap.size va' A' ∧ OwnQ w' w5.heap.size vu' U' ∧ ∀ g, va'.ownBlock = some g → vu'.ownBlock ≠ some g) ∧ Below w5.heap.size w5 w') := copyMessage_any mi true c code nm ty _ _ A' U' w5 hn (HI5.out.row1.kept HI5.out.below) (HI5.out.row2.kept HI5.out.below) (by omega) (by omega) HI5.out.small1 HI5.out.small2
              unfold MsgV at HCP
              go_wp2_with fail
              refine HCP.out.mono ?_
              rintro e w6 ⟨⟨va, vu, rfl, hoa, hou, hap⟩, hb6⟩
              obtain ⟨a1, k1, hva, _⟩ := hoa.shape
              obtain ⟨a2, k2, hvu, _⟩ := hou.shape
              subst hva hvu
              have HI6 : Hid (CutJ w mi code nm ty size R aa au ca cu w6 c A' U') := HI5.out.kept hb6
              have hz5 := HI5.out.big
              have HOA : Hid (OwnQ w6 w5.heap.size (.slice a1 A'.length k1) A') := hoa
              have HOU : Hid (OwnQ w6 w5.heap.size (.slice a2 U'.length k2) U') := hou
              have HAP : Hid (∀ g, (Value.slice a1 A'.length k1).ownBlock = some g → (Value.slice a2 U'.length k2).ownBlock ≠ some g) := hap
              clear c0 c1 c2 c3 c4 c5 c6 c7 g0 g1 g2 g3 g4 g5 g6 g7 hoa hou hap hb6 HCP
              obtain ⟨d0, d1, d2, d3, d4, d5, d6, d7⟩ := msg_cells HI6.out.res
              obtain ⟨f0, f1, f2, f3, f4, f5, f6, f7⟩ := msg_frozen HI6.out.res
              go_wp2_with fail
              (try simp only [Exit.inBlock, Exit.then])
              refine bodyPost_ret (results_row_tmp rfl _ _ (w.heap.size + 1) 25 #[.int .i64 mi, .bool true, .bool c, .int .i64 code, .string nm, .int .i64 ty, .slice a1 A'.length k1, .slice a2 U'.length k2] (0, 0) _ (.bool true) rfl rfl ?_ Tryz.underlying25 rfl (by kernel_rfl)) rfl ⟨owny HDN.out ?_ ?_ HAP.out, ?_⟩
              · exact put8_heap HI6.out.res
              · exact (HOA.out.kpt (kpt_put8 w6 (w.heap.size + 1) _ _ _ _ _ _ _ _ (S := fun k => k = w.heap.size + 1) rfl) (fun g hg h => by have h1 := HOA.out.lt g hg; omega)).base (by omega)
              · exact (HOU.out.kpt (kpt_put8 w6 (w.heap.size + 1) _ _ _ _ _ _ _ _ (S := fun k => k = w.heap.size + 1) rfl) (fun g hg h => by have h1 := HOU.out.lt g hg; omega)).base (by omega)
              · exact put8_below HI6.out.below (Nat.le_succ _) _ _ _ _ _ _ _ _
            | false =>
              have HNL : Hid (((msgW mi true c code nm.data.toList ty A' U').length : Int) ≤ size → False) := fun h => by
                have h2 := HFT.out
                rw [decide_eq_true h] at h2; cases h2
              by_cases hU : 0 < U'.length
              · have hUi : (0 : Int) < (U'.length : Int) := by omega
                have HLS : Hid (Calls Tryz.prog 28 #[.slice au U'.length cu] w5 fun e w' => e = .returned (.slice au (lessL U').length cu) ∧ Below w5.heap.size w5 w') := withoutLast_any au cu U' w5 (HI5.out.row2.kept HI5.out.below) hU (by omega)
                go_wp2_with fail
                refine HLS.out.mono ?_
                rintro e w6 ⟨rfl, hb6⟩
                have HI5b : Hid (CutJ w mi code nm ty size R aa au ca cu w6 c A' U') := HI5.out.kept hb6
                have HI6 : Hid (CutJ w mi code nm ty size R aa au ca cu ((w6.setCell ⟨w.heap.size, 7, none⟩ (.slice au (lessL U').length cu)).setCell ⟨w.heap.size, 2, none⟩ (.bool true)) true A' (lessL U')) := HI5b.out.auth HNL.out hU
                have HM6 : Hid (lenAt ((w6.setCell ⟨w.heap.size, 7, none⟩ (.slice au (lessL U').length cu)).setCell ⟨w.heap.size, 2, none⟩ (.bool true)) w.heap.size 6 + lenAt ((w6.setCell ⟨w.heap.size, 7, none⟩ (.slice au (lessL U').length cu)).setCell ⟨w.heap.size, 2, none⟩ (.bool true)) w.heap.size 7 < lenAt wr w.heap.size 6 + lenAt wr w.heap.size 7) := by
                  have h := msg_cells HI6.out.msg
                  have hl := lessL_lt hU
                  show _ < _
                  rw [HMS.out.1, HMS.out.2, lenAt_eq h.2.2.2.2.2.2.1, lenAt_eq h.2.2.2.2.2.2.2]; omega
                clear c0 c1 c2 c3 c4 c5 c6 c7 g0 g1 g2 g3 g4 g5 g6 g7 hb6 HLS
                obtain ⟨c0, c1, c2, c3, c4, c5, c6, c7⟩ := msg_cells HI5b.out.msg
                obtain ⟨g0, g1, g2, g3, g4, g5, g6, g7⟩ := msg_frozen HI5b.out.msg
                go_wp2_with fail
                go_roundw
                case rel => exact ⟨_, _, _, HI6⟩
                case measure => exact HM6.out
              · have hU0 : U'.length = 0 := by omega
                by_cases hA : 0 < A'.length
                · have hAi : (0 : Int) < (A'.length : Int) := by omega
                  have HLS : Hid (Calls Tryz.prog 28 #[.slice aa A'.length ca] w5 fun e w' => e = .returned (.slice aa (lessL A').length ca) ∧ Below w5.heap.size w5 w') := withoutLast_any aa ca A' w5 (HI5.out.row1.kept HI5.out.below) hA (by omega)
                  go_wp2_with fail
                  refine HLS.out.mono ?_
                  rintro e w6 ⟨rfl, hb6⟩
                  have HI5b : Hid (CutJ w mi code nm ty size R aa au ca cu w6 c A' U') := HI5.out.kept hb6
                  have HI6 : Hid (CutJ w mi code nm ty size R aa au ca cu ((w6.setCell ⟨w.heap.size, 6, none⟩ (.slice aa (lessL A').length ca)).setCell ⟨w.heap.size, 2, none⟩ (.bool true)) true (lessL A') U') := HI5b.out.ans HNL.out hU hA
                  have HM6 : Hid (lenAt ((w6.setCell ⟨w.heap.size, 6, none⟩ (.slice aa (lessL A').length ca)).setCell ⟨w.heap.size, 2, none⟩ (.bool true)) w.heap.size 6 + lenAt ((w6.setCell ⟨w.heap.size, 6, none⟩ (.slice aa (lessL A').length ca)).setCell ⟨w.heap.size, 2, none⟩ (.bool true)) w.heap.size 7 < lenAt wr w.heap.size 6 + lenAt wr w.heap.size 7) := by
                    have h := msg_cells HI6.out.msg
                    have hl := lessL_lt hA
                    show _ < _
                    rw [HMS.out.1, HMS.out.2, lenAt_eq h.2.2.2.2.2.2.1, lenAt_eq h.2.2.2.2.2.2.2]; omega
                  clear c0 c1 c2 c3 c4 c5 c6 c7 g0 g1 g2 g3 g4 g5 g6 g7 hb6 HLS
                  obtain ⟨c0, c1, c2, c3, c4, c5, c6, c7⟩ := msg_cells HI5b.out.msg
                  obtain ⟨g0, g1, g2, g3, g4, g5, g6, g7⟩ := msg_frozen HI5b.out.msg
                  go_wp2_with fail
                  go_roundw
                  case rel => exact ⟨_, _, _, HI6⟩
                  case measure => exact HM6.out
                · have hA0 : A'.length = 0 := by omega
                  have HN : Hid (R = none) := goC_none HI5.out.going HNL.out hU hA
                  obtain ⟨d0, d1, d2, d3, d4, d5, d6, d7⟩ := msg_cells HI5.out.res
                  obtain ⟨f0, f1, f2, f3, f4, f5, f6, f7⟩ := msg_frozen HI5.out.res
                  go_wp2_with fail
                  (try simp only [Exit.inBlock, Exit.then])
                  refine bodyPost_ret (results_row_tmp rfl _ _ (w.heap.size + 1) 25 #[.int .i64 0, .bool false, .bool false, .int .i64 0, .string ⟨#[]⟩, .int .i64 0, .slice none 0 0, .slice none 0 0] (0, 0) _ (.bool false) rfl rfl ?_ Tryz.underlying25 rfl (by kernel_rfl)) rfl ⟨ownn HN.out, ?_⟩
                  · exact put8_heap HI5.out.res
                  · exact put8_below HI5.out.below (Nat.le_succ _) _ _ _ _ _ _ _ _
end Go.Proofs.YtpghpeombednkaaGreatDoor

namespace Go.Proofs.YtpghpeombednkaaGreatDoor.cutMessage
open Go.RowKit

theorem own_of {w : World} {base g : Nat} {L : List (List UInt8 × Int × Int × List UInt8)} (h : QRow w g L) (hb : base ≤ g) (hl : L.length ≤ 1048576) : OwnQ w base (.slice (some ⟨g, 0, none⟩) L.length L.length) L :=
  .inr ⟨g, L.length, rfl, Nat.le_refl _, by unfold maxLen; omega, hb, h⟩

set_option maxRecDepth 20000 in
set_option maxHeartbeats 16000000 in
theorem core (mi : Int) (reply cutm : Bool) (code : Int) (nm : ByteArray) (ty : Int) (va vu : Value) (A U : List (List UInt8 × Int × Int × List UInt8)) (size : Int) (w : World) (ok : Bool) (mi2 : Int) (reply2 cutm2 : Bool) (code2 : Int) (nm2 : ByteArray) (ty2 : Int) (A2 U2 : List (List UInt8 × Int × Int × List UInt8))
    (hn : nm.size ≤ maxLen) (ha : RRow w va A) (hxa : Hid (∀ x ∈ A, x.1.length ≤ maxLen ∧ x.2.2.2.length ≤ maxLen)) (hu : RRow w vu U) (hxu : Hid (∀ x ∈ U, x.1.length ≤ maxLen ∧ x.2.2.2.length ≤ maxLen)) (hA2 : A2.length ≤ 1048576) (hU2 : U2.length ≤ 1048576) (hE : EnvR w)
    (HS0 : Hid (nm.size ≤ 1048576 → Hid (∀ x ∈ A, x.1.length ≤ 1048576 ∧ x.2.2.2.length ≤ 1048576) → Hid (∀ x ∈ U, x.1.length ≤ 1048576 ∧ x.2.2.2.length ≤ 1048576) → ∀ g1 g2 W, QRow W g1 A → QRow W g2 U → Calls Tryz.prog 9 #[MsgV mi reply cutm code nm ty (.slice (some ⟨g1, 0, none⟩) A.length A.length) (.slice (some ⟨g2, 0, none⟩) U.length U.length), .int .i64 size] W fun e w' => MRes w' ok mi2 reply2 cutm2 code2 nm2 ty2 A2 U2 e ∧ Below W.heap.size W w'))
    (HI0 : Hid (nm.size ≤ 1048576 → Hid (∀ x ∈ A, x.1.length ≤ 1048576 ∧ x.2.2.2.length ≤ 1048576) → Hid (∀ x ∈ U, x.1.length ≤ 1048576 ∧ x.2.2.2.length ≤ 1048576) → ∀ g1 g2 W, EnvR W → QRow W g1 A → QRow W g2 U → Calls Tryz.prog 8 #[MsgV mi reply cutm code nm ty (.slice (some ⟨g1, 0, none⟩) A.length A.length) (.slice (some ⟨g2, 0, none⟩) U.length U.length), .int .i64 size] W fun e w' => MOwn w' W.heap.size ok mi2 reply2 cutm2 code2 nm2 ty2 A2 U2 e ∧ Below W.heap.size W w')) :
    Calls Tryz.prog 6 #[MsgV mi reply cutm code nm ty va vu, .int .i64 size] w fun e w' => e = .returned (.bool true) ∧ Below w.heap.size w w' := by
  obtain ⟨aa, ca, hva, _, hca, _⟩ := id ha
  obtain ⟨au, cu, hvu, _, hcu, _⟩ := id hu
  have HSZ : Hid (∀ W, Below w.heap.size w W → Calls Tryz.prog 19 #[MsgV mi reply cutm code nm ty va vu, .int .i64 1048576] W fun e w' => (∃ q : Int, e = .returned (.int .i64 q) ∧ (q = -1 ∨ (0 ≤ q ∧ q = 1048576 - (nm.size : Int) - (A.length : Int) - (wtR A : Int) - (U.length : Int) - (wtR U : Int)))) ∧ Below W.heap.size W w') := fun W hW => szMessage_any mi reply cutm code nm ty va vu A U 1048576 W hn (ha.kept hW) (hu.kept hW) hxa hxu (by omega) (by omega)
  have HTO : Hid (A.length ≤ 1048576 → U.length ≤ 1048576 → ∀ W, Below w.heap.size w W → Calls Tryz.prog 20 #[MsgV mi reply cutm code nm ty va vu] W fun e w' => (∃ g1 g2, e = .returned (MsgV mi reply cutm code nm ty (.slice (some ⟨g1, 0, none⟩) A.length A.length) (.slice (some ⟨g2, 0, none⟩) U.length U.length)) ∧ W.heap.size ≤ g1 ∧ g1 < g2 ∧ QRow w' g1 A ∧ QRow w' g2 U) ∧ Below W.heap.size W w') := fun h1 h2 W hW => toMessage_any mi reply cutm code nm ty va vu A U W (ha.kept hW) (hu.kept hW) h1 h2
  have e2 : (ok != ok) = false := by simp
  subst hva
  subst hvu
  clear ha hu
  unfold MsgV at HSZ ⊢
  go_enter Tryz.func6, Tryz.ntmps6
  go_wp2_with fail
  refine (HSZ.out _ ((Below.refl w.heap.size w).alloc (Nat.le_refl _) _)).mono ?_
  rintro e w1 ⟨⟨q, rfl, hq⟩, hb1⟩
  have hbw1 : Below w.heap.size w w1 := ((Below.refl w.heap.size w).alloc (Nat.le_refl _) _).trans (hb1.mono (by simp))
  have HP1 : Hid (w1.heap[w.heap.size]? = some (.cells #[.int .i64 mi, .bool reply, .bool cutm, .int .i64 code, .string nm, .int .i64 ty, .slice aa A.length ca, .slice au U.length cu] 47)) := (hb1.block w.heap.size (by simp)).trans (blk_new _ _)
  have hz1 : w.heap.size < w1.heap.size := Nat.lt_of_lt_of_le (by simp) hb1.size
  clear hb1 HSZ
  by_cases hq1 : q = -1
  · subst hq1
    clear hq
    go_wp2_with fail
    go_ret
    exact ⟨rfl, hbw1⟩
  rcases hq with rfl | ⟨hq0, hqe⟩
  · exact absurd rfl hq1
  obtain ⟨hn', hA, hU, _, hAs, hUs⟩ := sz_small hq0 hqe
  have HT : Hid (∀ W, Below w.heap.size w W → Calls Tryz.prog 20 #[MsgV mi reply cutm code nm ty (.slice aa A.length ca) (.slice au U.length cu)] W fun e w' => (∃ g1 g2, e = .returned (MsgV mi reply cutm code nm ty (.slice (some ⟨g1, 0, none⟩) A.length A.length) (.slice (some ⟨g2, 0, none⟩) U.length U.length)) ∧ W.heap.size ≤ g1 ∧ g1 < g2 ∧ QRow w' g1 A ∧ QRow w' g2 U) ∧ Below W.heap.size W w') := HTO.out hA hU
  have HS : Hid (∀ g1 g2 W, QRow W g1 A → QRow W g2 U → Calls Tryz.prog 9 #[MsgV mi reply cutm code nm ty (.slice (some ⟨g1, 0, none⟩) A.length A.length) (.slice (some ⟨g2, 0, none⟩) U.length U.length), .int .i64 size] W fun e w' => MRes w' ok mi2 reply2 cutm2 code2 nm2 ty2 A2 U2 e ∧ Below W.heap.size W w') := HS0.out hn' hAs hUs
  have HI : Hid (∀ g1 g2 W, EnvR W → QRow W g1 A → QRow W g2 U → Calls Tryz.prog 8 #[MsgV mi reply cutm code nm ty (.slice (some ⟨g1, 0, none⟩) A.length A.length) (.slice (some ⟨g2, 0, none⟩) U.length U.length), .int .i64 size] W fun e w' => MOwn w' W.heap.size ok mi2 reply2 cutm2 code2 nm2 ty2 A2 U2 e ∧ Below W.heap.size W w') := HI0.out hn' hAs hUs
  have HEX : Hid (∀ g1 g2 g3 g4 W, QRow W g1 A → QRow W g2 U → QRow W g3 A → QRow W g4 U → Calls Tryz.prog 21 #[MsgV mi reply cutm code nm ty (.slice (some ⟨g1, 0, none⟩) A.length A.length) (.slice (some ⟨g2, 0, none⟩) U.length U.length), MsgV mi reply cutm code nm ty (.slice (some ⟨g3, 0, none⟩) A.length A.length) (.slice (some ⟨g4, 0, none⟩) U.length U.length)] W fun e w' => e = .returned (.bool true) ∧ Below W.heap.size W w') := fun g1 g2 g3 g4 W h1 h2 h3 h4 => eqMessage_same mi reply cutm code nm ty _ _ _ _ A U W (h1.row (Nat.le_refl _) (by unfold maxLen; omega)) (h2.row (Nat.le_refl _) (by unfold maxLen; omega)) (h3.row (Nat.le_refl _) (by unfold maxLen; omega)) (h4.row (Nat.le_refl _) (by unfold maxLen; omega))
  have HEG : Hid (∀ va vu vb vc W, RRow W va A2 → RRow W vu U2 → RRow W vb A2 → RRow W vc U2 → Calls Tryz.prog 21 #[MsgV mi2 reply2 cutm2 code2 nm2 ty2 va vu, MsgV mi2 reply2 cutm2 code2 nm2 ty2 vb vc] W fun e w' => e = .returned (.bool true) ∧ Below W.heap.size W w') := fun va vu vb vc W h1 h2 h3 h4 => eqMessage_same mi2 reply2 cutm2 code2 nm2 ty2 va vu vb vc A2 U2 W h1 h2 h3 h4
  have HMX : Hid (∀ va vu base W, OwnQ W base va A → OwnQ W base vu U → (∀ g, va.ownBlock = some g → vu.ownBlock ≠ some g) → Calls Tryz.prog 22 #[MsgV mi reply cutm code nm ty va vu, .int .i64 1] W fun e w' => e = .returned (.int .i64 (1 + 4 * (A.length : Int) + 4 * (U.length : Int))) ∧ OwnQ w' base va (mrks 1 A.length) ∧ OwnQ w' base vu (mrks (1 + 4 * A.length) U.length) ∧ Kpt W w' (fun k => va.ownBlock = some k ∨ vu.ownBlock = some k)) := fun va vu base W h1 h2 h3 => markMessage_any mi reply cutm code nm ty va vu A U base 1 W h1 h2 h3 hA hU (by omega) (by omega)
  have HMG : Hid (∀ va vu base W, OwnQ W base va A2 → OwnQ W base vu U2 → (∀ g, va.ownBlock = some g → vu.ownBlock ≠ some g) → Calls Tryz.prog 22 #[MsgV mi2 reply2 cutm2 code2 nm2 ty2 va vu, .int .i64 1] W fun e w' => e = .returned (.int .i64 (1 + 4 * (A2.length : Int) + 4 * (U2.length : Int))) ∧ OwnQ w' base va (mrks 1 A2.length) ∧ OwnQ w' base vu (mrks (1 + 4 * A2.length) U2.length) ∧ Kpt W w' (fun k => va.ownBlock = some k ∨ vu.ownBlock = some k)) := fun va vu base W h1 h2 h3 => markMessage_any mi2 reply2 cutm2 code2 nm2 ty2 va vu A2 U2 base 1 W h1 h2 h3 hA2 hU2 (by omega) (by omega)
  have HHG : Hid (∀ va vu base W, OwnQ W base va (mrks 1 A2.length) → OwnQ W base vu (mrks (1 + 4 * A2.length) U2.length) → Calls Tryz.prog 23 #[MsgV mi2 reply2 cutm2 code2 nm2 ty2 va vu, .int .i64 1] W fun e w' => e = .returned (.int .i64 (1 + 4 * (A2.length : Int) + 4 * (U2.length : Int))) ∧ Below W.heap.size W w') := fun va vu base W h1 h2 => heldMessage_any mi2 reply2 cutm2 code2 nm2 ty2 va vu A2.length U2.length 1 W h1.row h2.row hA2 hU2 (by omega) (by omega)
  obtain ⟨qx, hqx⟩ : ∃ q : Int, q = 1 + 4 * (A.length : Int) + 4 * (U.length : Int) := ⟨_, rfl⟩
  obtain ⟨qg, hqg⟩ : ∃ q : Int, q = 1 + 4 * (A2.length : Int) + 4 * (U2.length : Int) := ⟨_, rfl⟩
  rw [← hqx] at HMX
  rw [← hqg] at HMG HHG
  have hqx0 : decide (qx < 0) = false := by simp; omega
  have hqg0 : decide (qg < 0) = false := by simp; omega
  have hqq : (qg != qg) = false := by simp
  have hq10 : ¬ qx < 0 := by omega
  clear hqx hqg hqe hAs hUs HS0 HI0 HTO hn hn'
  unfold MsgV at HS HI HT HEX HEG HMX HMG HHG
  obtain ⟨p0, p1, p2, p3, p4, p5, p6, p7⟩ := msg_cells HP1.out
  go_wp2_with fail
  refine (HT.out _ hbw1).mono ?_
  rintro e w2 ⟨⟨g1, g2, rfl, hg1, hg12, hqa, hqu⟩, hb2⟩
  clear p0 p1 p2 p3 p4 p5 p6 p7
  have hbw2 : Below w.heap.size w w2 := hbw1.trans (hb2.mono hbw1.size)
  have HP2 : Hid (w2.heap[w.heap.size]? = some (.cells #[.int .i64 mi, .bool reply, .bool cutm, .int .i64 code, .string nm, .int .i64 ty, .slice aa A.length ca, .slice au U.length cu] 47)) := (hb2.block w.heap.size hz1).trans HP1.out
  have hz2 : w.heap.size < w2.heap.size := Nat.lt_of_lt_of_le hz1 hb2.size
  have HQA : Hid (QRow w2 g1 A) := hqa
  have HQU : Hid (QRow w2 g2 U) := hqu
  clear hqa hqu hg1 hg12 hb2 HP1 hbw1
  go_wp2_with fail
  refine (HS.out g1 g2 _ HQA.out HQU.out).mono ?_
  rintro e w3 ⟨⟨vw6, vw7, rfl, hra, hru⟩, hb3⟩
  obtain ⟨aw6, cw6, hvw6, _, hcw6, _⟩ := id hra
  obtain ⟨aw7, cw7, hvw7, _, hcw7, _⟩ := id hru
  have HRA : Hid (∀ W, Below w3.heap.size w3 W → RRow W vw6 A2) := fun W hW => hra.kept hW
  have HRU : Hid (∀ W, Below w3.heap.size w3 W → RRow W vw7 U2) := fun W hW => hru.kept hW
  subst hvw6
  subst hvw7
  unfold MsgV
  have hbw3 : Below w.heap.size w w3 := hbw2.trans (hb3.mono hbw2.size)
  have HP3 : Hid (w3.heap[w.heap.size]? = some (.cells #[.int .i64 mi, .bool reply, .bool cutm, .int .i64 code, .string nm, .int .i64 ty, .slice aa A.length ca, .slice au U.length cu] 47)) := (hb3.block w.heap.size hz2).trans HP2.out
  have hz3 : w.heap.size < w3.heap.size := Nat.lt_of_lt_of_le hz2 hb3.size
  obtain ⟨p0, p1, p2, p3, p4, p5, p6, p7⟩ := msg_cells HP3.out
  clear HQA HQU hb3 HP2 hbw2 hra hru HS
  go_wp2_with fail
  refine (HT.out _ (hbw3.alloc hbw3.size _)).mono ?_
  rintro e w4 ⟨⟨g3, g4, rfl, hg3, hg34, hqa, hqu⟩, hb4⟩
  clear p0 p1 p2 p3 p4 p5 p6 p7
  have hb34 : Below w3.heap.size w3 w4 := ((Below.refl w3.heap.size w3).alloc (Nat.le_refl _) _).trans (hb4.mono (by simp))
  have hbw4 : Below w.heap.size w w4 := hbw3.trans (hb34.mono hbw3.size)
  have HP4 : Hid (w4.heap[w.heap.size]? = some (.cells #[.int .i64 mi, .bool reply, .bool cutm, .int .i64 code, .string nm, .int .i64 ty, .slice aa A.length ca, .slice au U.length cu] 47)) := (hb34.block w.heap.size hz3).trans HP3.out
  have HW4 : Hid (w4.heap[w3.heap.size]? = some (.cells #[.int .i64 mi2, .bool reply2, .bool cutm2, .int .i64 code2, .string nm2, .int .i64 ty2, .slice aw6 A2.length cw6, .slice aw7 U2.length cw7] 25)) := (hb4.block w3.heap.size (by simp)).trans (blk_new _ _)
  have hz34 : w3.heap.size < w4.heap.size := Nat.lt_of_lt_of_le (by simp) hb4.size
  have hg3' : w3.heap.size + 1 ≤ g3 := by simpa using hg3
  have HQA : Hid (QRow w4 g3 A) := hqa
  have HQU : Hid (QRow w4 g4 U) := hqu
  have hg4 : g4 < w4.heap.size := hqu.1
  clear hqa hqu hg3 hb4 HP3 hbw3
  go_wp2_with fail
  refine (HI.out g3 g4 _ (hE.below (hbw4.alloc hbw4.size _)) (HQA.out.kept ((Below.refl w4.heap.size w4).alloc (Nat.le_refl _) _)) (HQU.out.kept ((Below.refl w4.heap.size w4).alloc (Nat.le_refl _) _))).mono ?_
  rintro e w6 ⟨⟨vg6, vg7, rfl, hoa, hou, hap⟩, hb6⟩
  obtain ⟨ag6, cg6, hvg6, hcg6⟩ := hoa.shape
  obtain ⟨ag7, cg7, hvg7, hcg7⟩ := hou.shape
  subst hvg6
  subst hvg7
  unfold MsgV
  have hb46 : Below w4.heap.size w4 w6 := ((Below.refl w4.heap.size w4).alloc (Nat.le_refl _) _).trans (hb6.mono (by simp))
  have hz46 : w4.heap.size < w6.heap.size := Nat.lt_of_lt_of_le (by simp) hb6.size
  have HOA : Hid (OwnQ w6 (w4.heap.size + 1) (.slice ag6 A2.length cg6) A2) := by
    have h : OwnQ w6 (w4.heap.size + 1) (.slice ag6 A2.length cg6) A2 := by simpa using hoa
    exact h
  have HOU : Hid (OwnQ w6 (w4.heap.size + 1) (.slice ag7 U2.length cg7) U2) := by
    have h : OwnQ w6 (w4.heap.size + 1) (.slice ag7 U2.length cg7) U2 := by simpa using hou
    exact h
  have HAP : Hid (∀ g, (Value.slice ag6 A2.length cg6).ownBlock = some g → (Value.slice ag7 U2.length cg7).ownBlock ≠ some g) := hap
  have HP6 : Hid (w6.heap[w.heap.size]? = some (.cells #[.int .i64 mi, .bool reply, .bool cutm, .int .i64 code, .string nm, .int .i64 ty, .slice aa A.length ca, .slice au U.length cu] 47)) := (hb46.block w.heap.size (by omega)).trans HP4.out
  have HW6 : Hid (w6.heap[w3.heap.size]? = some (.cells #[.int .i64 mi2, .bool reply2, .bool cutm2, .int .i64 code2, .string nm2, .int .i64 ty2, .slice aw6 A2.length cw6, .slice aw7 U2.length cw7] 25)) := (hb46.block w3.heap.size hz34).trans HW4.out
  have HX6 : Hid (w6.heap[w4.heap.size]? = some (.cells #[.int .i64 mi, .bool reply, .bool cutm, .int .i64 code, .string nm, .int .i64 ty, .slice (some ⟨g3, 0, none⟩) A.length A.length, .slice (some ⟨g4, 0, none⟩) U.length U.length] 25)) := (hb6.block w4.heap.size (by simp)).trans (blk_new _ _)
  have HQA6 : Hid (QRow w6 g3 A) := HQA.out.kept hb46
  have HQU6 : Hid (QRow w6 g4 U) := HQU.out.kept hb46
  have hb36 : Below w3.heap.size w3 w6 := hb34.trans (hb46.mono hb34.size)
  have hbw6 : Below w.heap.size w w6 := hbw4.trans (hb46.mono hbw4.size)
  obtain ⟨c0, c1, c2, c3, c4, c5, c6, c7⟩ := msg_cells HW6.out
  have hlt36 : w3.heap.size < w6.heap.size := by omega
  clear hoa hou hap hb6 HQA HQU HP4 HW4 hb34 hb46 hbw4
  go_wp2_with fail
  refine (HEG.out _ _ _ _ _ (HOA.out.row.kept ((Below.refl w6.heap.size w6).alloc (Nat.le_refl _) _)) (HOU.out.row.kept ((Below.refl w6.heap.size w6).alloc (Nat.le_refl _) _)) (HRA.out _ (hb36.alloc hb36.size _)) (HRU.out _ (hb36.alloc hb36.size _))).mono ?_
  rintro e w7 ⟨rfl, hb7⟩
  clear c0 c1 c2 c3 c4 c5 c6 c7
  have hb67 : Below w6.heap.size w6 w7 := ((Below.refl w6.heap.size w6).alloc (Nat.le_refl _) _).trans (hb7.mono (by simp))
  have hz67 : w6.heap.size < w7.heap.size := Nat.lt_of_lt_of_le (by simp) hb7.size
  have HP7 : Hid (w7.heap[w.heap.size]? = some (.cells #[.int .i64 mi, .bool reply, .bool cutm, .int .i64 code, .string nm, .int .i64 ty, .slice aa A.length ca, .slice au U.length cu] 47)) := (hb67.block w.heap.size (by omega)).trans HP6.out
  have HW7 : Hid (w7.heap[w3.heap.size]? = some (.cells #[.int .i64 mi2, .bool reply2, .bool cutm2, .int .i64 code2, .string nm2, .int .i64 ty2, .slice aw6 A2.length cw6, .slice aw7 U2.length cw7] 25)) := (hb67.block w3.heap.size (by omega)).trans HW6.out
  have HX7 : Hid (w7.heap[w4.heap.size]? = some (.cells #[.int .i64 mi, .bool reply, .bool cutm, .int .i64 code, .string nm, .int .i64 ty, .slice (some ⟨g3, 0, none⟩) A.length A.length, .slice (some ⟨g4, 0, none⟩) U.length U.length] 25)) := (hb67.block w4.heap.size (by omega)).trans HX6.out
  have HG7 : Hid (w7.heap[w6.heap.size]? = some (.cells #[.int .i64 mi2, .bool reply2, .bool cutm2, .int .i64 code2, .string nm2, .int .i64 ty2, .slice ag6 A2.length cg6, .slice ag7 U2.length cg7] 25)) := (hb7.block w6.heap.size (by simp)).trans (blk_new _ _)
  have hb37 : Below w3.heap.size w3 w7 := hb36.trans (hb67.mono hb36.size)
  have hbw7 : Below w.heap.size w w7 := hbw6.trans (hb67.mono hbw6.size)
  have HC : Hid (∀ W, Below w7.heap.size w7 W → (W.cell? ⟨w.heap.size, 0, none⟩ = some (.int .i64 mi) ∧ W.cell? ⟨w.heap.size, 1, none⟩ = some (.bool reply) ∧ W.cell? ⟨w.heap.size, 2, none⟩ = some (.bool cutm) ∧ W.cell? ⟨w.heap.size, 3, none⟩ = some (.int .i64 code) ∧ W.cell? ⟨w.heap.size, 4, none⟩ = some (.string nm) ∧ W.cell? ⟨w.heap.size, 5, none⟩ = some (.int .i64 ty) ∧ W.cell? ⟨w.heap.size, 6, none⟩ = some (.slice aa A.length ca) ∧ W.cell? ⟨w.heap.size, 7, none⟩ = some (.slice au U.length cu)) ∧ (W.cell? ⟨w4.heap.size, 0, none⟩ = some (.int .i64 mi) ∧ W.cell? ⟨w4.heap.size, 1, none⟩ = some (.bool reply) ∧ W.cell? ⟨w4.heap.size, 2, none⟩ = some (.bool cutm) ∧ W.cell? ⟨w4.heap.size, 3, none⟩ = some (.int .i64 code) ∧ W.cell? ⟨w4.heap.size, 4, none⟩ = some (.string nm) ∧ W.cell? ⟨w4.heap.size, 5, none⟩ = some (.int .i64 ty) ∧ W.cell? ⟨w4.heap.size, 6, none⟩ = some (.slice (some ⟨g3, 0, none⟩) A.length A.length) ∧ W.cell? ⟨w4.heap.size, 7, none⟩ = some (.slice (some ⟨g4, 0, none⟩) U.length U.length)) ∧ Below w7.heap.size w7 W) := fun W hW =>
    ⟨msg_cells ((hW.block w.heap.size (by omega)).trans HP7.out), msg_cells ((hW.block w4.heap.size (by omega)).trans HX7.out), hW⟩
  have HT7 : Hid (∀ W, Below w7.heap.size w7 W → Calls Tryz.prog 20 #[.agg #[.int .i64 mi, .bool reply, .bool cutm, .int .i64 code, .string nm, .int .i64 ty, .slice aa A.length ca, .slice au U.length cu]] W fun e w' => (∃ g1 g2, e = .returned (.agg #[.int .i64 mi, .bool reply, .bool cutm, .int .i64 code, .string nm, .int .i64 ty, .slice (some ⟨g1, 0, none⟩) A.length A.length, .slice (some ⟨g2, 0, none⟩) U.length U.length]) ∧ W.heap.size ≤ g1 ∧ g1 < g2 ∧ QRow w' g1 A ∧ QRow w' g2 U) ∧ Below W.heap.size W w') := fun W hW => HT.out W (hbw7.trans (hW.mono hbw7.size))
  have HEX7 : Hid (∀ g1 g2 W, Below w7.heap.size w7 W → QRow W g1 A → QRow W g2 U → Calls Tryz.prog 21 #[.agg #[.int .i64 mi, .bool reply, .bool cutm, .int .i64 code, .string nm, .int .i64 ty, .slice (some ⟨g3, 0, none⟩) A.length A.length, .slice (some ⟨g4, 0, none⟩) U.length U.length], .agg #[.int .i64 mi, .bool reply, .bool cutm, .int .i64 code, .string nm, .int .i64 ty, .slice (some ⟨g1, 0, none⟩) A.length A.length, .slice (some ⟨g2, 0, none⟩) U.length U.length]] W fun e w' => e = .returned (.bool true) ∧ Below W.heap.size W w') := fun g1 g2 W hW h1 h2 => HEX.out g3 g4 g1 g2 W ((HQA6.out.kept hb67).kept hW) ((HQU6.out.kept hb67).kept hW) h1 h2
  have HTR : Hid (∀ W W', Below w7.heap.size w7 W → Below W.heap.size W W' → Below w7.heap.size w7 W') := fun W W' h1 h2 => h1.trans (h2.mono h1.size)
  have hbz : Below w7.heap.size w7 w7 := Below.refl _ _
  have hbd : Below w7.heap.size w7 w7.drew := (Below.refl _ _).drew
  have HQA7 : Hid (QRow w7 g3 A) := HQA6.out.kept hb67
  have HQU7 : Hid (QRow w7 g4 U) := HQU6.out.kept hb67
  have HOA7 : Hid (OwnQ w7 (w4.heap.size + 1) (.slice ag6 A2.length cg6) A2) := HOA.out.kept hb67
  have HOU7 : Hid (OwnQ w7 (w4.heap.size + 1) (.slice ag7 U2.length cg7) U2) := HOU.out.kept hb67
  have HLG : Hid (∀ k, (Value.slice ag6 A2.length cg6).ownBlock = some k ∨ (Value.slice ag7 U2.length cg7).ownBlock = some k → w4.heap.size + 1 ≤ k ∧ k < w6.heap.size) := fun k h => by
    rcases h with h | h
    · exact HOA.out.lt k h
    · exact HOU.out.lt k h
  clear hb7 hb67 hb36 hbw6 HP6 HW6 HX6 HQA6 HQU6 HOA HOU
  go_wp2_with fail
  go_region_held3 (fun W => (W.cell? ⟨w.heap.size, 0, none⟩ = some (.int .i64 mi) ∧ W.cell? ⟨w.heap.size, 1, none⟩ = some (.bool reply) ∧ W.cell? ⟨w.heap.size, 2, none⟩ = some (.bool cutm) ∧ W.cell? ⟨w.heap.size, 3, none⟩ = some (.int .i64 code) ∧ W.cell? ⟨w.heap.size, 4, none⟩ = some (.string nm) ∧ W.cell? ⟨w.heap.size, 5, none⟩ = some (.int .i64 ty) ∧ W.cell? ⟨w.heap.size, 6, none⟩ = some (.slice aa A.length ca) ∧ W.cell? ⟨w.heap.size, 7, none⟩ = some (.slice au U.length cu)) ∧ (W.cell? ⟨w4.heap.size, 0, none⟩ = some (.int .i64 mi) ∧ W.cell? ⟨w4.heap.size, 1, none⟩ = some (.bool reply) ∧ W.cell? ⟨w4.heap.size, 2, none⟩ = some (.bool cutm) ∧ W.cell? ⟨w4.heap.size, 3, none⟩ = some (.int .i64 code) ∧ W.cell? ⟨w4.heap.size, 4, none⟩ = some (.string nm) ∧ W.cell? ⟨w4.heap.size, 5, none⟩ = some (.int .i64 ty) ∧ W.cell? ⟨w4.heap.size, 6, none⟩ = some (.slice (some ⟨g3, 0, none⟩) A.length A.length) ∧ W.cell? ⟨w4.heap.size, 7, none⟩ = some (.slice (some ⟨g4, 0, none⟩) U.length U.length)) ∧ Below w7.heap.size w7 W) (first | exact HC.out _ (by assumption) | exact HC.out _ (Below.drew (by assumption)))
    (first
    | (go_at_call 20; refine (HT7.out _ (by assumption)).mono ?_; rintro e w8 ⟨⟨g5, g6, rfl, _, _, hqa8, hqu8⟩, hb8⟩; have hb78 := HTR.out _ _ (by assumption) hb8)
    | (go_at_call 21; refine (HEX7.out _ _ _ (by assumption) (by assumption) (by assumption)).mono ?_; rintro e w9 ⟨rfl, hb9⟩; have hb79 := HTR.out _ _ (by assumption) hb9))
  obtain ⟨W9, hW9⟩ : ∃ W9, W9 = w9 := ⟨_, rfl⟩
  have HP9 : Hid (w9.heap[w.heap.size]? = some (.cells #[.int .i64 mi, .bool reply, .bool cutm, .int .i64 code, .string nm, .int .i64 ty, .slice aa A.length ca, .slice au U.length cu] 47)) := (hb79.block w.heap.size (by omega)).trans HP7.out
  have HW9 : Hid (w9.heap[w3.heap.size]? = some (.cells #[.int .i64 mi2, .bool reply2, .bool cutm2, .int .i64 code2, .string nm2, .int .i64 ty2, .slice aw6 A2.length cw6, .slice aw7 U2.length cw7] 25)) := (hb79.block w3.heap.size (by omega)).trans HW7.out
  have HX9 : Hid (w9.heap[w4.heap.size]? = some (.cells #[.int .i64 mi, .bool reply, .bool cutm, .int .i64 code, .string nm, .int .i64 ty, .slice (some ⟨g3, 0, none⟩) A.length A.length, .slice (some ⟨g4, 0, none⟩) U.length U.length] 25)) := (hb79.block w4.heap.size (by omega)).trans HX7.out
  have HG9 : Hid (w9.heap[w6.heap.size]? = some (.cells #[.int .i64 mi2, .bool reply2, .bool cutm2, .int .i64 code2, .string nm2, .int .i64 ty2, .slice ag6 A2.length cg6, .slice ag7 U2.length cg7] 25)) := (hb79.block w6.heap.size (by omega)).trans HG7.out
  have HQA9 : Hid (QRow w9 g3 A) := HQA7.out.kept hb79
  have HQU9 : Hid (QRow w9 g4 U) := HQU7.out.kept hb79
  have HOA9 : Hid (OwnQ w9 (w4.heap.size + 1) (.slice ag6 A2.length cg6) A2) := HOA7.out.kept hb79
  have HOU9 : Hid (OwnQ w9 (w4.heap.size + 1) (.slice ag7 U2.length cg7) U2) := HOU7.out.kept hb79
  have hb39 : Below w3.heap.size w3 w9 := hb37.trans (hb79.mono hb37.size)
  have hbw9 : Below w.heap.size w w9 := hbw7.trans (hb79.mono hbw7.size)
  have hz79 : w7.heap.size ≤ w9.heap.size := hb79.size
  obtain ⟨x0, x1, x2, x3, x4, x5, x6, x7⟩ := msg_cells HX9.out
  clear hW9 W9 HP7 HW7 HX7 HG7 HQA7 HQU7 HOA7 HOU7 HC HT7 HEX7 HTR hb79 hbw7 hb37 hbz hbd
  go_wp2_with fail
  refine (HMX.out _ _ (w3.heap.size + 1) _ (own_of HQA9.out hg3' hA) (own_of HQU9.out (by omega) hU) (fun g h1 h2 => by simp [Value.ownBlock] at h1 h2; omega)).mono ?_
  rintro e w10 ⟨rfl, _, _, hk10⟩
  clear x0 x1 x2 x3 x4 x5 x6 x7
  have HLX : Hid (∀ k, (Value.slice (some ⟨g3, 0, none⟩) A.length A.length).ownBlock = some k ∨ (Value.slice (some ⟨g4, 0, none⟩) U.length U.length).ownBlock = some k → w3.heap.size + 1 ≤ k ∧ k < w4.heap.size) := fun k h => by
    rcases h with h | h
    · simp [Value.ownBlock] at h; omega
    · simp [Value.ownBlock] at h; omega
  have HP10 : Hid (w10.heap[w.heap.size]? = some (.cells #[.int .i64 mi, .bool reply, .bool cutm, .int .i64 code, .string nm, .int .i64 ty, .slice aa A.length ca, .slice au U.length cu] 47)) := (hk10.block w.heap.size (by omega) (fun h => by have h1 := HLX.out _ h; omega)).trans HP9.out
  have HW10 : Hid (w10.heap[w3.heap.size]? = some (.cells #[.int .i64 mi2, .bool reply2, .bool cutm2, .int .i64 code2, .string nm2, .int .i64 ty2, .slice aw6 A2.length cw6, .slice aw7 U2.length cw7] 25)) := (hk10.block w3.heap.size (by omega) (fun h => by have h1 := HLX.out _ h; omega)).trans HW9.out
  have HG10 : Hid (w10.heap[w6.heap.size]? = some (.cells #[.int .i64 mi2, .bool reply2, .bool cutm2, .int .i64 code2, .string nm2, .int .i64 ty2, .slice ag6 A2.length cg6, .slice ag7 U2.length cg7] 25)) := (hk10.block w6.heap.size (by omega) (fun h => by have h1 := HLX.out _ h; omega)).trans HG9.out
  have HOA10 : Hid (OwnQ w10 (w4.heap.size + 1) (.slice ag6 A2.length cg6) A2) := HOA9.out.kpt hk10 (fun g hg h => by have h1 := HLX.out _ h; have h2 := HLG.out g (.inl hg); omega)
  have HOU10 : Hid (OwnQ w10 (w4.heap.size + 1) (.slice ag7 U2.length cg7) U2) := HOU9.out.kpt hk10 (fun g hg h => by have h1 := HLX.out _ h; have h2 := HLG.out g (.inr hg); omega)
  have hb310 : Below w3.heap.size w3 w10 := hb39.trans (hk10.below hb39.size (fun k hk h => by have h1 := HLX.out _ h; omega))
  have hbw10 : Below w.heap.size w w10 := hbw9.trans (hk10.below hbw9.size (fun k hk h => by have h1 := HLX.out _ h; omega))
  have hz910 : w9.heap.size ≤ w10.heap.size := hk10.size
  obtain ⟨c0, c1, c2, c3, c4, c5, c6, c7⟩ := msg_cells HW10.out
  obtain ⟨d0, d1, d2, d3, d4, d5, d6, d7⟩ := msg_cells HG10.out
  clear hk10 HP9 HW9 HX9 HG9 HQA9 HQU9 HOA9 HOU9 hb39 hbw9 HLX
  go_wp2_with fail
  refine (HEG.out _ _ _ _ _ HOA10.out.row HOU10.out.row (HRA.out _ hb310) (HRU.out _ hb310)).mono ?_
  rintro e w11 ⟨rfl, hb11⟩
  clear c0 c1 c2 c3 c4 c5 c6 c7 d0 d1 d2 d3 d4 d5 d6 d7
  have HP11 : Hid (w11.heap[w.heap.size]? = some (.cells #[.int .i64 mi, .bool reply, .bool cutm, .int .i64 code, .string nm, .int .i64 ty, .slice aa A.length ca, .slice au U.length cu] 47)) := (hb11.block w.heap.size (by omega)).trans HP10.out
  have HW11 : Hid (w11.heap[w3.heap.size]? = some (.cells #[.int .i64 mi2, .bool reply2, .bool cutm2, .int .i64 code2, .string nm2, .int .i64 ty2, .slice aw6 A2.length cw6, .slice aw7 U2.length cw7] 25)) := (hb11.block w3.heap.size (by omega)).trans HW10.out
  have HG11 : Hid (w11.heap[w6.heap.size]? = some (.cells #[.int .i64 mi2, .bool reply2, .bool cutm2, .int .i64 code2, .string nm2, .int .i64 ty2, .slice ag6 A2.length cg6, .slice ag7 U2.length cg7] 25)) := (hb11.block w6.heap.size (by omega)).trans HG10.out
  have HOA11 : Hid (OwnQ w11 (w4.heap.size + 1) (.slice ag6 A2.length cg6) A2) := HOA10.out.kept hb11
  have HOU11 : Hid (OwnQ w11 (w4.heap.size + 1) (.slice ag7 U2.length cg7) U2) := HOU10.out.kept hb11
  have hb311 : Below w3.heap.size w3 w11 := hb310.trans (hb11.mono hb310.size)
  have hbw11 : Below w.heap.size w w11 := hbw10.trans (hb11.mono hbw10.size)
  have hz1011 : w10.heap.size ≤ w11.heap.size := hb11.size
  obtain ⟨d0, d1, d2, d3, d4, d5, d6, d7⟩ := msg_cells HG11.out
  clear hb11 HP10 HW10 HG10 HOA10 HOU10 hb310 hbw10
  go_wp2_with fail
  refine (HMG.out _ _ (w4.heap.size + 1) _ HOA11.out HOU11.out HAP.out).mono ?_
  rintro e w12 ⟨rfl, ho12, hu12, hk12⟩
  clear d0 d1 d2 d3 d4 d5 d6 d7
  have HP12 : Hid (w12.heap[w.heap.size]? = some (.cells #[.int .i64 mi, .bool reply, .bool cutm, .int .i64 code, .string nm, .int .i64 ty, .slice aa A.length ca, .slice au U.length cu] 47)) := (hk12.block w.heap.size (by omega) (fun h => by have h1 := HLG.out _ h; omega)).trans HP11.out
  have HW12 : Hid (w12.heap[w3.heap.size]? = some (.cells #[.int .i64 mi2, .bool reply2, .bool cutm2, .int .i64 code2, .string nm2, .int .i64 ty2, .slice aw6 A2.length cw6, .slice aw7 U2.length cw7] 25)) := (hk12.block w3.heap.size (by omega) (fun h => by have h1 := HLG.out _ h; omega)).trans HW11.out
  have HG12 : Hid (w12.heap[w6.heap.size]? = some (.cells #[.int .i64 mi2, .bool reply2, .bool cutm2, .int .i64 code2, .string nm2, .int .i64 ty2, .slice ag6 A2.length cg6, .slice ag7 U2.length cg7] 25)) := (hk12.block w6.heap.size (by omega) (fun h => by have h1 := HLG.out _ h; omega)).trans HG11.out
  have hb312 : Below w3.heap.size w3 w12 := hb311.trans (hk12.below hb311.size (fun k hk h => by have h1 := HLG.out _ h; omega))
  have hbw12 : Below w.heap.size w w12 := hbw11.trans (hk12.below hbw11.size (fun k hk h => by have h1 := HLG.out _ h; omega))
  have hz1112 : w11.heap.size ≤ w12.heap.size := hk12.size
  have HO12 : Hid (OwnQ w12 (w4.heap.size + 1) (.slice ag6 A2.length cg6) (mrks 1 A2.length)) := ho12
  have HU12 : Hid (OwnQ w12 (w4.heap.size + 1) (.slice ag7 U2.length cg7) (mrks (1 + 4 * A2.length) U2.length)) := hu12
  obtain ⟨d0, d1, d2, d3, d4, d5, d6, d7⟩ := msg_cells HG12.out
  clear ho12 hu12 hk12 HP11 HW11 HG11 HOA11 HOU11 hb311 hbw11
  go_wp2_with fail
  refine (HHG.out _ _ _ _ HO12.out HU12.out).mono ?_
  rintro e w13 ⟨rfl, hb13⟩
  clear d0 d1 d2 d3 d4 d5 d6 d7
  have HP13 : Hid (w13.heap[w.heap.size]? = some (.cells #[.int .i64 mi, .bool reply, .bool cutm, .int .i64 code, .string nm, .int .i64 ty, .slice aa A.length ca, .slice au U.length cu] 47)) := (hb13.block w.heap.size (by omega)).trans HP12.out
  have HW13 : Hid (w13.heap[w3.heap.size]? = some (.cells #[.int .i64 mi2, .bool reply2, .bool cutm2, .int .i64 code2, .string nm2, .int .i64 ty2, .slice aw6 A2.length cw6, .slice aw7 U2.length cw7] 25)) := (hb13.block w3.heap.size (by omega)).trans HW12.out
  have HG13 : Hid (w13.heap[w6.heap.size]? = some (.cells #[.int .i64 mi2, .bool reply2, .bool cutm2, .int .i64 code2, .string nm2, .int .i64 ty2, .slice ag6 A2.length cg6, .slice ag7 U2.length cg7] 25)) := (hb13.block w6.heap.size (by omega)).trans HG12.out
  have HO13 : Hid (OwnQ w13 (w4.heap.size + 1) (.slice ag6 A2.length cg6) (mrks 1 A2.length)) := HO12.out.kept hb13
  have HU13 : Hid (OwnQ w13 (w4.heap.size + 1) (.slice ag7 U2.length cg7) (mrks (1 + 4 * A2.length) U2.length)) := HU12.out.kept hb13
  have hb313 : Below w3.heap.size w3 w13 := hb312.trans (hb13.mono hb312.size)
  have hbw13 : Below w.heap.size w w13 := hbw12.trans (hb13.mono hbw12.size)
  have hz1213 : w12.heap.size ≤ w13.heap.size := hb13.size
  obtain ⟨p0, p1, p2, p3, p4, p5, p6, p7⟩ := msg_cells HP13.out
  clear hb13 HP12 HW12 HG12 HO12 HU12 hb312 hbw12
  go_wp2_with fail
  refine (HT.out _ hbw13).mono ?_
  rintro e w14 ⟨⟨g7, g8, rfl, _, _, hqa14, hqu14⟩, hb14⟩
  clear p0 p1 p2 p3 p4 p5 p6 p7
  have HQA14 : Hid (QRow w14 g7 A) := hqa14
  have HQU14 : Hid (QRow w14 g8 U) := hqu14
  have hbw14 : Below w.heap.size w w14 := hbw13.trans (hb14.mono hbw13.size)
  have HK14 : Hid (Below w13.heap.size w13 w14) := hb14
  clear hqa14 hqu14 hb14
  go_wp2_with fail
  refine (HI.out g7 g8 _ (hE.below hbw14) HQA14.out HQU14.out).mono ?_
  rintro e w15 ⟨⟨vh6, vh7, rfl, hoa15, hou15, _⟩, hb15⟩
  obtain ⟨ah6, ch6, hvh6, hch6⟩ := hoa15.shape
  obtain ⟨ah7, ch7, hvh7, hch7⟩ := hou15.shape
  subst hvh6
  subst hvh7
  unfold MsgV
  have HRA15 : Hid (RRow w15 (.slice ah6 A2.length ch6) A2) := hoa15.row
  have HRU15 : Hid (RRow w15 (.slice ah7 U2.length ch7) U2) := hou15.row
  have hb1315 : Below w13.heap.size w13 w15 := HK14.out.trans (hb15.mono HK14.out.size)
  have HW15 : Hid (w15.heap[w3.heap.size]? = some (.cells #[.int .i64 mi2, .bool reply2, .bool cutm2, .int .i64 code2, .string nm2, .int .i64 ty2, .slice aw6 A2.length cw6, .slice aw7 U2.length cw7] 25)) := (hb1315.block w3.heap.size (by omega)).trans HW13.out
  have HG15 : Hid (w15.heap[w6.heap.size]? = some (.cells #[.int .i64 mi2, .bool reply2, .bool cutm2, .int .i64 code2, .string nm2, .int .i64 ty2, .slice ag6 A2.length cg6, .slice ag7 U2.length cg7] 25)) := (hb1315.block w6.heap.size (by omega)).trans HG13.out
  have HO15 : Hid (OwnQ w15 (w4.heap.size + 1) (.slice ag6 A2.length cg6) (mrks 1 A2.length)) := HO13.out.kept hb1315
  have HU15 : Hid (OwnQ w15 (w4.heap.size + 1) (.slice ag7 U2.length cg7) (mrks (1 + 4 * A2.length) U2.length)) := HU13.out.kept hb1315
  have hb315 : Below w3.heap.size w3 w15 := hb313.trans (hb1315.mono hb313.size)
  have hbw15 : Below w.heap.size w w15 := hbw13.trans (hb1315.mono hbw13.size)
  have hz1315 : w13.heap.size ≤ w15.heap.size := hb1315.size
  have hlt315 : w3.heap.size < w15.heap.size := by omega
  obtain ⟨c0, c1, c2, c3, c4, c5, c6, c7⟩ := msg_cells HW15.out
  clear hoa15 hou15 hb15 hb1315 HK14 HP13 HW13 HG13 HO13 HU13 hb313 hbw13 hbw14 HQA14 HQU14
  go_wp2_with fail
  refine (HEG.out _ _ _ _ _ (HRA15.out.kept ((Below.refl w15.heap.size w15).alloc (Nat.le_refl _) _)) (HRU15.out.kept ((Below.refl w15.heap.size w15).alloc (Nat.le_refl _) _)) (HRA.out _ (hb315.alloc hb315.size _)) (HRU.out _ (hb315.alloc hb315.size _))).mono ?_
  rintro e w16 ⟨rfl, hb16⟩
  clear c0 c1 c2 c3 c4 c5 c6 c7
  have hb1516 : Below w15.heap.size w15 w16 := ((Below.refl w15.heap.size w15).alloc (Nat.le_refl _) _).trans (hb16.mono (by simp))
  have HG16 : Hid (w16.heap[w6.heap.size]? = some (.cells #[.int .i64 mi2, .bool reply2, .bool cutm2, .int .i64 code2, .string nm2, .int .i64 ty2, .slice ag6 A2.length cg6, .slice ag7 U2.length cg7] 25)) := (hb1516.block w6.heap.size (by omega)).trans HG15.out
  have HO16 : Hid (OwnQ w16 (w4.heap.size + 1) (.slice ag6 A2.length cg6) (mrks 1 A2.length)) := HO15.out.kept hb1516
  have HU16 : Hid (OwnQ w16 (w4.heap.size + 1) (.slice ag7 U2.length cg7) (mrks (1 + 4 * A2.length) U2.length)) := HU15.out.kept hb1516
  have hbw16 : Below w.heap.size w w16 := hbw15.trans (hb1516.mono hbw15.size)
  obtain ⟨d0, d1, d2, d3, d4, d5, d6, d7⟩ := msg_cells HG16.out
  clear hb16 hb1516 HW15 HG15 HO15 HU15 hb315 hbw15
  go_wp2_with fail
  refine (HHG.out _ _ _ _ HO16.out HU16.out).mono ?_
  rintro e w17 ⟨rfl, hb17⟩
  have hbw17 : Below w.heap.size w w17 := hbw16.trans (hb17.mono hbw16.size)
  clear d0 d1 d2 d3 d4 d5 d6 d7 hb17 hbw16
  go_wp2_with fail
  go_ret
  exact ⟨rfl, hbw17⟩

theorem cutM_lens (mi code : Int) (nm : List UInt8) (ty size : Int) : ∀ (f : Nat) (c : Bool) (A U : List (List UInt8 × Int × Int × List UInt8)) (c2 : Bool) (A2 U2 : List (List UInt8 × Int × Int × List UInt8)), cutM mi code nm ty size f c A U = some (c2, A2, U2) → A2.length ≤ A.length ∧ U2.length ≤ U.length
  | 0, c, A, U, c2, A2, U2, h => by rw [cutM] at h; cases h
  | f + 1, c, A, U, c2, A2, U2, h => by
    rw [cutM] at h
    split at h
    · simp only [Option.some.injEq, Prod.mk.injEq] at h
      obtain ⟨_, rfl, rfl⟩ := h
      exact ⟨Nat.le_refl _, Nat.le_refl _⟩
    · split at h
      · have h1 := cutM_lens mi code nm ty size f _ _ _ _ _ _ h
        have h2 : (lessL U).length ≤ U.length := List.length_take_le' _ _
        exact ⟨h1.1, Nat.le_trans h1.2 h2⟩
      · split at h
        · have h1 := cutM_lens mi code nm ty size f _ _ _ _ _ _ h
          have h2 : (lessL A).length ≤ A.length := List.length_take_le' _ _
          exact ⟨Nat.le_trans h1.1 h2, h1.2⟩
        · cases h
theorem cutR_lens {mi : Int} {reply cutm : Bool} {code : Int} {nm : List UInt8} {ty : Int} {A U : List (List UInt8 × Int × Int × List UInt8)} {size : Int} {c2 : Bool} {A2 U2 : List (List UInt8 × Int × Int × List UInt8)} (h : cutR mi reply cutm code nm ty A U size = some (c2, A2, U2)) : A2.length ≤ 12 ∧ U2.length ≤ 12 := by
  unfold cutR at h
  split at h
  · rename_i hc
    have h1 := cutM_lens _ _ _ _ _ _ _ _ _ _ _ _ h
    have h2 := (goodM hc.1).few
    have h3 := (goodM hc.1).fewU
    omega
  · cases h
set_option maxRecDepth 20000 in
set_option maxHeartbeats 1000000 in
theorem walk (mi : Int) (reply cutm : Bool) (code : Int) (nm : ByteArray) (ty : Int) (va vu : Value) (A U : List (List UInt8 × Int × Int × List UInt8)) (size : Int) (w : World)
    (hn : nm.size ≤ maxLen) (ha : RRow w va A) (hxa : Hid (∀ x ∈ A, x.1.length ≤ maxLen ∧ x.2.2.2.length ≤ maxLen)) (hu : RRow w vu U) (hxu : Hid (∀ x ∈ U, x.1.length ≤ maxLen ∧ x.2.2.2.length ≤ maxLen)) (_hs : -9223372036854775808 ≤ size ∧ size ≤ 9223372036854775807) (hE : EnvR w) :
    Calls Tryz.prog 6 #[MsgV mi reply cutm code nm ty va vu, .int .i64 size] w fun e w' => e = .returned (.bool true) ∧ Below w.heap.size w w' := by
  have la : A.length ≤ maxLen := by obtain ⟨_, cap, _, h1, h2, _⟩ := ha; omega
  have lu : U.length ≤ maxLen := by obtain ⟨_, cap, _, h1, h2, _⟩ := hu; omega
  have hsome : ∀ (g n c : Nat) (m d : Nat), Value.slice (some ⟨g, 0, none⟩) n c = .slice none m d → d = 0 := fun g n c m d h => by cases h
  cases hB : cutR mi reply cutm code nm.data.toList ty A U size with
  | none =>
    refine core mi reply cutm code nm ty va vu A U size w false 0 false false 0 ⟨#[]⟩ 0 [] [] hn ha hxa hu hxu (by simp) (by simp) hE (fun h0 h1 h2 g1 g2 W q1 q2 => ?_) (fun h0 h1 h2 g1 g2 W hW q1 q2 => ?_)
    · exact (sCutMessage_any mi reply cutm code nm ty _ _ A U size W h0 (q1.row (Nat.le_refl _) la) (q2.row (Nat.le_refl _) lu) h1 h2 (hsome _ _ _) (hsome _ _ _)).mono (fun e w' h' => ⟨h'.1.1 hB, h'.2⟩)
    · exact (iCutMessage_any mi reply cutm code nm ty _ _ A U size W h0 (q1.row (Nat.le_refl _) la) (q2.row (Nat.le_refl _) lu) h1 h2 (hsome _ _ _) (hsome _ _ _) hW).mono (fun e w' h' => ⟨h'.1.1 hB, h'.2⟩)
  | some y =>
    obtain ⟨c2, A2, U2⟩ := y
    obtain ⟨k1, k2⟩ := cutR_lens hB
    refine core mi reply cutm code nm ty va vu A U size w true mi true c2 code nm ty A2 U2 hn ha hxa hu hxu (by omega) (by omega) hE (fun h0 h1 h2 g1 g2 W q1 q2 => ?_) (fun h0 h1 h2 g1 g2 W hW q1 q2 => ?_)
    · exact (sCutMessage_any mi reply cutm code nm ty _ _ A U size W h0 (q1.row (Nat.le_refl _) la) (q2.row (Nat.le_refl _) lu) h1 h2 (hsome _ _ _) (hsome _ _ _)).mono (fun e w' h' => ⟨h'.1.2 c2 A2 U2 hB, h'.2⟩)
    · exact (iCutMessage_any mi reply cutm code nm ty _ _ A U size W h0 (q1.row (Nat.le_refl _) la) (q2.row (Nat.le_refl _) lu) h1 h2 (hsome _ _ _) (hsome _ _ _) hW).mono (fun e w' h' => ⟨h'.1.2 c2 A2 U2 hB, h'.2⟩)
end Go.Proofs.YtpghpeombednkaaGreatDoor.cutMessage
