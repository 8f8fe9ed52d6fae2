import Derived.Test.YtpghpeombednkaaGreatDoorZ29
import Derived.Test.YtpghpeombednkaaGreatDoorZ28
namespace Go.Proofs.YtpghpeombednkaaGreatDoor
open Go.RowKit

/-- What is left of a message that is cut. -/
def cutM (mi code : Int) (nm : List UInt8) (ty size : Int) : Nat → Bool → List (List UInt8 × Int × Int × List UInt8) → List (List UInt8 × Int × Int × List UInt8) → Option (Bool × List (List UInt8 × Int × Int × List UInt8) × List (List UInt8 × Int × Int × List UInt8))
  | 0, _, _, _ => none
  | f + 1, c, A, U => if ((msgW mi true c code nm ty A U).length : Int) ≤ size then some (c, A, U) else if 0 < U.length then cutM mi code nm ty size f true A (lessL U) else if 0 < A.length then cutM mi code nm ty size f true (lessL A) U else none
def cutR (mi : Int) (reply cutm : Bool) (code : Int) (nm : List UInt8) (ty : Int) (A U : List (List UInt8 × Int × Int × List UInt8)) (size : Int) : Option (Bool × List (List UInt8 × Int × Int × List UInt8) × List (List UInt8 × Int × Int × List UInt8)) :=
  if msgB mi reply cutm code nm ty A U = true ∧ reply = true ∧ 20 ≤ size ∧ size ≤ 600 then cutM mi code nm ty size (A.length + U.length + 1) cutm A U else none
/-- The state of a cutting that tells R. -/
def GoC (mi code : Int) (nm : List UInt8) (ty size : Int) (R : Option (Bool × List (List UInt8 × Int × Int × List UInt8) × List (List UInt8 × Int × Int × List UInt8))) (c : Bool) (A U : List (List UInt8 × Int × Int × List UInt8)) : Prop :=
  ∃ f, A.length + U.length < f ∧ cutM mi code nm ty size f c A U = R
section
variable {mi code : Int} {nm : List UInt8} {ty size : Int} {R : Option (Bool × List (List UInt8 × Int × Int × List UInt8) × List (List UInt8 × Int × Int × List UInt8))} {c : Bool} {A U : List (List UInt8 × Int × Int × List UInt8)}
theorem goC_done (g : GoC mi code nm ty size R c A U) (h : ((msgW mi true c code nm ty A U).length : Int) ≤ size) : R = some (c, A, U) := by
  obtain ⟨f, hf, hr⟩ := g
  obtain ⟨m, rfl⟩ : ∃ m, f = m + 1 := ⟨f - 1, by omega⟩
  rw [cutM, if_pos h] at hr; exact hr.symm
theorem goC_auth (g : GoC mi code nm ty size R c A U) (h : ¬ ((msgW mi true c code nm ty A U).length : Int) ≤ size) (h1 : 0 < U.length) : GoC mi code nm ty size R true A (lessL U) := by
  obtain ⟨f, hf, hr⟩ := g
  obtain ⟨m, rfl⟩ : ∃ m, f = m + 1 := ⟨f - 1, by omega⟩
  rw [cutM, if_neg h, if_pos h1] at hr
  have := lessL_lt h1
  exact ⟨m, by omega, hr⟩
theorem goC_ans (g : GoC mi code nm ty size R c A U) (h : ¬ ((msgW mi true c code nm ty A U).length : Int) ≤ size) (h1 : ¬ 0 < U.length) (h2 : 0 < A.length) : GoC mi code nm ty size R true (lessL A) U := by
  obtain ⟨f, hf, hr⟩ := g
  obtain ⟨m, rfl⟩ : ∃ m, f = m + 1 := ⟨f - 1, by omega⟩
  rw [cutM, if_neg h, if_neg h1, if_pos h2] at hr
  have := lessL_lt h2
  exact ⟨m, by omega, hr⟩
theorem goC_none (g : GoC mi code nm ty size R c A U) (h : ¬ ((msgW mi true c code nm ty A U).length : Int) ≤ size) (h1 : ¬ 0 < U.length) (h2 : ¬ 0 < A.length) : R = none := by
  obtain ⟨f, hf, hr⟩ := g
  obtain ⟨m, rfl⟩ : ∃ m, f = m + 1 := ⟨f - 1, by omega⟩
  rw [cutM, if_neg h, if_neg h1, if_neg h2] at hr; exact hr.symm
theorem goodM_auth {c2 : Bool} (h : GoodM mi true c code nm ty A U) : GoodM mi true c2 code nm ty A (lessL U) := by
  have hl : (lessL U).length ≤ U.length := List.length_take_le' _ _
  exact ⟨h.id0, h.id1, h.code0, h.code1, h.name, h.ty0, h.ty1, h.few, Nat.le_trans hl h.fewU, fun x hx => h.all x (by
    rcases List.mem_append.1 hx with hx | hx
    · exact List.mem_append.2 (.inl hx)
    · exact List.mem_append.2 (.inr (lessL_mem hx))), fun e => by cases e⟩
theorem goodM_ans {c2 : Bool} (h : GoodM mi true c code nm ty A U) : GoodM mi true c2 code nm ty (lessL A) U := by
  have hl : (lessL A).length ≤ A.length := List.length_take_le' _ _
  exact ⟨h.id0, h.id1, h.code0, h.code1, h.name, h.ty0, h.ty1, Nat.le_trans hl h.few, h.fewU, fun x hx => h.all x (by
    rcases List.mem_append.1 hx with hx | hx
    · exact List.mem_append.2 (.inl (lessL_mem hx))
    · exact List.mem_append.2 (.inr hx)), fun e => by cases e⟩
end
theorem OwnQ.mono {w : World} {base base' : Nat} {v : Value} {L : List (List UInt8 × Int × Int × List UInt8)} (h : OwnQ w base v L) (hb : base' ≤ base) : OwnQ w base' v L := by
  rcases h with h | ⟨g, cap, e, h1, h2, h3, hs⟩
  · exact .inl h
  · exact .inr ⟨g, cap, e, h1, h2, Nat.le_trans hb h3, hs⟩
theorem OwnQ.nil {w : World} {base : Nat} {v : Value} {L : List (List UInt8 × Int × Int × List UInt8)} (h : OwnQ w base v L) : ∀ n c, v = .slice none n c → c = 0 := by
  rcases h with ⟨rfl, _⟩ | ⟨g, cap, rfl, _⟩
  · intro n c e; cases e; rfl
  · intro n c e; cases e
/-- How many elements a slice in a cell has. -/
def lenAt (w : World) (b i : Nat) : Nat := match w.cell? ⟨b, i, none⟩ with
  | some (.slice _ n _) => n
  | _ => 0
theorem lenAt_eq {w : World} {b i n c : Nat} {a : Option Addr} (h : w.cell? ⟨b, i, none⟩ = some (.slice a n c)) : lenAt w b i = n := by unfold lenAt; rw [h]
end Go.Proofs.YtpghpeombednkaaGreatDoor

namespace Go.Proofs.YtpghpeombednkaaGreatDoor
open Go.RowKit

/-- What CutMessage tells. -/
def CutRes (w' : World) (R : Option (Bool × List (List UInt8 × Int × Int × List UInt8) × List (List UInt8 × Int × Int × List UInt8))) (mi code : Int) (nm : ByteArray) (ty : Int) (e : Ending) : Prop :=
  (R = none → MRes w' false 0 false false 0 ⟨#[]⟩ 0 [] [] e) ∧ ∀ c A U, R = some (c, A, U) → MRes w' true mi true c code nm ty A U e
theorem cutn {w' : World} {R : Option (Bool × List (List UInt8 × Int × Int × List UInt8) × List (List UInt8 × Int × Int × List UInt8))} {mi code : Int} {nm : ByteArray} {ty : Int} (h : R = none) : CutRes w' R mi code nm ty (.returned (.tuple #[noMsg, .bool false])) :=
  ⟨fun _ => mres_no _, fun c A U h2 => by rw [h] at h2; cases h2⟩
theorem cuty {w' : World} {R : Option (Bool × List (List UInt8 × Int × Int × List UInt8) × List (List UInt8 × Int × Int × List UInt8))} {mi code : Int} {nm : ByteArray} {ty : Int} {c : Bool} {A U : List (List UInt8 × Int × Int × List UInt8)} {va vu : Value} (h : R = some (c, A, U)) (ha : RRow w' va A) (hu : RRow w' vu U) :
    CutRes w' R mi code nm ty (.returned (.tuple #[MsgV mi true c code nm ty va vu, .bool true])) :=
  ⟨fun h2 => (by rw [h] at h2; cases h2), fun c2 A2 U2 h2 => by
    rw [h] at h2
    simp only [Option.some.injEq, Prod.mk.injEq] at h2
    obtain ⟨rfl, rfl, rfl⟩ := h2
    exact ⟨va, vu, rfl, ha, hu⟩⟩

/-- The cutting, at the head of the loop. -/
structure CutI (w0 : World) (mi code : Int) (nm : ByteArray) (ty size : Int) (R : Option (Bool × List (List UInt8 × Int × Int × List UInt8) × List (List UInt8 × Int × Int × List UInt8))) (D : List (List UInt8 × Int × Int × List UInt8) → Prop) (W : World) (c : Bool) (A U : List (List UInt8 × Int × Int × List UInt8)) (v1 v2 : Value) : Prop where
  msg : W.heap[w0.heap.size]? = some (.cells #[.int .i64 mi, .bool true, .bool c, .int .i64 code, .string nm, .int .i64 ty, v1, v2] 25)
  res : W.heap[w0.heap.size + 1]? = some (.cells #[.int .i64 0, .bool false, .bool false, .int .i64 0, .string ⟨#[]⟩, .int .i64 0, .slice none 0 0, .slice none 0 0] 25)
  below : Below w0.heap.size w0 W
  big : w0.heap.size + 2 ≤ W.heap.size
  own1 : OwnQ W (w0.heap.size + 2) v1 A
  own2 : OwnQ W (w0.heap.size + 2) v2 U
  good : GoodM mi true c code nm.data.toList ty A U
  going : GoC mi code nm.data.toList ty size R c A U
  small : D (A ++ U)
theorem CutI.kept {w0 W W2 : World} {mi code : Int} {nm : ByteArray} {ty size : Int} {R : Option (Bool × List (List UInt8 × Int × Int × List UInt8) × List (List UInt8 × Int × Int × List UInt8))} {D : List (List UInt8 × Int × Int × List UInt8) → Prop} {c : Bool} {A U : List (List UInt8 × Int × Int × List UInt8)} {v1 v2 : Value} (h : CutI w0 mi code nm ty size R D W c A U v1 v2) (hb : Below W.heap.size W W2) : CutI w0 mi code nm ty size R D W2 c A U v1 v2 :=
  ⟨(hb.block _ (by have := h.big; omega)).trans h.msg, (hb.block _ (by have := h.big; omega)).trans h.res, h.below.trans (hb.mono h.below.size), Nat.le_trans h.big hb.size, h.own1.kept hb, h.own2.kept hb, h.good, h.going, h.small⟩
/-- The last set of Authority is gone. -/
theorem CutI.auth {w0 W W2 : World} {mi code : Int} {nm : ByteArray} {ty size : Int} {R : Option (Bool × List (List UInt8 × Int × Int × List UInt8) × List (List UInt8 × Int × Int × List UInt8))} {D : List (List UInt8 × Int × Int × List UInt8) → Prop} (hD : ∀ X Y, (∀ x ∈ X, x ∈ Y) → D Y → D X) {c : Bool} {A U : List (List UInt8 × Int × Int × List UInt8)} {v1 v2 u : Value} (h : CutI w0 mi code nm ty size R D W c A U v1 v2) (hb : Below W.heap.size W W2) (hu : OwnQ W2 W.heap.size u (lessL U))
    (hn : ¬ ((msgW mi true c code nm.data.toList ty A U).length : Int) ≤ size) (h1 : 0 < U.length) : CutI w0 mi code nm ty size R D ((W2.setCell ⟨w0.heap.size, 7, none⟩ u).setCell ⟨w0.heap.size, 2, none⟩ (.bool true)) true A (lessL U) v1 u := by
  have k := h.kept hb
  have hz := k.big
  have K : Kpt W2 ((W2.setCell ⟨w0.heap.size, 7, none⟩ u).setCell ⟨w0.heap.size, 2, none⟩ (.bool true)) (fun j => j = w0.heap.size) := (kpt_set _ _ _ _ (S := fun j => j = w0.heap.size) rfl).trans (kpt_set _ _ _ _ rfl)
  refine ⟨?_, (K.block _ (by omega) (by omega)).trans k.res, k.below.trans (K.below k.below.size (fun j hj => by omega)), Nat.le_trans hz K.size, k.own1.kpt K (fun g hg e => by have := k.own1.lt g hg; omega), (hu.mono h.big).kpt K (fun g hg e => by have := (hu.mono h.big).lt g hg; omega), goodM_auth h.good, goC_auth h.going hn h1, hD _ _ (fun x hx => ?_) h.small⟩
  · have e1 := heap_setCell_same _ _ 7 _ _ u k.msg
    have e2 := heap_setCell_same _ _ 2 _ _ (.bool true) e1
    exact e2.trans (by rfl)
  · rcases List.mem_append.1 hx with hx | hx
    · exact List.mem_append.2 (.inl hx)
    · exact List.mem_append.2 (.inr (lessL_mem hx))
/-- The last set of Answer is gone. -/
theorem CutI.ans {w0 W W2 : World} {mi code : Int} {nm : ByteArray} {ty size : Int} {R : Option (Bool × List (List UInt8 × Int × Int × List UInt8) × List (List UInt8 × Int × Int × List UInt8))} {D : List (List UInt8 × Int × Int × List UInt8) → Prop} (hD : ∀ X Y, (∀ x ∈ X, x ∈ Y) → D Y → D X) {c : Bool} {A U : List (List UInt8 × Int × Int × List UInt8)} {v1 v2 u : Value} (h : CutI w0 mi code nm ty size R D W c A U v1 v2) (hb : Below W.heap.size W W2) (hu : OwnQ W2 W.heap.size u (lessL A))
    (hn : ¬ ((msgW mi true c code nm.data.toList ty A U).length : Int) ≤ size) (h0 : ¬ 0 < U.length) (h1 : 0 < A.length) : CutI w0 mi code nm ty size R D ((W2.setCell ⟨w0.heap.size, 6, none⟩ u).setCell ⟨w0.heap.size, 2, none⟩ (.bool true)) true (lessL A) U u v2 := by
  have k := h.kept hb
  have hz := k.big
  have K : Kpt W2 ((W2.setCell ⟨w0.heap.size, 6, none⟩ u).setCell ⟨w0.heap.size, 2, none⟩ (.bool true)) (fun j => j = w0.heap.size) := (kpt_set _ _ _ _ (S := fun j => j = w0.heap.size) rfl).trans (kpt_set _ _ _ _ rfl)
  refine ⟨?_, (K.block _ (by omega) (by omega)).trans k.res, k.below.trans (K.below k.below.size (fun j hj => by omega)), Nat.le_trans hz K.size, (hu.mono h.big).kpt K (fun g hg e => by have := (hu.mono h.big).lt g hg; omega), k.own2.kpt K (fun g hg e => by have := k.own2.lt g hg; omega), goodM_ans h.good, goC_ans h.going hn h0 h1, hD _ _ (fun x hx => ?_) h.small⟩
  · have e1 := heap_setCell_same _ _ 6 _ _ u k.msg
    have e2 := heap_setCell_same _ _ 2 _ _ (.bool true) e1
    exact e2.trans (by rfl)
  · rcases List.mem_append.1 hx with hx | hx
    · exact List.mem_append.2 (.inl (lessL_mem hx))
    · exact List.mem_append.2 (.inr hx)

set_option maxRecDepth 20000 in
set_option maxHeartbeats 8000000 in
theorem sCutMessage_any (mi : Int) (reply cutm : Bool) (code : Int) (nm : ByteArray) (ty : Int) (va vu : Value) (A U : List (List UInt8 × Int × Int × List UInt8)) (size : Int) (w : World) (hn : nm.size ≤ 1048576) (ha : RRow w va A) (hu : RRow w vu U)
    (hxa : Hid (∀ x ∈ A, x.1.length ≤ 1048576 ∧ x.2.2.2.length ≤ 1048576)) (hxu : Hid (∀ x ∈ U, x.1.length ≤ 1048576 ∧ x.2.2.2.length ≤ 1048576)) (hna : ∀ n c, va = .slice none n c → c = 0) (hnu : ∀ n c, vu = .slice none n c → c = 0) :
    Calls Tryz.prog 9 #[MsgV mi reply cutm code nm ty va vu, .int .i64 size] w fun e w' => CutRes w' (cutR mi reply cutm code nm.data.toList ty A U size) mi code nm ty e ∧ Below w.heap.size w w' := by
  have HG : Hid (∀ W, Below w.heap.size w W → Calls Tryz.prog 30 #[MsgV mi reply cutm code nm ty va vu] W fun e w' => e = .returned (.bool (msgB mi reply cutm code nm.data.toList ty A U)) ∧ Below W.heap.size W w') := fun W hW => sGoodMessage_any mi reply cutm code nm ty va vu A U W hn (ha.kept hW) (hu.kept hW) hxa hxu
  have HXD : Hid (∀ x ∈ A ++ U, x.2.2.2.length ≤ 1048576) := fun x hx => by
    rcases List.mem_append.1 hx with h | h
    · exact (hxa.out x h).2
    · exact (hxu.out x h).2
  obtain ⟨aa, ca, hva, _, hca, _⟩ := id ha
  obtain ⟨au, cu, hvu, _, hcu, _⟩ := id hu
  have HRA : Hid (∀ W, Below w.heap.size w W → RRow W va A) := fun W hW => ha.kept hW
  have HRU : Hid (∀ W, Below w.heap.size w W → RRow W vu U) := fun W hW => hu.kept hW
  subst hva
  subst hvu
  have HNA : Hid (∀ n c, Value.slice aa A.length ca = .slice none n c → c = 0) := hna
  have HNU : Hid (∀ n c, Value.slice au U.length cu = .slice none n c → c = 0) := hnu
  obtain ⟨ok, hok⟩ : ∃ ok, ok = msgB mi reply cutm code nm.data.toList ty A U := ⟨_, rfl⟩
  rw [← hok] at HG
  have HOK : Hid (ok = msgB mi reply cutm code nm.data.toList ty A U) := hok
  have HNO : Hid (∀ W : World, W.heap[w.heap.size + 1]? = some (.cells #[.int .i64 0, .bool false, .bool false, .int .i64 0, .string ⟨#[]⟩, .int .i64 0, .slice none 0 0, .slice none 0 0] 25) → (put8 W (w.heap.size + 1) (.int .i64 0) (.bool false) (.bool false) (.int .i64 0) (.string ⟨#[]⟩) (.int .i64 0) (.slice none 0 0) (.slice none 0 0)).heap[w.heap.size + 1]? = some (.cells #[.int .i64 0, .bool false, .bool false, .int .i64 0, .string ⟨#[]⟩, .int .i64 0, .slice none 0 0, .slice none 0 0] 25)) := fun W h => put8_heap h
  obtain ⟨R, hR⟩ : ∃ R, R = cutR mi reply cutm code nm.data.toList ty A U size := ⟨_, rfl⟩
  rw [← hR]
  have HR0 : Hid (¬ (ok = true ∧ reply = true ∧ 20 ≤ size ∧ size ≤ 600) → R = none) := fun h => by rw [hR]; exact if_neg (by rw [← hok]; exact h)
  have HR1 : Hid (ok = true → reply = true → 20 ≤ size → size ≤ 600 → GoC mi code nm.data.toList ty size R cutm A U) := fun h1 h2 h3 h4 => ⟨A.length + U.length + 1, by omega, by rw [hR]; exact (if_pos (by rw [← hok]; exact ⟨h1, h2, h3, h4⟩)).symm⟩
  clear ha hu hna hnu hok hR
  unfold MsgV at HG ⊢
  go_enter Tryz.func9, Tryz.ntmps9
  go_wp2_with fail
  refine (HG.out _ (((Below.refl w.heap.size w).alloc (Nat.le_refl _) _).alloc (by simp) _)).mono ?_
  rintro e w1 ⟨rfl, hb1⟩
  obtain ⟨hm, hr, hbw⟩ := heaps2 hb1
  have hz1 : w.heap.size + 2 ≤ w1.heap.size := by have h := hb1.size; simpa using h
  have HM : Hid (w1.heap[w.heap.size]? = some (.cells #[.int .i64 mi, .bool reply, .bool cutm, .int .i64 code, .string nm, .int .i64 ty, .slice aa A.length ca, .slice au U.length cu] 25)) := hm
  have HR : Hid (w1.heap[w.heap.size + 1]? = some (.cells #[.int .i64 0, .bool false, .bool false, .int .i64 0, .string ⟨#[]⟩, .int .i64 0, .slice none 0 0, .slice none 0 0] 25)) := hr
  obtain ⟨c0, c1, c2, c3, c4, c5, c6, c7⟩ := msg_cells hr
  obtain ⟨f0, f1, f2, f3, f4, f5, f6, f7⟩ := msg_frozen hr
  obtain ⟨d0, d1, d2, d3, d4, d5, d6, d7⟩ := msg_cells hm
  obtain ⟨g0, g1, g2, g3, g4, g5, g6, g7⟩ := msg_frozen hm
  clear hr hm hb1
  cases ok with
  | false =>
    have HN : Hid (R = none) := HR0.out (fun h => by cases h.1)
    go_wp2_with fail
    (try simp only [Exit.inBlock, Exit.then])
    refine bodyPost_ret (results_row_tmp rfl _ _ (w.heap.size + 1) 25 #[.int .i64 0, .bool false, .bool false, .int .i64 0, .string ⟨#[]⟩, .int .i64 0, .slice none 0 0, .slice none 0 0] (0, 0) _ (.bool false) rfl rfl ?_ Tryz.underlying25 rfl (by kernel_rfl)) rfl ⟨cutn HN.out, ?_⟩
    · exact HNO.out _ HR.out
    · exact put8_below hbw (Nat.le_succ _) _ _ _ _ _ _ _ _
  | true =>
    cases reply with
    | false =>
      have HN : Hid (R = none) := HR0.out (fun h => by cases h.2.1)
      go_wp2_with fail
      (try simp only [Exit.inBlock, Exit.then])
      refine bodyPost_ret (results_row_tmp rfl _ _ (w.heap.size + 1) 25 #[.int .i64 0, .bool false, .bool false, .int .i64 0, .string ⟨#[]⟩, .int .i64 0, .slice none 0 0, .slice none 0 0] (0, 0) _ (.bool false) rfl rfl ?_ Tryz.underlying25 rfl (by kernel_rfl)) rfl ⟨cutn HN.out, ?_⟩
      · exact HNO.out _ HR.out
      · exact put8_below hbw (Nat.le_succ _) _ _ _ _ _ _ _ _
    | true =>
      have HGO0 : Hid (20 ≤ size → size ≤ 600 → GoC mi code nm.data.toList ty size R cutm A U) := fun h3 h4 => HR1.out rfl rfl h3 h4
      have HGM : Hid (GoodM mi true cutm code nm.data.toList ty A U) := goodM HOK.out.symm
      have HR0b : Hid (¬ (20 ≤ size ∧ size ≤ 600) → R = none) := fun h => HR0.out (fun h1 => h h1.2.2)
      have hlt1 : w.heap.size < w1.heap.size := by omega
      clear HR0 HR1 HOK
      go_wp2_with fail
      refine (l1In_any size 20 600 _).mono ?_
      rintro e w1b ⟨rfl, rfl⟩
      cases hin : (decide ((20 : Int) ≤ size) && decide (size ≤ 600)) with
      | false =>
        have HN : Hid (R = none) := HR0b.out (fun h1 => by simp [h1.1, h1.2] at hin)
        clear hin
        go_wp2_with fail
        (try simp only [Exit.inBlock, Exit.then])
        refine bodyPost_ret (results_row_tmp rfl _ _ (w.heap.size + 1) 25 #[.int .i64 0, .bool false, .bool false, .int .i64 0, .string ⟨#[]⟩, .int .i64 0, .slice none 0 0, .slice none 0 0] (0, 0) _ (.bool false) rfl rfl ?_ Tryz.underlying25 rfl (by kernel_rfl)) rfl ⟨cutn HN.out, ?_⟩
        · exact HNO.out _ HR.out
        · exact put8_below hbw (Nat.le_succ _) _ _ _ _ _ _ _ _
      | true =>
        have HGO : Hid (GoC mi code nm.data.toList ty size R cutm A U) := by
          simp only [Bool.and_eq_true, decide_eq_true_eq] at hin
          exact HGO0.out hin.1 hin.2
        have hfa : A.length ≤ 12 := HGM.out.few
        have hfu : U.length ≤ 12 := HGM.out.fewU
        clear hin HGO0 HR0b
        go_wp2_with (first | (at_builtin; refine wpList_append_rows rfl (.tmp 20) (.tmp 22) 23 rfl Tryz.underlying23 (w.heap.size + 2) _ 0 [] rfl rfl (own_lit' _ _ _ (by simp) ?b1) _ A rfl (HRA.out _ ?b2) HNA.out ?b3 ?b4 ?_))
        case b1 => simpa using hz1
        case b2 => exact hbw.alloc hbw.size _
        case b3 => omega
        case b4 => simp; omega
        intro v1 w2 hown1 hgrow1
        clear c0 c1 c2 c3 c4 c5 c6 c7 f0 f1 f2 f3 f4 f5 f6 f7 d0 d1 d2 d3 d4 d5 d6 d7 g0 g1 g2 g3 g4 g5 g6 g7
        have hz2 : w1b.heap.size ≤ w2.heap.size := by have h := hgrow1.size; simp at h; omega
        have HK12 : Hid (Kpt w1b w2 (fun k => w1b.heap.size ≤ k)) := (kpt_alloc _ _ _).trans ((grown_kpt hgrow1).mono (fun k _ h => by simp [Value.ownBlock] at h; omega))
        have HM2 : Hid (w2.heap[w.heap.size]? = some (.cells #[.int .i64 mi, .bool true, .bool cutm, .int .i64 code, .string nm, .int .i64 ty, .slice aa A.length ca, .slice au U.length cu] 25)) := (HK12.out.block w.heap.size (by omega) (fun h => by omega)).trans HM.out
        have HR2 : Hid (w2.heap[w.heap.size + 1]? = some (.cells #[.int .i64 0, .bool false, .bool false, .int .i64 0, .string ⟨#[]⟩, .int .i64 0, .slice none 0 0, .slice none 0 0] 25)) := (HK12.out.block (w.heap.size + 1) (by omega) (fun h => by omega)).trans HR.out
        have hbw2 : Below w.heap.size w w2 := hbw.trans (HK12.out.below hbw.size (fun k hk h => by omega))
        obtain ⟨a1, cap1, hv1, hc1, hn1⟩ := own4_shape hown1
        have HO1 : Hid (OwnQ w2 (w.heap.size + 2) v1 A) := own_q hown1
        subst hv1
        obtain ⟨c0, c1, c2, c3, c4, c5, c6, c7⟩ := msg_cells HM2.out
        obtain ⟨f0, f1, f2, f3, f4, f5, f6, f7⟩ := msg_frozen HM2.out
        have hlt2 : w.heap.size < w2.heap.size := by omega
        clear hown1 hgrow1 hn1 HM HR HK12 hbw
        go_wp2_with (first | (at_builtin; refine wpList_append_rows rfl (.tmp 25) (.tmp 27) 23 rfl Tryz.underlying23 (w.heap.size + 2) _ 0 [] rfl rfl (own_lit' _ _ _ (by simp) ?b1) _ U rfl (HRU.out _ ?b2) HNU.out ?b3 ?b4 ?_))
        case b1 => simp; omega
        case b2 => exact (hbw2.setCell (p := ⟨w.heap.size, 6, none⟩) (Nat.le_refl _) _).alloc (by simpa using hbw2.size) _
        case b3 => omega
        case b4 => simp; omega
        intro v2 w3 hown2 hgrow2
        clear c0 c1 c2 c3 c4 c5 c6 c7 f0 f1 f2 f3 f4 f5 f6 f7
        have hz3 : w2.heap.size ≤ w3.heap.size := by have h := hgrow2.size; simp at h; omega
        have HK23 : Hid (Kpt w2 w3 (fun k => k = w.heap.size ∨ w2.heap.size ≤ k)) :=
          (kpt_set _ _ _ _ (.inl rfl)).trans ((kpt_alloc _ _ _).trans ((grown_kpt hgrow2).mono (fun k _ h => .inr (by simp [Value.ownBlock] at h; omega))))
        have HM3 : Hid (w3.heap[w.heap.size]? = some (.cells #[.int .i64 mi, .bool true, .bool cutm, .int .i64 code, .string nm, .int .i64 ty, .slice a1 A.length cap1, .slice au U.length cu] 25)) := by
          have e1 := heap_setCell_same _ _ 6 _ _ (.slice a1 A.length cap1) HM2.out
          have e3 := (((kpt_alloc _ _ _).trans (grown_kpt hgrow2)).block w.heap.size (by simp; omega) (fun h => by simp [Value.ownBlock] at h; omega)).trans e1
          exact e3.trans (by rfl)
        have HR3 : Hid (w3.heap[w.heap.size + 1]? = some (.cells #[.int .i64 0, .bool false, .bool false, .int .i64 0, .string ⟨#[]⟩, .int .i64 0, .slice none 0 0, .slice none 0 0] 25)) := (HK23.out.block (w.heap.size + 1) (by omega) (fun h => by omega)).trans HR2.out
        have hbw3 : Below w.heap.size w w3 := hbw2.trans (HK23.out.below hbw2.size (fun k hk h => by omega))
        obtain ⟨a2, cap2, hv2, hc2, hn2⟩ := own4_shape hown2
        have HO2 : Hid (OwnQ w3 (w.heap.size + 2) v2 U) := own_q hown2
        have HO1b : Hid (OwnQ w3 (w.heap.size + 2) (.slice a1 A.length cap1) A) := HO1.out.kpt HK23.out (fun g hg h => by have h1 := HO1.out.lt g hg; omega)
        subst hv2
        have HI0 : Hid (CutI w mi code nm ty size R (fun L => ∀ x ∈ L, x.2.2.2.length ≤ 1048576) (w3.setCell ⟨w.heap.size, 7, none⟩ (.slice a2 U.length cap2)) cutm A U (.slice a1 A.length cap1) (.slice a2 U.length cap2)) := by
          have K : Kpt w3 (w3.setCell ⟨w.heap.size, 7, none⟩ (.slice a2 U.length cap2)) (fun k => k = w.heap.size) := kpt_set _ _ _ _ rfl
          refine ⟨?_, (K.block _ (by omega) (by omega)).trans HR3.out, hbw3.trans (K.below hbw3.size (fun j hj => by omega)), by simp; omega, HO1b.out.kpt K (fun g hg e => by have := HO1b.out.lt g hg; omega), HO2.out.kpt K (fun g hg e => by have := HO2.out.lt g hg; omega), HGM.out, HGO.out, HXD.out⟩
          have e1 := heap_setCell_same _ _ 7 _ _ (.slice a2 U.length cap2) HM3.out
          exact e1.trans (by rfl)
        obtain ⟨c0, c1, c2, c3, c4, c5, c6, c7⟩ := msg_cells HM3.out
        obtain ⟨f0, f1, f2, f3, f4, f5, f6, f7⟩ := msg_frozen HM3.out
        clear hown2 hgrow2 hn2 HM2 HR2 HK23 hbw2 HO1 HO2 HO1b HM3 HR3 hbw3 hz2 hz3 hlt2 HGM HGO HXD
        have hD : ∀ X Y : List (List UInt8 × Int × Int × List UInt8), (∀ x ∈ X, x ∈ Y) → (∀ x ∈ Y, x.2.2.2.length ≤ 1048576) → (∀ x ∈ X, x.2.2.2.length ≤ 1048576) := fun X Y h1 h2 x hx => h2 x (h1 x hx)
        have HD : Hid (∀ X Y : List (List UInt8 × Int × Int × List UInt8), (∀ x ∈ X, x ∈ Y) → (∀ x ∈ Y, x.2.2.2.length ≤ 1048576) → (∀ x ∈ X, x.2.2.2.length ≤ 1048576)) := hD
        clear hD
        go_wp2_with fail
        clear c0 c1 c2 c3 c4 c5 c6 c7 f0 f1 f2 f3 f4 f5 f6 f7
        go_loopw [34] (fun _ wr => ∃ (c : Bool) (A' U' : List (List UInt8 × Int × Int × List UInt8)) (v1 v2 : Value), Hid (CutI w mi code nm ty size R (fun L => ∀ x ∈ L, x.2.2.2.length ≤ 1048576) wr c A' U' v1 v2)) (fun _ wr => lenAt wr w.heap.size 6 + lenAt wr w.heap.size 7)
        case atStart => exact ⟨_, _, _, _, _, HI0⟩
        case round =>
          obtain ⟨c, A', U', v1, v2, HI⟩ := hrel
          obtain ⟨a3, cap3, hv3, hc3⟩ := HI.out.own1.shape
          obtain ⟨a4, cap4, hv4, hc4⟩ := HI.out.own2.shape
          subst hv3
          subst hv4
          have HLB : Hid (Calls Tryz.prog 32 #[MsgV mi true c code nm ty (.slice a3 A'.length cap3) (.slice a4 U'.length cap4)] wr fun e w' => e = .returned (.string ⟨(msgW mi true c code nm.data.toList ty A' U').toArray⟩) ∧ Below wr.heap.size wr w') := l4Bytes_any mi true c code nm ty _ _ A' U' wr HI.out.good HI.out.own1.row HI.out.own2.row HI.out.small HI.out.own1.nil HI.out.own2.nil
          have hfA : A'.length ≤ 12 := HI.out.good.few
          have hfU : U'.length ≤ 12 := HI.out.good.fewU
          obtain ⟨bs, hbs⟩ : ∃ bs, bs = msgW mi true c code nm.data.toList ty A' U' := ⟨_, rfl⟩
          rw [← hbs] at HLB
          have HBS : Hid (bs = msgW mi true c code nm.data.toList ty A' U') := hbs
          have HMS : Hid (lenAt wr w.heap.size 6 = A'.length ∧ lenAt wr w.heap.size 7 = U'.length) := ⟨lenAt_eq (msg_cells HI.out.msg).2.2.2.2.2.2.1, lenAt_eq (msg_cells HI.out.msg).2.2.2.2.2.2.2⟩
          unfold MsgV at HLB
          obtain ⟨c0, c1, c2, c3, c4, c5, c6, c7⟩ := msg_cells HI.out.msg
          clear hbs
          unfold maxLen at hc3 hc4
          go_wp2_with fail
          refine HLB.out.mono ?_
          rintro e w5 ⟨rfl, hb5⟩
          have HI5 : Hid (CutI w mi code nm ty size R (fun L => ∀ x ∈ L, x.2.2.2.length ≤ 1048576) w5 c A' U' (.slice a3 A'.length cap3) (.slice a4 U'.length cap4)) := HI.out.kept hb5
          clear c0 c1 c2 c3 c4 c5 c6 c7 hb5 HLB
          obtain ⟨c0, c1, c2, c3, c4, c5, c6, c7⟩ := msg_cells HI5.out.msg
          obtain ⟨g0, g1, g2, g3, g4, g5, g6, g7⟩ := msg_frozen HI5.out.msg
          by_cases hle : (bs.length : Int) ≤ size
          · have HDN : Hid (R = some (c, A', U')) := goC_done HI5.out.going (by rw [← HBS.out]; exact hle)
            obtain ⟨d0, d1, d2, d3, d4, d5, d6, d7⟩ := msg_cells HI5.out.res
            obtain ⟨f0, f1, f2, f3, f4, f5, f6, f7⟩ := msg_frozen HI5.out.res
            have hng : ¬ size < (bs.length : Int) := by omega
            go_wp2_with fail
            (try simp only [Exit.inBlock, Exit.then])
            refine bodyPost_ret (results_row_tmp rfl _ _ (w.heap.size + 1) 25 #[.int .i64 mi, .bool true, .bool c, .int .i64 code, .string nm, .int .i64 ty, .slice a3 A'.length cap3, .slice a4 U'.length cap4] (0, 0) _ (.bool true) rfl rfl ?_ Tryz.underlying25 rfl (by kernel_rfl)) rfl ⟨cuty HDN.out ?_ ?_, ?_⟩
            · exact put8_heap HI5.out.res
            · exact (HI5.out.own1.kpt (kpt_put8 w5 (w.heap.size + 1) _ _ _ _ _ _ _ _ (S := fun k => k = w.heap.size + 1) rfl) (fun g hg h => by have h1 := HI5.out.own1.lt g hg; omega)).row
            · exact (HI5.out.own2.kpt (kpt_put8 w5 (w.heap.size + 1) _ _ _ _ _ _ _ _ (S := fun k => k = w.heap.size + 1) rfl) (fun g hg h => by have h1 := HI5.out.own2.lt g hg; omega)).row
            · exact put8_below HI5.out.below (Nat.le_succ _) _ _ _ _ _ _ _ _
          · have hg : size < (bs.length : Int) := by omega
            have HNL : Hid (¬ ((msgW mi true c code nm.data.toList ty A' U').length : Int) ≤ size) := by rw [← HBS.out]; exact hle
            by_cases hU : 0 < U'.length
            · have hUi : (0 : Int) < (U'.length : Int) := by omega
              have HLS : Hid (Calls Tryz.prog 33 #[.slice a4 U'.length cap4] w5 fun e w' => ∃ u, e = .returned u ∧ OwnQ w' w5.heap.size u (lessL U') ∧ Below w5.heap.size w5 w') := l4Less_any _ U' w5 HI5.out.own2.row hU (by omega)
              go_wp2_with fail
              refine HLS.out.mono ?_
              rintro e w6 ⟨u, rfl, hou, hb6⟩
              have HI6 : Hid (CutI w mi code nm ty size R (fun L => ∀ x ∈ L, x.2.2.2.length ≤ 1048576) ((w6.setCell ⟨w.heap.size, 7, none⟩ u).setCell ⟨w.heap.size, 2, none⟩ (.bool true)) true A' (lessL U') (.slice a3 A'.length cap3) u) := CutI.auth HD.out HI5.out hb6 hou (by have h := HNL.out; omega) hU
              have HI5b : Hid (CutI w mi code nm ty size R (fun L => ∀ x ∈ L, x.2.2.2.length ≤ 1048576) w6 c A' U' (.slice a3 A'.length cap3) (.slice a4 U'.length cap4)) := HI5.out.kept hb6
              obtain ⟨a6, cap6, hv6, hc6⟩ := hou.shape
              subst hv6
              have HM6 : Hid (lenAt ((w6.setCell ⟨w.heap.size, 7, none⟩ (.slice a6 (lessL U').length cap6)).setCell ⟨w.heap.size, 2, none⟩ (.bool true)) w.heap.size 6 + lenAt ((w6.setCell ⟨w.heap.size, 7, none⟩ (.slice a6 (lessL U').length cap6)).setCell ⟨w.heap.size, 2, none⟩ (.bool true)) w.heap.size 7 < lenAt wr w.heap.size 6 + lenAt wr w.heap.size 7) := by
                have h := msg_cells HI6.out.msg
                have hl := lessL_lt hU
                show _ < _
                rw [HMS.out.1, HMS.out.2, lenAt_eq h.2.2.2.2.2.2.1, lenAt_eq h.2.2.2.2.2.2.2]; omega
              clear c0 c1 c2 c3 c4 c5 c6 c7 g0 g1 g2 g3 g4 g5 g6 g7 hou hb6 HLS
              obtain ⟨c0, c1, c2, c3, c4, c5, c6, c7⟩ := msg_cells HI5b.out.msg
              obtain ⟨g0, g1, g2, g3, g4, g5, g6, g7⟩ := msg_frozen HI5b.out.msg
              go_wp2_with fail
              go_roundw
              case rel => exact ⟨_, _, _, _, _, HI6⟩
              case measure => exact HM6.out
            · have hU0 : U'.length = 0 := by omega
              by_cases hA : 0 < A'.length
              · have hAi : (0 : Int) < (A'.length : Int) := by omega
                have HLS : Hid (Calls Tryz.prog 33 #[.slice a3 A'.length cap3] w5 fun e w' => ∃ u, e = .returned u ∧ OwnQ w' w5.heap.size u (lessL A') ∧ Below w5.heap.size w5 w') := l4Less_any _ A' w5 HI5.out.own1.row hA (by omega)
                go_wp2_with fail
                refine HLS.out.mono ?_
                rintro e w6 ⟨u, rfl, hou, hb6⟩
                have HI6 : Hid (CutI w mi code nm ty size R (fun L => ∀ x ∈ L, x.2.2.2.length ≤ 1048576) ((w6.setCell ⟨w.heap.size, 6, none⟩ u).setCell ⟨w.heap.size, 2, none⟩ (.bool true)) true (lessL A') U' u (.slice a4 U'.length cap4)) := CutI.ans HD.out HI5.out hb6 hou (by have h := HNL.out; omega) hU hA
                have HI5b : Hid (CutI w mi code nm ty size R (fun L => ∀ x ∈ L, x.2.2.2.length ≤ 1048576) w6 c A' U' (.slice a3 A'.length cap3) (.slice a4 U'.length cap4)) := HI5.out.kept hb6
                obtain ⟨a6, cap6, hv6, hc6⟩ := hou.shape
                subst hv6
                have HM6 : Hid (lenAt ((w6.setCell ⟨w.heap.size, 6, none⟩ (.slice a6 (lessL A').length cap6)).setCell ⟨w.heap.size, 2, none⟩ (.bool true)) w.heap.size 6 + lenAt ((w6.setCell ⟨w.heap.size, 6, none⟩ (.slice a6 (lessL A').length cap6)).setCell ⟨w.heap.size, 2, none⟩ (.bool true)) w.heap.size 7 < lenAt wr w.heap.size 6 + lenAt wr w.heap.size 7) := by
                  have h := msg_cells HI6.out.msg
                  have hl := lessL_lt hA
                  show _ < _
                  rw [HMS.out.1, HMS.out.2, lenAt_eq h.2.2.2.2.2.2.1, lenAt_eq h.2.2.2.2.2.2.2]; omega
                clear c0 c1 c2 c3 c4 c5 c6 c7 g0 g1 g2 g3 g4 g5 g6 g7 hou hb6 HLS
                obtain ⟨c0, c1, c2, c3, c4, c5, c6, c7⟩ := msg_cells HI5b.out.msg
                obtain ⟨g0, g1, g2, g3, g4, g5, g6, g7⟩ := msg_frozen HI5b.out.msg
                go_wp2_with fail
                go_roundw
                case rel => exact ⟨_, _, _, _, _, HI6⟩
                case measure => exact HM6.out
              · have hA0 : A'.length = 0 := by omega
                have HN : Hid (R = none) := goC_none HI5.out.going (by have h := HNL.out; omega) hU hA
                obtain ⟨d0, d1, d2, d3, d4, d5, d6, d7⟩ := msg_cells HI5.out.res
                obtain ⟨f0, f1, f2, f3, f4, f5, f6, f7⟩ := msg_frozen HI5.out.res
                go_wp2_with fail
                (try simp only [Exit.inBlock, Exit.then])
                refine bodyPost_ret (results_row_tmp rfl _ _ (w.heap.size + 1) 25 #[.int .i64 0, .bool false, .bool false, .int .i64 0, .string ⟨#[]⟩, .int .i64 0, .slice none 0 0, .slice none 0 0] (0, 0) _ (.bool false) rfl rfl ?_ Tryz.underlying25 rfl (by kernel_rfl)) rfl ⟨cutn HN.out, ?_⟩
                · exact HNO.out _ HI5.out.res
                · exact put8_below HI5.out.below (Nat.le_succ _) _ _ _ _ _ _ _ _
end Go.Proofs.YtpghpeombednkaaGreatDoor
