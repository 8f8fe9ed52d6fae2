import Derived.Test.YtpghpeombednkaaGreatDoorZ26
import Derived.Test.YtpghpeombednkaaGreatDoorZ27
namespace Go.Proofs.YtpghpeombednkaaGreatDoor
open Go.RowKit

/-- A message and a bool, told: the lists lie somewhere. -/
def MRes (w' : World) (ok : Bool) (mi : Int) (reply cutm : Bool) (code : Int) (nm : ByteArray) (ty : Int) (A U : List (List UInt8 × Int × Int × List UInt8)) (e : Ending) : Prop :=
  ∃ va vu, e = .returned (.tuple #[MsgV mi reply cutm code nm ty va vu, .bool ok]) ∧ RRow w' va A ∧ RRow w' vu U
/-- The same, in blocks of the call's own. -/
def MOwn (w' : World) (base : Nat) (ok : Bool) (mi : Int) (reply cutm : Bool) (code : Int) (nm : ByteArray) (ty : Int) (A U : List (List UInt8 × Int × Int × List UInt8)) (e : Ending) : Prop :=
  ∃ va vu, e = .returned (.tuple #[MsgV mi reply cutm code nm ty va vu, .bool ok]) ∧ OwnQ w' base va A ∧ OwnQ w' base vu U ∧ ∀ g, va.ownBlock = some g → vu.ownBlock ≠ some g
theorem mres_no (w : World) : MRes w false 0 false false 0 ⟨#[]⟩ 0 [] [] (.returned (.tuple #[noMsg, .bool false])) := ⟨_, _, rfl, rrow_nil _, rrow_nil _⟩
theorem own4_shape {w : World} {base n : Nat} {e : TypeId} {v : Value} {xs : List Value} (h : w.ownsRow base e 4 v n xs) : ∃ a cap, v = .slice a n cap ∧ cap ≤ maxLen ∧ ∀ m c, v = .slice none m c → c = 0 := by
  rcases h.2 with ⟨rfl, rfl⟩ | ⟨g, cap, cur, rfl, _, _, _, hm, _⟩
  · exact ⟨none, 0, rfl, by unfold maxLen; omega, fun m c e => by cases e; rfl⟩
  · exact ⟨_, cap, rfl, hm, fun m c e => by cases e⟩
theorem own_lit (w : World) (base : Nat) (hb : base ≤ w.heap.size) : (w.alloc (.cells #[] 35)).ownsRow base 35 4 (.slice (some ⟨w.heap.size, 0, none⟩) 0 0) 0 (rcells []) :=
  World.ownsRow_lit w #[] 0 hb (by unfold maxLen; omega) rfl
theorem own_lit' (w : World) (base b : Nat) (e : b = w.heap.size) (hb : base ≤ w.heap.size) : (w.alloc (.cells #[] 35)).ownsRow base 35 4 (.slice (some ⟨b, 0, none⟩) 0 0) 0 (rcells []) := by
  subst e; exact own_lit w base hb

set_option maxRecDepth 20000 in
set_option maxHeartbeats 4000000 in
theorem sReplyTo_any (mi : Int) (reply cutm : Bool) (code0 : Int) (nm : ByteArray) (ty : Int) (va vu : Value) (A0 U0 : List (List UInt8 × Int × Int × List UInt8)) (code : Int) (vx vy : Value) (X Y : List (List UInt8 × Int × Int × List UInt8)) (w : World) (hn : nm.size ≤ 1048576) (ha : RRow w va A0) (hu : RRow w vu U0)
    (hxa : Hid (∀ x ∈ A0, x.1.length ≤ 1048576 ∧ x.2.2.2.length ≤ 1048576)) (hxu : Hid (∀ x ∈ U0, x.1.length ≤ 1048576 ∧ x.2.2.2.length ≤ 1048576))
    (hx : RRow w vx X) (hy : RRow w vy Y) (hxn : ∀ n c, vx = .slice none n c → c = 0) (hyn : ∀ n c, vy = .slice none n c → c = 0) (hlx : X.length ≤ 1048576) (hly : Y.length ≤ 1048576)
    (hxx : Hid (∀ x ∈ X, x.1.length ≤ 1048576 ∧ x.2.2.2.length ≤ 1048576)) (hxy : Hid (∀ x ∈ Y, x.1.length ≤ 1048576 ∧ x.2.2.2.length ≤ 1048576)) :
    Calls Tryz.prog 61 #[MsgV mi reply cutm code0 nm ty va vu, .int .i64 code, vx, vy] w fun e w' =>
      ((msgB mi reply cutm code0 nm.data.toList ty A0 U0 && (!reply && msgB mi true cutm code nm.data.toList ty X Y)) = false → MRes w' false 0 false false 0 ⟨#[]⟩ 0 [] [] e) ∧
      ((msgB mi reply cutm code0 nm.data.toList ty A0 U0 && (!reply && msgB mi true cutm code nm.data.toList ty X Y)) = true → MRes w' true mi true cutm code nm ty X Y e) ∧ Below w.heap.size w w' := by
  have HG : Hid (∀ W, Below w.heap.size w W → Calls Tryz.prog 30 #[MsgV mi reply cutm code0 nm ty va vu] W fun e w' => e = .returned (.bool (msgB mi reply cutm code0 nm.data.toList ty A0 U0)) ∧ Below W.heap.size W w') := fun W hW => sGoodMessage_any mi reply cutm code0 nm ty va vu A0 U0 W hn (ha.kept hW) (hu.kept hW) hxa hxu
  have HG2 : Hid (∀ W v1 v2, RRow W v1 X → RRow W v2 Y → Calls Tryz.prog 30 #[MsgV mi true cutm code nm ty v1 v2] W fun e w' => e = .returned (.bool (msgB mi true cutm code nm.data.toList ty X Y)) ∧ Below W.heap.size W w') := fun W v1 v2 h1 h2 => sGoodMessage_any mi true cutm code nm ty v1 v2 X Y W hn h1 h2 hxx hxy
  obtain ⟨ok, hok⟩ : ∃ ok, ok = msgB mi reply cutm code0 nm.data.toList ty A0 U0 := ⟨_, rfl⟩
  obtain ⟨ok2, hok2⟩ : ∃ ok2, ok2 = msgB mi true cutm code nm.data.toList ty X Y := ⟨_, rfl⟩
  rw [← hok, ← hok2]
  rw [← hok] at HG
  rw [← hok2] at HG2
  obtain ⟨aa, ca, hva, _, hca, _⟩ := id ha
  obtain ⟨au, cu, hvu, _, hcu, _⟩ := id hu
  obtain ⟨ax, cx, hvx, hcx1, hcx, _⟩ := id hx
  obtain ⟨ay, cy, hvy, hcy1, hcy, _⟩ := id hy
  have HX : Hid (∀ W, Below w.heap.size w W → RRow W vx X) := fun W hW => hx.kept hW
  have HY : Hid (∀ W, Below w.heap.size w W → RRow W vy Y) := fun W hW => hy.kept hW
  subst hva hvu hvx hvy
  have HXN : Hid (∀ n c, Value.slice ax X.length cx = .slice none n c → c = 0) := hxn
  have HYN : Hid (∀ n c, Value.slice ay Y.length cy = .slice none n c → c = 0) := hyn
  clear hok hok2 ha hu hx hy hxn hyn
  unfold MsgV at HG ⊢
  go_enter Tryz.func61, Tryz.ntmps61
  go_wp2_with fail
  refine (HG.out _ (((Below.refl w.heap.size w).alloc (Nat.le_refl _) _).alloc (by simp) _)).mono ?_
  rintro e w1 ⟨rfl, hb1⟩
  obtain ⟨hm, hr, hbw⟩ := heaps2 hb1
  have hz1 : w.heap.size + 2 ≤ w1.heap.size := by have h := hb1.size; simpa using h
  have HM : Hid (w1.heap[w.heap.size]? = some (.cells #[.int .i64 mi, .bool reply, .bool cutm, .int .i64 code0, .string nm, .int .i64 ty, .slice aa A0.length ca, .slice au U0.length cu] 25)) := hm
  have HR : Hid (w1.heap[w.heap.size + 1]? = some (.cells #[.int .i64 0, .bool false, .bool false, .int .i64 0, .string ⟨#[]⟩, .int .i64 0, .slice none 0 0, .slice none 0 0] 25)) := hr
  obtain ⟨c0, c1, c2, c3, c4, c5, c6, c7⟩ := msg_cells hr
  obtain ⟨f0, f1, f2, f3, f4, f5, f6, f7⟩ := msg_frozen hr
  obtain ⟨d0, d1, d2, d3, d4, d5, d6, d7⟩ := msg_cells hm
  obtain ⟨g0, g1, g2, g3, g4, g5, g6, g7⟩ := msg_frozen hm
  clear hr hm hb1
  have hno : ∀ W : World, W.heap[w.heap.size + 1]? = some (.cells #[.int .i64 0, .bool false, .bool false, .int .i64 0, .string ⟨#[]⟩, .int .i64 0, .slice none 0 0, .slice none 0 0] 25) → (put8 W (w.heap.size + 1) (.int .i64 0) (.bool false) (.bool false) (.int .i64 0) (.string ⟨#[]⟩) (.int .i64 0) (.slice none 0 0) (.slice none 0 0)).heap[w.heap.size + 1]? = some (.cells #[.int .i64 0, .bool false, .bool false, .int .i64 0, .string ⟨#[]⟩, .int .i64 0, .slice none 0 0, .slice none 0 0] 25) := fun W h => put8_heap h
  have HNO : Hid (∀ W : World, W.heap[w.heap.size + 1]? = some (.cells #[.int .i64 0, .bool false, .bool false, .int .i64 0, .string ⟨#[]⟩, .int .i64 0, .slice none 0 0, .slice none 0 0] 25) → (put8 W (w.heap.size + 1) (.int .i64 0) (.bool false) (.bool false) (.int .i64 0) (.string ⟨#[]⟩) (.int .i64 0) (.slice none 0 0) (.slice none 0 0)).heap[w.heap.size + 1]? = some (.cells #[.int .i64 0, .bool false, .bool false, .int .i64 0, .string ⟨#[]⟩, .int .i64 0, .slice none 0 0, .slice none 0 0] 25)) := hno
  clear hno
  cases ok with
  | false =>
    go_wp2_with fail
    (try simp only [Exit.inBlock, Exit.then])
    refine bodyPost_ret (results_row_tmp rfl _ _ (w.heap.size + 1) 25 #[.int .i64 0, .bool false, .bool false, .int .i64 0, .string ⟨#[]⟩, .int .i64 0, .slice none 0 0, .slice none 0 0] (0, 0) _ (.bool false) rfl rfl ?_ Tryz.underlying25 rfl (by kernel_rfl)) rfl ⟨fun _ => mres_no _, fun h => (by cases h), ?_⟩
    · exact HNO.out _ HR.out
    · exact put8_below hbw (Nat.le_succ _) _ _ _ _ _ _ _ _
  | true =>
    cases reply with
    | true =>
      go_wp2_with fail
      (try simp only [Exit.inBlock, Exit.then])
      refine bodyPost_ret (results_row_tmp rfl _ _ (w.heap.size + 1) 25 #[.int .i64 0, .bool false, .bool false, .int .i64 0, .string ⟨#[]⟩, .int .i64 0, .slice none 0 0, .slice none 0 0] (0, 0) _ (.bool false) rfl rfl ?_ Tryz.underlying25 rfl (by kernel_rfl)) rfl ⟨fun _ => mres_no _, fun h => (by cases h), ?_⟩
      · exact HNO.out _ HR.out
      · exact put8_below hbw (Nat.le_succ _) _ _ _ _ _ _ _ _
    | false =>
      go_wp2_with (first | (at_builtin; refine wpList_append_rows rfl (.tmp 21) (.tmp 22) 23 rfl Tryz.underlying23 (w.heap.size + 2) _ 0 [] rfl rfl (own_lit' _ _ _ (by simp) ?b1) _ X rfl (HX.out _ ?b2) HXN.out ?b3 ?b4 ?_))
      case b1 => simpa using hz1
      case b2 => exact ((hbw.setCell (p := ⟨w.heap.size, 1, none⟩) (Nat.le_refl _) _).setCell (p := ⟨w.heap.size, 3, none⟩) (Nat.le_refl _) _).alloc (by simpa using hbw.size) _
      case b3 => omega
      case b4 => simp; omega
      intro v1 w2 hown1 hgrow1
      clear c0 c1 c2 c3 c4 c5 c6 c7 f0 f1 f2 f3 f4 f5 f6 f7 d0 d1 d2 d3 d4 d5 d6 d7 g0 g1 g2 g3 g4 g5 g6 g7
      have hz2 : w1.heap.size ≤ w2.heap.size := by have h := hgrow1.size; simp at h; omega
      have HK12 : Hid (Kpt w1 w2 (fun k => k = w.heap.size ∨ w1.heap.size ≤ k)) :=
        ((kpt_set _ _ _ _ (.inl rfl)).trans (kpt_set _ _ _ _ (.inl rfl))).trans ((kpt_alloc _ _ _).trans ((grown_kpt hgrow1).mono (fun k _ h => .inr (by simp [Value.ownBlock] at h; omega))))
      have HMA : Hid (w2.heap[w.heap.size]? = some (.cells #[.int .i64 mi, .bool true, .bool cutm, .int .i64 code, .string nm, .int .i64 ty, .slice aa A0.length ca, .slice au U0.length cu] 25)) := by
        have e1 := heap_setCell_same _ _ 1 _ _ (.bool true) HM.out
        have e2 := heap_setCell_same _ _ 3 _ _ (.int .i64 code) e1
        have e3 := (((kpt_alloc _ _ _).trans (grown_kpt hgrow1)).block w.heap.size (by simp; omega) (fun h => by simp [Value.ownBlock] at h; omega)).trans e2
        exact e3.trans (by rfl)
      have HRA : Hid (w2.heap[w.heap.size + 1]? = some (.cells #[.int .i64 0, .bool false, .bool false, .int .i64 0, .string ⟨#[]⟩, .int .i64 0, .slice none 0 0, .slice none 0 0] 25)) := (HK12.out.block (w.heap.size + 1) (by omega) (fun h => by omega)).trans HR.out
      have hbw2 : Below w.heap.size w w2 := hbw.trans (HK12.out.below hbw.size (fun k hk h => by omega))
      obtain ⟨a1, cap1, hv1, hc1, hn1⟩ := own4_shape hown1
      have HO1 : Hid (OwnQ w2 (w.heap.size + 2) v1 X) := own_q hown1
      subst hv1
      obtain ⟨c0, c1, c2, c3, c4, c5, c6, c7⟩ := msg_cells HMA.out
      obtain ⟨f0, f1, f2, f3, f4, f5, f6, f7⟩ := msg_frozen HMA.out
      clear hown1 hgrow1 hn1 HM HR HK12 hbw
      go_wp2_with (first | (at_builtin; refine wpList_append_rows rfl (.tmp 25) (.tmp 26) 23 rfl Tryz.underlying23 (w.heap.size + 2) _ 0 [] rfl rfl (own_lit' _ _ _ (by simp) ?b1) _ Y rfl (HY.out _ ?b2) HYN.out ?b3 ?b4 ?_))
      case b1 => simp; omega
      case b2 => exact (hbw2.setCell (p := ⟨w.heap.size, 6, none⟩) (Nat.le_refl _) _).alloc (by simpa using hbw2.size) _
      case b3 => omega
      case b4 => simp; omega
      intro v2 w3 hown2 hgrow2
      clear c0 c1 c2 c3 c4 c5 c6 c7 f0 f1 f2 f3 f4 f5 f6 f7
      have hz3 : w2.heap.size ≤ w3.heap.size := by have h := hgrow2.size; simp at h; omega
      have HK23 : Hid (Kpt w2 w3 (fun k => k = w.heap.size ∨ w2.heap.size ≤ k)) :=
        (kpt_set _ _ _ _ (.inl rfl)).trans ((kpt_alloc _ _ _).trans ((grown_kpt hgrow2).mono (fun k _ h => .inr (by simp [Value.ownBlock] at h; omega))))
      have HMB : Hid (w3.heap[w.heap.size]? = some (.cells #[.int .i64 mi, .bool true, .bool cutm, .int .i64 code, .string nm, .int .i64 ty, .slice a1 X.length cap1, .slice au U0.length cu] 25)) := by
        have e1 := heap_setCell_same _ _ 6 _ _ (.slice a1 X.length cap1) HMA.out
        have e3 := (((kpt_alloc _ _ _).trans (grown_kpt hgrow2)).block w.heap.size (by simp; omega) (fun h => by simp [Value.ownBlock] at h; omega)).trans e1
        exact e3.trans (by rfl)
      have HRB : Hid (w3.heap[w.heap.size + 1]? = some (.cells #[.int .i64 0, .bool false, .bool false, .int .i64 0, .string ⟨#[]⟩, .int .i64 0, .slice none 0 0, .slice none 0 0] 25)) := (HK23.out.block (w.heap.size + 1) (by omega) (fun h => by omega)).trans HRA.out
      have hbw3 : Below w.heap.size w w3 := hbw2.trans (HK23.out.below hbw2.size (fun k hk h => by omega))
      obtain ⟨a2, cap2, hv2, hc2, hn2⟩ := own4_shape hown2
      have HO2 : Hid (OwnQ w3 (w.heap.size + 2) v2 Y) := own_q hown2
      have HO1b : Hid (OwnQ w3 (w.heap.size + 2) (.slice a1 X.length cap1) X) := HO1.out.kpt HK23.out (fun g hg h => by have h1 := HO1.out.lt g hg; omega)
      subst hv2
      have HRX : Hid (RRow (w3.setCell ⟨w.heap.size, 7, none⟩ (.slice a2 Y.length cap2)) (.slice a1 X.length cap1) X) := (HO1b.out.kpt (kpt_set w3 w.heap.size 7 _ (S := fun k => k = w.heap.size) rfl) (fun g hg h => by have h1 := HO1b.out.lt g hg; omega)).row
      have HRY : Hid (RRow (w3.setCell ⟨w.heap.size, 7, none⟩ (.slice a2 Y.length cap2)) (.slice a2 Y.length cap2) Y) := (HO2.out.kpt (kpt_set w3 w.heap.size 7 _ (S := fun k => k = w.heap.size) rfl) (fun g hg h => by have h1 := HO2.out.lt g hg; omega)).row
      obtain ⟨c0, c1, c2, c3, c4, c5, c6, c7⟩ := msg_cells HMB.out
      obtain ⟨f0, f1, f2, f3, f4, f5, f6, f7⟩ := msg_frozen HMB.out
      unfold MsgV at HG2
      clear hown2 hgrow2 hn2 HMA HRA HK23 hbw2 HO1
      go_wp2_with fail
      refine (HG2.out _ _ _ HRX.out HRY.out).mono ?_
      rintro e w4 ⟨rfl, hb4⟩
      clear c0 c1 c2 c3 c4 c5 c6 c7 f0 f1 f2 f3 f4 f5 f6 f7
      have HMC : Hid (w4.heap[w.heap.size]? = some (.cells #[.int .i64 mi, .bool true, .bool cutm, .int .i64 code, .string nm, .int .i64 ty, .slice a1 X.length cap1, .slice a2 Y.length cap2] 25)) := by
        have e1 := heap_setCell_same _ _ 7 _ _ (.slice a2 Y.length cap2) HMB.out
        exact ((hb4.block w.heap.size (by simp; omega)).trans e1).trans (by rfl)
      have HRC : Hid (w4.heap[w.heap.size + 1]? = some (.cells #[.int .i64 0, .bool false, .bool false, .int .i64 0, .string ⟨#[]⟩, .int .i64 0, .slice none 0 0, .slice none 0 0] 25)) := by
        show w4.heap[w.heap.size + 1]? = _
        rw [hb4.block (w.heap.size + 1) (by simp; omega), heap_setCell_other _ _ _ _ (show w.heap.size + 1 ≠ w.heap.size by omega)]; exact HRB.out
      have hbw4 : Below w.heap.size w w4 := (hbw3.setCell (p := ⟨w.heap.size, 7, none⟩) (Nat.le_refl _) _).trans (hb4.mono (by simpa using hbw3.size))
      have HRX4 : Hid (OwnQ w4 (w.heap.size + 2) (.slice a1 X.length cap1) X) := (HO1b.out.kpt (kpt_set w3 w.heap.size 7 (.slice a2 Y.length cap2) (S := fun k => k = w.heap.size) rfl) (fun g hg h => by have h1 := HO1b.out.lt g hg; omega)).kept hb4
      have HRY4 : Hid (OwnQ w4 (w.heap.size + 2) (.slice a2 Y.length cap2) Y) := (HO2.out.kpt (kpt_set w3 w.heap.size 7 (.slice a2 Y.length cap2) (S := fun k => k = w.heap.size) rfl) (fun g hg h => by have h1 := HO2.out.lt g hg; omega)).kept hb4
      obtain ⟨c0, c1, c2, c3, c4, c5, c6, c7⟩ := msg_cells HMC.out
      obtain ⟨d0, d1, d2, d3, d4, d5, d6, d7⟩ := msg_cells HRC.out
      obtain ⟨f0, f1, f2, f3, f4, f5, f6, f7⟩ := msg_frozen HRC.out
      clear HMB HRB HO1b HO2 hb4 HRX HRY
      cases ok2 with
      | false =>
        go_wp2_with fail
        (try simp only [Exit.inBlock, Exit.then])
        refine bodyPost_ret (results_row_tmp rfl _ _ (w.heap.size + 1) 25 #[.int .i64 0, .bool false, .bool false, .int .i64 0, .string ⟨#[]⟩, .int .i64 0, .slice none 0 0, .slice none 0 0] (0, 0) _ (.bool false) rfl rfl ?_ Tryz.underlying25 rfl (by kernel_rfl)) rfl ⟨fun _ => mres_no _, fun h => (by cases h), ?_⟩
        · exact HNO.out _ HRC.out
        · exact put8_below hbw4 (Nat.le_succ _) _ _ _ _ _ _ _ _
      | true =>
        go_wp2_with fail
        (try simp only [Exit.inBlock, Exit.then])
        refine bodyPost_ret (results_row_tmp rfl _ _ (w.heap.size + 1) 25 #[.int .i64 mi, .bool true, .bool cutm, .int .i64 code, .string nm, .int .i64 ty, .slice a1 X.length cap1, .slice a2 Y.length cap2] (0, 0) _ (.bool true) rfl rfl ?_ Tryz.underlying25 rfl (by kernel_rfl)) rfl ⟨fun h => (by cases h), fun _ => ⟨_, _, rfl, ?_, ?_⟩, ?_⟩
        · exact put8_heap HRC.out
        · exact (HRX4.out.kpt (kpt_put8 w4 (w.heap.size + 1) _ _ _ _ _ _ _ _ (S := fun k => k = w.heap.size + 1) rfl) (fun g hg h => by have h1 := HRX4.out.lt g hg; omega)).row
        · exact (HRY4.out.kpt (kpt_put8 w4 (w.heap.size + 1) _ _ _ _ _ _ _ _ (S := fun k => k = w.heap.size + 1) rfl) (fun g hg h => by have h1 := HRY4.out.lt g hg; omega)).row
        · exact put8_below hbw4 (Nat.le_succ _) _ _ _ _ _ _ _ _
end Go.Proofs.YtpghpeombednkaaGreatDoor

namespace Go.Proofs.YtpghpeombednkaaGreatDoor
open Go.RowKit

/-- No record. -/
def noRec : List UInt8 × Int × Int × List UInt8 := ([], 0, 0, [])
/-- Where the last set begins, from a place on. -/
def lessK (L : List (List UInt8 × Int × Int × List UInt8)) (z : List UInt8 × Int × Int × List UInt8) : Nat → Nat
  | 0 => 0
  | k + 1 => if (L.getD k noRec).1 = z.1 ∧ (L.getD k noRec).2.1 = z.2.1 then lessK L z k else k + 1
/-- A list without its last set. -/
def lessL (L : List (List UInt8 × Int × Int × List UInt8)) : List (List UInt8 × Int × Int × List UInt8) := L.take (lessK L (L.getD (L.length - 1) noRec) (L.length - 1))
theorem lessK_le (L : List (List UInt8 × Int × Int × List UInt8)) (z : List UInt8 × Int × Int × List UInt8) : ∀ k, lessK L z k ≤ k
  | 0 => Nat.le_refl _
  | k + 1 => by
    have := lessK_le L z k
    unfold lessK; split <;> omega
theorem lessL_lt {L : List (List UInt8 × Int × Int × List UInt8)} (h : 0 < L.length) : (lessL L).length < L.length := by
  have := lessK_le L (L.getD (L.length - 1) noRec) (L.length - 1)
  unfold lessL; rw [List.length_take]; omega
theorem lessL_mem {L : List (List UInt8 × Int × Int × List UInt8)} {x : List UInt8 × Int × Int × List UInt8} (h : x ∈ lessL L) : x ∈ L := List.mem_of_mem_take h
theorem lessK_go {L : List (List UInt8 × Int × Int × List UInt8)} {z : List UInt8 × Int × Int × List UInt8} {k : Nat} (hk : k < L.length) (h1 : L[k].1 = z.1) (h2 : L[k].2.1 = z.2.1) : lessK L z (k + 1) = lessK L z k := by
  rw [lessK, if_pos]
  rw [List.getD_eq_getElem?_getD, List.getElem?_eq_getElem hk]; exact ⟨h1, h2⟩
theorem lessK_stop {L : List (List UInt8 × Int × Int × List UInt8)} {z : List UInt8 × Int × Int × List UInt8} {k : Nat} (hk : k < L.length) (h : ¬ (L[k].1 = z.1 ∧ L[k].2.1 = z.2.1)) : lessK L z (k + 1) = k + 1 := by
  rw [lessK, if_neg]
  rw [List.getD_eq_getElem?_getD, List.getElem?_eq_getElem hk]; exact h

theorem some_nil' (b o n m : Nat) : ∀ n' c, Value.slice (some ⟨b, o, none⟩) n m = .slice none n' c → c = 0 := fun n' c h => by cases h

set_option maxRecDepth 20000 in
set_option maxHeartbeats 4000000 in
theorem l4Less_any (v : Value) (L : List (List UInt8 × Int × Int × List UInt8)) (w : World) (hr : RRow w v L) (h0 : 0 < L.length) (hL : L.length ≤ 1048576) :
    Calls Tryz.prog 33 #[v] w fun e w' => ∃ u, e = .returned u ∧ OwnQ w' w.heap.size u (lessL L) ∧ Below w.heap.size w w' := by
  have HR : Hid (RRow w v L) := hr
  obtain ⟨a, cap, rfl, hcap, hmax, hrow⟩ := hr
  rcases hrow with hrow | ⟨b, o, rfl, hbl, hcel⟩
  · rw [hrow] at h0; simp at h0
  · have HCEL : Hid (∀ j, (hj : j < L.length) → RecAt w b (o + j * 4) L[j]) := hcel
    obtain ⟨n, hn⟩ : ∃ n, n = L.length - 1 := ⟨_, rfl⟩
    obtain ⟨N, hN⟩ : ∃ N, N = L.length := ⟨_, rfl⟩
    have hnN : N = n + 1 := by omega
    have hnl : n < L.length := by omega
    obtain ⟨z, hz⟩ : ∃ z, z = L[n]'hnl := ⟨_, rfl⟩
    have HZ : Hid (L.getD (L.length - 1) noRec = z) := by rw [hz, ← hn, List.getD_eq_getElem?_getD, List.getElem?_eq_getElem hnl]; exact rfl
    have HLL : Hid (lessL L = L.take (lessK L z n)) := by unfold lessL; rw [HZ.out, ← hn]; exact rfl
    obtain ⟨z0, z1, z2, z3⟩ := hcel n hnl
    rw [← hz] at z0 z1 z2 z3
    obtain ⟨zn, zt, zl, zd⟩ := z
    simp only at z0 z1 z2 z3
    unfold maxLen at hmax
    have HNN : Hid (L.length = n + 1) := (by omega : L.length = n + 1)
    have HRT : Hid (∀ k, k ≤ n → RRow w (.slice (some ⟨b, o, none⟩) k cap) (L.take k)) := fun k hk => by
      have hl : (L.take k).length = k := by rw [List.length_take]; omega
      refine ⟨_, cap, by rw [hl], by rw [hl]; omega, by unfold maxLen; omega, .inr ⟨b, o, rfl, hbl, fun j hj => ?_⟩⟩
      have := hcel j (by rw [hl] at hj; omega)
      rw [List.getElem_take]; exact this
    rw [hN.symm, hnN]
    clear hcel hz hn hN hnN
    go_enter Tryz.func33, Tryz.ntmps33
    go_wp2_with fail
    go_loopw [4] (fun i wr => ∃ k : Nat, k ≤ n ∧ i = .int .i64 (k : Int) ∧ Hid (lessK L (zn, zt, zl, zd) n = lessK L (zn, zt, zl, zd) k) ∧ Below w.heap.size w wr) (fun i _ => (intOf i).toNat)
    case atStart => exact ⟨n, Nat.le_refl _, by simp, rfl, Below.refl _ _⟩
    case round =>
      obtain ⟨k, hk, rfl, HK, hb⟩ := hrel
      cases k with
      | zero =>
        have HE : Hid (lessL L = []) := by rw [HLL.out, HK.out]; exact rfl
        go_wp2_with fail
        go_region
        all_goals
          go_wp2_with fail
          go_ret
          exact ⟨_, rfl, by rw [HE.out]; exact own_q (own_lit wr w.heap.size hb.size), (hb.alloc hb.size _).drew⟩
      | succ k =>
        have hkl : k < L.length := by omega
        have HM := (HCEL.out k hkl).kept hb
        have y0 := z0
        have y1 := z1
        rw [← hb.cell (p := ⟨b, o + n * 4, none⟩) hbl] at y0
        rw [← hb.cell (p := ⟨b, o + n * 4 + 1, none⟩) hbl] at y1
        have HGO : Hid ((L[k]'hkl).1 = zn → (L[k]'hkl).2.1 = zt → lessK L (zn, zt, zl, zd) (k + 1) = lessK L (zn, zt, zl, zd) k) := fun h1 h2 => lessK_go hkl h1 h2
        have HSTOP : Hid (¬ ((L[k]'hkl).1 = zn ∧ (L[k]'hkl).2.1 = zt) → lessL L = L.take (k + 1)) := fun h => by rw [HLL.out, HK.out, lessK_stop hkl h]
        have HRK : Hid (RRow wr (.slice (some ⟨b, o, none⟩) (k + 1) cap) (L.take (k + 1))) := (HRT.out (k + 1) hk).kept hb
        have hll : (L.take (k + 1)).length = k + 1 := by rw [List.length_take]; omega
        obtain ⟨x, hx⟩ : ∃ x, x = L[k]'hkl := ⟨_, rfl⟩
        rw [← hx] at HM HGO HSTOP
        clear hx
        obtain ⟨xn, xt, xl, xd⟩ := x
        obtain ⟨m0, m1, m2, m3⟩ := HM
        simp only at m0 m1 m2 m3 HGO HSTOP
        have hkc : (k : Int) + 1 ≤ (cap : Int) := by omega
        have hbs := hb.size
        by_cases h1 : xn = zn
        · subst h1
          by_cases h2 : xt = zt
          · subst h2
            have HK2 : Hid (lessK L (xn, xt, zl, zd) n = lessK L (xn, xt, zl, zd) k) := by rw [HK.out]; exact HGO.out rfl rfl
            clear HGO HSTOP
            go_wp2_with fail
            go_region
            all_goals
              go_wp2_with fail
              go_roundw
              case rel => exact ⟨k, by omega, by go_num, HK2, hb.drew⟩
              case measure => simp [intOf]
          · have HE : Hid (lessL L = L.take (k + 1)) := HSTOP.out (fun h => h2 h.2)
            have e2 : (xt == zt) = false := by simpa using h2
            clear HGO HSTOP
            go_wp2_with fail
            go_region
            all_goals
              go_wp2_with (first | (at_builtin; refine wpList_append_rows rfl (.tmp 41) (.tmp 44) 23 rfl Tryz.underlying23 w.heap.size _ 0 [] rfl rfl (own_lit' _ _ _ (by simp) ?b1) _ (L.take (k + 1)) rfl (HRK.out.kept ((Below.refl _ wr).drew.alloc (Nat.le_refl _) _)) (some_nil' _ _ _ _) ?b3 ?b4 ?_))
              case b1 => exact hbs
              case b3 => omega
              case b4 => simp; omega
              intro v' w' hown hgrow
              have HO : Hid (OwnQ w' w.heap.size v' (lessL L)) := by
                show OwnQ w' w.heap.size v' (lessL L)
                rw [HE.out]; exact own_q (by rw [hll]; exact hown)
              have hbw : Below w.heap.size w w' := (hb.alloc hbs _).drew.grown hgrow (by simp; omega) (fun j hj => by simp [Value.ownBlock] at hj; omega)
              clear hown hgrow
              go_wp2_with fail
              go_ret
              exact ⟨_, rfl, HO.out, hbw⟩
        · have HE : Hid (lessL L = L.take (k + 1)) := HSTOP.out (fun h => h1 h.1)
          have e2 : (xn == zn) = false := by simpa using h1
          have e3 : ((⟨xn.toArray⟩ : ByteArray).toList == (⟨zn.toArray⟩ : ByteArray).toList) = false := by rw [ByteArray.toList_eq, ByteArray.toList_eq]; simpa using h1
          clear HGO HSTOP
          go_wp2_with fail
          go_region
          all_goals
            go_wp2_with (first | (at_builtin; refine wpList_append_rows rfl (.tmp 41) (.tmp 44) 23 rfl Tryz.underlying23 w.heap.size _ 0 [] rfl rfl (own_lit' _ _ _ (by simp) ?b1) _ (L.take (k + 1)) rfl (HRK.out.kept ((Below.refl _ wr).drew.alloc (Nat.le_refl _) _)) (some_nil' _ _ _ _) ?b3 ?b4 ?_))
            case b1 => exact hbs
            case b3 => omega
            case b4 => simp; omega
            intro v' w' hown hgrow
            have HO : Hid (OwnQ w' w.heap.size v' (lessL L)) := by
              show OwnQ w' w.heap.size v' (lessL L)
              rw [HE.out]; exact own_q (by rw [hll]; exact hown)
            have hbw : Below w.heap.size w w' := (hb.alloc hbs _).drew.grown hgrow (by simp; omega) (fun j hj => by simp [Value.ownBlock] at hj; omega)
            clear hown hgrow
            go_wp2_with fail
            go_ret
            exact ⟨_, rfl, HO.out, hbw⟩
end Go.Proofs.YtpghpeombednkaaGreatDoor
