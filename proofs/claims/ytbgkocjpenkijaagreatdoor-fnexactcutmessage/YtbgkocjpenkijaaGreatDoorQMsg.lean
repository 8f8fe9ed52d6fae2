import Derived.Test.YtbgkocjpenkijaaGreatDoorCMsg
namespace Go.Proofs.YtbgkocjpenkijaaGreatDoor
open Go.RowKit

theorem mown_no (w : World) (base : Nat) : MOwn w base false 0 false false 0 ⟨#[]⟩ 0 [] [] (.returned (.tuple #[noMsg, .bool false])) := ⟨_, _, rfl, .inl ⟨rfl, rfl⟩, .inl ⟨rfl, rfl⟩, fun g h => by cases h⟩
theorem heaps3 {w W : World} {a b c : Array Value} {t1 t2 t3 : TypeId} (hb : Below (((w.alloc (.cells a t1)).alloc (.cells b t2)).alloc (.cells c t3)).heap.size (((w.alloc (.cells a t1)).alloc (.cells b t2)).alloc (.cells c t3)) W) :
    W.heap[w.heap.size]? = some (.cells a t1) ∧ W.heap[w.heap.size + 1]? = some (.cells b t2) ∧ W.heap[w.heap.size + 2]? = some (.cells c t3) ∧ Below w.heap.size w W := by
  have hA : Below ((w.alloc (.cells a t1)).alloc (.cells b t2)).heap.size ((w.alloc (.cells a t1)).alloc (.cells b t2)) W := ((Below.refl _ _).alloc (Nat.le_refl _) _).trans (hb.mono (by simp))
  obtain ⟨h1, h2, h3⟩ := heaps2 hA
  refine ⟨h1, h2, ?_, h3⟩
  rw [hb.block _ (by simp)]
  exact heap3_new w _ _ _

set_option maxRecDepth 20000 in
set_option maxHeartbeats 2000000 in
theorem iQuestionFor_any (mi : Int) (nm : ByteArray) (ty : Int) (w : World) (hn : nm.size ≤ 1048576) (hE : EnvR w) :
    Calls Tryz.prog 27 #[.int .i64 mi, .string nm, .int .i64 ty] w fun e w' =>
      (msgB mi false false 0 nm.data.toList ty [] [] = false → MOwn w' w.heap.size false 0 false false 0 ⟨#[]⟩ 0 [] [] e) ∧
      (msgB mi false false 0 nm.data.toList ty [] [] = true → MOwn w' w.heap.size true mi false false 0 nm ty [] [] e) ∧ Below w.heap.size w w' := by
  have HG : Hid (∀ W, EnvR W → Calls Tryz.prog 19 #[MsgV mi false false 0 nm ty (.slice none 0 0) (.slice none 0 0)] W fun e w' => e = .returned (.bool (msgB mi false false 0 nm.data.toList ty [] [])) ∧ Below W.heap.size W w') := fun W hW => iGoodMessage_any mi false false 0 nm ty _ _ [] [] W (rrow_nil _) (rrow_nil _) (fun x hx => by cases hx) (fun x hx => by cases hx) hW
  have HC : Hid (∀ W, Calls Tryz.prog 38 #[MsgV mi false false 0 nm ty (.slice none 0 0) (.slice none 0 0)] W fun e w' => (∃ va' vu', e = .returned (MsgV mi false false 0 nm ty va' vu') ∧ OwnQ w' W.heap.size va' [] ∧ OwnQ w' W.heap.size vu' [] ∧ ∀ g, va'.ownBlock = some g → vu'.ownBlock ≠ some g) ∧ Below W.heap.size W w') := fun W => copyMessage_any mi false false 0 nm ty _ _ [] [] W hn (rrow_nil _) (rrow_nil _) (by simp) (by simp) (fun x hx => by cases hx) (fun x hx => by cases hx)
  obtain ⟨ok, hok⟩ : ∃ ok, ok = msgB mi false false 0 nm.data.toList ty [] [] := ⟨_, rfl⟩
  rw [← hok] at HG ⊢
  clear hok
  obtain ⟨R, hR⟩ : ∃ R, R = ok := ⟨_, rfl⟩
  have HRR : Hid (R = ok) := hR
  rw [← hR]
  clear hR
  unfold MsgV at HG HC
  go_enter Tryz.func27, Tryz.ntmps27
  go_wp2_with fail
  refine (HG.out _ (hE.below (((Below.refl w.heap.size w).alloc (Nat.le_refl _) _).alloc (by simp) _))).mono ?_
  rintro e w1 ⟨rfl, hb1⟩
  obtain ⟨hr, hm, hbw⟩ := heaps2 hb1
  have hz1 : w.heap.size + 2 ≤ w1.heap.size := by have h := hb1.size; simpa using h
  have HR : Hid (w1.heap[w.heap.size]? = some (.cells #[.int .i64 0, .bool false, .bool false, .int .i64 0, .string ⟨#[]⟩, .int .i64 0, .slice none 0 0, .slice none 0 0] 25)) := hr
  obtain ⟨c0, c1, c2, c3, c4, c5, c6, c7⟩ := msg_cells hr
  obtain ⟨d0, d1, d2, d3, d4, d5, d6, d7⟩ := msg_cells hm
  obtain ⟨f0, f1, f2, f3, f4, f5, f6, f7⟩ := msg_frozen hr
  clear hr hm hb1
  cases ok with
  | false =>
    go_wp2_with fail
    (try simp only [Exit.inBlock, Exit.then])
    refine bodyPost_ret (results_row_tmp rfl _ _ w.heap.size 25 #[.int .i64 0, .bool false, .bool false, .int .i64 0, .string ⟨#[]⟩, .int .i64 0, .slice none 0 0, .slice none 0 0] (0, 0) _ (.bool false) rfl rfl ?_ Tryz.underlying25 rfl (by kernel_rfl)) rfl ⟨fun _ => mown_no _ _, fun h => (by rw [HRR.out] at h; cases h), ?_⟩
    · exact put8_heap HR.out
    · exact put8_below hbw (Nat.le_refl _) _ _ _ _ _ _ _ _
  | true =>
    go_wp2_with fail
    refine (HC.out _).mono ?_
    rintro e w2 ⟨⟨va, vu, rfl, hoa, hou, hap⟩, hb2⟩
    obtain ⟨a1, k1, hva, _⟩ := hoa.shape
    obtain ⟨a2, k2, hvu, _⟩ := hou.shape
    subst hva hvu
    have HR2 : Hid (w2.heap[w.heap.size]? = some (.cells #[.int .i64 0, .bool false, .bool false, .int .i64 0, .string ⟨#[]⟩, .int .i64 0, .slice none 0 0, .slice none 0 0] 25)) := (hb2.block w.heap.size (by omega)).trans HR.out
    have HOA : Hid (OwnQ w2 w1.heap.size (.slice a1 ([] : List (List UInt8 × Int × Int × List UInt8)).length k1) []) := hoa
    have HOU : Hid (OwnQ w2 w1.heap.size (.slice a2 ([] : List (List UInt8 × Int × Int × List UInt8)).length k2) []) := hou
    have HAP : Hid (∀ g, (Value.slice a1 ([] : List (List UInt8 × Int × Int × List UInt8)).length k1).ownBlock = some g → (Value.slice a2 ([] : List (List UInt8 × Int × Int × List UInt8)).length k2).ownBlock ≠ some g) := hap
    have hbw2 : Below w.heap.size w w2 := hbw.trans (hb2.mono hbw.size)
    clear hoa hou hap hb2 c0 c1 c2 c3 c4 c5 c6 c7 d0 d1 d2 d3 d4 d5 d6 d7 f0 f1 f2 f3 f4 f5 f6 f7
    obtain ⟨c0, c1, c2, c3, c4, c5, c6, c7⟩ := msg_cells HR2.out
    obtain ⟨f0, f1, f2, f3, f4, f5, f6, f7⟩ := msg_frozen HR2.out
    go_wp2_with fail
    (try simp only [Exit.inBlock, Exit.then])
    refine bodyPost_ret (results_row_tmp rfl _ _ w.heap.size 25 #[.int .i64 mi, .bool false, .bool false, .int .i64 0, .string nm, .int .i64 ty, .slice a1 ([] : List (List UInt8 × Int × Int × List UInt8)).length k1, .slice a2 ([] : List (List UInt8 × Int × Int × List UInt8)).length k2] (0, 0) _ (.bool true) rfl rfl ?_ Tryz.underlying25 rfl (by kernel_rfl)) rfl ⟨fun h => (by rw [HRR.out] at h; cases h), fun _ => ⟨_, _, rfl, ?_, ?_, HAP.out⟩, ?_⟩
    · exact put8_heap HR2.out
    · exact (HOA.out.kpt (kpt_put8 _ w.heap.size _ _ _ _ _ _ _ _ (S := fun k => k = w.heap.size) rfl) (fun g hg h => by have h1 := HOA.out.lt g hg; omega)).base (by omega)
    · exact (HOU.out.kpt (kpt_put8 _ w.heap.size _ _ _ _ _ _ _ _ (S := fun k => k = w.heap.size) rfl) (fun g hg h => by have h1 := HOU.out.lt g hg; omega)).base (by omega)
    · exact put8_below hbw2 (Nat.le_refl _) _ _ _ _ _ _ _ _

set_option maxRecDepth 20000 in
set_option maxHeartbeats 2000000 in
theorem iReplyTo_any (mi : Int) (reply cutm : Bool) (code0 : Int) (nm : ByteArray) (ty : Int) (va vu : Value) (A0 U0 : List (List UInt8 × Int × Int × List UInt8)) (code : Int) (vx vy : Value) (X Y : List (List UInt8 × Int × Int × List UInt8)) (w : World) (hn : nm.size ≤ 1048576) (ha : RRow w va A0) (hu : RRow w vu U0)
    (hxa : Hid (∀ x ∈ A0, x.1.length ≤ 1048576 ∧ x.2.2.2.length ≤ 1048576)) (hxu : Hid (∀ x ∈ U0, x.1.length ≤ 1048576 ∧ x.2.2.2.length ≤ 1048576))
    (hx : RRow w vx X) (hy : RRow w vy Y) (hlx : X.length ≤ 1048576) (hly : Y.length ≤ 1048576)
    (hxx : Hid (∀ x ∈ X, x.1.length ≤ 1048576 ∧ x.2.2.2.length ≤ 1048576)) (hxy : Hid (∀ x ∈ Y, x.1.length ≤ 1048576 ∧ x.2.2.2.length ≤ 1048576)) (hE : EnvR w) :
    Calls Tryz.prog 31 #[MsgV mi reply cutm code0 nm ty va vu, .int .i64 code, vx, vy] w fun e w' =>
      ((msgB mi reply cutm code0 nm.data.toList ty A0 U0 && (!reply && msgB mi true false code nm.data.toList ty X Y)) = false → MOwn w' w.heap.size false 0 false false 0 ⟨#[]⟩ 0 [] [] e) ∧
      ((msgB mi reply cutm code0 nm.data.toList ty A0 U0 && (!reply && msgB mi true false code nm.data.toList ty X Y)) = true → MOwn w' w.heap.size true mi true false code nm ty X Y e) ∧ Below w.heap.size w w' := by
  have HG : Hid (∀ W, Below w.heap.size w W → Calls Tryz.prog 19 #[MsgV mi reply cutm code0 nm ty va vu] W fun e w' => e = .returned (.bool (msgB mi reply cutm code0 nm.data.toList ty A0 U0)) ∧ Below W.heap.size W w') := fun W hW => iGoodMessage_any mi reply cutm code0 nm ty va vu A0 U0 W (ha.kept hW) (hu.kept hW) hxa hxu (hE.below hW)
  have HG2 : Hid (∀ W, Below w.heap.size w W → Calls Tryz.prog 19 #[MsgV mi true false code nm ty vx vy] W fun e w' => e = .returned (.bool (msgB mi true false code nm.data.toList ty X Y)) ∧ Below W.heap.size W w') := fun W hW => iGoodMessage_any mi true false code nm ty vx vy X Y W (hx.kept hW) (hy.kept hW) hxx hxy (hE.below hW)
  have HC : Hid (∀ W, Below w.heap.size w W → Calls Tryz.prog 38 #[MsgV mi true false code nm ty vx vy] W fun e w' => (∃ va' vu', e = .returned (MsgV mi true false code nm ty va' vu') ∧ OwnQ w' W.heap.size va' X ∧ OwnQ w' W.heap.size vu' Y ∧ ∀ g, va'.ownBlock = some g → vu'.ownBlock ≠ some g) ∧ Below W.heap.size W w') := fun W hW => copyMessage_any mi true false code nm ty vx vy X Y W hn (hx.kept hW) (hy.kept hW) hlx hly hxx hxy
  obtain ⟨ok, hok⟩ : ∃ ok, ok = msgB mi reply cutm code0 nm.data.toList ty A0 U0 := ⟨_, rfl⟩
  obtain ⟨ok2, hok2⟩ : ∃ ok2, ok2 = msgB mi true false code nm.data.toList ty X Y := ⟨_, rfl⟩
  rw [← hok, ← hok2]
  rw [← hok] at HG
  rw [← hok2] at HG2
  obtain ⟨aa, ca, hva, _, hca, _⟩ := id ha
  obtain ⟨au, cu, hvu, _, hcu, _⟩ := id hu
  obtain ⟨ax, cx, hvx, hcx1, hcx, _⟩ := id hx
  obtain ⟨ay, cy, hvy, hcy1, hcy, _⟩ := id hy
  subst hva hvu hvx hvy
  obtain ⟨R, hR⟩ : ∃ R, R = (ok && (!reply && ok2)) := ⟨_, rfl⟩
  have HRR : Hid (R = (ok && (!reply && ok2))) := hR
  rw [← hR]
  clear hok hok2 ha hu hx hy hR
  unfold MsgV at HG HG2 HC ⊢
  go_enter Tryz.func31, Tryz.ntmps31
  cases reply with
  | true =>
    go_wp2_with fail
    (try simp only [Exit.inBlock, Exit.then])
    refine bodyPost_ret (results_row_tmp rfl _ _ (w.heap.size + 1) 25 #[.int .i64 0, .bool false, .bool false, .int .i64 0, .string ⟨#[]⟩, .int .i64 0, .slice none 0 0, .slice none 0 0] (0, 0) _ (.bool false) rfl rfl ?_ Tryz.underlying25 rfl (by kernel_rfl)) rfl ⟨fun _ => mown_no _ _, fun h => (by rw [HRR.out] at h; simp at h), ?_⟩
    · rw [Below.heap_alloc _ _ _ (by simp), heap_alloc2_new]
    · exact (((Below.refl _ _).alloc (Nat.le_refl _) _).alloc (by simp) _).alloc (by simp; omega) _
  | false =>
    go_wp2_with fail
    refine (HG.out _ ((((Below.refl _ _).alloc (Nat.le_refl _) _).alloc (by simp) _).alloc (by simp; omega) _)).mono ?_
    rintro e w1 ⟨rfl, hb1⟩
    obtain ⟨hm, hr, hp, hbw⟩ := heaps3 hb1
    have hz1 : w.heap.size + 3 ≤ w1.heap.size := by have h := hb1.size; simpa using h
    have HR : Hid (w1.heap[w.heap.size + 1]? = some (.cells #[.int .i64 0, .bool false, .bool false, .int .i64 0, .string ⟨#[]⟩, .int .i64 0, .slice none 0 0, .slice none 0 0] 25)) := hr
    have HP : Hid (w1.heap[w.heap.size + 2]? = some (.cells #[.int .i64 mi, .bool true, .bool false, .int .i64 code, .string nm, .int .i64 ty, .slice ax X.length cx, .slice ay Y.length cy] 25)) := hp
    obtain ⟨c0, c1, c2, c3, c4, c5, c6, c7⟩ := msg_cells hr
    obtain ⟨d0, d1, d2, d3, d4, d5, d6, d7⟩ := msg_cells hp
    obtain ⟨f0, f1, f2, f3, f4, f5, f6, f7⟩ := msg_frozen hr
    clear hr hm hp hb1
    cases ok with
    | false =>
      go_wp2_with fail
      (try simp only [Exit.inBlock, Exit.then])
      refine bodyPost_ret (results_row_tmp rfl _ _ (w.heap.size + 1) 25 #[.int .i64 0, .bool false, .bool false, .int .i64 0, .string ⟨#[]⟩, .int .i64 0, .slice none 0 0, .slice none 0 0] (0, 0) _ (.bool false) rfl rfl ?_ Tryz.underlying25 rfl (by kernel_rfl)) rfl ⟨fun _ => mown_no _ _, fun h => (by rw [HRR.out] at h; simp at h), ?_⟩
      · exact put8_heap HR.out
      · exact put8_below hbw (Nat.le_succ _) _ _ _ _ _ _ _ _
    | true =>
      go_wp2_with fail
      refine (HG2.out _ hbw).mono ?_
      rintro e w2 ⟨rfl, hb2⟩
      have hbw2 : Below w.heap.size w w2 := hbw.trans (hb2.mono hbw.size)
      have hz2 : w1.heap.size ≤ w2.heap.size := hb2.size
      have HR2 : Hid (w2.heap[w.heap.size + 1]? = some (.cells #[.int .i64 0, .bool false, .bool false, .int .i64 0, .string ⟨#[]⟩, .int .i64 0, .slice none 0 0, .slice none 0 0] 25)) := (hb2.block (w.heap.size + 1) (by omega)).trans HR.out
      have HP2 : Hid (w2.heap[w.heap.size + 2]? = some (.cells #[.int .i64 mi, .bool true, .bool false, .int .i64 code, .string nm, .int .i64 ty, .slice ax X.length cx, .slice ay Y.length cy] 25)) := (hb2.block (w.heap.size + 2) (by omega)).trans HP.out
      clear c0 c1 c2 c3 c4 c5 c6 c7 d0 d1 d2 d3 d4 d5 d6 d7 f0 f1 f2 f3 f4 f5 f6 f7 hb2
      obtain ⟨c0, c1, c2, c3, c4, c5, c6, c7⟩ := msg_cells HR2.out
      obtain ⟨d0, d1, d2, d3, d4, d5, d6, d7⟩ := msg_cells HP2.out
      obtain ⟨f0, f1, f2, f3, f4, f5, f6, f7⟩ := msg_frozen HR2.out
      cases ok2 with
      | false =>
        go_wp2_with fail
        (try simp only [Exit.inBlock, Exit.then])
        refine bodyPost_ret (results_row_tmp rfl _ _ (w.heap.size + 1) 25 #[.int .i64 0, .bool false, .bool false, .int .i64 0, .string ⟨#[]⟩, .int .i64 0, .slice none 0 0, .slice none 0 0] (0, 0) _ (.bool false) rfl rfl ?_ Tryz.underlying25 rfl (by kernel_rfl)) rfl ⟨fun _ => mown_no _ _, fun h => (by rw [HRR.out] at h; simp at h), ?_⟩
        · exact put8_heap HR2.out
        · exact put8_below hbw2 (Nat.le_succ _) _ _ _ _ _ _ _ _
      | true =>
        go_wp2_with fail
        refine (HC.out _ hbw2).mono ?_
        rintro e w3 ⟨⟨va, vu, rfl, hoa, hou, hap⟩, hb3⟩
        obtain ⟨a1, k1, hva, _⟩ := hoa.shape
        obtain ⟨a2, k2, hvu, _⟩ := hou.shape
        subst hva hvu
        have HR3 : Hid (w3.heap[w.heap.size + 1]? = some (.cells #[.int .i64 0, .bool false, .bool false, .int .i64 0, .string ⟨#[]⟩, .int .i64 0, .slice none 0 0, .slice none 0 0] 25)) := (hb3.block (w.heap.size + 1) (by omega)).trans HR2.out
        have HOA : Hid (OwnQ w3 w2.heap.size (.slice a1 X.length k1) X) := hoa
        have HOU : Hid (OwnQ w3 w2.heap.size (.slice a2 Y.length k2) Y) := hou
        have HAP : Hid (∀ g, (Value.slice a1 X.length k1).ownBlock = some g → (Value.slice a2 Y.length k2).ownBlock ≠ some g) := hap
        have hbw3 : Below w.heap.size w w3 := hbw2.trans (hb3.mono hbw2.size)
        clear hoa hou hap hb3 c0 c1 c2 c3 c4 c5 c6 c7 d0 d1 d2 d3 d4 d5 d6 d7 f0 f1 f2 f3 f4 f5 f6 f7
        obtain ⟨c0, c1, c2, c3, c4, c5, c6, c7⟩ := msg_cells HR3.out
        obtain ⟨f0, f1, f2, f3, f4, f5, f6, f7⟩ := msg_frozen HR3.out
        go_wp2_with fail
        (try simp only [Exit.inBlock, Exit.then])
        refine bodyPost_ret (results_row_tmp rfl _ _ (w.heap.size + 1) 25 #[.int .i64 mi, .bool true, .bool false, .int .i64 code, .string nm, .int .i64 ty, .slice a1 X.length k1, .slice a2 Y.length k2] (0, 0) _ (.bool true) rfl rfl ?_ Tryz.underlying25 rfl (by kernel_rfl)) rfl ⟨fun h => (by rw [HRR.out] at h; simp at h), fun _ => ⟨_, _, rfl, ?_, ?_, HAP.out⟩, ?_⟩
        · exact put8_heap HR3.out
        · exact (HOA.out.kpt (kpt_put8 _ (w.heap.size + 1) _ _ _ _ _ _ _ _ (S := fun k => k = w.heap.size + 1) rfl) (fun g hg h => by have h1 := HOA.out.lt g hg; omega)).base (by omega)
        · exact (HOU.out.kpt (kpt_put8 _ (w.heap.size + 1) _ _ _ _ _ _ _ _ (S := fun k => k = w.heap.size + 1) rfl) (fun g hg h => by have h1 := HOU.out.lt g hg; omega)).base (by omega)
        · exact put8_below hbw3 (Nat.le_succ _) _ _ _ _ _ _ _ _
end Go.Proofs.YtbgkocjpenkijaaGreatDoor
