import Derived.Test.YtphhgjdpfcmpgaaGreatDoorZ35
import Derived.Test.YtphhgjdpfcmpgaaGreatDoorZ40
import Derived.Test.YtphhgjdpfcmpgaaGreatDoorZ28
import Derived.Test.YtphhgjdpfcmpgaaGreatDoorZ10
namespace Go.Proofs.YtphhgjdpfcmpgaaGreatDoor
open Go.RowKit

/-- What the program's ReadMessage tells: the good message with these bytes, where there is one. -/
def RmRes (w : World) (b : List UInt8) (e : Ending) (w' : World) : Prop :=
  (∀ mi reply cutm code nm ty A U, msgB mi reply cutm code nm ty A U = true → b = msgW mi reply cutm code nm ty A U → MOwn w' w.heap.size true mi reply cutm code ⟨nm.toArray⟩ ty A U e) ∧
  ((∀ mi reply cutm code nm ty A U, msgB mi reply cutm code nm ty A U = true → b ≠ msgW mi reply cutm code nm ty A U) → MOwn w' w.heap.size false 0 false false 0 ⟨#[]⟩ 0 [] [] e) ∧ Below w.heap.size w w'
theorem mown_no (w : World) (base : Nat) : MOwn w base false 0 false false 0 ⟨#[]⟩ 0 [] [] (.returned (.tuple #[noMsg, .bool false])) :=
  ⟨.slice none 0 0, .slice none 0 0, rfl, .inl ⟨rfl, rfl⟩, .inl ⟨rfl, rfl⟩, fun g h => by cases h⟩
theorem rm_no {w w' : World} {b : List UInt8} (h : ∀ mi reply cutm code nm ty A U, msgB mi reply cutm code nm ty A U = true → b ≠ msgW mi reply cutm code nm ty A U) (hb : Below w.heap.size w w') : RmRes w b (.returned (.tuple #[noMsg, .bool false])) w' :=
  ⟨fun mi reply cutm code nm ty A U h1 h2 => absurd h2 (h mi reply cutm code nm ty A U h1), fun _ => mown_no _ _, hb⟩

theorem unp_small {l : List UInt8} : ∀ {m a : Nat} {X : List (List UInt8)}, unp l m a = some X → ∀ p ∈ X, p.length ≤ 60
  | 0, a, X, h, p, hp => by
    rw [unp] at h
    split at h
    · cases h; cases hp
    · cases h
  | m + 1, a, X, h, p, hp => by
    rw [unp] at h
    split at h
    · cases h
    · rename_i nm e q ht
      cases h2 : unp l m e with
      | none => rw [h2] at h; cases h
      | some y =>
        rw [h2] at h
        simp only [Option.map_some, Option.some.injEq] at h
        subst h
        rcases List.mem_cons.1 hp with rfl | hp
        · exact take_len ht
        · exact unp_small h2 p hp
theorem rdRecs_small : ∀ (N : List (List UInt8)) (l : List UInt8), (∀ p ∈ N, p.length ≤ 60) → ∀ x ∈ rdRecs N l, x.1.length ≤ 1048576 ∧ x.2.2.2.length ≤ 1048576
  | [], _, _, x, hx => by cases hx
  | s :: r, l, h, x, hx => by
    rw [rdRecs] at hx
    rcases List.mem_cons.1 hx with rfl | hx
    · have h1 := h s (by simp)
      refine ⟨by show s.length ≤ _; omega, ?_⟩
      show ((readR _ _).getD []).length ≤ _
      cases hr : readR ((rdN (tkb l 1) : Nat) : Int) (tkb (tkr (tkr (tkr l 1) 3) 1) (rdN (tkb (tkr (tkr l 1) 3) 1))) with
      | none => simp
      | some d => have h2 := readR_len hr; simp only [Option.getD_some]; omega
    · exact rdRecs_small r _ (fun p hp => h p (by simp [hp])) x hx
theorem own_low {w : World} {base base' : Nat} {v : Value} {L : List (List UInt8 × Int × Int × List UInt8)} (h : OwnQ w base v L) (hb : base' ≤ base) : OwnQ w base' v L := by
  rcases h with h | ⟨g, cap, h1, h2, h3, h4, h5⟩
  · exact .inl h
  · exact .inr ⟨g, cap, h1, h2, h3, Nat.le_trans hb h4, h5⟩

set_option maxRecDepth 20000 in
set_option maxHeartbeats 4000000 in
theorem iReadMessage_any (s : ByteArray) (w : World) (hs : s.size ≤ 1048576) (hE : EnvR w) :
    Calls Tryz.prog 11 #[.string s] w fun e w' => RmRes w s.data.toList e w' := by
  obtain ⟨l1, hl1⟩ : ∃ l1, l1 = tkr s.data.toList 2 := ⟨_, rfl⟩
  obtain ⟨n1, hn1⟩ : ∃ n1, n1 = rdN (tkb s.data.toList 2) := ⟨_, rfl⟩
  obtain ⟨l2, hl2⟩ : ∃ l2, l2 = tkr l1 1 := ⟨_, rfl⟩
  obtain ⟨n2, hn2⟩ : ∃ n2, n2 = rdN (tkb l1 1) := ⟨_, rfl⟩
  obtain ⟨l3, hl3⟩ : ∃ l3, l3 = tkr l2 1 := ⟨_, rfl⟩
  obtain ⟨n3, hn3⟩ : ∃ n3, n3 = rdN (tkb l2 1) := ⟨_, rfl⟩
  obtain ⟨l4, hl4⟩ : ∃ l4, l4 = tkr l3 1 := ⟨_, rfl⟩
  obtain ⟨n4, hn4⟩ : ∃ n4, n4 = rdN (tkb l3 1) := ⟨_, rfl⟩
  obtain ⟨l5, hl5⟩ : ∃ l5, l5 = tkr l4 1 := ⟨_, rfl⟩
  obtain ⟨n5, hn5⟩ : ∃ n5, n5 = rdN (tkb l4 1) := ⟨_, rfl⟩
  obtain ⟨l6, hl6⟩ : ∃ l6, l6 = tkr l5 2 := ⟨_, rfl⟩
  obtain ⟨n6, hn6⟩ : ∃ n6, n6 = rdN (tkb l5 2) := ⟨_, rfl⟩
  obtain ⟨l7, hl7⟩ : ∃ l7, l7 = tkr l6 n6 := ⟨_, rfl⟩
  obtain ⟨pk, hpk⟩ : ∃ pk, pk = tkb l6 n6 := ⟨_, rfl⟩
  obtain ⟨l8, hl8⟩ : ∃ l8, l8 = tkr l7 1 := ⟨_, rfl⟩
  obtain ⟨n8, hn8⟩ : ∃ n8, n8 = rdN (tkb l7 1) := ⟨_, rfl⟩
  have HUM : Hid (Calls Tryz.prog 33 #[.string s] (w.alloc (.cells #[.int .i64 0, .bool false, .bool false, .int .i64 0, .string ⟨#[]⟩, .int .i64 0, .slice none 0 0, .slice none 0 0] 30)) fun e w' => UmRes (w.alloc (.cells #[.int .i64 0, .bool false, .bool false, .int .i64 0, .string ⟨#[]⟩, .int .i64 0, .slice none 0 0, .slice none 0 0] 30)) (unp pk (1 + (n4 + n5)) 0) n1 n2 n3 n4 n8 l8 e w') := unpackMessage_any s l1 l2 l3 l4 l5 l6 l7 l8 pk n1 n2 n3 n4 n5 n6 n8 _ hs (hE.below ((Below.refl w.heap.size w).alloc (Nat.le_refl _) _)) ⟨hl1, hn1⟩ ⟨hl2, hn2⟩ ⟨hl3, hn3⟩ ⟨hl4, hn4⟩ ⟨hl5, hn5⟩ ⟨hl6, hn6⟩ ⟨hl7, hpk⟩ ⟨hl8, hn8⟩
  have HBK : Hid (∀ mi reply cutm code nm ty A U, msgB mi reply cutm code nm ty A U = true → s.data.toList = msgW mi reply cutm code nm ty A U → ((n1 : Int) = mi ∧ decide (128 ≤ n2) = reply ∧ decide (n2 % 2 = 1) = cutm ∧ (n3 : Int) = code ∧ (n8 : Int) = ty) ∧ unp pk (1 + (n4 + n5)) 0 = some (nm :: (A ++ U).map Prod.fst) ∧
    rdRecs (((A ++ U).map Prod.fst).take n4) l8 = A ∧ rdRecs (((A ++ U).map Prod.fst).drop n4) (rdLefts (((A ++ U).map Prod.fst).take n4) l8) = U) := fun mi reply cutm code nm ty A U h1 h2 => prog_back (goodM h1) h2 ⟨hl1, hn1⟩ ⟨hl2, hn2⟩ ⟨hl3, hn3⟩ ⟨hl4, hn4⟩ ⟨hl5, hn5⟩ ⟨hl6, hn6⟩ ⟨hl7, hpk⟩ ⟨hl8, hn8⟩
  clear hl1 hl2 hl3 hl4 hl5 hl6 hl7 hl8 hn1 hn2 hn3 hn4 hn5 hn6 hn8 hpk
  obtain ⟨X, hX⟩ : ∃ X, X = unp pk (1 + (n4 + n5)) 0 := ⟨_, rfl⟩
  rw [← hX] at HUM HBK
  have HXL : Hid (∀ Y, X = some Y → ∃ nm r, Y = nm :: r) := fun Y h => by
    obtain ⟨nm, r, e, _⟩ := unp_cons (by rw [← hX]; exact h)
    exact ⟨nm, r, e⟩
  have HSM : Hid (∀ nm r, X = some (nm :: r) → Hid (∀ x ∈ rdRecs (r.take n4) l8, x.1.length ≤ 1048576 ∧ x.2.2.2.length ≤ 1048576) ∧ Hid (∀ x ∈ rdRecs (r.drop n4) (rdLefts (r.take n4) l8), x.1.length ≤ 1048576 ∧ x.2.2.2.length ≤ 1048576)) := fun nm r h => by
    have hp := unp_small (by rw [← hX]; exact h)
    exact ⟨rdRecs_small _ _ (fun p hp' => hp p (List.mem_cons_of_mem _ (List.mem_of_mem_take hp'))), rdRecs_small _ _ (fun p hp' => hp p (List.mem_cons_of_mem _ (List.mem_of_mem_drop hp')))⟩
  clear hX
  go_enter Tryz.func11, Tryz.ntmps11
  go_wp2_with fail
  have HR0 : Hid ((w.alloc (.cells #[.int .i64 0, .bool false, .bool false, .int .i64 0, .string ⟨#[]⟩, .int .i64 0, .slice none 0 0, .slice none 0 0] 30)).heap[w.heap.size]? = some (.cells #[.int .i64 0, .bool false, .bool false, .int .i64 0, .string ⟨#[]⟩, .int .i64 0, .slice none 0 0, .slice none 0 0] 30)) := blk_fresh w _
  have hb0 : Below w.heap.size w (w.alloc (.cells #[.int .i64 0, .bool false, .bool false, .int .i64 0, .string ⟨#[]⟩, .int .i64 0, .slice none 0 0, .slice none 0 0] 30)) := (Below.refl w.heap.size w).alloc (Nat.le_refl _) _
  have hz0 : (w.alloc (.cells #[.int .i64 0, .bool false, .bool false, .int .i64 0, .string ⟨#[]⟩, .int .i64 0, .slice none 0 0, .slice none 0 0] 30)).heap.size = w.heap.size + 1 := by simp
  refine HUM.out.mono ?_
  rintro e w1 ⟨hno, hyes, hb1⟩
  rw [hz0] at hb1
  have hz1 : w.heap.size + 1 ≤ w1.heap.size := by have h := hb1.size; omega
  have HR1 : Hid (w1.heap[w.heap.size]? = some (.cells #[.int .i64 0, .bool false, .bool false, .int .i64 0, .string ⟨#[]⟩, .int .i64 0, .slice none 0 0, .slice none 0 0] 30)) := (hb1.block _ (by omega)).trans HR0.out
  have hbw1 : Below w.heap.size w w1 := hb0.trans (hb1.mono (by omega))
  rcases (show X = none ∨ ∃ Y, X = some Y by cases X <;> simp) with hN | ⟨Y, hY⟩
  · have HNO : Hid (∀ mi reply cutm code nm ty A U, msgB mi reply cutm code nm ty A U = true → s.data.toList ≠ msgW mi reply cutm code nm ty A U) := fun mi reply cutm code nm ty A U h1 h2 => by
      have h := (HBK.out mi reply cutm code nm ty A U h1 h2).2.1
      rw [hN] at h; cases h
    obtain rfl := hno hN
    clear hno hyes hN HUM HR0 hb0 hb1
    unfold noMsg MsgV
    have HR2 : Hid ((w1.alloc (.cells #[.int .i64 0, .bool false, .bool false, .int .i64 0, .string ⟨#[]⟩, .int .i64 0, .slice none 0 0, .slice none 0 0] 30)).heap[w.heap.size]? = some (.cells #[.int .i64 0, .bool false, .bool false, .int .i64 0, .string ⟨#[]⟩, .int .i64 0, .slice none 0 0, .slice none 0 0] 30)) := (((Below.refl w1.heap.size w1).alloc (Nat.le_refl _) _).block _ (by omega)).trans HR1.out
    have hbw2 : Below w.heap.size w (w1.alloc (.cells #[.int .i64 0, .bool false, .bool false, .int .i64 0, .string ⟨#[]⟩, .int .i64 0, .slice none 0 0, .slice none 0 0] 30)) := hbw1.alloc hbw1.size _
    obtain ⟨d0, d1, d2, d3, d4, d5, d6, d7⟩ := msg_cells HR2.out
    obtain ⟨f0, f1, f2, f3, f4, f5, f6, f7⟩ := msg_frozen HR2.out
    go_wp2_with fail
    (try simp only [Exit.inBlock, Exit.then])
    refine bodyPost_ret (results_row_tmp rfl _ _ w.heap.size 30 #[.int .i64 0, .bool false, .bool false, .int .i64 0, .string ⟨#[]⟩, .int .i64 0, .slice none 0 0, .slice none 0 0] (0, 0) _ (.bool false) rfl rfl ?_ Tryz.underlying30 rfl (by kernel_rfl)) rfl (rm_no HNO.out ?_)
    · exact put8_heap HR2.out
    · exact put8_below hbw2 (Nat.le_refl _) _ _ _ _ _ _ _ _
  · obtain ⟨nm, r, hYe⟩ := HXL.out Y hY
    subst hYe
    obtain ⟨va, vu, rfl, hoa, hou, hap⟩ := hyes nm r hY
    rw [hz0] at hoa hou
    obtain ⟨A, hA⟩ : ∃ A, A = rdRecs (r.take n4) l8 := ⟨_, rfl⟩
    obtain ⟨B, hB⟩ : ∃ B, B = rdRecs (r.drop n4) (rdLefts (r.take n4) l8) := ⟨_, rfl⟩
    have hsm := HSM.out nm r hY
    rw [← hA] at hoa hsm
    rw [← hB] at hou hsm
    have HBK2 : Hid (∀ mi reply cutm code nm' ty A' U', msgB mi reply cutm code nm' ty A' U' = true → s.data.toList = msgW mi reply cutm code nm' ty A' U' → mi = (n1 : Int) ∧ reply = decide (128 ≤ n2) ∧ cutm = decide (n2 % 2 = 1) ∧ code = (n3 : Int) ∧ nm' = nm ∧ ty = (n8 : Int) ∧ A' = A ∧ U' = B) := fun mi reply cutm code nm' ty A' U' h1 h2 => by
      obtain ⟨⟨q1, q2, q3, q4, q5⟩, q6, q7, q8⟩ := HBK.out mi reply cutm code nm' ty A' U' h1 h2
      rw [hY] at q6
      have q9 := Option.some.inj q6
      injection q9 with q9 q10
      rw [← q10, ← hA] at q7
      rw [← q10, ← hB] at q8
      exact ⟨q1.symm, q2.symm, q3.symm, q4.symm, q9.symm, q5.symm, q7.symm, q8.symm⟩
    obtain ⟨aa, ca, hva, hca⟩ := hoa.shape
    obtain ⟨au, cu, hvu, hcu⟩ := hou.shape
    have hna : ∀ n c, va = .slice none n c → c = 0 := fun n c e => by
      rcases hoa with ⟨h1, _⟩ | ⟨g, cap, h1, _⟩
      · rw [h1] at e; cases e; rfl
      · rw [h1] at e; cases e
    have hnu : ∀ n c, vu = .slice none n c → c = 0 := fun n c e => by
      rcases hou with ⟨h1, _⟩ | ⟨g, cap, h1, _⟩
      · rw [h1] at e; cases e; rfl
      · rw [h1] at e; cases e
    have HMB : Hid (∀ W, Below w1.heap.size w1 W → Calls Tryz.prog 8 #[MsgV (n1 : Int) (decide (128 ≤ n2)) (decide (n2 % 2 = 1)) (n3 : Int) ⟨nm.toArray⟩ (n8 : Int) va vu] W fun e w' => e = putVal (mbI (n1 : Int) (decide (128 ≤ n2)) (decide (n2 % 2 = 1)) (n3 : Int) nm (n8 : Int) A B) ∧ Below W.heap.size W w') := fun W hW => iMessageBytes_any (n1 : Int) (decide (128 ≤ n2)) (decide (n2 % 2 = 1)) (n3 : Int) ⟨nm.toArray⟩ (n8 : Int) va vu A B W (hoa.row.kept hW) (hou.row.kept hW) hna hnu hsm.1 hsm.2 (hE.below (hbw1.trans (hW.mono hbw1.size)))
    have HOA : Hid (OwnQ w1 (w.heap.size + 1) va A) := hoa
    have HOU : Hid (OwnQ w1 (w.heap.size + 1) vu B) := hou
    have HAP : Hid (∀ g, va.ownBlock = some g → vu.ownBlock ≠ some g) := hap
    subst hva
    subst hvu
    clear hno hyes hY HUM HR0 hb0 hb1 hoa hou hap hna hnu hA hB HBK HXL HSM hsm
    unfold MsgV at HMB ⊢
    have HM2 : Hid ((w1.alloc (.cells #[.int .i64 (n1 : Int), .bool (decide (128 ≤ n2)), .bool (decide (n2 % 2 = 1)), .int .i64 (n3 : Int), .string ⟨nm.toArray⟩, .int .i64 (n8 : Int), .slice aa A.length ca, .slice au B.length cu] 30)).heap[w1.heap.size]? = some (.cells #[.int .i64 (n1 : Int), .bool (decide (128 ≤ n2)), .bool (decide (n2 % 2 = 1)), .int .i64 (n3 : Int), .string ⟨nm.toArray⟩, .int .i64 (n8 : Int), .slice aa A.length ca, .slice au B.length cu] 30)) := blk_fresh w1 _
    have hb2 : Below w1.heap.size w1 (w1.alloc (.cells #[.int .i64 (n1 : Int), .bool (decide (128 ≤ n2)), .bool (decide (n2 % 2 = 1)), .int .i64 (n3 : Int), .string ⟨nm.toArray⟩, .int .i64 (n8 : Int), .slice aa A.length ca, .slice au B.length cu] 30)) := (Below.refl w1.heap.size w1).alloc (Nat.le_refl _) _
    have hz2 : (w1.alloc (.cells #[.int .i64 (n1 : Int), .bool (decide (128 ≤ n2)), .bool (decide (n2 % 2 = 1)), .int .i64 (n3 : Int), .string ⟨nm.toArray⟩, .int .i64 (n8 : Int), .slice aa A.length ca, .slice au B.length cu] 30)).heap.size = w1.heap.size + 1 := by simp
    go_wp2_with fail
    refine (HMB.out _ hb2).mono ?_
    rintro e w3 ⟨rfl, hb3⟩
    have hb13 : Below w1.heap.size w1 w3 := hb2.trans (hb3.mono hb2.size)
    have HR3 : Hid (w3.heap[w.heap.size]? = some (.cells #[.int .i64 0, .bool false, .bool false, .int .i64 0, .string ⟨#[]⟩, .int .i64 0, .slice none 0 0, .slice none 0 0] 30)) := (hb13.block _ (by omega)).trans HR1.out
    have HM3 : Hid (w3.heap[w1.heap.size]? = some (.cells #[.int .i64 (n1 : Int), .bool (decide (128 ≤ n2)), .bool (decide (n2 % 2 = 1)), .int .i64 (n3 : Int), .string ⟨nm.toArray⟩, .int .i64 (n8 : Int), .slice aa A.length ca, .slice au B.length cu] 30)) := (hb3.block _ (by omega)).trans HM2.out
    have hbw3 : Below w.heap.size w w3 := hbw1.trans (hb13.mono hbw1.size)
    have HOA3 : Hid (OwnQ w3 (w.heap.size + 1) (.slice aa A.length ca) A) := HOA.out.kpt (below_kpt0 hb13 (fun _ => False)) (fun _ _ h => h)
    have HOU3 : Hid (OwnQ w3 (w.heap.size + 1) (.slice au B.length cu) B) := HOU.out.kpt (below_kpt0 hb13 (fun _ => False)) (fun _ _ h => h)
    clear hb3 hb2 HM2 HMB hz2 HOA HOU
    obtain ⟨d0, d1, d2, d3, d4, d5, d6, d7⟩ := msg_cells HR3.out
    obtain ⟨f0, f1, f2, f3, f4, f5, f6, f7⟩ := msg_frozen HR3.out
    obtain ⟨c0, c1, c2, c3, c4, c5, c6, c7⟩ := msg_cells HM3.out
    unfold putVal mbI
    cases hG : msgB (n1 : Int) (decide (128 ≤ n2)) (decide (n2 % 2 = 1)) (n3 : Int) nm (n8 : Int) A B with
    | false =>
      have HNO : Hid (∀ mi reply cutm code nm ty A U, msgB mi reply cutm code nm ty A U = true → s.data.toList ≠ msgW mi reply cutm code nm ty A U) := fun mi reply cutm code nm' ty A' U' h1 h2 => by
        obtain ⟨rfl, rfl, rfl, rfl, rfl, rfl, rfl, rfl⟩ := HBK2.out mi reply cutm code nm' ty A' U' h1 h2
        rw [hG] at h1; cases h1
      clear hG
      rw [if_neg (by simp), show (none : Option (List UInt8)).getD [] = [] from rfl, show (none : Option (List UInt8)).isSome = false from rfl]
      go_wp2_with fail
      (try simp only [Exit.inBlock, Exit.then])
      refine bodyPost_ret (results_row_tmp rfl _ _ w.heap.size 30 #[.int .i64 0, .bool false, .bool false, .int .i64 0, .string ⟨#[]⟩, .int .i64 0, .slice none 0 0, .slice none 0 0] (0, 0) _ (.bool false) rfl rfl ?_ Tryz.underlying30 rfl (by kernel_rfl)) rfl (rm_no HNO.out ?_)
      · exact put8_heap HR3.out
      · exact put8_below hbw3 (Nat.le_refl _) _ _ _ _ _ _ _ _
    | true =>
      have HG : Hid (msgB (n1 : Int) (decide (128 ≤ n2)) (decide (n2 % 2 = 1)) (n3 : Int) nm (n8 : Int) A B = true) := hG
      clear hG
      obtain ⟨mw, hmw⟩ : ∃ mw, mw = msgW (n1 : Int) (decide (128 ≤ n2)) (decide (n2 % 2 = 1)) (n3 : Int) nm (n8 : Int) A B := ⟨_, rfl⟩
      rw [if_pos rfl, ← hmw, show (some mw).getD [] = mw from rfl, show (some mw).isSome = true from rfl]
      have HMW : Hid (mw = msgW (n1 : Int) (decide (128 ≤ n2)) (decide (n2 % 2 = 1)) (n3 : Int) nm (n8 : Int) A B) := hmw
      clear hmw
      by_cases hyb : mw = s.data.toList
      · rw [show (⟨mw.toArray⟩ : ByteArray) = s from data_eq hyb]
        have e9 : (s.toList != s.toList) = false := by simp
        have HYB : Hid (mw = s.data.toList) := hyb
        clear hyb
        go_wp2_with fail
        (try simp only [Exit.inBlock, Exit.then])
        refine bodyPost_ret (results_row_tmp rfl _ _ w.heap.size 30 #[.int .i64 (n1 : Int), .bool (decide (128 ≤ n2)), .bool (decide (n2 % 2 = 1)), .int .i64 (n3 : Int), .string ⟨nm.toArray⟩, .int .i64 (n8 : Int), .slice aa A.length ca, .slice au B.length cu] (0, 0) _ (.bool true) rfl rfl ?_ Tryz.underlying30 rfl (by kernel_rfl)) rfl ⟨fun mi reply cutm code nm' ty A' U' h1 h2 => ?_, fun h => absurd (by rw [← HYB.out]; exact HMW.out) (h _ _ _ _ _ _ _ _ HG.out), ?_⟩
        · exact put8_heap HR3.out
        · obtain ⟨rfl, rfl, rfl, rfl, rfl, rfl, rfl, rfl⟩ := HBK2.out mi reply cutm code nm' ty A' U' h1 h2
          have hkp : ∀ (v0 v1 v2 v3 v4 v5 v6 v7 : Value), Kpt w3 (put8 w3 w.heap.size v0 v1 v2 v3 v4 v5 v6 v7) (fun k => k = w.heap.size) := fun _ _ _ _ _ _ _ _ => kpt_put8 _ _ _ _ _ _ _ _ _ _ rfl
          exact ⟨_, _, rfl, own_low (HOA3.out.kpt (hkp _ _ _ _ _ _ _ _) (fun g hg h => by have h1 := HOA3.out.lt g hg; omega)) (Nat.le_succ _), own_low (HOU3.out.kpt (hkp _ _ _ _ _ _ _ _) (fun g hg h => by have h1 := HOU3.out.lt g hg; omega)) (Nat.le_succ _), HAP.out⟩
        · exact put8_below hbw3 (Nat.le_refl _) _ _ _ _ _ _ _ _
      · have HNO : Hid (∀ mi reply cutm code nm ty A U, msgB mi reply cutm code nm ty A U = true → s.data.toList ≠ msgW mi reply cutm code nm ty A U) := fun mi reply cutm code nm' ty A' U' h1 h2 => by
          obtain ⟨rfl, rfl, rfl, rfl, rfl, rfl, rfl, rfl⟩ := HBK2.out mi reply cutm code nm' ty A' U' h1 h2
          exact hyb (HMW.out.trans h2.symm)
        have e5 : (mw == s.toList) = false := by rw [ByteArray.toList_eq]; simpa using hyb
        clear hyb
        go_wp2_with fail
        (try simp only [Exit.inBlock, Exit.then])
        refine bodyPost_ret (results_row_tmp rfl _ _ w.heap.size 30 #[.int .i64 0, .bool false, .bool false, .int .i64 0, .string ⟨#[]⟩, .int .i64 0, .slice none 0 0, .slice none 0 0] (0, 0) _ (.bool false) rfl rfl ?_ Tryz.underlying30 rfl (by kernel_rfl)) rfl (rm_no HNO.out ?_)
        · exact put8_heap HR3.out
        · exact put8_below hbw3 (Nat.le_refl _) _ _ _ _ _ _ _ _
end Go.Proofs.YtphhgjdpfcmpgaaGreatDoor

namespace Go.Proofs.YtphhgjdpfcmpgaaGreatDoor.readMessage
open Go.RowKit

set_option maxRecDepth 20000 in
set_option maxHeartbeats 4000000 in
theorem core (b0 : ByteArray) (ok : Bool) (mi : Int) (reply cutm : Bool) (code : Int) (nm : ByteArray) (ty : Int) (A U : List (List UInt8 × Int × Int × List UInt8)) (w : World) (hs0 : b0.size ≤ 1048576) (hE : EnvR w) (hA : A.length ≤ 1048576) (hU : U.length ≤ 1048576)
    (HS : Hid (∀ W, Calls Tryz.prog 10 #[.string b0] W fun e w' => MRes w' ok mi reply cutm code nm ty A U e ∧ Below W.heap.size W w'))
    (HI : Hid (∀ W, EnvR W → Calls Tryz.prog 11 #[.string b0] W fun e w' => MOwn w' W.heap.size ok mi reply cutm code nm ty A U e ∧ Below W.heap.size W w')) :
    Calls Tryz.prog 4 #[.string b0] w fun e w' => e = .returned (.bool true) ∧ Below w.heap.size w w' := by
  have g : ¬ (1048576 : Int) < (b0.size : Int) := by omega
  have e2 : (ok != ok) = false := by simp
  have HMK : Hid (∀ va vu base W, OwnQ W base va A → OwnQ W base vu U → (∀ g, va.ownBlock = some g → vu.ownBlock ≠ some g) → Calls Tryz.prog 12 #[MsgV mi reply cutm code nm ty va vu, .int .i64 1] W fun e w' => e = .returned (.int .i64 (1 + 4 * (A.length : Int) + 4 * (U.length : Int))) ∧ OwnQ w' base va (mrks 1 A.length) ∧ OwnQ w' base vu (mrks (1 + 4 * A.length) U.length) ∧ Kpt W w' (fun k => va.ownBlock = some k ∨ vu.ownBlock = some k)) := fun va vu base W h1 h2 h3 => markMessage_any mi reply cutm code nm ty va vu A U base 1 W h1 h2 h3 hA hU (by omega) (by omega)
  have HHD : Hid (∀ va vu base W, OwnQ W base va (mrks 1 A.length) → OwnQ W base vu (mrks (1 + 4 * A.length) U.length) → Calls Tryz.prog 13 #[MsgV mi reply cutm code nm ty va vu, .int .i64 1] W fun e w' => e = .returned (.int .i64 (1 + 4 * (A.length : Int) + 4 * (U.length : Int))) ∧ Below W.heap.size W w') := fun va vu base W h1 h2 => heldMessage_any mi reply cutm code nm ty va vu A.length U.length 1 W h1.row h2.row hA hU (by omega) (by omega)
  obtain ⟨q, hq⟩ : ∃ q : Int, q = 1 + 4 * (A.length : Int) + 4 * (U.length : Int) := ⟨_, rfl⟩
  rw [← hq] at HMK HHD
  have hq0 : decide (q < 0) = false := by simp; omega
  have hqq : (q != q) = false := by simp
  clear hq
  unfold MsgV at HMK HHD
  go_enter Tryz.func4, Tryz.ntmps4
  go_wp2_with fail
  refine (HS.out _).mono ?_
  rintro e w1 ⟨⟨va1, vu1, rfl, hra, hru⟩, hb1⟩
  obtain ⟨aa1, ca1, hva1, _, hca1, _⟩ := id hra
  obtain ⟨au1, cu1, hvu1, _, hcu1, _⟩ := id hru
  have HRA : Hid (∀ W, Below w1.heap.size w1 W → RRow W va1 A) := fun W hW => hra.kept hW
  have HRU : Hid (∀ W, Below w1.heap.size w1 W → RRow W vu1 U) := fun W hW => hru.kept hW
  subst hva1
  subst hvu1
  clear hra hru
  unfold MsgV
  go_wp2_with fail
  refine (HI.out _ (hE.below (hb1.trans (((Below.refl w1.heap.size w1).alloc (Nat.le_refl _) _).mono hb1.size)))).mono ?_
  rintro e w2 ⟨⟨va2, vu2, rfl, hoa, hou, hap⟩, hb2⟩
  obtain ⟨aa2, ca2, hva2, hca2⟩ := hoa.shape
  obtain ⟨au2, cu2, hvu2, hcu2⟩ := hou.shape
  subst hva2
  subst hvu2
  unfold MsgV
  have hb12 : Below w1.heap.size w1 w2 := ((Below.refl w1.heap.size w1).alloc (Nat.le_refl _) _).trans (hb2.mono (by simp))
  have HW2 : Hid (w2.heap[w1.heap.size]? = some (.cells #[.int .i64 mi, .bool reply, .bool cutm, .int .i64 code, .string nm, .int .i64 ty, .slice aa1 A.length ca1, .slice au1 U.length cu1] 30)) := (hb2.block w1.heap.size (by simp)).trans (blk_new _ _)
  have hz2 : w1.heap.size < w2.heap.size := Nat.lt_of_lt_of_le (by simp) hb2.size
  have HOA : Hid (OwnQ w2 (w1.heap.size + 1) (.slice aa2 A.length ca2) A) := by
    have h : OwnQ w2 (w1.heap.size + 1) (.slice aa2 A.length ca2) A := by simpa using hoa
    exact h
  have HOU : Hid (OwnQ w2 (w1.heap.size + 1) (.slice au2 U.length cu2) U) := by
    have h : OwnQ w2 (w1.heap.size + 1) (.slice au2 U.length cu2) U := by simpa using hou
    exact h
  have HAP : Hid (∀ g, (Value.slice aa2 A.length ca2).ownBlock = some g → (Value.slice au2 U.length cu2).ownBlock ≠ some g) := hap
  obtain ⟨c0, c1, c2, c3, c4, c5, c6, c7⟩ := msg_cells HW2.out
  clear hoa hou hap hb2
  go_wp2_with fail
  refine (eqMessage_same mi reply cutm code nm ty _ _ _ _ A U _ (HOA.out.row.kept ((Below.refl w2.heap.size w2).alloc (Nat.le_refl _) _)) (HOU.out.row.kept ((Below.refl w2.heap.size w2).alloc (Nat.le_refl _) _)) (HRA.out _ (hb12.alloc hb12.size _)) (HRU.out _ (hb12.alloc hb12.size _))).mono ?_
  rintro e w3 ⟨rfl, hb3⟩
  clear c0 c1 c2 c3 c4 c5 c6 c7
  have hb23 : Below w2.heap.size w2 w3 := ((Below.refl w2.heap.size w2).alloc (Nat.le_refl _) _).trans (hb3.mono (by simp))
  have HW3 : Hid (w3.heap[w1.heap.size]? = some (.cells #[.int .i64 mi, .bool reply, .bool cutm, .int .i64 code, .string nm, .int .i64 ty, .slice aa1 A.length ca1, .slice au1 U.length cu1] 30)) := (hb23.block w1.heap.size hz2).trans HW2.out
  have HG3 : Hid (w3.heap[w2.heap.size]? = some (.cells #[.int .i64 mi, .bool reply, .bool cutm, .int .i64 code, .string nm, .int .i64 ty, .slice aa2 A.length ca2, .slice au2 U.length cu2] 30)) := (hb3.block w2.heap.size (by simp)).trans (blk_new _ _)
  have hz3 : w2.heap.size < w3.heap.size := Nat.lt_of_lt_of_le (by simp) hb3.size
  have hb13 : Below w1.heap.size w1 w3 := hb12.trans (hb23.mono hb12.size)
  obtain ⟨d0, d1, d2, d3, d4, d5, d6, d7⟩ := msg_cells HG3.out
  clear hb3 HW2
  go_wp2_with fail
  refine (HMK.out _ _ (w1.heap.size + 1) _ (HOA.out.kept hb23) (HOU.out.kept hb23) HAP.out).mono ?_
  rintro e w4 ⟨rfl, ho4, hu4, hk4⟩
  clear d0 d1 d2 d3 d4 d5 d6 d7
  have HLA : Hid (∀ k, (Value.slice aa2 A.length ca2).ownBlock = some k ∨ (Value.slice au2 U.length cu2).ownBlock = some k → w1.heap.size + 1 ≤ k ∧ k < w2.heap.size) := fun k h => by
    rcases h with h | h
    · exact HOA.out.lt k h
    · exact HOU.out.lt k h
  have HW4 : Hid (w4.heap[w1.heap.size]? = some (.cells #[.int .i64 mi, .bool reply, .bool cutm, .int .i64 code, .string nm, .int .i64 ty, .slice aa1 A.length ca1, .slice au1 U.length cu1] 30)) := (hk4.block w1.heap.size (by omega) (fun h => by have h1 := HLA.out _ h; omega)).trans HW3.out
  have HG4 : Hid (w4.heap[w2.heap.size]? = some (.cells #[.int .i64 mi, .bool reply, .bool cutm, .int .i64 code, .string nm, .int .i64 ty, .slice aa2 A.length ca2, .slice au2 U.length cu2] 30)) := (hk4.block w2.heap.size (by omega) (fun h => by have h1 := HLA.out _ h; omega)).trans HG3.out
  have hb14 : Below w1.heap.size w1 w4 := hb13.trans (hk4.below hb13.size (fun k hk h => by have h1 := HLA.out _ h; omega))
  have hz4 : w3.heap.size ≤ w4.heap.size := hk4.size
  have HO4 : Hid (OwnQ w4 (w1.heap.size + 1) (.slice aa2 A.length ca2) (mrks 1 A.length)) := ho4
  have HU4 : Hid (OwnQ w4 (w1.heap.size + 1) (.slice au2 U.length cu2) (mrks (1 + 4 * A.length) U.length)) := hu4
  obtain ⟨d0, d1, d2, d3, d4, d5, d6, d7⟩ := msg_cells HG4.out
  clear ho4 hu4 hk4 HW3 HG3 hb13 hb23 HLA
  go_wp2_with fail
  refine (HHD.out _ _ _ _ HO4.out HU4.out).mono ?_
  rintro e w5 ⟨rfl, hb5⟩
  clear d0 d1 d2 d3 d4 d5 d6 d7
  have hb15 : Below w1.heap.size w1 w5 := hb14.trans (hb5.mono hb14.size)
  have hbw5 : Below w.heap.size w w5 := hb1.trans (hb15.mono hb1.size)
  have HW5 : Hid (w5.heap[w1.heap.size]? = some (.cells #[.int .i64 mi, .bool reply, .bool cutm, .int .i64 code, .string nm, .int .i64 ty, .slice aa1 A.length ca1, .slice au1 U.length cu1] 30)) := (hb5.block w1.heap.size (by omega)).trans HW4.out
  have HG5 : Hid (w5.heap[w2.heap.size]? = some (.cells #[.int .i64 mi, .bool reply, .bool cutm, .int .i64 code, .string nm, .int .i64 ty, .slice aa2 A.length ca2, .slice au2 U.length cu2] 30)) := (hb5.block w2.heap.size (by omega)).trans HG4.out
  have hz5 : w4.heap.size ≤ w5.heap.size := hb5.size
  have HO5 : Hid (OwnQ w5 (w1.heap.size + 1) (.slice aa2 A.length ca2) (mrks 1 A.length)) := HO4.out.kept hb5
  have HU5 : Hid (OwnQ w5 (w1.heap.size + 1) (.slice au2 U.length cu2) (mrks (1 + 4 * A.length) U.length)) := HU4.out.kept hb5
  have HE5 : Hid (EnvR w5) := hE.below hbw5
  clear hb5 HW4 HG4 HO4 HU4 hb14
  go_wp2_with fail
  refine (HI.out _ HE5.out).mono ?_
  rintro e w6 ⟨⟨va3, vu3, rfl, hoa3, hou3, _⟩, hb6⟩
  obtain ⟨aa3, ca3, hva3, hca3⟩ := hoa3.shape
  obtain ⟨au3, cu3, hvu3, hcu3⟩ := hou3.shape
  subst hva3
  subst hvu3
  unfold MsgV
  have HRA3 : Hid (RRow w6 (.slice aa3 A.length ca3) A) := hoa3.row
  have HRU3 : Hid (RRow w6 (.slice au3 U.length cu3) U) := hou3.row
  have hz6 : w5.heap.size ≤ w6.heap.size := hb6.size
  have hb16 : Below w1.heap.size w1 w6 := hb15.trans (hb6.mono hb15.size)
  have HW6 : Hid (w6.heap[w1.heap.size]? = some (.cells #[.int .i64 mi, .bool reply, .bool cutm, .int .i64 code, .string nm, .int .i64 ty, .slice aa1 A.length ca1, .slice au1 U.length cu1] 30)) := (hb6.block w1.heap.size (by omega)).trans HW5.out
  have HG6 : Hid (w6.heap[w2.heap.size]? = some (.cells #[.int .i64 mi, .bool reply, .bool cutm, .int .i64 code, .string nm, .int .i64 ty, .slice aa2 A.length ca2, .slice au2 U.length cu2] 30)) := (hb6.block w2.heap.size (by omega)).trans HG5.out
  have HO6 : Hid (OwnQ w6 (w1.heap.size + 1) (.slice aa2 A.length ca2) (mrks 1 A.length)) := HO5.out.kept hb6
  have HU6 : Hid (OwnQ w6 (w1.heap.size + 1) (.slice au2 U.length cu2) (mrks (1 + 4 * A.length) U.length)) := HU5.out.kept hb6
  obtain ⟨c0, c1, c2, c3, c4, c5, c6, c7⟩ := msg_cells HW6.out
  have hlt6 : w1.heap.size < w6.heap.size := by omega
  clear hoa3 hou3 hb6 hb15 hbw5 HO5 HU5 HW5 HG5
  go_wp2_with fail
  refine (eqMessage_same mi reply cutm code nm ty _ _ _ _ A U _ (HRA3.out.kept ((Below.refl w6.heap.size w6).alloc (Nat.le_refl _) _)) (HRU3.out.kept ((Below.refl w6.heap.size w6).alloc (Nat.le_refl _) _)) (HRA.out _ (hb16.alloc hb16.size _)) (HRU.out _ (hb16.alloc hb16.size _))).mono ?_
  rintro e w7 ⟨rfl, hb7⟩
  clear c0 c1 c2 c3 c4 c5 c6 c7
  have hb67 : Below w6.heap.size w6 w7 := ((Below.refl w6.heap.size w6).alloc (Nat.le_refl _) _).trans (hb7.mono (by simp))
  have HG7 : Hid (w7.heap[w2.heap.size]? = some (.cells #[.int .i64 mi, .bool reply, .bool cutm, .int .i64 code, .string nm, .int .i64 ty, .slice aa2 A.length ca2, .slice au2 U.length cu2] 30)) := (hb67.block w2.heap.size (by omega)).trans HG6.out
  have HO7 : Hid (OwnQ w7 (w1.heap.size + 1) (.slice aa2 A.length ca2) (mrks 1 A.length)) := HO6.out.kept hb67
  have HU7 : Hid (OwnQ w7 (w1.heap.size + 1) (.slice au2 U.length cu2) (mrks (1 + 4 * A.length) U.length)) := HU6.out.kept hb67
  have hb17 : Below w1.heap.size w1 w7 := hb16.trans (hb67.mono hb16.size)
  obtain ⟨d0, d1, d2, d3, d4, d5, d6, d7⟩ := msg_cells HG7.out
  clear hb7 hb67 hb16 HO6 HU6 HW6 HG6
  go_wp2_with fail
  refine (HHD.out _ _ _ _ HO7.out HU7.out).mono ?_
  rintro e w8 ⟨rfl, hb8⟩
  have hb18 : Below w1.heap.size w1 w8 := hb17.trans (hb8.mono hb17.size)
  have hbw8 : Below w.heap.size w w8 := hb1.trans (hb18.mono hb1.size)
  clear d0 d1 d2 d3 d4 d5 d6 d7 hb8 hb17
  go_wp2_with fail
  go_ret
  exact ⟨rfl, hbw8⟩


set_option maxRecDepth 20000 in
set_option maxHeartbeats 1000000 in
theorem walk (b0 : ByteArray) (w : World) (hs0 : b0.size ≤ maxLen) (hE : EnvR w) :
    Calls Tryz.prog 4 #[.string b0] w fun e w' => e = .returned (.bool true) ∧ Below w.heap.size w w' := by
  have hs := hs0
  unfold maxLen at hs
  by_cases h : (1048576 : Int) < (b0.size : Int)
  · go_enter Tryz.func4, Tryz.ntmps4
    go_wp2_with fail
    go_ret
    exact ⟨rfl, Below.refl _ _⟩
  · have hsz : b0.size ≤ 1048576 := by omega
    by_cases hex : ∃ mi reply cutm code nm ty A U, msgB mi reply cutm code nm ty A U = true ∧ b0.data.toList = msgW mi reply cutm code nm ty A U
    · obtain ⟨mi, reply, cutm, code, nm, ty, A, U, hm, hb⟩ := hex
      have g := goodM hm
      have f1 := g.few
      have f2 := g.fewU
      refine core b0 true mi reply cutm code ⟨nm.toArray⟩ ty A U w hsz hE (by omega) (by omega) (fun W => (sReadMessage_any b0 W hsz).mono ?_) (fun W hW => (iReadMessage_any b0 W hsz hW).mono ?_)
      · rintro e w' ⟨hr, hbw⟩
        obtain ⟨p1, p2, p3, p4, p5, p6, p7, p8, p9, p10, p11, p12, p13⟩ := msg_parts g hb
        have h2 := hr.2 nm (A ++ U) (readM_back hm hb)
        rw [p1, p2, p3, p4, p10, p5, List.take_left' rfl, List.drop_left' rfl] at h2
        exact ⟨h2, hbw⟩
      · rintro e w' ⟨h1, _, hbw⟩
        exact ⟨h1 mi reply cutm code nm ty A U hm hb, hbw⟩
    · refine core b0 false 0 false false 0 ⟨#[]⟩ 0 [] [] w hsz hE (by simp) (by simp) (fun W => (sReadMessage_any b0 W hsz).mono ?_) (fun W hW => (iReadMessage_any b0 W hsz hW).mono ?_)
      · rintro e w' ⟨hr, hbw⟩
        refine ⟨hr.1 ?_, hbw⟩
        cases hR : readM b0.data.toList with
        | none => rfl
        | some x =>
          obtain ⟨nm, L⟩ := x
          have hg := readM_good hR
          exact absurd ⟨_, _, _, _, _, _, _, _, hg.1, hg.2⟩ hex
      · rintro e w' ⟨_, h2, hbw⟩
        exact ⟨h2 (fun mi reply cutm code nm ty A U h1 h3 => hex ⟨mi, reply, cutm, code, nm, ty, A, U, h1, h3⟩), hbw⟩
end Go.Proofs.YtphhgjdpfcmpgaaGreatDoor.readMessage
