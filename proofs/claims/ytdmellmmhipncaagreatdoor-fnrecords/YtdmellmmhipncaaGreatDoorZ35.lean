import Derived.Test.YtdmellmmhipncaaGreatDoorZ24
import Derived.Test.YtdmellmmhipncaaGreatDoorZ33
import Derived.Test.YtdmellmmhipncaaGreatDoorZ26
import Derived.Test.YtdmellmmhipncaaGreatDoorZ25
import Derived.Test.YtdmellmmhipncaaGreatDoorZ34
import Derived.Test.YtdmellmmhipncaaGreatDoorZ23
import Derived.Test.YtdmellmmhipncaaGreatDoorZ13
import Derived.Laws.StructEq
namespace Go.Proofs.YtdmellmmhipncaaGreatDoor.lawRecords
open Go.RowKit

theorem to_back (x : ByteArray) : (⟨x.data.toList.toArray⟩ : ByteArray) = x := by simp
theorem of_list (l : List UInt8) : (⟨l.toArray⟩ : ByteArray).data.toList = l := by simp
/-- What '==' says of two records. -/
theorem eq_recB (n1 d1 n2 d2 : ByteArray) (t1 l1 t2 l2 : Int) (w : World) :
    (Op.equalIn 10000 24 (.agg #[.string n1, .int .i64 t1, .int .i64 l1, .string d1]) (.agg #[.string n2, .int .i64 t2, .int .i64 l2, .string d2])).run Tryz.prog w = .ok (decide (n1 = n2 ∧ t1 = t2 ∧ l1 = l2 ∧ d1 = d2)) w := by
  have hS : Tryz.prog.underlying 24 = some (.struct (Tryz.prog.fieldsOf 24)) := by kernel_rfl
  have hp : Tryz.prog.stoodInHeld 24 = false := by kernel_rfl
  rw [show (10000 : Nat) = 9999 + 1 from rfl, run_equalIn_agg w 9999 24 _ _ hS hp]
  simp only [Program.fieldsOf, Tryz.underlying24]
  obtain ⟨a, rfl⟩ : ∃ l : List UInt8, n1 = ⟨l.toArray⟩ := ⟨n1.data.toList, by simp⟩
  obtain ⟨b, rfl⟩ : ∃ l : List UInt8, d1 = ⟨l.toArray⟩ := ⟨d1.data.toList, by simp⟩
  obtain ⟨c, rfl⟩ : ∃ l : List UInt8, n2 = ⟨l.toArray⟩ := ⟨n2.data.toList, by simp⟩
  obtain ⟨d, rfl⟩ : ∃ l : List UInt8, d2 = ⟨l.toArray⟩ := ⟨d2.data.toList, by simp⟩
  go_simp
  by_cases h1 : a = c <;> by_cases h2 : t1 = t2 <;> by_cases h3 : l1 = l2 <;> by_cases h4 : b = d <;> simp [h1, h2, h3, h4]
theorem list_eq {a b : ByteArray} : a.data.toList = b.data.toList ↔ a = b := by
  constructor
  · intro h
    have h2 : a.data = b.data := Array.toList_inj.1 h
    cases a; cases b; simp only at h2; rw [h2]
  · rintro rfl; rfl
theorem bytes_inj {a b : ByteArray} (h : a.toList = b.toList) : a = b := by
  obtain ⟨l, rfl⟩ : ∃ l : List UInt8, a = ⟨l.toArray⟩ := ⟨a.data.toList, by simp⟩
  obtain ⟨m, rfl⟩ : ∃ l : List UInt8, b = ⟨l.toArray⟩ := ⟨b.data.toList, by simp⟩
  simp at h
  rw [h]
theorem cmpO_swap (n1 : List UInt8) (t1 l1 : Int) (d1 : List UInt8) (n2 : List UInt8) (t2 l2 : Int) (d2 : List UInt8) : cmpO n2 t2 l2 d2 n1 t1 l1 d1 = cmpO n1 t1 l1 d1 n2 t2 l2 d2 := Bool.and_comm _ _
theorem cmpX_swap (n1 : List UInt8) (t1 l1 : Int) (d1 : List UInt8) (n2 : List UInt8) (t2 l2 : Int) (d2 : List UInt8) : cmpX n2 t2 l2 d2 n1 t1 l1 d1 = - cmpX n1 t1 l1 d1 n2 t2 l2 d2 := by
  unfold cmpX
  rw [cmpO_swap, cmpRec_swap]
  split <;> rfl
theorem cmpX_vals (n1 : List UInt8) (t1 l1 : Int) (d1 : List UInt8) (n2 : List UInt8) (t2 l2 : Int) (d2 : List UInt8) : -1 ≤ cmpX n1 t1 l1 d1 n2 t2 l2 d2 ∧ cmpX n1 t1 l1 d1 n2 t2 l2 d2 ≤ 1 := by
  unfold cmpX
  split
  · exact cmpRec_vals
  · omega
theorem cmpX_zero {n1 d1 n2 d2 : ByteArray} {t1 l1 t2 l2 : Int} (h : cmpO n1.data.toList t1 l1 d1.data.toList n2.data.toList t2 l2 d2.data.toList = true) :
    decide (n1 = n2 ∧ t1 = t2 ∧ l1 = l2 ∧ d1 = d2) = decide (cmpX n1.data.toList t1 l1 d1.data.toList n2.data.toList t2 l2 d2.data.toList = 0) := by
  have e : cmpX n1.data.toList t1 l1 d1.data.toList n2.data.toList t2 l2 d2.data.toList = cmpRec n1.data.toList t1 l1 d1.data.toList n2.data.toList t2 l2 d2.data.toList := if_pos h
  rw [e]
  unfold cmpO at h
  rw [Bool.and_eq_true] at h
  refine decide_eq_decide.2 ?_
  rw [cmpRec_zero h.1 h.2, list_eq, list_eq]
theorem guard_rec : Tryz.prog.eqGuardType Tryz.prog.depth 24 = false := by kernel_rfl
set_option maxRecDepth 20000 in
set_option maxHeartbeats 12000000 in
theorem walk (v : Value) (P : List Int) (u : Value) (R : List Int) (w : World) (hr : ZRow .u8 w v P) (hb : Hid (∀ x ∈ P, 0 ≤ x ∧ x ≤ 255)) (hr2 : ZRow .u8 w u R) (hb2 : Hid (∀ x ∈ R, 0 ≤ x ∧ x ≤ 255)) (hE : EnvR w) :
    Calls Tryz.prog 3 #[v, u] w fun e w' => e = .returned (.bool true) ∧ Below w.heap.size w w' := by
  have HR : Hid (ZRow .u8 w v P) := hr
  have HM_0 : Hid (ZRow .u8 w u R) := hr2
  obtain ⟨a1, cap1, rfl, hcap1, hmax1, _⟩ := zrow_value hr
  obtain ⟨a2, cap2, rfl, hcap2, hmax2, _⟩ := zrow_value hr2
  clear hr hr2
  by_cases hbig : (1048576 : Int) < wrap64 ((P.length : Int) + (R.length : Int))
  · go_enter Tryz.func3, Tryz.ntmps3
    go_wp2_with fail
    go_ret
    exact ⟨rfl, Below.refl _ _⟩
  · have hle1 : P.length ≤ 9223372036854775807 := by omega
    have hle2 : R.length ≤ 9223372036854775807 := by omega
    go_enter Tryz.func3, Tryz.ntmps3
    go_wp2_with fail
    refine (drawRecordText_any _ P _ HR.out hb hle1).mono ?_
    rintro e w0 ⟨nm, ty, ttl, d, ⟨rfl, hsm⟩, hbn⟩
    obtain ⟨hnm, hd, hty, httl⟩ := hsm
    have HM_0' : Hid (ZRow .u8 w0 (.slice a2 R.length cap2) R) := HM_0.out.kept hbn
    have hb00 : Below w.heap.size w w0 := hbn
    have hE0 : EnvR w0 := hE.below hbn
    clear HR HM_0 hbn
    have HY_1 : Hid (RBox (w0.alloc (.cells #[.string nm, .int .i64 ty, .int .i64 ttl, .string d] 24)) w0.heap.size nm ty ttl d) := rbox_new
    have hbA : Below w0.heap.size w0 (w0.alloc (.cells #[.string nm, .int .i64 ty, .int .i64 ttl, .string d] 24)) := (Below.refl _ _).alloc (Nat.le_refl _) _
    have hb01 : Below w.heap.size w (w0.alloc (.cells #[.string nm, .int .i64 ty, .int .i64 ttl, .string d] 24)) := hb00.alloc hb00.size _
    have hE1 : EnvR (w0.alloc (.cells #[.string nm, .int .i64 ty, .int .i64 ttl, .string d] 24)) := hE0.below hbA
    have HM_1 : Hid (ZRow .u8 (w0.alloc (.cells #[.string nm, .int .i64 ty, .int .i64 ttl, .string d] 24)) (.slice a2 R.length cap2) R) := HM_0'.out.kept hbA
    unfold RecV
    go_wp2_with fail
    obtain ⟨w1, hw1⟩ : ∃ W, W = w0.alloc (.cells #[.string nm, .int .i64 ty, .int .i64 ttl, .string d] 24) := ⟨_, rfl⟩
    rw [← hw1] at HY_1 hb01 hE1 HM_1
    rw [← hw1]
    obtain ⟨rb, hrb⟩ : ∃ b, b = w0.heap.size := ⟨_, rfl⟩
    rw [← hrb] at HY_1 ⊢
    clear hw1 hrb hb00 hE0 HM_0' hbA
    have HTI : Hid (∀ W, EnvR W → Calls Tryz.prog 5 #[RecV nm ty ttl d] W fun e w' => e = .returned (.tuple #[.string ⟨(recX nm.data.toList ty ttl d.data.toList).toArray⟩, .bool (recB nm.data.toList ty ttl d.data.toList)]) ∧ Below W.heap.size W w') := fun W hW => iRecordText_any nm d ty ttl W (by omega) (by omega) hW
    have HTS : Hid (∀ W, Calls Tryz.prog 6 #[RecV nm ty ttl d] W fun e w' => e = .returned (.tuple #[.string ⟨(recX nm.data.toList ty ttl d.data.toList).toArray⟩, .bool (recB nm.data.toList ty ttl d.data.toList)]) ∧ Below W.heap.size W w') := fun W => sRecordText_any nm d ty ttl W (by omega) (by omega)
    have HGI : Hid (∀ W, EnvR W → Calls Tryz.prog 7 #[RecV nm ty ttl d] W fun e w' => e = .returned (.bool (recB nm.data.toList ty ttl d.data.toList)) ∧ Below W.heap.size W w') := fun W hW => iGoodRecord_any nm d ty ttl W (by omega) hW
    obtain ⟨x, hx⟩ : ∃ x : ByteArray, x = ⟨(recX nm.data.toList ty ttl d.data.toList).toArray⟩ := ⟨_, rfl⟩
    obtain ⟨bb, hbb⟩ : ∃ b, b = recB nm.data.toList ty ttl d.data.toList := ⟨_, rfl⟩
    rw [← hx, ← hbb] at HTI HTS
    rw [← hbb] at HGI
    have HBB : Hid (recB nm.data.toList ty ttl d.data.toList = bb) := hbb.symm
    have HXX : Hid (x.data.toList = recX nm.data.toList ty ttl d.data.toList) := by show _ = _; rw [hx]
    have hxz : x.size ≤ 200 := by
      rw [hx, size_of]
      unfold recX recT
      have h1 : nm.data.toList.length ≤ 30 := by show nm.data.toList.length ≤ 30; simpa using hnm
      have h2 : d.data.toList.length ≤ 60 := by simpa using hd
      have h3 := numL_length 5 ttl.toNat (by omega)
      have h4 := numL_length 5 ty.toNat (by omega)
      split
      · split <;> simp <;> omega
      · simp
    unfold RecV at HTI HTS HGI
    clear hx hbb
    have e1 : (x.toList != x.toList) = false := by simp
    have e2 : (bb != bb) = false := by simp
    obtain ⟨c0, c1, c2, c3⟩ := HY_1.out.cells
    go_wp2_with fail
    clear c0 c1 c2 c3
    refine (HTI.out _ hE1).mono ?_
    rintro e w2 ⟨rfl, hbn⟩
    have hb02 : Below w.heap.size w w2 := hb01.trans (hbn.mono hb01.size)
    have hE2 : EnvR w2 := hE1.below hbn
    have HM_2 : Hid (ZRow .u8 w2 (.slice a2 R.length cap2) R) := (HM_1).out.kept hbn
    have HY_2 : Hid (RBox w2 rb nm ty ttl d) := (HY_1).out.kept hbn
    clear hbn hb01 hE1 HM_1 HY_1
    obtain ⟨c0, c1, c2, c3⟩ := HY_2.out.cells
    go_wp2_with fail
    clear c0 c1 c2 c3
    refine (HTS.out _).mono ?_
    rintro e w3 ⟨rfl, hbn⟩
    have hb03 : Below w.heap.size w w3 := hb02.trans (hbn.mono hb02.size)
    have hE3 : EnvR w3 := hE2.below hbn
    have HM_3 : Hid (ZRow .u8 w3 (.slice a2 R.length cap2) R) := (HM_2).out.kept hbn
    have HY_3 : Hid (RBox w3 rb nm ty ttl d) := (HY_2).out.kept hbn
    clear hbn hb02 hE2 HM_2 HY_2
    obtain ⟨c0, c1, c2, c3⟩ := HY_3.out.cells
    go_wp2_with fail
    clear c0 c1 c2 c3
    refine (HGI.out _ hE3).mono ?_
    rintro e w4 ⟨rfl, hbn⟩
    have hb04 : Below w.heap.size w w4 := hb03.trans (hbn.mono hb03.size)
    have hE4 : EnvR w4 := hE3.below hbn
    have HM_4 : Hid (ZRow .u8 w4 (.slice a2 R.length cap2) R) := (HM_3).out.kept hbn
    have HY_4 : Hid (RBox w4 rb nm ty ttl d) := (HY_3).out.kept hbn
    clear hbn hb03 hE3 HM_3 HY_3
    obtain ⟨c0, c1, c2, c3⟩ := HY_4.out.cells
    clear HTI HTS HGI
    cases bb with
    | false =>
      clear HBB HXX hxz e1 e2 c0 c1 c2 c3
      go_wp2_with fail
      clear HY_4
      refine (drawReadData_any _ R _ HM_4.out hb2 hle2).mono ?_
      rintro e w5 ⟨kd, s, ⟨rfl, hkd, hs⟩, hbn⟩
      have hb05 : Below w.heap.size w w5 := hb04.trans (hbn.mono hb04.size)
      have hE5 : EnvR w5 := hE4.below hbn
      have HM_5 : Hid (ZRow .u8 w5 (.slice a2 R.length cap2) R) := (HM_4).out.kept hbn
      clear hbn hb04 hE4 HM_4
      have HDI : Hid (∀ W, EnvR W → Calls Tryz.prog 10 #[.int .i64 kd, .string s] W fun e w' => e = .returned (.tuple #[.string ⟨((readR kd s.data.toList).getD []).toArray⟩, .bool (readR kd s.data.toList).isSome]) ∧ Below W.heap.size W w') := fun W hW => iReadData_any kd s W (by omega) hW
      have HDS : Hid (∀ W, Calls Tryz.prog 14 #[.int .i64 kd, .string s] W fun e w' => e = .returned (.tuple #[.string ⟨((readR kd s.data.toList).getD []).toArray⟩, .bool (readR kd s.data.toList).isSome]) ∧ Below W.heap.size W w') := fun W => sReadData_any kd s W
      cases hrd : readR kd s.data.toList with
      | none =>
        rw [hrd] at HDI HDS
        have e3 : ((⟨#[]⟩ : ByteArray).toList != (⟨#[]⟩ : ByteArray).toList) = false := by simp
        have HDI : Hid (∀ W, EnvR W → Calls Tryz.prog 10 #[.int .i64 kd, .string s] W fun e w' => e = .returned (.tuple #[.string ⟨#[]⟩, .bool false]) ∧ Below W.heap.size W w') := HDI
        have HDS : Hid (∀ W, Calls Tryz.prog 14 #[.int .i64 kd, .string s] W fun e w' => e = .returned (.tuple #[.string ⟨#[]⟩, .bool false]) ∧ Below W.heap.size W w') := HDS
        clear hrd
        go_wp2_with fail
        refine (HDI.out _ hE5).mono ?_
        rintro e w6 ⟨rfl, hbn⟩
        have hb06 : Below w.heap.size w w6 := hb05.trans (hbn.mono hb05.size)
        have hE6 : EnvR w6 := hE5.below hbn
        have HM_6 : Hid (ZRow .u8 w6 (.slice a2 R.length cap2) R) := (HM_5).out.kept hbn
        clear hbn hb05 hE5 HM_5
        go_wp2_with fail
        refine (HDS.out _).mono ?_
        rintro e w7 ⟨rfl, hbn⟩
        have hb07 : Below w.heap.size w w7 := hb06.trans (hbn.mono hb06.size)
        have hE7 : EnvR w7 := hE6.below hbn
        have HM_7 : Hid (ZRow .u8 w7 (.slice a2 R.length cap2) R) := (HM_6).out.kept hbn
        clear hbn hb06 hE6 HM_6
        go_wp2_with fail
        refine (drawCompareRecords_any _ R _ HM_7.out hb2 hle2).mono ?_
        rintro e w8 ⟨n1, t1, l1, d1, n2, t2, l2, d2, ⟨rfl, hs1, hs2⟩, hbn⟩
        have hb08 : Below w.heap.size w w8 := hb07.trans (hbn.mono hb07.size)
        have hE8 : EnvR w8 := hE7.below hbn
        have HM_8 : Hid (ZRow .u8 w8 (.slice a2 R.length cap2) R) := (HM_7).out.kept hbn
        clear hbn hb07 hE7 HM_7
        obtain ⟨hn1, hd1, ht1, hl1⟩ := hs1
        obtain ⟨hn2, hd2, ht2, hl2⟩ := hs2
        unfold RecV
        go_wp2_with fail
        have hbA : Below w8.heap.size w8 ((w8.alloc (.cells #[.string n1, .int .i64 t1, .int .i64 l1, .string d1] 24)).alloc (.cells #[.string n2, .int .i64 t2, .int .i64 l2, .string d2] 24)) := ((Below.refl _ _).alloc (Nat.le_refl _) _).alloc (by simp) _
        have hsq : w8.heap.size + 1 = (w8.alloc (.cells #[.string n1, .int .i64 t1, .int .i64 l1, .string d1] 24)).heap.size := by simp
        have HP_9 : Hid (RBox ((w8.alloc (.cells #[.string n1, .int .i64 t1, .int .i64 l1, .string d1] 24)).alloc (.cells #[.string n2, .int .i64 t2, .int .i64 l2, .string d2] 24)) w8.heap.size n1 t1 l1 d1) := rbox_new.kpt (kpt_alloc _ _ (fun _ => False)) id
        have HQ_9 : Hid (RBox ((w8.alloc (.cells #[.string n1, .int .i64 t1, .int .i64 l1, .string d1] 24)).alloc (.cells #[.string n2, .int .i64 t2, .int .i64 l2, .string d2] 24)) (w8.heap.size + 1) n2 t2 l2 d2) := by rw [hsq]; exact rbox_new
        have hb09 : Below w.heap.size w ((w8.alloc (.cells #[.string n1, .int .i64 t1, .int .i64 l1, .string d1] 24)).alloc (.cells #[.string n2, .int .i64 t2, .int .i64 l2, .string d2] 24)) := hb08.trans (hbA.mono hb08.size)
        have hE9 : EnvR ((w8.alloc (.cells #[.string n1, .int .i64 t1, .int .i64 l1, .string d1] 24)).alloc (.cells #[.string n2, .int .i64 t2, .int .i64 l2, .string d2] 24)) := hE8.below hbA
        obtain ⟨w9, hw⟩ : ∃ W, W = ((w8.alloc (.cells #[.string n1, .int .i64 t1, .int .i64 l1, .string d1] 24)).alloc (.cells #[.string n2, .int .i64 t2, .int .i64 l2, .string d2] 24)) := ⟨_, rfl⟩
        rw [← hw] at HP_9 HQ_9 hb09 hE9
        rw [← hw]
        obtain ⟨qb, hqb⟩ : ∃ b, b = w8.heap.size + 1 := ⟨_, rfl⟩
        obtain ⟨pb, hpb⟩ : ∃ b, b = w8.heap.size := ⟨_, rfl⟩
        rw [← hqb] at HQ_9 ⊢
        rw [← hpb] at HP_9 ⊢
        clear hw hqb hpb hsq hbA hb08 hE8
        have HI12 : Hid (∀ W, EnvR W → Calls Tryz.prog 16 #[RecV n1 t1 l1 d1, RecV n2 t2 l2 d2] W fun e w' => e = .returned (.tuple #[.int .i64 (cmpX n1.data.toList t1 l1 d1.data.toList n2.data.toList t2 l2 d2.data.toList), .bool (cmpO n1.data.toList t1 l1 d1.data.toList n2.data.toList t2 l2 d2.data.toList)]) ∧ Below W.heap.size W w') := fun W hW => iCompareRecords_any n1 d1 t1 l1 n2 d2 t2 l2 W (by omega) (by omega) hW
        have HS12 : Hid (∀ W, Calls Tryz.prog 17 #[RecV n1 t1 l1 d1, RecV n2 t2 l2 d2] W fun e w' => e = .returned (.tuple #[.int .i64 (cmpX n1.data.toList t1 l1 d1.data.toList n2.data.toList t2 l2 d2.data.toList), .bool (cmpO n1.data.toList t1 l1 d1.data.toList n2.data.toList t2 l2 d2.data.toList)]) ∧ Below W.heap.size W w') := fun W => sCompareRecords_any n1 d1 t1 l1 n2 d2 t2 l2 W (by omega) (by omega) (by omega) (by omega)
        have HI21 : Hid (∀ W, EnvR W → Calls Tryz.prog 16 #[RecV n2 t2 l2 d2, RecV n1 t1 l1 d1] W fun e w' => e = .returned (.tuple #[.int .i64 (- cmpX n1.data.toList t1 l1 d1.data.toList n2.data.toList t2 l2 d2.data.toList), .bool (cmpO n1.data.toList t1 l1 d1.data.toList n2.data.toList t2 l2 d2.data.toList)]) ∧ Below W.heap.size W w') := fun W hW => by
          have hh := iCompareRecords_any n2 d2 t2 l2 n1 d1 t1 l1 W (by omega) (by omega) hW
          rw [cmpX_swap, cmpO_swap] at hh
          exact hh
        have hcv := cmpX_vals n1.data.toList t1 l1 d1.data.toList n2.data.toList t2 l2 d2.data.toList
        have HZ : Hid (cmpO n1.data.toList t1 l1 d1.data.toList n2.data.toList t2 l2 d2.data.toList = true → decide (n1 = n2 ∧ t1 = t2 ∧ l1 = l2 ∧ d1 = d2) = decide (cmpX n1.data.toList t1 l1 d1.data.toList n2.data.toList t2 l2 d2.data.toList = 0)) := fun h => cmpX_zero h
        have HF : Hid (cmpO n1.data.toList t1 l1 d1.data.toList n2.data.toList t2 l2 d2.data.toList = false → cmpX n1.data.toList t1 l1 d1.data.toList n2.data.toList t2 l2 d2.data.toList = 0) := fun h => if_neg (by rw [h]; decide)
        obtain ⟨c, hc⟩ : ∃ c, c = cmpX n1.data.toList t1 l1 d1.data.toList n2.data.toList t2 l2 d2.data.toList := ⟨_, rfl⟩
        obtain ⟨o, ho⟩ : ∃ o, o = cmpO n1.data.toList t1 l1 d1.data.toList n2.data.toList t2 l2 d2.data.toList := ⟨_, rfl⟩
        rw [← hc, ← ho] at HI12 HS12 HI21 HZ HF
        rw [← hc] at hcv
        clear hc ho
        unfold RecV at HI12 HS12 HI21
        refine (HI12.out _ hE9).mono ?_
        rintro e w10 ⟨rfl, hbn⟩
        have hb010 : Below w.heap.size w w10 := hb09.trans (hbn.mono hb09.size)
        have hE10 : EnvR w10 := hE9.below hbn
        have HP_10 : Hid (RBox w10 pb n1 t1 l1 d1) := (HP_9).out.kept hbn
        have HQ_10 : Hid (RBox w10 qb n2 t2 l2 d2) := (HQ_9).out.kept hbn
        clear hbn hb09 hE9 HP_9 HQ_9
        obtain ⟨c0, c1, c2, c3⟩ := HP_10.out.cells
        obtain ⟨x0, x1, x2, x3⟩ := HQ_10.out.cells
        go_wp2_with fail
        clear c0 c1 c2 c3 x0 x1 x2 x3
        refine (HS12.out _).mono ?_
        rintro e w11 ⟨rfl, hbn⟩
        have hb011 : Below w.heap.size w w11 := hb010.trans (hbn.mono hb010.size)
        have hE11 : EnvR w11 := hE10.below hbn
        have HP_11 : Hid (RBox w11 pb n1 t1 l1 d1) := (HP_10).out.kept hbn
        have HQ_11 : Hid (RBox w11 qb n2 t2 l2 d2) := (HQ_10).out.kept hbn
        clear hbn hb010 hE10 HP_10 HQ_10
        obtain ⟨c0, c1, c2, c3⟩ := HP_11.out.cells
        obtain ⟨x0, x1, x2, x3⟩ := HQ_11.out.cells
        go_wp2_with fail
        clear c0 c1 c2 c3 x0 x1 x2 x3
        refine (HI21.out _ hE11).mono ?_
        rintro e w12 ⟨rfl, hbn⟩
        have hb012 : Below w.heap.size w w12 := hb011.trans (hbn.mono hb011.size)
        have hE12 : EnvR w12 := hE11.below hbn
        have HP_12 : Hid (RBox w12 pb n1 t1 l1 d1) := (HP_11).out.kept hbn
        have HQ_12 : Hid (RBox w12 qb n2 t2 l2 d2) := (HQ_11).out.kept hbn
        clear hbn hb011 hE11 HP_11 HQ_11
        obtain ⟨c0, c1, c2, c3⟩ := HP_12.out.cells
        obtain ⟨x0, x1, x2, x3⟩ := HQ_12.out.cells
        have q2 := guard_rec
        cases o with
        | false =>
          have h0 := HF.out rfl
          subst h0
          clear HZ HF hcv q2
          go_wp2_with fail
          go_ret
          exact ⟨rfl, hb012⟩
        | true =>
          have hz := HZ.out rfl
          clear HZ HF
          rcases (show c = -1 ∨ c = 0 ∨ c = 1 by omega) with rfl | rfl | rfl
          · clear hcv
            have hno := of_decide_eq_false (hz.trans (by decide))
            have HNE : Hid (n1.toList = n2.toList → t1 = t2 → l1 = l2 → d1.toList = d2.toList → False) := fun a b c d => hno ⟨bytes_inj a, b, c, bytes_inj d⟩
            clear hz hno
            go_wp2_with fail
            all_goals first | (go_ret; exact ⟨rfl, hb012⟩) | exact (HNE.out (by assumption) (by assumption) (by assumption) (by assumption)).elim
          · clear hcv
            have hall := of_decide_eq_true (hz.trans (by decide))
            clear hz
            obtain ⟨rfl, rfl, rfl, rfl⟩ := hall
            go_wp2_with fail
            go_ret
            exact ⟨rfl, hb012⟩
          · clear hcv
            have hno := of_decide_eq_false (hz.trans (by decide))
            have HNE : Hid (n1.toList = n2.toList → t1 = t2 → l1 = l2 → d1.toList = d2.toList → False) := fun a b c d => hno ⟨bytes_inj a, b, c, bytes_inj d⟩
            clear hz hno
            go_wp2_with fail
            all_goals first | (go_ret; exact ⟨rfl, hb012⟩) | exact (HNE.out (by assumption) (by assumption) (by assumption) (by assumption)).elim
      | some z =>
        rw [hrd] at HDI HDS
        have hdz := read_back hrd
        have hzl := readR_len hrd
        obtain ⟨y, hy⟩ : ∃ y : ByteArray, y = ⟨z.toArray⟩ := ⟨_, rfl⟩
        have hyz : y.data.toList = z := by rw [hy]
        have HDI : Hid (∀ W, EnvR W → Calls Tryz.prog 10 #[.int .i64 kd, .string s] W fun e w' => e = .returned (.tuple #[.string y, .bool true]) ∧ Below W.heap.size W w') := by rw [hy]; exact HDI
        have HDS : Hid (∀ W, Calls Tryz.prog 14 #[.int .i64 kd, .string s] W fun e w' => e = .returned (.tuple #[.string y, .bool true]) ∧ Below W.heap.size W w') := by rw [hy]; exact HDS
        have hys : y.size ≤ 1048576 := by rw [hy, size_of]; omega
        have HDB : Hid (∀ W, EnvR W → Calls Tryz.prog 9 #[.int .i64 kd, .string y] W fun e w' => e = .returned (.tuple #[.string s, .bool true]) ∧ Below W.heap.size W w') := fun W hW => by
          have h := iDataBytes_any kd y W (by omega) hW
          rw [hyz, hdz] at h
          have e : bytesVal (some s.data.toList) = .returned (.tuple #[.string s, .bool true]) := by show Ending.returned (.tuple #[.string ⟨s.data.toList.toArray⟩, .bool true]) = _; rw [to_back]
          rw [e] at h
          exact h
        clear hrd hdz hzl hy hyz
        have e3 : (y.toList != y.toList) = false := by simp
        have e4 : (s.toList != s.toList) = false := by simp
        go_wp2_with fail
        refine (HDI.out _ hE5).mono ?_
        rintro e w6 ⟨rfl, hbn⟩
        have hb06 : Below w.heap.size w w6 := hb05.trans (hbn.mono hb05.size)
        have hE6 : EnvR w6 := hE5.below hbn
        have HM_6 : Hid (ZRow .u8 w6 (.slice a2 R.length cap2) R) := (HM_5).out.kept hbn
        clear hbn hb05 hE5 HM_5
        go_wp2_with fail
        refine (HDS.out _).mono ?_
        rintro e w7 ⟨rfl, hbn⟩
        have hb07 : Below w.heap.size w w7 := hb06.trans (hbn.mono hb06.size)
        have hE7 : EnvR w7 := hE6.below hbn
        have HM_7 : Hid (ZRow .u8 w7 (.slice a2 R.length cap2) R) := (HM_6).out.kept hbn
        clear hbn hb06 hE6 HM_6
        go_wp2_with fail
        refine (HDB.out _ hE7).mono ?_
        rintro e w8 ⟨rfl, hbn⟩
        have hb08 : Below w.heap.size w w8 := hb07.trans (hbn.mono hb07.size)
        have hE8 : EnvR w8 := hE7.below hbn
        have HM_8 : Hid (ZRow .u8 w8 (.slice a2 R.length cap2) R) := (HM_7).out.kept hbn
        clear hbn hb07 hE7 HM_7
        go_wp2_with fail
        refine (drawCompareRecords_any _ R _ HM_8.out hb2 hle2).mono ?_
        rintro e w9 ⟨n1, t1, l1, d1, n2, t2, l2, d2, ⟨rfl, hs1, hs2⟩, hbn⟩
        have hb09 : Below w.heap.size w w9 := hb08.trans (hbn.mono hb08.size)
        have hE9 : EnvR w9 := hE8.below hbn
        have HM_9 : Hid (ZRow .u8 w9 (.slice a2 R.length cap2) R) := (HM_8).out.kept hbn
        clear hbn hb08 hE8 HM_8
        obtain ⟨hn1, hd1, ht1, hl1⟩ := hs1
        obtain ⟨hn2, hd2, ht2, hl2⟩ := hs2
        unfold RecV
        go_wp2_with fail
        have hbA : Below w9.heap.size w9 ((w9.alloc (.cells #[.string n1, .int .i64 t1, .int .i64 l1, .string d1] 24)).alloc (.cells #[.string n2, .int .i64 t2, .int .i64 l2, .string d2] 24)) := ((Below.refl _ _).alloc (Nat.le_refl _) _).alloc (by simp) _
        have hsq : w9.heap.size + 1 = (w9.alloc (.cells #[.string n1, .int .i64 t1, .int .i64 l1, .string d1] 24)).heap.size := by simp
        have HP_10 : Hid (RBox ((w9.alloc (.cells #[.string n1, .int .i64 t1, .int .i64 l1, .string d1] 24)).alloc (.cells #[.string n2, .int .i64 t2, .int .i64 l2, .string d2] 24)) w9.heap.size n1 t1 l1 d1) := rbox_new.kpt (kpt_alloc _ _ (fun _ => False)) id
        have HQ_10 : Hid (RBox ((w9.alloc (.cells #[.string n1, .int .i64 t1, .int .i64 l1, .string d1] 24)).alloc (.cells #[.string n2, .int .i64 t2, .int .i64 l2, .string d2] 24)) (w9.heap.size + 1) n2 t2 l2 d2) := by rw [hsq]; exact rbox_new
        have hb010 : Below w.heap.size w ((w9.alloc (.cells #[.string n1, .int .i64 t1, .int .i64 l1, .string d1] 24)).alloc (.cells #[.string n2, .int .i64 t2, .int .i64 l2, .string d2] 24)) := hb09.trans (hbA.mono hb09.size)
        have hE10 : EnvR ((w9.alloc (.cells #[.string n1, .int .i64 t1, .int .i64 l1, .string d1] 24)).alloc (.cells #[.string n2, .int .i64 t2, .int .i64 l2, .string d2] 24)) := hE9.below hbA
        obtain ⟨w10, hw⟩ : ∃ W, W = ((w9.alloc (.cells #[.string n1, .int .i64 t1, .int .i64 l1, .string d1] 24)).alloc (.cells #[.string n2, .int .i64 t2, .int .i64 l2, .string d2] 24)) := ⟨_, rfl⟩
        rw [← hw] at HP_10 HQ_10 hb010 hE10
        rw [← hw]
        obtain ⟨qb, hqb⟩ : ∃ b, b = w9.heap.size + 1 := ⟨_, rfl⟩
        obtain ⟨pb, hpb⟩ : ∃ b, b = w9.heap.size := ⟨_, rfl⟩
        rw [← hqb] at HQ_10 ⊢
        rw [← hpb] at HP_10 ⊢
        clear hw hqb hpb hsq hbA hb09 hE9
        have HI12 : Hid (∀ W, EnvR W → Calls Tryz.prog 16 #[RecV n1 t1 l1 d1, RecV n2 t2 l2 d2] W fun e w' => e = .returned (.tuple #[.int .i64 (cmpX n1.data.toList t1 l1 d1.data.toList n2.data.toList t2 l2 d2.data.toList), .bool (cmpO n1.data.toList t1 l1 d1.data.toList n2.data.toList t2 l2 d2.data.toList)]) ∧ Below W.heap.size W w') := fun W hW => iCompareRecords_any n1 d1 t1 l1 n2 d2 t2 l2 W (by omega) (by omega) hW
        have HS12 : Hid (∀ W, Calls Tryz.prog 17 #[RecV n1 t1 l1 d1, RecV n2 t2 l2 d2] W fun e w' => e = .returned (.tuple #[.int .i64 (cmpX n1.data.toList t1 l1 d1.data.toList n2.data.toList t2 l2 d2.data.toList), .bool (cmpO n1.data.toList t1 l1 d1.data.toList n2.data.toList t2 l2 d2.data.toList)]) ∧ Below W.heap.size W w') := fun W => sCompareRecords_any n1 d1 t1 l1 n2 d2 t2 l2 W (by omega) (by omega) (by omega) (by omega)
        have HI21 : Hid (∀ W, EnvR W → Calls Tryz.prog 16 #[RecV n2 t2 l2 d2, RecV n1 t1 l1 d1] W fun e w' => e = .returned (.tuple #[.int .i64 (- cmpX n1.data.toList t1 l1 d1.data.toList n2.data.toList t2 l2 d2.data.toList), .bool (cmpO n1.data.toList t1 l1 d1.data.toList n2.data.toList t2 l2 d2.data.toList)]) ∧ Below W.heap.size W w') := fun W hW => by
          have hh := iCompareRecords_any n2 d2 t2 l2 n1 d1 t1 l1 W (by omega) (by omega) hW
          rw [cmpX_swap, cmpO_swap] at hh
          exact hh
        have hcv := cmpX_vals n1.data.toList t1 l1 d1.data.toList n2.data.toList t2 l2 d2.data.toList
        have HZ : Hid (cmpO n1.data.toList t1 l1 d1.data.toList n2.data.toList t2 l2 d2.data.toList = true → decide (n1 = n2 ∧ t1 = t2 ∧ l1 = l2 ∧ d1 = d2) = decide (cmpX n1.data.toList t1 l1 d1.data.toList n2.data.toList t2 l2 d2.data.toList = 0)) := fun h => cmpX_zero h
        have HF : Hid (cmpO n1.data.toList t1 l1 d1.data.toList n2.data.toList t2 l2 d2.data.toList = false → cmpX n1.data.toList t1 l1 d1.data.toList n2.data.toList t2 l2 d2.data.toList = 0) := fun h => if_neg (by rw [h]; decide)
        obtain ⟨c, hc⟩ : ∃ c, c = cmpX n1.data.toList t1 l1 d1.data.toList n2.data.toList t2 l2 d2.data.toList := ⟨_, rfl⟩
        obtain ⟨o, ho⟩ : ∃ o, o = cmpO n1.data.toList t1 l1 d1.data.toList n2.data.toList t2 l2 d2.data.toList := ⟨_, rfl⟩
        rw [← hc, ← ho] at HI12 HS12 HI21 HZ HF
        rw [← hc] at hcv
        clear hc ho
        unfold RecV at HI12 HS12 HI21
        refine (HI12.out _ hE10).mono ?_
        rintro e w11 ⟨rfl, hbn⟩
        have hb011 : Below w.heap.size w w11 := hb010.trans (hbn.mono hb010.size)
        have hE11 : EnvR w11 := hE10.below hbn
        have HP_11 : Hid (RBox w11 pb n1 t1 l1 d1) := (HP_10).out.kept hbn
        have HQ_11 : Hid (RBox w11 qb n2 t2 l2 d2) := (HQ_10).out.kept hbn
        clear hbn hb010 hE10 HP_10 HQ_10
        obtain ⟨c0, c1, c2, c3⟩ := HP_11.out.cells
        obtain ⟨x0, x1, x2, x3⟩ := HQ_11.out.cells
        go_wp2_with fail
        clear c0 c1 c2 c3 x0 x1 x2 x3
        refine (HS12.out _).mono ?_
        rintro e w12 ⟨rfl, hbn⟩
        have hb012 : Below w.heap.size w w12 := hb011.trans (hbn.mono hb011.size)
        have hE12 : EnvR w12 := hE11.below hbn
        have HP_12 : Hid (RBox w12 pb n1 t1 l1 d1) := (HP_11).out.kept hbn
        have HQ_12 : Hid (RBox w12 qb n2 t2 l2 d2) := (HQ_11).out.kept hbn
        clear hbn hb011 hE11 HP_11 HQ_11
        obtain ⟨c0, c1, c2, c3⟩ := HP_12.out.cells
        obtain ⟨x0, x1, x2, x3⟩ := HQ_12.out.cells
        go_wp2_with fail
        clear c0 c1 c2 c3 x0 x1 x2 x3
        refine (HI21.out _ hE12).mono ?_
        rintro e w13 ⟨rfl, hbn⟩
        have hb013 : Below w.heap.size w w13 := hb012.trans (hbn.mono hb012.size)
        have hE13 : EnvR w13 := hE12.below hbn
        have HP_13 : Hid (RBox w13 pb n1 t1 l1 d1) := (HP_12).out.kept hbn
        have HQ_13 : Hid (RBox w13 qb n2 t2 l2 d2) := (HQ_12).out.kept hbn
        clear hbn hb012 hE12 HP_12 HQ_12
        obtain ⟨c0, c1, c2, c3⟩ := HP_13.out.cells
        obtain ⟨x0, x1, x2, x3⟩ := HQ_13.out.cells
        have q2 := guard_rec
        cases o with
        | false =>
          have h0 := HF.out rfl
          subst h0
          clear HZ HF hcv q2
          go_wp2_with fail
          go_ret
          exact ⟨rfl, hb013⟩
        | true =>
          have hz := HZ.out rfl
          clear HZ HF
          rcases (show c = -1 ∨ c = 0 ∨ c = 1 by omega) with rfl | rfl | rfl
          · clear hcv
            have hno := of_decide_eq_false (hz.trans (by decide))
            have HNE : Hid (n1.toList = n2.toList → t1 = t2 → l1 = l2 → d1.toList = d2.toList → False) := fun a b c d => hno ⟨bytes_inj a, b, c, bytes_inj d⟩
            clear hz hno
            go_wp2_with fail
            all_goals first | (go_ret; exact ⟨rfl, hb013⟩) | exact (HNE.out (by assumption) (by assumption) (by assumption) (by assumption)).elim
          · clear hcv
            have hall := of_decide_eq_true (hz.trans (by decide))
            clear hz
            obtain ⟨rfl, rfl, rfl, rfl⟩ := hall
            go_wp2_with fail
            go_ret
            exact ⟨rfl, hb013⟩
          · clear hcv
            have hno := of_decide_eq_false (hz.trans (by decide))
            have HNE : Hid (n1.toList = n2.toList → t1 = t2 → l1 = l2 → d1.toList = d2.toList → False) := fun a b c d => hno ⟨bytes_inj a, b, c, bytes_inj d⟩
            clear hz hno
            go_wp2_with fail
            all_goals first | (go_ret; exact ⟨rfl, hb013⟩) | exact (HNE.out (by assumption) (by assumption) (by assumption) (by assumption)).elim
    | true =>
      have hgood := HBB.out
      have HRR : Hid (∀ W, EnvR W → Calls Tryz.prog 8 #[.string x] W fun e w' => e = .returned (.tuple #[.agg #[.string nm, .int .i64 ty, .int .i64 ttl, .string d], .bool true]) ∧ Below W.heap.size W w') := fun W hW => by
        have hh := iReadRecord_any x W (by omega) hW
        rw [HXX.out, rec_back hgood] at hh
        have e : rrVal (some (nm.data.toList, ty, ttl, d.data.toList)) = .tuple #[.agg #[.string nm, .int .i64 ty, .int .i64 ttl, .string d], .bool true] := by show Value.tuple #[RecV ⟨nm.data.toList.toArray⟩ ty ttl ⟨d.data.toList.toArray⟩, .bool true] = _; rw [to_back, to_back]; rfl
        rw [e] at hh
        exact hh
      obtain ⟨D, hD⟩ := Option.isSome_iff_exists.1 (recB_name hgood).2
      obtain ⟨y, hy⟩ : ∃ y : ByteArray, y = ⟨D.toArray⟩ := ⟨_, rfl⟩
      have hyD : y.data.toList = D := by rw [hy]
      have hyl : y.size ≤ 600 := by rw [hy, size_of]; exact (data_back hD).2.2
      have HBY : Hid (∀ W, EnvR W → Calls Tryz.prog 9 #[.int .i64 ty, .string d] W fun e w' => e = .returned (.tuple #[.string y, .bool true]) ∧ Below W.heap.size W w') := fun W hW => by
        have hh := iDataBytes_any ty d W (by omega) hW
        rw [hD] at hh
        rw [hy]
        exact hh
      have HRD : Hid (∀ W, EnvR W → Calls Tryz.prog 10 #[.int .i64 ty, .string y] W fun e w' => e = .returned (.tuple #[.string d, .bool true]) ∧ Below W.heap.size W w') := fun W hW => by
        have hh := iReadData_any ty y W (by omega) hW
        rw [hyD, readI_yes hD] at hh
        have e : readVal (some d.data.toList) = .returned (.tuple #[.string d, .bool true]) := by show Ending.returned (.tuple #[.string ⟨d.data.toList.toArray⟩, .bool true]) = _; rw [to_back]
        rw [e] at hh
        exact hh
      have HTA : Hid (∀ W, EnvR W → Calls Tryz.prog 11 #[RecV nm ty ttl d] W fun e w' => e = .returned (.tuple #[.string ⟨(targX nm.data.toList ty ttl d.data.toList).toArray⟩, .bool (targO nm.data.toList ty ttl d.data.toList)]) ∧ Below W.heap.size W w') := fun W hW => iTargetOf_any nm d ty ttl W (by omega) hW
      have HTB : Hid (∀ W, Calls Tryz.prog 12 #[RecV nm ty ttl d] W fun e w' => e = .returned (.tuple #[.string ⟨(targX nm.data.toList ty ttl d.data.toList).toArray⟩, .bool (targO nm.data.toList ty ttl d.data.toList)]) ∧ Below W.heap.size W w') := fun W => sTargetOf_any nm d ty ttl W (by omega) (by omega)
      obtain ⟨tt, htt⟩ : ∃ x : ByteArray, x = ⟨(targX nm.data.toList ty ttl d.data.toList).toArray⟩ := ⟨_, rfl⟩
      obtain ⟨tb, htb⟩ : ∃ b, b = targO nm.data.toList ty ttl d.data.toList := ⟨_, rfl⟩
      rw [← htt, ← htb] at HTA HTB
      unfold RecV at HTA HTB
      clear hgood hD hy hyD htt htb HBB HXX c0 c1 c2 c3
      have e3 : (tt.toList != tt.toList) = false := by simp
      have e4 : (tb != tb) = false := by simp
      have e5 : (d.toList != d.toList) = false := by simp
      go_wp2_with fail
      refine (HRR.out _ hE4).mono ?_
      rintro e w5 ⟨rfl, hbn⟩
      have hb05 : Below w.heap.size w w5 := hb04.trans (hbn.mono hb04.size)
      have hE5 : EnvR w5 := hE4.below hbn
      have HM_5 : Hid (ZRow .u8 w5 (.slice a2 R.length cap2) R) := (HM_4).out.kept hbn
      have HY_5 : Hid (RBox w5 rb nm ty ttl d) := (HY_4).out.kept hbn
      clear hbn hb04 hE4 HM_4 HY_4
      have hbA : Below w5.heap.size w5 (w5.alloc (.cells #[.string nm, .int .i64 ty, .int .i64 ttl, .string d] 24)) := (Below.refl _ _).alloc (Nat.le_refl _) _
      have HZ_6 : Hid (RBox (w5.alloc (.cells #[.string nm, .int .i64 ty, .int .i64 ttl, .string d] 24)) w5.heap.size nm ty ttl d) := rbox_new
      have HY_6 : Hid (RBox (w5.alloc (.cells #[.string nm, .int .i64 ty, .int .i64 ttl, .string d] 24)) rb nm ty ttl d) := HY_5.out.kept hbA
      have HM_6 : Hid (ZRow .u8 (w5.alloc (.cells #[.string nm, .int .i64 ty, .int .i64 ttl, .string d] 24)) (.slice a2 R.length cap2) R) := HM_5.out.kept hbA
      have hb06 : Below w.heap.size w (w5.alloc (.cells #[.string nm, .int .i64 ty, .int .i64 ttl, .string d] 24)) := hb05.trans (hbA.mono hb05.size)
      have hE6 : EnvR (w5.alloc (.cells #[.string nm, .int .i64 ty, .int .i64 ttl, .string d] 24)) := hE5.below hbA
      obtain ⟨c0, c1, c2, c3⟩ := HY_5.out.cells
      have hrl := HY_5.out.lt
      go_wp2_with fail
      clear c0 c1 c2 c3
      obtain ⟨w6, hw⟩ : ∃ W, W = w5.alloc (.cells #[.string nm, .int .i64 ty, .int .i64 ttl, .string d] 24) := ⟨_, rfl⟩
      rw [← hw] at HZ_6 HY_6 HM_6 hb06 hE6
      rw [← hw]
      obtain ⟨zb, hzb⟩ : ∃ b, b = w5.heap.size := ⟨_, rfl⟩
      rw [← hzb] at HZ_6 ⊢
      clear hw hzb hbA HY_5 HM_5 hb05 hE5 hrl
      refine (HBY.out _ hE6).mono ?_
      rintro e w7 ⟨rfl, hbn⟩
      have hb07 : Below w.heap.size w w7 := hb06.trans (hbn.mono hb06.size)
      have hE7 : EnvR w7 := hE6.below hbn
      have HM_7 : Hid (ZRow .u8 w7 (.slice a2 R.length cap2) R) := (HM_6).out.kept hbn
      have HY_7 : Hid (RBox w7 rb nm ty ttl d) := (HY_6).out.kept hbn
      have HZ_7 : Hid (RBox w7 zb nm ty ttl d) := (HZ_6).out.kept hbn
      clear hbn hb06 hE6 HM_6 HY_6 HZ_6
      obtain ⟨c0, c1, c2, c3⟩ := HY_7.out.cells
      go_wp2_with fail
      clear c0 c1 c2 c3
      refine (HRD.out _ hE7).mono ?_
      rintro e w8 ⟨rfl, hbn⟩
      have hb08 : Below w.heap.size w w8 := hb07.trans (hbn.mono hb07.size)
      have hE8 : EnvR w8 := hE7.below hbn
      have HM_8 : Hid (ZRow .u8 w8 (.slice a2 R.length cap2) R) := (HM_7).out.kept hbn
      have HY_8 : Hid (RBox w8 rb nm ty ttl d) := (HY_7).out.kept hbn
      have HZ_8 : Hid (RBox w8 zb nm ty ttl d) := (HZ_7).out.kept hbn
      clear hbn hb07 hE7 HM_7 HY_7 HZ_7
      obtain ⟨c0, c1, c2, c3⟩ := HY_8.out.cells
      go_wp2_with fail
      clear c0 c1 c2 c3
      refine (HTA.out _ hE8).mono ?_
      rintro e w9 ⟨rfl, hbn⟩
      have hb09 : Below w.heap.size w w9 := hb08.trans (hbn.mono hb08.size)
      have hE9 : EnvR w9 := hE8.below hbn
      have HM_9 : Hid (ZRow .u8 w9 (.slice a2 R.length cap2) R) := (HM_8).out.kept hbn
      have HY_9 : Hid (RBox w9 rb nm ty ttl d) := (HY_8).out.kept hbn
      have HZ_9 : Hid (RBox w9 zb nm ty ttl d) := (HZ_8).out.kept hbn
      clear hbn hb08 hE8 HM_8 HY_8 HZ_8
      obtain ⟨c0, c1, c2, c3⟩ := HY_9.out.cells
      go_wp2_with fail
      clear c0 c1 c2 c3
      refine (HTB.out _).mono ?_
      rintro e w10 ⟨rfl, hbn⟩
      have hb010 : Below w.heap.size w w10 := hb09.trans (hbn.mono hb09.size)
      have hE10 : EnvR w10 := hE9.below hbn
      have HM_10 : Hid (ZRow .u8 w10 (.slice a2 R.length cap2) R) := (HM_9).out.kept hbn
      have HY_10 : Hid (RBox w10 rb nm ty ttl d) := (HY_9).out.kept hbn
      have HZ_10 : Hid (RBox w10 zb nm ty ttl d) := (HZ_9).out.kept hbn
      clear hbn hb09 hE9 HM_9 HY_9 HZ_9
      obtain ⟨c0, c1, c2, c3⟩ := HY_10.out.cells
      obtain ⟨z0, z1, z2, z3⟩ := HZ_10.out.cells
      have q1 := eq_recB nm d nm d ty ttl ty ttl w10
      simp only [and_self, decide_true] at q1
      have q2 := guard_rec
      go_wp2_with fail
      clear c0 c1 c2 c3 z0 z1 z2 z3 q1 HRR HBY HRD HTA HTB HY_10 HZ_10
      refine (drawReadData_any _ R _ HM_10.out hb2 hle2).mono ?_
      rintro e w11 ⟨kd, s, ⟨rfl, hkd, hs⟩, hbn⟩
      have hb011 : Below w.heap.size w w11 := hb010.trans (hbn.mono hb010.size)
      have hE11 : EnvR w11 := hE10.below hbn
      have HM_11 : Hid (ZRow .u8 w11 (.slice a2 R.length cap2) R) := (HM_10).out.kept hbn
      clear hbn hb010 hE10 HM_10
      have HDI : Hid (∀ W, EnvR W → Calls Tryz.prog 10 #[.int .i64 kd, .string s] W fun e w' => e = .returned (.tuple #[.string ⟨((readR kd s.data.toList).getD []).toArray⟩, .bool (readR kd s.data.toList).isSome]) ∧ Below W.heap.size W w') := fun W hW => iReadData_any kd s W (by omega) hW
      have HDS : Hid (∀ W, Calls Tryz.prog 14 #[.int .i64 kd, .string s] W fun e w' => e = .returned (.tuple #[.string ⟨((readR kd s.data.toList).getD []).toArray⟩, .bool (readR kd s.data.toList).isSome]) ∧ Below W.heap.size W w') := fun W => sReadData_any kd s W
      cases hrd : readR kd s.data.toList with
      | none =>
        rw [hrd] at HDI HDS
        have e3 : ((⟨#[]⟩ : ByteArray).toList != (⟨#[]⟩ : ByteArray).toList) = false := by simp
        have HDI : Hid (∀ W, EnvR W → Calls Tryz.prog 10 #[.int .i64 kd, .string s] W fun e w' => e = .returned (.tuple #[.string ⟨#[]⟩, .bool false]) ∧ Below W.heap.size W w') := HDI
        have HDS : Hid (∀ W, Calls Tryz.prog 14 #[.int .i64 kd, .string s] W fun e w' => e = .returned (.tuple #[.string ⟨#[]⟩, .bool false]) ∧ Below W.heap.size W w') := HDS
        clear hrd
        go_wp2_with fail
        refine (HDI.out _ hE11).mono ?_
        rintro e w12 ⟨rfl, hbn⟩
        have hb012 : Below w.heap.size w w12 := hb011.trans (hbn.mono hb011.size)
        have hE12 : EnvR w12 := hE11.below hbn
        have HM_12 : Hid (ZRow .u8 w12 (.slice a2 R.length cap2) R) := (HM_11).out.kept hbn
        clear hbn hb011 hE11 HM_11
        go_wp2_with fail
        refine (HDS.out _).mono ?_
        rintro e w13 ⟨rfl, hbn⟩
        have hb013 : Below w.heap.size w w13 := hb012.trans (hbn.mono hb012.size)
        have hE13 : EnvR w13 := hE12.below hbn
        have HM_13 : Hid (ZRow .u8 w13 (.slice a2 R.length cap2) R) := (HM_12).out.kept hbn
        clear hbn hb012 hE12 HM_12
        go_wp2_with fail
        refine (drawCompareRecords_any _ R _ HM_13.out hb2 hle2).mono ?_
        rintro e w14 ⟨n1, t1, l1, d1, n2, t2, l2, d2, ⟨rfl, hs1, hs2⟩, hbn⟩
        have hb014 : Below w.heap.size w w14 := hb013.trans (hbn.mono hb013.size)
        have hE14 : EnvR w14 := hE13.below hbn
        have HM_14 : Hid (ZRow .u8 w14 (.slice a2 R.length cap2) R) := (HM_13).out.kept hbn
        clear hbn hb013 hE13 HM_13
        obtain ⟨hn1, hd1, ht1, hl1⟩ := hs1
        obtain ⟨hn2, hd2, ht2, hl2⟩ := hs2
        unfold RecV
        go_wp2_with fail
        have hbA : Below w14.heap.size w14 ((w14.alloc (.cells #[.string n1, .int .i64 t1, .int .i64 l1, .string d1] 24)).alloc (.cells #[.string n2, .int .i64 t2, .int .i64 l2, .string d2] 24)) := ((Below.refl _ _).alloc (Nat.le_refl _) _).alloc (by simp) _
        have hsq : w14.heap.size + 1 = (w14.alloc (.cells #[.string n1, .int .i64 t1, .int .i64 l1, .string d1] 24)).heap.size := by simp
        have HP_15 : Hid (RBox ((w14.alloc (.cells #[.string n1, .int .i64 t1, .int .i64 l1, .string d1] 24)).alloc (.cells #[.string n2, .int .i64 t2, .int .i64 l2, .string d2] 24)) w14.heap.size n1 t1 l1 d1) := rbox_new.kpt (kpt_alloc _ _ (fun _ => False)) id
        have HQ_15 : Hid (RBox ((w14.alloc (.cells #[.string n1, .int .i64 t1, .int .i64 l1, .string d1] 24)).alloc (.cells #[.string n2, .int .i64 t2, .int .i64 l2, .string d2] 24)) (w14.heap.size + 1) n2 t2 l2 d2) := by rw [hsq]; exact rbox_new
        have hb015 : Below w.heap.size w ((w14.alloc (.cells #[.string n1, .int .i64 t1, .int .i64 l1, .string d1] 24)).alloc (.cells #[.string n2, .int .i64 t2, .int .i64 l2, .string d2] 24)) := hb014.trans (hbA.mono hb014.size)
        have hE15 : EnvR ((w14.alloc (.cells #[.string n1, .int .i64 t1, .int .i64 l1, .string d1] 24)).alloc (.cells #[.string n2, .int .i64 t2, .int .i64 l2, .string d2] 24)) := hE14.below hbA
        obtain ⟨w15, hw⟩ : ∃ W, W = ((w14.alloc (.cells #[.string n1, .int .i64 t1, .int .i64 l1, .string d1] 24)).alloc (.cells #[.string n2, .int .i64 t2, .int .i64 l2, .string d2] 24)) := ⟨_, rfl⟩
        rw [← hw] at HP_15 HQ_15 hb015 hE15
        rw [← hw]
        obtain ⟨qb, hqb⟩ : ∃ b, b = w14.heap.size + 1 := ⟨_, rfl⟩
        obtain ⟨pb, hpb⟩ : ∃ b, b = w14.heap.size := ⟨_, rfl⟩
        rw [← hqb] at HQ_15 ⊢
        rw [← hpb] at HP_15 ⊢
        clear hw hqb hpb hsq hbA hb014 hE14
        have HI12 : Hid (∀ W, EnvR W → Calls Tryz.prog 16 #[RecV n1 t1 l1 d1, RecV n2 t2 l2 d2] W fun e w' => e = .returned (.tuple #[.int .i64 (cmpX n1.data.toList t1 l1 d1.data.toList n2.data.toList t2 l2 d2.data.toList), .bool (cmpO n1.data.toList t1 l1 d1.data.toList n2.data.toList t2 l2 d2.data.toList)]) ∧ Below W.heap.size W w') := fun W hW => iCompareRecords_any n1 d1 t1 l1 n2 d2 t2 l2 W (by omega) (by omega) hW
        have HS12 : Hid (∀ W, Calls Tryz.prog 17 #[RecV n1 t1 l1 d1, RecV n2 t2 l2 d2] W fun e w' => e = .returned (.tuple #[.int .i64 (cmpX n1.data.toList t1 l1 d1.data.toList n2.data.toList t2 l2 d2.data.toList), .bool (cmpO n1.data.toList t1 l1 d1.data.toList n2.data.toList t2 l2 d2.data.toList)]) ∧ Below W.heap.size W w') := fun W => sCompareRecords_any n1 d1 t1 l1 n2 d2 t2 l2 W (by omega) (by omega) (by omega) (by omega)
        have HI21 : Hid (∀ W, EnvR W → Calls Tryz.prog 16 #[RecV n2 t2 l2 d2, RecV n1 t1 l1 d1] W fun e w' => e = .returned (.tuple #[.int .i64 (- cmpX n1.data.toList t1 l1 d1.data.toList n2.data.toList t2 l2 d2.data.toList), .bool (cmpO n1.data.toList t1 l1 d1.data.toList n2.data.toList t2 l2 d2.data.toList)]) ∧ Below W.heap.size W w') := fun W hW => by
          have hh := iCompareRecords_any n2 d2 t2 l2 n1 d1 t1 l1 W (by omega) (by omega) hW
          rw [cmpX_swap, cmpO_swap] at hh
          exact hh
        have hcv := cmpX_vals n1.data.toList t1 l1 d1.data.toList n2.data.toList t2 l2 d2.data.toList
        have HZ : Hid (cmpO n1.data.toList t1 l1 d1.data.toList n2.data.toList t2 l2 d2.data.toList = true → decide (n1 = n2 ∧ t1 = t2 ∧ l1 = l2 ∧ d1 = d2) = decide (cmpX n1.data.toList t1 l1 d1.data.toList n2.data.toList t2 l2 d2.data.toList = 0)) := fun h => cmpX_zero h
        have HF : Hid (cmpO n1.data.toList t1 l1 d1.data.toList n2.data.toList t2 l2 d2.data.toList = false → cmpX n1.data.toList t1 l1 d1.data.toList n2.data.toList t2 l2 d2.data.toList = 0) := fun h => if_neg (by rw [h]; decide)
        obtain ⟨c, hc⟩ : ∃ c, c = cmpX n1.data.toList t1 l1 d1.data.toList n2.data.toList t2 l2 d2.data.toList := ⟨_, rfl⟩
        obtain ⟨o, ho⟩ : ∃ o, o = cmpO n1.data.toList t1 l1 d1.data.toList n2.data.toList t2 l2 d2.data.toList := ⟨_, rfl⟩
        rw [← hc, ← ho] at HI12 HS12 HI21 HZ HF
        rw [← hc] at hcv
        clear hc ho
        unfold RecV at HI12 HS12 HI21
        refine (HI12.out _ hE15).mono ?_
        rintro e w16 ⟨rfl, hbn⟩
        have hb016 : Below w.heap.size w w16 := hb015.trans (hbn.mono hb015.size)
        have hE16 : EnvR w16 := hE15.below hbn
        have HP_16 : Hid (RBox w16 pb n1 t1 l1 d1) := (HP_15).out.kept hbn
        have HQ_16 : Hid (RBox w16 qb n2 t2 l2 d2) := (HQ_15).out.kept hbn
        clear hbn hb015 hE15 HP_15 HQ_15
        obtain ⟨c0, c1, c2, c3⟩ := HP_16.out.cells
        obtain ⟨x0, x1, x2, x3⟩ := HQ_16.out.cells
        go_wp2_with fail
        clear c0 c1 c2 c3 x0 x1 x2 x3
        refine (HS12.out _).mono ?_
        rintro e w17 ⟨rfl, hbn⟩
        have hb017 : Below w.heap.size w w17 := hb016.trans (hbn.mono hb016.size)
        have hE17 : EnvR w17 := hE16.below hbn
        have HP_17 : Hid (RBox w17 pb n1 t1 l1 d1) := (HP_16).out.kept hbn
        have HQ_17 : Hid (RBox w17 qb n2 t2 l2 d2) := (HQ_16).out.kept hbn
        clear hbn hb016 hE16 HP_16 HQ_16
        obtain ⟨c0, c1, c2, c3⟩ := HP_17.out.cells
        obtain ⟨x0, x1, x2, x3⟩ := HQ_17.out.cells
        go_wp2_with fail
        clear c0 c1 c2 c3 x0 x1 x2 x3
        refine (HI21.out _ hE17).mono ?_
        rintro e w18 ⟨rfl, hbn⟩
        have hb018 : Below w.heap.size w w18 := hb017.trans (hbn.mono hb017.size)
        have hE18 : EnvR w18 := hE17.below hbn
        have HP_18 : Hid (RBox w18 pb n1 t1 l1 d1) := (HP_17).out.kept hbn
        have HQ_18 : Hid (RBox w18 qb n2 t2 l2 d2) := (HQ_17).out.kept hbn
        clear hbn hb017 hE17 HP_17 HQ_17
        obtain ⟨c0, c1, c2, c3⟩ := HP_18.out.cells
        obtain ⟨x0, x1, x2, x3⟩ := HQ_18.out.cells
        have q2 := guard_rec
        cases o with
        | false =>
          have h0 := HF.out rfl
          subst h0
          clear HZ HF hcv q2
          go_wp2_with fail
          go_ret
          exact ⟨rfl, hb018⟩
        | true =>
          have hz := HZ.out rfl
          clear HZ HF
          rcases (show c = -1 ∨ c = 0 ∨ c = 1 by omega) with rfl | rfl | rfl
          · clear hcv
            have hno := of_decide_eq_false (hz.trans (by decide))
            have HNE : Hid (n1.toList = n2.toList → t1 = t2 → l1 = l2 → d1.toList = d2.toList → False) := fun a b c d => hno ⟨bytes_inj a, b, c, bytes_inj d⟩
            clear hz hno
            go_wp2_with fail
            all_goals first | (go_ret; exact ⟨rfl, hb018⟩) | exact (HNE.out (by assumption) (by assumption) (by assumption) (by assumption)).elim
          · clear hcv
            have hall := of_decide_eq_true (hz.trans (by decide))
            clear hz
            obtain ⟨rfl, rfl, rfl, rfl⟩ := hall
            go_wp2_with fail
            go_ret
            exact ⟨rfl, hb018⟩
          · clear hcv
            have hno := of_decide_eq_false (hz.trans (by decide))
            have HNE : Hid (n1.toList = n2.toList → t1 = t2 → l1 = l2 → d1.toList = d2.toList → False) := fun a b c d => hno ⟨bytes_inj a, b, c, bytes_inj d⟩
            clear hz hno
            go_wp2_with fail
            all_goals first | (go_ret; exact ⟨rfl, hb018⟩) | exact (HNE.out (by assumption) (by assumption) (by assumption) (by assumption)).elim
      | some z =>
        rw [hrd] at HDI HDS
        have hdz := read_back hrd
        have hzl := readR_len hrd
        obtain ⟨y, hy⟩ : ∃ y : ByteArray, y = ⟨z.toArray⟩ := ⟨_, rfl⟩
        have hyz : y.data.toList = z := by rw [hy]
        have HDI : Hid (∀ W, EnvR W → Calls Tryz.prog 10 #[.int .i64 kd, .string s] W fun e w' => e = .returned (.tuple #[.string y, .bool true]) ∧ Below W.heap.size W w') := by rw [hy]; exact HDI
        have HDS : Hid (∀ W, Calls Tryz.prog 14 #[.int .i64 kd, .string s] W fun e w' => e = .returned (.tuple #[.string y, .bool true]) ∧ Below W.heap.size W w') := by rw [hy]; exact HDS
        have hys : y.size ≤ 1048576 := by rw [hy, size_of]; omega
        have HDB : Hid (∀ W, EnvR W → Calls Tryz.prog 9 #[.int .i64 kd, .string y] W fun e w' => e = .returned (.tuple #[.string s, .bool true]) ∧ Below W.heap.size W w') := fun W hW => by
          have h := iDataBytes_any kd y W (by omega) hW
          rw [hyz, hdz] at h
          have e : bytesVal (some s.data.toList) = .returned (.tuple #[.string s, .bool true]) := by show Ending.returned (.tuple #[.string ⟨s.data.toList.toArray⟩, .bool true]) = _; rw [to_back]
          rw [e] at h
          exact h
        clear hrd hdz hzl hy hyz
        have e3 : (y.toList != y.toList) = false := by simp
        have e4 : (s.toList != s.toList) = false := by simp
        go_wp2_with fail
        refine (HDI.out _ hE11).mono ?_
        rintro e w12 ⟨rfl, hbn⟩
        have hb012 : Below w.heap.size w w12 := hb011.trans (hbn.mono hb011.size)
        have hE12 : EnvR w12 := hE11.below hbn
        have HM_12 : Hid (ZRow .u8 w12 (.slice a2 R.length cap2) R) := (HM_11).out.kept hbn
        clear hbn hb011 hE11 HM_11
        go_wp2_with fail
        refine (HDS.out _).mono ?_
        rintro e w13 ⟨rfl, hbn⟩
        have hb013 : Below w.heap.size w w13 := hb012.trans (hbn.mono hb012.size)
        have hE13 : EnvR w13 := hE12.below hbn
        have HM_13 : Hid (ZRow .u8 w13 (.slice a2 R.length cap2) R) := (HM_12).out.kept hbn
        clear hbn hb012 hE12 HM_12
        go_wp2_with fail
        refine (HDB.out _ hE13).mono ?_
        rintro e w14 ⟨rfl, hbn⟩
        have hb014 : Below w.heap.size w w14 := hb013.trans (hbn.mono hb013.size)
        have hE14 : EnvR w14 := hE13.below hbn
        have HM_14 : Hid (ZRow .u8 w14 (.slice a2 R.length cap2) R) := (HM_13).out.kept hbn
        clear hbn hb013 hE13 HM_13
        go_wp2_with fail
        refine (drawCompareRecords_any _ R _ HM_14.out hb2 hle2).mono ?_
        rintro e w15 ⟨n1, t1, l1, d1, n2, t2, l2, d2, ⟨rfl, hs1, hs2⟩, hbn⟩
        have hb015 : Below w.heap.size w w15 := hb014.trans (hbn.mono hb014.size)
        have hE15 : EnvR w15 := hE14.below hbn
        have HM_15 : Hid (ZRow .u8 w15 (.slice a2 R.length cap2) R) := (HM_14).out.kept hbn
        clear hbn hb014 hE14 HM_14
        obtain ⟨hn1, hd1, ht1, hl1⟩ := hs1
        obtain ⟨hn2, hd2, ht2, hl2⟩ := hs2
        unfold RecV
        go_wp2_with fail
        have hbA : Below w15.heap.size w15 ((w15.alloc (.cells #[.string n1, .int .i64 t1, .int .i64 l1, .string d1] 24)).alloc (.cells #[.string n2, .int .i64 t2, .int .i64 l2, .string d2] 24)) := ((Below.refl _ _).alloc (Nat.le_refl _) _).alloc (by simp) _
        have hsq : w15.heap.size + 1 = (w15.alloc (.cells #[.string n1, .int .i64 t1, .int .i64 l1, .string d1] 24)).heap.size := by simp
        have HP_16 : Hid (RBox ((w15.alloc (.cells #[.string n1, .int .i64 t1, .int .i64 l1, .string d1] 24)).alloc (.cells #[.string n2, .int .i64 t2, .int .i64 l2, .string d2] 24)) w15.heap.size n1 t1 l1 d1) := rbox_new.kpt (kpt_alloc _ _ (fun _ => False)) id
        have HQ_16 : Hid (RBox ((w15.alloc (.cells #[.string n1, .int .i64 t1, .int .i64 l1, .string d1] 24)).alloc (.cells #[.string n2, .int .i64 t2, .int .i64 l2, .string d2] 24)) (w15.heap.size + 1) n2 t2 l2 d2) := by rw [hsq]; exact rbox_new
        have hb016 : Below w.heap.size w ((w15.alloc (.cells #[.string n1, .int .i64 t1, .int .i64 l1, .string d1] 24)).alloc (.cells #[.string n2, .int .i64 t2, .int .i64 l2, .string d2] 24)) := hb015.trans (hbA.mono hb015.size)
        have hE16 : EnvR ((w15.alloc (.cells #[.string n1, .int .i64 t1, .int .i64 l1, .string d1] 24)).alloc (.cells #[.string n2, .int .i64 t2, .int .i64 l2, .string d2] 24)) := hE15.below hbA
        obtain ⟨w16, hw⟩ : ∃ W, W = ((w15.alloc (.cells #[.string n1, .int .i64 t1, .int .i64 l1, .string d1] 24)).alloc (.cells #[.string n2, .int .i64 t2, .int .i64 l2, .string d2] 24)) := ⟨_, rfl⟩
        rw [← hw] at HP_16 HQ_16 hb016 hE16
        rw [← hw]
        obtain ⟨qb, hqb⟩ : ∃ b, b = w15.heap.size + 1 := ⟨_, rfl⟩
        obtain ⟨pb, hpb⟩ : ∃ b, b = w15.heap.size := ⟨_, rfl⟩
        rw [← hqb] at HQ_16 ⊢
        rw [← hpb] at HP_16 ⊢
        clear hw hqb hpb hsq hbA hb015 hE15
        have HI12 : Hid (∀ W, EnvR W → Calls Tryz.prog 16 #[RecV n1 t1 l1 d1, RecV n2 t2 l2 d2] W fun e w' => e = .returned (.tuple #[.int .i64 (cmpX n1.data.toList t1 l1 d1.data.toList n2.data.toList t2 l2 d2.data.toList), .bool (cmpO n1.data.toList t1 l1 d1.data.toList n2.data.toList t2 l2 d2.data.toList)]) ∧ Below W.heap.size W w') := fun W hW => iCompareRecords_any n1 d1 t1 l1 n2 d2 t2 l2 W (by omega) (by omega) hW
        have HS12 : Hid (∀ W, Calls Tryz.prog 17 #[RecV n1 t1 l1 d1, RecV n2 t2 l2 d2] W fun e w' => e = .returned (.tuple #[.int .i64 (cmpX n1.data.toList t1 l1 d1.data.toList n2.data.toList t2 l2 d2.data.toList), .bool (cmpO n1.data.toList t1 l1 d1.data.toList n2.data.toList t2 l2 d2.data.toList)]) ∧ Below W.heap.size W w') := fun W => sCompareRecords_any n1 d1 t1 l1 n2 d2 t2 l2 W (by omega) (by omega) (by omega) (by omega)
        have HI21 : Hid (∀ W, EnvR W → Calls Tryz.prog 16 #[RecV n2 t2 l2 d2, RecV n1 t1 l1 d1] W fun e w' => e = .returned (.tuple #[.int .i64 (- cmpX n1.data.toList t1 l1 d1.data.toList n2.data.toList t2 l2 d2.data.toList), .bool (cmpO n1.data.toList t1 l1 d1.data.toList n2.data.toList t2 l2 d2.data.toList)]) ∧ Below W.heap.size W w') := fun W hW => by
          have hh := iCompareRecords_any n2 d2 t2 l2 n1 d1 t1 l1 W (by omega) (by omega) hW
          rw [cmpX_swap, cmpO_swap] at hh
          exact hh
        have hcv := cmpX_vals n1.data.toList t1 l1 d1.data.toList n2.data.toList t2 l2 d2.data.toList
        have HZ : Hid (cmpO n1.data.toList t1 l1 d1.data.toList n2.data.toList t2 l2 d2.data.toList = true → decide (n1 = n2 ∧ t1 = t2 ∧ l1 = l2 ∧ d1 = d2) = decide (cmpX n1.data.toList t1 l1 d1.data.toList n2.data.toList t2 l2 d2.data.toList = 0)) := fun h => cmpX_zero h
        have HF : Hid (cmpO n1.data.toList t1 l1 d1.data.toList n2.data.toList t2 l2 d2.data.toList = false → cmpX n1.data.toList t1 l1 d1.data.toList n2.data.toList t2 l2 d2.data.toList = 0) := fun h => if_neg (by rw [h]; decide)
        obtain ⟨c, hc⟩ : ∃ c, c = cmpX n1.data.toList t1 l1 d1.data.toList n2.data.toList t2 l2 d2.data.toList := ⟨_, rfl⟩
        obtain ⟨o, ho⟩ : ∃ o, o = cmpO n1.data.toList t1 l1 d1.data.toList n2.data.toList t2 l2 d2.data.toList := ⟨_, rfl⟩
        rw [← hc, ← ho] at HI12 HS12 HI21 HZ HF
        rw [← hc] at hcv
        clear hc ho
        unfold RecV at HI12 HS12 HI21
        refine (HI12.out _ hE16).mono ?_
        rintro e w17 ⟨rfl, hbn⟩
        have hb017 : Below w.heap.size w w17 := hb016.trans (hbn.mono hb016.size)
        have hE17 : EnvR w17 := hE16.below hbn
        have HP_17 : Hid (RBox w17 pb n1 t1 l1 d1) := (HP_16).out.kept hbn
        have HQ_17 : Hid (RBox w17 qb n2 t2 l2 d2) := (HQ_16).out.kept hbn
        clear hbn hb016 hE16 HP_16 HQ_16
        obtain ⟨c0, c1, c2, c3⟩ := HP_17.out.cells
        obtain ⟨x0, x1, x2, x3⟩ := HQ_17.out.cells
        go_wp2_with fail
        clear c0 c1 c2 c3 x0 x1 x2 x3
        refine (HS12.out _).mono ?_
        rintro e w18 ⟨rfl, hbn⟩
        have hb018 : Below w.heap.size w w18 := hb017.trans (hbn.mono hb017.size)
        have hE18 : EnvR w18 := hE17.below hbn
        have HP_18 : Hid (RBox w18 pb n1 t1 l1 d1) := (HP_17).out.kept hbn
        have HQ_18 : Hid (RBox w18 qb n2 t2 l2 d2) := (HQ_17).out.kept hbn
        clear hbn hb017 hE17 HP_17 HQ_17
        obtain ⟨c0, c1, c2, c3⟩ := HP_18.out.cells
        obtain ⟨x0, x1, x2, x3⟩ := HQ_18.out.cells
        go_wp2_with fail
        clear c0 c1 c2 c3 x0 x1 x2 x3
        refine (HI21.out _ hE18).mono ?_
        rintro e w19 ⟨rfl, hbn⟩
        have hb019 : Below w.heap.size w w19 := hb018.trans (hbn.mono hb018.size)
        have hE19 : EnvR w19 := hE18.below hbn
        have HP_19 : Hid (RBox w19 pb n1 t1 l1 d1) := (HP_18).out.kept hbn
        have HQ_19 : Hid (RBox w19 qb n2 t2 l2 d2) := (HQ_18).out.kept hbn
        clear hbn hb018 hE18 HP_18 HQ_18
        obtain ⟨c0, c1, c2, c3⟩ := HP_19.out.cells
        obtain ⟨x0, x1, x2, x3⟩ := HQ_19.out.cells
        have q2 := guard_rec
        cases o with
        | false =>
          have h0 := HF.out rfl
          subst h0
          clear HZ HF hcv q2
          go_wp2_with fail
          go_ret
          exact ⟨rfl, hb019⟩
        | true =>
          have hz := HZ.out rfl
          clear HZ HF
          rcases (show c = -1 ∨ c = 0 ∨ c = 1 by omega) with rfl | rfl | rfl
          · clear hcv
            have hno := of_decide_eq_false (hz.trans (by decide))
            have HNE : Hid (n1.toList = n2.toList → t1 = t2 → l1 = l2 → d1.toList = d2.toList → False) := fun a b c d => hno ⟨bytes_inj a, b, c, bytes_inj d⟩
            clear hz hno
            go_wp2_with fail
            all_goals first | (go_ret; exact ⟨rfl, hb019⟩) | exact (HNE.out (by assumption) (by assumption) (by assumption) (by assumption)).elim
          · clear hcv
            have hall := of_decide_eq_true (hz.trans (by decide))
            clear hz
            obtain ⟨rfl, rfl, rfl, rfl⟩ := hall
            go_wp2_with fail
            go_ret
            exact ⟨rfl, hb019⟩
          · clear hcv
            have hno := of_decide_eq_false (hz.trans (by decide))
            have HNE : Hid (n1.toList = n2.toList → t1 = t2 → l1 = l2 → d1.toList = d2.toList → False) := fun a b c d => hno ⟨bytes_inj a, b, c, bytes_inj d⟩
            clear hz hno
            go_wp2_with fail
            all_goals first | (go_ret; exact ⟨rfl, hb019⟩) | exact (HNE.out (by assumption) (by assumption) (by assumption) (by assumption)).elim
end Go.Proofs.YtdmellmmhipncaaGreatDoor.lawRecords
