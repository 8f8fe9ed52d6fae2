import Derived.Test.YthmneeahncojjaaDoorSText
namespace Go.Proofs.YthmneeahncojjaaDoor
open Go.RowKit

theorem dataP_kind {k : Int} {l : List UInt8} (h : (dataP k l).isSome = true) : k = 1 ∨ k = 2 ∨ k = 5 ∨ k = 6 ∨ k = 15 ∨ k = 16 := by
  unfold dataP at h
  by_cases h1 : k = 1
  · exact .inl h1
  · rw [if_neg h1] at h
    by_cases h2 : k = 2 ∨ k = 5
    · rcases h2 with h2 | h2
      · exact .inr (.inl h2)
      · exact .inr (.inr (.inl h2))
    · rw [if_neg h2] at h
      by_cases h6 : k = 6
      · exact .inr (.inr (.inr (.inl h6)))
      · rw [if_neg h6] at h
        by_cases h15 : k = 15
        · exact .inr (.inr (.inr (.inr (.inl h15))))
        · rw [if_neg h15] at h
          by_cases h16 : k = 16
          · exact .inr (.inr (.inr (.inr (.inr h16))))
          · rw [if_neg h16] at h; cases h
theorem recB_facts {nm d : List UInt8} {ty ttl : Int} (h : recB nm ty ttl d = true) : 1 ≤ ty ∧ ty ≤ 16 ∧ 0 ≤ ttl ∧ ttl ≤ 100000 := by
  unfold recB at h
  simp only [Bool.and_eq_true, decide_eq_true_eq] at h
  have := dataP_kind h.1
  omega

/-- What RecordText tells. -/
def recX (nm : List UInt8) (ty ttl : Int) (d : List UInt8) : List UInt8 := if recB nm ty ttl d = true then recT nm ty.toNat ttl.toNat d else []

set_option maxRecDepth 20000 in
set_option maxHeartbeats 1000000 in
theorem sRecordText_any (nm d : ByteArray) (ty ttl : Int) (w : World) (hn : nm.size ≤ 1048576) (hd : d.size ≤ 1048576) :
    Calls Tryd.prog 12 #[RecV nm ty ttl d] w fun e w' => e = .returned (.tuple #[.string ⟨(recX nm.data.toList ty ttl d.data.toList).toArray⟩, .bool (recB nm.data.toList ty ttl d.data.toList)]) ∧ Below w.heap.size w w' := by
  cases hB : recB nm.data.toList ty ttl d.data.toList with
  | false =>
    have HB : Hid (recB nm.data.toList ty ttl d.data.toList = false) := hB
    have HX : Hid (recX nm.data.toList ty ttl d.data.toList = []) := if_neg (by rw [hB]; simp)
    clear hB
    unfold RecV
    go_enter Tryd.func12, Tryd.ntmps12
    go_wp2_with fail
    refine (sGoodRecord_any nm d ty ttl _ hn hd).mono ?_
    rintro e w1 ⟨rfl, hb1⟩
    rw [HB.out]
    have hbw := (box4 hb1).2.2.2.2
    go_wp2_with fail
    go_ret2
    exact ⟨ret_two (by rw [HX.out]; rfl) rfl, hbw⟩
  | true =>
    have HB : Hid (recB nm.data.toList ty ttl d.data.toList = true) := hB
    have HX : Hid (recX nm.data.toList ty ttl d.data.toList = recT nm.data.toList ty.toNat ttl.toNat d.data.toList) := if_pos hB
    obtain ⟨f1, f2, f3, f4⟩ := recB_facts hB
    obtain ⟨a, rfl⟩ : ∃ a : Nat, ty = (a : Int) := ⟨ty.toNat, by omega⟩
    obtain ⟨b, rfl⟩ : ∃ b : Nat, ttl = (b : Int) := ⟨ttl.toNat, by omega⟩
    rw [show ((a : Int)).toNat = a from rfl, show ((b : Int)).toNat = b from rfl] at HX
    clear hB
    unfold RecV
    go_enter Tryd.func12, Tryd.ntmps12
    go_wp2_with fail
    refine (sGoodRecord_any nm d _ _ _ hn hd).mono ?_
    rintro e w1 ⟨rfl, hb1⟩
    rw [HB.out]
    obtain ⟨c0, c1, c2, c3, hbw⟩ := box4 hb1
    clear hb1
    go_wp2_with fail
    refine (l3Text_any nm d a b _ hn hd (by omega) (by omega)).mono ?_
    rintro e w2 ⟨rfl, hb2⟩
    go_wp2_with fail
    go_ret2
    exact ⟨ret_two (by rw [HX.out]; rfl) rfl, hbw.trans (hb2.mono hbw.size)⟩

/-- The name that a record's data has. -/
def toT (ty : Int) (d : List UInt8) : List UInt8 := if ty = 2 ∨ ty = 5 then d else if ty = 15 then (cut 32 d).getD 1 [] else []

set_option maxRecDepth 20000 in
set_option maxHeartbeats 1000000 in
theorem l3To_any (nm d : ByteArray) (ty ttl : Int) (w : World) (hd : d.size ≤ 1048576) (hM : Hid (ty = 15 → (cut 32 d.data.toList).length = 2)) :
    Calls Tryd.prog 33 #[RecV nm ty ttl d] w fun e w' => e = .returned (.string ⟨(toT ty d.data.toList).toArray⟩) ∧ Below w.heap.size w w' := by
  unfold RecV
  by_cases h25 : ty = 2 ∨ ty = 5
  · have HT : Hid (toT ty d.data.toList = d.data.toList) := if_pos h25
    rcases h25 with rfl | rfl
    all_goals
      go_enter Tryd.func33, Tryd.ntmps33
      go_wp2_with fail
      go_ret
      exact ⟨congrArg Ending.returned (val_strM HT.out.symm), (Below.refl _ _).alloc (Nat.le_refl _) _⟩
  · by_cases h15 : ty = 15
    · subst h15
      obtain ⟨x, y, hxy⟩ := two_of (hM.out rfl)
      have HT : Hid (toT 15 d.data.toList = y) := by unfold toT; rw [if_neg (by omega), if_pos rfl, hxy]; exact rfl
      go_enter Tryd.func33, Tryd.ntmps33
      go_wp2_with fail
      refine (l1Split_any d 32 _ _ (by omega) rfl).mono ?_
      rintro e w1 ⟨v, rfl, hown, hb⟩
      rw [hxy] at hown
      obtain ⟨g, cap, hv, hg, hgl, hcap, hmax, hcell⟩ := own_shape hown (by simp)
      have hc1 : w1.cell? ⟨g, 1, none⟩ = some (.string ⟨y.toArray⟩) := hcell 1 (by simp)
      rw [hv]
      simp only [List.length_cons, List.length_nil] at hcap ⊢
      unfold maxLen at hmax
      have hbw := (box4 hb).2.2.2.2
      clear hown hv hcell hxy hb h25
      go_wp2_with fail
      go_ret
      exact ⟨congrArg Ending.returned (val_strM HT.out.symm), hbw⟩
    · have HT : Hid (toT ty d.data.toList = []) := by unfold toT; rw [if_neg h25, if_neg h15]; exact rfl
      have e2 : (ty == 2) = false := by simpa using fun h => h25 (.inl h)
      have e5 : (ty == 5) = false := by simpa using fun h => h25 (.inr h)
      have e15 : (ty == 15) = false := by simpa using h15
      clear h25 h15
      go_enter Tryd.func33, Tryd.ntmps33
      go_wp2_with fail
      go_ret
      exact ⟨congrArg Ending.returned (val_strM HT.out.symm), (Below.refl _ _).alloc (Nat.le_refl _) _⟩

theorem dataM_len {l : List UInt8} (h : (dataP 15 l).isSome = true) : (cut 32 l).length = 2 := by
  by_cases h2 : (cut 32 l).length = 2
  · exact h2
  · have e : dataP 15 l = dataM l := by unfold dataP; rw [if_neg (by omega), if_neg (by omega), if_neg (by omega), if_pos rfl]
    rw [e, dataM_not h2] at h; cases h
theorem recB_two {nm d : List UInt8} {ty ttl : Int} (h : recB nm ty ttl d = true) : ty = 15 → (cut 32 d).length = 2 := by
  intro e; subst e
  unfold recB at h
  simp only [Bool.and_eq_true] at h
  exact dataM_len h.1

/-- What TargetOf tells. -/
def targO (nm : List UInt8) (ty ttl : Int) (d : List UInt8) : Bool := recB nm ty ttl d && !(toT ty d).isEmpty
def targX (nm : List UInt8) (ty ttl : Int) (d : List UInt8) : List UInt8 := if targO nm ty ttl d = true then toT ty d else []

set_option maxRecDepth 20000 in
set_option maxHeartbeats 1000000 in
theorem sTargetOf_any (nm d : ByteArray) (ty ttl : Int) (w : World) (hn : nm.size ≤ 1048576) (hd : d.size ≤ 1048576) :
    Calls Tryd.prog 19 #[RecV nm ty ttl d] w fun e w' => e = .returned (.tuple #[.string ⟨(targX nm.data.toList ty ttl d.data.toList).toArray⟩, .bool (targO nm.data.toList ty ttl d.data.toList)]) ∧ Below w.heap.size w w' := by
  cases hB : recB nm.data.toList ty ttl d.data.toList with
  | false =>
    have HB : Hid (recB nm.data.toList ty ttl d.data.toList = false) := hB
    have ho : targO nm.data.toList ty ttl d.data.toList = false := by unfold targO; rw [hB]; rfl
    have HO : Hid (targO nm.data.toList ty ttl d.data.toList = false) := ho
    have HX : Hid (targX nm.data.toList ty ttl d.data.toList = []) := if_neg (by rw [ho]; simp)
    clear hB ho
    unfold RecV
    go_enter Tryd.func19, Tryd.ntmps19
    go_wp2_with fail
    refine (sGoodRecord_any nm d ty ttl _ hn hd).mono ?_
    rintro e w1 ⟨rfl, hb1⟩
    rw [HB.out]
    have hbw := (box4 hb1).2.2.2.2
    go_wp2_with fail
    go_ret2
    exact ⟨ret_two (by rw [HX.out]; rfl) (val_bool HO.out.symm), hbw⟩
  | true =>
    have HB : Hid (recB nm.data.toList ty ttl d.data.toList = true) := hB
    have HM : Hid (ty = 15 → (cut 32 d.data.toList).length = 2) := recB_two hB
    have ho : targO nm.data.toList ty ttl d.data.toList = !(toT ty d.data.toList).isEmpty := by unfold targO; rw [hB, Bool.true_and]
    have HO : Hid (targO nm.data.toList ty ttl d.data.toList = !(toT ty d.data.toList).isEmpty) := ho
    have HX : Hid (targX nm.data.toList ty ttl d.data.toList = if (!(toT ty d.data.toList).isEmpty) = true then toT ty d.data.toList else []) := by unfold targX; rw [ho]; exact rfl
    have HTO : Hid (∀ W, Calls Tryd.prog 33 #[RecV nm ty ttl d] W fun e w' => e = .returned (.string ⟨(toT ty d.data.toList).toArray⟩) ∧ Below W.heap.size W w') := fun W => l3To_any nm d ty ttl W hd HM
    unfold RecV at HTO
    obtain ⟨y, hy⟩ : ∃ y, y = toT ty d.data.toList := ⟨_, rfl⟩
    rw [← hy] at HTO HX HO
    clear hB ho hy
    unfold RecV
    cases hE : y.isEmpty with
    | true =>
      rw [hE] at HO HX
      go_enter Tryd.func19, Tryd.ntmps19
      go_wp2_with fail
      refine (sGoodRecord_any nm d ty ttl _ hn hd).mono ?_
      rintro e w1 ⟨rfl, hb1⟩
      rw [HB.out]
      obtain ⟨c0, c1, c2, c3, hbw⟩ := box4 hb1
      clear hb1
      go_wp2_with fail
      refine (HTO.out _).mono ?_
      rintro e w2 ⟨rfl, hb2⟩
      go_wp2_with fail
      go_ret2
      exact ⟨ret_two (by rw [HX.out]; rfl) (val_bool (by rw [HO.out]; rfl)), hbw.trans (hb2.mono hbw.size)⟩
    | false =>
      rw [hE] at HO HX
      go_enter Tryd.func19, Tryd.ntmps19
      go_wp2_with fail
      refine (sGoodRecord_any nm d ty ttl _ hn hd).mono ?_
      rintro e w1 ⟨rfl, hb1⟩
      rw [HB.out]
      obtain ⟨c0, c1, c2, c3, hbw⟩ := box4 hb1
      have HBX : Hid (∀ W, Below w1.heap.size w1 W → W.cell? ⟨w.heap.size, 0, none⟩ = some (.string nm) ∧ W.cell? ⟨w.heap.size, 1, none⟩ = some (.int .i64 ty) ∧ W.cell? ⟨w.heap.size, 2, none⟩ = some (.int .i64 ttl) ∧ W.cell? ⟨w.heap.size, 3, none⟩ = some (.string d)) := fun W hW => by
        have h := box4 (hb1.trans (hW.mono hb1.size))
        exact ⟨h.1, h.2.1, h.2.2.1, h.2.2.2.1⟩
      clear hb1
      go_wp2_with fail
      refine (HTO.out _).mono ?_
      rintro e w2 ⟨rfl, hb2⟩
      obtain ⟨d0, d1, d2, d3⟩ := HBX.out w2 hb2
      have hbw2 := hbw.trans (hb2.mono hbw.size)
      clear c0 c1 c2 c3
      go_wp2_with fail
      refine (HTO.out _).mono ?_
      rintro e w3 ⟨rfl, hb3⟩
      go_wp2_with fail
      go_ret2
      exact ⟨ret_two (by rw [HX.out]; rfl) (val_bool (by rw [HO.out]; rfl)), hbw2.trans (hb3.mono hbw2.size)⟩

set_option maxRecDepth 20000 in
set_option maxHeartbeats 1000000 in
theorem sDataBytes_any (k : Int) (s : ByteArray) (w : World) (hs : s.size ≤ 1048576) :
    Calls Tryd.prog 17 #[.int .i64 k, .string s] w fun e w' => e = .returned (.tuple #[.string ⟨((dataP k s.data.toList).getD []).toArray⟩, .bool (dataP k s.data.toList).isSome]) ∧ Below w.heap.size w w' := by
  cases hD : dataP k s.data.toList with
  | none =>
    have HD : Hid (dataP k s.data.toList = none) := hD
    clear hD
    go_enter Tryd.func17, Tryd.ntmps17
    go_wp2_with fail
    refine (l3Bytes_any k s w hs).mono ?_
    rintro e w1 ⟨⟨x, rfl, _⟩, hb1⟩
    rw [HD.out]
    go_wp2_with fail
    go_ret2
    exact ⟨rfl, hb1⟩
  | some y =>
    have HD : Hid (dataP k s.data.toList = some y) := hD
    clear hD
    go_enter Tryd.func17, Tryd.ntmps17
    go_wp2_with fail
    refine (l3Bytes_any k s w hs).mono ?_
    rintro e w1 ⟨⟨x, rfl, hx⟩, hb1⟩
    obtain rfl := hx y HD.out
    rw [HD.out]
    go_wp2_with fail
    go_ret2
    exact ⟨rfl, hb1⟩
end Go.Proofs.YthmneeahncojjaaDoor
