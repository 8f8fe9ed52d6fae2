import Derived.Test.YtoanloballaclaaDoorSNum
import Derived.Test.YtoanloballaclaaDoorFold
import Derived.Test.YtoanloballaclaaDoorNameB
namespace Go.Proofs.YtoanloballaclaaDoor
open Go.RowKit

/-- A number in so many bytes, the highest first. -/
def beB (n : Int) : Nat → List UInt8
  | 0 => []
  | k + 1 => beB (n / 256) k ++ [UInt8.ofNat (n % 256).toNat]
theorem beB_length : ∀ (k : Nat) (n : Int), (beB n k).length = k
  | 0, _ => rfl
  | k + 1, n => by rw [beB, List.length_append, beB_length k]; rfl

theorem made_brow {w w1 : World} {N : Nat} (h : w1.ownsRow w.heap.size 5 1 (.slice (some ⟨w.heap.size, 0, none⟩) N N) N (madeCells #[.int .u8 0] N).toList) : BRow w1 w.heap.size (List.replicate N 0) := by
  refine ⟨(h.lt w.heap.size rfl).2, fun j hj => ⟨?_, h.frozenAt j⟩⟩
  have hj' : j < N := by simpa using hj
  rw [h.cellAt j (by omega)]
  have e : (madeCells #[.int .u8 0] N).toList = List.replicate N (.int .u8 0) := by
    apply List.ext_getElem
    · simp [madeCells]
    · intro i h1 h2; simp [madeCells, Nat.mod_one]
  rw [e]
  simp [hj']

set_option maxRecDepth 20000 in
set_option maxHeartbeats 1000000 in
theorem l3Number_any (n : Int) (N : Nat) (w : World) (h1 : -9223372036854775808 ≤ n) (h2 : n ≤ 9223372036854775807) (hN : N ≤ 8) :
    Calls Tryd.prog 21 #[.int .i64 n, .int .i64 (N : Int)] w fun e w' => e = .returned (.string ⟨(beB n N).toArray⟩) ∧ Below w.heap.size w w' := by
  obtain ⟨i0, hi, hz0, hz1, hz2⟩ := info_parts info_byte
  go_enter Tryd.func21, Tryd.ntmps21
  go_wp2_with (at_make; refine wpList_make_full _ rfl _ _ 50 rfl w.heap.size 5 i0 (.int .u8 0) 1 Tryd.underlying50 hi hz0 hz1 _ _ _ _ N rfl rfl rfl rfl ?b2 ?b3 ?b4 ?_)
  case b2 => rw [hz2]; omega
  case b3 => unfold maxLen; omega
  case b4 => exact Nat.le_refl _
  intro w1 hown hgrow
  have hb1 : Below w.heap.size w w1 := (Below.refl _ _).grown hgrow (Nat.le_refl _) (fun k h => by cases h)
  have HB0 : Hid (BRow w1 w.heap.size (List.replicate N 0 ++ [])) := by rw [List.append_nil]; exact made_brow hown
  clear hown hgrow
  go_wp2_with fail
  go_loopw [0, 6] (fun vn i wr => ∃ (j : Nat) (m : Int) (tl : List UInt8), j ≤ N ∧ vn = .int .i64 m ∧ i = .int .i64 ((j : Int) - 1) ∧ -9223372036854775808 ≤ m ∧ m ≤ 9223372036854775807 ∧ Hid (beB n N = beB m j ++ tl ∧ tl.length + j = N) ∧ Hid (BRow wr w.heap.size (List.replicate j 0 ++ tl)) ∧ Below w.heap.size w wr) (fun _ i _ => (intOf i + 1).toNat)
  case atStart => exact ⟨N, n, [], Nat.le_refl _, rfl, rfl, h1, h2, ⟨by simp, by simp⟩, HB0, hb1⟩
  case round =>
    obtain ⟨j, m, tl, hj, rfl, rfl, hm1, hm2, HS, HR, hb⟩ := hrel
    clear HB0 hb1
    cases j with
    | zero =>
      have hrow : BRow wr w.heap.size tl := by simpa using HR.out
      have hconv := string_of (cap := N) hrow N (by have := HS.out.2; omega)
      have he : beB n N = tl := by have := HS.out.1; simpa [beB] using this
      have HE : Hid (beB n N = tl) := he
      clear he
      clear hrow
      go_wp2_with fail
      go_ret
      exact ⟨by rw [HE.out]; rfl, hb⟩
    | succ j =>
      have hji : ((j + 1 : Nat) : Int) - 1 = (j : Int) := by omega
      rw [hji]
      have hlen : j < (List.replicate (j + 1) (0 : UInt8) ++ tl).length := by rw [List.length_append, List.length_replicate]; omega
      have hcx := (HR.out.2 j hlen).1
      have hfx := (HR.out.2 j hlen).2
      obtain ⟨c, hc⟩ : ∃ c : UInt8, c = UInt8.ofNat (m % 256).toNat := ⟨_, rfl⟩
      have hcn : (c.toNat : Int) = m % 256 := by rw [hc, UInt8.toNat_ofNat']; omega
      have hset := HR.out.set j hlen c
      rw [hcn] at hset
      have hl2 : (List.replicate (j + 1) (0 : UInt8) ++ tl).set j c = List.replicate j 0 ++ (c :: tl) := by
        rw [List.replicate_succ', List.append_assoc, List.set_append_right _ _ (by simp)]
        simp
      rw [hl2] at hset
      have HSET : Hid (BRow (wr.setCell ⟨w.heap.size, j, none⟩ (.int .u8 (m % 256))) w.heap.size (List.replicate j 0 ++ (c :: tl))) := hset
      have HN : Hid (beB n N = beB (m / 256) j ++ (c :: tl) ∧ (c :: tl).length + j = N) := by
        refine ⟨?_, ?_⟩
        · rw [HS.out.1, beB, ← hc]; simp
        · have := HS.out.2; simp; omega
      obtain ⟨u, hu⟩ : ∃ u, u = (List.replicate (j + 1) (0 : UInt8) ++ tl)[j]'hlen := ⟨_, rfl⟩
      rw [← hu] at hcx
      clear hset hl2 hc hcn hu hlen hji
      go_wp2_with fail
      go_roundw
      case rel => exact ⟨j, m / 256, c :: tl, by omega, rfl, rfl, by omega, by omega, HN, HSET, hb.setCell (p := ⟨w.heap.size, j, none⟩) (Nat.le_refl _) _⟩
      case measure => simp [intOf]

/-- The labels that l1Labels tells, name or not. -/
def labsV (l : List UInt8) : List (List UInt8) := if l = [] then [] else if (cut 46 l).all labelB = true then cut 46 l else []
theorem labsV_name {l : List UInt8} (h : nameB l = true) : labsV l = labelsOf l := by
  unfold labsV labelsOf
  split
  · rfl
  · rename_i h0
    rw [if_pos]
    unfold nameB labelsOf at h
    rw [if_neg h0] at h
    simp only [Bool.and_eq_true] at h
    exact h.1

set_option maxRecDepth 20000 in
set_option maxHeartbeats 1000000 in
theorem l1Labels_full (s : ByteArray) (w : World) (hs : s.size ≤ 4294967280) :
    Calls Tryd.prog 24 #[.string s] w fun e w' => ∃ v, e = .returned (.tuple #[v, .bool (nameB s.data.toList)]) ∧
      w'.ownsRow w.heap.size 9 1 v (labsV s.data.toList).length ((labsV s.data.toList).map S) ∧ Below w.heap.size w w' := by
  by_cases h0 : s.data.toList = []
  · obtain rfl : s = ⟨#[]⟩ := data_eq h0
    go_enter Tryd.func24, Tryd.ntmps24
    go_wp2_with fail
    go_ret2
    exact ⟨_, rfl, World.ownsRow_nil _ _ _ _, Below.refl _ _⟩
  · have H0 : Hid (¬ s.data.toList = []) := h0
    have e0 : (s.toList == []) = false := by rw [ByteArray.toList_eq]; simpa using h0
    clear h0
    have hsz : s.data.toList.length = s.size := by simp
    have HSZ : Hid (s.data.toList.length = s.size) := hsz
    clear hsz
    go_enter Tryd.func24, Tryd.ntmps24
    go_wp2_with fail
    refine (l1Split_any s 46 _ w hs rfl).mono ?_
    rintro e w1 ⟨v, rfl, hown, hb⟩
    have hne : 0 < (cut 46 s.data.toList).length := List.length_pos_iff.2 (cut_ne _ _)
    obtain ⟨g, cap, hv, hg, hgl, hcap, hmax, hcell⟩ := own_shape hown hne
    obtain ⟨P, hP⟩ : ∃ P, P = cut 46 s.data.toList := ⟨_, rfl⟩
    rw [← hP] at hown hne hv hcap hcell
    have HP : Hid (P = cut 46 s.data.toList) := hP
    have HOWN : Hid (w1.ownsRow w.heap.size 9 1 v P.length (P.map S)) := hown
    have HCE : Hid (∀ j, j < P.length → w1.cell? ⟨g, j, none⟩ = (P.map S)[j]?) := hcell
    have HN : Hid ((cut 46 s.data.toList).all labelB = true → w1.ownsRow w.heap.size 9 1 v (labsV s.data.toList).length ((labsV s.data.toList).map S)) := fun ha => by
      unfold labsV; rw [if_neg H0.out, if_pos ha, ← hP]; exact hown
    rw [hv] at HN ⊢
    clear hP hown hcell HOWN hv
    unfold maxLen at hmax
    go_wp2_with fail
    go_loop [13] (fun i => ∃ k : Nat, k ≤ P.length ∧ i = .int .i64 k ∧ Hid ((P.take k).all labelB = true)) (fun i => P.length - (intOf i).toNat)
    case atStart => exact ⟨0, Nat.zero_le _, rfl, rfl⟩
    case round =>
      obtain ⟨k, hk, rfl, HA⟩ := hrel
      by_cases hlt : k < P.length
      · have hcx : w1.cell? ⟨g, k, none⟩ = some (.string ⟨(P[k]'hlt).toArray⟩) := by rw [HCE.out k hlt, List.getElem?_map, List.getElem?_eq_getElem hlt]; rfl
        have hpl : (⟨(P[k]'hlt).toArray⟩ : ByteArray).size ≤ maxLen := by
          have h1 := cut_piece_le 46 s.data.toList (P[k]'hlt) (by rw [← HP.out]; exact List.getElem_mem _)
          have h2 := HSZ.out
          show (P[k]'hlt).toArray.size ≤ maxLen
          unfold maxLen; simp only [List.size_toArray]; omega
        cases ho : labelB (P[k]'hlt) with
        | true =>
          have HO : Hid (labelB (P[k]'hlt) = true) := ho
          clear ho
          go_wp2_with fail
          refine (l1Label_any _ _ hpl).mono ?_
          rintro e w2 ⟨rfl, rfl⟩
          rw [show (⟨(P[k]'hlt).toArray⟩ : ByteArray).data.toList = P[k]'hlt from rfl, HO.out]
          go_wp2_with fail
          go_round
          case rel => exact ⟨k + 1, by omega, by go_num, pieces_step HA.out hlt HO.out⟩
          case measure => simp [intOf]; omega
        | false =>
          have HO : Hid (labelB (P[k]'hlt) = false) := ho
          clear ho
          go_wp2_with fail
          refine (l1Label_any _ _ hpl).mono ?_
          rintro e w2 ⟨rfl, rfl⟩
          rw [show (⟨(P[k]'hlt).toArray⟩ : ByteArray).data.toList = P[k]'hlt from rfl, HO.out]
          go_wp2_with fail
          go_ret2
          have hN := name_not H0.out (by rw [← HP.out]; exact pieces_not hlt HO.out)
          refine ⟨_, ret_two rfl (val_bool hN.symm), ?_, hb⟩
          have hna : ¬ (cut 46 s.data.toList).all labelB = true := by rw [← HP.out, pieces_not hlt HO.out]; simp
          unfold labsV; rw [if_neg H0.out, if_neg hna]; exact World.ownsRow_nil _ _ _ _
      · have HALL : Hid ((cut 46 s.data.toList).all labelB = true) := by rw [← HP.out]; exact pieces_full HA.out hlt
        have hN := name_is H0.out HALL.out
        rw [← HP.out, HSZ.out] at hN
        have HNN : Hid (nameB s.data.toList = (decide ((s.size : Int) ≤ 60) && decide ((P.length : Int) ≤ 8))) := hN
        clear hN
        by_cases h60 : (s.size : Int) ≤ 60
        · go_wp2_with fail
          go_ret2
          exact ⟨_, ret_two rfl (val_bool (by rw [HNN.out]; simp [h60])), HN.out HALL.out, hb⟩
        · have d60 : decide ((s.size : Int) ≤ 60) = false := by simp; omega
          go_wp2_with fail
          go_ret2
          exact ⟨_, ret_two rfl (val_bool (by rw [HNN.out, d60]; simp)), HN.out HALL.out, hb⟩

/-- A name that data may have. -/
def targB (l : List UInt8) : Bool := nameB l && ((labelsOf l).all (fun x => !(x == [42])) && !(l == []))

set_option maxRecDepth 20000 in
set_option maxHeartbeats 1000000 in
theorem l3Target_any (s : ByteArray) (w : World) (hs : s.size ≤ 4294967280) :
    Calls Tryd.prog 22 #[.string s] w fun e w' => e = .returned (.bool (targB s.data.toList)) ∧ Below w.heap.size w w' := by
  go_enter Tryd.func22, Tryd.ntmps22
  go_wp2_with fail
  refine (l1Labels_full s w hs).mono ?_
  rintro e w1 ⟨v, rfl, hown, hb⟩
  obtain ⟨P, hP⟩ : ∃ P, P = labsV s.data.toList := ⟨_, rfl⟩
  rw [← hP] at hown
  have hlenP : P.length ≤ 4294967290 := by
    have h1 := cut_length_le 46 s.data.toList
    have h2 : s.data.toList.length = s.size := by simp
    rw [hP]; unfold labsV
    split
    · simp
    · split
      · omega
      · simp
  obtain ⟨a, cap, hv, hcap, hmax, HROW⟩ := row_value (row_own hown)
  rw [hv]
  have HP : Hid (P = labsV s.data.toList) := hP
  clear hown hv hP
  obtain ⟨b0, hb0⟩ : ∃ b, b = nameB s.data.toList := ⟨_, rfl⟩
  rw [← hb0]
  have HB : Hid (b0 = nameB s.data.toList) := hb0
  clear hb0
  go_wp2_with fail
  go_loop [4, 14] (fun vb i => ∃ k : Nat, k ≤ P.length ∧ i = .int .i64 (k : Int) ∧ vb = .bool (b0 && (P.take k).all (fun x => !(x == [42])))) (fun _ i => P.length - (intOf i).toNat)
  case atStart => exact ⟨0, Nat.zero_le _, rfl, by simp⟩
  case round =>
    obtain ⟨k, hk, rfl, rfl⟩ := hrel
    by_cases hlt : k < P.length
    · obtain ⟨bb, o, ha, hbl, hc⟩ := HROW.out (by omega)
      rw [ha]
      have hcx := hc k hlt
      have ht : (P.take (k + 1)).all (fun x => !(x == [42])) = ((P.take k).all (fun x => !(x == [42])) && !((P[k]'hlt) == [42])) := by
        rw [List.take_succ_eq_append_getElem hlt]; simp only [List.all_append, List.all_cons, List.all_nil, Bool.and_true]
      have HT : Hid ((P.take (k + 1)).all (fun x => !(x == [42])) = ((P.take k).all (fun x => !(x == [42])) && !((P[k]'hlt) == [42]))) := ht
      clear ht
      obtain ⟨x, hx⟩ : ∃ x, x = P[k]'hlt := ⟨_, rfl⟩
      rw [← hx] at hcx HT
      unfold S at hcx
      clear hc hx
      obtain ⟨c, hcc⟩ : ∃ c, c = (b0 && (P.take k).all (fun x => !(x == [42]))) := ⟨_, rfl⟩
      rw [← hcc]
      have HC : Hid (c = (b0 && (P.take k).all (fun x => !(x == [42])))) := hcc
      clear hcc
      cases c with
      | false =>
        go_wp2_with fail
        go_round
        case rel => exact ⟨k + 1, by omega, by go_num, congrArg Value.bool (by rw [HT.out, ← Bool.and_assoc, ← HC.out]; rfl)⟩
        case measure => simp [intOf]; omega
      | true =>
        go_wp2_with fail
        go_round
        case rel => exact ⟨k + 1, by omega, by go_num, congrArg Value.bool (by rw [HT.out, ← Bool.and_assoc, ← HC.out]; rfl)⟩
        case measure => simp [intOf]; omega
    · have hfull : P.take k = P := List.take_of_length_le (by omega)
      rw [hfull]
      obtain ⟨c, hcc⟩ : ∃ c, c = (b0 && P.all (fun x => !(x == [42]))) := ⟨_, rfl⟩
      rw [← hcc]
      have HC : Hid (targB s.data.toList = (c && !(s.data.toList == []))) := by
        unfold targB
        rw [hcc, HB.out]
        cases hn : nameB s.data.toList with
        | false => exact rfl
        | true => rw [HP.out, labsV_name hn, Bool.true_and, Bool.true_and]; exact rfl
      clear hcc hfull
      cases c with
      | false =>
        go_wp2_with fail
        go_ret
        exact ⟨ret_bool (by rw [HC.out]; rfl), hb⟩
      | true =>
        go_wp2_with fail
        go_ret
        exact ⟨ret_bool (by rw [HC.out, ByteArray.toList_eq]; cases s.data.toList <;> rfl), hb⟩
end Go.Proofs.YtoanloballaclaaDoor
