import Derived.Test.YtoanloballaclaaDoorSRec
namespace Go.Proofs.YtoanloballaclaaDoor
open Go.RowKit

/-- A number of so many at most. -/
def numIn (l : List UInt8) (hi : Int) : Bool := decide (0 ≤ intV l) && decide (intV l ≤ hi)
def txtB (c : UInt8) : Bool := decide (32 ≤ c.toNat) && decide (c.toNat ≤ 126)
/-- The bytes of data of a type, none where it is not as its type asks. -/
def dataA (l : List UInt8) : Option (List UInt8) := if (cut 46 l).all (fun x => numIn x 255) = true ∧ (cut 46 l).length = 4 then some ((cut 46 l).map (fun x => UInt8.ofNat (intV x).toNat)) else none
def dataN (l : List UInt8) : Option (List UInt8) := if targB l = true then some (wireL (labelsOf l)) else none
def dataS (l : List UInt8) : Option (List UInt8) := if numIn l 4294967295 = true then some (beB (intV l) 4) else none
def dataM (l : List UInt8) : Option (List UInt8) := match cut 32 l with
  | [a, b] => if numIn a 65535 = true ∧ targB b = true then some (beB (intV a) 2 ++ wireL (labelsOf b)) else none
  | _ => none
def dataT (l : List UInt8) : Option (List UInt8) := if l.all txtB = true ∧ l.length ≤ 30 then some (UInt8.ofNat l.length :: l) else none
def dataP (k : Int) (l : List UInt8) : Option (List UInt8) :=
  if k = 1 then dataA l else if k = 2 ∨ k = 5 then dataN l else if k = 6 then dataS l else if k = 15 then dataM l else if k = 16 then dataT l else none

/-- What l3Bytes tells. -/
def BytesRes (D : Option (List UInt8)) (e : Ending) : Prop := ∃ x : ByteArray, e = .returned (.tuple #[.string x, .bool D.isSome]) ∧ ∀ y, D = some y → x = ⟨y.toArray⟩
theorem br_none {D : Option (List UInt8)} {x : ByteArray} (h : D = none) : BytesRes D (.returned (.tuple #[.string x, .bool false])) := ⟨x, by rw [h]; rfl, fun y hy => by rw [h] at hy; cases hy⟩
theorem br_some {D : Option (List UInt8)} {x : ByteArray} {y : List UInt8} (h : D = some y) (hx : x.data.toList = y) : BytesRes D (.returned (.tuple #[.string x, .bool true])) := ⟨x, by rw [h]; rfl, fun z hz => by rw [h] at hz; cases hz; exact data_eq hx⟩

theorem intV_range (l : List UInt8) : -1 ≤ intV l ∧ intV l < 10000000000 := by
  unfold intV
  split
  · rename_i h
    have h1 := decV_lt l l.length (by rw [List.take_length]; exact h.2.2.2)
    rw [List.take_length] at h1
    have h2 := pow10 (k := l.length) h.2.1
    omega
  · omega

set_option maxRecDepth 20000 in
set_option maxHeartbeats 1000000 in
theorem bytesS (s : ByteArray) (w : World) (hs : s.size ≤ 1048576) :
    Calls Tryd.prog 10 #[.int .i64 6, .string s] w fun e w' => BytesRes (dataS s.data.toList) e ∧ Below w.heap.size w w' := by
  have hr := intV_range s.data.toList
  go_enter Tryd.func10, Tryd.ntmps10
  go_wp2_with fail
  refine (l1Int_any s w (by omega)).mono ?_
  rintro e w1 ⟨rfl, rfl⟩
  obtain ⟨n, hn⟩ : ∃ n, n = intV s.data.toList := ⟨_, rfl⟩
  rw [← hn] at hr ⊢
  have HN : Hid (n = intV s.data.toList) := hn
  clear hn
  have hr1 := hr.1
  have hr2 := hr.2
  clear hr
  go_wp2_with fail
  refine (l3Number_any n 4 _ (by omega) (by omega) (by omega)).mono ?_
  rintro e w2 ⟨rfl, hb2⟩
  obtain ⟨y, hy⟩ : ∃ y, y = beB n 4 := ⟨_, rfl⟩
  rw [← hy]
  have HY : Hid (y = beB n 4) := hy
  clear hy
  go_wp2_with fail
  refine (l1In_any _ _ _ _).mono ?_
  rintro e w3 ⟨rfl, rfl⟩
  cases hd : (decide ((0 : Int) ≤ n) && decide (n ≤ 4294967295)) with
  | false =>
    have HR : Hid (dataS s.data.toList = none) := if_neg (by unfold numIn; rw [← HN.out, hd]; simp)
    clear hd
    go_wp2_with fail
    go_ret2
    exact ⟨br_none HR.out, hb2⟩
  | true =>
    have HR : Hid (dataS s.data.toList = some y) := by
      have h : dataS s.data.toList = some (beB (intV s.data.toList) 4) := if_pos (by unfold numIn; rw [← HN.out, hd])
      rw [HY.out, HN.out]; exact h
    clear hd
    go_wp2_with fail
    go_ret2
    exact ⟨br_some HR.out rfl, hb2⟩

set_option maxRecDepth 20000 in
set_option maxHeartbeats 1000000 in
theorem bytesN (k : Int) (s : ByteArray) (w : World) (hs : s.size ≤ 1048576) (hk : k = 2 ∨ k = 5) :
    Calls Tryd.prog 10 #[.int .i64 k, .string s] w fun e w' => BytesRes (dataN s.data.toList) e ∧ Below w.heap.size w w' := by
  rcases hk with rfl | rfl
  all_goals
    cases ht : targB s.data.toList with
    | false =>
      have HT : Hid (targB s.data.toList = false) := ht
      have HR : Hid (dataN s.data.toList = none) := if_neg (by rw [ht]; simp)
      clear ht
      go_enter Tryd.func10, Tryd.ntmps10
      go_wp2_with fail
      refine (l3Target_any s w (by omega)).mono ?_
      rintro e w1 ⟨rfl, hb1⟩
      rw [HT.out]
      go_wp2_with fail
      go_ret2
      exact ⟨br_none HR.out, hb1⟩
    | true =>
      have HT : Hid (targB s.data.toList = true) := ht
      have HNM : Hid (nameB s.data.toList = true) := by
        unfold targB at ht; simp only [Bool.and_eq_true] at ht; exact ht.1
      have HR : Hid (dataN s.data.toList = some (wireL (labelsOf s.data.toList))) := if_pos ht
      clear ht
      go_enter Tryd.func10, Tryd.ntmps10
      go_wp2_with fail
      refine (l3Target_any s w (by omega)).mono ?_
      rintro e w1 ⟨rfl, hb1⟩
      rw [HT.out]
      go_wp2_with fail
      refine (l2Bytes_any s w1 (by omega) HNM).mono ?_
      rintro e w2 ⟨rfl, hb2⟩
      go_wp2_with fail
      go_ret2
      exact ⟨br_some HR.out rfl, hb1.trans (hb2.mono hb1.size)⟩

set_option maxRecDepth 20000 in
set_option maxHeartbeats 1000000 in
theorem bytesO (k : Int) (s : ByteArray) (w : World) (h1 : (k == 1) = false) (h2 : (k == 2) = false) (h5 : (k == 5) = false) (h6 : (k == 6) = false) (h15 : (k == 15) = false) (h16 : (k == 16) = false) :
    Calls Tryd.prog 10 #[.int .i64 k, .string s] w fun e w' => BytesRes none e ∧ Below w.heap.size w w' := by
  go_enter Tryd.func10, Tryd.ntmps10
  go_wp2_with fail
  go_ret2
  exact ⟨br_none rfl, Below.refl _ _⟩

theorem txt_step {l : List UInt8} {k : Nat} (h : (l.take k).all txtB = true) (hk : k < l.length) (ho : txtB l[k] = true) : (l.take (k + 1)).all txtB = true := by
  rw [List.take_succ_eq_append_getElem hk]; simp only [List.all_append, h, List.all_cons, ho, List.all_nil, Bool.and_true]
theorem txt_full {l : List UInt8} {k : Nat} (h : (l.take k).all txtB = true) (hk : ¬ k < l.length) : l.all txtB = true := by
  rwa [List.take_of_length_le (by omega)] at h
theorem txt_not {l : List UInt8} {k : Nat} (hk : k < l.length) (ho : txtB l[k] = false) : l.all txtB = false := by
  rw [Bool.eq_false_iff]; intro h
  have := List.all_eq_true.1 h l[k] (List.getElem_mem _)
  rw [ho] at this; cases this

set_option maxRecDepth 20000 in
set_option maxHeartbeats 1000000 in
theorem bytesT (s : ByteArray) (w : World) (hs : s.size ≤ 1048576) :
    Calls Tryd.prog 10 #[.int .i64 16, .string s] w fun e w' => BytesRes (dataT s.data.toList) e ∧ Below w.heap.size w w' := by
  have HLEN : Hid (s.data.toList.length = s.size) := (by simp : s.data.toList.length = s.size)
  go_enter Tryd.func10, Tryd.ntmps10
  go_wp2_with fail
  go_loop [13] (fun i => ∃ k : Nat, k ≤ s.size ∧ i = .int .i64 (k : Int) ∧ Hid ((s.data.toList.take k).all txtB = true)) (fun i => s.size - (intOf i).toNat)
  case atStart => exact ⟨0, Nat.zero_le _, rfl, rfl⟩
  case round =>
    obtain ⟨k, hk, rfl, HA⟩ := hrel
    by_cases hlt : k < s.size
    · have hkl : k < s.data.toList.length := by rw [HLEN.out]; exact hlt
      have hc255 : s[k].toNat < 256 := s[k].toNat_lt
      have HNO : Hid (txtB s[k] = false → dataT s.data.toList = none) := fun h => if_neg (fun hc => by have := txt_not hkl h; rw [this] at hc; cases hc.1)
      have HYES : Hid (txtB s[k] = true → (s.data.toList.take (k + 1)).all txtB = true) := fun h => txt_step HA.out hkl h
      rcases (show (s[k].toNat : Int) < 32 ∨ (126 : Int) < (s[k].toNat : Int) ∨ ((32 : Int) ≤ (s[k].toNat : Int) ∧ (s[k].toNat : Int) ≤ 126) by omega) with g | g | ⟨g1, g2⟩
      · have HR : Hid (dataT s.data.toList = none) := HNO.out (by unfold txtB; rw [decide_eq_false (by omega)]; rfl)
        go_wp2_with fail
        go_ret2
        exact ⟨br_none HR.out, Below.refl _ _⟩
      · have HR : Hid (dataT s.data.toList = none) := HNO.out (by unfold txtB; rw [decide_eq_false (p := s[k].toNat ≤ 126) (by omega), Bool.and_false])
        go_wp2_with fail
        go_ret2
        exact ⟨br_none HR.out, Below.refl _ _⟩
      · have HAN : Hid ((s.data.toList.take (k + 1)).all txtB = true) := HYES.out (by unfold txtB; rw [decide_eq_true (by omega), decide_eq_true (by omega)]; rfl)
        go_wp2_with fail
        go_round
        case rel => exact ⟨k + 1, by omega, by go_num, HAN⟩
        case measure => simp [intOf]; omega
    · have HALL : Hid (s.data.toList.all txtB = true) := txt_full HA.out (by rw [HLEN.out]; exact hlt)
      have hconv := byte_new (w := w) (n := (s.size : Int) % 256) (k := s.size % 256) (by omega) (by omega)
      by_cases h30 : s.size ≤ 30
      · have g30 : (s.size : Int) ≤ 30 := by omega
        have hconv2 := byte_new (w := w) (n := (s.size : Int)) (k := s.size) rfl (by omega)
        have HR : Hid (dataT s.data.toList = some (UInt8.ofNat s.size :: s.data.toList)) := by
          have h : dataT s.data.toList = some (UInt8.ofNat s.data.toList.length :: s.data.toList) := if_pos ⟨HALL.out, by rw [HLEN.out]; exact h30⟩
          rw [HLEN.out] at h; exact h
        go_wp2_with fail
        go_ret2
        exact ⟨br_some HR.out (by simp), (Below.refl _ _).alloc (Nat.le_refl _) _⟩
      · have g30 : decide ((s.size : Int) ≤ 30) = false := by simp; omega
        have HR : Hid (dataT s.data.toList = none) := if_neg (fun h => h30 (by have := h.2; rw [HLEN.out] at this; exact this))
        go_wp2_with fail
        go_ret2
        exact ⟨br_none HR.out, (Below.refl _ _).alloc (Nat.le_refl _) _⟩

/-- The bytes of so many pieces. -/
def accA (P : List (List UInt8)) : List UInt8 := P.map (fun x => UInt8.ofNat (intV x).toNat)
theorem accA_step (P : List (List UInt8)) (k : Nat) (h : k < P.length) : accA (P.take (k + 1)) = accA (P.take k) ++ [UInt8.ofNat (intV P[k]).toNat] := by
  unfold accA; rw [List.take_succ_eq_append_getElem h, List.map_append]; rfl
theorem num_step {P : List (List UInt8)} {k : Nat} (h : (P.take k).all (fun x => numIn x 255) = true) (hk : k < P.length) (ho : numIn P[k] 255 = true) : (P.take (k + 1)).all (fun x => numIn x 255) = true := by
  rw [List.take_succ_eq_append_getElem hk]; simp only [List.all_append, h, List.all_cons, ho, List.all_nil, Bool.and_true]
theorem num_not {P : List (List UInt8)} {k : Nat} (hk : k < P.length) (ho : numIn P[k] 255 = false) : P.all (fun x => numIn x 255) = false := by
  rw [Bool.eq_false_iff]; intro h
  have := List.all_eq_true.1 h P[k] (List.getElem_mem _)
  rw [ho] at this; cases this
theorem beB_one {n : Int} (h0 : 0 ≤ n) (h1 : n ≤ 255) : beB n 1 = [UInt8.ofNat n.toNat] := by
  have e : n % 256 = n := by omega
  simp [beB, e]

set_option maxRecDepth 20000 in
set_option maxHeartbeats 1000000 in
theorem bytesA (s : ByteArray) (w : World) (hs : s.size ≤ 1048576) :
    Calls Tryd.prog 10 #[.int .i64 1, .string s] w fun e w' => BytesRes (dataA s.data.toList) e ∧ Below w.heap.size w w' := by
  have HLEN : Hid (s.data.toList.length = s.size) := (by simp : s.data.toList.length = s.size)
  go_enter Tryd.func10, Tryd.ntmps10
  go_wp2_with fail
  refine (l1Split_any s 46 _ w (by omega) rfl).mono ?_
  rintro e w1 ⟨v, rfl, hown, hb⟩
  obtain ⟨a, cap, hv, hcap, hmax, HROW⟩ := row_value (row_own hown)
  rw [hv]
  have hpl : (cut 46 s.data.toList).length ≤ 1048577 := by have := cut_length_le 46 s.data.toList; rw [HLEN.out] at this; omega
  have HPC : Hid (∀ p ∈ cut 46 s.data.toList, p.length ≤ 1048576) := fun p hp => by have := cut_piece_le 46 _ p hp; rw [HLEN.out] at this; omega
  have HDA : Hid (dataA s.data.toList = if (cut 46 s.data.toList).all (fun x => numIn x 255) = true ∧ (cut 46 s.data.toList).length = 4 then some (accA (cut 46 s.data.toList)) else none) := rfl
  obtain ⟨P, hP⟩ : ∃ P, P = cut 46 s.data.toList := ⟨_, rfl⟩
  rw [← hP] at HDA HPC hpl hcap HROW ⊢
  clear hown hv hP
  go_wp2_with fail
  go_loopw [6, 21] (fun vo i wr => ∃ k : Nat, k ≤ P.length ∧ i = .int .i64 (k : Int) ∧ vo = .string ⟨(accA (P.take k)).toArray⟩ ∧ (accA (P.take k)).length ≤ k ∧ Hid ((P.take k).all (fun x => numIn x 255) = true) ∧ Below w.heap.size w wr ∧ Below w1.heap.size w1 wr) (fun _ i _ => P.length - (intOf i).toNat)
  case atStart => exact ⟨0, Nat.zero_le _, rfl, rfl, Nat.le_refl _, rfl, hb, Below.refl _ _⟩
  case round =>
    obtain ⟨k, hk, rfl, rfl, hal, HA, hbr, hb1⟩ := hrel
    by_cases hlt : k < P.length
    · obtain ⟨b, o, ha, hbl, hc⟩ := HROW.out (by omega)
      rw [ha]
      have hcx := hc k hlt
      rw [← hb1.cell (p := ⟨b, o + k, none⟩) hbl] at hcx
      have hxl : (⟨(P[k]'hlt).toArray⟩ : ByteArray).size ≤ 4294967280 := by rw [size_list]; have := HPC.out _ (List.getElem_mem hlt); omega
      have HNO : Hid (numIn (P[k]'hlt) 255 = false → dataA s.data.toList = none) := fun h => by rw [HDA.out]; exact if_neg (fun hc => by rw [num_not hlt h] at hc; cases hc.1)
      have HYES : Hid (numIn (P[k]'hlt) 255 = true → (P.take (k + 1)).all (fun x => numIn x 255) = true) := fun h => num_step HA.out hlt h
      have HACC : Hid (accA (P.take (k + 1)) = accA (P.take k) ++ [UInt8.ofNat (intV (P[k]'hlt)).toNat]) := accA_step P k hlt
      obtain ⟨x, hx⟩ : ∃ x, x = P[k]'hlt := ⟨_, rfl⟩
      rw [← hx] at hcx hxl HNO HYES HACC
      unfold S at hcx
      clear hc hx
      obtain ⟨z, hz⟩ : ∃ z, z = accA (P.take k) := ⟨_, rfl⟩
      rw [← hz] at hal HACC ⊢
      clear hz
      have hr := intV_range x
      go_wp2_with fail
      refine (l1Int_any _ _ hxl).mono ?_
      rintro e w2 ⟨rfl, rfl⟩
      rw [show (⟨x.toArray⟩ : ByteArray).data.toList = x from rfl]
      obtain ⟨n, hn⟩ : ∃ n, n = intV x := ⟨_, rfl⟩
      rw [← hn] at hr HACC ⊢
      have HN : Hid (n = intV x) := hn
      have hr1 := hr.1
      have hr2 := hr.2
      clear hn hr
      go_wp2_with fail
      refine (l1In_any _ _ _ _).mono ?_
      rintro e w3 ⟨rfl, rfl⟩
      cases hd : (decide ((0 : Int) ≤ n) && decide (n ≤ 255)) with
      | false =>
        have HR : Hid (dataA s.data.toList = none) := HNO.out (by unfold numIn; rw [← HN.out]; exact hd)
        clear hd
        go_wp2_with fail
        go_ret2
        exact ⟨br_none HR.out, hbr⟩
      | true =>
        have HAN : Hid ((P.take (k + 1)).all (fun x => numIn x 255) = true) := HYES.out (by unfold numIn; rw [← HN.out]; exact hd)
        have hd2 : 0 ≤ n ∧ n ≤ 255 := by simpa using hd
        have HB1 : Hid (beB n 1 = [UInt8.ofNat n.toNat]) := beB_one hd2.1 hd2.2
        clear hd hd2
        go_wp2_with fail
        refine (l3Number_any n 1 _ (by omega) (by omega) (by omega)).mono ?_
        rintro e w4 ⟨rfl, hb4⟩
        rw [HB1.out]
        go_wp2_with fail
        go_roundw
        case rel => exact ⟨k + 1, by omega, by go_num, val_strM (by rw [HACC.out]; simp), by rw [HACC.out]; simp; omega, HAN, hbr.trans (hb4.mono hbr.size), hb1.trans (hb4.mono hb1.size)⟩
        case measure => simp [intOf]; omega
    · have hfull : P.take k = P := List.take_of_length_le (by omega)
      have hall := HA.out
      rw [hfull] at hall
      rw [hfull] at hal ⊢
      obtain ⟨z, hz⟩ : ∃ z, z = accA P := ⟨_, rfl⟩
      rw [← hz] at hal HDA ⊢
      by_cases h4 : P.length = 4
      · have HR : Hid (dataA s.data.toList = some z) := by rw [HDA.out]; exact if_pos ⟨hall, h4⟩
        have e4 : ((P.length : Int) == 4) = true := by rw [h4]; rfl
        clear hz hall hfull h4
        go_wp2_with fail
        go_ret2
        exact ⟨br_some HR.out rfl, hbr⟩
      · have HR : Hid (dataA s.data.toList = none) := by rw [HDA.out]; exact if_neg (fun h => h4 h.2)
        have e4 : ((P.length : Int) == 4) = false := by rw [beq_eq_false_iff_ne]; omega
        clear hz hall hfull h4
        go_wp2_with fail
        go_ret2
        exact ⟨br_none HR.out, hbr⟩
end Go.Proofs.YtoanloballaclaaDoor
