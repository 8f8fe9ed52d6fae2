import Derived.Test.YthmneeahncojjaaGreatDoorRBytes
import Derived.Test.YthmneeahncojjaaGreatDoorRTarg
import Derived.Test.YthmneeahncojjaaGreatDoorRtP
import Derived.Test.YthmneeahncojjaaGreatDoorListT
namespace Go.Proofs.YthmneeahncojjaaGreatDoor
open Go.RowKit

set_option maxRecDepth 20000 in
set_option maxHeartbeats 1000000 in
theorem numberIn_any (s : ByteArray) (w : World) (hs : s.size ≤ 4) :
    Calls Tryz.prog 85 #[.string s] w fun e w' => e = .returned (.int .i64 ((rdN s.data.toList : Nat) : Int)) ∧ w' = w := by
  have HLEN : Hid (s.data.toList.length = s.size) := (by simp : s.data.toList.length = s.size)
  go_enter Tryz.func85, Tryz.ntmps85
  go_wp2_with fail
  go_loop [3, 7] (fun n i => ∃ k : Nat, k ≤ s.size ∧ i = .int .i64 (k : Int) ∧ n = .int .i64 ((rdN (s.data.toList.take k) : Nat) : Int)) (fun _ i => s.size - (intOf i).toNat)
  case atStart => exact ⟨0, Nat.zero_le _, rfl, rfl⟩
  case round =>
    obtain ⟨k, hk, rfl, rfl⟩ := hrel
    have hlt4 := rdN_lt s.data.toList k (by rw [HLEN.out]; exact hk)
    have hp4 : 256 ^ k ≤ 4294967296 := Nat.le_trans (Nat.pow_le_pow_right (by omega) (show k ≤ 4 by omega)) (by decide)
    have hv4 : rdN (s.data.toList.take k) < 4294967296 := by omega
    clear hlt4 hp4
    by_cases hlt : k < s.size
    · have hkl : k < s.data.toList.length := by rw [HLEN.out]; exact hlt
      have hc255 : s[k].toNat < 256 := s[k].toNat_lt
      have HST : Hid (rdN (s.data.toList.take (k + 1)) = rdN (s.data.toList.take k) * 256 + s[k].toNat) := rdN_snoc s.data.toList k hkl
      obtain ⟨v, hv⟩ : ∃ v, v = rdN (s.data.toList.take k) := ⟨_, rfl⟩
      rw [← hv] at hv4 HST ⊢
      clear hv
      go_wp2_with fail
      go_round
      case rel => exact ⟨k + 1, by omega, by go_num, congrArg (Value.int .i64) (by rw [HST.out]; omega)⟩
      case measure => simp [intOf]; omega
    · have hfull : s.data.toList.take k = s.data.toList := List.take_of_length_le (by rw [HLEN.out]; omega)
      rw [hfull] at hv4 ⊢
      obtain ⟨v, hv⟩ : ∃ v, v = rdN s.data.toList := ⟨_, rfl⟩
      rw [← hv] at hv4 ⊢
      have HV : Hid (v = rdN s.data.toList) := hv
      clear hv hfull
      go_wp2_with fail
      go_ret
      exact ⟨ret_int (by rw [HV.out]), rfl⟩

/-- What unpackData tells of bytes: the value, and the text that it stands for. -/
def UnV (k : Int) (b : List UInt8) (v : Value) (z : List UInt8) : Prop :=
  (k = 1 ∧ b.length = 4 ∧ v = addrV b ∧ z = joinD (b.map (fun c => numL c.toNat))) ∨ ((k = 2 ∨ k = 5) ∧ z.length ≤ 60 ∧ v = hostV ⟨z.toArray⟩) ∨
  (k = 6 ∧ rdN b < 4294967296 ∧ v = serV ((rdN b : Nat) : Int) ∧ z = numL (rdN b)) ∨
  (k = 15 ∧ ∃ nm : List UInt8, nm.length ≤ 60 ∧ rdN (b.take 2) < 4294967296 ∧ v = exV ((rdN (b.take 2) : Nat) : Int) ⟨nm.toArray⟩ ∧ z = numL (rdN (b.take 2)) ++ (32 :: nm)) ∨ (k = 16 ∧ z = b.drop 1 ∧ v = noteV ⟨z.toArray⟩)
def UnRes (w : World) (k : Int) (b : List UInt8) (e : Ending) (w' : World) : Prop :=
  ∃ v, e = .returned (.tuple #[v, .bool (candI k b).isSome]) ∧ (∀ z, candI k b = some z → UnV k b v z) ∧ Below w.heap.size w w'
theorem un_no {w w' : World} {k : Int} {b : List UInt8} {v : Value} (h : candI k b = none) (hb : Below w.heap.size w w') : UnRes w k b (.returned (.tuple #[v, .bool false])) w' :=
  ⟨v, by rw [h]; rfl, fun z hz => (by rw [h] at hz; cases hz), hb⟩
theorem un_yes {w w' : World} {k : Int} {b z : List UInt8} {v : Value} (h : candI k b = some z) (hv : UnV k b v z) (hb : Below w.heap.size w w') : UnRes w k b (.returned (.tuple #[v, .bool true])) w' :=
  ⟨v, by rw [h]; rfl, fun y hy => (by rw [h] at hy; cases hy; exact hv), hb⟩
theorem rdN_lt4 {l : List UInt8} (h : l.length ≤ 4) : rdN l < 4294967296 := by
  have h1 := rdN_lt l l.length (Nat.le_refl _)
  rw [List.take_length] at h1
  exact Nat.lt_of_lt_of_le h1 (Nat.le_trans (Nat.pow_le_pow_right (by omega) h) (by decide))
theorem tk_name {l : List UInt8} {a : Int} {nm : List UInt8} {e : Nat} {q : List Nat} (h : tkI l a = some (nm, e, q)) : nm.length ≤ 60 ∧ a < (l.length : Int) := by
  unfold tkI at h
  split at h
  · rename_i hc
    refine ⟨?_, hc.2.2⟩
    unfold takeN nmR at h
    split at h
    · cases h
    · split at h
      · rename_i hn
        simp only [Option.some.injEq, Prod.mk.injEq] at h
        rw [← h.1]
        rw [nameOf_eq, Bool.and_eq_true, decide_eq_true_eq] at hn; exact hn.2
      · cases h
  · cases h

set_option maxRecDepth 20000 in
set_option maxHeartbeats 1000000 in
theorem unpackAddress_any (s : ByteArray) (w : World) :
    Calls Tryz.prog 60 #[.string s] w fun e w' => UnRes w 1 s.data.toList e w' := by
  have HLEN : Hid (s.data.toList.length = s.size) := (by simp : s.data.toList.length = s.size)
  have HC : Hid (candI 1 s.data.toList = if s.data.toList.length = 4 then some (joinD (s.data.toList.map (fun c => numL c.toNat))) else none) := if_pos rfl
  by_cases h4 : s.size = 4
  · have e4 : ((s.size : Int) != 4) = false := by rw [h4]; rfl
    have h4a : s.size ≤ 4 := by omega
    have h4b : 4 ≤ s.size := by omega
    have HY : Hid (candI 1 s.data.toList = some (joinD (s.data.toList.map (fun c => numL c.toNat)))) := by rw [HC.out]; exact if_pos (by rw [HLEN.out]; exact h4)
    have HL4 : Hid (s.data.toList.length = 4) := by rw [HLEN.out]; exact h4
    have HBR0 : Hid (BRow (w.alloc (.cells #[.int .u8 0, .int .u8 0, .int .u8 0, .int .u8 0] 104)) w.heap.size (s.data.toList.take 0 ++ zeros 4)) := brow_zero _ _
    clear h4
    go_enter Tryz.func60, Tryz.ntmps60
    go_wp2_with fail
    go_loopw [9] (fun i wr => ∃ k : Nat, k ≤ 4 ∧ i = .int .i64 (k : Int) ∧ Hid (BRow wr w.heap.size (s.data.toList.take k ++ zeros (4 - k))) ∧ Below w.heap.size w wr) (fun i _ => 4 - (intOf i).toNat)
    case atStart => exact ⟨0, by omega, rfl, HBR0, (Below.refl _ _).alloc (Nat.le_refl _) _⟩
    case round =>
      obtain ⟨k, hk, rfl, HBR, hb⟩ := hrel
      clear HBR0
      by_cases hlt : k < 4
      · have hkl : k < s.data.toList.length := by rw [HL4.out]; exact hlt
        have hks : k < s.size := by omega
        have hlz : k < (s.data.toList.take k ++ zeros (4 - k)).length := by unfold zeros; rw [List.length_append, List.length_replicate, List.length_take]; omega
        have hset := HBR.out.set k hlz s[k]
        have hse : (s.data.toList.take k ++ zeros (4 - k)).set k s[k] = s.data.toList.take (k + 1) ++ zeros (4 - (k + 1)) := by
          have h3 := set_next (a := s.data.toList.take k) (n := 4 - (k + 1)) (c := s[k])
          rw [show 4 - (k + 1) + 1 = 4 - k by omega, List.length_take, Nat.min_eq_left (by omega)] at h3
          rw [h3, List.take_succ_eq_append_getElem hkl]; rfl
        rw [hse] at hset
        have HSET : Hid (BRow (wr.setCell ⟨w.heap.size, k, none⟩ (.int .u8 (s[k].toNat : Int))) w.heap.size (s.data.toList.take (k + 1) ++ zeros (4 - (k + 1)))) := hset
        have hcz := (HBR.out.2 k hlz).1
        have hfz := (HBR.out.2 k hlz).2
        obtain ⟨u, hu⟩ : ∃ u, u = (s.data.toList.take k ++ zeros (4 - k))[k]'hlz := ⟨_, rfl⟩
        rw [← hu] at hcz
        have hb3 : Below w.heap.size w (wr.setCell ⟨w.heap.size, k, none⟩ (.int .u8 (s[k].toNat : Int))) := hb.setCell (p := ⟨w.heap.size, k, none⟩) (Nat.le_refl _) _
        clear hset hse hu hlz
        go_wp2_with fail
        go_roundw
        case rel => exact ⟨k + 1, by omega, by go_num, HSET, hb3⟩
        case measure => simp [intOf]; omega
      · have hk4 : k = 4 := by omega
        subst hk4
        obtain ⟨a, b, c, d, hy⟩ := four_of HL4.out
        have hrow : BRow wr w.heap.size [a, b, c, d] := by have := HBR.out; rw [hy] at this; exact this
        have q0 : wr.cell? ⟨w.heap.size, 0, none⟩ = some (.int .u8 (a.toNat : Int)) := (hrow.2 0 (by simp)).1
        have q1 : wr.cell? ⟨w.heap.size, 1, none⟩ = some (.int .u8 (b.toNat : Int)) := (hrow.2 1 (by simp)).1
        have q2 : wr.cell? ⟨w.heap.size, 2, none⟩ = some (.int .u8 (c.toNat : Int)) := (hrow.2 2 (by simp)).1
        have q3 : wr.cell? ⟨w.heap.size, 3, none⟩ = some (.int .u8 (d.toNat : Int)) := (hrow.2 3 (by simp)).1
        have HYY : Hid (s.data.toList = [a, b, c, d]) := hy
        clear hy hrow hlt
        go_wp2_with fail
        go_ret2
        exact un_yes HY.out (.inl ⟨rfl, HL4.out, by rw [HYY.out]; rfl, rfl⟩) hb
  · have e4 : ((s.size : Int) != 4) = true := by simp; omega
    have HN : Hid (candI 1 s.data.toList = none) := by rw [HC.out]; exact if_neg (by rw [HLEN.out]; exact h4)
    clear h4
    go_enter Tryz.func60, Tryz.ntmps60
    go_wp2_with fail
    go_ret2
    exact un_no HN.out ((Below.refl _ _).alloc (Nat.le_refl _) _)

set_option maxRecDepth 20000 in
set_option maxHeartbeats 400000 in
theorem unpackSerial_any (s : ByteArray) (w : World) :
    Calls Tryz.prog 62 #[.string s] w fun e w' => UnRes w 6 s.data.toList e w' := by
  have HLEN : Hid (s.data.toList.length = s.size) := (by simp : s.data.toList.length = s.size)
  have HC : Hid (candI 6 s.data.toList = if s.data.toList.length = 4 then some (numL (rdN s.data.toList)) else none) := by unfold candI; rw [if_neg (by omega), if_neg (by omega)]; exact if_pos rfl
  by_cases h4 : s.size = 4
  · have e4 : ((s.size : Int) != 4) = false := by rw [h4]; rfl
    have h4a : s.size ≤ 4 := by omega
    have HY : Hid (candI 6 s.data.toList = some (numL (rdN s.data.toList))) := by rw [HC.out]; exact if_pos (by rw [HLEN.out]; exact h4)
    clear h4
    go_enter Tryz.func62, Tryz.ntmps62
    go_wp2_with fail
    refine (numberIn_any s w h4a).mono ?_
    rintro e w1 ⟨rfl, rfl⟩
    go_wp2_with fail
    go_ret2
    exact un_yes HY.out (.inr (.inr (.inl ⟨rfl, rdN_lt4 (by rw [HLEN.out]; exact h4a), rfl, rfl⟩))) (Below.refl _ _)
  · have e4 : ((s.size : Int) != 4) = true := by simp; omega
    have HN : Hid (candI 6 s.data.toList = none) := by rw [HC.out]; exact if_neg (by rw [HLEN.out]; exact h4)
    clear h4
    go_enter Tryz.func62, Tryz.ntmps62
    go_wp2_with fail
    go_ret2
    exact un_no HN.out (Below.refl _ _)

set_option maxRecDepth 20000 in
set_option maxHeartbeats 400000 in
theorem unpackNote_any (s : ByteArray) (w : World) (hs : s.size ≤ 1048576) :
    Calls Tryz.prog 64 #[.string s] w fun e w' => UnRes w 16 s.data.toList e w' := by
  have HC : Hid (candI 16 s.data.toList = if s.data.toList = [] then none else some (s.data.toList.drop 1)) := by unfold candI; rw [if_neg (by omega), if_neg (by omega), if_neg (by omega), if_neg (by omega)]; exact if_pos rfl
  by_cases h0 : s.data.toList = []
  · have HN : Hid (candI 16 s.data.toList = none) := by rw [HC.out]; exact if_pos h0
    obtain rfl : s = ⟨#[]⟩ := data_eq h0
    clear h0
    go_enter Tryz.func64, Tryz.ntmps64
    go_wp2_with fail
    go_ret2
    exact un_no HN.out (Below.refl _ _)
  · have e0 : (s.toList == []) = false := by rw [ByteArray.toList_eq]; simpa using h0
    have hsz : 1 ≤ s.size := by
      have h1 : s.data.toList.length = s.size := by simp
      have := List.length_pos_iff.2 h0; omega
    have HY : Hid (candI 16 s.data.toList = some (s.data.toList.drop 1)) := by rw [HC.out]; exact if_neg h0
    have HX : Hid (s.extract 1 s.size = ⟨(s.data.toList.drop 1).toArray⟩) := data_eq (by rw [Lib.extract_data, List.take_of_length_le (by rw [List.length_drop]; simp)])
    have hxl : (⟨(s.data.toList.drop 1).toArray⟩ : ByteArray).size ≤ 281474976710656 := by
      have h1 : s.data.toList.length = s.size := by simp
      rw [size_list, List.length_drop]; omega
    have HXL : Hid ((⟨(s.data.toList.drop 1).toArray⟩ : ByteArray).size ≤ 281474976710656) := hxl
    clear hxl
    obtain ⟨z, hz⟩ : ∃ z, z = s.data.toList.drop 1 := ⟨_, rfl⟩
    rw [← hz] at HY HX HXL
    have HZ : Hid (z = s.data.toList.drop 1) := hz
    clear h0 hz
    go_enter Tryz.func64, Tryz.ntmps64
    go_wp2_with fail
    rw [HX.out]
    refine (cloneR_any _ w HXL.out).mono ?_
    rintro e w1 ⟨rfl, hb⟩
    go_wp2_with fail
    go_ret2
    exact un_yes HY.out (.inr (.inr (.inr (.inr ⟨rfl, HZ.out, rfl⟩)))) hb

set_option maxRecDepth 20000 in
set_option maxHeartbeats 1000000 in
theorem unpackExchange_any (s : ByteArray) (w : World) (hE : EnvR w) :
    Calls Tryz.prog 63 #[.string s] w fun e w' => UnRes w 15 s.data.toList e w' := by
  have HC : Hid (candI 15 s.data.toList = (tkI s.data.toList 2).map (fun r => numL (rdN (s.data.toList.take 2)) ++ (32 :: r.1))) := by unfold candI; rw [if_neg (by omega), if_neg (by omega), if_neg (by omega)]; exact if_pos rfl
  have HT : Hid (Calls Tryz.prog 61 #[.string s, .int .i64 2] w fun e w' => e = .returned (tkVal (tkI s.data.toList 2)) ∧ Below w.heap.size w w') := iTakeName_any s 2 w (by omega) (by omega) hE.1
  cases hT : tkI s.data.toList 2 with
  | none =>
    have HN : Hid (candI 15 s.data.toList = none) := by rw [HC.out, hT]; exact rfl
    rw [hT] at HT
    unfold tkVal nmT nmE at HT
    clear hT
    go_enter Tryz.func63, Tryz.ntmps63
    go_wp2_with fail
    refine HT.out.mono ?_
    rintro e w1 ⟨rfl, hb⟩
    go_wp2_with fail
    go_ret2
    exact un_no HN.out hb
  | some r =>
    obtain ⟨nm, en, pl⟩ := r
    obtain ⟨hn60, h2⟩ := tk_name hT
    have hsz : s.data.toList.length = s.size := by simp
    have h2s : 2 ≤ s.size := by omega
    have HY : Hid (candI 15 s.data.toList = some (numL (rdN (s.data.toList.take 2)) ++ (32 :: nm))) := by rw [HC.out, hT]; exact rfl
    have HP : Hid (s.extract 0 2 = ⟨(s.data.toList.take 2).toArray⟩) := data_eq (by rw [Lib.extract_data]; simp)
    have HTL : Hid ((s.data.toList.take 2).length ≤ 2) := by rw [List.length_take]; exact Nat.min_le_left _ _
    have HNU : Hid (∀ W, Calls Tryz.prog 85 #[.string ⟨(s.data.toList.take 2).toArray⟩] W fun e w' => e = .returned (.int .i64 ((rdN (s.data.toList.take 2) : Nat) : Int)) ∧ w' = W) := fun W => numberIn_any ⟨(s.data.toList.take 2).toArray⟩ W (by rw [size_list]; have := HTL.out; omega)
    have HN60 : Hid (nm.length ≤ 60) := hn60
    rw [hT] at HT
    unfold tkVal nmT nmE at HT
    clear hT hsz h2 hn60
    go_enter Tryz.func63, Tryz.ntmps63
    go_wp2_with fail
    refine HT.out.mono ?_
    rintro e w1 ⟨rfl, hb⟩
    go_wp2_with fail
    rw [HP.out]
    refine (HNU.out _).mono ?_
    rintro e w2 ⟨rfl, rfl⟩
    go_wp2_with fail
    go_ret2
    exact un_yes HY.out (.inr (.inr (.inr (.inl ⟨rfl, nm, HN60.out, rdN_lt4 (by have := HTL.out; omega), rfl, rfl⟩)))) hb

set_option maxRecDepth 20000 in
set_option maxHeartbeats 1000000 in
theorem unpackData_any (k : Int) (s : ByteArray) (w : World) (hs : s.size ≤ 1048576) (hE : EnvR w) :
    Calls Tryz.prog 31 #[.int .i64 k, .string s] w fun e w' => UnRes w k s.data.toList e w' := by
  by_cases h1 : k = 1
  · subst h1
    go_enter Tryz.func31, Tryz.ntmps31
    go_wp2_with fail
    refine (unpackAddress_any s w).mono ?_
    rintro e w1 ⟨v, rfl, hv, hb⟩
    have HV : Hid (∀ z, candI 1 s.data.toList = some z → UnV 1 s.data.toList v z) := hv
    clear hv
    go_wp2_with fail
    go_ret2
    exact ⟨v, rfl, HV.out, hb⟩
  · by_cases h2 : k = 2 ∨ k = 5
    · have HC : Hid (candI k s.data.toList = (tkI s.data.toList 0).map (·.1)) := by unfold candI; rw [if_neg h1]; exact if_pos h2
      have HT : Hid (Calls Tryz.prog 61 #[.string s, .int .i64 0] w fun e w' => e = .returned (tkVal (tkI s.data.toList 0)) ∧ Below w.heap.size w w') := iTakeName_any s 0 w (by omega) (by omega) hE.1
      clear h1
      cases hT : tkI s.data.toList 0 with
      | none =>
        have HN : Hid (candI k s.data.toList = none) := by rw [HC.out, hT]; exact rfl
        rw [hT] at HT
        unfold tkVal nmT nmE at HT
        clear hT
        rcases h2 with rfl | rfl
        all_goals
          go_enter Tryz.func31, Tryz.ntmps31
          go_wp2_with fail
          refine HT.out.mono ?_
          rintro e w1 ⟨rfl, hb⟩
          go_wp2_with fail
          go_ret2
          exact un_no HN.out hb
      | some r =>
        obtain ⟨nm, en, pl⟩ := r
        have HN60 : Hid (nm.length ≤ 60) := (tk_name hT).1
        have HY : Hid (candI k s.data.toList = some nm) := by rw [HC.out, hT]; exact rfl
        rw [hT] at HT
        unfold tkVal nmT nmE at HT
        clear hT
        rcases h2 with rfl | rfl
        all_goals
          go_enter Tryz.func31, Tryz.ntmps31
          go_wp2_with fail
          refine HT.out.mono ?_
          rintro e w1 ⟨rfl, hb⟩
          go_wp2_with fail
          go_ret2
          exact un_yes HY.out (.inr (.inl ⟨by first | exact .inl rfl | exact .inr rfl, HN60.out, rfl⟩)) hb
    · by_cases h6 : k = 6
      · subst h6
        clear h1 h2
        go_enter Tryz.func31, Tryz.ntmps31
        go_wp2_with fail
        refine (unpackSerial_any s w).mono ?_
        rintro e w1 ⟨v, rfl, hv, hb⟩
        have HV : Hid (∀ z, candI 6 s.data.toList = some z → UnV 6 s.data.toList v z) := hv
        clear hv
        go_wp2_with fail
        go_ret2
        exact ⟨v, rfl, HV.out, hb⟩
      · by_cases h15 : k = 15
        · subst h15
          clear h1 h2 h6
          go_enter Tryz.func31, Tryz.ntmps31
          go_wp2_with fail
          refine (unpackExchange_any s w hE).mono ?_
          rintro e w1 ⟨v, rfl, hv, hb⟩
          have HV : Hid (∀ z, candI 15 s.data.toList = some z → UnV 15 s.data.toList v z) := hv
          clear hv
          go_wp2_with fail
          go_ret2
          exact ⟨v, rfl, HV.out, hb⟩
        · by_cases h16 : k = 16
          · subst h16
            clear h1 h2 h6 h15
            go_enter Tryz.func31, Tryz.ntmps31
            go_wp2_with fail
            refine (unpackNote_any s w hs).mono ?_
            rintro e w1 ⟨v, rfl, hv, hb⟩
            have HV : Hid (∀ z, candI 16 s.data.toList = some z → UnV 16 s.data.toList v z) := hv
            clear hv
            go_wp2_with fail
            go_ret2
            exact ⟨v, rfl, HV.out, hb⟩
          · have HN : Hid (candI k s.data.toList = none) := by unfold candI; rw [if_neg h1, if_neg h2, if_neg h6, if_neg h15]; exact if_neg h16
            have e1 : (k == 1) = false := by simpa using h1
            have e2 : (k == 2) = false := by simpa using fun h => h2 (.inl h)
            have e5 : (k == 5) = false := by simpa using fun h => h2 (.inr h)
            have e6 : (k == 6) = false := by simpa using h6
            have e15 : (k == 15) = false := by simpa using h15
            have e16 : (k == 16) = false := by simpa using h16
            clear h1 h2 h6 h15 h16
            go_enter Tryz.func31, Tryz.ntmps31
            go_wp2_with fail
            go_ret2
            exact un_no HN.out (Below.refl _ _)
end Go.Proofs.YthmneeahncojjaaGreatDoor
