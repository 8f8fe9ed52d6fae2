import Derived.Test.YtdmellmmhipncaaGreatDoorZ25
import Derived.Test.YtdmellmmhipncaaGreatDoorZ26
import Derived.Test.YtdmellmmhipncaaGreatDoorZ23
import Derived.Test.YtdmellmmhipncaaGreatDoorZ10
import Derived.Lib.Join
namespace Go.Proofs.YtdmellmmhipncaaGreatDoor
open Go.RowKit

set_option maxRecDepth 20000 in
set_option maxHeartbeats 1000000 in
theorem numberIn_any (s : ByteArray) (w : World) (hs : s.size ≤ 4) :
    Calls Tryz.prog 86 #[.string s] w fun e w' => e = .returned (.int .i64 ((rdN s.data.toList : Nat) : Int)) ∧ w' = w := by
  have HLEN : Hid (s.data.toList.length = s.size) := (by simp : s.data.toList.length = s.size)
  go_enter Tryz.func86, Tryz.ntmps86
  go_wp2_with fail
  go_loop [3, 7] (fun n i => ∃ k : Nat, k ≤ s.size ∧ i = .int .i64 (k : Int) ∧ n = .int .i64 ((rdN (s.data.toList.take k) : Nat) : Int)) (fun _ i => s.size - (intOf i).toNat)
  case atStart => exact ⟨0, Nat.zero_le _, rfl, rfl⟩
  case round =>
    obtain ⟨k, hk, rfl, rfl⟩ := hrel
    have hlt4 := rdN_lt s.data.toList k (by rw [HLEN.out]; exact hk)
    have hp4 : 256 ^ k ≤ 4294967296 := Nat.le_trans (Nat.pow_le_pow_right (by omega) (show k ≤ 4 by omega)) (by decide)
    have hv4 : rdN (s.data.toList.take k) < 4294967296 := by omega
    clear hlt4 hp4
    by_cases hlt : k < s.size
    · have hkl : k < s.data.toList.length := by rw [HLEN.out]; exact hlt
      have hc255 : s[k].toNat < 256 := s[k].toNat_lt
      have HST : Hid (rdN (s.data.toList.take (k + 1)) = rdN (s.data.toList.take k) * 256 + s[k].toNat) := rdN_snoc s.data.toList k hkl
      obtain ⟨v, hv⟩ : ∃ v, v = rdN (s.data.toList.take k) := ⟨_, rfl⟩
      rw [← hv] at hv4 HST ⊢
      clear hv
      go_wp2_with fail
      go_round
      case rel => exact ⟨k + 1, by omega, by go_num, congrArg (Value.int .i64) (by rw [HST.out]; omega)⟩
      case measure => simp [intOf]; omega
    · have hfull : s.data.toList.take k = s.data.toList := List.take_of_length_le (by rw [HLEN.out]; omega)
      rw [hfull] at hv4 ⊢
      obtain ⟨v, hv⟩ : ∃ v, v = rdN s.data.toList := ⟨_, rfl⟩
      rw [← hv] at hv4 ⊢
      have HV : Hid (v = rdN s.data.toList) := hv
      clear hv hfull
      go_wp2_with fail
      go_ret
      exact ⟨ret_int (by rw [HV.out]), rfl⟩

/-- What unpackData tells of bytes: the value, and the text that it stands for. -/
def UnV (k : Int) (b : List UInt8) (v : Value) (z : List UInt8) : Prop :=
  (k = 1 ∧ b.length = 4 ∧ v = addrV b ∧ z = joinD (b.map (fun c => numL c.toNat))) ∨ ((k = 2 ∨ k = 5) ∧ z.length ≤ 60 ∧ v = hostV ⟨z.toArray⟩) ∨
  (k = 6 ∧ rdN b < 4294967296 ∧ v = serV ((rdN b : Nat) : Int) ∧ z = numL (rdN b)) ∨
  (k = 15 ∧ ∃ nm : List UInt8, nm.length ≤ 60 ∧ rdN (b.take 2) < 4294967296 ∧ v = exV ((rdN (b.take 2) : Nat) : Int) ⟨nm.toArray⟩ ∧ z = numL (rdN (b.take 2)) ++ (32 :: nm)) ∨ (k = 16 ∧ z = b.drop 1 ∧ v = noteV ⟨z.toArray⟩)
def UnRes (w : World) (k : Int) (b : List UInt8) (e : Ending) (w' : World) : Prop :=
  ∃ v, e = .returned (.tuple #[v, .bool (candI k b).isSome]) ∧ (∀ z, candI k b = some z → UnV k b v z) ∧ Below w.heap.size w w'
theorem un_no {w w' : World} {k : Int} {b : List UInt8} {v : Value} (h : candI k b = none) (hb : Below w.heap.size w w') : UnRes w k b (.returned (.tuple #[v, .bool false])) w' :=
  ⟨v, by rw [h]; rfl, fun z hz => (by rw [h] at hz; cases hz), hb⟩
theorem un_yes {w w' : World} {k : Int} {b z : List UInt8} {v : Value} (h : candI k b = some z) (hv : UnV k b v z) (hb : Below w.heap.size w w') : UnRes w k b (.returned (.tuple #[v, .bool true])) w' :=
  ⟨v, by rw [h]; rfl, fun y hy => (by rw [h] at hy; cases hy; exact hv), hb⟩
theorem rdN_lt4 {l : List UInt8} (h : l.length ≤ 4) : rdN l < 4294967296 := by
  have h1 := rdN_lt l l.length (Nat.le_refl _)
  rw [List.take_length] at h1
  exact Nat.lt_of_lt_of_le h1 (Nat.le_trans (Nat.pow_le_pow_right (by omega) h) (by decide))
theorem tk_name {l : List UInt8} {a : Int} {nm : List UInt8} {e : Nat} {q : List Nat} (h : tkI l a = some (nm, e, q)) : nm.length ≤ 60 ∧ a < (l.length : Int) := by
  unfold tkI at h
  split at h
  · rename_i hc
    refine ⟨?_, hc.2.2⟩
    unfold takeN nmR at h
    split at h
    · cases h
    · split at h
      · rename_i hn
        simp only [Option.some.injEq, Prod.mk.injEq] at h
        rw [← h.1]
        rw [nameOf_eq, Bool.and_eq_true, decide_eq_true_eq] at hn; exact hn.2
      · cases h
  · cases h

set_option maxRecDepth 20000 in
set_option maxHeartbeats 1000000 in
theorem unpackAddress_any (s : ByteArray) (w : World) :
    Calls Tryz.prog 53 #[.string s] w fun e w' => UnRes w 1 s.data.toList e w' := by
  have HLEN : Hid (s.data.toList.length = s.size) := (by simp : s.data.toList.length = s.size)
  have HC : Hid (candI 1 s.data.toList = if s.data.toList.length = 4 then some (joinD (s.data.toList.map (fun c => numL c.toNat))) else none) := if_pos rfl
  by_cases h4 : s.size = 4
  · have e4 : ((s.size : Int) != 4) = false := by rw [h4]; rfl
    have h4a : s.size ≤ 4 := by omega
    have h4b : 4 ≤ s.size := by omega
    have HY : Hid (candI 1 s.data.toList = some (joinD (s.data.toList.map (fun c => numL c.toNat)))) := by rw [HC.out]; exact if_pos (by rw [HLEN.out]; exact h4)
    have HL4 : Hid (s.data.toList.length = 4) := by rw [HLEN.out]; exact h4
    have HBR0 : Hid (BRow (w.alloc (.cells #[.int .u8 0, .int .u8 0, .int .u8 0, .int .u8 0] 100)) w.heap.size (s.data.toList.take 0 ++ zeros 4)) := brow_zero _ _
    clear h4
    go_enter Tryz.func53, Tryz.ntmps53
    go_wp2_with fail
    go_loopw [9] (fun i wr => ∃ k : Nat, k ≤ 4 ∧ i = .int .i64 (k : Int) ∧ Hid (BRow wr w.heap.size (s.data.toList.take k ++ zeros (4 - k))) ∧ Below w.heap.size w wr) (fun i _ => 4 - (intOf i).toNat)
    case atStart => exact ⟨0, by omega, rfl, HBR0, (Below.refl _ _).alloc (Nat.le_refl _) _⟩
    case round =>
      obtain ⟨k, hk, rfl, HBR, hb⟩ := hrel
      clear HBR0
      by_cases hlt : k < 4
      · have hkl : k < s.data.toList.length := by rw [HL4.out]; exact hlt
        have hks : k < s.size := by omega
        have hlz : k < (s.data.toList.take k ++ zeros (4 - k)).length := by unfold zeros; rw [List.length_append, List.length_replicate, List.length_take]; omega
        have hset := HBR.out.set k hlz s[k]
        have hse : (s.data.toList.take k ++ zeros (4 - k)).set k s[k] = s.data.toList.take (k + 1) ++ zeros (4 - (k + 1)) := by
          have h3 := set_next (a := s.data.toList.take k) (n := 4 - (k + 1)) (c := s[k])
          rw [show 4 - (k + 1) + 1 = 4 - k by omega, List.length_take, Nat.min_eq_left (by omega)] at h3
          rw [h3, List.take_succ_eq_append_getElem hkl]; rfl
        rw [hse] at hset
        have HSET : Hid (BRow (wr.setCell ⟨w.heap.size, k, none⟩ (.int .u8 (s[k].toNat : Int))) w.heap.size (s.data.toList.take (k + 1) ++ zeros (4 - (k + 1)))) := hset
        have hcz := (HBR.out.2 k hlz).1
        have hfz := (HBR.out.2 k hlz).2
        obtain ⟨u, hu⟩ : ∃ u, u = (s.data.toList.take k ++ zeros (4 - k))[k]'hlz := ⟨_, rfl⟩
        rw [← hu] at hcz
        have hb3 : Below w.heap.size w (wr.setCell ⟨w.heap.size, k, none⟩ (.int .u8 (s[k].toNat : Int))) := hb.setCell (p := ⟨w.heap.size, k, none⟩) (Nat.le_refl _) _
        clear hset hse hu hlz
        go_wp2_with fail
        go_roundw
        case rel => exact ⟨k + 1, by omega, by go_num, HSET, hb3⟩
        case measure => simp [intOf]; omega
      · have hk4 : k = 4 := by omega
        subst hk4
        obtain ⟨a, b, c, d, hy⟩ := four_of HL4.out
        have hrow : BRow wr w.heap.size [a, b, c, d] := by have := HBR.out; rw [hy] at this; exact this
        have q0 : wr.cell? ⟨w.heap.size, 0, none⟩ = some (.int .u8 (a.toNat : Int)) := (hrow.2 0 (by simp)).1
        have q1 : wr.cell? ⟨w.heap.size, 1, none⟩ = some (.int .u8 (b.toNat : Int)) := (hrow.2 1 (by simp)).1
        have q2 : wr.cell? ⟨w.heap.size, 2, none⟩ = some (.int .u8 (c.toNat : Int)) := (hrow.2 2 (by simp)).1
        have q3 : wr.cell? ⟨w.heap.size, 3, none⟩ = some (.int .u8 (d.toNat : Int)) := (hrow.2 3 (by simp)).1
        have HYY : Hid (s.data.toList = [a, b, c, d]) := hy
        clear hy hrow hlt
        go_wp2_with fail
        go_ret2
        exact un_yes HY.out (.inl ⟨rfl, HL4.out, by rw [HYY.out]; rfl, rfl⟩) hb
  · have e4 : ((s.size : Int) != 4) = true := by simp; omega
    have HN : Hid (candI 1 s.data.toList = none) := by rw [HC.out]; exact if_neg (by rw [HLEN.out]; exact h4)
    clear h4
    go_enter Tryz.func53, Tryz.ntmps53
    go_wp2_with fail
    go_ret2
    exact un_no HN.out ((Below.refl _ _).alloc (Nat.le_refl _) _)

set_option maxRecDepth 20000 in
set_option maxHeartbeats 400000 in
theorem unpackSerial_any (s : ByteArray) (w : World) :
    Calls Tryz.prog 55 #[.string s] w fun e w' => UnRes w 6 s.data.toList e w' := by
  have HLEN : Hid (s.data.toList.length = s.size) := (by simp : s.data.toList.length = s.size)
  have HC : Hid (candI 6 s.data.toList = if s.data.toList.length = 4 then some (numL (rdN s.data.toList)) else none) := by unfold candI; rw [if_neg (by omega), if_neg (by omega)]; exact if_pos rfl
  by_cases h4 : s.size = 4
  · have e4 : ((s.size : Int) != 4) = false := by rw [h4]; rfl
    have h4a : s.size ≤ 4 := by omega
    have HY : Hid (candI 6 s.data.toList = some (numL (rdN s.data.toList))) := by rw [HC.out]; exact if_pos (by rw [HLEN.out]; exact h4)
    clear h4
    go_enter Tryz.func55, Tryz.ntmps55
    go_wp2_with fail
    refine (numberIn_any s w h4a).mono ?_
    rintro e w1 ⟨rfl, rfl⟩
    go_wp2_with fail
    go_ret2
    exact un_yes HY.out (.inr (.inr (.inl ⟨rfl, rdN_lt4 (by rw [HLEN.out]; exact h4a), rfl, rfl⟩))) (Below.refl _ _)
  · have e4 : ((s.size : Int) != 4) = true := by simp; omega
    have HN : Hid (candI 6 s.data.toList = none) := by rw [HC.out]; exact if_neg (by rw [HLEN.out]; exact h4)
    clear h4
    go_enter Tryz.func55, Tryz.ntmps55
    go_wp2_with fail
    go_ret2
    exact un_no HN.out (Below.refl _ _)

set_option maxRecDepth 20000 in
set_option maxHeartbeats 400000 in
theorem unpackNote_any (s : ByteArray) (w : World) (hs : s.size ≤ 1048576) :
    Calls Tryz.prog 57 #[.string s] w fun e w' => UnRes w 16 s.data.toList e w' := by
  have HC : Hid (candI 16 s.data.toList = if s.data.toList = [] then none else some (s.data.toList.drop 1)) := by unfold candI; rw [if_neg (by omega), if_neg (by omega), if_neg (by omega), if_neg (by omega)]; exact if_pos rfl
  by_cases h0 : s.data.toList = []
  · have HN : Hid (candI 16 s.data.toList = none) := by rw [HC.out]; exact if_pos h0
    obtain rfl : s = ⟨#[]⟩ := data_eq h0
    clear h0
    go_enter Tryz.func57, Tryz.ntmps57
    go_wp2_with fail
    go_ret2
    exact un_no HN.out (Below.refl _ _)
  · have e0 : (s.toList == []) = false := by rw [ByteArray.toList_eq]; simpa using h0
    have hsz : 1 ≤ s.size := by
      have h1 : s.data.toList.length = s.size := by simp
      have := List.length_pos_iff.2 h0; omega
    have HY : Hid (candI 16 s.data.toList = some (s.data.toList.drop 1)) := by rw [HC.out]; exact if_neg h0
    have HX : Hid (s.extract 1 s.size = ⟨(s.data.toList.drop 1).toArray⟩) := data_eq (by rw [Lib.extract_data, List.take_of_length_le (by rw [List.length_drop]; simp)])
    have hxl : (⟨(s.data.toList.drop 1).toArray⟩ : ByteArray).size ≤ 281474976710656 := by
      have h1 : s.data.toList.length = s.size := by simp
      rw [size_list, List.length_drop]; omega
    have HXL : Hid ((⟨(s.data.toList.drop 1).toArray⟩ : ByteArray).size ≤ 281474976710656) := hxl
    clear hxl
    obtain ⟨z, hz⟩ : ∃ z, z = s.data.toList.drop 1 := ⟨_, rfl⟩
    rw [← hz] at HY HX HXL
    have HZ : Hid (z = s.data.toList.drop 1) := hz
    clear h0 hz
    go_enter Tryz.func57, Tryz.ntmps57
    go_wp2_with fail
    rw [HX.out]
    refine (cloneR_any _ w HXL.out).mono ?_
    rintro e w1 ⟨rfl, hb⟩
    go_wp2_with fail
    go_ret2
    exact un_yes HY.out (.inr (.inr (.inr (.inr ⟨rfl, HZ.out, rfl⟩)))) hb

set_option maxRecDepth 20000 in
set_option maxHeartbeats 1000000 in
theorem unpackExchange_any (s : ByteArray) (w : World) (hE : EnvR w) :
    Calls Tryz.prog 56 #[.string s] w fun e w' => UnRes w 15 s.data.toList e w' := by
  have HC : Hid (candI 15 s.data.toList = (tkI s.data.toList 2).map (fun r => numL (rdN (s.data.toList.take 2)) ++ (32 :: r.1))) := by unfold candI; rw [if_neg (by omega), if_neg (by omega), if_neg (by omega)]; exact if_pos rfl
  have HT : Hid (Calls Tryz.prog 54 #[.string s, .int .i64 2] w fun e w' => e = .returned (tkVal (tkI s.data.toList 2)) ∧ Below w.heap.size w w') := iTakeName_any s 2 w (by omega) (by omega) hE.1
  cases hT : tkI s.data.toList 2 with
  | none =>
    have HN : Hid (candI 15 s.data.toList = none) := by rw [HC.out, hT]; exact rfl
    rw [hT] at HT
    unfold tkVal nmT nmE at HT
    clear hT
    go_enter Tryz.func56, Tryz.ntmps56
    go_wp2_with fail
    refine HT.out.mono ?_
    rintro e w1 ⟨rfl, hb⟩
    go_wp2_with fail
    go_ret2
    exact un_no HN.out hb
  | some r =>
    obtain ⟨nm, en, pl⟩ := r
    obtain ⟨hn60, h2⟩ := tk_name hT
    have hsz : s.data.toList.length = s.size := by simp
    have h2s : 2 ≤ s.size := by omega
    have HY : Hid (candI 15 s.data.toList = some (numL (rdN (s.data.toList.take 2)) ++ (32 :: nm))) := by rw [HC.out, hT]; exact rfl
    have HP : Hid (s.extract 0 2 = ⟨(s.data.toList.take 2).toArray⟩) := data_eq (by rw [Lib.extract_data]; simp)
    have HTL : Hid ((s.data.toList.take 2).length ≤ 2) := by rw [List.length_take]; exact Nat.min_le_left _ _
    have HNU : Hid (∀ W, Calls Tryz.prog 86 #[.string ⟨(s.data.toList.take 2).toArray⟩] W fun e w' => e = .returned (.int .i64 ((rdN (s.data.toList.take 2) : Nat) : Int)) ∧ w' = W) := fun W => numberIn_any ⟨(s.data.toList.take 2).toArray⟩ W (by rw [size_list]; have := HTL.out; omega)
    have HN60 : Hid (nm.length ≤ 60) := hn60
    rw [hT] at HT
    unfold tkVal nmT nmE at HT
    clear hT hsz h2 hn60
    go_enter Tryz.func56, Tryz.ntmps56
    go_wp2_with fail
    refine HT.out.mono ?_
    rintro e w1 ⟨rfl, hb⟩
    go_wp2_with fail
    rw [HP.out]
    refine (HNU.out _).mono ?_
    rintro e w2 ⟨rfl, rfl⟩
    go_wp2_with fail
    go_ret2
    exact un_yes HY.out (.inr (.inr (.inr (.inl ⟨rfl, nm, HN60.out, rdN_lt4 (by have := HTL.out; omega), rfl, rfl⟩)))) hb

set_option maxRecDepth 20000 in
set_option maxHeartbeats 1000000 in
theorem unpackData_any (k : Int) (s : ByteArray) (w : World) (hs : s.size ≤ 1048576) (hE : EnvR w) :
    Calls Tryz.prog 29 #[.int .i64 k, .string s] w fun e w' => UnRes w k s.data.toList e w' := by
  by_cases h1 : k = 1
  · subst h1
    go_enter Tryz.func29, Tryz.ntmps29
    go_wp2_with fail
    refine (unpackAddress_any s w).mono ?_
    rintro e w1 ⟨v, rfl, hv, hb⟩
    have HV : Hid (∀ z, candI 1 s.data.toList = some z → UnV 1 s.data.toList v z) := hv
    clear hv
    go_wp2_with fail
    go_ret2
    exact ⟨v, rfl, HV.out, hb⟩
  · by_cases h2 : k = 2 ∨ k = 5
    · have HC : Hid (candI k s.data.toList = (tkI s.data.toList 0).map (·.1)) := by unfold candI; rw [if_neg h1]; exact if_pos h2
      have HT : Hid (Calls Tryz.prog 54 #[.string s, .int .i64 0] w fun e w' => e = .returned (tkVal (tkI s.data.toList 0)) ∧ Below w.heap.size w w') := iTakeName_any s 0 w (by omega) (by omega) hE.1
      clear h1
      cases hT : tkI s.data.toList 0 with
      | none =>
        have HN : Hid (candI k s.data.toList = none) := by rw [HC.out, hT]; exact rfl
        rw [hT] at HT
        unfold tkVal nmT nmE at HT
        clear hT
        rcases h2 with rfl | rfl
        all_goals
          go_enter Tryz.func29, Tryz.ntmps29
          go_wp2_with fail
          refine HT.out.mono ?_
          rintro e w1 ⟨rfl, hb⟩
          go_wp2_with fail
          go_ret2
          exact un_no HN.out hb
      | some r =>
        obtain ⟨nm, en, pl⟩ := r
        have HN60 : Hid (nm.length ≤ 60) := (tk_name hT).1
        have HY : Hid (candI k s.data.toList = some nm) := by rw [HC.out, hT]; exact rfl
        rw [hT] at HT
        unfold tkVal nmT nmE at HT
        clear hT
        rcases h2 with rfl | rfl
        all_goals
          go_enter Tryz.func29, Tryz.ntmps29
          go_wp2_with fail
          refine HT.out.mono ?_
          rintro e w1 ⟨rfl, hb⟩
          go_wp2_with fail
          go_ret2
          exact un_yes HY.out (.inr (.inl ⟨by first | exact .inl rfl | exact .inr rfl, HN60.out, rfl⟩)) hb
    · by_cases h6 : k = 6
      · subst h6
        clear h1 h2
        go_enter Tryz.func29, Tryz.ntmps29
        go_wp2_with fail
        refine (unpackSerial_any s w).mono ?_
        rintro e w1 ⟨v, rfl, hv, hb⟩
        have HV : Hid (∀ z, candI 6 s.data.toList = some z → UnV 6 s.data.toList v z) := hv
        clear hv
        go_wp2_with fail
        go_ret2
        exact ⟨v, rfl, HV.out, hb⟩
      · by_cases h15 : k = 15
        · subst h15
          clear h1 h2 h6
          go_enter Tryz.func29, Tryz.ntmps29
          go_wp2_with fail
          refine (unpackExchange_any s w hE).mono ?_
          rintro e w1 ⟨v, rfl, hv, hb⟩
          have HV : Hid (∀ z, candI 15 s.data.toList = some z → UnV 15 s.data.toList v z) := hv
          clear hv
          go_wp2_with fail
          go_ret2
          exact ⟨v, rfl, HV.out, hb⟩
        · by_cases h16 : k = 16
          · subst h16
            clear h1 h2 h6 h15
            go_enter Tryz.func29, Tryz.ntmps29
            go_wp2_with fail
            refine (unpackNote_any s w hs).mono ?_
            rintro e w1 ⟨v, rfl, hv, hb⟩
            have HV : Hid (∀ z, candI 16 s.data.toList = some z → UnV 16 s.data.toList v z) := hv
            clear hv
            go_wp2_with fail
            go_ret2
            exact ⟨v, rfl, HV.out, hb⟩
          · have HN : Hid (candI k s.data.toList = none) := by unfold candI; rw [if_neg h1, if_neg h2, if_neg h6, if_neg h15]; exact if_neg h16
            have e1 : (k == 1) = false := by simpa using h1
            have e2 : (k == 2) = false := by simpa using fun h => h2 (.inl h)
            have e5 : (k == 5) = false := by simpa using fun h => h2 (.inr h)
            have e6 : (k == 6) = false := by simpa using h6
            have e15 : (k == 15) = false := by simpa using h15
            have e16 : (k == 16) = false := by simpa using h16
            clear h1 h2 h6 h15 h16
            go_enter Tryz.func29, Tryz.ntmps29
            go_wp2_with fail
            go_ret2
            exact un_no HN.out (Below.refl _ _)
end Go.Proofs.YtdmellmmhipncaaGreatDoor

namespace Go.Proofs.YtdmellmmhipncaaGreatDoor
open Go.RowKit

set_option maxRecDepth 20000 in
set_option maxHeartbeats 400000 in
theorem hostText (s : ByteArray) (w : World) :
    Calls Tryz.prog 157 #[.agg #[.string s]] w fun e w' => e = .returned (.string s) ∧ Below w.heap.size w w' := by
  go_enter Tryz.func157, Tryz.ntmps157
  go_wp2_with fail
  go_ret
  exact ⟨rfl, (Below.refl _ _).alloc (Nat.le_refl _) _⟩
set_option maxRecDepth 20000 in
set_option maxHeartbeats 400000 in
theorem noteText (s : ByteArray) (w : World) :
    Calls Tryz.prog 169 #[.agg #[.string s]] w fun e w' => e = .returned (.string s) ∧ Below w.heap.size w w' := by
  go_enter Tryz.func169, Tryz.ntmps169
  go_wp2_with fail
  go_ret
  exact ⟨rfl, (Below.refl _ _).alloc (Nat.le_refl _) _⟩
set_option maxRecDepth 20000 in
set_option maxHeartbeats 400000 in
theorem serialText (n : Nat) (w : World) (h1 : n < 4294967296) (hE : EnvR w) :
    Calls Tryz.prog 166 #[.agg #[.int .i64 (n : Int)]] w fun e w' => e = .returned (.string ⟨(numL n).toArray⟩) ∧ Below w.heap.size w w' := by
  have HN : Hid (∀ W, EnvR W → Calls Tryz.prog 20 #[.int .i64 (n : Int)] W fun e w' => e = .returned (.string ⟨(numL n).toArray⟩) ∧ Below W.heap.size W w') := fun W hW => itoa_nat n W (by omega) hW
  go_enter Tryz.func166, Tryz.ntmps166
  go_wp2_with fail
  refine (HN.out _ (hE.below ((Below.refl _ _).alloc (Nat.le_refl _) _))).mono ?_
  rintro e w1 ⟨rfl, hb1⟩
  have hbw := (box1 hb1).2
  clear hb1
  go_wp2_with fail
  go_ret
  exact ⟨rfl, hbw⟩
set_option maxRecDepth 20000 in
set_option maxHeartbeats 1000000 in
theorem exchangeText (n : Nat) (s : ByteArray) (w : World) (h1 : n < 4294967296) (hs : s.size ≤ 60) (hE : EnvR w) :
    Calls Tryz.prog 171 #[.agg #[.int .i64 (n : Int), .string s]] w fun e w' => e = .returned (.string ⟨(numL n ++ (32 :: s.data.toList)).toArray⟩) ∧ Below w.heap.size w w' := by
  have hql := numL_length 10 n (by omega)
  have HN0 : ∀ W, EnvR W → Calls Tryz.prog 20 #[.int .i64 (n : Int)] W fun e w' => e = .returned (.string ⟨(numL n).toArray⟩) ∧ Below W.heap.size W w' := fun W hW => itoa_nat n W (by omega) hW
  obtain ⟨q, hq⟩ : ∃ q, q = numL n := ⟨_, rfl⟩
  rw [← hq] at hql HN0 ⊢
  have HN : Hid (∀ W, EnvR W → Calls Tryz.prog 20 #[.int .i64 (n : Int)] W fun e w' => e = .returned (.string ⟨q.toArray⟩) ∧ Below W.heap.size W w') := HN0
  obtain ⟨W0, hW0⟩ : ∃ W0, W0 = w.alloc (.cells #[.int .i64 (n : Int), .string s] 78) := ⟨_, rfl⟩
  have HX : Hid (∀ W, Below W0.heap.size W0 W → W.cell? ⟨w.heap.size, 0, none⟩ = some (.int .i64 (n : Int)) ∧ W.cell? ⟨w.heap.size, 1, none⟩ = some (.string s) ∧ Below w.heap.size w W) := fun W h => by rw [hW0] at h; exact boxW2 h
  have HTR : Hid (∀ W W', Below W0.heap.size W0 W → Below W.heap.size W W' → Below W0.heap.size W0 W') := fun W W' h1 h2 => h1.trans (h2.mono h1.size)
  have hbd : Below W0.heap.size W0 W0.drew := (Below.refl _ _).drew
  have HW0 : Hid (w.alloc (.cells #[.int .i64 (n : Int), .string s] 78) = W0) := hW0.symm
  clear hq hW0 HN0
  go_enter Tryz.func171, Tryz.ntmps171
  go_wp2_with fail
  rw [HW0.out]
  refine wp_region_quiet (C := fun W => Below W0.heap.size W0 W) (by kernel_rfl) (by kernel_rfl) hbd ?_
  refine wpQuiet_step (fun K hK => ?_)
  rw [if_pos (by rfl)]
  refine ⟨.pointer (some ⟨w.heap.size, 0, none⟩), fun W hW => quiet_ok ?_, hK _ ?_⟩
  · have q0 := (HX.out W hW).1
    have q1 := (HX.out W hW).2.1
    go_simp
    all_goals (try omega)
  clear hK K
  simp only [Act.put, List.setIfInBounds_toArray, List.set_cons_succ, List.set_cons_zero]
  refine wpQuiet_step (fun K hK => ?_)
  rw [if_pos (by rfl)]
  refine ⟨.int .i64 (n : Int), fun W hW => quiet_ok ?_, hK _ ?_⟩
  · have q0 := (HX.out W hW).1
    have q1 := (HX.out W hW).2.1
    go_simp
    all_goals (try omega)
  clear hK K
  simp only [Act.put, List.setIfInBounds_toArray, List.set_cons_succ, List.set_cons_zero]
  refine wpQuiet_step (fun K hK => ?_)
  rw [if_pos (by rfl)]
  refine ⟨.string ⟨q.toArray⟩, fun W hW => quiet_call (f := 20) (args := #[.int .i64 (n : Int)]) ?_ ?_, hK _ ?_⟩
  · go_simp
  · exact (HN.out W (hE.below (HX.out W hW).2.2)).mono fun e w'' h => ⟨h.1, HTR.out _ _ hW h.2⟩
  clear hK K
  simp only [Act.put, List.setIfInBounds_toArray, List.set_cons_succ, List.set_cons_zero]
  refine wpQuiet_step (fun K hK => ?_)
  rw [if_pos (by rfl)]
  refine ⟨.string (⟨q.toArray⟩ ++ ⟨#[32]⟩), fun W hW => quiet_ok ?_, hK _ ?_⟩
  · have q0 := (HX.out W hW).1
    have q1 := (HX.out W hW).2.1
    go_simp
    all_goals (try omega)
  clear hK K
  simp only [Act.put, List.setIfInBounds_toArray, List.set_cons_succ, List.set_cons_zero]
  refine wpQuiet_step (fun K hK => ?_)
  rw [if_pos (by rfl)]
  refine ⟨.pointer (some ⟨w.heap.size, 1, none⟩), fun W hW => quiet_ok ?_, hK _ ?_⟩
  · have q0 := (HX.out W hW).1
    have q1 := (HX.out W hW).2.1
    go_simp
    all_goals (try omega)
  clear hK K
  simp only [Act.put, List.setIfInBounds_toArray, List.set_cons_succ, List.set_cons_zero]
  refine wpQuiet_step (fun K hK => ?_)
  rw [if_pos (by rfl)]
  refine ⟨.string s, fun W hW => quiet_ok ?_, hK _ ?_⟩
  · have q0 := (HX.out W hW).1
    have q1 := (HX.out W hW).2.1
    go_simp
    all_goals (try omega)
  clear hK K
  simp only [Act.put, List.setIfInBounds_toArray, List.set_cons_succ, List.set_cons_zero]
  refine wpQuiet_step (fun K hK => ?_)
  rw [if_pos (by rfl)]
  refine ⟨.string (⟨q.toArray⟩ ++ ⟨#[32]⟩ ++ s), fun W hW => quiet_ok ?_, hK _ ?_⟩
  · have q0 := (HX.out W hW).1
    have q1 := (HX.out W hW).2.1
    go_simp
    all_goals (try omega)
  clear hK K
  simp only [Act.put, List.setIfInBounds_toArray, List.set_cons_succ, List.set_cons_zero]
  refine wpQuiet_step (fun K hK => ?_)
  rw [if_pos (by rfl)]
  refine ⟨.string (⟨q.toArray⟩ ++ ⟨#[32]⟩ ++ s), fun W hW => quiet_ok ?_, hK _ ?_⟩
  · have q0 := (HX.out W hW).1
    have q1 := (HX.out W hW).2.1
    go_simp
    all_goals (try omega)
  clear hK K
  simp only [Act.put, List.setIfInBounds_toArray, List.set_cons_succ, List.set_cons_zero]
  refine wpQuiet_nil ?_
  intro W hW
  go_wp2_with fail
  go_ret
  exact ⟨congrArg Ending.returned (val_strM (by simp)), (HX.out W hW).2.2⟩
theorem join_four {a b c d : List UInt8} : Lib.join [a, b, c, d] [46] = joinD [a, b, c, d] := by
  simp [Lib.join, List.intercalate, joinD]
theorem ixA0 (a b c d : Int) (w : World) : Sem.run Tryz.prog (Instr.index 100 (.agg #[.int .u8 a, .int .u8 b, .int .u8 c, .int .u8 d]) (.int .i64 0)) w = .ok (.int .u8 a) w := by kernel_rfl
theorem ixA1 (a b c d : Int) (w : World) : Sem.run Tryz.prog (Instr.index 100 (.agg #[.int .u8 a, .int .u8 b, .int .u8 c, .int .u8 d]) (.int .i64 1)) w = .ok (.int .u8 b) w := by kernel_rfl
theorem ixA2 (a b c d : Int) (w : World) : Sem.run Tryz.prog (Instr.index 100 (.agg #[.int .u8 a, .int .u8 b, .int .u8 c, .int .u8 d]) (.int .i64 2)) w = .ok (.int .u8 c) w := by kernel_rfl
theorem ixA3 (a b c d : Int) (w : World) : Sem.run Tryz.prog (Instr.index 100 (.agg #[.int .u8 a, .int .u8 b, .int .u8 c, .int .u8 d]) (.int .i64 3)) w = .ok (.int .u8 d) w := by kernel_rfl
set_option maxRecDepth 20000 in
set_option maxHeartbeats 2000000 in
theorem addressText (a b c d : UInt8) (w : World) (hE : EnvR w) :
    Calls Tryz.prog 173 #[.agg #[.int .u8 (a.toNat : Int), .int .u8 (b.toNat : Int), .int .u8 (c.toNat : Int), .int .u8 (d.toNat : Int)]] w fun e w' => e = .returned (.string ⟨(joinD [numL a.toNat, numL b.toNat, numL c.toNat, numL d.toNat]).toArray⟩) ∧ Below w.heap.size w w' := by
  obtain ⟨i0, hi, hz0, hz1, hz2⟩ := info_parts info_string
  have HIT : Hid (∀ (x : UInt8) W, EnvR W → Calls Tryz.prog 20 #[.int .i64 (x.toNat : Int)] W fun e w' => e = .returned (.string ⟨(numL x.toNat).toArray⟩) ∧ Below W.heap.size W w') := fun x W hW => itoa_nat x.toNat W (by have := x.toNat_lt; omega) hW
  have ha := a.toNat_lt
  have hb := b.toNat_lt
  have hc := c.toNat_lt
  have hd := d.toNat_lt
  have hjl : ([numL a.toNat, numL b.toNat, numL c.toNat, numL d.toNat] : List (List UInt8)).length = 4 := rfl
  have HJL : Hid ((joinD [numL a.toNat, numL b.toNat, numL c.toNat, numL d.toNat]).length ≤ 1000) := by
    have h1 := numL_length 2 a.toNat (by omega)
    have h2 := numL_length 2 b.toNat (by omega)
    have h3 := numL_length 2 c.toNat (by omega)
    have h4 := numL_length 2 d.toNat (by omega)
    show (joinD _).length ≤ 1000
    simp [joinD]; omega
  obtain ⟨P, hP⟩ : ∃ P, P = [numL a.toNat, numL b.toNat, numL c.toNat, numL d.toNat] := ⟨_, rfl⟩
  have HP : Hid (P = [numL a.toNat, numL b.toNat, numL c.toNat, numL d.toNat]) := hP
  have HPL : Hid (P.length = 4) := by rw [hP]; exact hjl
  rw [← hP] at HJL ⊢
  obtain ⟨W0, hW0⟩ : ∃ W0, W0 = w.alloc (.cells #[.int .u8 (a.toNat : Int), .int .u8 (b.toNat : Int), .int .u8 (c.toNat : Int), .int .u8 (d.toNat : Int)] 100) := ⟨_, rfl⟩
  have hb0 : Below w.heap.size w W0 := by rw [hW0]; exact (Below.refl _ _).alloc (Nat.le_refl _) _
  have hW4 := box4 (w := w) (W := W0) (t := 100) (a := .int .u8 (a.toNat : Int)) (b := .int .u8 (b.toNat : Int)) (c := .int .u8 (c.toNat : Int)) (d := .int .u8 (d.toNat : Int)) (by rw [hW0]; exact Below.refl _ _)
  have HX : Hid (∀ W, Below W0.heap.size W0 W → W.cell? ⟨w.heap.size, 0, none⟩ = some (.int .u8 (a.toNat : Int)) ∧ W.cell? ⟨w.heap.size, 1, none⟩ = some (.int .u8 (b.toNat : Int)) ∧ W.cell? ⟨w.heap.size, 2, none⟩ = some (.int .u8 (c.toNat : Int)) ∧ W.cell? ⟨w.heap.size, 3, none⟩ = some (.int .u8 (d.toNat : Int)) ∧ Below w.heap.size w W) := fun W h => by rw [hW0] at h; exact box4 h
  have HW0 : Hid (w.alloc (.cells #[.int .u8 (a.toNat : Int), .int .u8 (b.toNat : Int), .int .u8 (c.toNat : Int), .int .u8 (d.toNat : Int)] 100) = W0) := hW0.symm
  have HSZ : Hid (W0.heap.size = w.heap.size + 1) := (by rw [hW0]; simp : W0.heap.size = w.heap.size + 1)
  clear hP hW0 hjl hW4
  go_enter Tryz.func173, Tryz.ntmps173
  go_wp2_with (at_make; refine wpList_make_full _ rfl _ _ 46 rfl (w.heap.size + 1) 9 i0 (.string ByteArray.empty) 1 Tryz.underlying46 hi hz0 hz1 _ _ _ _ 4 rfl rfl rfl rfl ?b2 ?b3 ?b4 ?_)
  case b2 => rw [hz2]; omega
  case b3 => unfold maxLen; omega
  case b4 => simp
  intro w1 hown hgrow
  rw [HW0.out] at hgrow
  (try rw [HW0.out])
  rw [← HSZ.out] at hown
  rw [← HSZ.out]
  have hb1 : Below W0.heap.size W0 w1 := (Below.refl _ _).grown hgrow (Nat.le_refl _) (fun k h => by cases h)
  have hs1 : SRow w1 W0.heap.size (part P 0) := made_srow (w := W0) (P := P) (by rw [HPL.out]; exact hown)
  have HS1 : Hid (SRow w1 W0.heap.size (part P 0)) := hs1
  obtain ⟨c0, c1, c2, c3, hbw⟩ := HX.out w1 hb1
  have hg0 : w.heap.size ≤ W0.heap.size := hb0.size
  obtain ⟨g, hg⟩ : ∃ g, g = W0.heap.size := ⟨_, rfl⟩
  rw [← hg] at HS1 hg0 ⊢
  clear hown hgrow hs1 hb1 HX HW0 hg hb0
  go_wp2_with fail
  go_loopw [8] (fun i wr => ∃ k : Nat, k ≤ 4 ∧ i = .int .i64 (k : Int) ∧ Hid (SRow wr g (part P k)) ∧ Below w.heap.size w wr) (fun i _ => 4 - (intOf i).toNat)
  case atStart => exact ⟨0, by omega, rfl, HS1, hbw⟩
  case round =>
    obtain ⟨k, hk, rfl, HR, hb⟩ := hrel
    clear HS1 hbw c0 c1 c2 c3
    by_cases hlt : k < 4
    · rcases (show k = 0 ∨ k = 1 ∨ k = 2 ∨ k = 3 by omega) with rfl | rfl | rfl | rfl
      · have hix := ixA0
        go_wp2_with fail
        refine (HIT.out a _ (hE.below hb)).mono ?_
        rintro e w2 ⟨rfl, hb2⟩
        have hst := HR.out.kept hb2
        have hlz : 0 < (part P 0).length := by rw [part_length P 0 (by rw [HPL.out]; omega), HPL.out]; omega
        have hcz := (hst.2 0 hlz).1
        have hfz := (hst.2 0 hlz).2
        have hset := hst.set 0 hlz (numL a.toNat)
        have hpn : (part P 0).set 0 (numL a.toNat) = part P 1 := by
          rw [part_next P 0 (by rw [HPL.out]; omega)]; congr 1
          have h := HP.out
          subst h; rfl
        rw [hpn] at hset
        have HSET : Hid (SRow (w2.setCell ⟨g, 0, none⟩ (.string ⟨(numL a.toNat).toArray⟩)) g (part P 1)) := hset
        unfold S at hcz
        obtain ⟨u, hu⟩ : ∃ u, u = (part P 0)[0]'hlz := ⟨_, rfl⟩
        rw [← hu] at hcz
        have hb3 : Below w.heap.size w (w2.setCell ⟨g, 0, none⟩ (.string ⟨(numL a.toNat).toArray⟩)) := (hb.trans (hb2.mono hb.size)).setCell (p := ⟨g, 0, none⟩) hg0 _
        clear hst hset hpn hu hlz hb2
        go_wp2_with fail
        go_roundw
        case rel => exact ⟨1, by omega, rfl, HSET, hb3⟩
        case measure => simp [intOf]
      · have hix := ixA1
        go_wp2_with fail
        refine (HIT.out b _ (hE.below hb)).mono ?_
        rintro e w2 ⟨rfl, hb2⟩
        have hst := HR.out.kept hb2
        have hlz : 1 < (part P 1).length := by rw [part_length P 1 (by rw [HPL.out]; omega), HPL.out]; omega
        have hcz := (hst.2 1 hlz).1
        have hfz := (hst.2 1 hlz).2
        have hset := hst.set 1 hlz (numL b.toNat)
        have hpn : (part P 1).set 1 (numL b.toNat) = part P 2 := by
          rw [part_next P 1 (by rw [HPL.out]; omega)]; congr 1
          have h := HP.out
          subst h; rfl
        rw [hpn] at hset
        have HSET : Hid (SRow (w2.setCell ⟨g, 1, none⟩ (.string ⟨(numL b.toNat).toArray⟩)) g (part P 2)) := hset
        unfold S at hcz
        obtain ⟨u, hu⟩ : ∃ u, u = (part P 1)[1]'hlz := ⟨_, rfl⟩
        rw [← hu] at hcz
        have hb3 : Below w.heap.size w (w2.setCell ⟨g, 1, none⟩ (.string ⟨(numL b.toNat).toArray⟩)) := (hb.trans (hb2.mono hb.size)).setCell (p := ⟨g, 1, none⟩) hg0 _
        clear hst hset hpn hu hlz hb2
        go_wp2_with fail
        go_roundw
        case rel => exact ⟨2, by omega, rfl, HSET, hb3⟩
        case measure => simp [intOf]
      · have hix := ixA2
        go_wp2_with fail
        refine (HIT.out c _ (hE.below hb)).mono ?_
        rintro e w2 ⟨rfl, hb2⟩
        have hst := HR.out.kept hb2
        have hlz : 2 < (part P 2).length := by rw [part_length P 2 (by rw [HPL.out]; omega), HPL.out]; omega
        have hcz := (hst.2 2 hlz).1
        have hfz := (hst.2 2 hlz).2
        have hset := hst.set 2 hlz (numL c.toNat)
        have hpn : (part P 2).set 2 (numL c.toNat) = part P 3 := by
          rw [part_next P 2 (by rw [HPL.out]; omega)]; congr 1
          have h := HP.out
          subst h; rfl
        rw [hpn] at hset
        have HSET : Hid (SRow (w2.setCell ⟨g, 2, none⟩ (.string ⟨(numL c.toNat).toArray⟩)) g (part P 3)) := hset
        unfold S at hcz
        obtain ⟨u, hu⟩ : ∃ u, u = (part P 2)[2]'hlz := ⟨_, rfl⟩
        rw [← hu] at hcz
        have hb3 : Below w.heap.size w (w2.setCell ⟨g, 2, none⟩ (.string ⟨(numL c.toNat).toArray⟩)) := (hb.trans (hb2.mono hb.size)).setCell (p := ⟨g, 2, none⟩) hg0 _
        clear hst hset hpn hu hlz hb2
        go_wp2_with fail
        go_roundw
        case rel => exact ⟨3, by omega, rfl, HSET, hb3⟩
        case measure => simp [intOf]
      · have hix := ixA3
        go_wp2_with fail
        refine (HIT.out d _ (hE.below hb)).mono ?_
        rintro e w2 ⟨rfl, hb2⟩
        have hst := HR.out.kept hb2
        have hlz : 3 < (part P 3).length := by rw [part_length P 3 (by rw [HPL.out]; omega), HPL.out]; omega
        have hcz := (hst.2 3 hlz).1
        have hfz := (hst.2 3 hlz).2
        have hset := hst.set 3 hlz (numL d.toNat)
        have hpn : (part P 3).set 3 (numL d.toNat) = part P 4 := by
          rw [part_next P 3 (by rw [HPL.out]; omega)]; congr 1
          have h := HP.out
          subst h; rfl
        rw [hpn] at hset
        have HSET : Hid (SRow (w2.setCell ⟨g, 3, none⟩ (.string ⟨(numL d.toNat).toArray⟩)) g (part P 4)) := hset
        unfold S at hcz
        obtain ⟨u, hu⟩ : ∃ u, u = (part P 3)[3]'hlz := ⟨_, rfl⟩
        rw [← hu] at hcz
        have hb3 : Below w.heap.size w (w2.setCell ⟨g, 3, none⟩ (.string ⟨(numL d.toNat).toArray⟩)) := (hb.trans (hb2.mono hb.size)).setCell (p := ⟨g, 3, none⟩) hg0 _
        clear hst hset hpn hu hlz hb2
        go_wp2_with fail
        go_roundw
        case rel => exact ⟨4, by omega, rfl, HSET, hb3⟩
        case measure => simp [intOf]
    · have hk4 : k = 4 := by omega
      subst hk4
      have hrow : SRow wr g P := by have := HR.out; rw [show part P 4 = P by rw [← HPL.out]; exact part_end P] at this; exact this
      have HJ : Hid (Calls Tryz.prog 175 #[.slice (some ⟨g, 0, none⟩) 4 4, .string ⟨#[46]⟩] wr fun e w' => e = .returned (.string ⟨(joinD P).toArray⟩) ∧ Below wr.heap.size wr w') := by
        have hm : (P.map (fun p => (⟨p.toArray⟩ : ByteArray))).map (fun x => x.data.toList) = P := by rw [List.map_map]; exact (List.map_congr_left (fun x _ => rfl)).trans (List.map_id' P)
        have hj : Lib.join P [46] = joinD P := by rw [HP.out]; exact join_four
        have h := Tryz.strings_Join g 0 4 (P.map (fun p => (⟨p.toArray⟩ : ByteArray))) ⟨#[46]⟩ wr (fun j x hx => by
          rw [List.getElem?_map] at hx
          cases hpj : P[j]? with
          | none => rw [hpj] at hx; cases hx
          | some y =>
            rw [hpj] at hx
            obtain ⟨hj2, hye⟩ := List.getElem?_eq_some_iff.1 hpj
            rw [Nat.zero_add, (hrow.2 j hj2).1, hye, ← Option.some.inj hx]; rfl) hrow.1 (by rw [List.length_map, HPL.out]; omega) (by rw [List.length_map, HPL.out]; omega) (by
          show (Lib.join _ [46]).length ≤ _
          rw [hm, hj]; have := HJL.out; omega)
        rw [List.length_map, HPL.out, hm, show (⟨#[46]⟩ : ByteArray).data.toList = [46] from rfl, hj] at h
        exact h
      clear hrow hlt
      go_wp2_with fail
      refine HJ.out.mono ?_
      rintro e w2 ⟨rfl, hb2⟩
      go_wp2_with fail
      go_ret
      exact ⟨rfl, hb.trans (hb2.mono hb.size)⟩

theorem unV_len {k : Int} {b z : List UInt8} {v : Value} (h : UnV k b v z) (hb : b.length ≤ 1048576) : z.length ≤ 1048576 := by
  rcases h with ⟨_, h4, _, rfl⟩ | ⟨_, h60, _⟩ | ⟨_, hr, _, rfl⟩ | ⟨_, nm, h60, hr, _, rfl⟩ | ⟨_, rfl, _⟩
  · obtain ⟨a, b, c, d, rfl⟩ := four_of h4
    have ha := a.toNat_lt
    have hb := b.toNat_lt
    have hc := c.toNat_lt
    have hd := d.toNat_lt
    have h1 := numL_length 2 a.toNat (by omega)
    have h2 := numL_length 2 b.toNat (by omega)
    have h3 := numL_length 2 c.toNat (by omega)
    have h4 := numL_length 2 d.toNat (by omega)
    simp [joinD]; omega
  · omega
  · have := numL_length 10 (rdN b) (by omega); omega
  · have := numL_length 10 (rdN (b.take 2)) (by omega)
    rw [List.length_append, List.length_cons]; omega
  · rw [List.length_drop]; omega
set_option maxRecDepth 20000 in
set_option maxHeartbeats 4000000 in
theorem iReadData_any (k : Int) (s : ByteArray) (w : World) (hs : s.size ≤ 1048576) (hE : EnvR w) :
    Calls Tryz.prog 10 #[.int .i64 k, .string s] w fun e w' => e = readVal (readR k s.data.toList) ∧ Below w.heap.size w w' := by
  have hsz : s.data.toList.length = s.size := by simp
  have HU : Hid (Calls Tryz.prog 29 #[.int .i64 k, .string s] w fun e w' => UnRes w k s.data.toList e w') := unpackData_any k s w hs hE
  cases hC : candI k s.data.toList with
  | none =>
    have HR : Hid (readR k s.data.toList = none) := readI_no (fun z hz => by rw [hC] at hz; cases hz)
    have HC : Hid (candI k s.data.toList = none) := hC
    clear hC
    go_enter Tryz.func10, Tryz.ntmps10
    go_wp2_with fail
    refine HU.out.mono ?_
    rintro e w1 ⟨v, rfl, _, hb⟩
    rw [HC.out]
    go_wp2_with fail
    go_ret2
    exact ⟨put_noneR HR.out, hb⟩
  | some z =>
    have HC : Hid (candI k s.data.toList = some z) := hC
    have HUN : Hid (∀ v, UnV k s.data.toList v z → z.length ≤ 1048576) := fun v hv => unV_len hv (by omega)
    have HDB : Hid (∀ W, EnvR W → z.length ≤ 1048576 → Calls Tryz.prog 9 #[.int .i64 k, .string ⟨z.toArray⟩] W fun e w' => e = bytesVal (dataP k z) ∧ Below W.heap.size W w') := fun W hW hz => iDataBytes_any k ⟨z.toArray⟩ W (by rw [size_list]; exact hz) hW
    have HNO : Hid (dataP k z ≠ some s.data.toList → readR k s.data.toList = none) := fun h => readI_no (fun y hy => by rw [hC] at hy; cases hy; exact h)
    have HYES : Hid (dataP k z = some s.data.toList → readR k s.data.toList = some z) := fun h => readI_yes h
    clear hC hsz
    cases hD : dataP k z with
    | none =>
      have HR : Hid (readR k s.data.toList = none) := HNO.out (by rw [hD]; simp)
      have HD : Hid (dataP k z = none) := hD
      clear hD
      go_enter Tryz.func10, Tryz.ntmps10
      go_wp2_with fail
      refine HU.out.mono ?_
      rintro e w1 ⟨v, rfl, hv, hb⟩
      have hv := hv z HC.out
      have HZL : Hid (z.length ≤ 1048576) := HUN.out v hv
      rw [HC.out]
      have hE1 := hE.below hb
      rcases hv with ⟨rfl, h4, rfl, hz⟩ | ⟨hk, h60, rfl⟩ | ⟨rfl, hr, rfl, hz⟩ | ⟨rfl, nm, h60, hr, rfl, hz⟩ | ⟨rfl, hz, rfl⟩
      · unfold addrV
        obtain ⟨a, b, c, d, hy⟩ := four_of h4
        rw [hy] at hz ⊢
        clear hy h4
        simp only [List.map_cons, List.map_nil] at hz ⊢
        have HZ : Hid (z = joinD [numL a.toNat, numL b.toNat, numL c.toNat, numL d.toNat]) := hz
        clear hz
        go_wp2_with fail
        refine (addressText a b c d w1 hE1).mono ?_
        rintro e w2 ⟨rfl, hb2⟩
        rw [← HZ.out]
        have hbb := hb.trans (hb2.mono hb.size)
        go_wp2_with fail
        refine (HDB.out w2 (hE.below hbb) HZL.out).mono ?_
        rintro e w3 ⟨rfl, hb3⟩
        rw [HD.out]
        unfold bytesVal
        go_wp2_with fail
        go_ret2
        exact ⟨put_noneR HR.out, hbb.trans (hb3.mono hbb.size)⟩
      · skip
        clear hk h60
        unfold hostV
        go_wp2_with fail
        refine (hostText ⟨z.toArray⟩ w1).mono ?_
        rintro e w2 ⟨rfl, hb2⟩
        have hbb := hb.trans (hb2.mono hb.size)
        go_wp2_with fail
        refine (HDB.out w2 (hE.below hbb) HZL.out).mono ?_
        rintro e w3 ⟨rfl, hb3⟩
        rw [HD.out]
        unfold bytesVal
        go_wp2_with fail
        go_ret2
        exact ⟨put_noneR HR.out, hbb.trans (hb3.mono hbb.size)⟩
      · skip
        have HZ : Hid (z = numL (rdN s.data.toList)) := hz
        clear hz
        obtain ⟨n, hn⟩ : ∃ n, n = rdN s.data.toList := ⟨_, rfl⟩
        unfold serV
        rw [← hn] at HZ hr ⊢
        clear hn
        go_wp2_with fail
        refine (serialText n w1 hr hE1).mono ?_
        rintro e w2 ⟨rfl, hb2⟩
        rw [← HZ.out]
        have hbb := hb.trans (hb2.mono hb.size)
        go_wp2_with fail
        refine (HDB.out w2 (hE.below hbb) HZL.out).mono ?_
        rintro e w3 ⟨rfl, hb3⟩
        rw [HD.out]
        unfold bytesVal
        go_wp2_with fail
        go_ret2
        exact ⟨put_noneR HR.out, hbb.trans (hb3.mono hbb.size)⟩
      · skip
        have HZ : Hid (z = numL (rdN (s.data.toList.take 2)) ++ (32 :: nm)) := hz
        clear hz
        obtain ⟨n, hn⟩ : ∃ n, n = rdN (s.data.toList.take 2) := ⟨_, rfl⟩
        unfold exV
        rw [← hn] at HZ hr ⊢
        have hnl : (⟨nm.toArray⟩ : ByteArray).size ≤ 60 := by rw [size_list]; exact h60
        clear hn h60
        go_wp2_with fail
        refine (exchangeText n ⟨nm.toArray⟩ w1 hr hnl hE1).mono ?_
        rintro e w2 ⟨rfl, hb2⟩
        rw [show (⟨nm.toArray⟩ : ByteArray).data.toList = nm from rfl, ← HZ.out]
        have hbb := hb.trans (hb2.mono hb.size)
        go_wp2_with fail
        refine (HDB.out w2 (hE.below hbb) HZL.out).mono ?_
        rintro e w3 ⟨rfl, hb3⟩
        rw [HD.out]
        unfold bytesVal
        go_wp2_with fail
        go_ret2
        exact ⟨put_noneR HR.out, hbb.trans (hb3.mono hbb.size)⟩
      · skip
        clear hz
        unfold noteV
        go_wp2_with fail
        refine (noteText ⟨z.toArray⟩ w1).mono ?_
        rintro e w2 ⟨rfl, hb2⟩
        have hbb := hb.trans (hb2.mono hb.size)
        go_wp2_with fail
        refine (HDB.out w2 (hE.below hbb) HZL.out).mono ?_
        rintro e w3 ⟨rfl, hb3⟩
        rw [HD.out]
        unfold bytesVal
        go_wp2_with fail
        go_ret2
        exact ⟨put_noneR HR.out, hbb.trans (hb3.mono hbb.size)⟩
    | some y =>
      have HD : Hid (dataP k z = some y) := hD
      by_cases hyb : y = s.data.toList
      · have HR : Hid (readR k s.data.toList = some z) := HYES.out (by rw [hD, hyb])
        have HY : Hid ((⟨y.toArray⟩ : ByteArray) = s) := data_eq hyb
        have e9 : (s.toList != s.toList) = false := by simp
        clear hD hyb
        go_enter Tryz.func10, Tryz.ntmps10
        go_wp2_with fail
        refine HU.out.mono ?_
        rintro e w1 ⟨v, rfl, hv, hb⟩
        have hv := hv z HC.out
        have HZL : Hid (z.length ≤ 1048576) := HUN.out v hv
        rw [HC.out]
        have hE1 := hE.below hb
        rcases hv with ⟨rfl, h4, rfl, hz⟩ | ⟨hk, h60, rfl⟩ | ⟨rfl, hr, rfl, hz⟩ | ⟨rfl, nm, h60, hr, rfl, hz⟩ | ⟨rfl, hz, rfl⟩
        · unfold addrV
          obtain ⟨a, b, c, d, hy⟩ := four_of h4
          rw [hy] at hz ⊢
          clear hy h4
          simp only [List.map_cons, List.map_nil] at hz ⊢
          have HZ : Hid (z = joinD [numL a.toNat, numL b.toNat, numL c.toNat, numL d.toNat]) := hz
          clear hz
          go_wp2_with fail
          refine (addressText a b c d w1 hE1).mono ?_
          rintro e w2 ⟨rfl, hb2⟩
          rw [← HZ.out]
          have hbb := hb.trans (hb2.mono hb.size)
          go_wp2_with fail
          refine (HDB.out w2 (hE.below hbb) HZL.out).mono ?_
          rintro e w3 ⟨rfl, hb3⟩
          rw [HD.out]
          unfold bytesVal
          simp only [Option.getD_some, Option.isSome_some]
          rw [HY.out]
          go_wp2_with fail
          go_ret2
          exact ⟨put_someR HR.out rfl, hbb.trans (hb3.mono hbb.size)⟩
        · skip
          clear hk h60
          unfold hostV
          go_wp2_with fail
          refine (hostText ⟨z.toArray⟩ w1).mono ?_
          rintro e w2 ⟨rfl, hb2⟩
          have hbb := hb.trans (hb2.mono hb.size)
          go_wp2_with fail
          refine (HDB.out w2 (hE.below hbb) HZL.out).mono ?_
          rintro e w3 ⟨rfl, hb3⟩
          rw [HD.out]
          unfold bytesVal
          simp only [Option.getD_some, Option.isSome_some]
          rw [HY.out]
          go_wp2_with fail
          go_ret2
          exact ⟨put_someR HR.out rfl, hbb.trans (hb3.mono hbb.size)⟩
        · skip
          have HZ : Hid (z = numL (rdN s.data.toList)) := hz
          clear hz
          obtain ⟨n, hn⟩ : ∃ n, n = rdN s.data.toList := ⟨_, rfl⟩
          unfold serV
          rw [← hn] at HZ hr ⊢
          clear hn
          go_wp2_with fail
          refine (serialText n w1 hr hE1).mono ?_
          rintro e w2 ⟨rfl, hb2⟩
          rw [← HZ.out]
          have hbb := hb.trans (hb2.mono hb.size)
          go_wp2_with fail
          refine (HDB.out w2 (hE.below hbb) HZL.out).mono ?_
          rintro e w3 ⟨rfl, hb3⟩
          rw [HD.out]
          unfold bytesVal
          simp only [Option.getD_some, Option.isSome_some]
          rw [HY.out]
          go_wp2_with fail
          go_ret2
          exact ⟨put_someR HR.out rfl, hbb.trans (hb3.mono hbb.size)⟩
        · skip
          have HZ : Hid (z = numL (rdN (s.data.toList.take 2)) ++ (32 :: nm)) := hz
          clear hz
          obtain ⟨n, hn⟩ : ∃ n, n = rdN (s.data.toList.take 2) := ⟨_, rfl⟩
          unfold exV
          rw [← hn] at HZ hr ⊢
          have hnl : (⟨nm.toArray⟩ : ByteArray).size ≤ 60 := by rw [size_list]; exact h60
          clear hn h60
          go_wp2_with fail
          refine (exchangeText n ⟨nm.toArray⟩ w1 hr hnl hE1).mono ?_
          rintro e w2 ⟨rfl, hb2⟩
          rw [show (⟨nm.toArray⟩ : ByteArray).data.toList = nm from rfl, ← HZ.out]
          have hbb := hb.trans (hb2.mono hb.size)
          go_wp2_with fail
          refine (HDB.out w2 (hE.below hbb) HZL.out).mono ?_
          rintro e w3 ⟨rfl, hb3⟩
          rw [HD.out]
          unfold bytesVal
          simp only [Option.getD_some, Option.isSome_some]
          rw [HY.out]
          go_wp2_with fail
          go_ret2
          exact ⟨put_someR HR.out rfl, hbb.trans (hb3.mono hbb.size)⟩
        · skip
          clear hz
          unfold noteV
          go_wp2_with fail
          refine (noteText ⟨z.toArray⟩ w1).mono ?_
          rintro e w2 ⟨rfl, hb2⟩
          have hbb := hb.trans (hb2.mono hb.size)
          go_wp2_with fail
          refine (HDB.out w2 (hE.below hbb) HZL.out).mono ?_
          rintro e w3 ⟨rfl, hb3⟩
          rw [HD.out]
          unfold bytesVal
          simp only [Option.getD_some, Option.isSome_some]
          rw [HY.out]
          go_wp2_with fail
          go_ret2
          exact ⟨put_someR HR.out rfl, hbb.trans (hb3.mono hbb.size)⟩
      · have HR : Hid (readR k s.data.toList = none) := HNO.out (by rw [hD]; exact fun h => hyb (Option.some.inj h))
        have e5 : (y == s.toList) = false := by rw [ByteArray.toList_eq]; simpa using hyb
        clear hD hyb
        go_enter Tryz.func10, Tryz.ntmps10
        go_wp2_with fail
        refine HU.out.mono ?_
        rintro e w1 ⟨v, rfl, hv, hb⟩
        have hv := hv z HC.out
        have HZL : Hid (z.length ≤ 1048576) := HUN.out v hv
        rw [HC.out]
        have hE1 := hE.below hb
        rcases hv with ⟨rfl, h4, rfl, hz⟩ | ⟨hk, h60, rfl⟩ | ⟨rfl, hr, rfl, hz⟩ | ⟨rfl, nm, h60, hr, rfl, hz⟩ | ⟨rfl, hz, rfl⟩
        · unfold addrV
          obtain ⟨a, b, c, d, hy⟩ := four_of h4
          rw [hy] at hz ⊢
          clear hy h4
          simp only [List.map_cons, List.map_nil] at hz ⊢
          have HZ : Hid (z = joinD [numL a.toNat, numL b.toNat, numL c.toNat, numL d.toNat]) := hz
          clear hz
          go_wp2_with fail
          refine (addressText a b c d w1 hE1).mono ?_
          rintro e w2 ⟨rfl, hb2⟩
          rw [← HZ.out]
          have hbb := hb.trans (hb2.mono hb.size)
          go_wp2_with fail
          refine (HDB.out w2 (hE.below hbb) HZL.out).mono ?_
          rintro e w3 ⟨rfl, hb3⟩
          rw [HD.out]
          unfold bytesVal
          simp only [Option.getD_some, Option.isSome_some]
          go_wp2_with fail
          go_ret2
          exact ⟨put_noneR HR.out, hbb.trans (hb3.mono hbb.size)⟩
        · skip
          clear hk h60
          unfold hostV
          go_wp2_with fail
          refine (hostText ⟨z.toArray⟩ w1).mono ?_
          rintro e w2 ⟨rfl, hb2⟩
          have hbb := hb.trans (hb2.mono hb.size)
          go_wp2_with fail
          refine (HDB.out w2 (hE.below hbb) HZL.out).mono ?_
          rintro e w3 ⟨rfl, hb3⟩
          rw [HD.out]
          unfold bytesVal
          simp only [Option.getD_some, Option.isSome_some]
          go_wp2_with fail
          go_ret2
          exact ⟨put_noneR HR.out, hbb.trans (hb3.mono hbb.size)⟩
        · skip
          have HZ : Hid (z = numL (rdN s.data.toList)) := hz
          clear hz
          obtain ⟨n, hn⟩ : ∃ n, n = rdN s.data.toList := ⟨_, rfl⟩
          unfold serV
          rw [← hn] at HZ hr ⊢
          clear hn
          go_wp2_with fail
          refine (serialText n w1 hr hE1).mono ?_
          rintro e w2 ⟨rfl, hb2⟩
          rw [← HZ.out]
          have hbb := hb.trans (hb2.mono hb.size)
          go_wp2_with fail
          refine (HDB.out w2 (hE.below hbb) HZL.out).mono ?_
          rintro e w3 ⟨rfl, hb3⟩
          rw [HD.out]
          unfold bytesVal
          simp only [Option.getD_some, Option.isSome_some]
          go_wp2_with fail
          go_ret2
          exact ⟨put_noneR HR.out, hbb.trans (hb3.mono hbb.size)⟩
        · skip
          have HZ : Hid (z = numL (rdN (s.data.toList.take 2)) ++ (32 :: nm)) := hz
          clear hz
          obtain ⟨n, hn⟩ : ∃ n, n = rdN (s.data.toList.take 2) := ⟨_, rfl⟩
          unfold exV
          rw [← hn] at HZ hr ⊢
          have hnl : (⟨nm.toArray⟩ : ByteArray).size ≤ 60 := by rw [size_list]; exact h60
          clear hn h60
          go_wp2_with fail
          refine (exchangeText n ⟨nm.toArray⟩ w1 hr hnl hE1).mono ?_
          rintro e w2 ⟨rfl, hb2⟩
          rw [show (⟨nm.toArray⟩ : ByteArray).data.toList = nm from rfl, ← HZ.out]
          have hbb := hb.trans (hb2.mono hb.size)
          go_wp2_with fail
          refine (HDB.out w2 (hE.below hbb) HZL.out).mono ?_
          rintro e w3 ⟨rfl, hb3⟩
          rw [HD.out]
          unfold bytesVal
          simp only [Option.getD_some, Option.isSome_some]
          go_wp2_with fail
          go_ret2
          exact ⟨put_noneR HR.out, hbb.trans (hb3.mono hbb.size)⟩
        · skip
          clear hz
          unfold noteV
          go_wp2_with fail
          refine (noteText ⟨z.toArray⟩ w1).mono ?_
          rintro e w2 ⟨rfl, hb2⟩
          have hbb := hb.trans (hb2.mono hb.size)
          go_wp2_with fail
          refine (HDB.out w2 (hE.below hbb) HZL.out).mono ?_
          rintro e w3 ⟨rfl, hb3⟩
          rw [HD.out]
          unfold bytesVal
          simp only [Option.getD_some, Option.isSome_some]
          go_wp2_with fail
          go_ret2
          exact ⟨put_noneR HR.out, hbb.trans (hb3.mono hbb.size)⟩
end Go.Proofs.YtdmellmmhipncaaGreatDoor
