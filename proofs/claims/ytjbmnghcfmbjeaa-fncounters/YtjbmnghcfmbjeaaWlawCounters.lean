import Derived.Test.YtjbmnghcfmbjeaaDrwN
import Derived.Test.YtjbmnghcfmbjeaaWCounterFor
namespace Go.Proofs.Ytjbmnghcfmbjeaa
open counterFor (cntV)

/-- A counter is found again from its serial, as long as it is near. -/
theorem near_back {n near : Int} (hn : 0 ≤ n ∧ n ≤ 1152921504606846976) (hr : 0 ≤ near ∧ near ≤ 1152921504606846976) (hd : -1000000 ≤ n - near ∧ n - near ≤ 1000000) : cntV (n % 4294967296) near = .tuple #[.int .i64 n, .bool true] := by
  have h1 : serB (n % 4294967296) = true := by simp only [serB, inB, Bool.and_eq_true, decide_eq_true_eq]; omega
  have h2 : inB near 0 1152921504606846976 = true := by simp only [inB, Bool.and_eq_true, decide_eq_true_eq]; omega
  have hB : base5 (n % 4294967296) near = n - 4294967296 ∨ base5 (n % 4294967296) near = n ∨ base5 (n % 4294967296) near = n + 4294967296 := by unfold base5; omega
  have hi : inB n 0 1152921504606846976 = true := by simp only [inB, Bool.and_eq_true, decide_eq_true_eq]; omega
  have hf : ∀ x, far x near = if x < near then near - x else x - near := fun _ => rfl
  have key : cf (base5 (n % 4294967296) near) near 3 = some n := by
    have close : ∀ (o : Option Int), (∀ b, o = some b → far n near < far b near) → stepO near o n = some n := fun o ho => by
      unfold stepO; rw [hi]
      cases o with
      | none => rfl
      | some b => simp [ho b rfl]
    have stay : ∀ x, far n near < far x near → stepO near (some n) x = some n := fun x hx => by
      unfold stepO
      split
      · simp only; rw [if_neg (by omega)]
      · rfl
    have other : ∀ (o : Option Int) x, (∀ b, o = some b → far n near < far b near) → far n near < far x near → ∀ b, stepO near o x = some b → far n near < far b near := fun o x ho hx b hb => by
      unfold stepO at hb
      split at hb
      · cases o with
        | none => cases hb; exact hx
        | some c =>
          simp only at hb
          split at hb
          · cases hb; exact hx
          · cases hb; exact ho _ rfl
      · exact ho b hb
    rcases hB with hB | hB | hB <;> rw [hB] <;> show stepO _ (stepO _ (stepO _ none (cand _ 0)) (cand _ 1)) (cand _ 2) = _ <;> rw [cand0, cand1, cand2]
    · rw [show n - 4294967296 + 4294967296 = n by omega]
      refine close _ (other _ _ (other _ _ (fun b hb => by cases hb) ?_) ?_) <;> (rw [hf, hf]; split <;> split <;> omega)
    · rw [close _ (other _ _ (fun b hb => by cases hb) (by rw [hf, hf]; split <;> split <;> omega))]
      exact stay _ (by rw [hf, hf]; split <;> split <;> omega)
    · rw [show n + 4294967296 - 4294967296 = n by omega, close none (fun b hb => by cases hb), stay _ (by rw [hf, hf]; split <;> split <;> omega)]
      exact stay _ (by rw [hf, hf]; split <;> split <;> omega)
  unfold cntV
  rw [h1, h2, key]; rfl
theorem of_yes {n : Int} (h : inB n 0 1152921504606846976 = true) : ofV n = .tuple #[.int .i64 (n % 4294967296), .bool true] := by unfold ofV; rw [h]; rfl
theorem of_no {n : Int} (h : inB n 0 1152921504606846976 = false) : ofV n = .tuple #[.int .i64 0, .bool false] := by unfold ofV; rw [h]; rfl
theorem of_next {n : Int} (hn : 0 ≤ n ∧ n < 1152921504606846976) : ∃ t : Int, ofV (n + 1) = .tuple #[.int .i64 t, .bool true] ∧ addV (n % 4294967296) 1 = .tuple #[.int .i64 t, .bool true] := by
  have h1 : inB (n + 1) 0 1152921504606846976 = true := by simp only [inB, Bool.and_eq_true, decide_eq_true_eq]; omega
  have h2 : serB (n % 4294967296) = true := by simp only [serB, inB, Bool.and_eq_true, decide_eq_true_eq]; omega
  refine ⟨(n + 1) % 4294967296, of_yes h1, ?_⟩
  unfold addV
  rw [h2, show inB 1 0 2147483647 = true from rfl, show (n % 4294967296 + 1) % 4294967296 = (n + 1) % 4294967296 by omega]; rfl
/-- None of a list is newer than its newest one. -/
theorem nw_none {L : List Int} {x : Int} (h : nwO L = some x) : ∀ o ∈ L, lesV x o = .tuple #[.bool false, .bool true] := by
  unfold nwO at h
  split at h
  · rename_i hc
    have hall := (Bool.and_eq_true_iff.1 hc).2
    have hx := List.mem_of_find?_eq_some h
    have hp := List.find?_some h
    intro o ho
    have h1 := List.all_eq_true.1 hp o ho
    have sx := List.all_eq_true.1 hall x hx
    have so := List.all_eq_true.1 hall o ho
    unfold okB at h1
    unfold lesV
    rw [sx, so]
    cases ht : tldB x o <;> cases hn : newB x o <;> rw [ht, hn] at h1 <;> first | rfl | cases h1
  · cases h
end Go.Proofs.Ytjbmnghcfmbjeaa
namespace Go.Proofs.Ytjbmnghcfmbjeaa.lawCounters
open Go.RowKit
open counterFor (cntV)

theorem slice_inj {a b : Option Addr} {n c d : Nat} (h : Value.slice a n c = .slice b n d) : a = b ∧ c = d := by cases h; exact ⟨rfl, rfl⟩

set_option maxRecDepth 20000 in
set_option maxHeartbeats 8000000 in
theorem walk (v : Value) (P : List Int) (u : Value) (R : List Int) (w : World) (hr : ZRow .u8 w v P) (hb : Hid (∀ x ∈ P, 0 ≤ x ∧ x ≤ 255)) (hr2 : ZRow .u8 w u R) (hb2 : Hid (∀ x ∈ R, 0 ≤ x ∧ x ≤ 255)) :
    Calls Try.prog 4 #[v, u] w fun e w' => e = .returned (.bool true) ∧ Below w.heap.size w w' := by
  have HR : Hid (ZRow .u8 w v P) := hr
  have HR2 : Hid (ZRow .u8 w u R) := hr2
  obtain ⟨a1, cap1, rfl, hcap1, hmax1, _⟩ := zrow_value hr
  obtain ⟨a2, cap2, rfl, hcap2, hmax2, _⟩ := zrow_value hr2
  clear hr hr2
  by_cases hbig : (1048576 : Int) < wrap64 ((P.length : Int) + (R.length : Int))
  · go_enter Try.func4, Try.ntmps4
    go_wp2_with fail
    go_ret
    exact ⟨rfl, Below.refl _ _⟩
  · go_enter Try.func4, Try.ntmps4
    go_wp2_with fail
    refine (drawSerialOf_any _ P _ HR.out hb (by omega)).mono ?_
    rintro e w1 ⟨n, ⟨rfl, hn⟩, hb1⟩
    have hb1z := hb1.size
    have hle2 : R.length ≤ 9223372036854775807 := by omega
    have HR2' : Hid (ZRow .u8 w1 (.slice a2 R.length cap2) R) := HR2.out.kept hb1
    cases hok : inB n 0 1152921504606846976 with
    | false =>
      have HX : Hid (ofV n = .tuple #[.int .i64 0, .bool false]) := of_no hok
      clear hok
      go_wp2_with fail
      refine (iSerialOf_any _ _).mono ?_
      rintro e w2 ⟨rfl, rfl⟩
      rw [HX.out]
      go_wp2_with fail
      refine (sSerialOf_any _ _).mono ?_
      rintro e w2 ⟨rfl, rfl⟩
      rw [HX.out]
      go_wp2_with fail
      refine (drawCounterFor_any _ R _ HR2'.out hb2 hle2).mono ?_
      rintro e w3 ⟨sr, nr, ⟨rfl, hsr, hnr⟩, hb3⟩
      have hb03 : Below w.heap.size w w3 := hb1.trans (hb3.mono hb1z)
      have HR3 : Hid (ZRow .u8 w3 (.slice a2 R.length cap2) R) := HR2'.out.kept hb3
      clear hb3
      obtain ⟨c, ci, hcv⟩ : ∃ x b0, cntV sr nr = .tuple #[.int .i64 x, .bool b0] := ⟨_, _, rfl⟩
      have HCV : Hid (cntV sr nr = .tuple #[.int .i64 c, .bool ci]) := hcv
      clear hcv
      have d1 : (c != c) = false := by simp
      have d2 : (ci != ci) = false := by simp
      go_wp2_with fail
      refine (counterFor.iAll _ _ _).mono ?_
      rintro e w4 ⟨rfl, rfl⟩
      rw [HCV.out]
      go_wp2_with fail
      refine (counterFor.sAll _ _ _).mono ?_
      rintro e w5 ⟨rfl, hb5⟩
      rw [HCV.out]
      have hb05 : Below w.heap.size w w5 := hb03.trans (hb5.mono hb03.size)
      have HR5 : Hid (ZRow .u8 w5 (.slice a2 R.length cap2) R) := HR3.out.kept hb5
      clear hb5
      go_wp2_with fail
      refine (drawNewestOf_any _ R _ HR5.out hb2 hle2).mono ?_
      rintro e w6 ⟨u, L, rfl, hrl, hlen, hb6⟩
      have hb06 : Below w.heap.size w w6 := hb05.trans (hb6.mono hb05.size)
      clear hb6
      have HL6 : Hid (ZRow .i64 w6 u L) := hrl
      obtain ⟨al, capl, rfl, hcapl, hmaxl, _⟩ := zrow_value hrl
      clear hrl
      cases hnw : nwO L with
      | none =>
        have HNV : Hid (nwV L = .tuple #[.int .i64 0, .bool false]) := by show _ = _; unfold nwV; rw [hnw]; rfl
        clear hnw
        go_wp2_with fail
        refine (iNewestOf_any _ L _ HL6.out).mono ?_
        rintro e w7 ⟨rfl, hb7⟩
        rw [HNV.out]
        have hb07 : Below w.heap.size w w7 := hb06.trans (hb7.mono hb06.size)
        have HL7 : Hid (ZRow .i64 w7 (.slice al L.length capl) L) := HL6.out.kept hb7
        clear hb7
        go_wp2_with fail
        refine (sNewestOf_any _ L _ HL7.out (by omega)).mono ?_
        rintro e w8 ⟨rfl, rfl⟩
        rw [HNV.out]
        go_wp2_with fail
        obtain ⟨_, _, hinj, _, _, HROW⟩ := zrow_value HL7.out
        obtain ⟨rfl, rfl⟩ := slice_inj hinj
        clear hinj
        go_loopw [156] (fun i wr => ∃ k : Nat, k ≤ L.length ∧ i = .int .i64 (k : Int) ∧ wr = w8) (fun i _ => L.length - (intOf i).toNat)
        case atStart => exact ⟨0, Nat.zero_le _, rfl, rfl⟩
        case round =>
          obtain ⟨k, hk, rfl, rfl⟩ := hrel
          by_cases hlt : k < L.length
          · obtain ⟨b, o, ha, hbl, hc⟩ := HROW.out (by omega)
            rw [ha]
            have hcx := hc k hlt
            obtain ⟨y, hy⟩ : ∃ y, y = L[k]'hlt := ⟨_, rfl⟩
            rw [← hy] at hcx
            clear hc hy
            go_wp2_with fail
            go_roundw
            case rel => exact ⟨k + 1, by omega, by go_num, by trivial⟩
            case measure => simp [intOf]; omega
          · go_wp2_with fail
            go_ret
            exact ⟨rfl, hb07⟩
      | some x =>
        have HNV : Hid (nwV L = .tuple #[.int .i64 x, .bool true]) := by show _ = _; unfold nwV; rw [hnw]; rfl
        have HALL : Hid (∀ o ∈ L, lesV x o = .tuple #[.bool false, .bool true]) := nw_none hnw
        have d3 : (x != x) = false := by simp
        clear hnw
        go_wp2_with fail
        refine (iNewestOf_any _ L _ HL6.out).mono ?_
        rintro e w7 ⟨rfl, hb7⟩
        rw [HNV.out]
        have hb07 : Below w.heap.size w w7 := hb06.trans (hb7.mono hb06.size)
        have HL7 : Hid (ZRow .i64 w7 (.slice al L.length capl) L) := HL6.out.kept hb7
        clear hb7
        go_wp2_with fail
        refine (sNewestOf_any _ L _ HL7.out (by omega)).mono ?_
        rintro e w8 ⟨rfl, rfl⟩
        rw [HNV.out]
        go_wp2_with fail
        obtain ⟨_, _, hinj, _, _, HROW⟩ := zrow_value HL7.out
        obtain ⟨rfl, rfl⟩ := slice_inj hinj
        clear hinj
        go_loopw [156] (fun i wr => ∃ k : Nat, k ≤ L.length ∧ i = .int .i64 (k : Int) ∧ wr = w8) (fun i _ => L.length - (intOf i).toNat)
        case atStart => exact ⟨0, Nat.zero_le _, rfl, rfl⟩
        case round =>
          obtain ⟨k, hk, rfl, rfl⟩ := hrel
          by_cases hlt : k < L.length
          · obtain ⟨b, o, ha, hbl, hc⟩ := HROW.out (by omega)
            rw [ha]
            have hcx := hc k hlt
            have HM : Hid (lesV x (L[k]'hlt) = .tuple #[.bool false, .bool true]) := HALL.out _ (List.getElem_mem hlt)
            obtain ⟨y, hy⟩ : ∃ y, y = L[k]'hlt := ⟨_, rfl⟩
            rw [← hy] at hcx HM
            clear hc hy
            go_wp2_with fail
            refine (iSerialLess_any _ _ _).mono ?_
            rintro e w9 ⟨rfl, rfl⟩
            rw [HM.out]
            go_wp2_with fail
            go_roundw
            case rel => exact ⟨k + 1, by omega, by go_num, by trivial⟩
            case measure => simp [intOf]; omega
          · go_wp2_with fail
            go_ret
            exact ⟨rfl, hb07⟩
    | true =>
      have hn2 : 0 ≤ n ∧ n ≤ 1152921504606846976 := by simpa [inB] using hok
      have HX : Hid (ofV n = .tuple #[.int .i64 (n % 4294967296), .bool true]) := of_yes hok
      have HNX : Hid (n < 1152921504606846976 → ∃ t : Int, ofV (n + 1) = .tuple #[.int .i64 t, .bool true] ∧ addV (n % 4294967296) 1 = .tuple #[.int .i64 t, .bool true]) := fun h => of_next ⟨hn2.1, h⟩
      have HNB : Hid (∀ near : Int, (0 ≤ near ∧ near ≤ 1152921504606846976) → (-1000000 ≤ n - near ∧ n - near ≤ 1000000) → cntV (n % 4294967296) near = .tuple #[.int .i64 n, .bool true]) := fun near h1 h2 => near_back hn2 h1 h2
      clear hok
      have d5 : (n != n) = false := by simp
      obtain ⟨s, hs⟩ : ∃ s, s = n % 4294967296 := ⟨_, rfl⟩
      rw [← hs] at HX HNX HNB
      have d6 : (s != s) = false := by simp
      clear hs
      go_wp2_with fail
      refine (iSerialOf_any _ _).mono ?_
      rintro e w2 ⟨rfl, rfl⟩
      rw [HX.out]
      go_wp2_with fail
      refine (sSerialOf_any _ _).mono ?_
      rintro e w2 ⟨rfl, rfl⟩
      rw [HX.out]
      go_wp2_with fail
      refine (numberOf_any _ R _ HR2'.out hb2).mono ?_
      rintro e w2 ⟨m, rfl, hm, rfl⟩
      rcases (show n + m - 500000 < 0 ∨ (0 ≤ n + m - 500000 ∧ n + m - 500000 ≤ 1152921504606846976) ∨ 1152921504606846976 < n + m - 500000 by omega) with hnr | hnr | hnr
      · by_cases hlt : n < 1152921504606846976
        · obtain ⟨t, ht1, ht2⟩ := HNX.out hlt
          have HT1 : Hid (ofV (n + 1) = .tuple #[.int .i64 t, .bool true]) := ht1
          have HT2 : Hid (addV s 1 = .tuple #[.int .i64 t, .bool true]) := ht2
          clear ht1 ht2
          have d7 : (t != t) = false := by simp
          go_wp2_with fail
          refine (iSerialOf_any _ _).mono ?_
          rintro e w2 ⟨rfl, rfl⟩
          rw [HT1.out]
          go_wp2_with fail
          refine (iSerialAdd_any _ _ _).mono ?_
          rintro e w2 ⟨rfl, rfl⟩
          rw [HT2.out]
          go_wp2_with fail
          refine (drawCounterFor_any _ R _ HR2'.out hb2 hle2).mono ?_
          rintro e w3 ⟨sr, nr, ⟨rfl, hsr, hnr⟩, hb3⟩
          have hb03 : Below w.heap.size w w3 := hb1.trans (hb3.mono hb1z)
          have HR3 : Hid (ZRow .u8 w3 (.slice a2 R.length cap2) R) := HR2'.out.kept hb3
          clear hb3
          obtain ⟨c, ci, hcv⟩ : ∃ x b0, cntV sr nr = .tuple #[.int .i64 x, .bool b0] := ⟨_, _, rfl⟩
          have HCV : Hid (cntV sr nr = .tuple #[.int .i64 c, .bool ci]) := hcv
          clear hcv
          have d1 : (c != c) = false := by simp
          have d2 : (ci != ci) = false := by simp
          go_wp2_with fail
          refine (counterFor.iAll _ _ _).mono ?_
          rintro e w4 ⟨rfl, rfl⟩
          rw [HCV.out]
          go_wp2_with fail
          refine (counterFor.sAll _ _ _).mono ?_
          rintro e w5 ⟨rfl, hb5⟩
          rw [HCV.out]
          have hb05 : Below w.heap.size w w5 := hb03.trans (hb5.mono hb03.size)
          have HR5 : Hid (ZRow .u8 w5 (.slice a2 R.length cap2) R) := HR3.out.kept hb5
          clear hb5
          go_wp2_with fail
          refine (drawNewestOf_any _ R _ HR5.out hb2 hle2).mono ?_
          rintro e w6 ⟨u, L, rfl, hrl, hlen, hb6⟩
          have hb06 : Below w.heap.size w w6 := hb05.trans (hb6.mono hb05.size)
          clear hb6
          have HL6 : Hid (ZRow .i64 w6 u L) := hrl
          obtain ⟨al, capl, rfl, hcapl, hmaxl, _⟩ := zrow_value hrl
          clear hrl
          cases hnw : nwO L with
          | none =>
            have HNV : Hid (nwV L = .tuple #[.int .i64 0, .bool false]) := by show _ = _; unfold nwV; rw [hnw]; rfl
            clear hnw
            go_wp2_with fail
            refine (iNewestOf_any _ L _ HL6.out).mono ?_
            rintro e w7 ⟨rfl, hb7⟩
            rw [HNV.out]
            have hb07 : Below w.heap.size w w7 := hb06.trans (hb7.mono hb06.size)
            have HL7 : Hid (ZRow .i64 w7 (.slice al L.length capl) L) := HL6.out.kept hb7
            clear hb7
            go_wp2_with fail
            refine (sNewestOf_any _ L _ HL7.out (by omega)).mono ?_
            rintro e w8 ⟨rfl, rfl⟩
            rw [HNV.out]
            go_wp2_with fail
            obtain ⟨_, _, hinj, _, _, HROW⟩ := zrow_value HL7.out
            obtain ⟨rfl, rfl⟩ := slice_inj hinj
            clear hinj
            go_loopw [156] (fun i wr => ∃ k : Nat, k ≤ L.length ∧ i = .int .i64 (k : Int) ∧ wr = w8) (fun i _ => L.length - (intOf i).toNat)
            case atStart => exact ⟨0, Nat.zero_le _, rfl, rfl⟩
            case round =>
              obtain ⟨k, hk, rfl, rfl⟩ := hrel
              by_cases hlt : k < L.length
              · obtain ⟨b, o, ha, hbl, hc⟩ := HROW.out (by omega)
                rw [ha]
                have hcx := hc k hlt
                obtain ⟨y, hy⟩ : ∃ y, y = L[k]'hlt := ⟨_, rfl⟩
                rw [← hy] at hcx
                clear hc hy
                go_wp2_with fail
                go_roundw
                case rel => exact ⟨k + 1, by omega, by go_num, by trivial⟩
                case measure => simp [intOf]; omega
              · go_wp2_with fail
                go_ret
                exact ⟨rfl, hb07⟩
          | some x =>
            have HNV : Hid (nwV L = .tuple #[.int .i64 x, .bool true]) := by show _ = _; unfold nwV; rw [hnw]; rfl
            have HALL : Hid (∀ o ∈ L, lesV x o = .tuple #[.bool false, .bool true]) := nw_none hnw
            have d3 : (x != x) = false := by simp
            clear hnw
            go_wp2_with fail
            refine (iNewestOf_any _ L _ HL6.out).mono ?_
            rintro e w7 ⟨rfl, hb7⟩
            rw [HNV.out]
            have hb07 : Below w.heap.size w w7 := hb06.trans (hb7.mono hb06.size)
            have HL7 : Hid (ZRow .i64 w7 (.slice al L.length capl) L) := HL6.out.kept hb7
            clear hb7
            go_wp2_with fail
            refine (sNewestOf_any _ L _ HL7.out (by omega)).mono ?_
            rintro e w8 ⟨rfl, rfl⟩
            rw [HNV.out]
            go_wp2_with fail
            obtain ⟨_, _, hinj, _, _, HROW⟩ := zrow_value HL7.out
            obtain ⟨rfl, rfl⟩ := slice_inj hinj
            clear hinj
            go_loopw [156] (fun i wr => ∃ k : Nat, k ≤ L.length ∧ i = .int .i64 (k : Int) ∧ wr = w8) (fun i _ => L.length - (intOf i).toNat)
            case atStart => exact ⟨0, Nat.zero_le _, rfl, rfl⟩
            case round =>
              obtain ⟨k, hk, rfl, rfl⟩ := hrel
              by_cases hlt : k < L.length
              · obtain ⟨b, o, ha, hbl, hc⟩ := HROW.out (by omega)
                rw [ha]
                have hcx := hc k hlt
                have HM : Hid (lesV x (L[k]'hlt) = .tuple #[.bool false, .bool true]) := HALL.out _ (List.getElem_mem hlt)
                obtain ⟨y, hy⟩ : ∃ y, y = L[k]'hlt := ⟨_, rfl⟩
                rw [← hy] at hcx HM
                clear hc hy
                go_wp2_with fail
                refine (iSerialLess_any _ _ _).mono ?_
                rintro e w9 ⟨rfl, rfl⟩
                rw [HM.out]
                go_wp2_with fail
                go_roundw
                case rel => exact ⟨k + 1, by omega, by go_num, by trivial⟩
                case measure => simp [intOf]; omega
              · go_wp2_with fail
                go_ret
                exact ⟨rfl, hb07⟩
        · exfalso; omega
      · by_cases hlt : n < 1152921504606846976
        · obtain ⟨t, ht1, ht2⟩ := HNX.out hlt
          have HT1 : Hid (ofV (n + 1) = .tuple #[.int .i64 t, .bool true]) := ht1
          have HT2 : Hid (addV s 1 = .tuple #[.int .i64 t, .bool true]) := ht2
          clear ht1 ht2
          have d7 : (t != t) = false := by simp
          have HNR : Hid (cntV s (n + m - 500000) = .tuple #[.int .i64 n, .bool true]) := HNB.out _ hnr (by omega)
          go_wp2_with fail
          refine (counterFor.iAll _ _ _).mono ?_
          rintro e w2 ⟨rfl, rfl⟩
          rw [HNR.out]
          go_wp2_with fail
          refine (iSerialOf_any _ _).mono ?_
          rintro e w2 ⟨rfl, rfl⟩
          rw [HT1.out]
          go_wp2_with fail
          refine (iSerialAdd_any _ _ _).mono ?_
          rintro e w2 ⟨rfl, rfl⟩
          rw [HT2.out]
          go_wp2_with fail
          refine (drawCounterFor_any _ R _ HR2'.out hb2 hle2).mono ?_
          rintro e w3 ⟨sr, nr, ⟨rfl, hsr, hnr⟩, hb3⟩
          have hb03 : Below w.heap.size w w3 := hb1.trans (hb3.mono hb1z)
          have HR3 : Hid (ZRow .u8 w3 (.slice a2 R.length cap2) R) := HR2'.out.kept hb3
          clear hb3
          obtain ⟨c, ci, hcv⟩ : ∃ x b0, cntV sr nr = .tuple #[.int .i64 x, .bool b0] := ⟨_, _, rfl⟩
          have HCV : Hid (cntV sr nr = .tuple #[.int .i64 c, .bool ci]) := hcv
          clear hcv
          have d1 : (c != c) = false := by simp
          have d2 : (ci != ci) = false := by simp
          go_wp2_with fail
          refine (counterFor.iAll _ _ _).mono ?_
          rintro e w4 ⟨rfl, rfl⟩
          rw [HCV.out]
          go_wp2_with fail
          refine (counterFor.sAll _ _ _).mono ?_
          rintro e w5 ⟨rfl, hb5⟩
          rw [HCV.out]
          have hb05 : Below w.heap.size w w5 := hb03.trans (hb5.mono hb03.size)
          have HR5 : Hid (ZRow .u8 w5 (.slice a2 R.length cap2) R) := HR3.out.kept hb5
          clear hb5
          go_wp2_with fail
          refine (drawNewestOf_any _ R _ HR5.out hb2 hle2).mono ?_
          rintro e w6 ⟨u, L, rfl, hrl, hlen, hb6⟩
          have hb06 : Below w.heap.size w w6 := hb05.trans (hb6.mono hb05.size)
          clear hb6
          have HL6 : Hid (ZRow .i64 w6 u L) := hrl
          obtain ⟨al, capl, rfl, hcapl, hmaxl, _⟩ := zrow_value hrl
          clear hrl
          cases hnw : nwO L with
          | none =>
            have HNV : Hid (nwV L = .tuple #[.int .i64 0, .bool false]) := by show _ = _; unfold nwV; rw [hnw]; rfl
            clear hnw
            go_wp2_with fail
            refine (iNewestOf_any _ L _ HL6.out).mono ?_
            rintro e w7 ⟨rfl, hb7⟩
            rw [HNV.out]
            have hb07 : Below w.heap.size w w7 := hb06.trans (hb7.mono hb06.size)
            have HL7 : Hid (ZRow .i64 w7 (.slice al L.length capl) L) := HL6.out.kept hb7
            clear hb7
            go_wp2_with fail
            refine (sNewestOf_any _ L _ HL7.out (by omega)).mono ?_
            rintro e w8 ⟨rfl, rfl⟩
            rw [HNV.out]
            go_wp2_with fail
            obtain ⟨_, _, hinj, _, _, HROW⟩ := zrow_value HL7.out
            obtain ⟨rfl, rfl⟩ := slice_inj hinj
            clear hinj
            go_loopw [156] (fun i wr => ∃ k : Nat, k ≤ L.length ∧ i = .int .i64 (k : Int) ∧ wr = w8) (fun i _ => L.length - (intOf i).toNat)
            case atStart => exact ⟨0, Nat.zero_le _, rfl, rfl⟩
            case round =>
              obtain ⟨k, hk, rfl, rfl⟩ := hrel
              by_cases hlt : k < L.length
              · obtain ⟨b, o, ha, hbl, hc⟩ := HROW.out (by omega)
                rw [ha]
                have hcx := hc k hlt
                obtain ⟨y, hy⟩ : ∃ y, y = L[k]'hlt := ⟨_, rfl⟩
                rw [← hy] at hcx
                clear hc hy
                go_wp2_with fail
                go_roundw
                case rel => exact ⟨k + 1, by omega, by go_num, by trivial⟩
                case measure => simp [intOf]; omega
              · go_wp2_with fail
                go_ret
                exact ⟨rfl, hb07⟩
          | some x =>
            have HNV : Hid (nwV L = .tuple #[.int .i64 x, .bool true]) := by show _ = _; unfold nwV; rw [hnw]; rfl
            have HALL : Hid (∀ o ∈ L, lesV x o = .tuple #[.bool false, .bool true]) := nw_none hnw
            have d3 : (x != x) = false := by simp
            clear hnw
            go_wp2_with fail
            refine (iNewestOf_any _ L _ HL6.out).mono ?_
            rintro e w7 ⟨rfl, hb7⟩
            rw [HNV.out]
            have hb07 : Below w.heap.size w w7 := hb06.trans (hb7.mono hb06.size)
            have HL7 : Hid (ZRow .i64 w7 (.slice al L.length capl) L) := HL6.out.kept hb7
            clear hb7
            go_wp2_with fail
            refine (sNewestOf_any _ L _ HL7.out (by omega)).mono ?_
            rintro e w8 ⟨rfl, rfl⟩
            rw [HNV.out]
            go_wp2_with fail
            obtain ⟨_, _, hinj, _, _, HROW⟩ := zrow_value HL7.out
            obtain ⟨rfl, rfl⟩ := slice_inj hinj
            clear hinj
            go_loopw [156] (fun i wr => ∃ k : Nat, k ≤ L.length ∧ i = .int .i64 (k : Int) ∧ wr = w8) (fun i _ => L.length - (intOf i).toNat)
            case atStart => exact ⟨0, Nat.zero_le _, rfl, rfl⟩
            case round =>
              obtain ⟨k, hk, rfl, rfl⟩ := hrel
              by_cases hlt : k < L.length
              · obtain ⟨b, o, ha, hbl, hc⟩ := HROW.out (by omega)
                rw [ha]
                have hcx := hc k hlt
                have HM : Hid (lesV x (L[k]'hlt) = .tuple #[.bool false, .bool true]) := HALL.out _ (List.getElem_mem hlt)
                obtain ⟨y, hy⟩ : ∃ y, y = L[k]'hlt := ⟨_, rfl⟩
                rw [← hy] at hcx HM
                clear hc hy
                go_wp2_with fail
                refine (iSerialLess_any _ _ _).mono ?_
                rintro e w9 ⟨rfl, rfl⟩
                rw [HM.out]
                go_wp2_with fail
                go_roundw
                case rel => exact ⟨k + 1, by omega, by go_num, by trivial⟩
                case measure => simp [intOf]; omega
              · go_wp2_with fail
                go_ret
                exact ⟨rfl, hb07⟩
        · have HNR : Hid (cntV s (n + m - 500000) = .tuple #[.int .i64 n, .bool true]) := HNB.out _ hnr (by omega)
          go_wp2_with fail
          refine (counterFor.iAll _ _ _).mono ?_
          rintro e w2 ⟨rfl, rfl⟩
          rw [HNR.out]
          go_wp2_with fail
          refine (drawCounterFor_any _ R _ HR2'.out hb2 hle2).mono ?_
          rintro e w3 ⟨sr, nr, ⟨rfl, hsr, hnr⟩, hb3⟩
          have hb03 : Below w.heap.size w w3 := hb1.trans (hb3.mono hb1z)
          have HR3 : Hid (ZRow .u8 w3 (.slice a2 R.length cap2) R) := HR2'.out.kept hb3
          clear hb3
          obtain ⟨c, ci, hcv⟩ : ∃ x b0, cntV sr nr = .tuple #[.int .i64 x, .bool b0] := ⟨_, _, rfl⟩
          have HCV : Hid (cntV sr nr = .tuple #[.int .i64 c, .bool ci]) := hcv
          clear hcv
          have d1 : (c != c) = false := by simp
          have d2 : (ci != ci) = false := by simp
          go_wp2_with fail
          refine (counterFor.iAll _ _ _).mono ?_
          rintro e w4 ⟨rfl, rfl⟩
          rw [HCV.out]
          go_wp2_with fail
          refine (counterFor.sAll _ _ _).mono ?_
          rintro e w5 ⟨rfl, hb5⟩
          rw [HCV.out]
          have hb05 : Below w.heap.size w w5 := hb03.trans (hb5.mono hb03.size)
          have HR5 : Hid (ZRow .u8 w5 (.slice a2 R.length cap2) R) := HR3.out.kept hb5
          clear hb5
          go_wp2_with fail
          refine (drawNewestOf_any _ R _ HR5.out hb2 hle2).mono ?_
          rintro e w6 ⟨u, L, rfl, hrl, hlen, hb6⟩
          have hb06 : Below w.heap.size w w6 := hb05.trans (hb6.mono hb05.size)
          clear hb6
          have HL6 : Hid (ZRow .i64 w6 u L) := hrl
          obtain ⟨al, capl, rfl, hcapl, hmaxl, _⟩ := zrow_value hrl
          clear hrl
          cases hnw : nwO L with
          | none =>
            have HNV : Hid (nwV L = .tuple #[.int .i64 0, .bool false]) := by show _ = _; unfold nwV; rw [hnw]; rfl
            clear hnw
            go_wp2_with fail
            refine (iNewestOf_any _ L _ HL6.out).mono ?_
            rintro e w7 ⟨rfl, hb7⟩
            rw [HNV.out]
            have hb07 : Below w.heap.size w w7 := hb06.trans (hb7.mono hb06.size)
            have HL7 : Hid (ZRow .i64 w7 (.slice al L.length capl) L) := HL6.out.kept hb7
            clear hb7
            go_wp2_with fail
            refine (sNewestOf_any _ L _ HL7.out (by omega)).mono ?_
            rintro e w8 ⟨rfl, rfl⟩
            rw [HNV.out]
            go_wp2_with fail
            obtain ⟨_, _, hinj, _, _, HROW⟩ := zrow_value HL7.out
            obtain ⟨rfl, rfl⟩ := slice_inj hinj
            clear hinj
            go_loopw [156] (fun i wr => ∃ k : Nat, k ≤ L.length ∧ i = .int .i64 (k : Int) ∧ wr = w8) (fun i _ => L.length - (intOf i).toNat)
            case atStart => exact ⟨0, Nat.zero_le _, rfl, rfl⟩
            case round =>
              obtain ⟨k, hk, rfl, rfl⟩ := hrel
              by_cases hlt : k < L.length
              · obtain ⟨b, o, ha, hbl, hc⟩ := HROW.out (by omega)
                rw [ha]
                have hcx := hc k hlt
                obtain ⟨y, hy⟩ : ∃ y, y = L[k]'hlt := ⟨_, rfl⟩
                rw [← hy] at hcx
                clear hc hy
                go_wp2_with fail
                go_roundw
                case rel => exact ⟨k + 1, by omega, by go_num, by trivial⟩
                case measure => simp [intOf]; omega
              · go_wp2_with fail
                go_ret
                exact ⟨rfl, hb07⟩
          | some x =>
            have HNV : Hid (nwV L = .tuple #[.int .i64 x, .bool true]) := by show _ = _; unfold nwV; rw [hnw]; rfl
            have HALL : Hid (∀ o ∈ L, lesV x o = .tuple #[.bool false, .bool true]) := nw_none hnw
            have d3 : (x != x) = false := by simp
            clear hnw
            go_wp2_with fail
            refine (iNewestOf_any _ L _ HL6.out).mono ?_
            rintro e w7 ⟨rfl, hb7⟩
            rw [HNV.out]
            have hb07 : Below w.heap.size w w7 := hb06.trans (hb7.mono hb06.size)
            have HL7 : Hid (ZRow .i64 w7 (.slice al L.length capl) L) := HL6.out.kept hb7
            clear hb7
            go_wp2_with fail
            refine (sNewestOf_any _ L _ HL7.out (by omega)).mono ?_
            rintro e w8 ⟨rfl, rfl⟩
            rw [HNV.out]
            go_wp2_with fail
            obtain ⟨_, _, hinj, _, _, HROW⟩ := zrow_value HL7.out
            obtain ⟨rfl, rfl⟩ := slice_inj hinj
            clear hinj
            go_loopw [156] (fun i wr => ∃ k : Nat, k ≤ L.length ∧ i = .int .i64 (k : Int) ∧ wr = w8) (fun i _ => L.length - (intOf i).toNat)
            case atStart => exact ⟨0, Nat.zero_le _, rfl, rfl⟩
            case round =>
              obtain ⟨k, hk, rfl, rfl⟩ := hrel
              by_cases hlt : k < L.length
              · obtain ⟨b, o, ha, hbl, hc⟩ := HROW.out (by omega)
                rw [ha]
                have hcx := hc k hlt
                have HM : Hid (lesV x (L[k]'hlt) = .tuple #[.bool false, .bool true]) := HALL.out _ (List.getElem_mem hlt)
                obtain ⟨y, hy⟩ : ∃ y, y = L[k]'hlt := ⟨_, rfl⟩
                rw [← hy] at hcx HM
                clear hc hy
                go_wp2_with fail
                refine (iSerialLess_any _ _ _).mono ?_
                rintro e w9 ⟨rfl, rfl⟩
                rw [HM.out]
                go_wp2_with fail
                go_roundw
                case rel => exact ⟨k + 1, by omega, by go_num, by trivial⟩
                case measure => simp [intOf]; omega
              · go_wp2_with fail
                go_ret
                exact ⟨rfl, hb07⟩
      · by_cases hlt : n < 1152921504606846976
        · obtain ⟨t, ht1, ht2⟩ := HNX.out hlt
          have HT1 : Hid (ofV (n + 1) = .tuple #[.int .i64 t, .bool true]) := ht1
          have HT2 : Hid (addV s 1 = .tuple #[.int .i64 t, .bool true]) := ht2
          clear ht1 ht2
          have d7 : (t != t) = false := by simp
          go_wp2_with fail
          refine (iSerialOf_any _ _).mono ?_
          rintro e w2 ⟨rfl, rfl⟩
          rw [HT1.out]
          go_wp2_with fail
          refine (iSerialAdd_any _ _ _).mono ?_
          rintro e w2 ⟨rfl, rfl⟩
          rw [HT2.out]
          go_wp2_with fail
          refine (drawCounterFor_any _ R _ HR2'.out hb2 hle2).mono ?_
          rintro e w3 ⟨sr, nr, ⟨rfl, hsr, hnr⟩, hb3⟩
          have hb03 : Below w.heap.size w w3 := hb1.trans (hb3.mono hb1z)
          have HR3 : Hid (ZRow .u8 w3 (.slice a2 R.length cap2) R) := HR2'.out.kept hb3
          clear hb3
          obtain ⟨c, ci, hcv⟩ : ∃ x b0, cntV sr nr = .tuple #[.int .i64 x, .bool b0] := ⟨_, _, rfl⟩
          have HCV : Hid (cntV sr nr = .tuple #[.int .i64 c, .bool ci]) := hcv
          clear hcv
          have d1 : (c != c) = false := by simp
          have d2 : (ci != ci) = false := by simp
          go_wp2_with fail
          refine (counterFor.iAll _ _ _).mono ?_
          rintro e w4 ⟨rfl, rfl⟩
          rw [HCV.out]
          go_wp2_with fail
          refine (counterFor.sAll _ _ _).mono ?_
          rintro e w5 ⟨rfl, hb5⟩
          rw [HCV.out]
          have hb05 : Below w.heap.size w w5 := hb03.trans (hb5.mono hb03.size)
          have HR5 : Hid (ZRow .u8 w5 (.slice a2 R.length cap2) R) := HR3.out.kept hb5
          clear hb5
          go_wp2_with fail
          refine (drawNewestOf_any _ R _ HR5.out hb2 hle2).mono ?_
          rintro e w6 ⟨u, L, rfl, hrl, hlen, hb6⟩
          have hb06 : Below w.heap.size w w6 := hb05.trans (hb6.mono hb05.size)
          clear hb6
          have HL6 : Hid (ZRow .i64 w6 u L) := hrl
          obtain ⟨al, capl, rfl, hcapl, hmaxl, _⟩ := zrow_value hrl
          clear hrl
          cases hnw : nwO L with
          | none =>
            have HNV : Hid (nwV L = .tuple #[.int .i64 0, .bool false]) := by show _ = _; unfold nwV; rw [hnw]; rfl
            clear hnw
            go_wp2_with fail
            refine (iNewestOf_any _ L _ HL6.out).mono ?_
            rintro e w7 ⟨rfl, hb7⟩
            rw [HNV.out]
            have hb07 : Below w.heap.size w w7 := hb06.trans (hb7.mono hb06.size)
            have HL7 : Hid (ZRow .i64 w7 (.slice al L.length capl) L) := HL6.out.kept hb7
            clear hb7
            go_wp2_with fail
            refine (sNewestOf_any _ L _ HL7.out (by omega)).mono ?_
            rintro e w8 ⟨rfl, rfl⟩
            rw [HNV.out]
            go_wp2_with fail
            obtain ⟨_, _, hinj, _, _, HROW⟩ := zrow_value HL7.out
            obtain ⟨rfl, rfl⟩ := slice_inj hinj
            clear hinj
            go_loopw [156] (fun i wr => ∃ k : Nat, k ≤ L.length ∧ i = .int .i64 (k : Int) ∧ wr = w8) (fun i _ => L.length - (intOf i).toNat)
            case atStart => exact ⟨0, Nat.zero_le _, rfl, rfl⟩
            case round =>
              obtain ⟨k, hk, rfl, rfl⟩ := hrel
              by_cases hlt : k < L.length
              · obtain ⟨b, o, ha, hbl, hc⟩ := HROW.out (by omega)
                rw [ha]
                have hcx := hc k hlt
                obtain ⟨y, hy⟩ : ∃ y, y = L[k]'hlt := ⟨_, rfl⟩
                rw [← hy] at hcx
                clear hc hy
                go_wp2_with fail
                go_roundw
                case rel => exact ⟨k + 1, by omega, by go_num, by trivial⟩
                case measure => simp [intOf]; omega
              · go_wp2_with fail
                go_ret
                exact ⟨rfl, hb07⟩
          | some x =>
            have HNV : Hid (nwV L = .tuple #[.int .i64 x, .bool true]) := by show _ = _; unfold nwV; rw [hnw]; rfl
            have HALL : Hid (∀ o ∈ L, lesV x o = .tuple #[.bool false, .bool true]) := nw_none hnw
            have d3 : (x != x) = false := by simp
            clear hnw
            go_wp2_with fail
            refine (iNewestOf_any _ L _ HL6.out).mono ?_
            rintro e w7 ⟨rfl, hb7⟩
            rw [HNV.out]
            have hb07 : Below w.heap.size w w7 := hb06.trans (hb7.mono hb06.size)
            have HL7 : Hid (ZRow .i64 w7 (.slice al L.length capl) L) := HL6.out.kept hb7
            clear hb7
            go_wp2_with fail
            refine (sNewestOf_any _ L _ HL7.out (by omega)).mono ?_
            rintro e w8 ⟨rfl, rfl⟩
            rw [HNV.out]
            go_wp2_with fail
            obtain ⟨_, _, hinj, _, _, HROW⟩ := zrow_value HL7.out
            obtain ⟨rfl, rfl⟩ := slice_inj hinj
            clear hinj
            go_loopw [156] (fun i wr => ∃ k : Nat, k ≤ L.length ∧ i = .int .i64 (k : Int) ∧ wr = w8) (fun i _ => L.length - (intOf i).toNat)
            case atStart => exact ⟨0, Nat.zero_le _, rfl, rfl⟩
            case round =>
              obtain ⟨k, hk, rfl, rfl⟩ := hrel
              by_cases hlt : k < L.length
              · obtain ⟨b, o, ha, hbl, hc⟩ := HROW.out (by omega)
                rw [ha]
                have hcx := hc k hlt
                have HM : Hid (lesV x (L[k]'hlt) = .tuple #[.bool false, .bool true]) := HALL.out _ (List.getElem_mem hlt)
                obtain ⟨y, hy⟩ : ∃ y, y = L[k]'hlt := ⟨_, rfl⟩
                rw [← hy] at hcx HM
                clear hc hy
                go_wp2_with fail
                refine (iSerialLess_any _ _ _).mono ?_
                rintro e w9 ⟨rfl, rfl⟩
                rw [HM.out]
                go_wp2_with fail
                go_roundw
                case rel => exact ⟨k + 1, by omega, by go_num, by trivial⟩
                case measure => simp [intOf]; omega
              · go_wp2_with fail
                go_ret
                exact ⟨rfl, hb07⟩
        · go_wp2_with fail
          refine (drawCounterFor_any _ R _ HR2'.out hb2 hle2).mono ?_
          rintro e w3 ⟨sr, nr, ⟨rfl, hsr, hnr⟩, hb3⟩
          have hb03 : Below w.heap.size w w3 := hb1.trans (hb3.mono hb1z)
          have HR3 : Hid (ZRow .u8 w3 (.slice a2 R.length cap2) R) := HR2'.out.kept hb3
          clear hb3
          obtain ⟨c, ci, hcv⟩ : ∃ x b0, cntV sr nr = .tuple #[.int .i64 x, .bool b0] := ⟨_, _, rfl⟩
          have HCV : Hid (cntV sr nr = .tuple #[.int .i64 c, .bool ci]) := hcv
          clear hcv
          have d1 : (c != c) = false := by simp
          have d2 : (ci != ci) = false := by simp
          go_wp2_with fail
          refine (counterFor.iAll _ _ _).mono ?_
          rintro e w4 ⟨rfl, rfl⟩
          rw [HCV.out]
          go_wp2_with fail
          refine (counterFor.sAll _ _ _).mono ?_
          rintro e w5 ⟨rfl, hb5⟩
          rw [HCV.out]
          have hb05 : Below w.heap.size w w5 := hb03.trans (hb5.mono hb03.size)
          have HR5 : Hid (ZRow .u8 w5 (.slice a2 R.length cap2) R) := HR3.out.kept hb5
          clear hb5
          go_wp2_with fail
          refine (drawNewestOf_any _ R _ HR5.out hb2 hle2).mono ?_
          rintro e w6 ⟨u, L, rfl, hrl, hlen, hb6⟩
          have hb06 : Below w.heap.size w w6 := hb05.trans (hb6.mono hb05.size)
          clear hb6
          have HL6 : Hid (ZRow .i64 w6 u L) := hrl
          obtain ⟨al, capl, rfl, hcapl, hmaxl, _⟩ := zrow_value hrl
          clear hrl
          cases hnw : nwO L with
          | none =>
            have HNV : Hid (nwV L = .tuple #[.int .i64 0, .bool false]) := by show _ = _; unfold nwV; rw [hnw]; rfl
            clear hnw
            go_wp2_with fail
            refine (iNewestOf_any _ L _ HL6.out).mono ?_
            rintro e w7 ⟨rfl, hb7⟩
            rw [HNV.out]
            have hb07 : Below w.heap.size w w7 := hb06.trans (hb7.mono hb06.size)
            have HL7 : Hid (ZRow .i64 w7 (.slice al L.length capl) L) := HL6.out.kept hb7
            clear hb7
            go_wp2_with fail
            refine (sNewestOf_any _ L _ HL7.out (by omega)).mono ?_
            rintro e w8 ⟨rfl, rfl⟩
            rw [HNV.out]
            go_wp2_with fail
            obtain ⟨_, _, hinj, _, _, HROW⟩ := zrow_value HL7.out
            obtain ⟨rfl, rfl⟩ := slice_inj hinj
            clear hinj
            go_loopw [156] (fun i wr => ∃ k : Nat, k ≤ L.length ∧ i = .int .i64 (k : Int) ∧ wr = w8) (fun i _ => L.length - (intOf i).toNat)
            case atStart => exact ⟨0, Nat.zero_le _, rfl, rfl⟩
            case round =>
              obtain ⟨k, hk, rfl, rfl⟩ := hrel
              by_cases hlt : k < L.length
              · obtain ⟨b, o, ha, hbl, hc⟩ := HROW.out (by omega)
                rw [ha]
                have hcx := hc k hlt
                obtain ⟨y, hy⟩ : ∃ y, y = L[k]'hlt := ⟨_, rfl⟩
                rw [← hy] at hcx
                clear hc hy
                go_wp2_with fail
                go_roundw
                case rel => exact ⟨k + 1, by omega, by go_num, by trivial⟩
                case measure => simp [intOf]; omega
              · go_wp2_with fail
                go_ret
                exact ⟨rfl, hb07⟩
          | some x =>
            have HNV : Hid (nwV L = .tuple #[.int .i64 x, .bool true]) := by show _ = _; unfold nwV; rw [hnw]; rfl
            have HALL : Hid (∀ o ∈ L, lesV x o = .tuple #[.bool false, .bool true]) := nw_none hnw
            have d3 : (x != x) = false := by simp
            clear hnw
            go_wp2_with fail
            refine (iNewestOf_any _ L _ HL6.out).mono ?_
            rintro e w7 ⟨rfl, hb7⟩
            rw [HNV.out]
            have hb07 : Below w.heap.size w w7 := hb06.trans (hb7.mono hb06.size)
            have HL7 : Hid (ZRow .i64 w7 (.slice al L.length capl) L) := HL6.out.kept hb7
            clear hb7
            go_wp2_with fail
            refine (sNewestOf_any _ L _ HL7.out (by omega)).mono ?_
            rintro e w8 ⟨rfl, rfl⟩
            rw [HNV.out]
            go_wp2_with fail
            obtain ⟨_, _, hinj, _, _, HROW⟩ := zrow_value HL7.out
            obtain ⟨rfl, rfl⟩ := slice_inj hinj
            clear hinj
            go_loopw [156] (fun i wr => ∃ k : Nat, k ≤ L.length ∧ i = .int .i64 (k : Int) ∧ wr = w8) (fun i _ => L.length - (intOf i).toNat)
            case atStart => exact ⟨0, Nat.zero_le _, rfl, rfl⟩
            case round =>
              obtain ⟨k, hk, rfl, rfl⟩ := hrel
              by_cases hlt : k < L.length
              · obtain ⟨b, o, ha, hbl, hc⟩ := HROW.out (by omega)
                rw [ha]
                have hcx := hc k hlt
                have HM : Hid (lesV x (L[k]'hlt) = .tuple #[.bool false, .bool true]) := HALL.out _ (List.getElem_mem hlt)
                obtain ⟨y, hy⟩ : ∃ y, y = L[k]'hlt := ⟨_, rfl⟩
                rw [← hy] at hcx HM
                clear hc hy
                go_wp2_with fail
                refine (iSerialLess_any _ _ _).mono ?_
                rintro e w9 ⟨rfl, rfl⟩
                rw [HM.out]
                go_wp2_with fail
                go_roundw
                case rel => exact ⟨k + 1, by omega, by go_num, by trivial⟩
                case measure => simp [intOf]; omega
              · go_wp2_with fail
                go_ret
                exact ⟨rfl, hb07⟩
end Go.Proofs.Ytjbmnghcfmbjeaa.lawCounters
