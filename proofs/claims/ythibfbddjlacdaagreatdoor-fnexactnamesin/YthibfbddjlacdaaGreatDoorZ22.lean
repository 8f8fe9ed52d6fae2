import Derived.Test.YthibfbddjlacdaaGreatDoorZ21
import Derived.Test.YthibfbddjlacdaaGreatDoorZ08
import Derived.Laws.AppendOwnNone
import Derived.Test.YthibfbddjlacdaaGreatDoorZ20
namespace Go.Proofs.YthibfbddjlacdaaGreatDoor
open Go.RowKit

theorem cells_of_row {w wr : World} {b o k m : Nat} {L : List (List UInt8)} (hb : Below w.heap.size w wr) (hbl : b < w.heap.size) (hc : ∀ j, (hj : j < L.length) → w.cell? ⟨b, o + j, none⟩ = some (S L[j])) (hkm : k + m ≤ L.length) :
    ∀ j u, (((L.drop k).take m).map S)[j]? = some u → wr.cell? ((⟨b, o + k, none⟩ : Addr).add j) = some u := by
  intro j u hj
  have hjm : j < m ∧ j < L.length - k := by
    have := (List.getElem?_eq_some_iff.1 hj).1
    simp at this; omega
  have hadd : (⟨b, o + k, none⟩ : Addr).add j = ⟨b, o + (k + j), none⟩ := by unfold Addr.add; split <;> simp_all <;> omega
  rw [hadd, hb.cell (p := ⟨b, o + (k + j), none⟩) hbl, hc (k + j) (by omega)]
  rw [List.getElem?_map, List.getElem?_take_of_lt hjm.1, List.getElem?_drop, List.getElem?_eq_getElem (by omega)] at hj
  simpa using hj
theorem one_cells (L : List (List UInt8)) : ∀ u ∈ L.map S, u.oneCell' = true := by
  intro u hu; obtain ⟨x, _, rfl⟩ := List.mem_map.1 hu; rfl

theorem S_data (s : ByteArray) : S s.data.toList = .string s := by unfold S; rw [← data_eq (s := s) rfl]

set_option maxRecDepth 20000 in
set_option maxHeartbeats 1000000 in
theorem l1Put_nil (s : ByteArray) (w : World) :
    Calls Tryz.prog 26 #[.slice none 0 0, .string s] w fun e w' => ∃ v', e = .returned v' ∧ Row w' v' [s.data.toList] ∧ Below w.heap.size w w' := by
  obtain ⟨i0, hi, hz0, hz1, hz2⟩ := info_parts info_string
  go_enter Tryz.func26, Tryz.ntmps26
  go_wp2_with fail
  refine wp_loop_rounds 1 ?_
  rw [rounds_succ]
  go_wp2_with (first
    | (at_builtin; refine wpList_append_own _ rfl (.tmp 40) (.tmp 42) 26 rfl w.heap.size 9 i0 (.string ByteArray.empty) 1 16 Tryz.underlying26 hi hz0 hz1 hz2 rfl (by decide) _ _ _ rfl ((World.ownsRow_nil w w.heap.size 9 1).alloc _) ⟨w.heap.size, 0, none⟩ 1 1 [.string s] rfl rfl (cell_new_one _ _ _) (one_string _) (by decide) (by decide) (by simp) ?_; intro v1 w1 hown1 hgrow1 _)
    | (at_builtin; refine wpList_append_own_none rfl (.tmp 44) (.tmp 47) 26 rfl w.heap.size 9 i0 1 Tryz.underlying26 hi _ _ _ rfl hown1 rfl ?_))
  go_ret
  refine ⟨_, rfl, row_own (base := w.heap.size) (P := [s.data.toList]) ?_, ?_⟩
  · show w1.ownsRow w.heap.size 9 1 v1 1 [S s.data.toList]
    rw [S_data]; simpa using hown1
  · exact ((Below.refl _ _).alloc (Nat.le_refl _) _).grown hgrow1 (by simp) (fun k h => by cases h)

theorem ahead_of {L : List (List UInt8)} {s : List UInt8} {k : Nat} (h : k ≤ ahead L s) (hk : ¬ k < L.length) : ahead L s = k := by have := ahead_le L s; omega
theorem put_same {L : List (List UInt8)} {s : List UInt8} {k : Nat} (h : ahead L s = k) (hk : k < L.length) (e : L[k] = s) : put L s = L := by
  unfold put; rw [h, List.getElem?_eq_getElem hk, e, if_pos rfl]
theorem put_new {L : List (List UInt8)} {s : List UInt8} {k : Nat} (h : ahead L s = k) (hk : ∀ hk : k < L.length, L[k] ≠ s) : put L s = L.take k ++ [s] ++ L.drop k := by
  unfold put; rw [h, if_neg]
  intro e
  obtain ⟨h1, h2⟩ := List.getElem?_eq_some_iff.1 e
  exact hk h1 h2

theorem put_row {w4 : World} {base k : Nat} {v : Value} {L : List (List UInt8)} {s : ByteArray} (hk : k ≤ L.length) (h : w4.ownsRow base 9 1 v (k + 1 + (L.length - k)) ((L.take k).map S ++ .string s :: (L.drop k).map S)) : Row w4 v (L.take k ++ [s.data.toList] ++ L.drop k) := by
  apply row_own (base := base)
  have e1 : (L.take k ++ [s.data.toList] ++ L.drop k).length = k + 1 + (L.length - k) := by simp; omega
  rw [e1, List.map_append, List.map_append, List.map_cons, List.map_nil, S_data, List.append_assoc, List.singleton_append]
  exact h

theorem put_row0 {w4 : World} {base k : Nat} {v : Value} {L : List (List UInt8)} {s : ByteArray} (hk : k ≤ L.length) (hk2 : L.length ≤ k) (h : w4.ownsRow base 9 1 v (k + 1) ((L.take k).map S ++ [.string s])) : Row w4 v (L.take k ++ [s.data.toList] ++ L.drop k) := by
  have e : L.drop k = [] := List.drop_of_length_le hk2
  refine put_row (base := base) hk ?_
  rw [e, show k + 1 + (L.length - k) = k + 1 by omega]
  exact h

set_option maxRecDepth 20000 in
set_option maxHeartbeats 4000000 in
theorem l1Put_some (b o cap : Nat) (L : List (List UInt8)) (s : ByteArray) (w : World) (hL : 0 < L.length) (hcap : L.length ≤ cap) (hmax : cap ≤ 2 ^ 63 - 1) (hbl : b < w.heap.size) (hc : Hid (∀ j, (hj : j < L.length) → w.cell? ⟨b, o + j, none⟩ = some (S L[j])))
    (hN : Hid (∀ x ∈ L, nameB x = true)) (hs : Hid (nameB s.data.toList = true)) (hlen : L.length ≤ 1048576) (hsz : s.size ≤ 60) :
    Calls Tryz.prog 26 #[.slice (some ⟨b, o, none⟩) L.length cap, .string s] w fun e w' => ∃ v', e = .returned v' ∧ Row w' v' (put L s.data.toList) ∧ Below w.heap.size w w' := by
  obtain ⟨i0, hi, hz0, hz1, hz2⟩ := info_parts info_string
  have HNA : ∀ k, k ≤ L.length → Hid (∀ W, Below w.heap.size w W → ∀ j u, ((L.take k).map S)[j]? = some u → W.cell? ((⟨b, o, none⟩ : Addr).add j) = some u) := fun k hk W hW => by
    have := cells_of_row (k := 0) (m := k) hW hbl hc.out (by omega)
    simpa using this
  have HNB : ∀ k, k ≤ L.length → Hid (∀ W, Below w.heap.size w W → ∀ j u, ((L.drop k).map S)[j]? = some u → W.cell? ((⟨b, o + k, none⟩ : Addr).add j) = some u) := fun k hk W hW => by
    have := cells_of_row (k := k) (m := L.length - k) hW hbl hc.out (by omega)
    rw [List.take_of_length_le (by simp)] at this
    exact this
  go_enter Tryz.func26, Tryz.ntmps26
  go_wp2_with fail
  go_loopw [5] (fun i wr => ∃ k : Nat, k ≤ L.length ∧ i = .int .i64 k ∧ Hid (k ≤ ahead L s.data.toList) ∧ Below w.heap.size w wr) (fun i _ => L.length - (intOf i).toNat)
  case atStart => exact ⟨0, Nat.zero_le _, rfl, Nat.zero_le _, Below.refl _ _⟩
  case round =>
    obtain ⟨k, hk, rfl, HK, hb⟩ := hrel
    have hbz := hb.size
    by_cases hlt : k < L.length
    · have HC : Hid (∀ W, Below w.heap.size w W → W.cell? ⟨b, o + k, none⟩ = some (.string ⟨(L[k]'hlt).toArray⟩)) := fun W hW => by rw [hW.cell (p := ⟨b, o + k, none⟩) hbl]; exact hc.out k hlt
      have hcx := HC.out wr hb
      have hnx := hN.out (L[k]'hlt) (List.getElem_mem _)
      have HST : Hid (cmpN (L[k]'hlt) s.data.toList = -1 → k + 1 ≤ ahead L s.data.toList) := fun h => ahead_step L _ k HK.out hlt h
      have HSP : Hid (cmpN (L[k]'hlt) s.data.toList ≠ -1 → ahead L s.data.toList = k) := fun h => ahead_stop L _ k HK.out hlt h
      have HPS : Hid (ahead L s.data.toList = k → L[k]'hlt = s.data.toList → put L s.data.toList = L) := fun h e => put_same h hlt e
      have HPN : Hid (ahead L s.data.toList = k → L[k]'hlt ≠ s.data.toList → put L s.data.toList = L.take k ++ [s.data.toList] ++ L.drop k) := fun h e => put_new h (fun _ => e)
      obtain ⟨x, hx⟩ : ∃ x, x = L[k]'hlt := ⟨_, rfl⟩
      rw [← hx] at hcx hnx HC HST HSP HPS HPN
      have h60 : x.length ≤ 60 := by unfold nameB at hnx; simp only [Bool.and_eq_true, decide_eq_true_eq] at hnx; exact hnx.2.1
      have HNX : Hid (nameB x = true) := hnx
      clear hx hnx
      have hxs : (⟨x.toArray⟩ : ByteArray).size ≤ 4294967280 := by rw [size_list]; omega
      have hcmp := fun W => l1Compare_any ⟨x.toArray⟩ s W hxs (by omega) ⟨HNX.out, hs.out⟩
      have HCMP : Hid (∀ W, Calls Tryz.prog 41 #[.string ⟨x.toArray⟩, .string s] W fun e w' => e = .returned (.int .i64 (cmpN x s.data.toList)) ∧ Below W.heap.size W w') := hcmp
      clear hcmp
      by_cases hlt1 : cmpN x s.data.toList = -1
      · have HR : Hid (k + 1 ≤ ahead L s.data.toList) := HST.out hlt1
        have HV : Hid (cmpN x s.data.toList = -1) := hlt1
        clear hlt1
        go_wp2_with fail
        refine (HCMP.out _).mono ?_
        rintro e w1 ⟨rfl, hb1⟩
        rw [HV.out]
        go_wp2_with fail
        go_roundw
        case rel => exact ⟨k + 1, by omega, by go_num, HR, hb.trans (hb1.mono hb.size)⟩
        case measure => simp [intOf]; omega
      · have HA : Hid (ahead L s.data.toList = k) := HSP.out hlt1
        have hge : decide (cmpN x s.data.toList < 0) = false := by
          rcases cmpR_vals (labelsOf x).reverse (labelsOf s.data.toList).reverse with e | e | e
          · exact absurd e hlt1
          · unfold cmpN; rw [e]; rfl
          · unfold cmpN; rw [e]; rfl
        have hge0 : 0 ≤ cmpN x s.data.toList := by have := of_decide_eq_false hge; omega
        clear hlt1
        by_cases hxs2 : x = s.data.toList
        · have HP : Hid (put L s.data.toList = L) := HPS.out HA.out hxs2
          have e1 : (x == s.toList) = true := by rw [ByteArray.toList_eq]; simpa using hxs2
          clear hxs2
          go_wp2_with fail
          refine (HCMP.out _).mono ?_
          rintro e w1 ⟨rfl, hb1⟩
          have hb01 := hb.trans (hb1.mono hb.size)
          have hcx1 := HC.out w1 hb01
          go_wp2_with fail
          go_ret
          refine ⟨_, rfl, ?_, hb01⟩
          rw [HP.out]
          exact ⟨_, cap, rfl, hcap, by unfold maxLen; omega, .inr ⟨b, o, rfl, Nat.lt_of_lt_of_le hbl hb01.size, fun j hj => by rw [hb01.cell (p := ⟨b, o + j, none⟩) hbl]; exact hc.out j hj⟩⟩
        · have HP : Hid (put L s.data.toList = L.take k ++ [s.data.toList] ++ L.drop k) := HPN.out HA.out hxs2
          have e1 : (x == s.toList) = false := by rw [ByteArray.toList_eq]; simpa using hxs2
          clear hxs2
          have HN1 := HNA k (by omega)
          have HN2 := HNB k (by omega)
          obtain ⟨T, hT⟩ : ∃ T, T = (L.take k).map S := ⟨_, rfl⟩
          obtain ⟨D, hD⟩ : ∃ D, D = (L.drop k).map S := ⟨_, rfl⟩
          have HT : Hid (T = (L.take k).map S ∧ T.length = k) := ⟨hT, by rw [hT]; simp; omega⟩
          have HD : Hid (D = (L.drop k).map S ∧ D.length = L.length - k) := ⟨hD, by rw [hD]; simp⟩
          clear hT hD
          go_wp2_with fail
          refine (HCMP.out _).mono ?_
          rintro e w1 ⟨rfl, hb1⟩
          have hb01 := hb.trans (hb1.mono hb.size)
          have hcx1 := HC.out w1 hb01
          have hckn : ¬ cap = k := by omega
          clear hb1 hb
          go_wp2_with (at_builtin; refine wpList_append_own _ rfl (.tmp 35) (.tmp 38) 26 rfl w.heap.size 9 i0 (.string ByteArray.empty) 1 16 Tryz.underlying26 hi hz0 hz1 hz2 rfl (by decide) _ _ _ rfl (World.ownsRow_nil _ w.heap.size 9 1) ⟨b, o, none⟩ k cap T rfl ?a1 ?a2 ?a3 ?a4 ?a5 ?a6 ?_)
          case a1 => rw [HT.out.2]; omega
          case a2 => intro j u h; rw [HT.out.1] at h; exact HN1.out _ hb01 j u h
          case a3 => rw [HT.out.1]; exact one_cells _
          case a4 => unfold maxLen; omega
          case a5 => omega
          case a6 => exact hb01.size
          intro v1 w2 hown1 hgrow1 _
          have hb02 : Below w.heap.size w w2 := hb01.grown hgrow1 hb01.size (fun k h => by cases h)
          try rw [Nat.zero_add] at hown1
          try rw [List.nil_append] at hown1
          clear hgrow1
          go_wp2_with (at_builtin; refine wpList_append_own _ rfl (.tmp 40) (.tmp 42) 26 rfl w.heap.size 9 i0 (.string ByteArray.empty) 1 16 Tryz.underlying26 hi hz0 hz1 hz2 rfl (by decide) _ _ _ rfl (hown1.alloc _) ⟨w2.heap.size, 0, none⟩ 1 1 [.string s] rfl rfl ?b1 ?b2 ?b3 ?b4 ?b5 ?_)
          case b1 => exact cell_new_one _ _ _
          case b2 => exact one_string _
          case b3 => unfold maxLen; omega
          case b4 => omega
          case b5 => have := hb02.size; simp; omega
          intro v2 w3 hown2 hgrow2 _
          have hb03 : Below w.heap.size w w3 := below_grown1 hb02 hown1 hgrow2
          clear hgrow2 hown1
          go_wp2_with (at_builtin; refine wpList_append_own _ rfl (.tmp 44) (.tmp 47) 26 rfl w.heap.size 9 i0 (.string ByteArray.empty) 1 16 Tryz.underlying26 hi hz0 hz1 hz2 rfl (by decide) _ _ _ rfl hown2 ⟨b, o + k, none⟩ (L.length - k) (cap - k) D rfl ?c1 ?c2 ?c3 ?c4 ?c5 ?c6 ?_)
          case c1 => rw [HD.out.2]; omega
          case c2 => intro j u h; rw [HD.out.1] at h; exact HN2.out _ hb03 j u h
          case c3 => rw [HD.out.1]; exact one_cells _
          case c4 => unfold maxLen; omega
          case c5 => omega
          case c6 => exact hb03.size
          intro v3 w4 hown3 hgrow3 _
          have hb04 : Below w.heap.size w w4 := below_grown hb03 hown2 hgrow3
          have HF : Hid (Row w4 v3 (put L s.data.toList)) := by
            rw [HT.out.1, HD.out.1] at hown3
            rw [HP.out]; exact put_row hk hown3
          clear hown2 hgrow3 hown3
          go_wp2_with fail
          go_ret
          exact ⟨_, rfl, HF.out, hb04⟩
    · have hkk : k = L.length := by omega
      have HA : Hid (ahead L s.data.toList = k) := ahead_of HK.out hlt
      have HP : Hid (put L s.data.toList = L.take k ++ [s.data.toList] ++ L.drop k) := put_new HA.out (fun h => absurd h hlt)
      have HN1 := HNA k (by omega)
      obtain ⟨T, hT⟩ : ∃ T, T = (L.take k).map S := ⟨_, rfl⟩
      obtain ⟨D, hD⟩ : ∃ D, D = (L.drop k).map S := ⟨_, rfl⟩
      have HT : Hid (T = (L.take k).map S ∧ T.length = k) := ⟨hT, by rw [hT]; simp; omega⟩
      have HD : Hid (D = (L.drop k).map S ∧ D.length = L.length - k) := ⟨hD, by rw [hD]; simp⟩
      clear hT hD
      have HKK : Hid (k = L.length) := hkk
      have hb01 := hb
      have hkge : L.length ≤ k := by omega
      clear hkk hb
      by_cases hck : cap = k
      · subst hck
        go_wp2_with (at_builtin; refine wpList_append_own _ rfl (.tmp 35) (.tmp 38) 26 rfl w.heap.size 9 i0 (.string ByteArray.empty) 1 16 Tryz.underlying26 hi hz0 hz1 hz2 rfl (by decide) _ _ _ rfl (World.ownsRow_nil _ w.heap.size 9 1) ⟨b, o, none⟩ cap cap T rfl ?a1 ?a2 ?a3 ?a4 ?a5 ?a6 ?_)
        case a1 => rw [HT.out.2]; omega
        case a2 => intro j u h; rw [HT.out.1] at h; exact HN1.out _ hb01 j u h
        case a3 => rw [HT.out.1]; exact one_cells _
        case a4 => unfold maxLen; omega
        case a5 => omega
        case a6 => exact hb01.size
        intro v1 w2 hown1 hgrow1 _
        have hb02 : Below w.heap.size w w2 := hb01.grown hgrow1 hb01.size (fun k h => by cases h)
        try rw [Nat.zero_add] at hown1
        try rw [List.nil_append] at hown1
        clear hgrow1
        go_wp2_with (at_builtin; refine wpList_append_own _ rfl (.tmp 40) (.tmp 42) 26 rfl w.heap.size 9 i0 (.string ByteArray.empty) 1 16 Tryz.underlying26 hi hz0 hz1 hz2 rfl (by decide) _ _ _ rfl (hown1.alloc _) ⟨w2.heap.size, 0, none⟩ 1 1 [.string s] rfl rfl ?b1 ?b2 ?b3 ?b4 ?b5 ?_)
        case b1 => exact cell_new_one _ _ _
        case b2 => exact one_string _
        case b3 => unfold maxLen; omega
        case b4 => omega
        case b5 => have := hb02.size; simp; omega
        intro v2 w3 hown2 hgrow2 _
        have hb03 : Below w.heap.size w w3 := below_grown1 hb02 hown1 hgrow2
        clear hgrow2 hown1
        go_wp2_with (at_builtin; refine wpList_append_own _ rfl (.tmp 44) (.tmp 47) 26 rfl w.heap.size 9 i0 (.string ByteArray.empty) 1 16 Tryz.underlying26 hi hz0 hz1 hz2 rfl (by decide) _ _ _ rfl hown2 ⟨b, o, none⟩ 0 0 [] rfl ?c1 ?c2 ?c3 ?c4 ?c5 ?c6 ?_)
        case c1 => rfl
        case c2 => intro j u h; simp at h
        case c3 => intro u h; cases h
        case c4 => unfold maxLen; omega
        case c5 => omega
        case c6 => exact hb03.size
        intro v3 w4 hown3 hgrow3 _
        have hb04 : Below w.heap.size w w4 := below_grown hb03 hown2 hgrow3
        have HF : Hid (Row w4 v3 (put L s.data.toList)) := by
          rw [HT.out.1] at hown3
          rw [HP.out]; exact put_row0 hk hkge (by simpa using hown3)
        clear hown2 hgrow3 hown3
        go_wp2_with fail
        go_ret
        exact ⟨_, rfl, HF.out, hb04⟩
      · have HN2 := HNB k (by omega)
        go_wp2_with (at_builtin; refine wpList_append_own _ rfl (.tmp 35) (.tmp 38) 26 rfl w.heap.size 9 i0 (.string ByteArray.empty) 1 16 Tryz.underlying26 hi hz0 hz1 hz2 rfl (by decide) _ _ _ rfl (World.ownsRow_nil _ w.heap.size 9 1) ⟨b, o, none⟩ k cap T rfl ?a1 ?a2 ?a3 ?a4 ?a5 ?a6 ?_)
        case a1 => rw [HT.out.2]; omega
        case a2 => intro j u h; rw [HT.out.1] at h; exact HN1.out _ hb01 j u h
        case a3 => rw [HT.out.1]; exact one_cells _
        case a4 => unfold maxLen; omega
        case a5 => omega
        case a6 => exact hb01.size
        intro v1 w2 hown1 hgrow1 _
        have hb02 : Below w.heap.size w w2 := hb01.grown hgrow1 hb01.size (fun k h => by cases h)
        try rw [Nat.zero_add] at hown1
        try rw [List.nil_append] at hown1
        clear hgrow1
        go_wp2_with (at_builtin; refine wpList_append_own _ rfl (.tmp 40) (.tmp 42) 26 rfl w.heap.size 9 i0 (.string ByteArray.empty) 1 16 Tryz.underlying26 hi hz0 hz1 hz2 rfl (by decide) _ _ _ rfl (hown1.alloc _) ⟨w2.heap.size, 0, none⟩ 1 1 [.string s] rfl rfl ?b1 ?b2 ?b3 ?b4 ?b5 ?_)
        case b1 => exact cell_new_one _ _ _
        case b2 => exact one_string _
        case b3 => unfold maxLen; omega
        case b4 => omega
        case b5 => have := hb02.size; simp; omega
        intro v2 w3 hown2 hgrow2 _
        have hb03 : Below w.heap.size w w3 := below_grown1 hb02 hown1 hgrow2
        clear hgrow2 hown1
        go_wp2_with (at_builtin; refine wpList_append_own _ rfl (.tmp 44) (.tmp 47) 26 rfl w.heap.size 9 i0 (.string ByteArray.empty) 1 16 Tryz.underlying26 hi hz0 hz1 hz2 rfl (by decide) _ _ _ rfl hown2 ⟨b, o + k, none⟩ 0 (cap - k) [] rfl ?c1 ?c2 ?c3 ?c4 ?c5 ?c6 ?_)
        case c1 => rfl
        case c2 => intro j u h; simp at h
        case c3 => intro u h; cases h
        case c4 => unfold maxLen; omega
        case c5 => omega
        case c6 => exact hb03.size
        intro v3 w4 hown3 hgrow3 _
        have hb04 : Below w.heap.size w w4 := below_grown hb03 hown2 hgrow3
        have HF : Hid (Row w4 v3 (put L s.data.toList)) := by
          rw [HT.out.1] at hown3
          rw [HP.out]; exact put_row0 hk hkge (by simpa using hown3)
        clear hown2 hgrow3 hown3
        go_wp2_with fail
        go_ret
        exact ⟨_, rfl, HF.out, hb04⟩

/-- What SortNames tells. -/
def sortB (P : List (List UInt8)) : Bool := P.all nameB && decide (P.length ≤ 60)
def sortT (P : List (List UInt8)) : List (List UInt8) := if sortB P = true then sortN P else []

/-- A row of names that are rising, or nil. -/
def NRow (w : World) (v : Value) (L : List (List UInt8)) : Prop := (v = .slice none 0 0 ∧ L = []) ∨ (L ≠ [] ∧ Row w v L)
theorem NRow.row {w : World} {v : Value} {L : List (List UInt8)} (h : NRow w v L) : Row w v L := by
  rcases h with ⟨rfl, rfl⟩ | ⟨_, h⟩
  · exact row_nil w
  · exact h
theorem NRow.kept {w w' : World} {v : Value} {L : List (List UInt8)} (h : NRow w v L) (hb : Below w.heap.size w w') : NRow w' v L := by
  rcases h with h | ⟨h1, h⟩
  · exact .inl h
  · exact .inr ⟨h1, h.kept hb⟩

theorem put_length (L : List (List UInt8)) (s : List UInt8) : (put L s).length ≤ L.length + 1 := by
  unfold put; split
  · omega
  · simp; have := ahead_le L s; omega
theorem put_nne (L : List (List UInt8)) (s : List UInt8) : put L s ≠ [] := by
  intro e
  have := (put_mem L s s).2 (.inr rfl)
  rw [e] at this; simp at this
theorem sortN_length : ∀ P : List (List UInt8), (sortN P).length ≤ P.length := by
  intro P
  unfold sortN
  suffices h : ∀ (l a : List (List UInt8)), (l.foldl put a).length ≤ a.length + l.length from by simpa using h P []
  intro l
  induction l with
  | nil => intro a; simp
  | cons x l ih => intro a; rw [List.foldl_cons]; have h1 := ih (put a x); have h2 := put_length a x; simp; omega
theorem name_sixty {l : List UInt8} (h : nameB l = true) : l.length ≤ 60 := by unfold nameB at h; simp only [Bool.and_eq_true, decide_eq_true_eq] at h; exact h.2.1

theorem l1Put_any (v : Value) (L : List (List UInt8)) (s : ByteArray) (w : World) (h : NRow w v L) (hN : Hid (∀ x ∈ L, nameB x = true)) (hs : Hid (nameB s.data.toList = true)) (hlen : L.length ≤ 1048576) :
    Calls Tryz.prog 26 #[v, .string s] w fun e w' => ∃ v', e = .returned v' ∧ NRow w' v' (put L s.data.toList) ∧ Below w.heap.size w w' := by
  rcases h with ⟨rfl, rfl⟩ | ⟨hne, hr⟩
  · refine (l1Put_nil s w).mono fun e w' ⟨v', he, hr, hb⟩ => ⟨v', he, .inr ⟨put_nne _ _, ?_⟩, hb⟩
    have : put [] s.data.toList = [s.data.toList] := by simp [put, ahead]
    rw [this]; exact hr
  · obtain ⟨a, cap, rfl, hcap, hmax, HR⟩ := row_value hr
    have hp := List.length_pos_iff.2 hne
    obtain ⟨b, o, rfl, hbl, hc⟩ := HR.out hp
    have hsz : s.size ≤ 60 := by have := name_sixty hs.out; simpa using this
    exact (l1Put_some b o cap L s w hp hcap hmax hbl hc hN hs hlen hsz).mono fun e w' ⟨v', he, hr, hb⟩ => ⟨v', he, .inr ⟨put_nne _ _, hr⟩, hb⟩

theorem all_names_step {P : List (List UInt8)} {k : Nat} (h : (P.take k).all nameB = true) (hk : k < P.length) (ho : nameB P[k] = true) : (P.take (k + 1)).all nameB = true := by
  rw [List.take_succ_eq_append_getElem hk]; simp only [List.all_append, h, List.all_cons, ho, List.all_nil, Bool.and_true]
theorem all_names_not {P : List (List UInt8)} {k : Nat} (hk : k < P.length) (ho : nameB P[k] = false) : P.all nameB = false := by
  rw [Bool.eq_false_iff]; intro h
  have := List.all_eq_true.1 h P[k] (List.getElem_mem _)
  rw [ho] at this; cases this
theorem sort_names {P : List (List UInt8)} (h : P.all nameB = true) : ∀ x ∈ sortN P, nameB x = true := fun x hx => List.all_eq_true.1 h x ((sortN_mem P x).1 hx)

end Go.Proofs.YthibfbddjlacdaaGreatDoor

namespace Go.Proofs.YthibfbddjlacdaaGreatDoor
open Go.RowKit

theorem below_iff {a b : List UInt8} (ha : nameB a = true) (hb : nameB b = true) : belowB a b = true ↔ (labelsOf b).reverse <+: (labelsOf a).reverse := by
  have h := suffix_below (name_plain hb) (name_plain ha)
  rw [joinD_labels, joinD_labels] at h
  rw [h, List.reverse_prefix]
theorem pre_le : ∀ p z : List (List UInt8), p <+: z → cmpR p z ≠ 1
  | [], [], _ => by decide
  | [], _ :: _, _ => by simp [cmpR]
  | p :: a, [], h => by simp at h
  | p :: a, q :: z, h => by
    have h' := List.cons_prefix_cons.1 h
    obtain ⟨rfl, h2⟩ := h'
    have ih := pre_le a z h2
    simp [cmpR, ih]
/-- What lies between a name and one below it is below it, too. -/
theorem pre_mid : ∀ p x z : List (List UInt8), cmpR p x = -1 → cmpR x z = -1 → p <+: z → p <+: x
  | [], _, _, _, _, _ => List.nil_prefix
  | p :: a, [], _, h1, _, _ => by simp [cmpR] at h1
  | p :: a, q :: x, [], _, _, h3 => by simp at h3
  | p :: a, q :: x, r :: z, h1, h2, h3 => by
    obtain ⟨rfl, h4⟩ := List.cons_prefix_cons.1 h3
    by_cases e : p = q
    · subst e
      simp [cmpR] at h1 h2
      exact List.cons_prefix_cons.2 ⟨rfl, pre_mid a x z h1 h2 h4⟩
    · simp [cmpR, e, Ne.symm e] at h1 h2
      have := cmp_swap p q
      omega
theorem cmp_below {a b : List UInt8} (ha : nameB a = true) (hb : nameB b = true) (h : belowB a b = true) : cmpN a b ≠ -1 := by
  have h1 := pre_le _ _ ((below_iff ha hb).1 h)
  have h2 := cmpN_swap b a
  unfold cmpN at h2 ⊢
  omega
/-- In a list that rises those below one stand right behind it. -/
theorem block_of {S : List (List UInt8)} (hs : S.Pairwise ltN) (hn : ∀ x ∈ S, nameB x = true) {i j k : Nat} (hij : i ≤ j) (hjk : j < k) (hk : k < S.length) (h : belowB S[k] (S[i]'(by omega)) = true) : belowB (S[j]'(by omega)) (S[i]'(by omega)) = true := by
  have ni := hn (S[i]'(by omega)) (List.getElem_mem _)
  have nj := hn (S[j]'(by omega)) (List.getElem_mem _)
  have nk := hn S[k] (List.getElem_mem _)
  rw [below_iff nj ni]
  rw [below_iff nk ni] at h
  rcases Nat.lt_or_ge i j with hlt | hge
  · have h1 : ltN (S[i]'(by omega)) (S[j]'(by omega)) := List.pairwise_iff_getElem.1 hs i j (by omega) (by omega) hlt
    have h2 : ltN (S[j]'(by omega)) S[k] := List.pairwise_iff_getElem.1 hs j k (by omega) hk hjk
    exact pre_mid _ _ _ h1 h2 h
  · have e : i = j := by omega
    subst e; exact List.prefix_refl _
theorem cmp_T {a b : List UInt8} (ha : nameB a = true) (hb : nameB b = true) : cmpT a b = cmpN a b ∧ cmpB a b = true := by
  unfold cmpT cmpB cmpN; rw [ha, hb]; exact ⟨rfl, rfl⟩
theorem cmp_iff (a b : List UInt8) : (cmpN a b == 0) = (a == b) := by
  rw [Bool.eq_iff_iff, beq_iff_eq, beq_iff_eq]
  exact ⟨cmpN_zero, fun e => by rw [e, cmpN_self]⟩
end Go.Proofs.YthibfbddjlacdaaGreatDoor
