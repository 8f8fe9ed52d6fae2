import Derived.Test.YtoanloballaclaaDoorSData
namespace Go.Proofs.YtoanloballaclaaDoor
open Go.RowKit

theorem dataM_two {l a b : List UInt8} (h : cut 32 l = [a, b]) : dataM l = if numIn a 65535 = true ∧ targB b = true then some (beB (intV a) 2 ++ wireL (labelsOf b)) else none := by
  unfold dataM; rw [h]
theorem dataM_not {l : List UInt8} (h : ¬ (cut 32 l).length = 2) : dataM l = none := by
  unfold dataM
  split
  · rename_i a b e; rw [e] at h; exact absurd rfl h
  · rfl
theorem two_of {P : List (List UInt8)} (h : P.length = 2) : ∃ a b, P = [a, b] := by
  match P, h with
  | [a, b], _ => exact ⟨a, b, rfl⟩

set_option maxRecDepth 20000 in
set_option maxHeartbeats 2000000 in
theorem bytesM (s : ByteArray) (w : World) (hs : s.size ≤ 1048576) :
    Calls Tryd.prog 10 #[.int .i64 15, .string s] w fun e w' => BytesRes (dataM s.data.toList) e ∧ Below w.heap.size w w' := by
  have HLEN : Hid (s.data.toList.length = s.size) := (by simp : s.data.toList.length = s.size)
  go_enter Tryd.func10, Tryd.ntmps10
  go_wp2_with fail
  refine (l1Split_any s 32 _ w (by omega) rfl).mono ?_
  rintro e w1 ⟨v, rfl, hown, hb⟩
  by_cases h2 : (cut 32 s.data.toList).length = 2
  · obtain ⟨x, y, hxy⟩ := two_of h2
    have HDM := dataM_two hxy
    have hxl : x.length ≤ 1048576 := by have := cut_piece_le 32 s.data.toList x (by rw [hxy]; simp); rw [HLEN.out] at this; omega
    have hyl : y.length ≤ 1048576 := by have := cut_piece_le 32 s.data.toList y (by rw [hxy]; simp); rw [HLEN.out] at this; omega
    rw [hxy] at hown
    obtain ⟨g, cap, hv, hg, hgl, hcap, hmax, hcell⟩ := own_shape hown (by simp)
    have hc0 : w1.cell? ⟨g, 0, none⟩ = some (.string ⟨x.toArray⟩) := hcell 0 (by simp)
    have hc1 : w1.cell? ⟨g, 1, none⟩ = some (.string ⟨y.toArray⟩) := hcell 1 (by simp)
    rw [hv]
    simp only [List.length_cons, List.length_nil] at hcap ⊢
    unfold maxLen at hmax
    have HDMH : Hid (dataM s.data.toList = if numIn x 65535 = true ∧ targB y = true then some (beB (intV x) 2 ++ wireL (labelsOf y)) else none) := HDM
    have HCB : Hid (∀ W, Below w1.heap.size w1 W → W.cell? ⟨g, 0, none⟩ = some (.string ⟨x.toArray⟩) ∧ W.cell? ⟨g, 1, none⟩ = some (.string ⟨y.toArray⟩)) := fun W hW => by
      rw [hW.cell (p := ⟨g, 0, none⟩) hgl, hW.cell (p := ⟨g, 1, none⟩) hgl]; exact ⟨hc0, hc1⟩
    have hxs : (⟨x.toArray⟩ : ByteArray).size ≤ 4294967280 := by rw [size_list]; omega
    have hys : (⟨y.toArray⟩ : ByteArray).size ≤ 4294967280 := by rw [size_list]; omega
    have hr := intV_range x
    have hr1 := hr.1
    have hr2 := hr.2
    clear hown hv hcell hxy h2 HDM hr
    cases hd : (decide ((0 : Int) ≤ intV x) && decide (intV x ≤ 65535)) with
    | false =>
      have HR : Hid (dataM s.data.toList = none) := by rw [HDMH.out]; exact if_neg (fun h => by have := h.1; unfold numIn at this; rw [hd] at this; cases this)
      have HD : Hid ((decide ((0 : Int) ≤ intV x) && decide (intV x ≤ 65535)) = false) := hd
      clear hd
      go_wp2_with fail
      refine (l1Int_any _ _ hxs).mono ?_
      rintro e w2 ⟨rfl, rfl⟩
      rw [show (⟨x.toArray⟩ : ByteArray).data.toList = x from rfl]
      go_wp2_with fail
      refine (l1In_any _ _ _ _).mono ?_
      rintro e w3 ⟨rfl, rfl⟩
      rw [HD.out]
      go_wp2_with fail
      go_ret2
      exact ⟨br_none HR.out, hb⟩
    | true =>
      have HD : Hid ((decide ((0 : Int) ≤ intV x) && decide (intV x ≤ 65535)) = true) := hd
      clear hd
      cases ht : targB y with
      | false =>
        have HR : Hid (dataM s.data.toList = none) := by rw [HDMH.out]; exact if_neg (fun h => by have := h.2; rw [ht] at this; cases this)
        have HT : Hid (targB y = false) := ht
        clear ht
        go_wp2_with fail
        refine (l1Int_any _ _ hxs).mono ?_
        rintro e w2 ⟨rfl, rfl⟩
        rw [show (⟨x.toArray⟩ : ByteArray).data.toList = x from rfl]
        go_wp2_with fail
        refine (l1In_any _ _ _ _).mono ?_
        rintro e w3 ⟨rfl, rfl⟩
        rw [HD.out]
        go_wp2_with fail
        refine (l3Target_any _ _ hys).mono ?_
        rintro e w4 ⟨rfl, hb4⟩
        rw [show (⟨y.toArray⟩ : ByteArray).data.toList = y from rfl, HT.out]
        go_wp2_with fail
        go_ret2
        exact ⟨br_none HR.out, hb.trans (hb4.mono hb.size)⟩
      | true =>
        have HR : Hid (dataM s.data.toList = some (beB (intV x) 2 ++ wireL (labelsOf y))) := by
          rw [HDMH.out]; exact if_pos ⟨by unfold numIn; exact HD.out, ht⟩
        have HT : Hid (targB y = true) := ht
        have HNM : Hid (nameB y = true) := by unfold targB at ht; simp only [Bool.and_eq_true] at ht; exact ht.1
        have hwl : (wireL (labelsOf y)).length ≤ 1000 := by
          obtain ⟨q1, q2⟩ := name_labels HNM.out
          have : ∀ P : List (List UInt8), (∀ p ∈ P, p.length ≤ 20) → (wireL P).length ≤ 21 * P.length + 1 := by
            intro P
            induction P with
            | nil => intro _; simp [wireL]
            | cons c r ih => intro hh; have a1 := hh c (by simp); have a2 := ih (fun q hq => hh q (by simp [hq])); unfold wireL; simp; omega
          have := this (labelsOf y) (fun p hp => (q1 p hp).1)
          omega
        have hbl : (beB (intV x) 2).length ≤ 2 := by rw [beB_length]; omega
        clear ht
        go_wp2_with fail
        refine (l1Int_any _ _ hxs).mono ?_
        rintro e w2 ⟨rfl, rfl⟩
        rw [show (⟨x.toArray⟩ : ByteArray).data.toList = x from rfl]
        go_wp2_with fail
        refine (l1In_any _ _ _ _).mono ?_
        rintro e w3 ⟨rfl, rfl⟩
        rw [HD.out]
        go_wp2_with fail
        refine (l3Target_any _ _ hys).mono ?_
        rintro e w4 ⟨rfl, hb4⟩
        rw [show (⟨y.toArray⟩ : ByteArray).data.toList = y from rfl, HT.out]
        have hcw := HCB.out w4 hb4
        have hcw0 := hcw.1
        have hcw1 := hcw.2
        clear hcw hc0 hc1
        obtain ⟨n, hn⟩ : ∃ n, n = intV x := ⟨_, rfl⟩
        rw [← hn] at hr1 hr2 hbl HR
        obtain ⟨p, hp⟩ : ∃ p, p = beB n 2 := ⟨_, rfl⟩
        obtain ⟨q, hq⟩ : ∃ q, q = wireL (labelsOf y) := ⟨_, rfl⟩
        rw [← hp, ← hq] at HR
        rw [← hp] at hbl
        rw [← hq] at hwl
        have HI : Hid (∀ W, Calls Tryd.prog 20 #[.string ⟨x.toArray⟩] W fun e w' => e = .returned (.int .i64 n) ∧ w' = W) := fun W => by
          have h := l1Int_any ⟨x.toArray⟩ W hxs
          rw [show (⟨x.toArray⟩ : ByteArray).data.toList = x from rfl, ← hn] at h; exact h
        have HNU : Hid (∀ W, Calls Tryd.prog 21 #[.int .i64 n, .int .i64 2] W fun e w' => e = .returned (.string ⟨p.toArray⟩) ∧ Below W.heap.size W w') := fun W => by
          have h := l3Number_any n 2 W (by omega) (by omega) (by omega)
          rw [← hp] at h; exact h
        have HBY : Hid (∀ W, Calls Tryd.prog 23 #[.string ⟨y.toArray⟩] W fun e w' => e = .returned (.string ⟨q.toArray⟩) ∧ Below W.heap.size W w') := fun W => by
          have h := l2Bytes_any ⟨y.toArray⟩ W hys HNM
          rw [show (⟨y.toArray⟩ : ByteArray).data.toList = y from rfl, ← hq] at h; exact h
        have HTR : Hid (∀ W W', Below w3.heap.size w3 W → Below W.heap.size W W' → Below w3.heap.size w3 W' ∧ W'.cell? ⟨g, 0, none⟩ = some (.string ⟨x.toArray⟩) ∧ W'.cell? ⟨g, 1, none⟩ = some (.string ⟨y.toArray⟩)) := fun W W' h1 h2 => ⟨h1.trans (h2.mono h1.size), HCB.out W' (h1.trans (h2.mono h1.size))⟩
        have hbd := hb4.drew
        clear hn hp hq HCB HDMH hxs hys
        go_wp2_with fail
        go_region_with (first
          | (go_at_call 20; refine (HI.out _).mono ?_; rintro e w5 ⟨rfl, rfl⟩)
          | (go_at_call 21; refine (HNU.out _).mono ?_; rintro e w5 ⟨rfl, hb5⟩; have hbw := HTR.out _ _ (by assumption) hb5; have hbw1 := hbw.1; have hcx0 := hbw.2.1; have hcx1 := hbw.2.2)
          | (go_at_call 23; refine (HBY.out _).mono ?_; rintro e w6 ⟨rfl, hb6⟩; have hbv := HTR.out _ _ (by assumption) hb6; have hbv1 := hbv.1; have hcy0 := hbv.2.1; have hcy1 := hbv.2.2))
        all_goals
          go_wp2_with fail
          go_ret2
          refine ⟨br_some HR.out (by simp), ?_⟩
          first
          | exact hb.trans (hbw1.mono hb.size)
          | exact hb.trans (hbv1.mono hb.size)
  · have HR : Hid (dataM s.data.toList = none) := dataM_not h2
    obtain ⟨a, cap, hv, hcap, hmax, HROW⟩ := row_value (row_own hown)
    rw [hv]
    have e2 : (((cut 32 s.data.toList).length : Int) != 2) = true := by simp; omega
    clear hown hv
    go_wp2_with fail
    go_ret2
    exact ⟨br_none HR.out, hb⟩

theorem l3Bytes_any (k : Int) (s : ByteArray) (w : World) (hs : s.size ≤ 1048576) :
    Calls Tryd.prog 10 #[.int .i64 k, .string s] w fun e w' => BytesRes (dataP k s.data.toList) e ∧ Below w.heap.size w w' := by
  unfold dataP
  by_cases h1 : k = 1
  · subst h1; exact bytesA s w hs
  · rw [if_neg h1]
    by_cases h2 : k = 2 ∨ k = 5
    · rw [if_pos h2]; exact bytesN k s w hs h2
    · rw [if_neg h2]
      by_cases h6 : k = 6
      · subst h6; exact bytesS s w hs
      · rw [if_neg h6]
        by_cases h15 : k = 15
        · subst h15; exact bytesM s w hs
        · rw [if_neg h15]
          by_cases h16 : k = 16
          · subst h16; exact bytesT s w hs
          · rw [if_neg h16]
            exact bytesO k s w (by simpa using h1) (by simpa using fun h => h2 (.inl h)) (by simpa using fun h => h2 (.inr h)) (by simpa using h6) (by simpa using h15) (by simpa using h16)
end Go.Proofs.YtoanloballaclaaDoor
