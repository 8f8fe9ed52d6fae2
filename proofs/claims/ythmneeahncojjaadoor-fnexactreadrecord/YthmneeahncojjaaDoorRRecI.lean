import Derived.Test.YthmneeahncojjaaDoorRRecC
namespace Go.Proofs.YthmneeahncojjaaDoor
open Go.RowKit

theorem splitQ_short {l : List UInt8} (h : (cut 32 l).length < 4) : ¬ (Lib.splitK [32] 0 (min 4 (l.length + 1) - 1) l).length = 4 := by
  have hc := cut_length_le 32 l
  rw [splitK_cut _ l (by omega)]; omega
theorem splitQ_long {l p q t r : List UInt8} (hc : cut 32 l = p :: q :: t :: cut 32 r) (hk : Lib.splitK [32] 0 3 l = [p, q, t, r]) : Lib.splitK [32] 0 (min 4 (l.length + 1) - 1) l = [p, q, t, r] := by
  have h1 := cut_length_le 32 l
  rw [hc] at h1
  have h2 := List.length_pos_iff.2 (cut_ne 32 r)
  simp only [List.length_cons] at h1
  rw [show min 4 (l.length + 1) - 1 = 3 by omega]; exact hk


set_option maxRecDepth 20000 in
set_option maxHeartbeats 1000000 in
theorem iRead_short (s : ByteArray) (w : World) (hs : s.size ≤ 1048576) (hE : EnvR w) (h4 : Hid ((cut 32 s.data.toList).length < 4)) :
    Calls Tryd.prog 15 #[.string s] w fun e w' => e = .returned (.tuple #[RecV ⟨#[]⟩ 0 0 ⟨#[]⟩, .bool false]) ∧ Below w.heap.size w w' := by
  obtain ⟨W0, hW0⟩ : ∃ W0, W0 = w.alloc (.cells #[.string ⟨#[]⟩, .int .i64 0, .int .i64 0, .string ⟨#[]⟩] 26) := ⟨_, rfl⟩
  have HX : Hid (∀ W, Below W0.heap.size W0 W → (W.cell? ⟨w.heap.size, 0, none⟩ = some (.string ⟨#[]⟩) ∧ W.cell? ⟨w.heap.size, 1, none⟩ = some (.int .i64 0) ∧ W.cell? ⟨w.heap.size, 2, none⟩ = some (.int .i64 0) ∧ W.cell? ⟨w.heap.size, 3, none⟩ = some (.string ⟨#[]⟩) ∧ Below w.heap.size w W) ∧ (W.frozen? ⟨w.heap.size, 0, none⟩ = false ∧ W.frozen? ⟨w.heap.size, 1, none⟩ = false ∧ W.frozen? ⟨w.heap.size, 2, none⟩ = false ∧ W.frozen? ⟨w.heap.size, 3, none⟩ = false)) := fun W h => by rw [hW0] at h; exact ⟨box4 h, box4f h⟩
  have HW0 : Hid (w.alloc (.cells #[.string ⟨#[]⟩, .int .i64 0, .int .i64 0, .string ⟨#[]⟩] 26) = W0) := hW0.symm
  have hb00 : Below w.heap.size w W0 := by rw [hW0]; exact (Below.refl _ _).alloc (Nat.le_refl _) _
  have HTR : Hid (∀ W W', Below W0.heap.size W0 W → Below W.heap.size W W' → Below W0.heap.size W0 W') := fun W W' h1 h2 => h1.trans (h2.mono h1.size)
  have HENV : Hid (∀ W, Below W0.heap.size W0 W → EnvR W) := fun W h => hE.below (HX.out W h).1.2.2.2.2
  have hsn : Calls Tryd.prog 29 #[.string s, .string ⟨#[32]⟩, .int .i64 4] W0 fun e w' => ∃ (Q : List (List UInt8)) (cap : Nat), e = .returned (.slice (some ⟨W0.heap.size, 0, none⟩) Q.length cap) ∧ Q.length ≤ cap ∧ cap ≤ 1000 ∧ Q = Lib.splitK [32] 0 (min 4 (s.data.toList.length + 1) - 1) s.data.toList ∧ (∀ j, (hj : j < Q.length) → w'.cell? ⟨W0.heap.size, j, none⟩ = some (S Q[j])) ∧ W0.heap.size < w'.heap.size ∧ Below W0.heap.size W0 w' := splitN_row s 32 4 W0 hs (hE.1.below hb00) (by omega) (by omega)
  have HSN : Hid (Calls Tryd.prog 29 #[.string s, .string ⟨#[32]⟩, .int .i64 4] W0 fun e w' => ∃ (n cap : Nat), e = .returned (.slice (some ⟨W0.heap.size, 0, none⟩) n cap) ∧ n ≤ cap ∧ cap ≤ 1000 ∧ ¬ n = 4 ∧ Below W0.heap.size W0 w') := hsn.mono fun e w' h => by
    obtain ⟨Q, cap, rfl, h1, h2, hQ, _, _, h3⟩ := h
    exact ⟨Q.length, cap, rfl, h1, h2, by rw [hQ]; exact splitQ_short h4.out, h3⟩
  clear hW0 hsn
  unfold RecV
  go_enter Tryd.func15, Tryd.ntmps15
  go_wp2_with fail
  rw [HW0.out]
  refine HSN.out.mono ?_
  rintro e w1 ⟨n, cap, rfl, hcap, hcap2, hn4, hb⟩
  obtain ⟨⟨c0, c1, c2, c3, hbw⟩, ⟨f0, f1, f2, f3⟩⟩ := HX.out w1 hb
  have e4 : ((n : Int) != 4) = true := by simp; omega
  clear hb hn4
  go_wp2_with fail
  (try simp only [Exit.inBlock, Exit.then])
  refine bodyPost_ret (v := .tuple #[.agg #[.string ⟨#[]⟩, .int .i64 0, .int .i64 0, .string ⟨#[]⟩], .bool false]) ?_ rfl ⟨rfl, ?_⟩
  · rw [results_cell_tmp rfl]; go_simp
  · exact (((hbw.setCell (p := ⟨w.heap.size, 0, none⟩) (Nat.le_refl _) _).setCell (p := ⟨w.heap.size, 1, none⟩) (Nat.le_refl _) _).setCell (p := ⟨w.heap.size, 2, none⟩) (Nat.le_refl _) _).setCell (p := ⟨w.heap.size, 3, none⟩) (Nat.le_refl _) _

set_option maxRecDepth 20000 in
set_option maxHeartbeats 1000000 in
theorem iRead_dot_bad (s : ByteArray) (q t r : List UInt8) (w : World) (hs : s.size ≤ 1048576) (hE : EnvR w) (hl : Hid (s.data.toList = [46] ++ 32 :: (q ++ 32 :: (t ++ 32 :: r)))) (hQ4 : Hid (Lib.splitK [32] 0 (min 4 (s.data.toList.length + 1) - 1) s.data.toList = [[46], q, t, r])) (hG : Hid (recB [] (rdNum t 16) (rdNum q 100000) r = false)) :
    Calls Tryd.prog 15 #[.string s] w fun e w' => e = .returned (.tuple #[RecV ⟨#[]⟩ 0 0 ⟨#[]⟩, .bool false]) ∧ Below w.heap.size w w' := by
  obtain ⟨W0, hW0⟩ : ∃ W0, W0 = w.alloc (.cells #[.string ⟨#[]⟩, .int .i64 0, .int .i64 0, .string ⟨#[]⟩] 26) := ⟨_, rfl⟩
  have HX : Hid (∀ W, Below W0.heap.size W0 W → (W.cell? ⟨w.heap.size, 0, none⟩ = some (.string ⟨#[]⟩) ∧ W.cell? ⟨w.heap.size, 1, none⟩ = some (.int .i64 0) ∧ W.cell? ⟨w.heap.size, 2, none⟩ = some (.int .i64 0) ∧ W.cell? ⟨w.heap.size, 3, none⟩ = some (.string ⟨#[]⟩) ∧ Below w.heap.size w W) ∧ (W.frozen? ⟨w.heap.size, 0, none⟩ = false ∧ W.frozen? ⟨w.heap.size, 1, none⟩ = false ∧ W.frozen? ⟨w.heap.size, 2, none⟩ = false ∧ W.frozen? ⟨w.heap.size, 3, none⟩ = false)) := fun W h => by rw [hW0] at h; exact ⟨box4 h, box4f h⟩
  have HW0 : Hid (w.alloc (.cells #[.string ⟨#[]⟩, .int .i64 0, .int .i64 0, .string ⟨#[]⟩] 26) = W0) := hW0.symm
  have hb00 : Below w.heap.size w W0 := by rw [hW0]; exact (Below.refl _ _).alloc (Nat.le_refl _) _
  have HTR : Hid (∀ W W', Below W0.heap.size W0 W → Below W.heap.size W W' → Below W0.heap.size W0 W') := fun W W' h1 h2 => h1.trans (h2.mono h1.size)
  have HENV : Hid (∀ W, Below W0.heap.size W0 W → EnvR W) := fun W h => hE.below (HX.out W h).1.2.2.2.2
  have hsn : Calls Tryd.prog 29 #[.string s, .string ⟨#[32]⟩, .int .i64 4] W0 fun e w' => ∃ (Q : List (List UInt8)) (cap : Nat), e = .returned (.slice (some ⟨W0.heap.size, 0, none⟩) Q.length cap) ∧ Q.length ≤ cap ∧ cap ≤ 1000 ∧ Q = Lib.splitK [32] 0 (min 4 (s.data.toList.length + 1) - 1) s.data.toList ∧ (∀ j, (hj : j < Q.length) → w'.cell? ⟨W0.heap.size, j, none⟩ = some (S Q[j])) ∧ W0.heap.size < w'.heap.size ∧ Below W0.heap.size W0 w' := splitN_row s 32 4 W0 hs (hE.1.below hb00) (by omega) (by omega)
  have hsz : s.data.toList.length = s.size := by simp
  have hlen : ([46] : List UInt8).length + q.length + t.length + 3 + r.length = s.size := by
    rw [← hsz, hl.out]; simp; omega
  have HSN : Hid (Calls Tryd.prog 29 #[.string s, .string ⟨#[32]⟩, .int .i64 4] W0 fun e w' => ∃ cap : Nat, e = .returned (.slice (some ⟨W0.heap.size, 0, none⟩) 4 cap) ∧ 4 ≤ cap ∧ cap ≤ 1000 ∧ w'.cell? ⟨W0.heap.size, 0, none⟩ = some (.string ⟨#[46]⟩) ∧ w'.cell? ⟨W0.heap.size, 1, none⟩ = some (.string ⟨q.toArray⟩) ∧ w'.cell? ⟨W0.heap.size, 2, none⟩ = some (.string ⟨t.toArray⟩) ∧ w'.cell? ⟨W0.heap.size, 3, none⟩ = some (.string ⟨r.toArray⟩) ∧ W0.heap.size < w'.heap.size ∧ Below W0.heap.size W0 w') := hsn.mono fun e w' h => by
    obtain ⟨Q, cap, rfl, h1, h2, hQ, hcell, hlt, h3⟩ := h
    rw [hQ4.out] at hQ
    subst hQ
    exact ⟨cap, rfl, h1, h2, hcell 0 (by simp), hcell 1 (by simp), hcell 2 (by simp), hcell 3 (by simp), hlt, h3⟩
  have HR1 : Hid (∀ W, EnvR W → Calls Tryd.prog 30 #[.string ⟨q.toArray⟩, .int .i64 100000] W fun e w' => e = .returned (.tuple #[.int .i64 (rdNum q 100000), .bool (numIn q 100000)]) ∧ Below W.heap.size W w') := fun W hW => readNumber_any ⟨q.toArray⟩ 100000 W (by rw [size_list]; omega) (by omega) (by omega) hW
  have HR2 : Hid (∀ W, EnvR W → Calls Tryd.prog 30 #[.string ⟨t.toArray⟩, .int .i64 16] W fun e w' => e = .returned (.tuple #[.int .i64 (rdNum t 16), .bool (numIn t 16)]) ∧ Below W.heap.size W w') := fun W hW => readNumber_any ⟨t.toArray⟩ 16 W (by rw [size_list]; omega) (by omega) (by omega) hW
  have HC1 : Hid (∀ W, Calls Tryd.prog 31 #[.string ⟨#[46]⟩] W fun e w' => e = .returned (.string ⟨#[46]⟩) ∧ Below W.heap.size W w') := fun W => cloneR_any ⟨#[46]⟩ W (by decide)
  have HC2 : Hid (∀ W, Calls Tryd.prog 31 #[.string ⟨r.toArray⟩] W fun e w' => e = .returned (.string ⟨r.toArray⟩) ∧ Below W.heap.size W w') := fun W => cloneR_any ⟨r.toArray⟩ W (by rw [size_list]; omega)
  have HTX : Hid (∀ W, EnvR W → Calls Tryd.prog 13 #[RecV ⟨([] : List UInt8).toArray⟩ (rdNum t 16) (rdNum q 100000) ⟨r.toArray⟩] W fun e w' => e = .returned (.tuple #[.string ⟨#[]⟩, .bool false]) ∧ Below W.heap.size W w') := fun W hW => by
    have h := iRecordText_any ⟨([] : List UInt8).toArray⟩ ⟨r.toArray⟩ (rdNum t 16) (rdNum q 100000) W (by rw [size_list]; simp) (by rw [size_list]; omega) hW
    rw [show recB (⟨([] : List UInt8).toArray⟩ : ByteArray).data.toList (rdNum t 16) (rdNum q 100000) (⟨r.toArray⟩ : ByteArray).data.toList = false from hG.out, show recX (⟨([] : List UInt8).toArray⟩ : ByteArray).data.toList (rdNum t 16) (rdNum q 100000) (⟨r.toArray⟩ : ByteArray).data.toList = [] from if_neg (by rw [show recB (⟨([] : List UInt8).toArray⟩ : ByteArray).data.toList (rdNum t 16) (rdNum q 100000) (⟨r.toArray⟩ : ByteArray).data.toList = false from hG.out]; simp)] at h
    exact h
  obtain ⟨ty, hty⟩ : ∃ ty, ty = rdNum t 16 := ⟨_, rfl⟩
  obtain ⟨ttl, httl⟩ : ∃ ttl, ttl = rdNum q 100000 := ⟨_, rfl⟩
  rw [← hty, ← httl] at HTX
  rw [← httl] at HR1
  rw [← hty] at HR2
  clear hW0 hsn hsz hlen hty httl hG
  unfold RecV at HTX ⊢
  go_enter Tryd.func15, Tryd.ntmps15
  go_wp2_with fail
  rw [HW0.out]
  refine HSN.out.mono ?_
  rintro e w1 ⟨cap, rfl, hcap, hcap2, d0, d1, d2, d3, hlt, hb⟩
  obtain ⟨g, hg⟩ : ∃ g, g = W0.heap.size := ⟨_, rfl⟩
  rw [← hg] at d0 d1 d2 d3 hlt ⊢
  have HD : Hid (∀ W, Below w1.heap.size w1 W → W.cell? ⟨g, 0, none⟩ = some (.string ⟨#[46]⟩) ∧ W.cell? ⟨g, 1, none⟩ = some (.string ⟨q.toArray⟩) ∧ W.cell? ⟨g, 2, none⟩ = some (.string ⟨t.toArray⟩) ∧ W.cell? ⟨g, 3, none⟩ = some (.string ⟨r.toArray⟩)) := fun W h => by
    rw [h.cell (p := ⟨g, 0, none⟩) hlt, h.cell (p := ⟨g, 1, none⟩) hlt, h.cell (p := ⟨g, 2, none⟩) hlt, h.cell (p := ⟨g, 3, none⟩) hlt]; exact ⟨d0, d1, d2, d3⟩
  have HT1 : Hid (∀ W W', Below w1.heap.size w1 W → Below W.heap.size W W' → Below w1.heap.size w1 W') := fun W W' h1 h2 => h1.trans (h2.mono h1.size)
  have HB1 : Hid (Below W0.heap.size W0 w1) := hb
  have HE1 : Hid (∀ W, Below w1.heap.size w1 W → EnvR W) := fun W h => HENV.out W (HTR.out _ _ hb h)
  have HX1 : Hid (∀ W, Below w1.heap.size w1 W → (W.cell? ⟨w.heap.size, 0, none⟩ = some (.string ⟨#[]⟩) ∧ W.cell? ⟨w.heap.size, 1, none⟩ = some (.int .i64 0) ∧ W.cell? ⟨w.heap.size, 2, none⟩ = some (.int .i64 0) ∧ W.cell? ⟨w.heap.size, 3, none⟩ = some (.string ⟨#[]⟩) ∧ Below w.heap.size w W) ∧ (W.frozen? ⟨w.heap.size, 0, none⟩ = false ∧ W.frozen? ⟨w.heap.size, 1, none⟩ = false ∧ W.frozen? ⟨w.heap.size, 2, none⟩ = false ∧ W.frozen? ⟨w.heap.size, 3, none⟩ = false)) := fun W h => HX.out W (HTR.out _ _ hb h)
  have hbz : Below w1.heap.size w1 w1 := Below.refl _ _
  clear hg hb hlt
  go_wp2_with fail
  refine (HR1.out _ (HE1.out _ hbz)).mono ?_
  rintro e w2 ⟨rfl, hb2⟩
  have hb12 := HT1.out _ _ hbz hb2
  clear d0 d1 d2 d3 hbz hb2
  obtain ⟨d0, d1, d2, d3⟩ := HD.out w2 hb12
  go_wp2_with fail
  refine (HR2.out _ (HE1.out _ hb12)).mono ?_
  rintro e w3 ⟨rfl, hb3⟩
  have hb13 := HT1.out _ _ hb12 hb3
  clear d0 d1 d2 d3 hb12 hb3
  obtain ⟨d0, d1, d2, d3⟩ := HD.out w3 hb13
  go_wp2_with fail
  refine (HC1.out _).mono ?_
  rintro e w4 ⟨rfl, hb4⟩
  have hb14 := HT1.out _ _ hb13 hb4
  clear d0 d1 d2 d3 hb13 hb4
  obtain ⟨d0, d1, d2, d3⟩ := HD.out w4 hb14
  go_wp2_with fail
  refine (HC2.out _).mono ?_
  rintro e w5 ⟨rfl, hb5⟩
  have hb15 := HT1.out _ _ hb14 hb5
  clear d0 d1 d2 d3 hb14 hb5
  have hbA : Below w1.heap.size w1 (w5.alloc (.cells #[.string ⟨#[]⟩, .int .i64 ty, .int .i64 ttl, .string ⟨r.toArray⟩] 26)) := hb15.alloc hb15.size _
  go_wp2_with fail
  refine (HTX.out _ (HE1.out _ hbA)).mono ?_
  rintro e w6 ⟨rfl, hb6⟩
  obtain ⟨m0, m1, m2, m3, _⟩ := box4 hb6
  have hb16 := HT1.out _ _ hbA hb6
  have hng : w5.heap.size ≠ w.heap.size := by have h1 := HB1.out.size; have h2 := hb15.size; have h3 := World.block_lt_of_cell? _ _ (HX.out W0 (Below.refl _ _)).1.1; simp at h3; omega
  obtain ⟨⟨c0, c1, c2, c3, hbw⟩, ⟨f0, f1, f2, f3⟩⟩ := HX1.out w6 hb16
  obtain ⟨gb, hgb⟩ : ∃ gb, gb = w5.heap.size := ⟨_, rfl⟩
  rw [← hgb] at m0 m1 m2 m3 hng ⊢
  clear hb6 hb16 hbA hb15 hgb
  go_wp2_with fail
  (try simp only [Exit.inBlock, Exit.then])
  refine bodyPost_ret (v := .tuple #[.agg #[.string ⟨#[]⟩, .int .i64 0, .int .i64 0, .string ⟨#[]⟩], .bool false]) ?_ rfl ⟨rfl, ?_⟩
  · rw [results_cell_tmp rfl]; go_simp
  · exact (((hbw.setCell (p := ⟨w.heap.size, 0, none⟩) (Nat.le_refl _) _).setCell (p := ⟨w.heap.size, 1, none⟩) (Nat.le_refl _) _).setCell (p := ⟨w.heap.size, 2, none⟩) (Nat.le_refl _) _).setCell (p := ⟨w.heap.size, 3, none⟩) (Nat.le_refl _) _

set_option maxRecDepth 20000 in
set_option maxHeartbeats 1000000 in
theorem iRead_dot_other (s : ByteArray) (q t r : List UInt8) (w : World) (hs : s.size ≤ 1048576) (hE : EnvR w) (hl : Hid (s.data.toList = [46] ++ 32 :: (q ++ 32 :: (t ++ 32 :: r)))) (hQ4 : Hid (Lib.splitK [32] 0 (min 4 (s.data.toList.length + 1) - 1) s.data.toList = [[46], q, t, r])) (hG : Hid (recB [] (rdNum t 16) (rdNum q 100000) r = true)) (hT : Hid (¬ recT [] (rdNum t 16).toNat (rdNum q 100000).toNat r = s.data.toList)) :
    Calls Tryd.prog 15 #[.string s] w fun e w' => e = .returned (.tuple #[RecV ⟨#[]⟩ 0 0 ⟨#[]⟩, .bool false]) ∧ Below w.heap.size w w' := by
  obtain ⟨W0, hW0⟩ : ∃ W0, W0 = w.alloc (.cells #[.string ⟨#[]⟩, .int .i64 0, .int .i64 0, .string ⟨#[]⟩] 26) := ⟨_, rfl⟩
  have HX : Hid (∀ W, Below W0.heap.size W0 W → (W.cell? ⟨w.heap.size, 0, none⟩ = some (.string ⟨#[]⟩) ∧ W.cell? ⟨w.heap.size, 1, none⟩ = some (.int .i64 0) ∧ W.cell? ⟨w.heap.size, 2, none⟩ = some (.int .i64 0) ∧ W.cell? ⟨w.heap.size, 3, none⟩ = some (.string ⟨#[]⟩) ∧ Below w.heap.size w W) ∧ (W.frozen? ⟨w.heap.size, 0, none⟩ = false ∧ W.frozen? ⟨w.heap.size, 1, none⟩ = false ∧ W.frozen? ⟨w.heap.size, 2, none⟩ = false ∧ W.frozen? ⟨w.heap.size, 3, none⟩ = false)) := fun W h => by rw [hW0] at h; exact ⟨box4 h, box4f h⟩
  have HW0 : Hid (w.alloc (.cells #[.string ⟨#[]⟩, .int .i64 0, .int .i64 0, .string ⟨#[]⟩] 26) = W0) := hW0.symm
  have hb00 : Below w.heap.size w W0 := by rw [hW0]; exact (Below.refl _ _).alloc (Nat.le_refl _) _
  have HTR : Hid (∀ W W', Below W0.heap.size W0 W → Below W.heap.size W W' → Below W0.heap.size W0 W') := fun W W' h1 h2 => h1.trans (h2.mono h1.size)
  have HENV : Hid (∀ W, Below W0.heap.size W0 W → EnvR W) := fun W h => hE.below (HX.out W h).1.2.2.2.2
  have hsn : Calls Tryd.prog 29 #[.string s, .string ⟨#[32]⟩, .int .i64 4] W0 fun e w' => ∃ (Q : List (List UInt8)) (cap : Nat), e = .returned (.slice (some ⟨W0.heap.size, 0, none⟩) Q.length cap) ∧ Q.length ≤ cap ∧ cap ≤ 1000 ∧ Q = Lib.splitK [32] 0 (min 4 (s.data.toList.length + 1) - 1) s.data.toList ∧ (∀ j, (hj : j < Q.length) → w'.cell? ⟨W0.heap.size, j, none⟩ = some (S Q[j])) ∧ W0.heap.size < w'.heap.size ∧ Below W0.heap.size W0 w' := splitN_row s 32 4 W0 hs (hE.1.below hb00) (by omega) (by omega)
  have hsz : s.data.toList.length = s.size := by simp
  have hlen : ([46] : List UInt8).length + q.length + t.length + 3 + r.length = s.size := by
    rw [← hsz, hl.out]; simp; omega
  have HSN : Hid (Calls Tryd.prog 29 #[.string s, .string ⟨#[32]⟩, .int .i64 4] W0 fun e w' => ∃ cap : Nat, e = .returned (.slice (some ⟨W0.heap.size, 0, none⟩) 4 cap) ∧ 4 ≤ cap ∧ cap ≤ 1000 ∧ w'.cell? ⟨W0.heap.size, 0, none⟩ = some (.string ⟨#[46]⟩) ∧ w'.cell? ⟨W0.heap.size, 1, none⟩ = some (.string ⟨q.toArray⟩) ∧ w'.cell? ⟨W0.heap.size, 2, none⟩ = some (.string ⟨t.toArray⟩) ∧ w'.cell? ⟨W0.heap.size, 3, none⟩ = some (.string ⟨r.toArray⟩) ∧ W0.heap.size < w'.heap.size ∧ Below W0.heap.size W0 w') := hsn.mono fun e w' h => by
    obtain ⟨Q, cap, rfl, h1, h2, hQ, hcell, hlt, h3⟩ := h
    rw [hQ4.out] at hQ
    subst hQ
    exact ⟨cap, rfl, h1, h2, hcell 0 (by simp), hcell 1 (by simp), hcell 2 (by simp), hcell 3 (by simp), hlt, h3⟩
  have HR1 : Hid (∀ W, EnvR W → Calls Tryd.prog 30 #[.string ⟨q.toArray⟩, .int .i64 100000] W fun e w' => e = .returned (.tuple #[.int .i64 (rdNum q 100000), .bool (numIn q 100000)]) ∧ Below W.heap.size W w') := fun W hW => readNumber_any ⟨q.toArray⟩ 100000 W (by rw [size_list]; omega) (by omega) (by omega) hW
  have HR2 : Hid (∀ W, EnvR W → Calls Tryd.prog 30 #[.string ⟨t.toArray⟩, .int .i64 16] W fun e w' => e = .returned (.tuple #[.int .i64 (rdNum t 16), .bool (numIn t 16)]) ∧ Below W.heap.size W w') := fun W hW => readNumber_any ⟨t.toArray⟩ 16 W (by rw [size_list]; omega) (by omega) (by omega) hW
  have HC1 : Hid (∀ W, Calls Tryd.prog 31 #[.string ⟨#[46]⟩] W fun e w' => e = .returned (.string ⟨#[46]⟩) ∧ Below W.heap.size W w') := fun W => cloneR_any ⟨#[46]⟩ W (by decide)
  have HC2 : Hid (∀ W, Calls Tryd.prog 31 #[.string ⟨r.toArray⟩] W fun e w' => e = .returned (.string ⟨r.toArray⟩) ∧ Below W.heap.size W w') := fun W => cloneR_any ⟨r.toArray⟩ W (by rw [size_list]; omega)
  have HTX : Hid (∀ W, EnvR W → Calls Tryd.prog 13 #[RecV ⟨([] : List UInt8).toArray⟩ (rdNum t 16) (rdNum q 100000) ⟨r.toArray⟩] W fun e w' => e = .returned (.tuple #[.string ⟨(recT [] (rdNum t 16).toNat (rdNum q 100000).toNat r).toArray⟩, .bool true]) ∧ Below W.heap.size W w') := fun W hW => by
    have h := iRecordText_any ⟨([] : List UInt8).toArray⟩ ⟨r.toArray⟩ (rdNum t 16) (rdNum q 100000) W (by rw [size_list]; simp) (by rw [size_list]; omega) hW
    rw [show recB (⟨([] : List UInt8).toArray⟩ : ByteArray).data.toList (rdNum t 16) (rdNum q 100000) (⟨r.toArray⟩ : ByteArray).data.toList = true from hG.out, show recX (⟨([] : List UInt8).toArray⟩ : ByteArray).data.toList (rdNum t 16) (rdNum q 100000) (⟨r.toArray⟩ : ByteArray).data.toList = recT [] (rdNum t 16).toNat (rdNum q 100000).toNat r from if_pos hG.out] at h
    exact h
  obtain ⟨x, hx⟩ : ∃ x, x = recT [] (rdNum t 16).toNat (rdNum q 100000).toNat r := ⟨_, rfl⟩
  rw [← hx] at HTX hT
  have et : (x == s.toList) = false := by rw [ByteArray.toList_eq]; simpa using hT.out
  clear hx
  obtain ⟨ty, hty⟩ : ∃ ty, ty = rdNum t 16 := ⟨_, rfl⟩
  obtain ⟨ttl, httl⟩ : ∃ ttl, ttl = rdNum q 100000 := ⟨_, rfl⟩
  rw [← hty, ← httl] at HTX
  rw [← httl] at HR1
  rw [← hty] at HR2
  clear hW0 hsn hsz hlen hty httl hG hT
  unfold RecV at HTX ⊢
  go_enter Tryd.func15, Tryd.ntmps15
  go_wp2_with fail
  rw [HW0.out]
  refine HSN.out.mono ?_
  rintro e w1 ⟨cap, rfl, hcap, hcap2, d0, d1, d2, d3, hlt, hb⟩
  obtain ⟨g, hg⟩ : ∃ g, g = W0.heap.size := ⟨_, rfl⟩
  rw [← hg] at d0 d1 d2 d3 hlt ⊢
  have HD : Hid (∀ W, Below w1.heap.size w1 W → W.cell? ⟨g, 0, none⟩ = some (.string ⟨#[46]⟩) ∧ W.cell? ⟨g, 1, none⟩ = some (.string ⟨q.toArray⟩) ∧ W.cell? ⟨g, 2, none⟩ = some (.string ⟨t.toArray⟩) ∧ W.cell? ⟨g, 3, none⟩ = some (.string ⟨r.toArray⟩)) := fun W h => by
    rw [h.cell (p := ⟨g, 0, none⟩) hlt, h.cell (p := ⟨g, 1, none⟩) hlt, h.cell (p := ⟨g, 2, none⟩) hlt, h.cell (p := ⟨g, 3, none⟩) hlt]; exact ⟨d0, d1, d2, d3⟩
  have HT1 : Hid (∀ W W', Below w1.heap.size w1 W → Below W.heap.size W W' → Below w1.heap.size w1 W') := fun W W' h1 h2 => h1.trans (h2.mono h1.size)
  have HB1 : Hid (Below W0.heap.size W0 w1) := hb
  have HE1 : Hid (∀ W, Below w1.heap.size w1 W → EnvR W) := fun W h => HENV.out W (HTR.out _ _ hb h)
  have HX1 : Hid (∀ W, Below w1.heap.size w1 W → (W.cell? ⟨w.heap.size, 0, none⟩ = some (.string ⟨#[]⟩) ∧ W.cell? ⟨w.heap.size, 1, none⟩ = some (.int .i64 0) ∧ W.cell? ⟨w.heap.size, 2, none⟩ = some (.int .i64 0) ∧ W.cell? ⟨w.heap.size, 3, none⟩ = some (.string ⟨#[]⟩) ∧ Below w.heap.size w W) ∧ (W.frozen? ⟨w.heap.size, 0, none⟩ = false ∧ W.frozen? ⟨w.heap.size, 1, none⟩ = false ∧ W.frozen? ⟨w.heap.size, 2, none⟩ = false ∧ W.frozen? ⟨w.heap.size, 3, none⟩ = false)) := fun W h => HX.out W (HTR.out _ _ hb h)
  have hbz : Below w1.heap.size w1 w1 := Below.refl _ _
  clear hg hb hlt
  go_wp2_with fail
  refine (HR1.out _ (HE1.out _ hbz)).mono ?_
  rintro e w2 ⟨rfl, hb2⟩
  have hb12 := HT1.out _ _ hbz hb2
  clear d0 d1 d2 d3 hbz hb2
  obtain ⟨d0, d1, d2, d3⟩ := HD.out w2 hb12
  go_wp2_with fail
  refine (HR2.out _ (HE1.out _ hb12)).mono ?_
  rintro e w3 ⟨rfl, hb3⟩
  have hb13 := HT1.out _ _ hb12 hb3
  clear d0 d1 d2 d3 hb12 hb3
  obtain ⟨d0, d1, d2, d3⟩ := HD.out w3 hb13
  go_wp2_with fail
  refine (HC1.out _).mono ?_
  rintro e w4 ⟨rfl, hb4⟩
  have hb14 := HT1.out _ _ hb13 hb4
  clear d0 d1 d2 d3 hb13 hb4
  obtain ⟨d0, d1, d2, d3⟩ := HD.out w4 hb14
  go_wp2_with fail
  refine (HC2.out _).mono ?_
  rintro e w5 ⟨rfl, hb5⟩
  have hb15 := HT1.out _ _ hb14 hb5
  clear d0 d1 d2 d3 hb14 hb5
  have hbA : Below w1.heap.size w1 (w5.alloc (.cells #[.string ⟨#[]⟩, .int .i64 ty, .int .i64 ttl, .string ⟨r.toArray⟩] 26)) := hb15.alloc hb15.size _
  go_wp2_with fail
  refine (HTX.out _ (HE1.out _ hbA)).mono ?_
  rintro e w6 ⟨rfl, hb6⟩
  obtain ⟨m0, m1, m2, m3, _⟩ := box4 hb6
  have hb16 := HT1.out _ _ hbA hb6
  have hng : w5.heap.size ≠ w.heap.size := by have h1 := HB1.out.size; have h2 := hb15.size; have h3 := World.block_lt_of_cell? _ _ (HX.out W0 (Below.refl _ _)).1.1; simp at h3; omega
  obtain ⟨⟨c0, c1, c2, c3, hbw⟩, ⟨f0, f1, f2, f3⟩⟩ := HX1.out w6 hb16
  obtain ⟨gb, hgb⟩ : ∃ gb, gb = w5.heap.size := ⟨_, rfl⟩
  rw [← hgb] at m0 m1 m2 m3 hng ⊢
  clear hb6 hb16 hbA hb15 hgb
  go_wp2_with fail
  (try simp only [Exit.inBlock, Exit.then])
  refine bodyPost_ret (v := .tuple #[.agg #[.string ⟨#[]⟩, .int .i64 0, .int .i64 0, .string ⟨#[]⟩], .bool false]) ?_ rfl ⟨rfl, ?_⟩
  · rw [results_cell_tmp rfl]; go_simp
  · exact (((hbw.setCell (p := ⟨w.heap.size, 0, none⟩) (Nat.le_refl _) _).setCell (p := ⟨w.heap.size, 1, none⟩) (Nat.le_refl _) _).setCell (p := ⟨w.heap.size, 2, none⟩) (Nat.le_refl _) _).setCell (p := ⟨w.heap.size, 3, none⟩) (Nat.le_refl _) _

set_option maxRecDepth 20000 in
set_option maxHeartbeats 1000000 in
theorem iRead_dot_same (s : ByteArray) (q t r : List UInt8) (w : World) (hs : s.size ≤ 1048576) (hE : EnvR w) (hl : Hid (s.data.toList = [46] ++ 32 :: (q ++ 32 :: (t ++ 32 :: r)))) (hQ4 : Hid (Lib.splitK [32] 0 (min 4 (s.data.toList.length + 1) - 1) s.data.toList = [[46], q, t, r])) (hG : Hid (recB [] (rdNum t 16) (rdNum q 100000) r = true)) (hT : Hid (recT [] (rdNum t 16).toNat (rdNum q 100000).toNat r = s.data.toList)) :
    Calls Tryd.prog 15 #[.string s] w fun e w' => e = .returned (.tuple #[RecV ⟨([] : List UInt8).toArray⟩ (rdNum t 16) (rdNum q 100000) ⟨r.toArray⟩, .bool true]) ∧ Below w.heap.size w w' := by
  obtain ⟨W0, hW0⟩ : ∃ W0, W0 = w.alloc (.cells #[.string ⟨#[]⟩, .int .i64 0, .int .i64 0, .string ⟨#[]⟩] 26) := ⟨_, rfl⟩
  have HX : Hid (∀ W, Below W0.heap.size W0 W → (W.cell? ⟨w.heap.size, 0, none⟩ = some (.string ⟨#[]⟩) ∧ W.cell? ⟨w.heap.size, 1, none⟩ = some (.int .i64 0) ∧ W.cell? ⟨w.heap.size, 2, none⟩ = some (.int .i64 0) ∧ W.cell? ⟨w.heap.size, 3, none⟩ = some (.string ⟨#[]⟩) ∧ Below w.heap.size w W) ∧ (W.frozen? ⟨w.heap.size, 0, none⟩ = false ∧ W.frozen? ⟨w.heap.size, 1, none⟩ = false ∧ W.frozen? ⟨w.heap.size, 2, none⟩ = false ∧ W.frozen? ⟨w.heap.size, 3, none⟩ = false)) := fun W h => by rw [hW0] at h; exact ⟨box4 h, box4f h⟩
  have HW0 : Hid (w.alloc (.cells #[.string ⟨#[]⟩, .int .i64 0, .int .i64 0, .string ⟨#[]⟩] 26) = W0) := hW0.symm
  have hb00 : Below w.heap.size w W0 := by rw [hW0]; exact (Below.refl _ _).alloc (Nat.le_refl _) _
  have HTR : Hid (∀ W W', Below W0.heap.size W0 W → Below W.heap.size W W' → Below W0.heap.size W0 W') := fun W W' h1 h2 => h1.trans (h2.mono h1.size)
  have HENV : Hid (∀ W, Below W0.heap.size W0 W → EnvR W) := fun W h => hE.below (HX.out W h).1.2.2.2.2
  have hsn : Calls Tryd.prog 29 #[.string s, .string ⟨#[32]⟩, .int .i64 4] W0 fun e w' => ∃ (Q : List (List UInt8)) (cap : Nat), e = .returned (.slice (some ⟨W0.heap.size, 0, none⟩) Q.length cap) ∧ Q.length ≤ cap ∧ cap ≤ 1000 ∧ Q = Lib.splitK [32] 0 (min 4 (s.data.toList.length + 1) - 1) s.data.toList ∧ (∀ j, (hj : j < Q.length) → w'.cell? ⟨W0.heap.size, j, none⟩ = some (S Q[j])) ∧ W0.heap.size < w'.heap.size ∧ Below W0.heap.size W0 w' := splitN_row s 32 4 W0 hs (hE.1.below hb00) (by omega) (by omega)
  have hsz : s.data.toList.length = s.size := by simp
  have hlen : ([46] : List UInt8).length + q.length + t.length + 3 + r.length = s.size := by
    rw [← hsz, hl.out]; simp; omega
  have HSN : Hid (Calls Tryd.prog 29 #[.string s, .string ⟨#[32]⟩, .int .i64 4] W0 fun e w' => ∃ cap : Nat, e = .returned (.slice (some ⟨W0.heap.size, 0, none⟩) 4 cap) ∧ 4 ≤ cap ∧ cap ≤ 1000 ∧ w'.cell? ⟨W0.heap.size, 0, none⟩ = some (.string ⟨#[46]⟩) ∧ w'.cell? ⟨W0.heap.size, 1, none⟩ = some (.string ⟨q.toArray⟩) ∧ w'.cell? ⟨W0.heap.size, 2, none⟩ = some (.string ⟨t.toArray⟩) ∧ w'.cell? ⟨W0.heap.size, 3, none⟩ = some (.string ⟨r.toArray⟩) ∧ W0.heap.size < w'.heap.size ∧ Below W0.heap.size W0 w') := hsn.mono fun e w' h => by
    obtain ⟨Q, cap, rfl, h1, h2, hQ, hcell, hlt, h3⟩ := h
    rw [hQ4.out] at hQ
    subst hQ
    exact ⟨cap, rfl, h1, h2, hcell 0 (by simp), hcell 1 (by simp), hcell 2 (by simp), hcell 3 (by simp), hlt, h3⟩
  have HR1 : Hid (∀ W, EnvR W → Calls Tryd.prog 30 #[.string ⟨q.toArray⟩, .int .i64 100000] W fun e w' => e = .returned (.tuple #[.int .i64 (rdNum q 100000), .bool (numIn q 100000)]) ∧ Below W.heap.size W w') := fun W hW => readNumber_any ⟨q.toArray⟩ 100000 W (by rw [size_list]; omega) (by omega) (by omega) hW
  have HR2 : Hid (∀ W, EnvR W → Calls Tryd.prog 30 #[.string ⟨t.toArray⟩, .int .i64 16] W fun e w' => e = .returned (.tuple #[.int .i64 (rdNum t 16), .bool (numIn t 16)]) ∧ Below W.heap.size W w') := fun W hW => readNumber_any ⟨t.toArray⟩ 16 W (by rw [size_list]; omega) (by omega) (by omega) hW
  have HC1 : Hid (∀ W, Calls Tryd.prog 31 #[.string ⟨#[46]⟩] W fun e w' => e = .returned (.string ⟨#[46]⟩) ∧ Below W.heap.size W w') := fun W => cloneR_any ⟨#[46]⟩ W (by decide)
  have HC2 : Hid (∀ W, Calls Tryd.prog 31 #[.string ⟨r.toArray⟩] W fun e w' => e = .returned (.string ⟨r.toArray⟩) ∧ Below W.heap.size W w') := fun W => cloneR_any ⟨r.toArray⟩ W (by rw [size_list]; omega)
  have HTX : Hid (∀ W, EnvR W → Calls Tryd.prog 13 #[RecV ⟨([] : List UInt8).toArray⟩ (rdNum t 16) (rdNum q 100000) ⟨r.toArray⟩] W fun e w' => e = .returned (.tuple #[.string ⟨(recT [] (rdNum t 16).toNat (rdNum q 100000).toNat r).toArray⟩, .bool true]) ∧ Below W.heap.size W w') := fun W hW => by
    have h := iRecordText_any ⟨([] : List UInt8).toArray⟩ ⟨r.toArray⟩ (rdNum t 16) (rdNum q 100000) W (by rw [size_list]; simp) (by rw [size_list]; omega) hW
    rw [show recB (⟨([] : List UInt8).toArray⟩ : ByteArray).data.toList (rdNum t 16) (rdNum q 100000) (⟨r.toArray⟩ : ByteArray).data.toList = true from hG.out, show recX (⟨([] : List UInt8).toArray⟩ : ByteArray).data.toList (rdNum t 16) (rdNum q 100000) (⟨r.toArray⟩ : ByteArray).data.toList = recT [] (rdNum t 16).toNat (rdNum q 100000).toNat r from if_pos hG.out] at h
    exact h
  have hTs : (⟨(recT [] (rdNum t 16).toNat (rdNum q 100000).toNat r).toArray⟩ : ByteArray) = s := data_eq hT.out
  rw [hTs] at HTX
  have et : (s.toList != s.toList) = false := by simp
  clear hTs
  obtain ⟨ty, hty⟩ : ∃ ty, ty = rdNum t 16 := ⟨_, rfl⟩
  obtain ⟨ttl, httl⟩ : ∃ ttl, ttl = rdNum q 100000 := ⟨_, rfl⟩
  rw [← hty, ← httl] at HTX ⊢
  rw [← httl] at HR1
  rw [← hty] at HR2
  clear hW0 hsn hsz hlen hty httl hG hT
  unfold RecV at HTX ⊢
  go_enter Tryd.func15, Tryd.ntmps15
  go_wp2_with fail
  rw [HW0.out]
  refine HSN.out.mono ?_
  rintro e w1 ⟨cap, rfl, hcap, hcap2, d0, d1, d2, d3, hlt, hb⟩
  obtain ⟨g, hg⟩ : ∃ g, g = W0.heap.size := ⟨_, rfl⟩
  rw [← hg] at d0 d1 d2 d3 hlt ⊢
  have HD : Hid (∀ W, Below w1.heap.size w1 W → W.cell? ⟨g, 0, none⟩ = some (.string ⟨#[46]⟩) ∧ W.cell? ⟨g, 1, none⟩ = some (.string ⟨q.toArray⟩) ∧ W.cell? ⟨g, 2, none⟩ = some (.string ⟨t.toArray⟩) ∧ W.cell? ⟨g, 3, none⟩ = some (.string ⟨r.toArray⟩)) := fun W h => by
    rw [h.cell (p := ⟨g, 0, none⟩) hlt, h.cell (p := ⟨g, 1, none⟩) hlt, h.cell (p := ⟨g, 2, none⟩) hlt, h.cell (p := ⟨g, 3, none⟩) hlt]; exact ⟨d0, d1, d2, d3⟩
  have HT1 : Hid (∀ W W', Below w1.heap.size w1 W → Below W.heap.size W W' → Below w1.heap.size w1 W') := fun W W' h1 h2 => h1.trans (h2.mono h1.size)
  have HB1 : Hid (Below W0.heap.size W0 w1) := hb
  have HE1 : Hid (∀ W, Below w1.heap.size w1 W → EnvR W) := fun W h => HENV.out W (HTR.out _ _ hb h)
  have HX1 : Hid (∀ W, Below w1.heap.size w1 W → (W.cell? ⟨w.heap.size, 0, none⟩ = some (.string ⟨#[]⟩) ∧ W.cell? ⟨w.heap.size, 1, none⟩ = some (.int .i64 0) ∧ W.cell? ⟨w.heap.size, 2, none⟩ = some (.int .i64 0) ∧ W.cell? ⟨w.heap.size, 3, none⟩ = some (.string ⟨#[]⟩) ∧ Below w.heap.size w W) ∧ (W.frozen? ⟨w.heap.size, 0, none⟩ = false ∧ W.frozen? ⟨w.heap.size, 1, none⟩ = false ∧ W.frozen? ⟨w.heap.size, 2, none⟩ = false ∧ W.frozen? ⟨w.heap.size, 3, none⟩ = false)) := fun W h => HX.out W (HTR.out _ _ hb h)
  have hbz : Below w1.heap.size w1 w1 := Below.refl _ _
  clear hg hb hlt
  go_wp2_with fail
  refine (HR1.out _ (HE1.out _ hbz)).mono ?_
  rintro e w2 ⟨rfl, hb2⟩
  have hb12 := HT1.out _ _ hbz hb2
  clear d0 d1 d2 d3 hbz hb2
  obtain ⟨d0, d1, d2, d3⟩ := HD.out w2 hb12
  go_wp2_with fail
  refine (HR2.out _ (HE1.out _ hb12)).mono ?_
  rintro e w3 ⟨rfl, hb3⟩
  have hb13 := HT1.out _ _ hb12 hb3
  clear d0 d1 d2 d3 hb12 hb3
  obtain ⟨d0, d1, d2, d3⟩ := HD.out w3 hb13
  go_wp2_with fail
  refine (HC1.out _).mono ?_
  rintro e w4 ⟨rfl, hb4⟩
  have hb14 := HT1.out _ _ hb13 hb4
  clear d0 d1 d2 d3 hb13 hb4
  obtain ⟨d0, d1, d2, d3⟩ := HD.out w4 hb14
  go_wp2_with fail
  refine (HC2.out _).mono ?_
  rintro e w5 ⟨rfl, hb5⟩
  have hb15 := HT1.out _ _ hb14 hb5
  clear d0 d1 d2 d3 hb14 hb5
  have hbA : Below w1.heap.size w1 (w5.alloc (.cells #[.string ⟨#[]⟩, .int .i64 ty, .int .i64 ttl, .string ⟨r.toArray⟩] 26)) := hb15.alloc hb15.size _
  go_wp2_with fail
  refine (HTX.out _ (HE1.out _ hbA)).mono ?_
  rintro e w6 ⟨rfl, hb6⟩
  obtain ⟨m0, m1, m2, m3, _⟩ := box4 hb6
  have hb16 := HT1.out _ _ hbA hb6
  have hng : w5.heap.size ≠ w.heap.size := by have h1 := HB1.out.size; have h2 := hb15.size; have h3 := World.block_lt_of_cell? _ _ (HX.out W0 (Below.refl _ _)).1.1; simp at h3; omega
  obtain ⟨⟨c0, c1, c2, c3, hbw⟩, ⟨f0, f1, f2, f3⟩⟩ := HX1.out w6 hb16
  obtain ⟨gb, hgb⟩ : ∃ gb, gb = w5.heap.size := ⟨_, rfl⟩
  rw [← hgb] at m0 m1 m2 m3 hng ⊢
  clear hb6 hb16 hbA hb15 hgb
  go_wp2_with fail
  (try simp only [Exit.inBlock, Exit.then])
  refine bodyPost_ret (v := .tuple #[.agg #[.string ⟨#[]⟩, .int .i64 ty, .int .i64 ttl, .string ⟨r.toArray⟩], .bool true]) ?_ rfl ⟨rfl, ?_⟩
  · rw [results_cell_tmp rfl]; go_simp
  · exact (((hbw.setCell (p := ⟨w.heap.size, 0, none⟩) (Nat.le_refl _) _).setCell (p := ⟨w.heap.size, 1, none⟩) (Nat.le_refl _) _).setCell (p := ⟨w.heap.size, 2, none⟩) (Nat.le_refl _) _).setCell (p := ⟨w.heap.size, 3, none⟩) (Nat.le_refl _) _

set_option maxRecDepth 20000 in
set_option maxHeartbeats 1000000 in
theorem iRead_name_bad (s : ByteArray) (p q t r : List UInt8) (w : World) (hs : s.size ≤ 1048576) (hE : EnvR w) (hl : Hid (s.data.toList = p ++ 32 :: (q ++ 32 :: (t ++ 32 :: r)))) (hQ4 : Hid (Lib.splitK [32] 0 (min 4 (s.data.toList.length + 1) - 1) s.data.toList = [p, q, t, r])) (hp : Hid (¬ p = [46])) (hG : Hid (recB p (rdNum t 16) (rdNum q 100000) r = false)) :
    Calls Tryd.prog 15 #[.string s] w fun e w' => e = .returned (.tuple #[RecV ⟨#[]⟩ 0 0 ⟨#[]⟩, .bool false]) ∧ Below w.heap.size w w' := by
  obtain ⟨W0, hW0⟩ : ∃ W0, W0 = w.alloc (.cells #[.string ⟨#[]⟩, .int .i64 0, .int .i64 0, .string ⟨#[]⟩] 26) := ⟨_, rfl⟩
  have HX : Hid (∀ W, Below W0.heap.size W0 W → (W.cell? ⟨w.heap.size, 0, none⟩ = some (.string ⟨#[]⟩) ∧ W.cell? ⟨w.heap.size, 1, none⟩ = some (.int .i64 0) ∧ W.cell? ⟨w.heap.size, 2, none⟩ = some (.int .i64 0) ∧ W.cell? ⟨w.heap.size, 3, none⟩ = some (.string ⟨#[]⟩) ∧ Below w.heap.size w W) ∧ (W.frozen? ⟨w.heap.size, 0, none⟩ = false ∧ W.frozen? ⟨w.heap.size, 1, none⟩ = false ∧ W.frozen? ⟨w.heap.size, 2, none⟩ = false ∧ W.frozen? ⟨w.heap.size, 3, none⟩ = false)) := fun W h => by rw [hW0] at h; exact ⟨box4 h, box4f h⟩
  have HW0 : Hid (w.alloc (.cells #[.string ⟨#[]⟩, .int .i64 0, .int .i64 0, .string ⟨#[]⟩] 26) = W0) := hW0.symm
  have hb00 : Below w.heap.size w W0 := by rw [hW0]; exact (Below.refl _ _).alloc (Nat.le_refl _) _
  have HTR : Hid (∀ W W', Below W0.heap.size W0 W → Below W.heap.size W W' → Below W0.heap.size W0 W') := fun W W' h1 h2 => h1.trans (h2.mono h1.size)
  have HENV : Hid (∀ W, Below W0.heap.size W0 W → EnvR W) := fun W h => hE.below (HX.out W h).1.2.2.2.2
  have hsn : Calls Tryd.prog 29 #[.string s, .string ⟨#[32]⟩, .int .i64 4] W0 fun e w' => ∃ (Q : List (List UInt8)) (cap : Nat), e = .returned (.slice (some ⟨W0.heap.size, 0, none⟩) Q.length cap) ∧ Q.length ≤ cap ∧ cap ≤ 1000 ∧ Q = Lib.splitK [32] 0 (min 4 (s.data.toList.length + 1) - 1) s.data.toList ∧ (∀ j, (hj : j < Q.length) → w'.cell? ⟨W0.heap.size, j, none⟩ = some (S Q[j])) ∧ W0.heap.size < w'.heap.size ∧ Below W0.heap.size W0 w' := splitN_row s 32 4 W0 hs (hE.1.below hb00) (by omega) (by omega)
  have hsz : s.data.toList.length = s.size := by simp
  have hlen : (p : List UInt8).length + q.length + t.length + 3 + r.length = s.size := by
    rw [← hsz, hl.out]; simp; omega
  have HSN : Hid (Calls Tryd.prog 29 #[.string s, .string ⟨#[32]⟩, .int .i64 4] W0 fun e w' => ∃ cap : Nat, e = .returned (.slice (some ⟨W0.heap.size, 0, none⟩) 4 cap) ∧ 4 ≤ cap ∧ cap ≤ 1000 ∧ w'.cell? ⟨W0.heap.size, 0, none⟩ = some (.string ⟨p.toArray⟩) ∧ w'.cell? ⟨W0.heap.size, 1, none⟩ = some (.string ⟨q.toArray⟩) ∧ w'.cell? ⟨W0.heap.size, 2, none⟩ = some (.string ⟨t.toArray⟩) ∧ w'.cell? ⟨W0.heap.size, 3, none⟩ = some (.string ⟨r.toArray⟩) ∧ W0.heap.size < w'.heap.size ∧ Below W0.heap.size W0 w') := hsn.mono fun e w' h => by
    obtain ⟨Q, cap, rfl, h1, h2, hQ, hcell, hlt, h3⟩ := h
    rw [hQ4.out] at hQ
    subst hQ
    exact ⟨cap, rfl, h1, h2, hcell 0 (by simp), hcell 1 (by simp), hcell 2 (by simp), hcell 3 (by simp), hlt, h3⟩
  have HR1 : Hid (∀ W, EnvR W → Calls Tryd.prog 30 #[.string ⟨q.toArray⟩, .int .i64 100000] W fun e w' => e = .returned (.tuple #[.int .i64 (rdNum q 100000), .bool (numIn q 100000)]) ∧ Below W.heap.size W w') := fun W hW => readNumber_any ⟨q.toArray⟩ 100000 W (by rw [size_list]; omega) (by omega) (by omega) hW
  have HR2 : Hid (∀ W, EnvR W → Calls Tryd.prog 30 #[.string ⟨t.toArray⟩, .int .i64 16] W fun e w' => e = .returned (.tuple #[.int .i64 (rdNum t 16), .bool (numIn t 16)]) ∧ Below W.heap.size W w') := fun W hW => readNumber_any ⟨t.toArray⟩ 16 W (by rw [size_list]; omega) (by omega) (by omega) hW
  have HC1 : Hid (∀ W, Calls Tryd.prog 31 #[.string ⟨p.toArray⟩] W fun e w' => e = .returned (.string ⟨p.toArray⟩) ∧ Below W.heap.size W w') := fun W => cloneR_any ⟨p.toArray⟩ W (by rw [size_list]; omega)
  have HC2 : Hid (∀ W, Calls Tryd.prog 31 #[.string ⟨r.toArray⟩] W fun e w' => e = .returned (.string ⟨r.toArray⟩) ∧ Below W.heap.size W w') := fun W => cloneR_any ⟨r.toArray⟩ W (by rw [size_list]; omega)
  have HTX : Hid (∀ W, EnvR W → Calls Tryd.prog 13 #[RecV ⟨(p : List UInt8).toArray⟩ (rdNum t 16) (rdNum q 100000) ⟨r.toArray⟩] W fun e w' => e = .returned (.tuple #[.string ⟨#[]⟩, .bool false]) ∧ Below W.heap.size W w') := fun W hW => by
    have h := iRecordText_any ⟨(p : List UInt8).toArray⟩ ⟨r.toArray⟩ (rdNum t 16) (rdNum q 100000) W (by rw [size_list]; omega) (by rw [size_list]; omega) hW
    rw [show recB (⟨(p : List UInt8).toArray⟩ : ByteArray).data.toList (rdNum t 16) (rdNum q 100000) (⟨r.toArray⟩ : ByteArray).data.toList = false from hG.out, show recX (⟨(p : List UInt8).toArray⟩ : ByteArray).data.toList (rdNum t 16) (rdNum q 100000) (⟨r.toArray⟩ : ByteArray).data.toList = [] from if_neg (by rw [show recB (⟨(p : List UInt8).toArray⟩ : ByteArray).data.toList (rdNum t 16) (rdNum q 100000) (⟨r.toArray⟩ : ByteArray).data.toList = false from hG.out]; simp)] at h
    exact h
  have e46 : (p == [46]) = false := by simpa using hp.out
  obtain ⟨ty, hty⟩ : ∃ ty, ty = rdNum t 16 := ⟨_, rfl⟩
  obtain ⟨ttl, httl⟩ : ∃ ttl, ttl = rdNum q 100000 := ⟨_, rfl⟩
  rw [← hty, ← httl] at HTX
  rw [← httl] at HR1
  rw [← hty] at HR2
  clear hW0 hsn hsz hlen hty httl hG
  unfold RecV at HTX ⊢
  go_enter Tryd.func15, Tryd.ntmps15
  go_wp2_with fail
  rw [HW0.out]
  refine HSN.out.mono ?_
  rintro e w1 ⟨cap, rfl, hcap, hcap2, d0, d1, d2, d3, hlt, hb⟩
  obtain ⟨g, hg⟩ : ∃ g, g = W0.heap.size := ⟨_, rfl⟩
  rw [← hg] at d0 d1 d2 d3 hlt ⊢
  have HD : Hid (∀ W, Below w1.heap.size w1 W → W.cell? ⟨g, 0, none⟩ = some (.string ⟨p.toArray⟩) ∧ W.cell? ⟨g, 1, none⟩ = some (.string ⟨q.toArray⟩) ∧ W.cell? ⟨g, 2, none⟩ = some (.string ⟨t.toArray⟩) ∧ W.cell? ⟨g, 3, none⟩ = some (.string ⟨r.toArray⟩)) := fun W h => by
    rw [h.cell (p := ⟨g, 0, none⟩) hlt, h.cell (p := ⟨g, 1, none⟩) hlt, h.cell (p := ⟨g, 2, none⟩) hlt, h.cell (p := ⟨g, 3, none⟩) hlt]; exact ⟨d0, d1, d2, d3⟩
  have HT1 : Hid (∀ W W', Below w1.heap.size w1 W → Below W.heap.size W W' → Below w1.heap.size w1 W') := fun W W' h1 h2 => h1.trans (h2.mono h1.size)
  have HB1 : Hid (Below W0.heap.size W0 w1) := hb
  have HE1 : Hid (∀ W, Below w1.heap.size w1 W → EnvR W) := fun W h => HENV.out W (HTR.out _ _ hb h)
  have HX1 : Hid (∀ W, Below w1.heap.size w1 W → (W.cell? ⟨w.heap.size, 0, none⟩ = some (.string ⟨#[]⟩) ∧ W.cell? ⟨w.heap.size, 1, none⟩ = some (.int .i64 0) ∧ W.cell? ⟨w.heap.size, 2, none⟩ = some (.int .i64 0) ∧ W.cell? ⟨w.heap.size, 3, none⟩ = some (.string ⟨#[]⟩) ∧ Below w.heap.size w W) ∧ (W.frozen? ⟨w.heap.size, 0, none⟩ = false ∧ W.frozen? ⟨w.heap.size, 1, none⟩ = false ∧ W.frozen? ⟨w.heap.size, 2, none⟩ = false ∧ W.frozen? ⟨w.heap.size, 3, none⟩ = false)) := fun W h => HX.out W (HTR.out _ _ hb h)
  have hbz : Below w1.heap.size w1 w1 := Below.refl _ _
  clear hg hb hlt
  go_wp2_with fail
  refine (HR1.out _ (HE1.out _ hbz)).mono ?_
  rintro e w2 ⟨rfl, hb2⟩
  have hb12 := HT1.out _ _ hbz hb2
  clear d0 d1 d2 d3 hbz hb2
  obtain ⟨d0, d1, d2, d3⟩ := HD.out w2 hb12
  go_wp2_with fail
  refine (HR2.out _ (HE1.out _ hb12)).mono ?_
  rintro e w3 ⟨rfl, hb3⟩
  have hb13 := HT1.out _ _ hb12 hb3
  clear d0 d1 d2 d3 hb12 hb3
  obtain ⟨d0, d1, d2, d3⟩ := HD.out w3 hb13
  go_wp2_with fail
  refine (HC1.out _).mono ?_
  rintro e w4 ⟨rfl, hb4⟩
  have hb14 := HT1.out _ _ hb13 hb4
  clear d0 d1 d2 d3 hb13 hb4
  obtain ⟨d0, d1, d2, d3⟩ := HD.out w4 hb14
  go_wp2_with fail
  refine (HC2.out _).mono ?_
  rintro e w5 ⟨rfl, hb5⟩
  have hb15 := HT1.out _ _ hb14 hb5
  clear d0 d1 d2 d3 hb14 hb5
  have hbA : Below w1.heap.size w1 (w5.alloc (.cells #[.string ⟨p.toArray⟩, .int .i64 ty, .int .i64 ttl, .string ⟨r.toArray⟩] 26)) := hb15.alloc hb15.size _
  go_wp2_with fail
  refine (HTX.out _ (HE1.out _ hbA)).mono ?_
  rintro e w6 ⟨rfl, hb6⟩
  obtain ⟨m0, m1, m2, m3, _⟩ := box4 hb6
  have hb16 := HT1.out _ _ hbA hb6
  have hng : w5.heap.size ≠ w.heap.size := by have h1 := HB1.out.size; have h2 := hb15.size; have h3 := World.block_lt_of_cell? _ _ (HX.out W0 (Below.refl _ _)).1.1; simp at h3; omega
  obtain ⟨⟨c0, c1, c2, c3, hbw⟩, ⟨f0, f1, f2, f3⟩⟩ := HX1.out w6 hb16
  obtain ⟨gb, hgb⟩ : ∃ gb, gb = w5.heap.size := ⟨_, rfl⟩
  rw [← hgb] at m0 m1 m2 m3 hng ⊢
  clear hb6 hb16 hbA hb15 hgb
  go_wp2_with fail
  (try simp only [Exit.inBlock, Exit.then])
  refine bodyPost_ret (v := .tuple #[.agg #[.string ⟨#[]⟩, .int .i64 0, .int .i64 0, .string ⟨#[]⟩], .bool false]) ?_ rfl ⟨rfl, ?_⟩
  · rw [results_cell_tmp rfl]; go_simp
  · exact (((hbw.setCell (p := ⟨w.heap.size, 0, none⟩) (Nat.le_refl _) _).setCell (p := ⟨w.heap.size, 1, none⟩) (Nat.le_refl _) _).setCell (p := ⟨w.heap.size, 2, none⟩) (Nat.le_refl _) _).setCell (p := ⟨w.heap.size, 3, none⟩) (Nat.le_refl _) _

set_option maxRecDepth 20000 in
set_option maxHeartbeats 1000000 in
theorem iRead_name_other (s : ByteArray) (p q t r : List UInt8) (w : World) (hs : s.size ≤ 1048576) (hE : EnvR w) (hl : Hid (s.data.toList = p ++ 32 :: (q ++ 32 :: (t ++ 32 :: r)))) (hQ4 : Hid (Lib.splitK [32] 0 (min 4 (s.data.toList.length + 1) - 1) s.data.toList = [p, q, t, r])) (hp : Hid (¬ p = [46])) (hG : Hid (recB p (rdNum t 16) (rdNum q 100000) r = true)) (hT : Hid (¬ recT p (rdNum t 16).toNat (rdNum q 100000).toNat r = s.data.toList)) :
    Calls Tryd.prog 15 #[.string s] w fun e w' => e = .returned (.tuple #[RecV ⟨#[]⟩ 0 0 ⟨#[]⟩, .bool false]) ∧ Below w.heap.size w w' := by
  obtain ⟨W0, hW0⟩ : ∃ W0, W0 = w.alloc (.cells #[.string ⟨#[]⟩, .int .i64 0, .int .i64 0, .string ⟨#[]⟩] 26) := ⟨_, rfl⟩
  have HX : Hid (∀ W, Below W0.heap.size W0 W → (W.cell? ⟨w.heap.size, 0, none⟩ = some (.string ⟨#[]⟩) ∧ W.cell? ⟨w.heap.size, 1, none⟩ = some (.int .i64 0) ∧ W.cell? ⟨w.heap.size, 2, none⟩ = some (.int .i64 0) ∧ W.cell? ⟨w.heap.size, 3, none⟩ = some (.string ⟨#[]⟩) ∧ Below w.heap.size w W) ∧ (W.frozen? ⟨w.heap.size, 0, none⟩ = false ∧ W.frozen? ⟨w.heap.size, 1, none⟩ = false ∧ W.frozen? ⟨w.heap.size, 2, none⟩ = false ∧ W.frozen? ⟨w.heap.size, 3, none⟩ = false)) := fun W h => by rw [hW0] at h; exact ⟨box4 h, box4f h⟩
  have HW0 : Hid (w.alloc (.cells #[.string ⟨#[]⟩, .int .i64 0, .int .i64 0, .string ⟨#[]⟩] 26) = W0) := hW0.symm
  have hb00 : Below w.heap.size w W0 := by rw [hW0]; exact (Below.refl _ _).alloc (Nat.le_refl _) _
  have HTR : Hid (∀ W W', Below W0.heap.size W0 W → Below W.heap.size W W' → Below W0.heap.size W0 W') := fun W W' h1 h2 => h1.trans (h2.mono h1.size)
  have HENV : Hid (∀ W, Below W0.heap.size W0 W → EnvR W) := fun W h => hE.below (HX.out W h).1.2.2.2.2
  have hsn : Calls Tryd.prog 29 #[.string s, .string ⟨#[32]⟩, .int .i64 4] W0 fun e w' => ∃ (Q : List (List UInt8)) (cap : Nat), e = .returned (.slice (some ⟨W0.heap.size, 0, none⟩) Q.length cap) ∧ Q.length ≤ cap ∧ cap ≤ 1000 ∧ Q = Lib.splitK [32] 0 (min 4 (s.data.toList.length + 1) - 1) s.data.toList ∧ (∀ j, (hj : j < Q.length) → w'.cell? ⟨W0.heap.size, j, none⟩ = some (S Q[j])) ∧ W0.heap.size < w'.heap.size ∧ Below W0.heap.size W0 w' := splitN_row s 32 4 W0 hs (hE.1.below hb00) (by omega) (by omega)
  have hsz : s.data.toList.length = s.size := by simp
  have hlen : (p : List UInt8).length + q.length + t.length + 3 + r.length = s.size := by
    rw [← hsz, hl.out]; simp; omega
  have HSN : Hid (Calls Tryd.prog 29 #[.string s, .string ⟨#[32]⟩, .int .i64 4] W0 fun e w' => ∃ cap : Nat, e = .returned (.slice (some ⟨W0.heap.size, 0, none⟩) 4 cap) ∧ 4 ≤ cap ∧ cap ≤ 1000 ∧ w'.cell? ⟨W0.heap.size, 0, none⟩ = some (.string ⟨p.toArray⟩) ∧ w'.cell? ⟨W0.heap.size, 1, none⟩ = some (.string ⟨q.toArray⟩) ∧ w'.cell? ⟨W0.heap.size, 2, none⟩ = some (.string ⟨t.toArray⟩) ∧ w'.cell? ⟨W0.heap.size, 3, none⟩ = some (.string ⟨r.toArray⟩) ∧ W0.heap.size < w'.heap.size ∧ Below W0.heap.size W0 w') := hsn.mono fun e w' h => by
    obtain ⟨Q, cap, rfl, h1, h2, hQ, hcell, hlt, h3⟩ := h
    rw [hQ4.out] at hQ
    subst hQ
    exact ⟨cap, rfl, h1, h2, hcell 0 (by simp), hcell 1 (by simp), hcell 2 (by simp), hcell 3 (by simp), hlt, h3⟩
  have HR1 : Hid (∀ W, EnvR W → Calls Tryd.prog 30 #[.string ⟨q.toArray⟩, .int .i64 100000] W fun e w' => e = .returned (.tuple #[.int .i64 (rdNum q 100000), .bool (numIn q 100000)]) ∧ Below W.heap.size W w') := fun W hW => readNumber_any ⟨q.toArray⟩ 100000 W (by rw [size_list]; omega) (by omega) (by omega) hW
  have HR2 : Hid (∀ W, EnvR W → Calls Tryd.prog 30 #[.string ⟨t.toArray⟩, .int .i64 16] W fun e w' => e = .returned (.tuple #[.int .i64 (rdNum t 16), .bool (numIn t 16)]) ∧ Below W.heap.size W w') := fun W hW => readNumber_any ⟨t.toArray⟩ 16 W (by rw [size_list]; omega) (by omega) (by omega) hW
  have HC1 : Hid (∀ W, Calls Tryd.prog 31 #[.string ⟨p.toArray⟩] W fun e w' => e = .returned (.string ⟨p.toArray⟩) ∧ Below W.heap.size W w') := fun W => cloneR_any ⟨p.toArray⟩ W (by rw [size_list]; omega)
  have HC2 : Hid (∀ W, Calls Tryd.prog 31 #[.string ⟨r.toArray⟩] W fun e w' => e = .returned (.string ⟨r.toArray⟩) ∧ Below W.heap.size W w') := fun W => cloneR_any ⟨r.toArray⟩ W (by rw [size_list]; omega)
  have HTX : Hid (∀ W, EnvR W → Calls Tryd.prog 13 #[RecV ⟨(p : List UInt8).toArray⟩ (rdNum t 16) (rdNum q 100000) ⟨r.toArray⟩] W fun e w' => e = .returned (.tuple #[.string ⟨(recT p (rdNum t 16).toNat (rdNum q 100000).toNat r).toArray⟩, .bool true]) ∧ Below W.heap.size W w') := fun W hW => by
    have h := iRecordText_any ⟨(p : List UInt8).toArray⟩ ⟨r.toArray⟩ (rdNum t 16) (rdNum q 100000) W (by rw [size_list]; omega) (by rw [size_list]; omega) hW
    rw [show recB (⟨(p : List UInt8).toArray⟩ : ByteArray).data.toList (rdNum t 16) (rdNum q 100000) (⟨r.toArray⟩ : ByteArray).data.toList = true from hG.out, show recX (⟨(p : List UInt8).toArray⟩ : ByteArray).data.toList (rdNum t 16) (rdNum q 100000) (⟨r.toArray⟩ : ByteArray).data.toList = recT p (rdNum t 16).toNat (rdNum q 100000).toNat r from if_pos hG.out] at h
    exact h
  obtain ⟨x, hx⟩ : ∃ x, x = recT p (rdNum t 16).toNat (rdNum q 100000).toNat r := ⟨_, rfl⟩
  rw [← hx] at HTX hT
  have et : (x == s.toList) = false := by rw [ByteArray.toList_eq]; simpa using hT.out
  clear hx
  have e46 : (p == [46]) = false := by simpa using hp.out
  obtain ⟨ty, hty⟩ : ∃ ty, ty = rdNum t 16 := ⟨_, rfl⟩
  obtain ⟨ttl, httl⟩ : ∃ ttl, ttl = rdNum q 100000 := ⟨_, rfl⟩
  rw [← hty, ← httl] at HTX
  rw [← httl] at HR1
  rw [← hty] at HR2
  clear hW0 hsn hsz hlen hty httl hG hT
  unfold RecV at HTX ⊢
  go_enter Tryd.func15, Tryd.ntmps15
  go_wp2_with fail
  rw [HW0.out]
  refine HSN.out.mono ?_
  rintro e w1 ⟨cap, rfl, hcap, hcap2, d0, d1, d2, d3, hlt, hb⟩
  obtain ⟨g, hg⟩ : ∃ g, g = W0.heap.size := ⟨_, rfl⟩
  rw [← hg] at d0 d1 d2 d3 hlt ⊢
  have HD : Hid (∀ W, Below w1.heap.size w1 W → W.cell? ⟨g, 0, none⟩ = some (.string ⟨p.toArray⟩) ∧ W.cell? ⟨g, 1, none⟩ = some (.string ⟨q.toArray⟩) ∧ W.cell? ⟨g, 2, none⟩ = some (.string ⟨t.toArray⟩) ∧ W.cell? ⟨g, 3, none⟩ = some (.string ⟨r.toArray⟩)) := fun W h => by
    rw [h.cell (p := ⟨g, 0, none⟩) hlt, h.cell (p := ⟨g, 1, none⟩) hlt, h.cell (p := ⟨g, 2, none⟩) hlt, h.cell (p := ⟨g, 3, none⟩) hlt]; exact ⟨d0, d1, d2, d3⟩
  have HT1 : Hid (∀ W W', Below w1.heap.size w1 W → Below W.heap.size W W' → Below w1.heap.size w1 W') := fun W W' h1 h2 => h1.trans (h2.mono h1.size)
  have HB1 : Hid (Below W0.heap.size W0 w1) := hb
  have HE1 : Hid (∀ W, Below w1.heap.size w1 W → EnvR W) := fun W h => HENV.out W (HTR.out _ _ hb h)
  have HX1 : Hid (∀ W, Below w1.heap.size w1 W → (W.cell? ⟨w.heap.size, 0, none⟩ = some (.string ⟨#[]⟩) ∧ W.cell? ⟨w.heap.size, 1, none⟩ = some (.int .i64 0) ∧ W.cell? ⟨w.heap.size, 2, none⟩ = some (.int .i64 0) ∧ W.cell? ⟨w.heap.size, 3, none⟩ = some (.string ⟨#[]⟩) ∧ Below w.heap.size w W) ∧ (W.frozen? ⟨w.heap.size, 0, none⟩ = false ∧ W.frozen? ⟨w.heap.size, 1, none⟩ = false ∧ W.frozen? ⟨w.heap.size, 2, none⟩ = false ∧ W.frozen? ⟨w.heap.size, 3, none⟩ = false)) := fun W h => HX.out W (HTR.out _ _ hb h)
  have hbz : Below w1.heap.size w1 w1 := Below.refl _ _
  clear hg hb hlt
  go_wp2_with fail
  refine (HR1.out _ (HE1.out _ hbz)).mono ?_
  rintro e w2 ⟨rfl, hb2⟩
  have hb12 := HT1.out _ _ hbz hb2
  clear d0 d1 d2 d3 hbz hb2
  obtain ⟨d0, d1, d2, d3⟩ := HD.out w2 hb12
  go_wp2_with fail
  refine (HR2.out _ (HE1.out _ hb12)).mono ?_
  rintro e w3 ⟨rfl, hb3⟩
  have hb13 := HT1.out _ _ hb12 hb3
  clear d0 d1 d2 d3 hb12 hb3
  obtain ⟨d0, d1, d2, d3⟩ := HD.out w3 hb13
  go_wp2_with fail
  refine (HC1.out _).mono ?_
  rintro e w4 ⟨rfl, hb4⟩
  have hb14 := HT1.out _ _ hb13 hb4
  clear d0 d1 d2 d3 hb13 hb4
  obtain ⟨d0, d1, d2, d3⟩ := HD.out w4 hb14
  go_wp2_with fail
  refine (HC2.out _).mono ?_
  rintro e w5 ⟨rfl, hb5⟩
  have hb15 := HT1.out _ _ hb14 hb5
  clear d0 d1 d2 d3 hb14 hb5
  have hbA : Below w1.heap.size w1 (w5.alloc (.cells #[.string ⟨p.toArray⟩, .int .i64 ty, .int .i64 ttl, .string ⟨r.toArray⟩] 26)) := hb15.alloc hb15.size _
  go_wp2_with fail
  refine (HTX.out _ (HE1.out _ hbA)).mono ?_
  rintro e w6 ⟨rfl, hb6⟩
  obtain ⟨m0, m1, m2, m3, _⟩ := box4 hb6
  have hb16 := HT1.out _ _ hbA hb6
  have hng : w5.heap.size ≠ w.heap.size := by have h1 := HB1.out.size; have h2 := hb15.size; have h3 := World.block_lt_of_cell? _ _ (HX.out W0 (Below.refl _ _)).1.1; simp at h3; omega
  obtain ⟨⟨c0, c1, c2, c3, hbw⟩, ⟨f0, f1, f2, f3⟩⟩ := HX1.out w6 hb16
  obtain ⟨gb, hgb⟩ : ∃ gb, gb = w5.heap.size := ⟨_, rfl⟩
  rw [← hgb] at m0 m1 m2 m3 hng ⊢
  clear hb6 hb16 hbA hb15 hgb
  go_wp2_with fail
  (try simp only [Exit.inBlock, Exit.then])
  refine bodyPost_ret (v := .tuple #[.agg #[.string ⟨#[]⟩, .int .i64 0, .int .i64 0, .string ⟨#[]⟩], .bool false]) ?_ rfl ⟨rfl, ?_⟩
  · rw [results_cell_tmp rfl]; go_simp
  · exact (((hbw.setCell (p := ⟨w.heap.size, 0, none⟩) (Nat.le_refl _) _).setCell (p := ⟨w.heap.size, 1, none⟩) (Nat.le_refl _) _).setCell (p := ⟨w.heap.size, 2, none⟩) (Nat.le_refl _) _).setCell (p := ⟨w.heap.size, 3, none⟩) (Nat.le_refl _) _

set_option maxRecDepth 20000 in
set_option maxHeartbeats 1000000 in
theorem iRead_name_same (s : ByteArray) (p q t r : List UInt8) (w : World) (hs : s.size ≤ 1048576) (hE : EnvR w) (hl : Hid (s.data.toList = p ++ 32 :: (q ++ 32 :: (t ++ 32 :: r)))) (hQ4 : Hid (Lib.splitK [32] 0 (min 4 (s.data.toList.length + 1) - 1) s.data.toList = [p, q, t, r])) (hp : Hid (¬ p = [46])) (hG : Hid (recB p (rdNum t 16) (rdNum q 100000) r = true)) (hT : Hid (recT p (rdNum t 16).toNat (rdNum q 100000).toNat r = s.data.toList)) :
    Calls Tryd.prog 15 #[.string s] w fun e w' => e = .returned (.tuple #[RecV ⟨(p : List UInt8).toArray⟩ (rdNum t 16) (rdNum q 100000) ⟨r.toArray⟩, .bool true]) ∧ Below w.heap.size w w' := by
  obtain ⟨W0, hW0⟩ : ∃ W0, W0 = w.alloc (.cells #[.string ⟨#[]⟩, .int .i64 0, .int .i64 0, .string ⟨#[]⟩] 26) := ⟨_, rfl⟩
  have HX : Hid (∀ W, Below W0.heap.size W0 W → (W.cell? ⟨w.heap.size, 0, none⟩ = some (.string ⟨#[]⟩) ∧ W.cell? ⟨w.heap.size, 1, none⟩ = some (.int .i64 0) ∧ W.cell? ⟨w.heap.size, 2, none⟩ = some (.int .i64 0) ∧ W.cell? ⟨w.heap.size, 3, none⟩ = some (.string ⟨#[]⟩) ∧ Below w.heap.size w W) ∧ (W.frozen? ⟨w.heap.size, 0, none⟩ = false ∧ W.frozen? ⟨w.heap.size, 1, none⟩ = false ∧ W.frozen? ⟨w.heap.size, 2, none⟩ = false ∧ W.frozen? ⟨w.heap.size, 3, none⟩ = false)) := fun W h => by rw [hW0] at h; exact ⟨box4 h, box4f h⟩
  have HW0 : Hid (w.alloc (.cells #[.string ⟨#[]⟩, .int .i64 0, .int .i64 0, .string ⟨#[]⟩] 26) = W0) := hW0.symm
  have hb00 : Below w.heap.size w W0 := by rw [hW0]; exact (Below.refl _ _).alloc (Nat.le_refl _) _
  have HTR : Hid (∀ W W', Below W0.heap.size W0 W → Below W.heap.size W W' → Below W0.heap.size W0 W') := fun W W' h1 h2 => h1.trans (h2.mono h1.size)
  have HENV : Hid (∀ W, Below W0.heap.size W0 W → EnvR W) := fun W h => hE.below (HX.out W h).1.2.2.2.2
  have hsn : Calls Tryd.prog 29 #[.string s, .string ⟨#[32]⟩, .int .i64 4] W0 fun e w' => ∃ (Q : List (List UInt8)) (cap : Nat), e = .returned (.slice (some ⟨W0.heap.size, 0, none⟩) Q.length cap) ∧ Q.length ≤ cap ∧ cap ≤ 1000 ∧ Q = Lib.splitK [32] 0 (min 4 (s.data.toList.length + 1) - 1) s.data.toList ∧ (∀ j, (hj : j < Q.length) → w'.cell? ⟨W0.heap.size, j, none⟩ = some (S Q[j])) ∧ W0.heap.size < w'.heap.size ∧ Below W0.heap.size W0 w' := splitN_row s 32 4 W0 hs (hE.1.below hb00) (by omega) (by omega)
  have hsz : s.data.toList.length = s.size := by simp
  have hlen : (p : List UInt8).length + q.length + t.length + 3 + r.length = s.size := by
    rw [← hsz, hl.out]; simp; omega
  have HSN : Hid (Calls Tryd.prog 29 #[.string s, .string ⟨#[32]⟩, .int .i64 4] W0 fun e w' => ∃ cap : Nat, e = .returned (.slice (some ⟨W0.heap.size, 0, none⟩) 4 cap) ∧ 4 ≤ cap ∧ cap ≤ 1000 ∧ w'.cell? ⟨W0.heap.size, 0, none⟩ = some (.string ⟨p.toArray⟩) ∧ w'.cell? ⟨W0.heap.size, 1, none⟩ = some (.string ⟨q.toArray⟩) ∧ w'.cell? ⟨W0.heap.size, 2, none⟩ = some (.string ⟨t.toArray⟩) ∧ w'.cell? ⟨W0.heap.size, 3, none⟩ = some (.string ⟨r.toArray⟩) ∧ W0.heap.size < w'.heap.size ∧ Below W0.heap.size W0 w') := hsn.mono fun e w' h => by
    obtain ⟨Q, cap, rfl, h1, h2, hQ, hcell, hlt, h3⟩ := h
    rw [hQ4.out] at hQ
    subst hQ
    exact ⟨cap, rfl, h1, h2, hcell 0 (by simp), hcell 1 (by simp), hcell 2 (by simp), hcell 3 (by simp), hlt, h3⟩
  have HR1 : Hid (∀ W, EnvR W → Calls Tryd.prog 30 #[.string ⟨q.toArray⟩, .int .i64 100000] W fun e w' => e = .returned (.tuple #[.int .i64 (rdNum q 100000), .bool (numIn q 100000)]) ∧ Below W.heap.size W w') := fun W hW => readNumber_any ⟨q.toArray⟩ 100000 W (by rw [size_list]; omega) (by omega) (by omega) hW
  have HR2 : Hid (∀ W, EnvR W → Calls Tryd.prog 30 #[.string ⟨t.toArray⟩, .int .i64 16] W fun e w' => e = .returned (.tuple #[.int .i64 (rdNum t 16), .bool (numIn t 16)]) ∧ Below W.heap.size W w') := fun W hW => readNumber_any ⟨t.toArray⟩ 16 W (by rw [size_list]; omega) (by omega) (by omega) hW
  have HC1 : Hid (∀ W, Calls Tryd.prog 31 #[.string ⟨p.toArray⟩] W fun e w' => e = .returned (.string ⟨p.toArray⟩) ∧ Below W.heap.size W w') := fun W => cloneR_any ⟨p.toArray⟩ W (by rw [size_list]; omega)
  have HC2 : Hid (∀ W, Calls Tryd.prog 31 #[.string ⟨r.toArray⟩] W fun e w' => e = .returned (.string ⟨r.toArray⟩) ∧ Below W.heap.size W w') := fun W => cloneR_any ⟨r.toArray⟩ W (by rw [size_list]; omega)
  have HTX : Hid (∀ W, EnvR W → Calls Tryd.prog 13 #[RecV ⟨(p : List UInt8).toArray⟩ (rdNum t 16) (rdNum q 100000) ⟨r.toArray⟩] W fun e w' => e = .returned (.tuple #[.string ⟨(recT p (rdNum t 16).toNat (rdNum q 100000).toNat r).toArray⟩, .bool true]) ∧ Below W.heap.size W w') := fun W hW => by
    have h := iRecordText_any ⟨(p : List UInt8).toArray⟩ ⟨r.toArray⟩ (rdNum t 16) (rdNum q 100000) W (by rw [size_list]; omega) (by rw [size_list]; omega) hW
    rw [show recB (⟨(p : List UInt8).toArray⟩ : ByteArray).data.toList (rdNum t 16) (rdNum q 100000) (⟨r.toArray⟩ : ByteArray).data.toList = true from hG.out, show recX (⟨(p : List UInt8).toArray⟩ : ByteArray).data.toList (rdNum t 16) (rdNum q 100000) (⟨r.toArray⟩ : ByteArray).data.toList = recT p (rdNum t 16).toNat (rdNum q 100000).toNat r from if_pos hG.out] at h
    exact h
  have hTs : (⟨(recT p (rdNum t 16).toNat (rdNum q 100000).toNat r).toArray⟩ : ByteArray) = s := data_eq hT.out
  rw [hTs] at HTX
  have et : (s.toList != s.toList) = false := by simp
  clear hTs
  have e46 : (p == [46]) = false := by simpa using hp.out
  obtain ⟨ty, hty⟩ : ∃ ty, ty = rdNum t 16 := ⟨_, rfl⟩
  obtain ⟨ttl, httl⟩ : ∃ ttl, ttl = rdNum q 100000 := ⟨_, rfl⟩
  rw [← hty, ← httl] at HTX ⊢
  rw [← httl] at HR1
  rw [← hty] at HR2
  clear hW0 hsn hsz hlen hty httl hG hT
  unfold RecV at HTX ⊢
  go_enter Tryd.func15, Tryd.ntmps15
  go_wp2_with fail
  rw [HW0.out]
  refine HSN.out.mono ?_
  rintro e w1 ⟨cap, rfl, hcap, hcap2, d0, d1, d2, d3, hlt, hb⟩
  obtain ⟨g, hg⟩ : ∃ g, g = W0.heap.size := ⟨_, rfl⟩
  rw [← hg] at d0 d1 d2 d3 hlt ⊢
  have HD : Hid (∀ W, Below w1.heap.size w1 W → W.cell? ⟨g, 0, none⟩ = some (.string ⟨p.toArray⟩) ∧ W.cell? ⟨g, 1, none⟩ = some (.string ⟨q.toArray⟩) ∧ W.cell? ⟨g, 2, none⟩ = some (.string ⟨t.toArray⟩) ∧ W.cell? ⟨g, 3, none⟩ = some (.string ⟨r.toArray⟩)) := fun W h => by
    rw [h.cell (p := ⟨g, 0, none⟩) hlt, h.cell (p := ⟨g, 1, none⟩) hlt, h.cell (p := ⟨g, 2, none⟩) hlt, h.cell (p := ⟨g, 3, none⟩) hlt]; exact ⟨d0, d1, d2, d3⟩
  have HT1 : Hid (∀ W W', Below w1.heap.size w1 W → Below W.heap.size W W' → Below w1.heap.size w1 W') := fun W W' h1 h2 => h1.trans (h2.mono h1.size)
  have HB1 : Hid (Below W0.heap.size W0 w1) := hb
  have HE1 : Hid (∀ W, Below w1.heap.size w1 W → EnvR W) := fun W h => HENV.out W (HTR.out _ _ hb h)
  have HX1 : Hid (∀ W, Below w1.heap.size w1 W → (W.cell? ⟨w.heap.size, 0, none⟩ = some (.string ⟨#[]⟩) ∧ W.cell? ⟨w.heap.size, 1, none⟩ = some (.int .i64 0) ∧ W.cell? ⟨w.heap.size, 2, none⟩ = some (.int .i64 0) ∧ W.cell? ⟨w.heap.size, 3, none⟩ = some (.string ⟨#[]⟩) ∧ Below w.heap.size w W) ∧ (W.frozen? ⟨w.heap.size, 0, none⟩ = false ∧ W.frozen? ⟨w.heap.size, 1, none⟩ = false ∧ W.frozen? ⟨w.heap.size, 2, none⟩ = false ∧ W.frozen? ⟨w.heap.size, 3, none⟩ = false)) := fun W h => HX.out W (HTR.out _ _ hb h)
  have hbz : Below w1.heap.size w1 w1 := Below.refl _ _
  clear hg hb hlt
  go_wp2_with fail
  refine (HR1.out _ (HE1.out _ hbz)).mono ?_
  rintro e w2 ⟨rfl, hb2⟩
  have hb12 := HT1.out _ _ hbz hb2
  clear d0 d1 d2 d3 hbz hb2
  obtain ⟨d0, d1, d2, d3⟩ := HD.out w2 hb12
  go_wp2_with fail
  refine (HR2.out _ (HE1.out _ hb12)).mono ?_
  rintro e w3 ⟨rfl, hb3⟩
  have hb13 := HT1.out _ _ hb12 hb3
  clear d0 d1 d2 d3 hb12 hb3
  obtain ⟨d0, d1, d2, d3⟩ := HD.out w3 hb13
  go_wp2_with fail
  refine (HC1.out _).mono ?_
  rintro e w4 ⟨rfl, hb4⟩
  have hb14 := HT1.out _ _ hb13 hb4
  clear d0 d1 d2 d3 hb13 hb4
  obtain ⟨d0, d1, d2, d3⟩ := HD.out w4 hb14
  go_wp2_with fail
  refine (HC2.out _).mono ?_
  rintro e w5 ⟨rfl, hb5⟩
  have hb15 := HT1.out _ _ hb14 hb5
  clear d0 d1 d2 d3 hb14 hb5
  have hbA : Below w1.heap.size w1 (w5.alloc (.cells #[.string ⟨p.toArray⟩, .int .i64 ty, .int .i64 ttl, .string ⟨r.toArray⟩] 26)) := hb15.alloc hb15.size _
  go_wp2_with fail
  refine (HTX.out _ (HE1.out _ hbA)).mono ?_
  rintro e w6 ⟨rfl, hb6⟩
  obtain ⟨m0, m1, m2, m3, _⟩ := box4 hb6
  have hb16 := HT1.out _ _ hbA hb6
  have hng : w5.heap.size ≠ w.heap.size := by have h1 := HB1.out.size; have h2 := hb15.size; have h3 := World.block_lt_of_cell? _ _ (HX.out W0 (Below.refl _ _)).1.1; simp at h3; omega
  obtain ⟨⟨c0, c1, c2, c3, hbw⟩, ⟨f0, f1, f2, f3⟩⟩ := HX1.out w6 hb16
  obtain ⟨gb, hgb⟩ : ∃ gb, gb = w5.heap.size := ⟨_, rfl⟩
  rw [← hgb] at m0 m1 m2 m3 hng ⊢
  clear hb6 hb16 hbA hb15 hgb
  go_wp2_with fail
  (try simp only [Exit.inBlock, Exit.then])
  refine bodyPost_ret (v := .tuple #[.agg #[.string ⟨p.toArray⟩, .int .i64 ty, .int .i64 ttl, .string ⟨r.toArray⟩], .bool true]) ?_ rfl ⟨rfl, ?_⟩
  · rw [results_cell_tmp rfl]; go_simp
  · exact (((hbw.setCell (p := ⟨w.heap.size, 0, none⟩) (Nat.le_refl _) _).setCell (p := ⟨w.heap.size, 1, none⟩) (Nat.le_refl _) _).setCell (p := ⟨w.heap.size, 2, none⟩) (Nat.le_refl _) _).setCell (p := ⟨w.heap.size, 3, none⟩) (Nat.le_refl _) _

theorem iReadRecord_any (s : ByteArray) (w : World) (hs : s.size ≤ 1048576) (hE : EnvR w) :
    Calls Tryd.prog 15 #[.string s] w fun e w' => e = .returned (rrVal (rrO s.data.toList)) ∧ Below w.heap.size w w' := by
  by_cases h4 : (cut 32 s.data.toList).length < 4
  · rw [rr_short h4]; exact iRead_short s w hs hE h4
  · obtain ⟨p, q, t, r, hl, hc, hk⟩ := split_three (b := 32) (l := s.data.toList) (by omega)
    have hQ := splitQ_long hc hk
    have hrr := rr_split hl hc
    have hsame := rr_same hc
    by_cases hok : recB (nmOf p) (rdNum t 16) (rdNum q 100000) r = true ∧ recT (nmOf p) (rdNum t 16).toNat (rdNum q 100000).toNat r = s.data.toList
    · obtain ⟨e1, e2⟩ := rr_eq hc hok
      rw [hrr, if_pos (hsame.1 hok), ← e1, ← e2]
      by_cases hp : p = [46]
      · subst hp
        exact iRead_dot_same s q t r w hs hE hl hQ hok.1 hok.2
      · rw [show nmOf p = p from if_neg hp] at hok ⊢
        exact iRead_name_same s p q t r w hs hE hl hQ hp hok.1 hok.2
    · rw [hrr, if_neg (fun h => hok (hsame.2 h))]
      by_cases hp : p = [46]
      · subst hp
        cases hG : recB [] (rdNum t 16) (rdNum q 100000) r with
        | false => exact iRead_dot_bad s q t r w hs hE hl hQ hG
        | true => exact iRead_dot_other s q t r w hs hE hl hQ hG (fun h => hok ⟨hG, h⟩)
      · rw [show nmOf p = p from if_neg hp] at hok
        cases hG : recB p (rdNum t 16) (rdNum q 100000) r with
        | false => exact iRead_name_bad s p q t r w hs hE hl hQ hp hG
        | true => exact iRead_name_other s p q t r w hs hE hl hQ hp hG (fun h => hok ⟨hG, h⟩)
end Go.Proofs.YthmneeahncojjaaDoor
