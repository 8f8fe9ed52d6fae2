import Derived.Test.YtcjffofoheloeaaDoorRRecC
namespace Go.Proofs.YtcjffofoheloeaaDoor
open Go.RowKit

set_option maxRecDepth 20000 in
set_option maxHeartbeats 4000000 in
theorem sRead_dot_bad (s : ByteArray) (q t r : List UInt8) (w : World) (hs : s.size ≤ 1048576) (hl : Hid (s.data.toList = [46] ++ 32 :: (q ++ 32 :: (t ++ 32 :: r)))) (hc : Hid (cut 32 s.data.toList = [46] :: q :: t :: cut 32 r)) (hG : Hid (recB [] (intV t) (intV q) r = false)) :
    Calls Tryd.prog 4 #[.string s] w fun e w' => e = .returned (.tuple #[RecV ⟨#[]⟩ 0 0 ⟨#[]⟩, .bool false]) ∧ Below w.heap.size w w' := by
  have hsz : s.data.toList.length = s.size := by simp
  have hlen : ([46] : List UInt8).length + q.length + t.length + 3 + r.length = s.size := by
    rw [← hsz, hl.out]; simp; omega
  have hpl : ([46] : List UInt8).length + q.length + t.length + 3 ≤ s.size := by omega
  have HEX : Hid (s.extract (([46] : List UInt8).length + q.length + t.length + 3) s.size = ⟨r.toArray⟩) := data_eq (by
    rw [Lib.extract_data, hl.out]
    have e : [46] ++ 32 :: (q ++ 32 :: (t ++ 32 :: r)) = ([46] ++ 32 :: (q ++ 32 :: (t ++ [32]))) ++ r := by simp
    rw [e, List.drop_left' (by simp; omega), List.take_of_length_le (by omega)])
  have hra : (⟨q.toArray⟩ : ByteArray).size ≤ 4294967280 := by rw [size_list]; omega
  have hrb : (⟨t.toArray⟩ : ByteArray).size ≤ 4294967280 := by rw [size_list]; omega
  have HI : Hid (∀ (x : List UInt8) W, (x = q ∨ x = t) → Calls Tryd.prog 8 #[.string ⟨x.toArray⟩] W fun e w' => e = .returned (.int .i64 (intV x)) ∧ w' = W) := fun x W hx => by
    rcases hx with rfl | rfl
    · exact l1Int_any ⟨x.toArray⟩ W hra
    · exact l1Int_any ⟨x.toArray⟩ W hrb
  obtain ⟨W0, hW0⟩ : ∃ W0, W0 = w.alloc (.cells #[.string ⟨#[]⟩, .int .i64 0, .int .i64 0, .string ⟨#[]⟩] 23) := ⟨_, rfl⟩
  have HW0 : Hid (w.alloc (.cells #[.string ⟨#[]⟩, .int .i64 0, .int .i64 0, .string ⟨#[]⟩] 23) = W0) := hW0.symm
  clear hW0 hra hrb hsz
  have HG : Hid (∀ W, Calls Tryd.prog 9 #[RecV ⟨([] : List UInt8).toArray⟩ (intV t) (intV q) ⟨r.toArray⟩] W fun e w' => e = .returned (.bool false) ∧ Below W.heap.size W w') := fun W => by
    have h := sGoodRecord_any ⟨([] : List UInt8).toArray⟩ ⟨r.toArray⟩ (intV t) (intV q) W (by rw [size_list]; simp) (by rw [size_list]; simp at hlen ⊢; omega)
    rw [show recB (⟨([] : List UInt8).toArray⟩ : ByteArray).data.toList (intV t) (intV q) (⟨r.toArray⟩ : ByteArray).data.toList = false from hG.out] at h; exact h
  have HX : Hid (∀ W, Below W0.heap.size W0 W → (W.cell? ⟨w.heap.size, 0, none⟩ = some (.string ⟨#[]⟩) ∧ W.cell? ⟨w.heap.size, 1, none⟩ = some (.int .i64 0) ∧ W.cell? ⟨w.heap.size, 2, none⟩ = some (.int .i64 0) ∧ W.cell? ⟨w.heap.size, 3, none⟩ = some (.string ⟨#[]⟩) ∧ Below w.heap.size w W) ∧ (W.frozen? ⟨w.heap.size, 0, none⟩ = false ∧ W.frozen? ⟨w.heap.size, 1, none⟩ = false ∧ W.frozen? ⟨w.heap.size, 2, none⟩ = false ∧ W.frozen? ⟨w.heap.size, 3, none⟩ = false)) := fun W h => by rw [← HW0.out] at h; exact ⟨box4 h, box4f h⟩
  have HTR : Hid (∀ W W', Below W0.heap.size W0 W → Below W.heap.size W W' → Below W0.heap.size W0 W') := fun W W' h1 h2 => h1.trans (h2.mono h1.size)
  have hgz : w.heap.size < W0.heap.size := by rw [← HW0.out]; simp
  unfold RecV at HG ⊢
  have HEXI : Hid (s.extract ((([46] : List UInt8).length : Int) + (q.length : Int) + (t.length : Int) + 3).toNat s.size = ⟨r.toArray⟩) := by rw [show ((([46] : List UInt8).length : Int) + (q.length : Int) + (t.length : Int) + 3).toNat = ([46] : List UInt8).length + q.length + t.length + 3 by omega]; exact HEX.out
  go_enter Tryd.func4, Tryd.ntmps4
  go_wp2_with fail
  rw [HW0.out]
  refine (l1Split_any s 32 _ W0 (by omega) rfl).mono ?_
  rintro e w1 ⟨v, rfl, hown, hb⟩
  rw [hc.out] at hown
  have hne := List.length_pos_iff.2 (cut_ne 32 r)
  obtain ⟨g, cap, hv, hg, hgl, hcap, hmax, hcell⟩ := own_shape hown (by simp)
  have hc0 : w1.cell? ⟨g, 0, none⟩ = some (.string ⟨#[46]⟩) := hcell 0 (by simp)
  have hc1 : w1.cell? ⟨g, 1, none⟩ = some (.string ⟨q.toArray⟩) := hcell 1 (by simp)
  have hc2 : w1.cell? ⟨g, 2, none⟩ = some (.string ⟨t.toArray⟩) := hcell 2 (by simp)
  rw [hv]
  obtain ⟨n, hn⟩ : ∃ n, n = ([46] :: q :: t :: cut 32 r).length := ⟨_, rfl⟩
  have hn4 : 4 ≤ n := by rw [hn]; simp only [List.length_cons]; omega
  rw [← hn] at hcap ⊢
  unfold maxLen at hmax
  have HS : Hid (∀ W, Below w1.heap.size w1 W → Below w1.heap.size w1 W ∧ W.cell? ⟨g, 0, none⟩ = some (.string ⟨#[46]⟩) ∧ W.cell? ⟨g, 1, none⟩ = some (.string ⟨q.toArray⟩) ∧ W.cell? ⟨g, 2, none⟩ = some (.string ⟨t.toArray⟩)) := fun W h => by
    rw [h.cell (p := ⟨g, 0, none⟩) hgl, h.cell (p := ⟨g, 1, none⟩) hgl, h.cell (p := ⟨g, 2, none⟩) hgl]; exact ⟨h, hc0, hc1, hc2⟩
  have i0 : 0 < n := by omega
  have i00 : (n : Int) ≠ 0 := by omega
  have i1 : (1 : Int) < (n : Int) := by omega
  have i2 : (2 : Int) < (n : Int) := by omega
  simp only [List.length_cons, List.length_nil, Nat.zero_add, Int.ofNat_one] at HEXI hlen hpl
  have x1 : IntKind.i64.wrap ((1 : Int) + (q.length : Int)) = (1 : Int) + (q.length : Int) := wrap_small _ (by omega) (by omega)
  have x2 : IntKind.i64.wrap ((1 : Int) + (q.length : Int) + (t.length : Int)) = (1 : Int) + (q.length : Int) + (t.length : Int) := wrap_small _ (by omega) (by omega)
  have x3 : IntKind.i64.wrap ((1 : Int) + (q.length : Int) + (t.length : Int) + 3) = (1 : Int) + (q.length : Int) + (t.length : Int) + 3 := wrap_small _ (by omega) (by omega)
  have x4 : (0 : Int) ≤ (1 : Int) + (q.length : Int) + (t.length : Int) + 3 := by omega
  have x5 : (1 : Int) + (q.length : Int) + (t.length : Int) + 3 ≤ (s.size : Int) := by omega
  have hbd : Below w1.heap.size w1 w1.drew := (Below.refl _ _).drew
  clear hown hv hcell hn hne
  go_wp2_with fail
  go_region_held3 (fun W => Below w1.heap.size w1 W ∧ W.cell? ⟨g, 0, none⟩ = some (.string ⟨#[46]⟩) ∧ W.cell? ⟨g, 1, none⟩ = some (.string ⟨q.toArray⟩) ∧ W.cell? ⟨g, 2, none⟩ = some (.string ⟨t.toArray⟩)) (first | exact HS.out _ (by assumption) | exact HS.out _ (Below.drew (by assumption)) | exact HS.out _ (Below.alloc (by assumption) (Below.size (by assumption)) _) | exact HS.out _ (Below.setCell (Below.alloc (by assumption) (Below.size (by assumption)) _) (by simp) _))
    ((go_at_call 8; refine (HI.out _ _ (by first | exact .inl rfl | exact .inr rfl)).mono ?_; rintro e w5 ⟨rfl, rfl⟩))
  all_goals
    rw [HEXI.out]
    have hA : Below w1.heap.size w1 (w1.alloc (.cells #[.string ⟨#[46]⟩, .int .i64 (intV t), .int .i64 (intV q), .string ⟨r.toArray⟩] 23)).drew := ((Below.refl _ _).alloc (Nat.le_refl _) _).drew
    have hF := cells_at (w := w1) (a := .string ⟨#[46]⟩) (b := .int .i64 (intV t)) (c := .int .i64 (intV q)) (d := .string ⟨r.toArray⟩) (t := 23)
    have hbA := HTR.out _ _ hb hA
    obtain ⟨W1, hW1, hbW, k0, k1, k2, k3, kf⟩ : ∃ W1, W1 = _ ∧ Below W0.heap.size W0 W1 ∧ W1.cell? ⟨w1.heap.size, 0, none⟩ = some (.string ⟨#[46]⟩) ∧ W1.cell? ⟨w1.heap.size, 1, none⟩ = some (.int .i64 (intV t)) ∧ W1.cell? ⟨w1.heap.size, 2, none⟩ = some (.int .i64 (intV q)) ∧ W1.cell? ⟨w1.heap.size, 3, none⟩ = some (.string ⟨r.toArray⟩) ∧ W1.frozen? ⟨w1.heap.size, 0, none⟩ = false := ⟨_, rfl, hbA, hF⟩
    rw [← hW1]
    have hgw : W0.heap.size ≤ w1.heap.size := hb.size
    have hlt1 : w1.heap.size < W1.heap.size := World.block_lt_of_cell? _ _ k0
    obtain ⟨gb, hgb⟩ : ∃ gb, gb = w1.heap.size := ⟨_, rfl⟩
    rw [← hgb] at k0 k1 k2 k3 kf hgw hlt1 ⊢
    have hnb : gb ≠ w.heap.size := by omega
    clear hW1 hA hF hbA hb hgb hc0 hc1 hc2 hbd
    go_wp2_with fail
    have hbS : Below W0.heap.size W0 (W1.setCell ⟨gb, 0, none⟩ (.string ⟨#[]⟩)) := hbW.setCell (p := ⟨gb, 0, none⟩) hgw _
    refine (HG.out _).mono ?_
    rintro e w3 ⟨rfl, hb3⟩
    have hb13 := HTR.out _ _ hbS hb3
    have hlt2 : gb < (W1.setCell ⟨gb, 0, none⟩ (.string ⟨#[]⟩)).heap.size := by simpa [World.setCell] using hlt1
    have m0 : w3.cell? ⟨gb, 0, none⟩ = some (.string ⟨#[]⟩) := by rw [hb3.cell (p := ⟨gb, 0, none⟩) hlt2]; exact World.cell?_setCell_same _ _ _ k0
    have m1 : w3.cell? ⟨gb, 1, none⟩ = some (.int .i64 (intV t)) := by rw [hb3.cell (p := ⟨gb, 1, none⟩) hlt2, World.cell?_setCell_other _ _ _ _ (show (⟨gb, 0, none⟩ : Addr) ≠ ⟨gb, 1, none⟩ by intro h; cases h)]; exact k1
    have m2 : w3.cell? ⟨gb, 2, none⟩ = some (.int .i64 (intV q)) := by rw [hb3.cell (p := ⟨gb, 2, none⟩) hlt2, World.cell?_setCell_other _ _ _ _ (show (⟨gb, 0, none⟩ : Addr) ≠ ⟨gb, 2, none⟩ by intro h; cases h)]; exact k2
    have m3 : w3.cell? ⟨gb, 3, none⟩ = some (.string ⟨r.toArray⟩) := by rw [hb3.cell (p := ⟨gb, 3, none⟩) hlt2, World.cell?_setCell_other _ _ _ _ (show (⟨gb, 0, none⟩ : Addr) ≠ ⟨gb, 3, none⟩ by intro h; cases h)]; exact k3
    have hlt3 : gb < w3.heap.size := World.block_lt_of_cell? _ _ m0
    clear hbS hlt2
    clear hb3 k0 k1 k2 k3 kf hlt1 hbW
    obtain ⟨⟨c0, c1, c2, c3, hbw⟩, ⟨f0, f1, f2, f3⟩⟩ := HX.out w3 hb13
    clear hb13 hlt3
    go_wp2_with fail
    (try simp only [Exit.inBlock, Exit.then])
    refine bodyPost_ret (v := .tuple #[.agg #[.string ⟨#[]⟩, .int .i64 0, .int .i64 0, .string ⟨#[]⟩], .bool false]) ?_ rfl ⟨rfl, ?_⟩
    · rw [results_cell_tmp rfl]; go_simp
    · exact (((hbw.setCell (p := ⟨w.heap.size, 0, none⟩) (Nat.le_refl _) _).setCell (p := ⟨w.heap.size, 1, none⟩) (Nat.le_refl _) _).setCell (p := ⟨w.heap.size, 2, none⟩) (Nat.le_refl _) _).setCell (p := ⟨w.heap.size, 3, none⟩) (Nat.le_refl _) _

set_option maxRecDepth 20000 in
set_option maxHeartbeats 4000000 in
theorem sRead_dot_other (s : ByteArray) (q t r : List UInt8) (w : World) (hs : s.size ≤ 1048576) (hl : Hid (s.data.toList = [46] ++ 32 :: (q ++ 32 :: (t ++ 32 :: r)))) (hc : Hid (cut 32 s.data.toList = [46] :: q :: t :: cut 32 r)) (hG : Hid (recB [] (intV t) (intV q) r = true)) (hT : Hid (¬ recT [] (intV t).toNat (intV q).toNat r = s.data.toList)) :
    Calls Tryd.prog 4 #[.string s] w fun e w' => e = .returned (.tuple #[RecV ⟨#[]⟩ 0 0 ⟨#[]⟩, .bool false]) ∧ Below w.heap.size w w' := by
  have hsz : s.data.toList.length = s.size := by simp
  have hlen : ([46] : List UInt8).length + q.length + t.length + 3 + r.length = s.size := by
    rw [← hsz, hl.out]; simp; omega
  have hpl : ([46] : List UInt8).length + q.length + t.length + 3 ≤ s.size := by omega
  have HEX : Hid (s.extract (([46] : List UInt8).length + q.length + t.length + 3) s.size = ⟨r.toArray⟩) := data_eq (by
    rw [Lib.extract_data, hl.out]
    have e : [46] ++ 32 :: (q ++ 32 :: (t ++ 32 :: r)) = ([46] ++ 32 :: (q ++ 32 :: (t ++ [32]))) ++ r := by simp
    rw [e, List.drop_left' (by simp; omega), List.take_of_length_le (by omega)])
  have hra : (⟨q.toArray⟩ : ByteArray).size ≤ 4294967280 := by rw [size_list]; omega
  have hrb : (⟨t.toArray⟩ : ByteArray).size ≤ 4294967280 := by rw [size_list]; omega
  have HI : Hid (∀ (x : List UInt8) W, (x = q ∨ x = t) → Calls Tryd.prog 8 #[.string ⟨x.toArray⟩] W fun e w' => e = .returned (.int .i64 (intV x)) ∧ w' = W) := fun x W hx => by
    rcases hx with rfl | rfl
    · exact l1Int_any ⟨x.toArray⟩ W hra
    · exact l1Int_any ⟨x.toArray⟩ W hrb
  obtain ⟨W0, hW0⟩ : ∃ W0, W0 = w.alloc (.cells #[.string ⟨#[]⟩, .int .i64 0, .int .i64 0, .string ⟨#[]⟩] 23) := ⟨_, rfl⟩
  have HW0 : Hid (w.alloc (.cells #[.string ⟨#[]⟩, .int .i64 0, .int .i64 0, .string ⟨#[]⟩] 23) = W0) := hW0.symm
  clear hW0 hra hrb hsz
  have HG : Hid (∀ W, Calls Tryd.prog 9 #[RecV ⟨([] : List UInt8).toArray⟩ (intV t) (intV q) ⟨r.toArray⟩] W fun e w' => e = .returned (.bool true) ∧ Below W.heap.size W w') := fun W => by
    have h := sGoodRecord_any ⟨([] : List UInt8).toArray⟩ ⟨r.toArray⟩ (intV t) (intV q) W (by rw [size_list]; simp) (by rw [size_list]; simp at hlen ⊢; omega)
    rw [show recB (⟨([] : List UInt8).toArray⟩ : ByteArray).data.toList (intV t) (intV q) (⟨r.toArray⟩ : ByteArray).data.toList = true from hG.out] at h; exact h
  obtain ⟨g1, g2, g3, g4⟩ := recB_facts hG.out
  have HTX : Hid (∀ W, Calls Tryd.prog 10 #[RecV ⟨([] : List UInt8).toArray⟩ (intV t) (intV q) ⟨r.toArray⟩] W fun e w' => e = .returned (.string ⟨(recT [] (intV t).toNat (intV q).toNat r).toArray⟩) ∧ Below W.heap.size W w') := fun W => by
    have h := l3Text_any ⟨([] : List UInt8).toArray⟩ ⟨r.toArray⟩ (intV t).toNat (intV q).toNat W (by rw [size_list]; simp) (by rw [size_list]; simp at hlen ⊢; omega) (by omega) (by omega)
    rw [Int.toNat_of_nonneg (by omega), Int.toNat_of_nonneg (by omega)] at h; exact h
  clear g1 g2 g3 g4
  obtain ⟨x, hx⟩ : ∃ x, x = recT [] (intV t).toNat (intV q).toNat r := ⟨_, rfl⟩
  rw [← hx] at HTX hT
  have et : (x == s.toList) = false := by rw [ByteArray.toList_eq]; simpa using hT.out
  clear hx
  have HX : Hid (∀ W, Below W0.heap.size W0 W → (W.cell? ⟨w.heap.size, 0, none⟩ = some (.string ⟨#[]⟩) ∧ W.cell? ⟨w.heap.size, 1, none⟩ = some (.int .i64 0) ∧ W.cell? ⟨w.heap.size, 2, none⟩ = some (.int .i64 0) ∧ W.cell? ⟨w.heap.size, 3, none⟩ = some (.string ⟨#[]⟩) ∧ Below w.heap.size w W) ∧ (W.frozen? ⟨w.heap.size, 0, none⟩ = false ∧ W.frozen? ⟨w.heap.size, 1, none⟩ = false ∧ W.frozen? ⟨w.heap.size, 2, none⟩ = false ∧ W.frozen? ⟨w.heap.size, 3, none⟩ = false)) := fun W h => by rw [← HW0.out] at h; exact ⟨box4 h, box4f h⟩
  have HTR : Hid (∀ W W', Below W0.heap.size W0 W → Below W.heap.size W W' → Below W0.heap.size W0 W') := fun W W' h1 h2 => h1.trans (h2.mono h1.size)
  have hgz : w.heap.size < W0.heap.size := by rw [← HW0.out]; simp
  unfold RecV at HG HTX ⊢
  have HEXI : Hid (s.extract ((([46] : List UInt8).length : Int) + (q.length : Int) + (t.length : Int) + 3).toNat s.size = ⟨r.toArray⟩) := by rw [show ((([46] : List UInt8).length : Int) + (q.length : Int) + (t.length : Int) + 3).toNat = ([46] : List UInt8).length + q.length + t.length + 3 by omega]; exact HEX.out
  go_enter Tryd.func4, Tryd.ntmps4
  go_wp2_with fail
  rw [HW0.out]
  refine (l1Split_any s 32 _ W0 (by omega) rfl).mono ?_
  rintro e w1 ⟨v, rfl, hown, hb⟩
  rw [hc.out] at hown
  have hne := List.length_pos_iff.2 (cut_ne 32 r)
  obtain ⟨g, cap, hv, hg, hgl, hcap, hmax, hcell⟩ := own_shape hown (by simp)
  have hc0 : w1.cell? ⟨g, 0, none⟩ = some (.string ⟨#[46]⟩) := hcell 0 (by simp)
  have hc1 : w1.cell? ⟨g, 1, none⟩ = some (.string ⟨q.toArray⟩) := hcell 1 (by simp)
  have hc2 : w1.cell? ⟨g, 2, none⟩ = some (.string ⟨t.toArray⟩) := hcell 2 (by simp)
  rw [hv]
  obtain ⟨n, hn⟩ : ∃ n, n = ([46] :: q :: t :: cut 32 r).length := ⟨_, rfl⟩
  have hn4 : 4 ≤ n := by rw [hn]; simp only [List.length_cons]; omega
  rw [← hn] at hcap ⊢
  unfold maxLen at hmax
  have HS : Hid (∀ W, Below w1.heap.size w1 W → Below w1.heap.size w1 W ∧ W.cell? ⟨g, 0, none⟩ = some (.string ⟨#[46]⟩) ∧ W.cell? ⟨g, 1, none⟩ = some (.string ⟨q.toArray⟩) ∧ W.cell? ⟨g, 2, none⟩ = some (.string ⟨t.toArray⟩)) := fun W h => by
    rw [h.cell (p := ⟨g, 0, none⟩) hgl, h.cell (p := ⟨g, 1, none⟩) hgl, h.cell (p := ⟨g, 2, none⟩) hgl]; exact ⟨h, hc0, hc1, hc2⟩
  have i0 : 0 < n := by omega
  have i00 : (n : Int) ≠ 0 := by omega
  have i1 : (1 : Int) < (n : Int) := by omega
  have i2 : (2 : Int) < (n : Int) := by omega
  simp only [List.length_cons, List.length_nil, Nat.zero_add, Int.ofNat_one] at HEXI hlen hpl
  have x1 : IntKind.i64.wrap ((1 : Int) + (q.length : Int)) = (1 : Int) + (q.length : Int) := wrap_small _ (by omega) (by omega)
  have x2 : IntKind.i64.wrap ((1 : Int) + (q.length : Int) + (t.length : Int)) = (1 : Int) + (q.length : Int) + (t.length : Int) := wrap_small _ (by omega) (by omega)
  have x3 : IntKind.i64.wrap ((1 : Int) + (q.length : Int) + (t.length : Int) + 3) = (1 : Int) + (q.length : Int) + (t.length : Int) + 3 := wrap_small _ (by omega) (by omega)
  have x4 : (0 : Int) ≤ (1 : Int) + (q.length : Int) + (t.length : Int) + 3 := by omega
  have x5 : (1 : Int) + (q.length : Int) + (t.length : Int) + 3 ≤ (s.size : Int) := by omega
  have hbd : Below w1.heap.size w1 w1.drew := (Below.refl _ _).drew
  clear hown hv hcell hn hne
  go_wp2_with fail
  go_region_held3 (fun W => Below w1.heap.size w1 W ∧ W.cell? ⟨g, 0, none⟩ = some (.string ⟨#[46]⟩) ∧ W.cell? ⟨g, 1, none⟩ = some (.string ⟨q.toArray⟩) ∧ W.cell? ⟨g, 2, none⟩ = some (.string ⟨t.toArray⟩)) (first | exact HS.out _ (by assumption) | exact HS.out _ (Below.drew (by assumption)) | exact HS.out _ (Below.alloc (by assumption) (Below.size (by assumption)) _) | exact HS.out _ (Below.setCell (Below.alloc (by assumption) (Below.size (by assumption)) _) (by simp) _))
    ((go_at_call 8; refine (HI.out _ _ (by first | exact .inl rfl | exact .inr rfl)).mono ?_; rintro e w5 ⟨rfl, rfl⟩))
  all_goals
    rw [HEXI.out]
    have hA : Below w1.heap.size w1 (w1.alloc (.cells #[.string ⟨#[46]⟩, .int .i64 (intV t), .int .i64 (intV q), .string ⟨r.toArray⟩] 23)).drew := ((Below.refl _ _).alloc (Nat.le_refl _) _).drew
    have hF := cells_at (w := w1) (a := .string ⟨#[46]⟩) (b := .int .i64 (intV t)) (c := .int .i64 (intV q)) (d := .string ⟨r.toArray⟩) (t := 23)
    have hbA := HTR.out _ _ hb hA
    obtain ⟨W1, hW1, hbW, k0, k1, k2, k3, kf⟩ : ∃ W1, W1 = _ ∧ Below W0.heap.size W0 W1 ∧ W1.cell? ⟨w1.heap.size, 0, none⟩ = some (.string ⟨#[46]⟩) ∧ W1.cell? ⟨w1.heap.size, 1, none⟩ = some (.int .i64 (intV t)) ∧ W1.cell? ⟨w1.heap.size, 2, none⟩ = some (.int .i64 (intV q)) ∧ W1.cell? ⟨w1.heap.size, 3, none⟩ = some (.string ⟨r.toArray⟩) ∧ W1.frozen? ⟨w1.heap.size, 0, none⟩ = false := ⟨_, rfl, hbA, hF⟩
    rw [← hW1]
    have hgw : W0.heap.size ≤ w1.heap.size := hb.size
    have hlt1 : w1.heap.size < W1.heap.size := World.block_lt_of_cell? _ _ k0
    obtain ⟨gb, hgb⟩ : ∃ gb, gb = w1.heap.size := ⟨_, rfl⟩
    rw [← hgb] at k0 k1 k2 k3 kf hgw hlt1 ⊢
    have hnb : gb ≠ w.heap.size := by omega
    clear hW1 hA hF hbA hb hgb hc0 hc1 hc2 hbd
    go_wp2_with fail
    have hbS : Below W0.heap.size W0 (W1.setCell ⟨gb, 0, none⟩ (.string ⟨#[]⟩)) := hbW.setCell (p := ⟨gb, 0, none⟩) hgw _
    refine (HG.out _).mono ?_
    rintro e w3 ⟨rfl, hb3⟩
    have hb13 := HTR.out _ _ hbS hb3
    have hlt2 : gb < (W1.setCell ⟨gb, 0, none⟩ (.string ⟨#[]⟩)).heap.size := by simpa [World.setCell] using hlt1
    have m0 : w3.cell? ⟨gb, 0, none⟩ = some (.string ⟨#[]⟩) := by rw [hb3.cell (p := ⟨gb, 0, none⟩) hlt2]; exact World.cell?_setCell_same _ _ _ k0
    have m1 : w3.cell? ⟨gb, 1, none⟩ = some (.int .i64 (intV t)) := by rw [hb3.cell (p := ⟨gb, 1, none⟩) hlt2, World.cell?_setCell_other _ _ _ _ (show (⟨gb, 0, none⟩ : Addr) ≠ ⟨gb, 1, none⟩ by intro h; cases h)]; exact k1
    have m2 : w3.cell? ⟨gb, 2, none⟩ = some (.int .i64 (intV q)) := by rw [hb3.cell (p := ⟨gb, 2, none⟩) hlt2, World.cell?_setCell_other _ _ _ _ (show (⟨gb, 0, none⟩ : Addr) ≠ ⟨gb, 2, none⟩ by intro h; cases h)]; exact k2
    have m3 : w3.cell? ⟨gb, 3, none⟩ = some (.string ⟨r.toArray⟩) := by rw [hb3.cell (p := ⟨gb, 3, none⟩) hlt2, World.cell?_setCell_other _ _ _ _ (show (⟨gb, 0, none⟩ : Addr) ≠ ⟨gb, 3, none⟩ by intro h; cases h)]; exact k3
    have hlt3 : gb < w3.heap.size := World.block_lt_of_cell? _ _ m0
    clear hbS hlt2
    clear hb3 k0 k1 k2 k3 kf hlt1 hbW
    go_wp2_with fail
    refine (HTX.out _).mono ?_
    rintro e w4 ⟨rfl, hb4⟩
    have hb14 := HTR.out _ _ hb13 hb4
    have j0 : w4.cell? ⟨gb, 0, none⟩ = some (.string ⟨#[]⟩) := by rw [hb4.cell (p := ⟨gb, 0, none⟩) hlt3]; exact m0
    have j1 : w4.cell? ⟨gb, 1, none⟩ = some (.int .i64 (intV t)) := by rw [hb4.cell (p := ⟨gb, 1, none⟩) hlt3]; exact m1
    have j2 : w4.cell? ⟨gb, 2, none⟩ = some (.int .i64 (intV q)) := by rw [hb4.cell (p := ⟨gb, 2, none⟩) hlt3]; exact m2
    have j3 : w4.cell? ⟨gb, 3, none⟩ = some (.string ⟨r.toArray⟩) := by rw [hb4.cell (p := ⟨gb, 3, none⟩) hlt3]; exact m3
    clear hb4 m0 m1 m2 m3 hb13 hlt3
    obtain ⟨⟨c0, c1, c2, c3, hbw⟩, ⟨f0, f1, f2, f3⟩⟩ := HX.out w4 hb14
    clear hb14
    go_wp2_with fail
    (try simp only [Exit.inBlock, Exit.then])
    refine bodyPost_ret (v := .tuple #[.agg #[.string ⟨#[]⟩, .int .i64 0, .int .i64 0, .string ⟨#[]⟩], .bool false]) ?_ rfl ⟨rfl, ?_⟩
    · rw [results_cell_tmp rfl]; go_simp
    · exact (((hbw.setCell (p := ⟨w.heap.size, 0, none⟩) (Nat.le_refl _) _).setCell (p := ⟨w.heap.size, 1, none⟩) (Nat.le_refl _) _).setCell (p := ⟨w.heap.size, 2, none⟩) (Nat.le_refl _) _).setCell (p := ⟨w.heap.size, 3, none⟩) (Nat.le_refl _) _

set_option maxRecDepth 20000 in
set_option maxHeartbeats 4000000 in
theorem sRead_dot_same (s : ByteArray) (q t r : List UInt8) (w : World) (hs : s.size ≤ 1048576) (hl : Hid (s.data.toList = [46] ++ 32 :: (q ++ 32 :: (t ++ 32 :: r)))) (hc : Hid (cut 32 s.data.toList = [46] :: q :: t :: cut 32 r)) (hG : Hid (recB [] (intV t) (intV q) r = true)) (hT : Hid (recT [] (intV t).toNat (intV q).toNat r = s.data.toList)) :
    Calls Tryd.prog 4 #[.string s] w fun e w' => e = .returned (.tuple #[RecV ⟨([] : List UInt8).toArray⟩ (intV t) (intV q) ⟨r.toArray⟩, .bool true]) ∧ Below w.heap.size w w' := by
  have hsz : s.data.toList.length = s.size := by simp
  have hlen : ([46] : List UInt8).length + q.length + t.length + 3 + r.length = s.size := by
    rw [← hsz, hl.out]; simp; omega
  have hpl : ([46] : List UInt8).length + q.length + t.length + 3 ≤ s.size := by omega
  have HEX : Hid (s.extract (([46] : List UInt8).length + q.length + t.length + 3) s.size = ⟨r.toArray⟩) := data_eq (by
    rw [Lib.extract_data, hl.out]
    have e : [46] ++ 32 :: (q ++ 32 :: (t ++ 32 :: r)) = ([46] ++ 32 :: (q ++ 32 :: (t ++ [32]))) ++ r := by simp
    rw [e, List.drop_left' (by simp; omega), List.take_of_length_le (by omega)])
  have hra : (⟨q.toArray⟩ : ByteArray).size ≤ 4294967280 := by rw [size_list]; omega
  have hrb : (⟨t.toArray⟩ : ByteArray).size ≤ 4294967280 := by rw [size_list]; omega
  have HI : Hid (∀ (x : List UInt8) W, (x = q ∨ x = t) → Calls Tryd.prog 8 #[.string ⟨x.toArray⟩] W fun e w' => e = .returned (.int .i64 (intV x)) ∧ w' = W) := fun x W hx => by
    rcases hx with rfl | rfl
    · exact l1Int_any ⟨x.toArray⟩ W hra
    · exact l1Int_any ⟨x.toArray⟩ W hrb
  obtain ⟨W0, hW0⟩ : ∃ W0, W0 = w.alloc (.cells #[.string ⟨#[]⟩, .int .i64 0, .int .i64 0, .string ⟨#[]⟩] 23) := ⟨_, rfl⟩
  have HW0 : Hid (w.alloc (.cells #[.string ⟨#[]⟩, .int .i64 0, .int .i64 0, .string ⟨#[]⟩] 23) = W0) := hW0.symm
  clear hW0 hra hrb hsz
  have HG : Hid (∀ W, Calls Tryd.prog 9 #[RecV ⟨([] : List UInt8).toArray⟩ (intV t) (intV q) ⟨r.toArray⟩] W fun e w' => e = .returned (.bool true) ∧ Below W.heap.size W w') := fun W => by
    have h := sGoodRecord_any ⟨([] : List UInt8).toArray⟩ ⟨r.toArray⟩ (intV t) (intV q) W (by rw [size_list]; simp) (by rw [size_list]; simp at hlen ⊢; omega)
    rw [show recB (⟨([] : List UInt8).toArray⟩ : ByteArray).data.toList (intV t) (intV q) (⟨r.toArray⟩ : ByteArray).data.toList = true from hG.out] at h; exact h
  obtain ⟨g1, g2, g3, g4⟩ := recB_facts hG.out
  have HTX : Hid (∀ W, Calls Tryd.prog 10 #[RecV ⟨([] : List UInt8).toArray⟩ (intV t) (intV q) ⟨r.toArray⟩] W fun e w' => e = .returned (.string ⟨(recT [] (intV t).toNat (intV q).toNat r).toArray⟩) ∧ Below W.heap.size W w') := fun W => by
    have h := l3Text_any ⟨([] : List UInt8).toArray⟩ ⟨r.toArray⟩ (intV t).toNat (intV q).toNat W (by rw [size_list]; simp) (by rw [size_list]; simp at hlen ⊢; omega) (by omega) (by omega)
    rw [Int.toNat_of_nonneg (by omega), Int.toNat_of_nonneg (by omega)] at h; exact h
  clear g1 g2 g3 g4
  have hTs : (⟨(recT [] (intV t).toNat (intV q).toNat r).toArray⟩ : ByteArray) = s := data_eq hT.out
  rw [hTs] at HTX
  have et : (s.toList != s.toList) = false := by simp
  clear hTs
  have HX : Hid (∀ W, Below W0.heap.size W0 W → (W.cell? ⟨w.heap.size, 0, none⟩ = some (.string ⟨#[]⟩) ∧ W.cell? ⟨w.heap.size, 1, none⟩ = some (.int .i64 0) ∧ W.cell? ⟨w.heap.size, 2, none⟩ = some (.int .i64 0) ∧ W.cell? ⟨w.heap.size, 3, none⟩ = some (.string ⟨#[]⟩) ∧ Below w.heap.size w W) ∧ (W.frozen? ⟨w.heap.size, 0, none⟩ = false ∧ W.frozen? ⟨w.heap.size, 1, none⟩ = false ∧ W.frozen? ⟨w.heap.size, 2, none⟩ = false ∧ W.frozen? ⟨w.heap.size, 3, none⟩ = false)) := fun W h => by rw [← HW0.out] at h; exact ⟨box4 h, box4f h⟩
  have HTR : Hid (∀ W W', Below W0.heap.size W0 W → Below W.heap.size W W' → Below W0.heap.size W0 W') := fun W W' h1 h2 => h1.trans (h2.mono h1.size)
  have hgz : w.heap.size < W0.heap.size := by rw [← HW0.out]; simp
  unfold RecV at HG HTX ⊢
  have HEXI : Hid (s.extract ((([46] : List UInt8).length : Int) + (q.length : Int) + (t.length : Int) + 3).toNat s.size = ⟨r.toArray⟩) := by rw [show ((([46] : List UInt8).length : Int) + (q.length : Int) + (t.length : Int) + 3).toNat = ([46] : List UInt8).length + q.length + t.length + 3 by omega]; exact HEX.out
  go_enter Tryd.func4, Tryd.ntmps4
  go_wp2_with fail
  rw [HW0.out]
  refine (l1Split_any s 32 _ W0 (by omega) rfl).mono ?_
  rintro e w1 ⟨v, rfl, hown, hb⟩
  rw [hc.out] at hown
  have hne := List.length_pos_iff.2 (cut_ne 32 r)
  obtain ⟨g, cap, hv, hg, hgl, hcap, hmax, hcell⟩ := own_shape hown (by simp)
  have hc0 : w1.cell? ⟨g, 0, none⟩ = some (.string ⟨#[46]⟩) := hcell 0 (by simp)
  have hc1 : w1.cell? ⟨g, 1, none⟩ = some (.string ⟨q.toArray⟩) := hcell 1 (by simp)
  have hc2 : w1.cell? ⟨g, 2, none⟩ = some (.string ⟨t.toArray⟩) := hcell 2 (by simp)
  rw [hv]
  obtain ⟨n, hn⟩ : ∃ n, n = ([46] :: q :: t :: cut 32 r).length := ⟨_, rfl⟩
  have hn4 : 4 ≤ n := by rw [hn]; simp only [List.length_cons]; omega
  rw [← hn] at hcap ⊢
  unfold maxLen at hmax
  have HS : Hid (∀ W, Below w1.heap.size w1 W → Below w1.heap.size w1 W ∧ W.cell? ⟨g, 0, none⟩ = some (.string ⟨#[46]⟩) ∧ W.cell? ⟨g, 1, none⟩ = some (.string ⟨q.toArray⟩) ∧ W.cell? ⟨g, 2, none⟩ = some (.string ⟨t.toArray⟩)) := fun W h => by
    rw [h.cell (p := ⟨g, 0, none⟩) hgl, h.cell (p := ⟨g, 1, none⟩) hgl, h.cell (p := ⟨g, 2, none⟩) hgl]; exact ⟨h, hc0, hc1, hc2⟩
  have i0 : 0 < n := by omega
  have i00 : (n : Int) ≠ 0 := by omega
  have i1 : (1 : Int) < (n : Int) := by omega
  have i2 : (2 : Int) < (n : Int) := by omega
  simp only [List.length_cons, List.length_nil, Nat.zero_add, Int.ofNat_one] at HEXI hlen hpl
  have x1 : IntKind.i64.wrap ((1 : Int) + (q.length : Int)) = (1 : Int) + (q.length : Int) := wrap_small _ (by omega) (by omega)
  have x2 : IntKind.i64.wrap ((1 : Int) + (q.length : Int) + (t.length : Int)) = (1 : Int) + (q.length : Int) + (t.length : Int) := wrap_small _ (by omega) (by omega)
  have x3 : IntKind.i64.wrap ((1 : Int) + (q.length : Int) + (t.length : Int) + 3) = (1 : Int) + (q.length : Int) + (t.length : Int) + 3 := wrap_small _ (by omega) (by omega)
  have x4 : (0 : Int) ≤ (1 : Int) + (q.length : Int) + (t.length : Int) + 3 := by omega
  have x5 : (1 : Int) + (q.length : Int) + (t.length : Int) + 3 ≤ (s.size : Int) := by omega
  have hbd : Below w1.heap.size w1 w1.drew := (Below.refl _ _).drew
  clear hown hv hcell hn hne
  go_wp2_with fail
  go_region_held3 (fun W => Below w1.heap.size w1 W ∧ W.cell? ⟨g, 0, none⟩ = some (.string ⟨#[46]⟩) ∧ W.cell? ⟨g, 1, none⟩ = some (.string ⟨q.toArray⟩) ∧ W.cell? ⟨g, 2, none⟩ = some (.string ⟨t.toArray⟩)) (first | exact HS.out _ (by assumption) | exact HS.out _ (Below.drew (by assumption)) | exact HS.out _ (Below.alloc (by assumption) (Below.size (by assumption)) _) | exact HS.out _ (Below.setCell (Below.alloc (by assumption) (Below.size (by assumption)) _) (by simp) _))
    ((go_at_call 8; refine (HI.out _ _ (by first | exact .inl rfl | exact .inr rfl)).mono ?_; rintro e w5 ⟨rfl, rfl⟩))
  all_goals
    rw [HEXI.out]
    have hA : Below w1.heap.size w1 (w1.alloc (.cells #[.string ⟨#[46]⟩, .int .i64 (intV t), .int .i64 (intV q), .string ⟨r.toArray⟩] 23)).drew := ((Below.refl _ _).alloc (Nat.le_refl _) _).drew
    have hF := cells_at (w := w1) (a := .string ⟨#[46]⟩) (b := .int .i64 (intV t)) (c := .int .i64 (intV q)) (d := .string ⟨r.toArray⟩) (t := 23)
    have hbA := HTR.out _ _ hb hA
    obtain ⟨W1, hW1, hbW, k0, k1, k2, k3, kf⟩ : ∃ W1, W1 = _ ∧ Below W0.heap.size W0 W1 ∧ W1.cell? ⟨w1.heap.size, 0, none⟩ = some (.string ⟨#[46]⟩) ∧ W1.cell? ⟨w1.heap.size, 1, none⟩ = some (.int .i64 (intV t)) ∧ W1.cell? ⟨w1.heap.size, 2, none⟩ = some (.int .i64 (intV q)) ∧ W1.cell? ⟨w1.heap.size, 3, none⟩ = some (.string ⟨r.toArray⟩) ∧ W1.frozen? ⟨w1.heap.size, 0, none⟩ = false := ⟨_, rfl, hbA, hF⟩
    rw [← hW1]
    have hgw : W0.heap.size ≤ w1.heap.size := hb.size
    have hlt1 : w1.heap.size < W1.heap.size := World.block_lt_of_cell? _ _ k0
    obtain ⟨gb, hgb⟩ : ∃ gb, gb = w1.heap.size := ⟨_, rfl⟩
    rw [← hgb] at k0 k1 k2 k3 kf hgw hlt1 ⊢
    have hnb : gb ≠ w.heap.size := by omega
    clear hW1 hA hF hbA hb hgb hc0 hc1 hc2 hbd
    go_wp2_with fail
    have hbS : Below W0.heap.size W0 (W1.setCell ⟨gb, 0, none⟩ (.string ⟨#[]⟩)) := hbW.setCell (p := ⟨gb, 0, none⟩) hgw _
    refine (HG.out _).mono ?_
    rintro e w3 ⟨rfl, hb3⟩
    have hb13 := HTR.out _ _ hbS hb3
    have hlt2 : gb < (W1.setCell ⟨gb, 0, none⟩ (.string ⟨#[]⟩)).heap.size := by simpa [World.setCell] using hlt1
    have m0 : w3.cell? ⟨gb, 0, none⟩ = some (.string ⟨#[]⟩) := by rw [hb3.cell (p := ⟨gb, 0, none⟩) hlt2]; exact World.cell?_setCell_same _ _ _ k0
    have m1 : w3.cell? ⟨gb, 1, none⟩ = some (.int .i64 (intV t)) := by rw [hb3.cell (p := ⟨gb, 1, none⟩) hlt2, World.cell?_setCell_other _ _ _ _ (show (⟨gb, 0, none⟩ : Addr) ≠ ⟨gb, 1, none⟩ by intro h; cases h)]; exact k1
    have m2 : w3.cell? ⟨gb, 2, none⟩ = some (.int .i64 (intV q)) := by rw [hb3.cell (p := ⟨gb, 2, none⟩) hlt2, World.cell?_setCell_other _ _ _ _ (show (⟨gb, 0, none⟩ : Addr) ≠ ⟨gb, 2, none⟩ by intro h; cases h)]; exact k2
    have m3 : w3.cell? ⟨gb, 3, none⟩ = some (.string ⟨r.toArray⟩) := by rw [hb3.cell (p := ⟨gb, 3, none⟩) hlt2, World.cell?_setCell_other _ _ _ _ (show (⟨gb, 0, none⟩ : Addr) ≠ ⟨gb, 3, none⟩ by intro h; cases h)]; exact k3
    have hlt3 : gb < w3.heap.size := World.block_lt_of_cell? _ _ m0
    clear hbS hlt2
    clear hb3 k0 k1 k2 k3 kf hlt1 hbW
    go_wp2_with fail
    refine (HTX.out _).mono ?_
    rintro e w4 ⟨rfl, hb4⟩
    have hb14 := HTR.out _ _ hb13 hb4
    have j0 : w4.cell? ⟨gb, 0, none⟩ = some (.string ⟨#[]⟩) := by rw [hb4.cell (p := ⟨gb, 0, none⟩) hlt3]; exact m0
    have j1 : w4.cell? ⟨gb, 1, none⟩ = some (.int .i64 (intV t)) := by rw [hb4.cell (p := ⟨gb, 1, none⟩) hlt3]; exact m1
    have j2 : w4.cell? ⟨gb, 2, none⟩ = some (.int .i64 (intV q)) := by rw [hb4.cell (p := ⟨gb, 2, none⟩) hlt3]; exact m2
    have j3 : w4.cell? ⟨gb, 3, none⟩ = some (.string ⟨r.toArray⟩) := by rw [hb4.cell (p := ⟨gb, 3, none⟩) hlt3]; exact m3
    clear hb4 m0 m1 m2 m3 hb13 hlt3
    obtain ⟨⟨c0, c1, c2, c3, hbw⟩, ⟨f0, f1, f2, f3⟩⟩ := HX.out w4 hb14
    clear hb14
    go_wp2_with fail
    (try simp only [Exit.inBlock, Exit.then])
    refine bodyPost_ret (v := .tuple #[.agg #[.string ⟨#[]⟩, .int .i64 (intV t), .int .i64 (intV q), .string ⟨r.toArray⟩], .bool true]) ?_ rfl ⟨rfl, ?_⟩
    · rw [results_cell_tmp rfl]; go_simp
    · exact (((hbw.setCell (p := ⟨w.heap.size, 0, none⟩) (Nat.le_refl _) _).setCell (p := ⟨w.heap.size, 1, none⟩) (Nat.le_refl _) _).setCell (p := ⟨w.heap.size, 2, none⟩) (Nat.le_refl _) _).setCell (p := ⟨w.heap.size, 3, none⟩) (Nat.le_refl _) _

end Go.Proofs.YtcjffofoheloeaaDoor
