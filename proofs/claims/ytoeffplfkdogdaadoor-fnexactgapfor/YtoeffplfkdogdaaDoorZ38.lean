import Derived.Test.YtoeffplfkdogdaaDoorZ19
import Derived.Test.YtoeffplfkdogdaaDoorZ37
namespace Go.Proofs.YtoeffplfkdogdaaDoor.gapFor
open Go.RowKit

theorem gf_own {base : Nat} {w' : World} {od : Option (List UInt8 × List UInt8 × List Int)} {e : Ending} (h : GFRes base w' od e) :
    ∃ aa ca, e = .returned (.tuple #[.agg #[.string ⟨(od.getD ([], [], [])).1.toArray⟩, .string ⟨(od.getD ([], [], [])).2.1.toArray⟩, .slice aa (od.getD ([], [], [])).2.2.length ca], .bool od.isSome]) ∧ TOwn w' base aa ca (od.getD ([], [], [])).2.2 := by
  cases od with
  | none => exact ⟨none, 0, h, .inl ⟨rfl, rfl, rfl⟩⟩
  | some x =>
    obtain ⟨t, cap, he, h1, h2, h3, h4⟩ := h
    exact ⟨some ⟨t, 0, none⟩, cap, he, .inr ⟨t, rfl, h1, h2, h3, h4⟩⟩

set_option maxRecDepth 20000 in
set_option maxHeartbeats 4000000 in
theorem walk (v : Value) (L : List (List UInt8 × List UInt8 × List Int)) (s : ByteArray) (w : World) (hr : GRow w v L) (hxa : Hid (∀ x ∈ L, x.1.length ≤ maxLen ∧ x.2.1.length ≤ maxLen)) (hs : s.size ≤ maxLen) (hE : Env w) :
    Calls Tryd.prog 3 #[v, .string s] w fun e w' => e = .returned (.bool true) ∧ Below w.heap.size w w' := by
  obtain ⟨a, cap, rfl, hcap, hmax, _⟩ := grow_value hr
  have hs2 := hs
  unfold maxLen at hs2
  by_cases hbig : (1048576 : Int) < (s.size : Int)
  · clear hr
    go_enter Tryd.func3, Tryd.ntmps3
    go_wp2_with fail
    go_ret
    exact ⟨rfl, Below.refl _ _⟩
  have hsz : s.size = s.data.toList.length := by rw [Array.length_toList]; rfl
  obtain ⟨n, hn⟩ : ∃ n, n = s.data.toList := ⟨_, rfl⟩
  rw [← hn] at hsz
  obtain rfl : s = ⟨n.toArray⟩ := data_eq hn.symm
  have hnl : n.length ≤ 1048576 := by omega
  have gN : ¬ (1048576 : Int) < (n.length : Int) := by omega
  clear hn hbig hs hs2 hsz
  have HSZ : Hid (Calls Tryd.prog 5 #[.slice a L.length cap, .int .i64 1048576] w fun e w' => (∃ q : Int, e = .returned (.int .i64 q) ∧ (q = -1 ∨ (0 ≤ q ∧ q = 1048576 - (L.length : Int) - (wtG L : Int)))) ∧ Below w.heap.size w w') := szGapS_any _ L 1048576 w hr hxa (by omega) (by omega)
  have HRO : Hid (∀ W, Below w.heap.size w W → GRow W (.slice a L.length cap) L) := fun W hW => hr.kept hW
  clear hr
  go_enter Tryd.func3, Tryd.ntmps3
  go_wp2_with fail
  refine HSZ.out.mono ?_
  rintro e w1 ⟨⟨q, rfl, hq⟩, hb1⟩
  rcases hq with rfl | ⟨hq0, hqe⟩
  · go_wp2_with fail
    go_ret
    exact ⟨rfl, hb1⟩
  have hL : L.length ≤ 1048576 := by omega
  have hty : tyN L ≤ 1048576 := by have := tyN_wt L; omega
  have HX : Hid (∀ x ∈ L, x.1.length ≤ 1048576 ∧ x.2.1.length ≤ 1048576) := fun x hx => by have := wtG_one hx; omega
  have HXT : Hid (∀ x ∈ L, x.2.2.length ≤ 1048576) := fun x hx => by have := wtG_one hx; omega
  have HT : Hid (∀ W, Below w.heap.size w W → Calls Tryd.prog 7 #[.slice a L.length cap] W fun e w' => ∃ T, e = .returned (.slice (some ⟨W.heap.size, 0, none⟩) L.length L.length) ∧ GOwn w' W.heap.size T L ∧ Below W.heap.size W w') := fun W hW => toGapS_any _ L W (HRO.out W hW) hL HXT
  have HEQL : Hid (∀ g1 T1 g2 T2 W, GOwn W g1 T1 L → GOwn W g2 T2 L → Calls Tryd.prog 10 #[.slice (some ⟨g1, 0, none⟩) L.length L.length, .slice (some ⟨g2, 0, none⟩) L.length L.length] W fun e w' => e = .returned (.bool true) ∧ Below W.heap.size W w') := fun g1 T1 g2 T2 W h1 h2 => eqGapS_same _ _ L W (h1.row HXT.out (Nat.le_refl _) (by unfold maxLen; omega)) (h2.row HXT.out (Nat.le_refl _) (by unfold maxLen; omega))
  have HYL : Hid (((gfO L n).getD ([], [], [])).2.2.length ≤ 1048576) := by
    show _ ≤ _
    cases h : gfO L n with
    | none => simp
    | some x =>
      have hx : x ∈ L := by
        unfold gfO at h
        split at h
        · exact List.mem_of_find?_eq_some h
        · cases h
      exact HXT.out x hx
  have HS : Hid (∀ g T W, GOwn W g T L → Calls Tryd.prog 6 #[.slice (some ⟨g, 0, none⟩) L.length L.length, .string ⟨n.toArray⟩] W fun e w' => (∃ aa ca, e = .returned (.tuple #[.agg #[.string ⟨((gfO L n).getD ([], [], [])).1.toArray⟩, .string ⟨((gfO L n).getD ([], [], [])).2.1.toArray⟩, .slice aa ((gfO L n).getD ([], [], [])).2.2.length ca], .bool (gfO L n).isSome]) ∧ TOwn w' W.heap.size aa ca ((gfO L n).getD ([], [], [])).2.2) ∧ Below W.heap.size W w') := fun g T W h => (sGapFor_any n _ L W (h.row HXT.out (Nat.le_refl _) (by unfold maxLen; omega)) HX HXT hnl).mono fun e w' hh => ⟨gf_own hh.1, hh.2⟩
  have HI : Hid (∀ g T W, Below w.heap.size w W → GOwn W g T L → Calls Tryd.prog 8 #[.slice (some ⟨g, 0, none⟩) L.length L.length, .string ⟨n.toArray⟩] W fun e w' => (∃ aa ca, e = .returned (.tuple #[.agg #[.string ⟨((gfO L n).getD ([], [], [])).1.toArray⟩, .string ⟨((gfO L n).getD ([], [], [])).2.1.toArray⟩, .slice aa ((gfO L n).getD ([], [], [])).2.2.length ca], .bool (gfO L n).isSome]) ∧ TOwn w' W.heap.size aa ca ((gfO L n).getD ([], [], [])).2.2) ∧ Below W.heap.size W w') := fun g T W hW h => (iGapFor_any n _ L W (h.row HXT.out (Nat.le_refl _) (by unfold maxLen; omega)) HX HXT hnl (hE.below hW)).mono fun e w' hh => ⟨gf_own hh.1, hh.2⟩
  have HMK : Hid (∀ g T W, GOwn W g T L → Calls Tryd.prog 11 #[.slice (some ⟨g, 0, none⟩) L.length L.length, .int .i64 1] W fun e w' => e = .returned (.int .i64 (1 + 2 * (L.length : Int) + (tyN L : Int))) ∧ Kpt W w' (fun b => b = g ∨ ∃ j, j < L.length ∧ b = T j)) := fun g T W h => markGapS_any g 1 T L W h hL hty (by omega) (by omega)
  obtain ⟨y, hy⟩ : ∃ y, y = (gfO L n).getD ([], [], []) := ⟨_, rfl⟩
  obtain ⟨ok, hok⟩ : ∃ ok, ok = (gfO L n).isSome := ⟨_, rfl⟩
  rw [← hy, ← hok] at HS HI
  rw [← hy] at HYL
  have HEQ : Hid (∀ aa ca ab cb W, ZRow .i64 W (.slice aa y.2.2.length ca) y.2.2 → ZRow .i64 W (.slice ab y.2.2.length cb) y.2.2 → Calls Tryd.prog 9 #[.agg #[.string ⟨y.1.toArray⟩, .string ⟨y.2.1.toArray⟩, .slice aa y.2.2.length ca], .agg #[.string ⟨y.1.toArray⟩, .string ⟨y.2.1.toArray⟩, .slice ab y.2.2.length cb]] W fun e w' => e = .returned (.bool true) ∧ Below W.heap.size W w') := fun aa ca ab cb W g1 g2 => eqGap_same ⟨y.1.toArray⟩ ⟨y.2.1.toArray⟩ _ _ y.2.2 W g1 g2
  have HMG : Hid (∀ aa ca base W, TOwn W base aa ca y.2.2 → Calls Tryd.prog 12 #[.agg #[.string ⟨y.1.toArray⟩, .string ⟨y.2.1.toArray⟩, .slice aa y.2.2.length ca], .int .i64 1] W fun e w' => e = .returned (.int .i64 (1 + (y.2.2.length : Int))) ∧ TOwn w' base aa ca (mksZ 1 y.2.2.length) ∧ Kpt W w' (fun b => aa = some ⟨b, 0, none⟩)) := fun aa ca base W h => markGap_any y aa ca base W h HYL.out
  have HHG : Hid (∀ aa ca base W, TOwn W base aa ca (mksZ 1 y.2.2.length) → Calls Tryd.prog 13 #[.agg #[.string ⟨y.1.toArray⟩, .string ⟨y.2.1.toArray⟩, .slice aa y.2.2.length ca], .int .i64 1] W fun e w' => e = .returned (.int .i64 (1 + (y.2.2.length : Int))) ∧ Below W.heap.size W w') := fun aa ca base W h => heldGap_any y aa ca base W h HYL.out
  have eok : (ok != ok) = false := by simp
  have hyl := HYL.out
  have em : ((1 + (y.2.2.length : Int)) != (1 + (y.2.2.length : Int))) = false := by simp
  clear hqe HSZ HRO hy hok HXT HX hcap hmax
  -- the specification's answer
  go_wp2_with fail
  refine (HT.out _ hb1).mono ?_
  rintro e w2 ⟨T2, rfl, ho2, hb2⟩
  have hbw2 := hb1.trans (hb2.mono hb1.size)
  have HC2 := HS.out _ T2 _ ho2
  have HC2' : Hid _ := HC2
  clear ho2 HC2
  go_wp2_with fail
  refine Calls.mono HC2'.out ?_
  rintro e w3 ⟨⟨az, cs, rfl, hts⟩, hb3⟩
  have hbw3 := hbw2.trans (hb3.mono hbw2.size)
  have hcs := hts.cap
  obtain ⟨W3, hW3⟩ : ∃ W3, W3 = w3.alloc (.cells #[.string ⟨y.1.toArray⟩, .string ⟨y.2.1.toArray⟩, .slice az y.2.2.length cs] 26) := ⟨_, rfl⟩
  have HW3 : Hid (w3.alloc (.cells #[.string ⟨y.1.toArray⟩, .string ⟨y.2.1.toArray⟩, .slice az y.2.2.length cs] 26) = W3) := hW3.symm
  have hb33 : Below w3.heap.size w3 W3 := by rw [hW3]; exact (Below.refl _ _).alloc (Nat.le_refl _) _
  have HK3 : Hid (W3.heap[w3.heap.size]? = some (.cells #[.string ⟨y.1.toArray⟩, .string ⟨y.2.1.toArray⟩, .slice az y.2.2.length cs] 26)) := by rw [hW3]; exact gap_new _ _
  have hs3 : w3.heap.size < W3.heap.size := by rw [hW3]; simp
  have hbW3 := hbw3.trans (hb33.mono hbw3.size)
  have HT3 : Hid (TOwn w3 w2.heap.size az cs y.2.2) := hts
  clear HC2' hW3 hts
  go_wp2_with fail
  rw [HW3.out]
  -- the program's
  refine (HT.out _ hbW3).mono ?_
  rintro e w4 ⟨T4, rfl, ho4, hb4⟩
  have hbw4 := hbW3.trans (hb4.mono hbW3.size)
  have HO4 : Hid (GOwn w4 W3.heap.size T4 L) := ho4
  have HC4' : Hid _ := HI.out _ T4 _ hbw4 ho4
  clear ho4
  go_wp2_with fail
  refine Calls.mono HC4'.out ?_
  rintro e w5 ⟨⟨ai, ci, rfl, hti⟩, hb5⟩
  have hbw5 := hbw4.trans (hb5.mono hbw4.size)
  have hci := hti.cap
  obtain ⟨W5, hW5⟩ : ∃ W5, W5 = w5.alloc (.cells #[.string ⟨y.1.toArray⟩, .string ⟨y.2.1.toArray⟩, .slice ai y.2.2.length ci] 26) := ⟨_, rfl⟩
  have HW5 : Hid (w5.alloc (.cells #[.string ⟨y.1.toArray⟩, .string ⟨y.2.1.toArray⟩, .slice ai y.2.2.length ci] 26) = W5) := hW5.symm
  have hb55 : Below w5.heap.size w5 W5 := by rw [hW5]; exact (Below.refl _ _).alloc (Nat.le_refl _) _
  have HK5 : Hid (W5.heap[w5.heap.size]? = some (.cells #[.string ⟨y.1.toArray⟩, .string ⟨y.2.1.toArray⟩, .slice ai y.2.2.length ci] 26)) := by rw [hW5]; exact gap_new _ _
  have hs5 : w5.heap.size < W5.heap.size := by rw [hW5]; simp
  have hbW5 := hbw5.trans (hb55.mono hbw5.size)
  have hz35 : W3.heap.size ≤ w4.heap.size := hb4.size
  have hz45 : w4.heap.size ≤ w5.heap.size := hb5.size
  -- what is known from here on, world by world
  have hb3W5 : Below W3.heap.size W3 W5 := hb4.trans ((hb5.trans (hb55.mono hb5.size)).mono hb4.size)
  have HINV5 : Hid ((W5.heap[w3.heap.size]? = some (.cells #[.string ⟨y.1.toArray⟩, .string ⟨y.2.1.toArray⟩, .slice az y.2.2.length cs] 26)) ∧ (W5.heap[w5.heap.size]? = some (.cells #[.string ⟨y.1.toArray⟩, .string ⟨y.2.1.toArray⟩, .slice ai y.2.2.length ci] 26)) ∧ TOwn W5 w2.heap.size az cs y.2.2 ∧ TOwn W5 w4.heap.size ai ci y.2.2) := ⟨(hb3W5.block _ (by omega)).trans HK3.out, HK5.out, (HT3.out.kept hb33).kept hb3W5, hti.kept hb55⟩
  have HAS : Hid (∀ t, az = some ⟨t, 0, none⟩ → t < w3.heap.size) := fun t ht => (HT3.out.at t ht).2
  have HAI : Hid (∀ t, ai = some ⟨t, 0, none⟩ → w4.heap.size ≤ t ∧ t < w5.heap.size) := fun t ht => hti.at t ht
  have HO5 : Hid (GOwn W5 W3.heap.size T4 L) := (HO4.out.kept hb5).kept hb55
  have HX4 : Hid (W3.heap.size < w4.heap.size) := HO4.out.1
  have HTL : Hid (∀ j, j < L.length → W3.heap.size < T4 j ∧ T4 j < w4.heap.size) := fun j hj => ⟨(HO4.out.2.2.1 j hj).1, (HO4.out.2.2.1 j hj).2.2.2.2.1⟩
  have hk35 := ((hb4.trans (hb5.mono hb4.size)).block w3.heap.size hs3).trans HK3.out
  obtain ⟨⟨p0, p1, p2⟩, _⟩ := gap_cells hk35
  have hz3w5 : w3.heap.size < w5.heap.size := by omega
  clear HC4' hW5 hti HT3 HK3 HK5 HO4 hb33 hb4 hb5 hb55 hb3W5 hb3 hb2 hk35
  go_wp2_with fail
  rw [HW5.out]
  refine (HEQ.out _ _ _ _ _ HINV5.out.2.2.2.row HINV5.out.2.2.1.row).mono ?_
  rintro e w6 ⟨rfl, hb6⟩
  have hbw6 := hbW5.trans (hb6.mono hbW5.size)
  clear p0 p1 p2
  go_wp2_with fail
  refine (HT.out _ hbw6).mono ?_
  rintro e w7 ⟨T7, rfl, ho7, hb7⟩
  have hbw7 := hbw6.trans (hb7.mono hbw6.size)
  have HC7 : Hid _ := HEQL.out _ T4 _ T7 _ ((HO5.out.kept hb6).kept hb7) ho7
  clear ho7
  go_wp2_with fail
  refine Calls.mono HC7.out ?_
  rintro e w8 ⟨rfl, hb8⟩
  have hbw8 := hbw7.trans (hb8.mono hbw7.size)
  have hb58 : Below W5.heap.size W5 w8 := (hb6.trans (hb7.mono hb6.size)).trans (hb8.mono (Nat.le_trans hb6.size hb7.size))
  have HC8 : Hid _ := HMK.out _ T4 _ (HO5.out.kept hb58)
  clear HC7 hb6 hb7 hb8 hbw6 hbw7
  go_wp2_with fail
  refine Calls.mono HC8.out ?_
  rintro e w9 ⟨rfl, hk9⟩
  have hk9' : Kpt w8 w9 (fun b => W3.heap.size ≤ b ∧ b < w4.heap.size) := hk9.mono (fun b _ h => by
    rcases h with rfl | ⟨j, hj, rfl⟩
    · exact ⟨Nat.le_refl _, HX4.out⟩
    · exact ⟨Nat.le_of_lt (HTL.out j hj).1, (HTL.out j hj).2⟩)
  have hbw9 : Below w.heap.size w w9 := hbw8.trans (hk9'.below hbw8.size (fun k hk h => by have := hbW3.size; omega))
  have HINV9 : Hid ((w9.heap[w3.heap.size]? = some (.cells #[.string ⟨y.1.toArray⟩, .string ⟨y.2.1.toArray⟩, .slice az y.2.2.length cs] 26)) ∧ (w9.heap[w5.heap.size]? = some (.cells #[.string ⟨y.1.toArray⟩, .string ⟨y.2.1.toArray⟩, .slice ai y.2.2.length ci] 26)) ∧ TOwn w9 w2.heap.size az cs y.2.2 ∧ TOwn w9 w4.heap.size ai ci y.2.2) :=
    ⟨kpt_heap hk9' ((hb58.block _ (by omega)).trans HINV5.out.1) (fun h => by omega), kpt_heap hk9' ((hb58.block _ (by omega)).trans HINV5.out.2.1) (fun h => by omega),
     (HINV5.out.2.2.1.kept hb58).kpt hk9' (fun t ht _ _ h => by have := HAS.out t ht; omega), (HINV5.out.2.2.2.kept hb58).kpt hk9' (fun t ht h1 _ h => by omega)⟩
  have hz9 : w5.heap.size < w9.heap.size := (Array.getElem?_eq_some_iff.1 HINV9.out.2.1).1
  obtain ⟨km, hkm⟩ : ∃ km : Int, km = 1 + 2 * (L.length : Int) + (tyN L : Int) := ⟨_, rfl⟩
  rw [← hkm]
  have hkm0 : 0 ≤ km := by omega
  obtain ⟨⟨p0, p1, p2⟩, _⟩ := gap_cells HINV9.out.1
  obtain ⟨⟨r0, r1, r2⟩, _⟩ := gap_cells HINV9.out.2.1
  clear HINV5 HO5 HC8 hk9 hk9' hb58 hbw8 hkm HMK HEQL
  go_wp2_with fail
  refine (HEQ.out _ _ _ _ _ HINV9.out.2.2.2.row HINV9.out.2.2.1.row).mono ?_
  rintro e w10 ⟨rfl, hb10⟩
  have hbw10 := hbw9.trans (hb10.mono hbw9.size)
  have HINV10 : Hid ((w10.heap[w3.heap.size]? = some (.cells #[.string ⟨y.1.toArray⟩, .string ⟨y.2.1.toArray⟩, .slice az y.2.2.length cs] 26)) ∧ (w10.heap[w5.heap.size]? = some (.cells #[.string ⟨y.1.toArray⟩, .string ⟨y.2.1.toArray⟩, .slice ai y.2.2.length ci] 26)) ∧ TOwn w10 w2.heap.size az cs y.2.2 ∧ TOwn w10 w4.heap.size ai ci y.2.2) :=
    ⟨(hb10.block _ (by omega)).trans HINV9.out.1, (hb10.block _ (by omega)).trans HINV9.out.2.1, HINV9.out.2.2.1.kept hb10, HINV9.out.2.2.2.kept hb10⟩
  clear p0 p1 p2 r0 r1 r2
  obtain ⟨⟨r0, r1, r2⟩, _⟩ := gap_cells HINV10.out.2.1
  have HC10 : Hid _ := HMG.out ai ci _ _ HINV10.out.2.2.2
  have hz10 : w5.heap.size < w10.heap.size := Nat.lt_of_lt_of_le hz9 hb10.size
  clear HINV9 hb10
  go_wp2_with fail
  refine Calls.mono HC10.out ?_
  rintro e w11 ⟨rfl, ht11, hk11⟩
  have hbw11 : Below w.heap.size w w11 := hbw10.trans (hk11.below hbw10.size (fun k hk h => by have h1 := HAI.out k h; have h2 := hbw4.size; omega))
  have HINV11 : Hid ((w11.heap[w3.heap.size]? = some (.cells #[.string ⟨y.1.toArray⟩, .string ⟨y.2.1.toArray⟩, .slice az y.2.2.length cs] 26)) ∧ (w11.heap[w5.heap.size]? = some (.cells #[.string ⟨y.1.toArray⟩, .string ⟨y.2.1.toArray⟩, .slice ai y.2.2.length ci] 26)) ∧ TOwn w11 w2.heap.size az cs y.2.2 ∧ TOwn w11 w4.heap.size ai ci (mksZ 1 y.2.2.length)) :=
    ⟨kpt_heap hk11 HINV10.out.1 (fun h => by have := HAI.out _ h; omega), kpt_heap hk11 HINV10.out.2.1 (fun h => by have := HAI.out _ h; omega),
     HINV10.out.2.2.1.kpt hk11 (fun t ht _ _ h => by have h1 := HAS.out t ht; have h2 := HAI.out t h; omega), ht11⟩
  have hz11 : w5.heap.size < w11.heap.size := (Array.getElem?_eq_some_iff.1 HINV11.out.2.1).1
  clear r0 r1 r2 HC10 hk11 ht11 HINV10 hbw10 hbw9
  obtain ⟨⟨r0, r1, r2⟩, _⟩ := gap_cells HINV11.out.2.1
  go_wp2_with fail
  refine (HHG.out ai ci _ _ HINV11.out.2.2.2).mono ?_
  rintro e w12 ⟨rfl, hb12⟩
  have hbw12 := hbw11.trans (hb12.mono hbw11.size)
  clear r0 r1 r2
  go_wp2_with fail
  refine (HT.out _ hbw12).mono ?_
  rintro e w13 ⟨T13, rfl, ho13, hb13⟩
  have hbw13 := hbw12.trans (hb13.mono hbw12.size)
  have HC13 : Hid _ := HI.out _ T13 _ hbw13 ho13
  clear ho13
  go_wp2_with fail
  refine Calls.mono HC13.out ?_
  rintro e w14 ⟨⟨ah, ch, rfl, hth⟩, hb14⟩
  have hbw14 := hbw13.trans (hb14.mono hbw13.size)
  have hch := hth.cap
  obtain ⟨W14, hW14⟩ : ∃ W14, W14 = w14.alloc (.cells #[.string ⟨y.1.toArray⟩, .string ⟨y.2.1.toArray⟩, .slice ah y.2.2.length ch] 26) := ⟨_, rfl⟩
  have HW14 : Hid (w14.alloc (.cells #[.string ⟨y.1.toArray⟩, .string ⟨y.2.1.toArray⟩, .slice ah y.2.2.length ch] 26) = W14) := hW14.symm
  have hb44 : Below w14.heap.size w14 W14 := by rw [hW14]; exact (Below.refl _ _).alloc (Nat.le_refl _) _
  have hbW14 := hbw14.trans (hb44.mono hbw14.size)
  have hb1114 : Below w11.heap.size w11 W14 := ((hb12.trans (hb13.mono hb12.size)).trans (hb14.mono (Nat.le_trans hb12.size hb13.size))).trans (hb44.mono (Nat.le_trans (Nat.le_trans hb12.size hb13.size) hb14.size))
  have HINV14 : Hid ((W14.heap[w3.heap.size]? = some (.cells #[.string ⟨y.1.toArray⟩, .string ⟨y.2.1.toArray⟩, .slice az y.2.2.length cs] 26)) ∧ (W14.heap[w5.heap.size]? = some (.cells #[.string ⟨y.1.toArray⟩, .string ⟨y.2.1.toArray⟩, .slice ai y.2.2.length ci] 26)) ∧ TOwn W14 w2.heap.size az cs y.2.2 ∧ TOwn W14 w4.heap.size ai ci (mksZ 1 y.2.2.length) ∧ ZRow .i64 W14 (.slice ah y.2.2.length ch) y.2.2) :=
    ⟨(hb1114.block _ (by omega)).trans HINV11.out.1, (hb1114.block _ (by omega)).trans HINV11.out.2.1, HINV11.out.2.2.1.kept hb1114, HINV11.out.2.2.2.kept hb1114, (hth.kept hb44).row⟩
  have hz14 : w5.heap.size < W14.heap.size := Nat.lt_of_lt_of_le hz11 hb1114.size
  have hb1314 := (hb12.trans (hb13.mono hb12.size)).trans (hb14.mono (Nat.le_trans hb12.size hb13.size))
  have hk314 := (hb1314.block w3.heap.size (by omega)).trans HINV11.out.1
  obtain ⟨⟨p0, p1, p2⟩, _⟩ := gap_cells hk314
  have hz3w14 : w3.heap.size < w14.heap.size := by have := hb1314.size; omega
  clear HC13 hW14 hth hb44 hb12 hb13 hb14 hb1114 HINV11 hbw11 hbw12 hbw13 hb1314 hk314
  go_wp2_with fail
  rw [HW14.out]
  refine (HEQ.out _ _ _ _ _ HINV14.out.2.2.2.2 HINV14.out.2.2.1.row).mono ?_
  rintro e w15 ⟨rfl, hb15⟩
  have hbw15 := hbW14.trans (hb15.mono hbW14.size)
  have HT15 : Hid (TOwn w15 w4.heap.size ai ci (mksZ 1 y.2.2.length)) := HINV14.out.2.2.2.1.kept hb15
  have hk15 := (hb15.block _ hz14).trans HINV14.out.2.1
  clear p0 p1 p2
  obtain ⟨⟨r0, r1, r2⟩, _⟩ := gap_cells hk15
  clear hk15 HINV14
  go_wp2_with fail
  refine (HHG.out ai ci _ _ HT15.out).mono ?_
  rintro e w16 ⟨rfl, hb16⟩
  have hbw16 := hbw15.trans (hb16.mono hbw15.size)
  go_wp2_with fail
  go_ret
  exact ⟨rfl, hbw16⟩
end Go.Proofs.YtoeffplfkdogdaaDoor.gapFor
