import Derived.Test.YtjbmnghcfmbjeaaCurD
import Derived.Test.YtjbmnghcfmbjeaaNewI
namespace Go.Proofs.Ytjbmnghcfmbjeaa
open Go.RowKit

set_option maxRecDepth 20000 in
set_option maxHeartbeats 1000000 in
theorem numberOf_any (v : Value) (P : List Int) (w : World) (hr : ZRow .u8 w v P) (hb : Hid (∀ x ∈ P, 0 ≤ x ∧ x ≤ 255)) :
    Calls Try.prog 22 #[v] w fun e w' => ∃ x : Int, e = .returned (.int .i64 x) ∧ (0 ≤ x ∧ x ≤ 1000002) ∧ w' = w := by
  obtain ⟨a, cap, rfl, hcap, hmax, HROW⟩ := zrow_value hr
  clear hr
  go_enter Try.func22, Try.ntmps22
  go_wp2_with fail
  go_loopw [3, 8] (fun q i wr => ∃ (k : Nat) (x : Int), k ≤ P.length ∧ i = .int .i64 (k : Int) ∧ q = .int .i64 x ∧ (0 ≤ x ∧ x ≤ 1000002) ∧ wr = w) (fun _ i _ => P.length - (intOf i).toNat)
  case atStart => exact ⟨0, 0, Nat.zero_le _, rfl, rfl, by omega, rfl⟩
  case round =>
    obtain ⟨k, x, hk, rfl, rfl, hx, rfl⟩ := hrel
    by_cases hlt : k < P.length
    · obtain ⟨b, o, ha, hbl, hc⟩ := HROW.out (by omega)
      rw [ha]
      have hcx := hc k hlt
      have hyi := hb.out _ (List.getElem_mem hlt)
      obtain ⟨y, hy⟩ : ∃ y, y = P[k]'hlt := ⟨_, rfl⟩
      rw [← hy] at hcx hyi
      clear hc hy
      go_wp2_with fail
      go_roundw
      case rel => exact ⟨k + 1, _, by omega, by go_num, rfl, by omega, by trivial⟩
      case measure => simp [intOf]; omega
    · go_wp2_with fail
      go_ret
      exact ⟨x, rfl, hx, rfl⟩

theorem zi_own {w : World} {base : Nat} {v : Value} {zs : List Int} (h : w.ownsRow base 3 1 v zs.length (zs.map (Value.int .i64))) : ZRow .i64 w v zs := by
  have h0 := h
  obtain ⟨_, ⟨rfl, hn⟩ | ⟨g, cap, cur, rfl, hg, hh, hc, hm, hs, hx⟩⟩ := h
  · obtain rfl : zs = [] := List.length_eq_zero_iff.1 hn
    exact zrow_nil .i64 w
  · exact ⟨_, cap, rfl, hc, hm, .inr ⟨g, 0, rfl, (h0.lt g rfl).2, fun j hj => by rw [Nat.zero_add, h0.cellAt j (by omega), List.getElem?_map, List.getElem?_eq_getElem hj]; rfl⟩⟩
theorem one_i64 (n : Int) : ∀ u ∈ [Value.int .i64 n], u.oneCell' = true := by
  intro u hu; simp at hu; subst hu; rfl
theorem code_lt {w : World} {v : Value} {P : List Int} (hr : ZRow .u8 w v P) (h0 : 0 < P.length) (k : Nat) (hk : v.ownBlock = some k) : k < w.heap.size := by
  obtain ⟨a, cap, rfl, _, _, h⟩ := hr
  rcases h with h | ⟨b, o, rfl, hlt, _⟩
  · rw [h] at h0; simp at h0
  · cases hk; exact hlt

set_option maxRecDepth 20000 in
set_option maxHeartbeats 1000000 in
theorem drawNewestOf_any (v : Value) (P : List Int) (w : World) (hr : ZRow .u8 w v P) (hb : Hid (∀ x ∈ P, 0 ≤ x ∧ x ≤ 255)) (hl : P.length ≤ 9223372036854775807) :
    Calls Try.prog 26 #[v] w fun e w' => ∃ (u : Value) (L : List Int), e = .returned u ∧ ZRow .i64 w' u L ∧ L.length ≤ 30 ∧ Below w.heap.size w w' := by
  have HCL : Hid (0 < P.length → ∀ k, v.ownBlock = some k → k < w.heap.size) := code_lt hr
  have HC0 : Hid (CurB (w.alloc (.cells #[v, .int .i64 0, .int .u64 0] 43)) w.heap.size v P 0) := new_cur hr hb.out
  obtain ⟨a, cap, rfl, hcap, hmax, _⟩ := zrow_value hr
  obtain ⟨i0, hi, hz0, hz1, hz2⟩ := info_parts info_int
  clear hr
  go_enter Try.func26, Try.ntmps26
  go_wp2_with fail
  refine (serial_any w.heap.size _ P 0 _ HC0.out (by omega) hl).mono ?_
  rintro e w1 ⟨bs, rfl, hbs, hc1, hk1⟩
  have HC1 : Hid (CurB w1 w.heap.size (.slice a P.length cap) P 4) := hc1
  have HK1 : Hid (Kpt (w.alloc (.cells #[.slice a P.length cap, .int .i64 0, .int .u64 0] 43)) w1 (· = w.heap.size)) := hk1
  clear hc1 hk1 HC0
  go_wp2_with fail
  refine (pick_any _ w.heap.size _ P 4 _ HC1.out (by omega) hl (by omega)).mono ?_
  rintro e w2 ⟨n0, rfl, hn0, hc2, hk2⟩
  have HC2 : Hid (CurB w2 w.heap.size (.slice a P.length cap) P 6) := hc2
  have HK2 : Hid (Kpt (w.alloc (.cells #[.slice a P.length cap, .int .i64 0, .int .u64 0] 43)) w2 (· = w.heap.size)) := HK1.out.trans hk2
  clear hc2 hk2 HC1 HK1
  go_wp2_with fail
  refine (one_any _ w.heap.size _ P 6 _ HC2.out (by omega) hl (by omega)).mono ?_
  rintro e w3 ⟨q, rfl, hc3, hk3⟩
  have HC3 : Hid (CurB w3 w.heap.size (.slice a P.length cap) P 8) := hc3
  have HK3 : Hid (Kpt (w.alloc (.cells #[.slice a P.length cap, .int .i64 0, .int .u64 0] 43)) w3 (· = w.heap.size)) := HK2.out.trans hk3
  clear hc3 hk3 HC2 HK2
  cases q with
  | false =>
    go_wp2_with fail
    obtain ⟨m0, hm0⟩ : ∃ m : Nat, n0 = (m : Int) := Int.eq_ofNat_of_zero_le (by omega)
    rw [hm0]
    have hm0' : m0 ≤ 21 := by omega
    go_loopw [4, 6] (fun vv nn wr => ∃ (m : Nat) (L : List Int) (u : Value), nn = .int .i64 (m : Int) ∧ m + L.length ≤ 25 ∧ u = vv ∧ Hid (wr.ownsRow (w.heap.size + 1) 3 1 u L.length (L.map (Value.int .i64))) ∧ Hid (CurB wr w.heap.size (.slice a P.length cap) P (20 + 8 * L.length)) ∧ Below w.heap.size w wr ∧ w.heap.size + 1 ≤ wr.heap.size) (fun _ nn _ => (intOf nn).toNat)
    case atStart => exact ⟨m0, [], .slice none 0 0, rfl, by simp; omega, rfl, World.ownsRow_nil _ _ _ _, HC3.out.mono (by omega), cur_below HK3.out, by have := HK3.out.size; simp at this; omega⟩
    case round =>
      obtain ⟨m1, L, u, rfl, hmL, rfl, HO, HC, hbr, hzr⟩ := hrel
      have HNG : Hid (∀ k, u.ownBlock = some k → ¬ (k = w.heap.size)) := fun k hk e => by have := (HO.out.lt k hk).1; omega
      by_cases hm : m1 = 0
      · subst hm
        have HF : Hid (ZRow .i64 wr u L) := zi_own HO.out
        go_wp2_with fail
        go_ret
        exact ⟨_, L, rfl, HF.out, by omega, hbr⟩
      · obtain ⟨m, rfl⟩ : ∃ m, m1 = m + 1 := ⟨m1 - 1, by omega⟩
        clear hm
        go_wp2_with fail
        refine (one_any _ w.heap.size _ P (20 + 8 * L.length) _ HC.out (by omega) hl (by omega)).mono ?_
        rintro e w4 ⟨q2, rfl, hc4, hk4⟩
        cases q2 with
        | true =>
          go_wp2_with fail
          refine (serial_any w.heap.size _ P (20 + 8 * L.length + 2) _ hc4 (by omega) hl).mono ?_
          rintro e w5 ⟨y, rfl, hy, hc5, hk5⟩
          have hown := own_kpt (own_kpt HO.out hk4 HNG.out) hk5 HNG.out
          go_wp2_with (at_builtin; refine wpList_append_own _ rfl (.tmp 25) (.tmp 28) 32 rfl (w.heap.size + 1) 3 i0 (.int .i64 0) 1 8 Try.underlying32 hi hz0 hz1 hz2 rfl (by decide) _ _ _ rfl (hown.alloc _) ⟨w5.heap.size, 0, none⟩ 1 1 [.int .i64 y] rfl rfl ?c1 ?c2 ?c3 ?c4 ?c5 ?_)
          case c1 => exact cell_one _ _ _
          case c2 => exact one_i64 _
          case c3 => unfold maxLen; omega
          case c4 => omega
          case c5 => simp; have := hk4.size; have := hk5.size; omega
          intro v6 w6 hown6 hgrow6 _
          have HO6 : Hid (w6.ownsRow (w.heap.size + 1) 3 1 v6 (L ++ [y]).length ((L ++ [y]).map (Value.int .i64))) := by
            have h : w6.ownsRow (w.heap.size + 1) 3 1 v6 (L.length + 1) (L.map (Value.int .i64) ++ [.int .i64 y]) := hown6
            rw [List.length_append, List.map_append]; exact h
          have HC6 : Hid (CurB w6 w.heap.size (.slice a P.length cap) P (20 + 8 * (L ++ [y]).length)) := by
            have h := (alloc_cur hc5 _).kpt (grown_kpt hgrow6) (fun e => HNG.out _ e rfl) (fun h0 k hk e => by have h1 := HCL.out h0 k hk; have h2 := (hown.lt k e).1; omega)
            exact h.mono (by rw [List.length_append]; simp; omega)
          have hb6 : Below w.heap.size w w6 := by
            have h5 : Below w.heap.size w w5 := hbr.trans ((hk4.trans hk5).below (by omega) (fun k hk e => by omega))
            exact (h5.alloc h5.size _).grown hgrow6 (by have := h5.size; simp; omega) (fun k hk => by have := (hown.lt k hk).1; omega)
          have hz6 : w.heap.size + 1 ≤ w6.heap.size := by have h1 := hk4.size; have h2 := hk5.size; have h3 := hgrow6.size; simp at h3; omega
          clear hown hown6 hgrow6 hc5 hk5 hk4 hc4
          go_wp2_with fail
          go_roundw
          case rel => exact ⟨m, L ++ [y], v6, by go_num, by rw [List.length_append]; simp; omega, rfl, HO6, HC6, hb6, hz6⟩
          case measure => simp [intOf]
        | false =>
          go_wp2_with fail
          refine (pick_any _ w.heap.size _ P (20 + 8 * L.length + 2) _ hc4 (by omega) hl (by omega)).mono ?_
          rintro e w5 ⟨y, rfl, hy, hc5, hk5⟩
          have hown := own_kpt (own_kpt HO.out hk4 HNG.out) hk5 HNG.out
          go_wp2_with (at_builtin; refine wpList_append_own _ rfl (.tmp 30) (.tmp 37) 32 rfl (w.heap.size + 1) 3 i0 (.int .i64 0) 1 8 Try.underlying32 hi hz0 hz1 hz2 rfl (by decide) _ _ _ rfl (hown.alloc _) ⟨w5.heap.size, 0, none⟩ 1 1 [.int .i64 ((bs + y) % 4294967296)] rfl rfl ?c1 ?c2 ?c3 ?c4 ?c5 ?_)
          case c1 => exact cell_one _ _ _
          case c2 => exact one_i64 _
          case c3 => unfold maxLen; omega
          case c4 => omega
          case c5 => simp; have := hk4.size; have := hk5.size; omega
          intro v6 w6 hown6 hgrow6 _
          have HO6 : Hid (w6.ownsRow (w.heap.size + 1) 3 1 v6 (L ++ [((bs + y) % 4294967296)]).length ((L ++ [((bs + y) % 4294967296)]).map (Value.int .i64))) := by
            have h : w6.ownsRow (w.heap.size + 1) 3 1 v6 (L.length + 1) (L.map (Value.int .i64) ++ [.int .i64 ((bs + y) % 4294967296)]) := hown6
            rw [List.length_append, List.map_append]; exact h
          have HC6 : Hid (CurB w6 w.heap.size (.slice a P.length cap) P (20 + 8 * (L ++ [((bs + y) % 4294967296)]).length)) := by
            have h := (alloc_cur hc5 _).kpt (grown_kpt hgrow6) (fun e => HNG.out _ e rfl) (fun h0 k hk e => by have h1 := HCL.out h0 k hk; have h2 := (hown.lt k e).1; omega)
            exact h.mono (by rw [List.length_append]; simp; omega)
          have hb6 : Below w.heap.size w w6 := by
            have h5 : Below w.heap.size w w5 := hbr.trans ((hk4.trans hk5).below (by omega) (fun k hk e => by omega))
            exact (h5.alloc h5.size _).grown hgrow6 (by have := h5.size; simp; omega) (fun k hk => by have := (hown.lt k hk).1; omega)
          have hz6 : w.heap.size + 1 ≤ w6.heap.size := by have h1 := hk4.size; have h2 := hk5.size; have h3 := hgrow6.size; simp at h3; omega
          clear hown hown6 hgrow6 hc5 hk5 hk4 hc4
          go_wp2_with fail
          go_roundw
          case rel => exact ⟨m, L ++ [((bs + y) % 4294967296)], v6, by go_num, by rw [List.length_append]; simp; omega, rfl, HO6, HC6, hb6, hz6⟩
          case measure => simp [intOf]
  | true =>
    go_wp2_with fail
    refine (pick_any _ w.heap.size _ P 8 _ HC3.out (by omega) hl (by omega)).mono ?_
    rintro e w4 ⟨n1, rfl, hn1, hc4, hk4⟩
    have HC4 : Hid (CurB w4 w.heap.size (.slice a P.length cap) P 10) := hc4
    have HK4 : Hid (Kpt (w.alloc (.cells #[.slice a P.length cap, .int .i64 0, .int .u64 0] 43)) w4 (· = w.heap.size)) := HK3.out.trans hk4
    clear hc4 hk4 HC3 HK3
    go_wp2_with fail
    obtain ⟨m0, hm0⟩ : ∃ m : Nat, (20 + n1) = (m : Int) := Int.eq_ofNat_of_zero_le (by omega)
    rw [hm0]
    have hm0' : m0 ≤ 21 := by omega
    go_loopw [4, 6] (fun vv nn wr => ∃ (m : Nat) (L : List Int) (u : Value), nn = .int .i64 (m : Int) ∧ m + L.length ≤ 25 ∧ u = vv ∧ Hid (wr.ownsRow (w.heap.size + 1) 3 1 u L.length (L.map (Value.int .i64))) ∧ Hid (CurB wr w.heap.size (.slice a P.length cap) P (20 + 8 * L.length)) ∧ Below w.heap.size w wr ∧ w.heap.size + 1 ≤ wr.heap.size) (fun _ nn _ => (intOf nn).toNat)
    case atStart => exact ⟨m0, [], .slice none 0 0, rfl, by simp; omega, rfl, World.ownsRow_nil _ _ _ _, HC4.out.mono (by omega), cur_below HK4.out, by have := HK4.out.size; simp at this; omega⟩
    case round =>
      obtain ⟨m1, L, u, rfl, hmL, rfl, HO, HC, hbr, hzr⟩ := hrel
      have HNG : Hid (∀ k, u.ownBlock = some k → ¬ (k = w.heap.size)) := fun k hk e => by have := (HO.out.lt k hk).1; omega
      by_cases hm : m1 = 0
      · subst hm
        have HF : Hid (ZRow .i64 wr u L) := zi_own HO.out
        go_wp2_with fail
        go_ret
        exact ⟨_, L, rfl, HF.out, by omega, hbr⟩
      · obtain ⟨m, rfl⟩ : ∃ m, m1 = m + 1 := ⟨m1 - 1, by omega⟩
        clear hm
        go_wp2_with fail
        refine (one_any _ w.heap.size _ P (20 + 8 * L.length) _ HC.out (by omega) hl (by omega)).mono ?_
        rintro e w4 ⟨q2, rfl, hc4, hk4⟩
        cases q2 with
        | true =>
          go_wp2_with fail
          refine (serial_any w.heap.size _ P (20 + 8 * L.length + 2) _ hc4 (by omega) hl).mono ?_
          rintro e w5 ⟨y, rfl, hy, hc5, hk5⟩
          have hown := own_kpt (own_kpt HO.out hk4 HNG.out) hk5 HNG.out
          go_wp2_with (at_builtin; refine wpList_append_own _ rfl (.tmp 25) (.tmp 28) 32 rfl (w.heap.size + 1) 3 i0 (.int .i64 0) 1 8 Try.underlying32 hi hz0 hz1 hz2 rfl (by decide) _ _ _ rfl (hown.alloc _) ⟨w5.heap.size, 0, none⟩ 1 1 [.int .i64 y] rfl rfl ?c1 ?c2 ?c3 ?c4 ?c5 ?_)
          case c1 => exact cell_one _ _ _
          case c2 => exact one_i64 _
          case c3 => unfold maxLen; omega
          case c4 => omega
          case c5 => simp; have := hk4.size; have := hk5.size; omega
          intro v6 w6 hown6 hgrow6 _
          have HO6 : Hid (w6.ownsRow (w.heap.size + 1) 3 1 v6 (L ++ [y]).length ((L ++ [y]).map (Value.int .i64))) := by
            have h : w6.ownsRow (w.heap.size + 1) 3 1 v6 (L.length + 1) (L.map (Value.int .i64) ++ [.int .i64 y]) := hown6
            rw [List.length_append, List.map_append]; exact h
          have HC6 : Hid (CurB w6 w.heap.size (.slice a P.length cap) P (20 + 8 * (L ++ [y]).length)) := by
            have h := (alloc_cur hc5 _).kpt (grown_kpt hgrow6) (fun e => HNG.out _ e rfl) (fun h0 k hk e => by have h1 := HCL.out h0 k hk; have h2 := (hown.lt k e).1; omega)
            exact h.mono (by rw [List.length_append]; simp; omega)
          have hb6 : Below w.heap.size w w6 := by
            have h5 : Below w.heap.size w w5 := hbr.trans ((hk4.trans hk5).below (by omega) (fun k hk e => by omega))
            exact (h5.alloc h5.size _).grown hgrow6 (by have := h5.size; simp; omega) (fun k hk => by have := (hown.lt k hk).1; omega)
          have hz6 : w.heap.size + 1 ≤ w6.heap.size := by have h1 := hk4.size; have h2 := hk5.size; have h3 := hgrow6.size; simp at h3; omega
          clear hown hown6 hgrow6 hc5 hk5 hk4 hc4
          go_wp2_with fail
          go_roundw
          case rel => exact ⟨m, L ++ [y], v6, by go_num, by rw [List.length_append]; simp; omega, rfl, HO6, HC6, hb6, hz6⟩
          case measure => simp [intOf]
        | false =>
          go_wp2_with fail
          refine (pick_any _ w.heap.size _ P (20 + 8 * L.length + 2) _ hc4 (by omega) hl (by omega)).mono ?_
          rintro e w5 ⟨y, rfl, hy, hc5, hk5⟩
          have hown := own_kpt (own_kpt HO.out hk4 HNG.out) hk5 HNG.out
          go_wp2_with (at_builtin; refine wpList_append_own _ rfl (.tmp 30) (.tmp 37) 32 rfl (w.heap.size + 1) 3 i0 (.int .i64 0) 1 8 Try.underlying32 hi hz0 hz1 hz2 rfl (by decide) _ _ _ rfl (hown.alloc _) ⟨w5.heap.size, 0, none⟩ 1 1 [.int .i64 ((bs + y) % 4294967296)] rfl rfl ?c1 ?c2 ?c3 ?c4 ?c5 ?_)
          case c1 => exact cell_one _ _ _
          case c2 => exact one_i64 _
          case c3 => unfold maxLen; omega
          case c4 => omega
          case c5 => simp; have := hk4.size; have := hk5.size; omega
          intro v6 w6 hown6 hgrow6 _
          have HO6 : Hid (w6.ownsRow (w.heap.size + 1) 3 1 v6 (L ++ [((bs + y) % 4294967296)]).length ((L ++ [((bs + y) % 4294967296)]).map (Value.int .i64))) := by
            have h : w6.ownsRow (w.heap.size + 1) 3 1 v6 (L.length + 1) (L.map (Value.int .i64) ++ [.int .i64 ((bs + y) % 4294967296)]) := hown6
            rw [List.length_append, List.map_append]; exact h
          have HC6 : Hid (CurB w6 w.heap.size (.slice a P.length cap) P (20 + 8 * (L ++ [((bs + y) % 4294967296)]).length)) := by
            have h := (alloc_cur hc5 _).kpt (grown_kpt hgrow6) (fun e => HNG.out _ e rfl) (fun h0 k hk e => by have h1 := HCL.out h0 k hk; have h2 := (hown.lt k e).1; omega)
            exact h.mono (by rw [List.length_append]; simp; omega)
          have hb6 : Below w.heap.size w w6 := by
            have h5 : Below w.heap.size w w5 := hbr.trans ((hk4.trans hk5).below (by omega) (fun k hk e => by omega))
            exact (h5.alloc h5.size _).grown hgrow6 (by have := h5.size; simp; omega) (fun k hk => by have := (hown.lt k hk).1; omega)
          have hz6 : w.heap.size + 1 ≤ w6.heap.size := by have h1 := hk4.size; have h2 := hk5.size; have h3 := hgrow6.size; simp at h3; omega
          clear hown hown6 hgrow6 hc5 hk5 hk4 hc4
          go_wp2_with fail
          go_roundw
          case rel => exact ⟨m, L ++ [((bs + y) % 4294967296)], v6, by go_num, by rw [List.length_append]; simp; omega, rfl, HO6, HC6, hb6, hz6⟩
          case measure => simp [intOf]
end Go.Proofs.Ytjbmnghcfmbjeaa
