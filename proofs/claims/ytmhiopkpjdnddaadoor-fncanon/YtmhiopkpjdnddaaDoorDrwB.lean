import Derived.Test.YtmhiopkpjdnddaaDoorDrwA
namespace Go.Proofs.YtmhiopkpjdnddaaDoor
open Go.RowKit

/-- Texts that are drawn are short. -/
def Small (L : List (List UInt8)) : Prop := L.length ≤ 100 ∧ ∀ p ∈ L, p.length ≤ 60
theorem Small.tot {L : List (List UInt8)} (h : Small L) : tot L ≤ 6000 := by
  have : ∀ (M : List (List UInt8)), (∀ p ∈ M, p.length ≤ 60) → Go.Proofs.YtmhiopkpjdnddaaDoor.tot M ≤ 60 * M.length := by
    intro M
    induction M with
    | nil => intro _; simp [Go.Proofs.YtmhiopkpjdnddaaDoor.tot]
    | cons p M ih =>
      intro hM
      have h1 := ih (fun q hq => hM q (by simp [hq]))
      have h2 := hM p (by simp)
      simp [Go.Proofs.YtmhiopkpjdnddaaDoor.tot] at h1 ⊢; omega
  have h1 := this L h.2
  have h2 := h.1
  omega

set_option maxRecDepth 20000 in
set_option maxHeartbeats 2000000 in
theorem drawNameOf_any (v : Value) (P : List Int) (w : World) (hr : ZRow .u8 w v P) (hb : Hid (∀ x ∈ P, 0 ≤ x ∧ x ≤ 255)) (hl : P.length ≤ 9223372036854775807) :
    Calls Tryd.prog 18 #[v] w fun e w' => ∃ (u : Value) (L : List (List UInt8)), (e = .returned u ∧ Row w' u L ∧ Small L) ∧ Below w.heap.size w w' := by
  obtain ⟨i0, hi, hz0, hz1, hz2⟩ := info_parts info_string
  have HCL : Hid (0 < P.length → ∀ k, v.ownBlock = some k → k < w.heap.size) := code_lt hr
  have HC0 : Hid (CurB (w.alloc (.cells #[v, .int .i64 0, .int .u64 0] 50)) w.heap.size v P 0) := new_cur hr hb.out
  obtain ⟨a, cap, rfl, hcap, hmax, _⟩ := zrow_value hr
  clear hr
  go_enter Tryd.func18, Tryd.ntmps18
  go_wp2_with fail
  refine (pick_any _ w.heap.size _ P 0 _ HC0.out (by omega) hl (by omega)).mono ?_
  rintro e w1 ⟨n0, rfl, hn0, hc1, hk1⟩
  have HC1 : Hid (CurB w1 w.heap.size (.slice a P.length cap) P 2) := hc1
  have HK1 : Hid (Kpt (w.alloc (.cells #[.slice a P.length cap, .int .i64 0, .int .u64 0] 50)) w1 (· = w.heap.size)) := hk1
  have hz1' : w.heap.size + 1 ≤ w1.heap.size := by have := hk1.size; simp at this; omega
  clear hc1 hk1 HC0
  go_wp2_with fail
  obtain ⟨m0, rfl⟩ : ∃ m : Nat, n0 = (m : Int) := Int.eq_ofNat_of_zero_le hn0.1
  have hm0 : m0 ≤ 5 := by omega
  clear hn0
  go_loopw [4, 5] (fun vv nn wr => ∃ (m : Nat) (L : List (List UInt8)) (u : Value), nn = .int .i64 (m : Int) ∧ m + L.length ≤ 6 ∧ u = vv ∧ Hid (∀ p ∈ L, p.length ≤ 60) ∧ Hid (wr.ownsRow (w.heap.size + 1) 9 1 u L.length (L.map S)) ∧ Hid (CurB wr (w.heap.size) (.slice a P.length cap) P (2 + 2 * L.length)) ∧ Hid (Kpt (w.alloc (.cells #[.slice a P.length cap, .int .i64 0, .int .u64 0] 50)) wr (fun k => k = w.heap.size ∨ w.heap.size + 1 ≤ k)) ∧ w.heap.size + 1 ≤ wr.heap.size) (fun _ nn _ => (intOf nn).toNat)
  case atStart => exact ⟨m0, [], .slice none 0 0, rfl, by simp; omega, rfl, fun p hp => by (cases hp), World.ownsRow_nil _ _ _ _, HC1.out, HK1.out.mono (fun k _ e => .inl e), hz1'⟩
  case round =>
    obtain ⟨m1, L, u, rfl, hmL, rfl, HL, HO, HC, HK, hzr⟩ := hrel
    have HNG : Hid (∀ k, u.ownBlock = some k → ¬ (k = w.heap.size)) := fun k hk e => by have := (HO.out.lt k hk).1; omega
    by_cases hm : m1 = 0
    · subst hm
      have HF : Hid (Row wr u L) := row_own HO.out
      go_wp2_with fail
      go_ret
      exact ⟨_, L, ⟨rfl, HF.out, by omega, HL.out⟩, ((kpt_alloc w _ _).trans HK.out).below (Nat.le_refl _) (fun k hk e => by omega)⟩
    · obtain ⟨m, rfl⟩ : ∃ m, m1 = m + 1 := ⟨m1 - 1, by omega⟩
      clear hm
      go_wp2_with fail
      refine (of_any _ [[97], [98, 49], [101, 120], [42], [99, 111, 109], [97, 45, 95, 98], [], [65], [97, 98, 99, 100, 101, 102, 103, 104, 105, 106, 107, 108, 109, 110, 111, 112, 113, 114, 115, 116]] w.heap.size _ P (2 + 2 * L.length) _ (alloc_cur HC.out _) (by omega) hl (lit_rowS (L := [[97], [98, 49], [101, 120], [42], [99, 111, 109], [97, 45, 95, 98], [], [65], [97, 98, 99, 100, 101, 102, 103, 104, 105, 106, 107, 108, 109, 110, 111, 112, 113, 114, 115, 116]]) (by decide)) (by decide) (lit_ne HC.out)).mono ?_
      rintro e w4 ⟨y, rfl, hmem, hc4, hk4'⟩
      have hy : y.length ≤ 60 := all_le (n := 60) (by decide) hmem
      have hk4 : Kpt wr w4 (· = w.heap.size) := (kpt_alloc wr _ _).trans hk4'
      clear hmem hk4'
      have hown := own_kpt HO.out hk4 HNG.out
      have HK4 : Hid (Kpt (w.alloc (.cells #[.slice a P.length cap, .int .i64 0, .int .u64 0] 50)) w4 (fun k => k = w.heap.size ∨ w.heap.size + 1 ≤ k)) := HK.out.trans (hk4.mono (fun k _ e => .inl e))
      have hz4 := hk4.size
      go_wp2_with (at_builtin; refine wpList_append_own _ rfl (.tmp 15) (.tmp 19) 24 rfl (w.heap.size + 1) 9 i0 (.string ByteArray.empty) 1 16 Tryd.underlying24 hi hz0 hz1 hz2 rfl (by decide) _ _ _ rfl (hown.alloc _) ⟨w4.heap.size, 0, none⟩ 1 1 [.string ⟨y.toArray⟩] rfl rfl ?c1 ?c2 ?c3 ?c4 ?c5 ?_)
      case c1 => exact cell_new_one _ _ _
      case c2 => exact one_string _
      case c3 => unfold maxLen; omega
      case c4 => omega
      case c5 => simp; omega
      intro v6 w6 hown6 hgrow6 _
      have HO6 : Hid (w6.ownsRow (w.heap.size + 1) 9 1 v6 (L ++ [y]).length ((L ++ [y]).map S)) := by
        have h : w6.ownsRow (w.heap.size + 1) 9 1 v6 (L.length + 1) (L.map S ++ [.string ⟨y.toArray⟩]) := hown6
        rw [List.length_append, List.map_append]; exact h
      have HC6 : Hid (CurB w6 (w.heap.size) (.slice a P.length cap) P (2 + 2 * (L ++ [y]).length)) := by
        have h := (alloc_cur hc4 _).kpt (grown_kpt hgrow6) (fun e => HNG.out _ e rfl) (fun h0 k hk e => by have h1 := HCL.out h0 k hk; have h2 := (hown.lt k e).1; omega)
        exact h.mono (by rw [List.length_append]; simp; omega)
      have HK6 : Hid (Kpt (w.alloc (.cells #[.slice a P.length cap, .int .i64 0, .int .u64 0] 50)) w6 (fun k => k = w.heap.size ∨ w.heap.size + 1 ≤ k)) := (HK4.out.trans (kpt_alloc w4 _ _)).trans ((grown_kpt hgrow6).mono (fun k _ e => .inr (hown.lt k e).1))
      have HL6 : Hid (∀ p ∈ L ++ [y], p.length ≤ 60) := fun p hp => by
        rcases List.mem_append.1 hp with h | h
        · exact HL.out p h
        · simp at h; subst h; exact hy
      have hz6 : w.heap.size + 1 ≤ w6.heap.size := by have h3 := hgrow6.size; simp at h3; omega
      clear hown hown6 hgrow6 hc4 hk4 hy
      go_wp2_with fail
      go_roundw
      case rel => exact ⟨m, L ++ [y], v6, by go_num, by rw [List.length_append]; simp; omega, rfl, HL6, HO6, HC6, HK6, hz6⟩
      case measure => simp [intOf]
set_option maxRecDepth 20000 in
set_option maxHeartbeats 4000000 in
theorem nameList_any (g : Nat) (v : Value) (P : List Int) (B : Nat) (w : World) (hc : CurB w g v P B) (hB : B ≤ 900000000) (hl : P.length ≤ 9223372036854775807) (HCL : Hid (0 < P.length → ∀ k, v.ownBlock = some k → k < w.heap.size)) :
    Calls Tryd.prog 52 #[.pointer (some ⟨g, 0, none⟩)] w fun e w' => ∃ (u : Value) (L : List (List UInt8)), e = .returned u ∧ w'.ownsRow w.heap.size 9 1 u L.length (L.map S) ∧ Small L ∧ CurB w' g v P (B + 3000) ∧ Kpt w w' (· = g) := by
  obtain ⟨i0, hi, hz0, hz1, hz2⟩ := info_parts info_string
  have HC0 : Hid (CurB w g v P B) := hc
  have hgl := hc.lt
  clear hc
  go_enter Tryd.func52, Tryd.ntmps52
  go_wp2_with fail
  refine (pick_any _ g _ P B _ HC0.out (by omega) hl (by omega)).mono ?_
  rintro e w1 ⟨n0, rfl, hn0, hc1, hk1⟩
  have HC1 : Hid (CurB w1 g v P (B + 2)) := hc1
  have HK1 : Hid (Kpt w w1 (· = g)) := hk1
  clear hc1 hk1
  go_wp2_with fail
  refine (one_any _ g _ P (B + 2) _ HC1.out (by omega) hl (by omega)).mono ?_
  rintro e w2 ⟨q, rfl, hc2, hk2⟩
  have HC2 : Hid (CurB w2 g v P (B + 4)) := hc2
  have HK2 : Hid (Kpt w w2 (· = g)) := HK1.out.trans hk2
  clear hc2 hk2
  cases q with
  | false =>
    go_wp2_with fail
    obtain ⟨m0, rfl⟩ : ∃ m : Nat, n0 = (m : Int) := Int.eq_ofNat_of_zero_le hn0.1
    have hm0 : m0 ≤ 61 := by omega
    clear hn0
    have hz1' := HK2.out.size
    have HC3 := HC2
    have HK3 := HK2
    go_loopw [3, 4] (fun vv nn wr => ∃ (m : Nat) (L : List (List UInt8)) (u : Value), nn = .int .i64 (m : Int) ∧ m + L.length ≤ 62 ∧ u = vv ∧ Hid (∀ p ∈ L, p.length ≤ 60) ∧ Hid (wr.ownsRow (w.heap.size) 9 1 u L.length (L.map S)) ∧ Hid (CurB wr (g) v P (B + 10 + 20 * L.length)) ∧ Hid (Kpt w wr (fun k => k = g ∨ w.heap.size ≤ k)) ∧ w.heap.size ≤ wr.heap.size) (fun _ nn _ => (intOf nn).toNat)
    case atStart => exact ⟨m0, [], .slice none 0 0, rfl, by simp; omega, rfl, fun p hp => by (cases hp), World.ownsRow_nil _ _ _ _, HC3.out.mono (by omega), HK3.out.mono (fun k _ e => .inl e), hz1'⟩
    case round =>
      obtain ⟨m1, L, u, rfl, hmL, rfl, HL, HO, HC, HK, hzr⟩ := hrel
      have HNG : Hid (∀ k, u.ownBlock = some k → ¬ (k = g)) := fun k hk e => by have := (HO.out.lt k hk).1; omega
      by_cases hm : m1 = 0
      · subst hm
        have HF : Hid (Row wr u L) := row_own HO.out
        go_wp2_with fail
        go_ret
        exact ⟨_, L, rfl, HO.out, ⟨by omega, HL.out⟩, HC.out.mono (by omega), HK.out.mono (fun k hk e => by rcases e with e | e; exact e; omega)⟩
      · obtain ⟨m, rfl⟩ : ∃ m, m1 = m + 1 := ⟨m1 - 1, by omega⟩
        clear hm
        go_wp2_with fail
        refine (name_any g _ P (B + 10 + 20 * L.length) _ HC.out (by omega) hl).mono ?_
        rintro e w4 ⟨yb, rfl, hyb, hc4, hk4⟩
        obtain ⟨y, rfl⟩ : ∃ y : List UInt8, yb = ⟨y.toArray⟩ := ⟨yb.data.toList, by simp⟩
        have hy : y.length ≤ 60 := by rw [size_of] at hyb; omega
        clear hyb
        have hown := own_kpt HO.out hk4 HNG.out
        have HK4 : Hid (Kpt w w4 (fun k => k = g ∨ w.heap.size ≤ k)) := HK.out.trans (hk4.mono (fun k _ e => .inl e))
        have hz4 := hk4.size
        go_wp2_with (at_builtin; refine wpList_append_own _ rfl (.tmp 16) (.tmp 19) 24 rfl (w.heap.size) 9 i0 (.string ByteArray.empty) 1 16 Tryd.underlying24 hi hz0 hz1 hz2 rfl (by decide) _ _ _ rfl (hown.alloc _) ⟨w4.heap.size, 0, none⟩ 1 1 [.string ⟨y.toArray⟩] rfl rfl ?c1 ?c2 ?c3 ?c4 ?c5 ?_)
        case c1 => exact cell_new_one _ _ _
        case c2 => exact one_string _
        case c3 => unfold maxLen; omega
        case c4 => omega
        case c5 => simp; omega
        intro v6 w6 hown6 hgrow6 _
        have HO6 : Hid (w6.ownsRow (w.heap.size) 9 1 v6 (L ++ [y]).length ((L ++ [y]).map S)) := by
          have h : w6.ownsRow (w.heap.size) 9 1 v6 (L.length + 1) (L.map S ++ [.string ⟨y.toArray⟩]) := hown6
          rw [List.length_append, List.map_append]; exact h
        have HC6 : Hid (CurB w6 (g) v P (B + 10 + 20 * (L ++ [y]).length)) := by
          have h := (alloc_cur hc4 _).kpt (grown_kpt hgrow6) (fun e => HNG.out _ e rfl) (fun h0 k hk e => by have h1 := HCL.out h0 k hk; have h2 := (hown.lt k e).1; omega)
          exact h.mono (by rw [List.length_append]; simp; omega)
        have HK6 : Hid (Kpt w w6 (fun k => k = g ∨ w.heap.size ≤ k)) := (HK4.out.trans (kpt_alloc w4 _ _)).trans ((grown_kpt hgrow6).mono (fun k _ e => .inr (hown.lt k e).1))
        have HL6 : Hid (∀ p ∈ L ++ [y], p.length ≤ 60) := fun p hp => by
          rcases List.mem_append.1 hp with h | h
          · exact HL.out p h
          · simp at h; subst h; exact hy
        have hz6 : w.heap.size ≤ w6.heap.size := by have h3 := hgrow6.size; simp at h3; omega
        clear hown hown6 hgrow6 hc4 hk4 hy
        go_wp2_with fail
        go_roundw
        case rel => exact ⟨m, L ++ [y], v6, by go_num, by rw [List.length_append]; simp; omega, rfl, HL6, HO6, HC6, HK6, hz6⟩
        case measure => simp [intOf]
  | true =>
    go_wp2_with fail
    refine (pick_any _ g _ P (B + 4) _ HC2.out (by omega) hl (by omega)).mono ?_
    rintro e w3 ⟨n1, rfl, hn1, hc3, hk3⟩
    have HC3 : Hid (CurB w3 g v P (B + 6)) := hc3
    have HK3 : Hid (Kpt w w3 (· = g)) := HK2.out.trans hk3
    clear hc3 hk3
    go_wp2_with fail
    obtain ⟨m0, hm0'⟩ : ∃ m : Nat, (60 + n1) = (m : Int) := Int.eq_ofNat_of_zero_le (by omega)
    rw [hm0']
    have hm0 : m0 ≤ 61 := by omega
    clear hn1 hm0'
    have hz1' := HK3.out.size
    go_loopw [3, 4] (fun vv nn wr => ∃ (m : Nat) (L : List (List UInt8)) (u : Value), nn = .int .i64 (m : Int) ∧ m + L.length ≤ 62 ∧ u = vv ∧ Hid (∀ p ∈ L, p.length ≤ 60) ∧ Hid (wr.ownsRow (w.heap.size) 9 1 u L.length (L.map S)) ∧ Hid (CurB wr (g) v P (B + 10 + 20 * L.length)) ∧ Hid (Kpt w wr (fun k => k = g ∨ w.heap.size ≤ k)) ∧ w.heap.size ≤ wr.heap.size) (fun _ nn _ => (intOf nn).toNat)
    case atStart => exact ⟨m0, [], .slice none 0 0, rfl, by simp; omega, rfl, fun p hp => by (cases hp), World.ownsRow_nil _ _ _ _, HC3.out.mono (by omega), HK3.out.mono (fun k _ e => .inl e), hz1'⟩
    case round =>
      obtain ⟨m1, L, u, rfl, hmL, rfl, HL, HO, HC, HK, hzr⟩ := hrel
      have HNG : Hid (∀ k, u.ownBlock = some k → ¬ (k = g)) := fun k hk e => by have := (HO.out.lt k hk).1; omega
      by_cases hm : m1 = 0
      · subst hm
        have HF : Hid (Row wr u L) := row_own HO.out
        go_wp2_with fail
        go_ret
        exact ⟨_, L, rfl, HO.out, ⟨by omega, HL.out⟩, HC.out.mono (by omega), HK.out.mono (fun k hk e => by rcases e with e | e; exact e; omega)⟩
      · obtain ⟨m, rfl⟩ : ∃ m, m1 = m + 1 := ⟨m1 - 1, by omega⟩
        clear hm
        go_wp2_with fail
        refine (name_any g _ P (B + 10 + 20 * L.length) _ HC.out (by omega) hl).mono ?_
        rintro e w4 ⟨yb, rfl, hyb, hc4, hk4⟩
        obtain ⟨y, rfl⟩ : ∃ y : List UInt8, yb = ⟨y.toArray⟩ := ⟨yb.data.toList, by simp⟩
        have hy : y.length ≤ 60 := by rw [size_of] at hyb; omega
        clear hyb
        have hown := own_kpt HO.out hk4 HNG.out
        have HK4 : Hid (Kpt w w4 (fun k => k = g ∨ w.heap.size ≤ k)) := HK.out.trans (hk4.mono (fun k _ e => .inl e))
        have hz4 := hk4.size
        go_wp2_with (at_builtin; refine wpList_append_own _ rfl (.tmp 16) (.tmp 19) 24 rfl (w.heap.size) 9 i0 (.string ByteArray.empty) 1 16 Tryd.underlying24 hi hz0 hz1 hz2 rfl (by decide) _ _ _ rfl (hown.alloc _) ⟨w4.heap.size, 0, none⟩ 1 1 [.string ⟨y.toArray⟩] rfl rfl ?c1 ?c2 ?c3 ?c4 ?c5 ?_)
        case c1 => exact cell_new_one _ _ _
        case c2 => exact one_string _
        case c3 => unfold maxLen; omega
        case c4 => omega
        case c5 => simp; omega
        intro v6 w6 hown6 hgrow6 _
        have HO6 : Hid (w6.ownsRow (w.heap.size) 9 1 v6 (L ++ [y]).length ((L ++ [y]).map S)) := by
          have h : w6.ownsRow (w.heap.size) 9 1 v6 (L.length + 1) (L.map S ++ [.string ⟨y.toArray⟩]) := hown6
          rw [List.length_append, List.map_append]; exact h
        have HC6 : Hid (CurB w6 (g) v P (B + 10 + 20 * (L ++ [y]).length)) := by
          have h := (alloc_cur hc4 _).kpt (grown_kpt hgrow6) (fun e => HNG.out _ e rfl) (fun h0 k hk e => by have h1 := HCL.out h0 k hk; have h2 := (hown.lt k e).1; omega)
          exact h.mono (by rw [List.length_append]; simp; omega)
        have HK6 : Hid (Kpt w w6 (fun k => k = g ∨ w.heap.size ≤ k)) := (HK4.out.trans (kpt_alloc w4 _ _)).trans ((grown_kpt hgrow6).mono (fun k _ e => .inr (hown.lt k e).1))
        have HL6 : Hid (∀ p ∈ L ++ [y], p.length ≤ 60) := fun p hp => by
          rcases List.mem_append.1 hp with h | h
          · exact HL.out p h
          · simp at h; subst h; exact hy
        have hz6 : w.heap.size ≤ w6.heap.size := by have h3 := hgrow6.size; simp at h3; omega
        clear hown hown6 hgrow6 hc4 hk4 hy
        go_wp2_with fail
        go_roundw
        case rel => exact ⟨m, L ++ [y], v6, by go_num, by rw [List.length_append]; simp; omega, rfl, HL6, HO6, HC6, HK6, hz6⟩
        case measure => simp [intOf]
set_option maxRecDepth 20000 in
set_option maxHeartbeats 1000000 in
theorem drawSortNames_any (v : Value) (P : List Int) (w : World) (hr : ZRow .u8 w v P) (hb : Hid (∀ x ∈ P, 0 ≤ x ∧ x ≤ 255)) (hl : P.length ≤ 9223372036854775807) :
    Calls Tryd.prog 26 #[v] w fun e w' => ∃ (u : Value) (L : List (List UInt8)), (e = .returned u ∧ Row w' u L ∧ Small L) ∧ Below w.heap.size w w' := by
  have HCL : Hid (0 < P.length → ∀ k, v.ownBlock = some k → k < (w.alloc (.cells #[v, .int .i64 0, .int .u64 0] 50)).heap.size) := fun h0 k hk => by have := code_lt hr h0 k hk; simp; omega
  have HC0 : Hid (CurB (w.alloc (.cells #[v, .int .i64 0, .int .u64 0] 50)) w.heap.size v P 0) := new_cur hr hb.out
  obtain ⟨a, cap, rfl, hcap, hmax, _⟩ := zrow_value hr
  clear hr
  go_enter Tryd.func26, Tryd.ntmps26
  go_wp2_with fail
  refine (nameList_any w.heap.size _ P 0 _ HC0.out (by omega) hl HCL).mono ?_
  rintro e w1 ⟨u, L, rfl, ho, hs, hc, hk⟩
  have HF : Hid (Row w1 u L) := row_own ho
  clear ho
  go_wp2_with fail
  go_ret
  exact ⟨_, L, ⟨rfl, HF.out, hs⟩, cur_below hk⟩
end Go.Proofs.YtmhiopkpjdnddaaDoor
