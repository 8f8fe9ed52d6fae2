import Derived.Test.YtgccbkoklhohfaaDoorZ12
import Derived.Test.YtgccbkoklhohfaaDoorZ13
import Derived.OwnWalk
namespace Go.Proofs.YtgccbkoklhohfaaDoor
open Go.RowKit

theorem parentL_le : ∀ l : List UInt8, (parentL l).length ≤ l.length
  | [] => Nat.le_refl _
  | c :: l => by
    unfold parentL
    split
    · simp
    · have := parentL_le l; simp; omega
theorem new_cur {w : World} {v : Value} {P : List Int} (hr : ZRow .u8 w v P) (hb : ∀ x ∈ P, 0 ≤ x ∧ x ≤ 255) :
    CurB (w.alloc (.cells #[v, .int .i64 0, .int .u64 0] 55)) w.heap.size v P 0 := by
  refine ⟨0, Nat.le_refl _, ⟨0, by omega, (MapKept.heap_alloc w _).1⟩, hr.kpt (kpt_alloc w _ (fun _ => False)) (fun _ _ _ => id), fun h0 e => ?_, hb⟩
  obtain ⟨a, cap, rfl, _, _, h⟩ := hr
  rcases h with h | ⟨b, o, rfl, hlt, _⟩
  · rw [h] at h0; simp at h0
  · have e2 : b = w.heap.size := Option.some.inj e
    omega
theorem cur_below {w w' : World} {o : Obj} (hk : Kpt (w.alloc o) w' (· = w.heap.size)) : Below w.heap.size w w' :=
  ((kpt_alloc w o (· = w.heap.size)).trans hk).below (Nat.le_refl _) (fun k hk e => by omega)
theorem code_lt {w : World} {v : Value} {P : List Int} (hr : ZRow .u8 w v P) (h0 : 0 < P.length) (k : Nat) (hk : v.ownBlock = some k) : k < w.heap.size := by
  obtain ⟨a, cap, rfl, _, _, h⟩ := hr
  rcases h with h | ⟨b, o, rfl, hlt, _⟩
  · rw [h] at h0; simp at h0
  · cases hk; exact hlt

set_option maxRecDepth 20000 in
set_option maxHeartbeats 1000000 in
theorem drawGoodName_any (v : Value) (P : List Int) (w : World) (hr : ZRow .u8 w v P) (hb : Hid (∀ x ∈ P, 0 ≤ x ∧ x ≤ 255)) (hl : P.length ≤ 9223372036854775807) :
    Calls Tryd.prog 40 #[v] w fun e w' => ∃ s : ByteArray, (e = .returned (.string s) ∧ s.size ≤ 30) ∧ Below w.heap.size w w' := by
  have HC0 : Hid (CurB (w.alloc (.cells #[v, .int .i64 0, .int .u64 0] 55)) w.heap.size v P 0) := new_cur hr hb.out
  obtain ⟨a, cap, rfl, hcap, hmax, _⟩ := zrow_value hr
  clear hr
  go_enter Tryd.func40, Tryd.ntmps40
  go_wp2_with fail
  refine (name_any w.heap.size _ P 0 _ HC0.out (by omega) hl).mono ?_
  rintro e w1 ⟨s, rfl, hs, hc, hk⟩
  go_wp2_with fail
  go_ret
  exact ⟨s, ⟨rfl, hs⟩, cur_below hk⟩
set_option maxRecDepth 20000 in
set_option maxHeartbeats 1000000 in
theorem drawLabelsOf_any (v : Value) (P : List Int) (w : World) (hr : ZRow .u8 w v P) (hb : Hid (∀ x ∈ P, 0 ≤ x ∧ x ≤ 255)) (hl : P.length ≤ 9223372036854775807) :
    Calls Tryd.prog 7 #[v] w fun e w' => ∃ s : ByteArray, (e = .returned (.string s) ∧ s.size ≤ 30) ∧ Below w.heap.size w w' := by
  have HR : Hid (ZRow .u8 w v P) := hr
  obtain ⟨a, cap, rfl, hcap, hmax, _⟩ := zrow_value hr
  clear hr
  go_enter Tryd.func7, Tryd.ntmps7
  go_wp2_with fail
  refine (drawGoodName_any _ P _ HR.out hb hl).mono ?_
  rintro e w1 ⟨s, ⟨rfl, hs⟩, hb1⟩
  go_wp2_with fail
  go_ret
  exact ⟨s, ⟨rfl, hs⟩, hb1⟩
set_option maxRecDepth 20000 in
set_option maxHeartbeats 1000000 in
theorem drawFoldName_any (v : Value) (P : List Int) (w : World) (hr : ZRow .u8 w v P) (hb : Hid (∀ x ∈ P, 0 ≤ x ∧ x ≤ 255)) (hl : P.length ≤ 9223372036854775807) :
    Calls Tryd.prog 20 #[v] w fun e w' => ∃ s : ByteArray, (e = .returned (.string s) ∧ s.size ≤ 30) ∧ Below w.heap.size w w' := by
  have HC0 : Hid (CurB (w.alloc (.cells #[v, .int .i64 0, .int .u64 0] 55)) w.heap.size v P 0) := new_cur hr hb.out
  obtain ⟨a, cap, rfl, hcap, hmax, _⟩ := zrow_value hr
  clear hr
  go_enter Tryd.func20, Tryd.ntmps20
  go_wp2_with fail
  have hsz : w.heap.size + 1 = (w.alloc (.cells #[.slice a P.length cap, .int .i64 0, .int .u64 0] 55)).heap.size := by simp
  have HB0 : Hid (∀ w' o, Kpt ((w.alloc (.cells #[.slice a P.length cap, .int .i64 0, .int .u64 0] 55)).alloc o) w' (· = w.heap.size) → Below w.heap.size w w') := fun w' o hk => cur_below ((kpt_alloc _ _ _).trans hk)
  obtain ⟨W, hW⟩ : ∃ W, W = w.alloc (.cells #[.slice a P.length cap, .int .i64 0, .int .u64 0] 55) := ⟨_, rfl⟩
  rw [← hW] at HC0 hsz HB0
  rw [← hW, hsz]
  clear hW
  refine (of_any _ [[87, 119, 87, 46, 69, 120, 46, 67, 79, 77], [97, 46, 66], [], [65, 95], [195, 169], [65, 46, 46, 66], [42, 46, 69, 88], [97, 66, 49, 45]] w.heap.size _ P 0 _ (alloc_cur HC0.out _) (by omega) hl (lit_rowS (L := [[87, 119, 87, 46, 69, 120, 46, 67, 79, 77], [97, 46, 66], [], [65, 95], [195, 169], [65, 46, 46, 66], [42, 46, 69, 88], [97, 66, 49, 45]]) (by decide)) (by decide) (lit_ne HC0.out)).mono ?_
  rintro e w1 ⟨y, rfl, hm, hc, hk⟩
  have hz : (⟨y.toArray⟩ : ByteArray).size ≤ 21 := by rw [size_of]; exact all_le (n := 21) (by decide) hm
  go_wp2_with fail
  go_ret
  exact ⟨_, ⟨rfl, by omega⟩, HB0.out _ _ hk⟩
set_option maxRecDepth 20000 in
set_option maxHeartbeats 1000000 in
theorem drawIsBelow_any (v : Value) (P : List Int) (w : World) (hr : ZRow .u8 w v P) (hb : Hid (∀ x ∈ P, 0 ≤ x ∧ x ≤ 255)) (hl : P.length ≤ 9223372036854775807) :
    Calls Tryd.prog 55 #[v] w fun e w' => ∃ s t : ByteArray, (e = .returned (.tuple #[.string s, .string t]) ∧ s.size ≤ 30 ∧ t.size ≤ 30) ∧ Below w.heap.size w w' := by
  have HC0 : Hid (CurB (w.alloc (.cells #[v, .int .i64 0, .int .u64 0] 55)) w.heap.size v P 0) := new_cur hr hb.out
  obtain ⟨a, cap, rfl, hcap, hmax, _⟩ := zrow_value hr
  clear hr
  go_enter Tryd.func55, Tryd.ntmps55
  go_wp2_with fail
  refine (name_any w.heap.size _ P 0 _ HC0.out (by omega) hl).mono ?_
  rintro e w1 ⟨s, rfl, hs, hc1, hk1⟩
  go_wp2_with fail
  refine (one_any _ w.heap.size _ P 20 _ hc1 (by omega) hl (by omega)).mono ?_
  rintro e w2 ⟨q, rfl, hc2, hk2⟩
  cases q with
  | true =>
    go_wp2_with fail
    refine (l1Parent_any s _ (by omega)).mono ?_
    rintro e w3 ⟨rfl, rfl⟩
    have hp : (⟨(parentL s.data.toList).toArray⟩ : ByteArray).size ≤ 30 := by
      rw [size_of]
      have h := parentL_le s.data.toList
      rw [show s.data.toList.length = s.size by simp] at h
      omega
    go_wp2_with fail
    go_ret2
    exact ⟨_, _, ⟨rfl, hs, hp⟩, cur_below (hk1.trans hk2)⟩
  | false =>
    go_wp2_with fail
    refine (name_any w.heap.size _ P 22 _ hc2 (by omega) hl).mono ?_
    rintro e w3 ⟨s2, rfl, hs2, hc3, hk3⟩
    go_wp2_with fail
    go_ret2
    exact ⟨_, _, ⟨rfl, hs, hs2⟩, cur_below ((hk1.trans hk2).trans hk3)⟩
set_option maxRecDepth 20000 in
set_option maxHeartbeats 1000000 in
theorem drawCompareNames_any (v : Value) (P : List Int) (w : World) (hr : ZRow .u8 w v P) (hb : Hid (∀ x ∈ P, 0 ≤ x ∧ x ≤ 255)) (hl : P.length ≤ 9223372036854775807) :
    Calls Tryd.prog 23 #[v] w fun e w' => ∃ s t : ByteArray, (e = .returned (.tuple #[.string s, .string t]) ∧ s.size ≤ 30 ∧ t.size ≤ 30) ∧ Below w.heap.size w w' := by
  have HR : Hid (ZRow .u8 w v P) := hr
  obtain ⟨a, cap, rfl, hcap, hmax, _⟩ := zrow_value hr
  clear hr
  go_enter Tryd.func23, Tryd.ntmps23
  go_wp2_with fail
  refine (drawIsBelow_any _ P _ HR.out hb hl).mono ?_
  rintro e w1 ⟨s, t, ⟨rfl, hs, ht⟩, hb1⟩
  go_wp2_with fail
  go_ret2
  exact ⟨s, t, ⟨rfl, hs, ht⟩, hb1⟩
set_option maxRecDepth 20000 in
set_option maxHeartbeats 1000000 in
theorem drawCommonOf_any (v : Value) (P : List Int) (w : World) (hr : ZRow .u8 w v P) (hb : Hid (∀ x ∈ P, 0 ≤ x ∧ x ≤ 255)) (hl : P.length ≤ 9223372036854775807) :
    Calls Tryd.prog 29 #[v] w fun e w' => ∃ s t : ByteArray, (e = .returned (.tuple #[.string s, .string t]) ∧ s.size ≤ 30 ∧ t.size ≤ 30) ∧ Below w.heap.size w w' := by
  have HR : Hid (ZRow .u8 w v P) := hr
  obtain ⟨a, cap, rfl, hcap, hmax, _⟩ := zrow_value hr
  clear hr
  go_enter Tryd.func29, Tryd.ntmps29
  go_wp2_with fail
  refine (drawIsBelow_any _ P _ HR.out hb hl).mono ?_
  rintro e w1 ⟨s, t, ⟨rfl, hs, ht⟩, hb1⟩
  go_wp2_with fail
  go_ret2
  exact ⟨s, t, ⟨rfl, hs, ht⟩, hb1⟩
end Go.Proofs.YtgccbkoklhohfaaDoor

namespace Go.Proofs.YtgccbkoklhohfaaDoor
open Go.RowKit

/-- Texts that are drawn are short. -/
def Small (L : List (List UInt8)) : Prop := L.length ≤ 100 ∧ ∀ p ∈ L, p.length ≤ 60
theorem Small.tot {L : List (List UInt8)} (h : Small L) : tot L ≤ 6000 := by
  have : ∀ (M : List (List UInt8)), (∀ p ∈ M, p.length ≤ 60) → Go.Proofs.YtgccbkoklhohfaaDoor.tot M ≤ 60 * M.length := by
    intro M
    induction M with
    | nil => intro _; simp [Go.Proofs.YtgccbkoklhohfaaDoor.tot]
    | cons p M ih =>
      intro hM
      have h1 := ih (fun q hq => hM q (by simp [hq]))
      have h2 := hM p (by simp)
      simp [Go.Proofs.YtgccbkoklhohfaaDoor.tot] at h1 ⊢; omega
  have h1 := this L h.2
  have h2 := h.1
  omega

set_option maxRecDepth 20000 in
set_option maxHeartbeats 2000000 in
theorem drawNameOf_any (v : Value) (P : List Int) (w : World) (hr : ZRow .u8 w v P) (hb : Hid (∀ x ∈ P, 0 ≤ x ∧ x ≤ 255)) (hl : P.length ≤ 9223372036854775807) :
    Calls Tryd.prog 18 #[v] w fun e w' => ∃ (u : Value) (L : List (List UInt8)), (e = .returned u ∧ Row w' u L ∧ Small L) ∧ Below w.heap.size w w' := by
  obtain ⟨i0, hi, hz0, hz1, hz2⟩ := info_parts info_string
  have HCL : Hid (0 < P.length → ∀ k, v.ownBlock = some k → k < w.heap.size) := code_lt hr
  have HC0 : Hid (CurB (w.alloc (.cells #[v, .int .i64 0, .int .u64 0] 55)) w.heap.size v P 0) := new_cur hr hb.out
  obtain ⟨a, cap, rfl, hcap, hmax, _⟩ := zrow_value hr
  clear hr
  go_enter Tryd.func18, Tryd.ntmps18
  go_wp2_with fail
  refine (pick_any _ w.heap.size _ P 0 _ HC0.out (by omega) hl (by omega)).mono ?_
  rintro e w1 ⟨n0, rfl, hn0, hc1, hk1⟩
  have HC1 : Hid (CurB w1 w.heap.size (.slice a P.length cap) P 2) := hc1
  have HK1 : Hid (Kpt (w.alloc (.cells #[.slice a P.length cap, .int .i64 0, .int .u64 0] 55)) w1 (· = w.heap.size)) := hk1
  have hz1' : w.heap.size + 1 ≤ w1.heap.size := by have := hk1.size; simp at this; omega
  clear hc1 hk1 HC0
  go_wp2_with fail
  obtain ⟨m0, rfl⟩ : ∃ m : Nat, n0 = (m : Int) := Int.eq_ofNat_of_zero_le hn0.1
  have hm0 : m0 ≤ 5 := by omega
  clear hn0
  go_loopw [4, 5] (fun vv nn wr => ∃ (m : Nat) (L : List (List UInt8)) (u : Value), nn = .int .i64 (m : Int) ∧ m + L.length ≤ 6 ∧ u = vv ∧ Hid (∀ p ∈ L, p.length ≤ 60) ∧ Hid (wr.ownsRow (w.heap.size + 1) 9 1 u L.length (L.map S)) ∧ Hid (CurB wr (w.heap.size) (.slice a P.length cap) P (2 + 2 * L.length)) ∧ Hid (Kpt (w.alloc (.cells #[.slice a P.length cap, .int .i64 0, .int .u64 0] 55)) wr (fun k => k = w.heap.size ∨ w.heap.size + 1 ≤ k)) ∧ w.heap.size + 1 ≤ wr.heap.size) (fun _ nn _ => (intOf nn).toNat)
  case atStart => exact ⟨m0, [], .slice none 0 0, rfl, by simp; omega, rfl, fun p hp => by (cases hp), World.ownsRow_nil _ _ _ _, HC1.out, HK1.out.mono (fun k _ e => .inl e), hz1'⟩
  case round =>
    obtain ⟨m1, L, u, rfl, hmL, rfl, HL, HO, HC, HK, hzr⟩ := hrel
    have HNG : Hid (∀ k, u.ownBlock = some k → ¬ (k = w.heap.size)) := fun k hk e => by have := (HO.out.lt k hk).1; omega
    by_cases hm : m1 = 0
    · subst hm
      have HF : Hid (Row wr u L) := row_own HO.out
      go_wp2_with fail
      go_ret
      exact ⟨_, L, ⟨rfl, HF.out, by omega, HL.out⟩, ((kpt_alloc w _ _).trans HK.out).below (Nat.le_refl _) (fun k hk e => by omega)⟩
    · obtain ⟨m, rfl⟩ : ∃ m, m1 = m + 1 := ⟨m1 - 1, by omega⟩
      clear hm
      go_wp2_with fail
      refine (of_any _ [[97], [98, 49], [101, 120], [42], [99, 111, 109], [97, 45, 95, 98], [], [65], [97, 98, 99, 100, 101, 102, 103, 104, 105, 106, 107, 108, 109, 110, 111, 112, 113, 114, 115, 116]] w.heap.size _ P (2 + 2 * L.length) _ (alloc_cur HC.out _) (by omega) hl (lit_rowS (L := [[97], [98, 49], [101, 120], [42], [99, 111, 109], [97, 45, 95, 98], [], [65], [97, 98, 99, 100, 101, 102, 103, 104, 105, 106, 107, 108, 109, 110, 111, 112, 113, 114, 115, 116]]) (by decide)) (by decide) (lit_ne HC.out)).mono ?_
      rintro e w4 ⟨y, rfl, hmem, hc4, hk4'⟩
      have hy : y.length ≤ 60 := all_le (n := 60) (by decide) hmem
      have hk4 : Kpt wr w4 (· = w.heap.size) := (kpt_alloc wr _ _).trans hk4'
      clear hmem hk4'
      have hown := own_kpt HO.out hk4 HNG.out
      have HK4 : Hid (Kpt (w.alloc (.cells #[.slice a P.length cap, .int .i64 0, .int .u64 0] 55)) w4 (fun k => k = w.heap.size ∨ w.heap.size + 1 ≤ k)) := HK.out.trans (hk4.mono (fun k _ e => .inl e))
      have hz4 := hk4.size
      go_wp2_with (at_builtin; refine wpList_append_own _ rfl (.tmp 15) (.tmp 19) 24 rfl (w.heap.size + 1) 9 i0 (.string ByteArray.empty) 1 16 Tryd.underlying24 hi hz0 hz1 hz2 rfl (by decide) _ _ _ rfl (hown.alloc _) ⟨w4.heap.size, 0, none⟩ 1 1 [.string ⟨y.toArray⟩] rfl rfl ?c1 ?c2 ?c3 ?c4 ?c5 ?_)
      case c1 => exact cell_new_one _ _ _
      case c2 => exact one_string _
      case c3 => unfold maxLen; omega
      case c4 => omega
      case c5 => simp; omega
      intro v6 w6 hown6 hgrow6 _
      have HO6 : Hid (w6.ownsRow (w.heap.size + 1) 9 1 v6 (L ++ [y]).length ((L ++ [y]).map S)) := by
        have h : w6.ownsRow (w.heap.size + 1) 9 1 v6 (L.length + 1) (L.map S ++ [.string ⟨y.toArray⟩]) := hown6
        rw [List.length_append, List.map_append]; exact h
      have HC6 : Hid (CurB w6 (w.heap.size) (.slice a P.length cap) P (2 + 2 * (L ++ [y]).length)) := by
        have h := (alloc_cur hc4 _).kpt (grown_kpt hgrow6) (fun e => HNG.out _ e rfl) (fun h0 k hk e => by have h1 := HCL.out h0 k hk; have h2 := (hown.lt k e).1; omega)
        exact h.mono (by rw [List.length_append]; simp; omega)
      have HK6 : Hid (Kpt (w.alloc (.cells #[.slice a P.length cap, .int .i64 0, .int .u64 0] 55)) w6 (fun k => k = w.heap.size ∨ w.heap.size + 1 ≤ k)) := (HK4.out.trans (kpt_alloc w4 _ _)).trans ((grown_kpt hgrow6).mono (fun k _ e => .inr (hown.lt k e).1))
      have HL6 : Hid (∀ p ∈ L ++ [y], p.length ≤ 60) := fun p hp => by
        rcases List.mem_append.1 hp with h | h
        · exact HL.out p h
        · simp at h; subst h; exact hy
      have hz6 : w.heap.size + 1 ≤ w6.heap.size := by have h3 := hgrow6.size; simp at h3; omega
      clear hown hown6 hgrow6 hc4 hk4 hy
      go_wp2_with fail
      go_roundw
      case rel => exact ⟨m, L ++ [y], v6, by go_num, by rw [List.length_append]; simp; omega, rfl, HL6, HO6, HC6, HK6, hz6⟩
      case measure => simp [intOf]
set_option maxRecDepth 20000 in
set_option maxHeartbeats 4000000 in
theorem nameList_any (g : Nat) (v : Value) (P : List Int) (B : Nat) (w : World) (hc : CurB w g v P B) (hB : B ≤ 900000000) (hl : P.length ≤ 9223372036854775807) (HCL : Hid (0 < P.length → ∀ k, v.ownBlock = some k → k < w.heap.size)) :
    Calls Tryd.prog 59 #[.pointer (some ⟨g, 0, none⟩)] w fun e w' => ∃ (u : Value) (L : List (List UInt8)), e = .returned u ∧ w'.ownsRow w.heap.size 9 1 u L.length (L.map S) ∧ Small L ∧ CurB w' g v P (B + 3000) ∧ Kpt w w' (· = g) := by
  obtain ⟨i0, hi, hz0, hz1, hz2⟩ := info_parts info_string
  have HC0 : Hid (CurB w g v P B) := hc
  have hgl := hc.lt
  clear hc
  go_enter Tryd.func59, Tryd.ntmps59
  go_wp2_with fail
  refine (pick_any _ g _ P B _ HC0.out (by omega) hl (by omega)).mono ?_
  rintro e w1 ⟨n0, rfl, hn0, hc1, hk1⟩
  have HC1 : Hid (CurB w1 g v P (B + 2)) := hc1
  have HK1 : Hid (Kpt w w1 (· = g)) := hk1
  clear hc1 hk1
  go_wp2_with fail
  refine (one_any _ g _ P (B + 2) _ HC1.out (by omega) hl (by omega)).mono ?_
  rintro e w2 ⟨q, rfl, hc2, hk2⟩
  have HC2 : Hid (CurB w2 g v P (B + 4)) := hc2
  have HK2 : Hid (Kpt w w2 (· = g)) := HK1.out.trans hk2
  clear hc2 hk2
  cases q with
  | false =>
    go_wp2_with fail
    obtain ⟨m0, rfl⟩ : ∃ m : Nat, n0 = (m : Int) := Int.eq_ofNat_of_zero_le hn0.1
    have hm0 : m0 ≤ 61 := by omega
    clear hn0
    have hz1' := HK2.out.size
    have HC3 := HC2
    have HK3 := HK2
    go_loopw [3, 4] (fun vv nn wr => ∃ (m : Nat) (L : List (List UInt8)) (u : Value), nn = .int .i64 (m : Int) ∧ m + L.length ≤ 62 ∧ u = vv ∧ Hid (∀ p ∈ L, p.length ≤ 60) ∧ Hid (wr.ownsRow (w.heap.size) 9 1 u L.length (L.map S)) ∧ Hid (CurB wr (g) v P (B + 10 + 20 * L.length)) ∧ Hid (Kpt w wr (fun k => k = g ∨ w.heap.size ≤ k)) ∧ w.heap.size ≤ wr.heap.size) (fun _ nn _ => (intOf nn).toNat)
    case atStart => exact ⟨m0, [], .slice none 0 0, rfl, by simp; omega, rfl, fun p hp => by (cases hp), World.ownsRow_nil _ _ _ _, HC3.out.mono (by omega), HK3.out.mono (fun k _ e => .inl e), hz1'⟩
    case round =>
      obtain ⟨m1, L, u, rfl, hmL, rfl, HL, HO, HC, HK, hzr⟩ := hrel
      have HNG : Hid (∀ k, u.ownBlock = some k → ¬ (k = g)) := fun k hk e => by have := (HO.out.lt k hk).1; omega
      by_cases hm : m1 = 0
      · subst hm
        have HF : Hid (Row wr u L) := row_own HO.out
        go_wp2_with fail
        go_ret
        exact ⟨_, L, rfl, HO.out, ⟨by omega, HL.out⟩, HC.out.mono (by omega), HK.out.mono (fun k hk e => by rcases e with e | e; exact e; omega)⟩
      · obtain ⟨m, rfl⟩ : ∃ m, m1 = m + 1 := ⟨m1 - 1, by omega⟩
        clear hm
        go_wp2_with fail
        refine (name_any g _ P (B + 10 + 20 * L.length) _ HC.out (by omega) hl).mono ?_
        rintro e w4 ⟨yb, rfl, hyb, hc4, hk4⟩
        obtain ⟨y, rfl⟩ : ∃ y : List UInt8, yb = ⟨y.toArray⟩ := ⟨yb.data.toList, by simp⟩
        have hy : y.length ≤ 60 := by rw [size_of] at hyb; omega
        clear hyb
        have hown := own_kpt HO.out hk4 HNG.out
        have HK4 : Hid (Kpt w w4 (fun k => k = g ∨ w.heap.size ≤ k)) := HK.out.trans (hk4.mono (fun k _ e => .inl e))
        have hz4 := hk4.size
        go_wp2_with (at_builtin; refine wpList_append_own _ rfl (.tmp 16) (.tmp 19) 24 rfl (w.heap.size) 9 i0 (.string ByteArray.empty) 1 16 Tryd.underlying24 hi hz0 hz1 hz2 rfl (by decide) _ _ _ rfl (hown.alloc _) ⟨w4.heap.size, 0, none⟩ 1 1 [.string ⟨y.toArray⟩] rfl rfl ?c1 ?c2 ?c3 ?c4 ?c5 ?_)
        case c1 => exact cell_new_one _ _ _
        case c2 => exact one_string _
        case c3 => unfold maxLen; omega
        case c4 => omega
        case c5 => simp; omega
        intro v6 w6 hown6 hgrow6 _
        have HO6 : Hid (w6.ownsRow (w.heap.size) 9 1 v6 (L ++ [y]).length ((L ++ [y]).map S)) := by
          have h : w6.ownsRow (w.heap.size) 9 1 v6 (L.length + 1) (L.map S ++ [.string ⟨y.toArray⟩]) := hown6
          rw [List.length_append, List.map_append]; exact h
        have HC6 : Hid (CurB w6 (g) v P (B + 10 + 20 * (L ++ [y]).length)) := by
          have h := (alloc_cur hc4 _).kpt (grown_kpt hgrow6) (fun e => HNG.out _ e rfl) (fun h0 k hk e => by have h1 := HCL.out h0 k hk; have h2 := (hown.lt k e).1; omega)
          exact h.mono (by rw [List.length_append]; simp; omega)
        have HK6 : Hid (Kpt w w6 (fun k => k = g ∨ w.heap.size ≤ k)) := (HK4.out.trans (kpt_alloc w4 _ _)).trans ((grown_kpt hgrow6).mono (fun k _ e => .inr (hown.lt k e).1))
        have HL6 : Hid (∀ p ∈ L ++ [y], p.length ≤ 60) := fun p hp => by
          rcases List.mem_append.1 hp with h | h
          · exact HL.out p h
          · simp at h; subst h; exact hy
        have hz6 : w.heap.size ≤ w6.heap.size := by have h3 := hgrow6.size; simp at h3; omega
        clear hown hown6 hgrow6 hc4 hk4 hy
        go_wp2_with fail
        go_roundw
        case rel => exact ⟨m, L ++ [y], v6, by go_num, by rw [List.length_append]; simp; omega, rfl, HL6, HO6, HC6, HK6, hz6⟩
        case measure => simp [intOf]
  | true =>
    go_wp2_with fail
    refine (pick_any _ g _ P (B + 4) _ HC2.out (by omega) hl (by omega)).mono ?_
    rintro e w3 ⟨n1, rfl, hn1, hc3, hk3⟩
    have HC3 : Hid (CurB w3 g v P (B + 6)) := hc3
    have HK3 : Hid (Kpt w w3 (· = g)) := HK2.out.trans hk3
    clear hc3 hk3
    go_wp2_with fail
    obtain ⟨m0, hm0'⟩ : ∃ m : Nat, (60 + n1) = (m : Int) := Int.eq_ofNat_of_zero_le (by omega)
    rw [hm0']
    have hm0 : m0 ≤ 61 := by omega
    clear hn1 hm0'
    have hz1' := HK3.out.size
    go_loopw [3, 4] (fun vv nn wr => ∃ (m : Nat) (L : List (List UInt8)) (u : Value), nn = .int .i64 (m : Int) ∧ m + L.length ≤ 62 ∧ u = vv ∧ Hid (∀ p ∈ L, p.length ≤ 60) ∧ Hid (wr.ownsRow (w.heap.size) 9 1 u L.length (L.map S)) ∧ Hid (CurB wr (g) v P (B + 10 + 20 * L.length)) ∧ Hid (Kpt w wr (fun k => k = g ∨ w.heap.size ≤ k)) ∧ w.heap.size ≤ wr.heap.size) (fun _ nn _ => (intOf nn).toNat)
    case atStart => exact ⟨m0, [], .slice none 0 0, rfl, by simp; omega, rfl, fun p hp => by (cases hp), World.ownsRow_nil _ _ _ _, HC3.out.mono (by omega), HK3.out.mono (fun k _ e => .inl e), hz1'⟩
    case round =>
      obtain ⟨m1, L, u, rfl, hmL, rfl, HL, HO, HC, HK, hzr⟩ := hrel
      have HNG : Hid (∀ k, u.ownBlock = some k → ¬ (k = g)) := fun k hk e => by have := (HO.out.lt k hk).1; omega
      by_cases hm : m1 = 0
      · subst hm
        have HF : Hid (Row wr u L) := row_own HO.out
        go_wp2_with fail
        go_ret
        exact ⟨_, L, rfl, HO.out, ⟨by omega, HL.out⟩, HC.out.mono (by omega), HK.out.mono (fun k hk e => by rcases e with e | e; exact e; omega)⟩
      · obtain ⟨m, rfl⟩ : ∃ m, m1 = m + 1 := ⟨m1 - 1, by omega⟩
        clear hm
        go_wp2_with fail
        refine (name_any g _ P (B + 10 + 20 * L.length) _ HC.out (by omega) hl).mono ?_
        rintro e w4 ⟨yb, rfl, hyb, hc4, hk4⟩
        obtain ⟨y, rfl⟩ : ∃ y : List UInt8, yb = ⟨y.toArray⟩ := ⟨yb.data.toList, by simp⟩
        have hy : y.length ≤ 60 := by rw [size_of] at hyb; omega
        clear hyb
        have hown := own_kpt HO.out hk4 HNG.out
        have HK4 : Hid (Kpt w w4 (fun k => k = g ∨ w.heap.size ≤ k)) := HK.out.trans (hk4.mono (fun k _ e => .inl e))
        have hz4 := hk4.size
        go_wp2_with (at_builtin; refine wpList_append_own _ rfl (.tmp 16) (.tmp 19) 24 rfl (w.heap.size) 9 i0 (.string ByteArray.empty) 1 16 Tryd.underlying24 hi hz0 hz1 hz2 rfl (by decide) _ _ _ rfl (hown.alloc _) ⟨w4.heap.size, 0, none⟩ 1 1 [.string ⟨y.toArray⟩] rfl rfl ?c1 ?c2 ?c3 ?c4 ?c5 ?_)
        case c1 => exact cell_new_one _ _ _
        case c2 => exact one_string _
        case c3 => unfold maxLen; omega
        case c4 => omega
        case c5 => simp; omega
        intro v6 w6 hown6 hgrow6 _
        have HO6 : Hid (w6.ownsRow (w.heap.size) 9 1 v6 (L ++ [y]).length ((L ++ [y]).map S)) := by
          have h : w6.ownsRow (w.heap.size) 9 1 v6 (L.length + 1) (L.map S ++ [.string ⟨y.toArray⟩]) := hown6
          rw [List.length_append, List.map_append]; exact h
        have HC6 : Hid (CurB w6 (g) v P (B + 10 + 20 * (L ++ [y]).length)) := by
          have h := (alloc_cur hc4 _).kpt (grown_kpt hgrow6) (fun e => HNG.out _ e rfl) (fun h0 k hk e => by have h1 := HCL.out h0 k hk; have h2 := (hown.lt k e).1; omega)
          exact h.mono (by rw [List.length_append]; simp; omega)
        have HK6 : Hid (Kpt w w6 (fun k => k = g ∨ w.heap.size ≤ k)) := (HK4.out.trans (kpt_alloc w4 _ _)).trans ((grown_kpt hgrow6).mono (fun k _ e => .inr (hown.lt k e).1))
        have HL6 : Hid (∀ p ∈ L ++ [y], p.length ≤ 60) := fun p hp => by
          rcases List.mem_append.1 hp with h | h
          · exact HL.out p h
          · simp at h; subst h; exact hy
        have hz6 : w.heap.size ≤ w6.heap.size := by have h3 := hgrow6.size; simp at h3; omega
        clear hown hown6 hgrow6 hc4 hk4 hy
        go_wp2_with fail
        go_roundw
        case rel => exact ⟨m, L ++ [y], v6, by go_num, by rw [List.length_append]; simp; omega, rfl, HL6, HO6, HC6, HK6, hz6⟩
        case measure => simp [intOf]
set_option maxRecDepth 20000 in
set_option maxHeartbeats 1000000 in
theorem drawSortNames_any (v : Value) (P : List Int) (w : World) (hr : ZRow .u8 w v P) (hb : Hid (∀ x ∈ P, 0 ≤ x ∧ x ≤ 255)) (hl : P.length ≤ 9223372036854775807) :
    Calls Tryd.prog 26 #[v] w fun e w' => ∃ (u : Value) (L : List (List UInt8)), (e = .returned u ∧ Row w' u L ∧ Small L) ∧ Below w.heap.size w w' := by
  have HCL : Hid (0 < P.length → ∀ k, v.ownBlock = some k → k < (w.alloc (.cells #[v, .int .i64 0, .int .u64 0] 55)).heap.size) := fun h0 k hk => by have := code_lt hr h0 k hk; simp; omega
  have HC0 : Hid (CurB (w.alloc (.cells #[v, .int .i64 0, .int .u64 0] 55)) w.heap.size v P 0) := new_cur hr hb.out
  obtain ⟨a, cap, rfl, hcap, hmax, _⟩ := zrow_value hr
  clear hr
  go_enter Tryd.func26, Tryd.ntmps26
  go_wp2_with fail
  refine (nameList_any w.heap.size _ P 0 _ HC0.out (by omega) hl HCL).mono ?_
  rintro e w1 ⟨u, L, rfl, ho, hs, hc, hk⟩
  have HF : Hid (Row w1 u L) := row_own ho
  clear ho
  go_wp2_with fail
  go_ret
  exact ⟨_, L, ⟨rfl, HF.out, hs⟩, cur_below hk⟩
end Go.Proofs.YtgccbkoklhohfaaDoor

namespace Go.Proofs.YtgccbkoklhohfaaDoor
open Go.RowKit

set_option maxRecDepth 20000 in
set_option maxHeartbeats 2000000 in
theorem goodNames_any (g : Nat) (v : Value) (P : List Int) (B : Nat) (w : World) (hc : CurB w g v P B) (hB : B ≤ 900000000) (hl : P.length ≤ 9223372036854775807) (HCL : Hid (0 < P.length → ∀ k, v.ownBlock = some k → k < w.heap.size)) :
    Calls Tryd.prog 67 #[.pointer (some ⟨g, 0, none⟩)] w fun e w' => ∃ (u : Value) (L : List (List UInt8)), e = .returned u ∧ w'.ownsRow w.heap.size 9 1 u L.length (L.map S) ∧ Small L ∧ CurB w' g v P (B + 3000) ∧ Kpt w w' (· = g) := by
  obtain ⟨i0, hi, hz0, hz1, hz2⟩ := info_parts info_string
  have HC0 : Hid (CurB w g v P B) := hc
  have hgl := hc.lt
  clear hc
  go_enter Tryd.func67, Tryd.ntmps67
  go_wp2_with fail
  refine (pick_any _ g _ P B _ HC0.out (by omega) hl (by omega)).mono ?_
  rintro e w1 ⟨n0, rfl, hn0, hc1, hk1⟩
  have HC1 : Hid (CurB w1 g v P (B + 2)) := hc1
  have HK1 : Hid (Kpt w w1 (· = g)) := hk1
  clear hc1 hk1
  go_wp2_with fail
  refine (one_any _ g _ P (B + 2) _ HC1.out (by omega) hl (by omega)).mono ?_
  rintro e w2 ⟨q, rfl, hc2, hk2⟩
  have HC2 : Hid (CurB w2 g v P (B + 4)) := hc2
  have HK2 : Hid (Kpt w w2 (· = g)) := HK1.out.trans hk2
  clear hc2 hk2
  cases q with
  | false =>
    go_wp2_with fail
    obtain ⟨m0, rfl⟩ : ∃ m : Nat, n0 = (m : Int) := Int.eq_ofNat_of_zero_le hn0.1
    have hm0 : m0 ≤ 61 := by omega
    clear hn0
    have hz1' := HK2.out.size
    have HC3 := HC2
    have HK3 := HK2
    go_loopw [3, 4] (fun vv nn wr => ∃ (m : Nat) (L : List (List UInt8)) (u : Value), nn = .int .i64 (m : Int) ∧ m + L.length ≤ 62 ∧ u = vv ∧ Hid (∀ p ∈ L, p.length ≤ 60) ∧ Hid (wr.ownsRow (w.heap.size) 9 1 u L.length (L.map S)) ∧ Hid (CurB wr (g) v P (B + 10 + 30 * L.length)) ∧ Hid (Kpt w wr (fun k => k = g ∨ w.heap.size ≤ k)) ∧ w.heap.size ≤ wr.heap.size) (fun _ nn _ => (intOf nn).toNat)
    case atStart => exact ⟨m0, [], .slice none 0 0, rfl, by simp; omega, rfl, fun p hp => by (cases hp), World.ownsRow_nil _ _ _ _, HC3.out.mono (by omega), HK3.out.mono (fun k _ e => .inl e), hz1'⟩
    case round =>
      obtain ⟨m1, L, u, rfl, hmL, rfl, HL, HO, HC, HK, hzr⟩ := hrel
      have HNG : Hid (∀ k, u.ownBlock = some k → ¬ (k = g)) := fun k hk e => by have := (HO.out.lt k hk).1; omega
      by_cases hm : m1 = 0
      · subst hm
        have HF : Hid (Row wr u L) := row_own HO.out
        go_wp2_with fail
        go_ret
        exact ⟨_, L, rfl, HO.out, ⟨by omega, HL.out⟩, HC.out.mono (by omega), HK.out.mono (fun k hk e => by rcases e with e | e; exact e; omega)⟩
      · obtain ⟨m, rfl⟩ : ∃ m, m1 = m + 1 := ⟨m1 - 1, by omega⟩
        clear hm
        go_wp2_with fail
        refine (name_any g _ P (B + 10 + 30 * L.length) _ HC.out (by omega) hl).mono ?_
        rintro e w7 ⟨yb, rfl, hyb, hc7, hk7⟩
        obtain ⟨y, rfl⟩ : ∃ y : List UInt8, yb = ⟨y.toArray⟩ := ⟨yb.data.toList, by simp⟩
        have hy : y.length ≤ 60 := by rw [size_of] at hyb; omega
        have hys : (⟨y.toArray⟩ : ByteArray).size ≤ 60 := by rw [size_of]; exact hy
        clear hyb
        go_wp2_with fail
        refine (sGoodName_any _ _ (by omega)).mono ?_
        rintro e w8 ⟨rfl, hbn⟩
        have hc8 : CurB w8 g v P (B + 10 + 30 * L.length + 20) := hc7.kpt (below_kpt0 hbn (fun _ => False)) id (fun _ _ _ => id)
        have hk8 : Kpt wr w8 (· = g) := hk7.trans (below_kpt0 hbn _)
        clear hbn hc7 hk7
        cases hgn : nameB (⟨y.toArray⟩ : ByteArray).data.toList with
        | true =>
          clear hgn
          obtain ⟨w4, rfl⟩ : ∃ w4, w4 = w8 := ⟨_, rfl⟩
          have hc4 := hc8
          have hk4 := hk8
          clear hc8 hk8
          have hown := own_kpt HO.out hk4 HNG.out
          have HK4 : Hid (Kpt w w4 (fun k => k = g ∨ w.heap.size ≤ k)) := HK.out.trans (hk4.mono (fun k _ e => .inl e))
          have hz4 := hk4.size
          go_wp2_with (at_builtin; refine wpList_append_own _ rfl (.tmp 27) (.tmp 29) 24 rfl (w.heap.size) 9 i0 (.string ByteArray.empty) 1 16 Tryd.underlying24 hi hz0 hz1 hz2 rfl (by decide) _ _ _ rfl (hown.alloc _) ⟨w4.heap.size, 0, none⟩ 1 1 [.string ⟨y.toArray⟩] rfl rfl ?c1 ?c2 ?c3 ?c4 ?c5 ?_)
          case c1 => exact cell_new_one _ _ _
          case c2 => exact one_string _
          case c3 => unfold maxLen; omega
          case c4 => omega
          case c5 => simp; omega
          intro v6 w6 hown6 hgrow6 _
          have HO6 : Hid (w6.ownsRow (w.heap.size) 9 1 v6 (L ++ [y]).length ((L ++ [y]).map S)) := by
            have h : w6.ownsRow (w.heap.size) 9 1 v6 (L.length + 1) (L.map S ++ [.string ⟨y.toArray⟩]) := hown6
            rw [List.length_append, List.map_append]; exact h
          have HC6 : Hid (CurB w6 (g) v P (B + 10 + 30 * (L ++ [y]).length)) := by
            have h := (alloc_cur hc4 _).kpt (grown_kpt hgrow6) (fun e => HNG.out _ e rfl) (fun h0 k hk e => by have h1 := HCL.out h0 k hk; have h2 := (hown.lt k e).1; omega)
            exact h.mono (by rw [List.length_append]; simp; omega)
          have HK6 : Hid (Kpt w w6 (fun k => k = g ∨ w.heap.size ≤ k)) := (HK4.out.trans (kpt_alloc w4 _ _)).trans ((grown_kpt hgrow6).mono (fun k _ e => .inr (hown.lt k e).1))
          have HL6 : Hid (∀ p ∈ L ++ [y], p.length ≤ 60) := fun p hp => by
            rcases List.mem_append.1 hp with h | h
            · exact HL.out p h
            · simp at h; subst h; exact hy
          have hz6 : w.heap.size ≤ w6.heap.size := by have h3 := hgrow6.size; simp at h3; omega
          clear hown hown6 hgrow6 hc4 hk4 hy
          go_wp2_with fail
          go_roundw
          case rel => exact ⟨m, L ++ [y], v6, by go_num, by rw [List.length_append]; simp; omega, rfl, HL6, HO6, HC6, HK6, hz6⟩
          case measure => simp [intOf]
        | false =>
          clear hgn
          go_wp2_with fail
          refine (one_any _ g _ P (B + 10 + 30 * L.length + 20) _ hc8 (by omega) hl (by omega)).mono ?_
          rintro e w4 ⟨q9, rfl, hc4, hk9⟩
          have hk4 : Kpt wr w4 (· = g) := hk8.trans hk9
          clear hk9 hk8 hc8
          cases q9 with
          | true =>
            have hown := own_kpt HO.out hk4 HNG.out
            have HK4 : Hid (Kpt w w4 (fun k => k = g ∨ w.heap.size ≤ k)) := HK.out.trans (hk4.mono (fun k _ e => .inl e))
            have hz4 := hk4.size
            go_wp2_with (at_builtin; refine wpList_append_own _ rfl (.tmp 27) (.tmp 29) 24 rfl (w.heap.size) 9 i0 (.string ByteArray.empty) 1 16 Tryd.underlying24 hi hz0 hz1 hz2 rfl (by decide) _ _ _ rfl (hown.alloc _) ⟨w4.heap.size, 0, none⟩ 1 1 [.string ⟨y.toArray⟩] rfl rfl ?c1 ?c2 ?c3 ?c4 ?c5 ?_)
            case c1 => exact cell_new_one _ _ _
            case c2 => exact one_string _
            case c3 => unfold maxLen; omega
            case c4 => omega
            case c5 => simp; omega
            intro v6 w6 hown6 hgrow6 _
            have HO6 : Hid (w6.ownsRow (w.heap.size) 9 1 v6 (L ++ [y]).length ((L ++ [y]).map S)) := by
              have h : w6.ownsRow (w.heap.size) 9 1 v6 (L.length + 1) (L.map S ++ [.string ⟨y.toArray⟩]) := hown6
              rw [List.length_append, List.map_append]; exact h
            have HC6 : Hid (CurB w6 (g) v P (B + 10 + 30 * (L ++ [y]).length)) := by
              have h := (alloc_cur hc4 _).kpt (grown_kpt hgrow6) (fun e => HNG.out _ e rfl) (fun h0 k hk e => by have h1 := HCL.out h0 k hk; have h2 := (hown.lt k e).1; omega)
              exact h.mono (by rw [List.length_append]; simp; omega)
            have HK6 : Hid (Kpt w w6 (fun k => k = g ∨ w.heap.size ≤ k)) := (HK4.out.trans (kpt_alloc w4 _ _)).trans ((grown_kpt hgrow6).mono (fun k _ e => .inr (hown.lt k e).1))
            have HL6 : Hid (∀ p ∈ L ++ [y], p.length ≤ 60) := fun p hp => by
              rcases List.mem_append.1 hp with h | h
              · exact HL.out p h
              · simp at h; subst h; exact hy
            have hz6 : w.heap.size ≤ w6.heap.size := by have h3 := hgrow6.size; simp at h3; omega
            clear hown hown6 hgrow6 hc4 hk4 hy
            go_wp2_with fail
            go_roundw
            case rel => exact ⟨m, L ++ [y], v6, by go_num, by rw [List.length_append]; simp; omega, rfl, HL6, HO6, HC6, HK6, hz6⟩
            case measure => simp [intOf]
          | false =>
            have hy : ([101, 120, 46, 99, 111, 109] : List UInt8).length ≤ 60 := by decide
            have hown := own_kpt HO.out hk4 HNG.out
            have HK4 : Hid (Kpt w w4 (fun k => k = g ∨ w.heap.size ≤ k)) := HK.out.trans (hk4.mono (fun k _ e => .inl e))
            have hz4 := hk4.size
            go_wp2_with (at_builtin; refine wpList_append_own _ rfl (.tmp 27) (.tmp 29) 24 rfl (w.heap.size) 9 i0 (.string ByteArray.empty) 1 16 Tryd.underlying24 hi hz0 hz1 hz2 rfl (by decide) _ _ _ rfl (hown.alloc _) ⟨w4.heap.size, 0, none⟩ 1 1 [.string ⟨#[101, 120, 46, 99, 111, 109]⟩] rfl rfl ?c1 ?c2 ?c3 ?c4 ?c5 ?_)
            case c1 => exact cell_new_one _ _ _
            case c2 => exact one_string _
            case c3 => unfold maxLen; omega
            case c4 => omega
            case c5 => simp; omega
            intro v6 w6 hown6 hgrow6 _
            have HO6 : Hid (w6.ownsRow (w.heap.size) 9 1 v6 (L ++ [[101, 120, 46, 99, 111, 109]]).length ((L ++ [[101, 120, 46, 99, 111, 109]]).map S)) := by
              have h : w6.ownsRow (w.heap.size) 9 1 v6 (L.length + 1) (L.map S ++ [.string ⟨#[101, 120, 46, 99, 111, 109]⟩]) := hown6
              rw [List.length_append, List.map_append]; exact h
            have HC6 : Hid (CurB w6 (g) v P (B + 10 + 30 * (L ++ [[101, 120, 46, 99, 111, 109]]).length)) := by
              have h := (alloc_cur hc4 _).kpt (grown_kpt hgrow6) (fun e => HNG.out _ e rfl) (fun h0 k hk e => by have h1 := HCL.out h0 k hk; have h2 := (hown.lt k e).1; omega)
              exact h.mono (by rw [List.length_append]; simp; omega)
            have HK6 : Hid (Kpt w w6 (fun k => k = g ∨ w.heap.size ≤ k)) := (HK4.out.trans (kpt_alloc w4 _ _)).trans ((grown_kpt hgrow6).mono (fun k _ e => .inr (hown.lt k e).1))
            have HL6 : Hid (∀ p ∈ L ++ [[101, 120, 46, 99, 111, 109]], p.length ≤ 60) := fun p hp => by
              rcases List.mem_append.1 hp with h | h
              · exact HL.out p h
              · simp at h; subst h; exact hy
            have hz6 : w.heap.size ≤ w6.heap.size := by have h3 := hgrow6.size; simp at h3; omega
            clear hown hown6 hgrow6 hc4 hk4 hy
            go_wp2_with fail
            go_roundw
            case rel => exact ⟨m, L ++ [[101, 120, 46, 99, 111, 109]], v6, by go_num, by rw [List.length_append]; simp; omega, rfl, HL6, HO6, HC6, HK6, hz6⟩
            case measure => simp [intOf]
  | true =>
    go_wp2_with fail
    refine (pick_any _ g _ P (B + 4) _ HC2.out (by omega) hl (by omega)).mono ?_
    rintro e w3 ⟨n1, rfl, hn1, hc3, hk3⟩
    have HC3 : Hid (CurB w3 g v P (B + 6)) := hc3
    have HK3 : Hid (Kpt w w3 (· = g)) := HK2.out.trans hk3
    clear hc3 hk3
    go_wp2_with fail
    obtain ⟨m0, hm0'⟩ : ∃ m : Nat, (20 + n1) = (m : Int) := Int.eq_ofNat_of_zero_le (by omega)
    rw [hm0']
    have hm0 : m0 ≤ 61 := by omega
    clear hn1 hm0'
    have hz1' := HK3.out.size
    go_loopw [3, 4] (fun vv nn wr => ∃ (m : Nat) (L : List (List UInt8)) (u : Value), nn = .int .i64 (m : Int) ∧ m + L.length ≤ 62 ∧ u = vv ∧ Hid (∀ p ∈ L, p.length ≤ 60) ∧ Hid (wr.ownsRow (w.heap.size) 9 1 u L.length (L.map S)) ∧ Hid (CurB wr (g) v P (B + 10 + 30 * L.length)) ∧ Hid (Kpt w wr (fun k => k = g ∨ w.heap.size ≤ k)) ∧ w.heap.size ≤ wr.heap.size) (fun _ nn _ => (intOf nn).toNat)
    case atStart => exact ⟨m0, [], .slice none 0 0, rfl, by simp; omega, rfl, fun p hp => by (cases hp), World.ownsRow_nil _ _ _ _, HC3.out.mono (by omega), HK3.out.mono (fun k _ e => .inl e), hz1'⟩
    case round =>
      obtain ⟨m1, L, u, rfl, hmL, rfl, HL, HO, HC, HK, hzr⟩ := hrel
      have HNG : Hid (∀ k, u.ownBlock = some k → ¬ (k = g)) := fun k hk e => by have := (HO.out.lt k hk).1; omega
      by_cases hm : m1 = 0
      · subst hm
        have HF : Hid (Row wr u L) := row_own HO.out
        go_wp2_with fail
        go_ret
        exact ⟨_, L, rfl, HO.out, ⟨by omega, HL.out⟩, HC.out.mono (by omega), HK.out.mono (fun k hk e => by rcases e with e | e; exact e; omega)⟩
      · obtain ⟨m, rfl⟩ : ∃ m, m1 = m + 1 := ⟨m1 - 1, by omega⟩
        clear hm
        go_wp2_with fail
        refine (name_any g _ P (B + 10 + 30 * L.length) _ HC.out (by omega) hl).mono ?_
        rintro e w7 ⟨yb, rfl, hyb, hc7, hk7⟩
        obtain ⟨y, rfl⟩ : ∃ y : List UInt8, yb = ⟨y.toArray⟩ := ⟨yb.data.toList, by simp⟩
        have hy : y.length ≤ 60 := by rw [size_of] at hyb; omega
        have hys : (⟨y.toArray⟩ : ByteArray).size ≤ 60 := by rw [size_of]; exact hy
        clear hyb
        go_wp2_with fail
        refine (sGoodName_any _ _ (by omega)).mono ?_
        rintro e w8 ⟨rfl, hbn⟩
        have hc8 : CurB w8 g v P (B + 10 + 30 * L.length + 20) := hc7.kpt (below_kpt0 hbn (fun _ => False)) id (fun _ _ _ => id)
        have hk8 : Kpt wr w8 (· = g) := hk7.trans (below_kpt0 hbn _)
        clear hbn hc7 hk7
        cases hgn : nameB (⟨y.toArray⟩ : ByteArray).data.toList with
        | true =>
          clear hgn
          obtain ⟨w4, rfl⟩ : ∃ w4, w4 = w8 := ⟨_, rfl⟩
          have hc4 := hc8
          have hk4 := hk8
          clear hc8 hk8
          have hown := own_kpt HO.out hk4 HNG.out
          have HK4 : Hid (Kpt w w4 (fun k => k = g ∨ w.heap.size ≤ k)) := HK.out.trans (hk4.mono (fun k _ e => .inl e))
          have hz4 := hk4.size
          go_wp2_with (at_builtin; refine wpList_append_own _ rfl (.tmp 27) (.tmp 29) 24 rfl (w.heap.size) 9 i0 (.string ByteArray.empty) 1 16 Tryd.underlying24 hi hz0 hz1 hz2 rfl (by decide) _ _ _ rfl (hown.alloc _) ⟨w4.heap.size, 0, none⟩ 1 1 [.string ⟨y.toArray⟩] rfl rfl ?c1 ?c2 ?c3 ?c4 ?c5 ?_)
          case c1 => exact cell_new_one _ _ _
          case c2 => exact one_string _
          case c3 => unfold maxLen; omega
          case c4 => omega
          case c5 => simp; omega
          intro v6 w6 hown6 hgrow6 _
          have HO6 : Hid (w6.ownsRow (w.heap.size) 9 1 v6 (L ++ [y]).length ((L ++ [y]).map S)) := by
            have h : w6.ownsRow (w.heap.size) 9 1 v6 (L.length + 1) (L.map S ++ [.string ⟨y.toArray⟩]) := hown6
            rw [List.length_append, List.map_append]; exact h
          have HC6 : Hid (CurB w6 (g) v P (B + 10 + 30 * (L ++ [y]).length)) := by
            have h := (alloc_cur hc4 _).kpt (grown_kpt hgrow6) (fun e => HNG.out _ e rfl) (fun h0 k hk e => by have h1 := HCL.out h0 k hk; have h2 := (hown.lt k e).1; omega)
            exact h.mono (by rw [List.length_append]; simp; omega)
          have HK6 : Hid (Kpt w w6 (fun k => k = g ∨ w.heap.size ≤ k)) := (HK4.out.trans (kpt_alloc w4 _ _)).trans ((grown_kpt hgrow6).mono (fun k _ e => .inr (hown.lt k e).1))
          have HL6 : Hid (∀ p ∈ L ++ [y], p.length ≤ 60) := fun p hp => by
            rcases List.mem_append.1 hp with h | h
            · exact HL.out p h
            · simp at h; subst h; exact hy
          have hz6 : w.heap.size ≤ w6.heap.size := by have h3 := hgrow6.size; simp at h3; omega
          clear hown hown6 hgrow6 hc4 hk4 hy
          go_wp2_with fail
          go_roundw
          case rel => exact ⟨m, L ++ [y], v6, by go_num, by rw [List.length_append]; simp; omega, rfl, HL6, HO6, HC6, HK6, hz6⟩
          case measure => simp [intOf]
        | false =>
          clear hgn
          go_wp2_with fail
          refine (one_any _ g _ P (B + 10 + 30 * L.length + 20) _ hc8 (by omega) hl (by omega)).mono ?_
          rintro e w4 ⟨q9, rfl, hc4, hk9⟩
          have hk4 : Kpt wr w4 (· = g) := hk8.trans hk9
          clear hk9 hk8 hc8
          cases q9 with
          | true =>
            have hown := own_kpt HO.out hk4 HNG.out
            have HK4 : Hid (Kpt w w4 (fun k => k = g ∨ w.heap.size ≤ k)) := HK.out.trans (hk4.mono (fun k _ e => .inl e))
            have hz4 := hk4.size
            go_wp2_with (at_builtin; refine wpList_append_own _ rfl (.tmp 27) (.tmp 29) 24 rfl (w.heap.size) 9 i0 (.string ByteArray.empty) 1 16 Tryd.underlying24 hi hz0 hz1 hz2 rfl (by decide) _ _ _ rfl (hown.alloc _) ⟨w4.heap.size, 0, none⟩ 1 1 [.string ⟨y.toArray⟩] rfl rfl ?c1 ?c2 ?c3 ?c4 ?c5 ?_)
            case c1 => exact cell_new_one _ _ _
            case c2 => exact one_string _
            case c3 => unfold maxLen; omega
            case c4 => omega
            case c5 => simp; omega
            intro v6 w6 hown6 hgrow6 _
            have HO6 : Hid (w6.ownsRow (w.heap.size) 9 1 v6 (L ++ [y]).length ((L ++ [y]).map S)) := by
              have h : w6.ownsRow (w.heap.size) 9 1 v6 (L.length + 1) (L.map S ++ [.string ⟨y.toArray⟩]) := hown6
              rw [List.length_append, List.map_append]; exact h
            have HC6 : Hid (CurB w6 (g) v P (B + 10 + 30 * (L ++ [y]).length)) := by
              have h := (alloc_cur hc4 _).kpt (grown_kpt hgrow6) (fun e => HNG.out _ e rfl) (fun h0 k hk e => by have h1 := HCL.out h0 k hk; have h2 := (hown.lt k e).1; omega)
              exact h.mono (by rw [List.length_append]; simp; omega)
            have HK6 : Hid (Kpt w w6 (fun k => k = g ∨ w.heap.size ≤ k)) := (HK4.out.trans (kpt_alloc w4 _ _)).trans ((grown_kpt hgrow6).mono (fun k _ e => .inr (hown.lt k e).1))
            have HL6 : Hid (∀ p ∈ L ++ [y], p.length ≤ 60) := fun p hp => by
              rcases List.mem_append.1 hp with h | h
              · exact HL.out p h
              · simp at h; subst h; exact hy
            have hz6 : w.heap.size ≤ w6.heap.size := by have h3 := hgrow6.size; simp at h3; omega
            clear hown hown6 hgrow6 hc4 hk4 hy
            go_wp2_with fail
            go_roundw
            case rel => exact ⟨m, L ++ [y], v6, by go_num, by rw [List.length_append]; simp; omega, rfl, HL6, HO6, HC6, HK6, hz6⟩
            case measure => simp [intOf]
          | false =>
            have hy : ([101, 120, 46, 99, 111, 109] : List UInt8).length ≤ 60 := by decide
            have hown := own_kpt HO.out hk4 HNG.out
            have HK4 : Hid (Kpt w w4 (fun k => k = g ∨ w.heap.size ≤ k)) := HK.out.trans (hk4.mono (fun k _ e => .inl e))
            have hz4 := hk4.size
            go_wp2_with (at_builtin; refine wpList_append_own _ rfl (.tmp 27) (.tmp 29) 24 rfl (w.heap.size) 9 i0 (.string ByteArray.empty) 1 16 Tryd.underlying24 hi hz0 hz1 hz2 rfl (by decide) _ _ _ rfl (hown.alloc _) ⟨w4.heap.size, 0, none⟩ 1 1 [.string ⟨#[101, 120, 46, 99, 111, 109]⟩] rfl rfl ?c1 ?c2 ?c3 ?c4 ?c5 ?_)
            case c1 => exact cell_new_one _ _ _
            case c2 => exact one_string _
            case c3 => unfold maxLen; omega
            case c4 => omega
            case c5 => simp; omega
            intro v6 w6 hown6 hgrow6 _
            have HO6 : Hid (w6.ownsRow (w.heap.size) 9 1 v6 (L ++ [[101, 120, 46, 99, 111, 109]]).length ((L ++ [[101, 120, 46, 99, 111, 109]]).map S)) := by
              have h : w6.ownsRow (w.heap.size) 9 1 v6 (L.length + 1) (L.map S ++ [.string ⟨#[101, 120, 46, 99, 111, 109]⟩]) := hown6
              rw [List.length_append, List.map_append]; exact h
            have HC6 : Hid (CurB w6 (g) v P (B + 10 + 30 * (L ++ [[101, 120, 46, 99, 111, 109]]).length)) := by
              have h := (alloc_cur hc4 _).kpt (grown_kpt hgrow6) (fun e => HNG.out _ e rfl) (fun h0 k hk e => by have h1 := HCL.out h0 k hk; have h2 := (hown.lt k e).1; omega)
              exact h.mono (by rw [List.length_append]; simp; omega)
            have HK6 : Hid (Kpt w w6 (fun k => k = g ∨ w.heap.size ≤ k)) := (HK4.out.trans (kpt_alloc w4 _ _)).trans ((grown_kpt hgrow6).mono (fun k _ e => .inr (hown.lt k e).1))
            have HL6 : Hid (∀ p ∈ L ++ [[101, 120, 46, 99, 111, 109]], p.length ≤ 60) := fun p hp => by
              rcases List.mem_append.1 hp with h | h
              · exact HL.out p h
              · simp at h; subst h; exact hy
            have hz6 : w.heap.size ≤ w6.heap.size := by have h3 := hgrow6.size; simp at h3; omega
            clear hown hown6 hgrow6 hc4 hk4 hy
            go_wp2_with fail
            go_roundw
            case rel => exact ⟨m, L ++ [[101, 120, 46, 99, 111, 109]], v6, by go_num, by rw [List.length_append]; simp; omega, rfl, HL6, HO6, HC6, HK6, hz6⟩
            case measure => simp [intOf]
end Go.Proofs.YtgccbkoklhohfaaDoor
