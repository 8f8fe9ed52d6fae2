import Derived.Test.YtafbnhelcoofmaaLTrn
namespace Go.Proofs.Ytafbnhelcoofmaa
open Go.RowKit

theorem ints_oneZT (P : List Int) : ∀ u ∈ P.map (Value.int .i64), u.oneCell' = true := by
  intro u hu
  obtain ⟨x, _, rfl⟩ := List.mem_map.1 hu
  rfl
theorem add_0T (b o j : Nat) : (⟨b, o, none⟩ : Addr).add j = ⟨b, o + j, none⟩ := by unfold Addr.add; split <;> simp_all
theorem own_emptyT (w : World) (e : TypeId) (size : Nat) : (w.alloc (.cells #[] e)).ownsRow w.heap.size e size (.slice (some ⟨w.heap.size, 0, none⟩) 0 0) 0 [] :=
  ⟨by simp, .inr ⟨w.heap.size, 0, #[], rfl, Nat.le_refl _, trn_new _ _, Nat.le_refl _, Nat.zero_le _, by simp, by simp⟩⟩
theorem src_intsT {W : World} {b o : Nat} {P : List Int} (hc : ∀ j, (hj : j < P.length) → W.cell? ⟨b, o + j, none⟩ = some (.int .i64 P[j])) : ∀ j u, (P.map (Value.int .i64))[j]? = some u → W.cell? ((⟨b, o, none⟩ : Addr).add j) = some u := fun j u h => by
  rw [List.getElem?_map] at h
  by_cases hj : j < P.length
  · rw [List.getElem?_eq_getElem hj] at h
    cases h
    rw [add_0T]; exact hc j hj
  · rw [List.getElem?_eq_none (by omega)] at h; cases h
theorem zs_of_ownT {w : World} {base : Nat} {v : Value} {P : List Int} (hp : 0 < P.length) (h : w.ownsRow base 3 1 v P.length (P.map (Value.int .i64))) : ∃ t cap, v = .slice (some ⟨t, 0, none⟩) P.length cap ∧ P.length ≤ cap ∧ cap ≤ 9223372036854775807 ∧ base ≤ t ∧ ZSRow w t P := by
  have h0 := h
  obtain ⟨_, ⟨_, hn⟩ | ⟨g, cap, cur, rfl, hg, _, h1, h2, _, _⟩⟩ := h
  · omega
  · unfold maxLen at h2
    exact ⟨g, cap, rfl, h1, by omega, hg, zs_own h0⟩

set_option maxRecDepth 20000 in
set_option maxHeartbeats 1000000 in
theorem cloneZ_anyT (v : Value) (P : List Int) (w : World) (hr : ZRow .i64 w v P) (hl : P.length ≤ 1048576) (hp : 0 < P.length) :
    Calls Try.prog 35 #[v] w fun e w' => ∃ t cap, e = .returned (.slice (some ⟨t, 0, none⟩) P.length cap) ∧ P.length ≤ cap ∧ cap ≤ 9223372036854775807 ∧ w.heap.size ≤ t ∧ ZSRow w' t P ∧ Below w.heap.size w w' := by
  obtain ⟨i0, hi, hz0, hz1, hz2⟩ := info_parts info_int
  obtain ⟨a, cap, rfl, hcap, hmax, HROW⟩ := zrow_value hr
  obtain ⟨b, o, ha, hbl, hc⟩ := HROW.out hp
  subst ha
  clear HROW hr
  have hb0 : Below w.heap.size w (w.alloc (.cells #[] 3)) := (Below.refl _ _).alloc (Nat.le_refl _) _
  have hc2 := src_intsT (W := w.alloc (.cells #[] 3)) (b := b) (o := o) (P := P) (fun j hj => by rw [hb0.cell (p := ⟨b, o + j, none⟩) hbl]; exact hc j hj)
  have hnil : ∀ W : World, Sem.run Try.prog (binOp .eql 22 (.slice (some ⟨b, o, none⟩) P.length cap) (.slice none 0 0)) W = .ok (.bool false) W := fun W => by rfl
  have HP : Hid (0 < P.length) := hp
  clear hc hp
  go_enter Try.func35, Try.ntmps35
  go_wp2_with (at_builtin; refine wpList_append_own _ rfl (.tmp 5) (.tmp 6) 22 rfl w.heap.size 3 i0 (.int .i64 0) 1 8 Try.underlying22 hi hz0 hz1 hz2 rfl (by decide) _ _ _ rfl (own_emptyT w 3 1) ⟨b, o, none⟩ P.length cap (P.map (Value.int .i64)) rfl (by simp) hc2 (ints_oneZT P) ?d3 ?d4 ?d5 ?_)
  case d3 => unfold maxLen; omega
  case d4 => omega
  case d5 => simp
  intro v2 w2 hown2 hgrow2 _
  obtain ⟨t, cp, rfl, g1, g2, g3, g4⟩ := zs_of_ownT HP.out hown2
  have hb2 : Below w.heap.size w w2 := hb0.grown hgrow2 hb0.size (fun k e => by cases e; exact Nat.le_refl _)
  have HZ : Hid (ZSRow w2 t P) := g4
  clear hown2 hgrow2 hc2 g4
  go_wp2_with fail
  go_ret
  exact ⟨t, cp, rfl, g1, g2, g3, HZ.out, hb2⟩
end Go.Proofs.Ytafbnhelcoofmaa
