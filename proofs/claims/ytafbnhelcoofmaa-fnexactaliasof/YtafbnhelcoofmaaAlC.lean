import Derived.Test.YtafbnhelcoofmaaAlE
import Derived.Test.YtafbnhelcoofmaaCloZ
namespace Go.Proofs.Ytafbnhelcoofmaa
open Go.RowKit

theorem cellsL_idx {L : List ColT} {j : Nat} {u : Value} (h : (cellsL L)[j]? = some u) : ∃ k, ∃ hk : k < L.length, (j = k * 2 ∧ u = .int .i64 (L[k]).1) ∨ (j = k * 2 + 1 ∧ u = .int .i64 (L[k]).2) := by
  have hj : j < (cellsL L).length := (List.getElem?_eq_some_iff.1 h).1
  rw [cellsL_length] at hj
  have hk : j / 2 < L.length := by omega
  obtain ⟨h1, h2⟩ := cellsL_get L (j / 2) hk
  refine ⟨j / 2, hk, ?_⟩
  by_cases e : j % 2 = 0
  · left
    have e2 : j = j / 2 * 2 := by omega
    refine ⟨e2, ?_⟩
    rw [e2] at h
    rw [h1] at h
    exact (Option.some.inj h).symm
  · right
    have e2 : j = j / 2 * 2 + 1 := by omega
    refine ⟨e2, ?_⟩
    rw [e2] at h
    rw [h2] at h
    exact (Option.some.inj h).symm
theorem src_cols {W : World} {b o : Nat} {L : List ColT} (hc : ∀ j, (hj : j < L.length) → ColAt W b (o + j * 2) L[j]) : ∀ j u, (cellsL L)[j]? = some u → W.cell? ((⟨b, o, none⟩ : Addr).add j) = some u := fun j u h => by
  rw [add_0T]
  obtain ⟨k, hk, h1 | h1⟩ := cellsL_idx h
  · rw [h1.1, h1.2]; exact (hc k hk).1
  · rw [h1.1, h1.2]; exact (hc k hk).2
theorem cols_one (L : List ColT) : ∀ u ∈ cellsL L, u.oneCell' = true := fun u hu => by
  unfold cellsL at hu
  rw [List.mem_flatMap] at hu
  obtain ⟨c, _, hc⟩ := hu
  simp only [List.mem_cons, List.not_mem_nil, or_false] at hc
  rcases hc with rfl | rfl <;> rfl
theorem co_of_own {w : World} {base : Nat} {v : Value} {L : List ColT} (hp : 0 < L.length) (h : w.ownsRow base 50 2 v L.length (cellsL L)) : ∃ t cap, v = .slice (some ⟨t, 0, none⟩) L.length cap ∧ L.length ≤ cap ∧ cap ≤ maxLen ∧ base ≤ t ∧ CoRow w t L := by
  have h0 := h
  obtain ⟨_, ⟨_, hn⟩ | ⟨g, cap, cur, rfl, hg, _, h1, h2, _, _⟩⟩ := h
  · omega
  · refine ⟨g, cap, rfl, h1, h2, hg, (h0.lt g rfl).2, fun j hj => ⟨⟨?_, ?_⟩, ⟨h0.frozenAt _, h0.frozenAt _⟩⟩⟩
    · rw [h0.cellAt (j * 2) (by omega)]; exact (cellsL_get L j hj).1
    · rw [h0.cellAt (j * 2 + 1) (by omega)]; exact (cellsL_get L j hj).2
theorem own_emptyC (w : World) (e : TypeId) (size : Nat) : (w.alloc (.cells #[] e)).ownsRow w.heap.size e size (.slice (some ⟨w.heap.size, 0, none⟩) 0 0) 0 [] :=
  ⟨by simp, .inr ⟨w.heap.size, 0, #[], rfl, Nat.le_refl _, trn_new _ _, Nat.le_refl _, Nat.zero_le _, by simp, by simp⟩⟩
set_option maxRecDepth 20000 in
set_option maxHeartbeats 1000000 in
theorem cloneC_any (v : Value) (L : List ColT) (w : World) (hr : ColRow w v L) (hl : L.length ≤ 1048576) (hp : 0 < L.length) :
    Calls Try.prog 33 #[v] w fun e w' => ∃ t cap, e = .returned (.slice (some ⟨t, 0, none⟩) L.length cap) ∧ L.length ≤ cap ∧ cap ≤ maxLen ∧ w.heap.size ≤ t ∧ CoRow w' t L ∧ Below w.heap.size w w' := by
  obtain ⟨i0, hi, hz0, hz1, hz2⟩ := info_parts info_col
  obtain ⟨a, cap, rfl, hcap, hmax, HROW⟩ := col_value hr
  obtain ⟨b, o, ha, hbl, hc⟩ := HROW.out hp
  subst ha
  clear HROW hr
  have hb0 : Below w.heap.size w (w.alloc (.cells #[] 50)) := (Below.refl _ _).alloc (Nat.le_refl _) _
  have hc2 := src_cols (W := w.alloc (.cells #[] 50)) (b := b) (o := o) (L := L) (fun j hj => (hc j hj).kept hb0)
  have hnil : ∀ W : World, Sem.run Try.prog (binOp .eql 23 (.slice (some ⟨b, o, none⟩) L.length cap) (.slice none 0 0)) W = .ok (.bool false) W := fun W => by rfl
  have HP : Hid (0 < L.length) := hp
  have hcl := cellsL_length L
  clear hc hp
  go_enter Try.func33, Try.ntmps33
  go_wp2_with (at_builtin; refine wpList_append_own _ rfl (.tmp 5) (.tmp 6) 23 rfl w.heap.size 50 i0 (.agg #[.int .i64 0, .int .i64 0]) 2 16 Try.underlying23 hi hz0 hz1 hz2 rfl (by decide) _ _ _ rfl (own_emptyC w 50 2) ⟨b, o, none⟩ L.length cap (cellsL L) rfl hcl hc2 (cols_one L) ?d3 ?d4 ?d5 ?_)
  case d3 => unfold maxLen; omega
  case d4 => omega
  case d5 => simp
  intro v2 w2 hown2 hgrow2 _
  obtain ⟨t, cp, rfl, g1, g2, g3, g4⟩ := co_of_own HP.out (by simpa using hown2)
  have hb2 : Below w.heap.size w w2 := hb0.grown hgrow2 hb0.size (fun k e => by cases e; exact Nat.le_refl _)
  have HZ : Hid (CoRow w2 t L) := g4
  clear hown2 hgrow2 hc2 g4 hcl
  go_wp2_with fail
  go_ret
  exact ⟨t, cp, rfl, g1, g2, g3, HZ.out, hb2⟩
end Go.Proofs.Ytafbnhelcoofmaa
