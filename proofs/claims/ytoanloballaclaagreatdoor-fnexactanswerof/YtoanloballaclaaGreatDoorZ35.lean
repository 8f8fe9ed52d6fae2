import Derived.Test.YtoanloballaclaaGreatDoorZ28
import Derived.Test.YtoanloballaclaaGreatDoorZ29
import Derived.Test.YtoanloballaclaaGreatDoorZ30
import Derived.Test.YtoanloballaclaaGreatDoorZ34
namespace Go.Proofs.YtoanloballaclaaGreatDoor
open Go.RowKit

theorem TgoRow.kpt {a b : World} {T : Nat → Prop} {g : Nat} {L : List TgtT} (hs : TgoRow a g L) (h : Kpt a b T) (hne : ¬ T g) : TgoRow b g L := by
  have hb : b.heap[g]? = a.heap[g]? := h.block g hs.1 hne
  refine ⟨Nat.lt_of_lt_of_le hs.1 h.size, fun j hj => ?_⟩
  have h0 := hs.2 j hj
  unfold TgtAt FzG at h0 ⊢
  rw [World.cell?_of_block (a := ⟨g, j * 4, none⟩) hb, World.cell?_of_block (a := ⟨g, j * 4 + 1, none⟩) hb, World.cell?_of_block (a := ⟨g, j * 4 + 2, none⟩) hb, World.cell?_of_block (a := ⟨g, j * 4 + 3, none⟩) hb, World.frozen?_of_block (a := ⟨g, j * 4, none⟩) hb, World.frozen?_of_block (a := ⟨g, j * 4 + 1, none⟩) hb, World.frozen?_of_block (a := ⟨g, j * 4 + 2, none⟩) hb, World.frozen?_of_block (a := ⟨g, j * 4 + 3, none⟩) hb]
  exact h0
theorem NumsO.kpt {a b : World} {T : Nat → Prop} {base : Nat} {v : Value} {O : List Int} (h : NumsO a base v O) (hk : Kpt a b T) (hn : ∀ g, v.ownBlock = some g → ¬ T g) : NumsO b base v O := own_kpt h hk hn
theorem NumsO.lt {w : World} {base : Nat} {v : Value} {O : List Int} (h : NumsO w base v O) : ∀ g, v.ownBlock = some g → base ≤ g ∧ g < w.heap.size := fun g hg => World.ownsRow.lt h g hg
/-- Numbers that may be written to: none, or in a block from base on. -/
def OwnN (w : World) (base : Nat) (v : Value) (O : List Int) : Prop := (v = .slice none 0 0 ∧ O = []) ∨ ∃ g cap, v = .slice (some ⟨g, 0, none⟩) O.length cap ∧ O.length ≤ cap ∧ cap ≤ 9223372036854775807 ∧ base ≤ g ∧ ZSRow w g O
theorem nums_own {w : World} {base : Nat} {v : Value} {O : List Int} (h : NumsO w base v O) : OwnN w base v O := by
  unfold NumsO at h
  have h0 := h
  obtain ⟨_, ⟨rfl, hn⟩ | ⟨b, c, cur, rfl, hg, _, h1, h2, _, _⟩⟩ := h
  · exact .inl ⟨rfl, List.length_eq_zero_iff.1 hn⟩
  · refine .inr ⟨b, c, rfl, h1, by unfold maxLen at h2; omega, hg, (h0.lt b rfl).2, fun j hj => ⟨?_, h0.frozenAt _⟩⟩
    rw [h0.cellAt j (by omega)]
    simp [hj]
theorem OwnN.kept {w w' : World} {base : Nat} {v : Value} {O : List Int} (h : OwnN w base v O) (hb : Below w.heap.size w w') : OwnN w' base v O := by
  rcases h with h | ⟨g, c, rfl, h1, h2, hg, hs⟩
  · exact .inl h
  · exact .inr ⟨g, c, rfl, h1, h2, hg, hs.kept hb⟩
theorem OwnN.row {w : World} {base : Nat} {v : Value} {O : List Int} (h : OwnN w base v O) : ZRow .i64 w v O := by
  rcases h with ⟨rfl, rfl⟩ | ⟨g, c, rfl, h1, h2, hg, hs⟩
  · exact zrow_nil .i64 w
  · exact ⟨_, c, rfl, h1, by unfold maxLen; omega, .inr ⟨g, 0, rfl, hs.1, fun j hj => by rw [Nat.zero_add]; exact (hs.2 j hj).1⟩⟩
theorem OwnN.kpt {w w' : World} {S : Nat → Prop} {base : Nat} {v : Value} {O : List Int} (h : OwnN w base v O) (hk : Kpt w w' S) (hn : ∀ g, v.ownBlock = some g → ¬ S g) : OwnN w' base v O := by
  rcases h with h | ⟨g, c, rfl, h1, h2, hg, hs⟩
  · exact .inl h
  · refine .inr ⟨g, c, rfl, h1, h2, hg, Nat.lt_of_lt_of_le hs.1 hk.size, fun j hj => ?_⟩
    have hb : w'.heap[g]? = w.heap[g]? := hk.block g hs.1 (hn g rfl)
    rw [World.cell?_of_block (a := ⟨g, j, none⟩) hb, World.frozen?_of_block (a := ⟨g, j, none⟩) hb]
    exact hs.2 j hj
theorem OwnN.lt {w : World} {base : Nat} {v : Value} {O : List Int} (h : OwnN w base v O) : ∀ g, v.ownBlock = some g → base ≤ g ∧ g < w.heap.size := by
  intro g hg
  rcases h with ⟨rfl, _⟩ | ⟨g', c, rfl, _, _, hb, hs⟩
  · cases hg
  · have e : g' = g := Option.some.inj hg
    rw [← e]; exact ⟨hb, hs.1⟩

set_option maxRecDepth 20000 in
set_option maxHeartbeats 400000 in
theorem markN_any (v : Value) (O : List Int) (base : Nat) (w : World) (h : OwnN w base v O) (hl : O.length ≤ 1048576) :
    Calls Tryz.prog 22 #[v, .int .i64 1] w fun e w' => e = .returned (.int .i64 (1 + (O.length : Int))) ∧ OwnN w' base v (mksZ 1 O.length) ∧ Kpt w w' (fun k => v.ownBlock = some k) := by
  rcases h with ⟨rfl, rfl⟩ | ⟨g, c, rfl, h1, h2, hg, hs⟩
  · go_enter Tryz.func22, Tryz.ntmps22
    go_wp2_with fail
    go_rounds 1
    go_ret
    exact ⟨rfl, .inl ⟨rfl, rfl⟩, Kpt.refl _ _⟩
  · refine (markIntZ_any g c 1 O w hs hl h1 h2 (by omega)).mono ?_
    rintro e w' ⟨rfl, h3, h4⟩
    exact ⟨rfl, .inr ⟨g, c, by rw [mksZ_length], by rw [mksZ_length]; exact h1, h2, hg, h3⟩, grown_kpt h4⟩
theorem heldN_any (v : Value) (n base : Nat) (w : World) (h : OwnN w base v (mksZ 1 n)) (hl : n ≤ 1048576) :
    Calls Tryz.prog 23 #[v, .int .i64 1] w fun e w' => e = .returned (.int .i64 (1 + (n : Int))) ∧ Below w.heap.size w w' :=
  (heldIntZ_any v n 1 w h.row hl (by omega)).mono fun e w' h => ⟨h.1, by rw [h.2]; exact Below.refl _ _⟩

set_option maxRecDepth 20000 in
set_option maxHeartbeats 1000000 in
theorem szHealthQ_any (ri fa : Int) (v : Value) (L : List HosT) (q0 : Int) (w : World) (hr : HstRow w v L) (hx : Hid (∀ x ∈ L, x.1.length ≤ maxLen)) (h0 : 0 ≤ q0) (h1 : q0 ≤ 1048576) :
    Calls Tryz.prog 10 #[HeaV ri fa v, .int .i64 q0] w fun e w' => (∃ q : Int, e = .returned (.int .i64 q) ∧ (q = -1 ∨ (0 ≤ q ∧ q = q0 - (L.length : Int) - (wtH L : Int)))) ∧ Below w.heap.size w w' := by
  unfold HeaV
  obtain ⟨aa, ca, rfl, _, hca, _⟩ := id hr
  have HSZ : Hid (∀ W, Below w.heap.size w W → Calls Tryz.prog 34 #[.slice aa L.length ca, .int .i64 q0] W fun e w' => (∃ q : Int, e = .returned (.int .i64 q) ∧ ((q = -1) ∨ (q = q0 - (L.length : Int) - (wtH L : Int) ∧ 0 ≤ q))) ∧ Below W.heap.size W w') := fun W hW => szHostS_any _ L q0 W (hr.kept hW) hx h0 h1
  clear hr
  go_enter Tryz.func10, Tryz.ntmps10
  go_wp2_with fail
  refine (HSZ.out _ ((Below.refl w.heap.size w).alloc (Nat.le_refl _) _)).mono ?_
  rintro e w1 ⟨⟨q1, rfl, hq1⟩, hb1⟩
  obtain ⟨_, hbw⟩ := hst_below hb1
  rcases hq1 with rfl | ⟨hq1, hp1⟩
  · go_wp2_with fail
    go_ret
    exact ⟨⟨-1, rfl, .inl rfl⟩, hbw⟩
  · have HQ1 : Hid (q1 = q0 - (L.length : Int) - (wtH L : Int)) := hq1
    clear hq1
    go_wp2_with fail
    go_ret
    exact ⟨⟨q1, rfl, .inr ⟨hp1, HQ1.out⟩⟩, hbw⟩
end Go.Proofs.YtoanloballaclaaGreatDoor
