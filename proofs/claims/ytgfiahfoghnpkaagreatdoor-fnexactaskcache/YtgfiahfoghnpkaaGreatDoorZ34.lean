import Derived.Test.YtgfiahfoghnpkaaGreatDoorZ22
import Derived.Test.YtgfiahfoghnpkaaGreatDoorZ33
import Derived.Deep.RegionHeld3
namespace Go.Proofs.YtgfiahfoghnpkaaGreatDoor
open Go.RowKit Go.Maps

/-- The six cells of an entry. -/
def Ent6 (w : World) (b o : Nat) (e : EV) : Prop :=
  w.cell? ⟨b, o, none⟩ = some (.string e.nm) ∧ w.cell? ⟨b, o + 1, none⟩ = some (.int .i64 e.ty) ∧ w.cell? ⟨b, o + 2, none⟩ = some (.bool e.no) ∧ w.cell? ⟨b, o + 3, none⟩ = some (.slice e.a e.n e.c) ∧ w.cell? ⟨b, o + 4, none⟩ = some (.int .i64 e.un) ∧ w.cell? ⟨b, o + 5, none⟩ = some (.int .i64 e.us)
theorem Ent6.kept {w w' : World} {b o : Nat} {e : EV} (h : Ent6 w b o e) {B : Nat} (hb : Below B w w') (hB : b < B) : Ent6 w' b o e := by
  unfold Ent6
  rw [hb.cell (p := ⟨b, o, none⟩) hB, hb.cell (p := ⟨b, o + 1, none⟩) hB, hb.cell (p := ⟨b, o + 2, none⟩) hB, hb.cell (p := ⟨b, o + 3, none⟩) hB, hb.cell (p := ⟨b, o + 4, none⟩) hB, hb.cell (p := ⟨b, o + 5, none⟩) hB]
  exact h
/-- Entries in memory, as values. -/
def EVRow (w : World) (v : Value) (L : List EV) : Prop :=
  ∃ a cap, v = .slice a L.length cap ∧ L.length ≤ cap ∧ cap ≤ 9223372036854775807 ∧ (0 < L.length → ∃ b o, a = some ⟨b, o, none⟩ ∧ b < w.heap.size ∧ ∀ j, (hj : j < L.length) → Ent6 w b (o + j * 6) L[j])
theorem box6 {W : World} {b : Nat} {v0 v1 v2 v3 v4 v5 : Value} {t : TypeId} (h : W.heap[b]? = some (.cells #[v0, v1, v2, v3, v4, v5] t)) :
    W.cell? ⟨b, 0, none⟩ = some v0 ∧ W.cell? ⟨b, 1, none⟩ = some v1 ∧ W.cell? ⟨b, 2, none⟩ = some v2 ∧ W.cell? ⟨b, 3, none⟩ = some v3 ∧ W.cell? ⟨b, 4, none⟩ = some v4 ∧ W.cell? ⟨b, 5, none⟩ = some v5 := by
  refine ⟨?_, ?_, ?_, ?_, ?_, ?_⟩ <;> (unfold World.cell?; rw [h]; rfl)
theorem map_entry : Tryz.prog.underlying 79 = some (.map 75 44) := by kernel_rfl

set_option maxRecDepth 20000 in
set_option maxHeartbeats 2000000 in
theorem keepBy_any (v : Value) (L : List EV) (w : World) (hr : EVRow w v L) (hok : Hid (∀ e ∈ L, e.ok)) (h1 : Hid (L.Pairwise (fun e f => e.key ≠ f.key))) (hl : L.length ≤ 1048576) :
    Calls Tryz.prog 78 #[v, .func (.func 72) #[] #[]] w fun e w' => ∃ B D, e = .returned (.map (some B)) ∧ w.heap.size ≤ B ∧ w'.ownsMap Tryz.prog 75 elE B L.length D ∧ MapOf D L ∧ Below w.heap.size w w' := by
  obtain ⟨a, cap, rfl, hcap, hmax, HROW0⟩ := hr
  have HROW : Hid (0 < L.length → ∃ b o, a = some ⟨b, o, none⟩ ∧ b < w.heap.size ∧ ∀ j, (hj : j < L.length) → Ent6 w b (o + j * 6) L[j]) := HROW0
  clear HROW0
  have hmm := @run_makeMap Tryz.prog
  go_enter Tryz.func78, Tryz.ntmps78
  go_wp2_with fail
  go_loopw [11] (fun i wr => ∃ k : Nat, k ≤ L.length ∧ i = .int .i64 (k : Int) ∧ Hid (∃ D, wr.ownsMap Tryz.prog 75 elE w.heap.size k D ∧ MapOf D (L.take k)) ∧ Below w.heap.size w wr) (fun i _ => L.length - (intOf i).toNat)
  case atStart => exact ⟨0, Nat.zero_le _, rfl, ⟨_, World.ownsMap_made w _ _ _, MapOf.nil⟩, (Below.refl _ _).alloc (Nat.le_refl _) _⟩
  case round =>
    obtain ⟨k, hk, rfl, HM, hbr⟩ := hrel
    clear hmm
    by_cases hlt : k < L.length
    · obtain ⟨b, o, ha, hbl, hcel⟩ := HROW.out (by omega)
      subst ha
      obtain ⟨c0, c1, c2, c3, c4, c5⟩ := (hcel k hlt).kept hbr hbl
      have hokk := hok.out _ (List.getElem_mem hlt)
      have HEK : Hid (L[k]'hlt = L[k]'hlt) := rfl
      obtain ⟨x, hx⟩ : ∃ x, x = L[k]'hlt := ⟨_, rfl⟩
      rw [← hx] at c0 c1 c2 c3 c4 c5 hokk
      have HX : Hid (x = L[k]'hlt) := hx
      have hblr : b < wr.heap.size := Nat.lt_of_lt_of_le hbl hbr.size
      have hbm : w.heap.size < wr.heap.size := by obtain ⟨D, hD, _⟩ := HM.out; exact hD.lt
      have HS0 : Hid ((wr.alloc (.cells #[.string x.nm, .int .i64 x.ty, .bool x.no, .slice x.a x.n x.c, .int .i64 x.un, .int .i64 x.us] 44)).heap[wr.heap.size]? = some (.cells #[.string x.nm, .int .i64 x.ty, .bool x.no, .slice x.a x.n x.c, .int .i64 x.un, .int .i64 x.us] 44)) := (MapKept.heap_alloc wr _).1
      clear hx hcel HEK
      go_wp2_with fail
      clear c0 c1 c2 c3 c4 c5
      obtain ⟨W0, hW0⟩ : ∃ W, W = wr.alloc (.cells #[.string x.nm, .int .i64 x.ty, .bool x.no, .slice x.a x.n x.c, .int .i64 x.un, .int .i64 x.us] 44) := ⟨_, rfl⟩
      rw [← hW0] at HS0
      rw [← hW0]
      have hWs : wr.heap.size < W0.heap.size := by rw [hW0]; simp
      have HM0 : Hid (∃ D, W0.ownsMap Tryz.prog 75 elE w.heap.size k D ∧ MapOf D (L.take k)) := by
        obtain ⟨D, hD, hM⟩ := HM.out
        exact ⟨D, by rw [hW0]; exact hD.alloc _, hM⟩
      have HB0 : Hid (Below w.heap.size w W0) := by rw [hW0]; exact hbr.alloc hbr.size _
      clear hW0
      refine wp_region_noPanic ?_
      refine wp_region_held_drew (S := fun W : World => W.heap[wr.heap.size]? = some (.cells #[.string x.nm, .int .i64 x.ty, .bool x.no, .slice x.a x.n x.c, .int .i64 x.un, .int .i64 x.us] 44)) (by kernel_rfl) HS0.out (fun hHeld => ?_)
      refine wpAnyH_take (i := 0) (v := .map (some w.heap.size)) rfl (by kernel_rfl) (by kernel_rfl) (by kernel_rfl) (fun _ _ _ h => h) (Or.inl ⟨by rfl, ?_⟩) (by assumption) ?_
      · intro W hSW
        go_simp
      simp only [Act.put, List.getElem_toArray, List.getElem_cons_zero, List.setIfInBounds_toArray, List.set_cons_succ, List.set_cons_zero]
      refine wpAnyH_take (i := 1) (v := .func (.func 72) #[] #[]) rfl (by kernel_rfl) (by kernel_rfl) (by kernel_rfl) (fun _ _ _ h => h) (Or.inl ⟨by rfl, ?_⟩) (by assumption) ?_
      · intro W hSW
        go_simp
      simp only [Act.put, List.getElem_toArray, List.getElem_cons_succ, List.getElem_cons_zero, List.setIfInBounds_toArray, List.set_cons_succ, List.set_cons_zero]
      refine wpAnyH_take (i := 2) (v := (.agg #[.string x.nm, .int .i64 x.ty, .bool x.no, .slice x.a x.n x.c, .int .i64 x.un, .int .i64 x.us])) rfl (by kernel_rfl) (by kernel_rfl) (by kernel_rfl) (fun _ _ _ h => h) (Or.inl ⟨by rfl, ?_⟩) (by assumption) ?_
      · intro W hSW
        obtain ⟨q0, q1, q2, q3, q4, q5⟩ := box6 hSW
        go_simp
      simp only [Act.put, List.getElem_toArray, List.getElem_cons_succ, List.getElem_cons_zero, List.setIfInBounds_toArray, List.set_cons_succ, List.set_cons_zero]
      refine wpAnyH_take (i := 4) (v := (.agg #[.string x.nm, .int .i64 x.ty, .bool x.no, .slice x.a x.n x.c, .int .i64 x.un, .int .i64 x.us])) rfl (by kernel_rfl) (by kernel_rfl) (by kernel_rfl) (fun _ _ _ h => h) (Or.inl ⟨by rfl, ?_⟩) (by assumption) ?_
      · intro W hSW
        obtain ⟨q0, q1, q2, q3, q4, q5⟩ := box6 hSW
        go_simp
      simp only [Act.put, List.getElem_toArray, List.getElem_cons_succ, List.getElem_cons_zero, List.setIfInBounds_toArray, List.set_cons_succ, List.set_cons_zero]
      refine wpAnyH_ready (rs := [3]) (by kernel_rfl) (by simp) ?_
      refine AllReadyH.cons rfl (fun K hK => ?_) AllReadyH.nil
      rw [if_pos (by rfl)]
      go_simp
      refine (ownerOfEntry_any x.nm x.ty x.no x.a x.n x.c x.un x.us _).mono ?_
      rintro e w2 ⟨rfl, hb2⟩
      go_simp
      have HS2 : w2.heap[wr.heap.size]? = some (.cells #[.string x.nm, .int .i64 x.ty, .bool x.no, .slice x.a x.n x.c, .int .i64 x.un, .int .i64 x.us] 44) := (hb2.block _ hWs).trans HS0.out
      have HM2 : Hid (∃ D, w2.ownsMap Tryz.prog 75 elE w.heap.size k D ∧ MapOf D (L.take k)) := by
        obtain ⟨D, hD, hM⟩ := HM0.out
        exact ⟨D, ownsMap_below hD.drew hb2, hM⟩
      have HB2 : Hid (Below w.heap.size w w2) := HB0.out.drew.trans (hb2.mono HB0.out.size)
      have hw2 : wr.heap.size < w2.heap.size := Nat.lt_of_lt_of_le hWs hb2.size
      refine hK.out _ _ HS2 (fun hS => ?_)
      clear hK
      refine wpAnyH_ready (rs := [5]) (by kernel_rfl) (by simp) ?_
      refine AllReadyH.cons rfl (fun K hK => ?_) AllReadyH.nil
      rw [if_pos (by rfl)]
      obtain ⟨D, hD, hM⟩ := HM2.out
      have hkey := key_of hokk.1 hokk.2.1 hokk.2.2
      have hval := elE_mk x
      unfold keyV at hkey
      unfold entV at hval
      obtain ⟨w3, hrun, ho3, hg3⟩ := hD.update keyed map_entry (by unfold maxLen; omega) hkey hval
      have HO3 : Hid (w3.ownsMap Tryz.prog 75 elE w.heap.size (k + 1) (D.put (keyL x.nm x.ty) (.held x))) := ho3
      have HG3 : Hid (w2.grownBy w3 (some w.heap.size)) := hg3
      have HMK : Hid (MapOf D (L.take k)) := hM
      clear ho3 hg3 hM hD hkey hval
      go_simp
      refine hK.out _ _ ((HG3.out.block _ hw2 (by simp; omega)).trans HS2) (fun hS3 => ?_)
      clear hK hrun
      refine wpAnyH_done (by kernel_rfl) ?_ _
      refine NoPanic.normal ?_
      have HM3 : Hid (∃ D, w3.ownsMap Tryz.prog 75 elE w.heap.size (k + 1) D ∧ MapOf D (L.take (k + 1))) := by
        refine ⟨_, HO3.out, ?_⟩
        rw [List.take_succ_eq_append_getElem hlt, ← HX.out]
        refine HMK.out.put hokk (fun f hf => ?_)
        obtain ⟨i, hi, rfl⟩ := List.getElem_of_mem hf
        rw [List.getElem_take]
        rw [List.length_take] at hi
        have := List.pairwise_iff_getElem.1 h1.out i k (by omega) hlt (by omega)
        rw [HX.out]
        exact this
      have HB3 : Below w.heap.size w w3 := HB2.out.grown HG3.out HB2.out.size (fun j hj => by cases hj; exact Nat.le_refl _)
      go_wp2_with fail
      go_roundw
      case rel => exact ⟨k + 1, by omega, by go_num, HM3, HB3⟩
      case measure => simp [intOf]; omega
    · go_wp2_with fail
      go_ret
      obtain ⟨D, hD, hM⟩ := HM.out
      have hkl : k = L.length := by omega
      subst hkl
      rw [List.take_length] at hM
      exact ⟨_, D, rfl, Nat.le_refl _, hD, hM, hbr⟩
end Go.Proofs.YtgfiahfoghnpkaaGreatDoor

namespace Go.Proofs.YtgfiahfoghnpkaaGreatDoor
open Go.RowKit Go.Maps

theorem key_shape (key : Value) (kl : Lit) (h : keyOf Tryz.prog 75 key = some kl) : ∃ x : ByteArray × Int, key = (fun x : ByteArray × Int => Value.agg #[.string x.1, .int .i64 x.2]) x := by
  obtain ⟨x, hx, _⟩ := key_inv key kl h
  exact ⟨x, hx⟩
theorem el_shape (v : Value) (y : DataW EV × List MemPlace) (h : elE v = some y) : ∃ e : EV, v = (fun e : EV => Value.agg #[.string e.nm, .int .i64 e.ty, .bool e.no, .slice e.a e.n e.c, .int .i64 e.un, .int .i64 e.us]) e := by
  obtain ⟨e, he, _⟩ := elE_inv v y h
  exact ⟨e, he⟩

theorem box2k {W : World} {b : Nat} {v0 v1 : Value} {t : TypeId} (h : W.heap[b]? = some (.cells #[v0, v1] t)) : W.cell? ⟨b, 0, none⟩ = some v0 ∧ W.cell? ⟨b, 1, none⟩ = some v1 := by
  refine ⟨?_, ?_⟩ <;> (unfold World.cell?; rw [h]; rfl)

end Go.Proofs.YtgfiahfoghnpkaaGreatDoor
