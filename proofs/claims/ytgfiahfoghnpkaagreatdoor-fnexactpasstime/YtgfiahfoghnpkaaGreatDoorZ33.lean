import Derived.Test.YtgfiahfoghnpkaaGreatDoorZ21
import Derived.Test.YtgfiahfoghnpkaaGreatDoorZ32
import Derived.Deep.RegionHeld3
namespace Go.Proofs.YtgfiahfoghnpkaaGreatDoor
open Go.RowKit Go.Maps

/-- The six cells of an entry. -/
def Ent6 (w : World) (b o : Nat) (e : EV) : Prop :=
  w.cell? ⟨b, o, none⟩ = some (.string e.nm) ∧ w.cell? ⟨b, o + 1, none⟩ = some (.int .i64 e.ty) ∧ w.cell? ⟨b, o + 2, none⟩ = some (.bool e.no) ∧ w.cell? ⟨b, o + 3, none⟩ = some (.slice e.a e.n e.c) ∧ w.cell? ⟨b, o + 4, none⟩ = some (.int .i64 e.un) ∧ w.cell? ⟨b, o + 5, none⟩ = some (.int .i64 e.us)
theorem Ent6.kept {w w' : World} {b o : Nat} {e : EV} (h : Ent6 w b o e) {B : Nat} (hb : Below B w w') (hB : b < B) : Ent6 w' b o e := by
  unfold Ent6
  rw [hb.cell (p := ⟨b, o, none⟩) hB, hb.cell (p := ⟨b, o + 1, none⟩) hB, hb.cell (p := ⟨b, o + 2, none⟩) hB, hb.cell (p := ⟨b, o + 3, none⟩) hB, hb.cell (p := ⟨b, o + 4, none⟩) hB, hb.cell (p := ⟨b, o + 5, none⟩) hB]
  exact h
/-- Entries in memory, as values. -/
def EVRow (w : World) (v : Value) (L : List EV) : Prop :=
  ∃ a cap, v = .slice a L.length cap ∧ L.length ≤ cap ∧ cap ≤ 9223372036854775807 ∧ (0 < L.length → ∃ b o, a = some ⟨b, o, none⟩ ∧ b < w.heap.size ∧ ∀ j, (hj : j < L.length) → Ent6 w b (o + j * 6) L[j])
theorem box6 {W : World} {b : Nat} {v0 v1 v2 v3 v4 v5 : Value} {t : TypeId} (h : W.heap[b]? = some (.cells #[v0, v1, v2, v3, v4, v5] t)) :
    W.cell? ⟨b, 0, none⟩ = some v0 ∧ W.cell? ⟨b, 1, none⟩ = some v1 ∧ W.cell? ⟨b, 2, none⟩ = some v2 ∧ W.cell? ⟨b, 3, none⟩ = some v3 ∧ W.cell? ⟨b, 4, none⟩ = some v4 ∧ W.cell? ⟨b, 5, none⟩ = some v5 := by
  refine ⟨?_, ?_, ?_, ?_, ?_, ?_⟩ <;> (unfold World.cell?; rw [h]; rfl)
theorem map_entry : Tryz.prog.underlying 79 = some (.map 75 44) := by kernel_rfl

set_option maxRecDepth 20000 in
set_option maxHeartbeats 2000000 in
theorem keepBy_any (v : Value) (L : List EV) (w : World) (hr : EVRow w v L) (hok : Hid (∀ e ∈ L, e.ok)) (h1 : Hid (L.Pairwise (fun e f => e.key ≠ f.key))) (hl : L.length ≤ 1048576) :
    Calls Tryz.prog 78 #[v, .func (.func 72) #[] #[]] w fun e w' => ∃ B D, e = .returned (.map (some B)) ∧ w.heap.size ≤ B ∧ w'.ownsMap Tryz.prog 75 elE B L.length D ∧ MapOf D L ∧ Below w.heap.size w w' := by
  obtain ⟨a, cap, rfl, hcap, hmax, HROW0⟩ := hr
  have HROW : Hid (0 < L.length → ∃ b o, a = some ⟨b, o, none⟩ ∧ b < w.heap.size ∧ ∀ j, (hj : j < L.length) → Ent6 w b (o + j * 6) L[j]) := HROW0
  clear HROW0
  have hmm := @run_makeMap Tryz.prog
  go_enter Tryz.func78, Tryz.ntmps78
  go_wp2_with fail
  go_loopw [11] (fun i wr => ∃ k : Nat, k ≤ L.length ∧ i = .int .i64 (k : Int) ∧ Hid (∃ D, wr.ownsMap Tryz.prog 75 elE w.heap.size k D ∧ MapOf D (L.take k)) ∧ Below w.heap.size w wr) (fun i _ => L.length - (intOf i).toNat)
  case atStart => exact ⟨0, Nat.zero_le _, rfl, ⟨_, World.ownsMap_made w _ _ _, MapOf.nil⟩, (Below.refl _ _).alloc (Nat.le_refl _) _⟩
  case round =>
    obtain ⟨k, hk, rfl, HM, hbr⟩ := hrel
    clear hmm
    by_cases hlt : k < L.length
    · obtain ⟨b, o, ha, hbl, hcel⟩ := HROW.out (by omega)
      subst ha
      obtain ⟨c0, c1, c2, c3, c4, c5⟩ := (hcel k hlt).kept hbr hbl
      have hokk := hok.out _ (List.getElem_mem hlt)
      have HEK : Hid (L[k]'hlt = L[k]'hlt) := rfl
      obtain ⟨x, hx⟩ : ∃ x, x = L[k]'hlt := ⟨_, rfl⟩
      rw [← hx] at c0 c1 c2 c3 c4 c5 hokk
      have HX : Hid (x = L[k]'hlt) := hx
      have hblr : b < wr.heap.size := Nat.lt_of_lt_of_le hbl hbr.size
      have hbm : w.heap.size < wr.heap.size := by obtain ⟨D, hD, _⟩ := HM.out; exact hD.lt
      have HS0 : Hid ((wr.alloc (.cells #[.string x.nm, .int .i64 x.ty, .bool x.no, .slice x.a x.n x.c, .int .i64 x.un, .int .i64 x.us] 44)).heap[wr.heap.size]? = some (.cells #[.string x.nm, .int .i64 x.ty, .bool x.no, .slice x.a x.n x.c, .int .i64 x.un, .int .i64 x.us] 44)) := (MapKept.heap_alloc wr _).1
      clear hx hcel HEK
      go_wp2_with fail
      clear c0 c1 c2 c3 c4 c5
      obtain ⟨W0, hW0⟩ : ∃ W, W = wr.alloc (.cells #[.string x.nm, .int .i64 x.ty, .bool x.no, .slice x.a x.n x.c, .int .i64 x.un, .int .i64 x.us] 44) := ⟨_, rfl⟩
      rw [← hW0] at HS0
      rw [← hW0]
      have hWs : wr.heap.size < W0.heap.size := by rw [hW0]; simp
      have HM0 : Hid (∃ D, W0.ownsMap Tryz.prog 75 elE w.heap.size k D ∧ MapOf D (L.take k)) := by
        obtain ⟨D, hD, hM⟩ := HM.out
        exact ⟨D, by rw [hW0]; exact hD.alloc _, hM⟩
      have HB0 : Hid (Below w.heap.size w W0) := by rw [hW0]; exact hbr.alloc hbr.size _
      clear hW0
      refine wp_region_noPanic ?_
      refine wp_region_held_drew (S := fun W : World => W.heap[wr.heap.size]? = some (.cells #[.string x.nm, .int .i64 x.ty, .bool x.no, .slice x.a x.n x.c, .int .i64 x.un, .int .i64 x.us] 44)) (by kernel_rfl) HS0.out (fun hHeld => ?_)
      refine wpAnyH_take (i := 0) (v := .map (some w.heap.size)) rfl (by kernel_rfl) (by kernel_rfl) (by kernel_rfl) (fun _ _ _ h => h) (Or.inl ⟨by rfl, ?_⟩) (by assumption) ?_
      · intro W hSW
        go_simp
      simp only [Act.put, List.getElem_toArray, List.getElem_cons_zero, List.setIfInBounds_toArray, List.set_cons_succ, List.set_cons_zero]
      refine wpAnyH_take (i := 1) (v := .func (.func 72) #[] #[]) rfl (by kernel_rfl) (by kernel_rfl) (by kernel_rfl) (fun _ _ _ h => h) (Or.inl ⟨by rfl, ?_⟩) (by assumption) ?_
      · intro W hSW
        go_simp
      simp only [Act.put, List.getElem_toArray, List.getElem_cons_succ, List.getElem_cons_zero, List.setIfInBounds_toArray, List.set_cons_succ, List.set_cons_zero]
      refine wpAnyH_take (i := 2) (v := (.agg #[.string x.nm, .int .i64 x.ty, .bool x.no, .slice x.a x.n x.c, .int .i64 x.un, .int .i64 x.us])) rfl (by kernel_rfl) (by kernel_rfl) (by kernel_rfl) (fun _ _ _ h => h) (Or.inl ⟨by rfl, ?_⟩) (by assumption) ?_
      · intro W hSW
        obtain ⟨q0, q1, q2, q3, q4, q5⟩ := box6 hSW
        go_simp
      simp only [Act.put, List.getElem_toArray, List.getElem_cons_succ, List.getElem_cons_zero, List.setIfInBounds_toArray, List.set_cons_succ, List.set_cons_zero]
      refine wpAnyH_take (i := 4) (v := (.agg #[.string x.nm, .int .i64 x.ty, .bool x.no, .slice x.a x.n x.c, .int .i64 x.un, .int .i64 x.us])) rfl (by kernel_rfl) (by kernel_rfl) (by kernel_rfl) (fun _ _ _ h => h) (Or.inl ⟨by rfl, ?_⟩) (by assumption) ?_
      · intro W hSW
        obtain ⟨q0, q1, q2, q3, q4, q5⟩ := box6 hSW
        go_simp
      simp only [Act.put, List.getElem_toArray, List.getElem_cons_succ, List.getElem_cons_zero, List.setIfInBounds_toArray, List.set_cons_succ, List.set_cons_zero]
      refine wpAnyH_ready (rs := [3]) (by kernel_rfl) (by simp) ?_
      refine AllReadyH.cons rfl (fun K hK => ?_) AllReadyH.nil
      rw [if_pos (by rfl)]
      go_simp
      refine (ownerOfEntry_any x.nm x.ty x.no x.a x.n x.c x.un x.us _).mono ?_
      rintro e w2 ⟨rfl, hb2⟩
      go_simp
      have HS2 : w2.heap[wr.heap.size]? = some (.cells #[.string x.nm, .int .i64 x.ty, .bool x.no, .slice x.a x.n x.c, .int .i64 x.un, .int .i64 x.us] 44) := (hb2.block _ hWs).trans HS0.out
      have HM2 : Hid (∃ D, w2.ownsMap Tryz.prog 75 elE w.heap.size k D ∧ MapOf D (L.take k)) := by
        obtain ⟨D, hD, hM⟩ := HM0.out
        exact ⟨D, ownsMap_below hD.drew hb2, hM⟩
      have HB2 : Hid (Below w.heap.size w w2) := HB0.out.drew.trans (hb2.mono HB0.out.size)
      have hw2 : wr.heap.size < w2.heap.size := Nat.lt_of_lt_of_le hWs hb2.size
      refine hK.out _ _ HS2 (fun hS => ?_)
      clear hK
      refine wpAnyH_ready (rs := [5]) (by kernel_rfl) (by simp) ?_
      refine AllReadyH.cons rfl (fun K hK => ?_) AllReadyH.nil
      rw [if_pos (by rfl)]
      obtain ⟨D, hD, hM⟩ := HM2.out
      have hkey := key_of hokk.1 hokk.2.1 hokk.2.2
      have hval := elE_mk x
      unfold keyV at hkey
      unfold entV at hval
      obtain ⟨w3, hrun, ho3, hg3⟩ := hD.update keyed map_entry (by unfold maxLen; omega) hkey hval
      have HO3 : Hid (w3.ownsMap Tryz.prog 75 elE w.heap.size (k + 1) (D.put (keyL x.nm x.ty) (.held x))) := ho3
      have HG3 : Hid (w2.grownBy w3 (some w.heap.size)) := hg3
      have HMK : Hid (MapOf D (L.take k)) := hM
      clear ho3 hg3 hM hD hkey hval
      go_simp
      refine hK.out _ _ ((HG3.out.block _ hw2 (by simp; omega)).trans HS2) (fun hS3 => ?_)
      clear hK hrun
      refine wpAnyH_done (by kernel_rfl) ?_ _
      refine NoPanic.normal ?_
      have HM3 : Hid (∃ D, w3.ownsMap Tryz.prog 75 elE w.heap.size (k + 1) D ∧ MapOf D (L.take (k + 1))) := by
        refine ⟨_, HO3.out, ?_⟩
        rw [List.take_succ_eq_append_getElem hlt, ← HX.out]
        refine HMK.out.put hokk (fun f hf => ?_)
        obtain ⟨i, hi, rfl⟩ := List.getElem_of_mem hf
        rw [List.getElem_take]
        rw [List.length_take] at hi
        have := List.pairwise_iff_getElem.1 h1.out i k (by omega) hlt (by omega)
        rw [HX.out]
        exact this
      have HB3 : Below w.heap.size w w3 := HB2.out.grown HG3.out HB2.out.size (fun j hj => by cases hj; exact Nat.le_refl _)
      go_wp2_with fail
      go_roundw
      case rel => exact ⟨k + 1, by omega, by go_num, HM3, HB3⟩
      case measure => simp [intOf]; omega
    · go_wp2_with fail
      go_ret
      obtain ⟨D, hD, hM⟩ := HM.out
      have hkl : k = L.length := by omega
      subst hkl
      rw [List.take_length] at hM
      exact ⟨_, D, rfl, Nat.le_refl _, hD, hM, hbr⟩
end Go.Proofs.YtgfiahfoghnpkaaGreatDoor

namespace Go.Proofs.YtgfiahfoghnpkaaGreatDoor
open Go.RowKit Go.Maps

theorem pass_list {L : List EV} {p : EV → Bool} {left : Lit → Bool} (hl : ∀ e ∈ L, left e.key = true) : L.filter (fun e => !p e || left e.key) = L :=
  List.filter_eq_self.2 (fun e he => by rw [hl e he]; simp)
theorem pass_end {L : List EV} {p : EV → Bool} {left : Lit → Bool} (hl : ∀ kl, left kl = false) : L.filter (fun e => !p e || left e.key) = L.filter (fun e => !p e) :=
  List.filter_congr (fun e _ => by rw [hl]; simp)
set_option maxRecDepth 100000 in
theorem one_key {L : List EV} (h1 : L.Pairwise (fun e f => e.key ≠ f.key)) {e f : EV} (he : e ∈ L) (hf : f ∈ L) (hk : f.key = e.key) : f = e := by
  obtain ⟨i, hi, rfl⟩ := List.getElem_of_mem he
  obtain ⟨j, hj, rfl⟩ := List.getElem_of_mem hf
  have hp := List.pairwise_iff_getElem.1 h1
  rcases Nat.lt_trichotomy i j with h | h | h
  · exact absurd hk.symm (hp i j hi hj h)
  · subst h; rfl
  · exact absurd hk (hp j i hj hi h)
set_option maxRecDepth 100000 in
theorem pass_keep {L : List EV} (h1 : L.Pairwise (fun e f => e.key ≠ f.key)) {p : EV → Bool} {left : Lit → Bool} {e : EV} (he : e ∈ L) (hp : p e = false) : L.filter (fun f => !p f || (left f.key && !f.key.sameKey e.key)) = L.filter (fun f => !p f || left f.key) := by
  refine List.filter_congr (fun f hf => ?_)
  by_cases hk : f.key = e.key
  · have := one_key h1 he hf hk
    subst this
    rw [hp]; rfl
  · rw [sameKey_ne hk]; simp
set_option maxRecDepth 100000 in
theorem pass_drop {L : List EV} (h1 : L.Pairwise (fun e f => e.key ≠ f.key)) {p : EV → Bool} {left : Lit → Bool} {e : EV} (he : e ∈ L) (hok : e.ok) (hp : p e = true) : (L.filter (fun f => !p f || left f.key)).filter (fun f => !f.key.sameKey e.key) = L.filter (fun f => !p f || (left f.key && !f.key.sameKey e.key)) := by
  rw [List.filter_filter]
  refine List.filter_congr (fun f hf => ?_)
  by_cases hk : f.key = e.key
  · have := one_key h1 he hf hk
    subst this
    have hkk : WideAt.IsKeyLit f.key := key_is hok
    rw [hp, WideAt.sameKey_self hkk]; simp
  · rw [sameKey_ne hk]; simp
theorem key_shape (key : Value) (kl : Lit) (h : keyOf Tryz.prog 75 key = some kl) : ∃ x : ByteArray × Int, key = (fun x : ByteArray × Int => Value.agg #[.string x.1, .int .i64 x.2]) x := by
  obtain ⟨x, hx, _⟩ := key_inv key kl h
  exact ⟨x, hx⟩
theorem el_shape (v : Value) (y : DataW EV × List MemPlace) (h : elE v = some y) : ∃ e : EV, v = (fun e : EV => Value.agg #[.string e.nm, .int .i64 e.ty, .bool e.no, .slice e.a e.n e.c, .int .i64 e.un, .int .i64 e.us]) e := by
  obtain ⟨e, he, _⟩ := elE_inv v y h
  exact ⟨e, he⟩

/-- A range under way, in a later world. -/
theorem ranges_below {w w' : World} {b r n : Nat} {D : DataW EV} {left : Lit → Bool} {cnt : Nat} (h : w.ranges Tryz.prog 75 elE b r n D left cnt) (hb : Below w.heap.size w w') : w'.ranges Tryz.prog 75 elE b r n D left cnt := by
  have h1 := h.owns.lt
  have h2 := h.lt
  obtain ⟨es, clock, since, seen, c0, hbl, F, hs, hD, hr, q1, q2, q3, q4, q5, q6⟩ := h
  exact ⟨es, clock, since, seen, c0, (hb.block b h1).trans hbl, F, hs, hD, (hb.block r h2).trans hr, q1, q2, q3, q4, q5, q6⟩
theorem filter_both {L : List EV} (p : EV → Bool) : (L.filter p).length + (L.filter (fun e => !p e)).length = L.length := by
  induction L with
  | nil => rfl
  | cons e L ih => cases hp : p e <;> simp [hp] <;> omega
theorem box2k {W : World} {b : Nat} {v0 v1 : Value} {t : TypeId} (h : W.heap[b]? = some (.cells #[v0, v1] t)) : W.cell? ⟨b, 0, none⟩ = some v0 ∧ W.cell? ⟨b, 1, none⟩ = some v1 := by
  refine ⟨?_, ?_⟩ <;> (unfold World.cell?; rw [h]; rfl)

set_option maxRecDepth 20000 in
set_option maxHeartbeats 4000000 in
theorem dropTime_any (pb : Nat) (p : EV → Bool) (B n : Nat) (D : DataW EV) (L : List EV) (w : World) (hown : w.ownsMap Tryz.prog 75 elE B n D) (hM : Hid (MapOf D L)) (hn : L.length ≤ 1048576)
    (hfit : Hid (∀ e W, e ∈ L → Kpt w W (· = B) → Calls Tryz.prog 57 #[.agg #[.string e.nm, .int .i64 e.ty, .bool e.no, .slice e.a e.n e.c, .int .i64 e.un, .int .i64 e.us], .pointer (some ⟨pb, 0, none⟩)] W fun r w' => r = .returned (.bool (p e)) ∧ Below W.heap.size W w')) :
    Calls Tryz.prog 56 #[.map (some B), .func (.func 57) #[] #[.pointer (some ⟨pb, 0, none⟩)]] w fun e w' => ∃ D', e = .returned (.int .i64 ((L.filter p).length : Int)) ∧ w'.ownsMap Tryz.prog 75 elE B n D' ∧ MapOf D' (L.filter (fun e => !p e)) ∧ Kpt w w' (· = B) := by
  have h1 : Hid (L.Pairwise (fun e f => e.key ≠ f.key)) := hM.out.one
  have hBl := hown.lt
  go_enter Tryz.func56, Tryz.ntmps56
  go_wp2_with (first | (at_len; refine wpList_len_own _ rfl _ 79 rfl 75 44 map_entry _ B n D rfl hown ?_) | (at_range; refine wpList_range_own _ rfl _ 79 rfl 75 44 keyed map_entry _ B n D rfl hown ?_; intro w0 hrg0 hg0 hs0) | go_in)
  go_frame
  have HK0 : Hid (Kpt w w0 (· = B)) := (grown_kpt hg0).mono (fun k _ h => by cases h)
  rw [show Maps.size D = L.length from hM.out.size]
  clear hown hg0 hs0
  go_loopw [12] (fun _ wr => ∃ left cnt D1, Hid (wr.ranges Tryz.prog 75 elE B w.heap.size n D1 left cnt) ∧ Hid (MapOf D1 (L.filter (fun e => !p e || left e.key))) ∧ Hid (Kpt w wr (fun k => k = B ∨ w.heap.size ≤ k))) (fun _ wr => wr.rangeLeft B w.heap.size)
  case atStart =>
    refine ⟨_, _, D, hrg0, ?_, HK0.out.mono (fun k _ h => .inl h)⟩
    rw [pass_list (fun e he => (hM.out.has _).2 ⟨e, he, rfl⟩)]
    exact hM
  case round =>
    obtain ⟨left, cnt, D1, HR, HM1, HKR⟩ := hrel
    have hrg := HR.out
    go_wp2_with (first | (at_next; refine wpList_next_ranges _ rfl _ rfl 75 keyed elE (fun x : ByteArray × Int => Value.agg #[.string x.1, .int .i64 x.2]) (fun e : EV => Value.agg #[.string e.nm, .int .i64 e.ty, .bool e.no, .slice e.a e.n e.c, .int .i64 e.un, .int .i64 e.us]) key_shape el_shape B w.heap.size n D1 left cnt rfl hrg ?_ ?_) | go_in)
    · intro _ hl0
      rw [pass_end hl0] at HM1
      have hown1 := hrg.owns
      have hsz1 := HM1.out.size
      have hcnt := filter_both (L := L) p
      have HEND : Hid (∃ D', wr.ownsMap Tryz.prog 75 elE B n D' ∧ MapOf D' (L.filter (fun e => !p e)) ∧ Kpt w wr (· = B)) := ⟨D1, hown1, HM1.out, HKR.out.mono (fun k hk h => by rcases h with h | h; exact h; omega)⟩
      obtain ⟨m1, hm1⟩ : ∃ m, m = (L.filter (fun e => !p e)).length := ⟨_, rfl⟩
      obtain ⟨m2, hm2⟩ : ∃ m, m = (L.filter p).length := ⟨_, rfl⟩
      rw [← hm1] at hsz1
      rw [← hm1, ← hm2] at hcnt
      have HM2 : Hid (m2 = (L.filter p).length) := hm2
      clear hm1 hm2 HM1 HR hrg
      go_wp2_with (first | (at_len; refine wpList_len_own _ rfl _ 79 rfl 75 44 map_entry _ B n D1 rfl hown1 ?_) | go_in)
      go_ret
      obtain ⟨D', e1, e2, e3⟩ := HEND.out
      refine ⟨D', ?_, e1, e2, e3⟩
      rw [← HM2.out]
      show Ending.returned (Value.int .i64 ((L.length : Int) - (m1 : Int))) = _
      rw [show (L.length : Int) - (m1 : Int) = (m2 : Int) by omega]
    · intro a b c kl y ps w1 cnt1 hkey hlk hel hat hrg1 hlt hg1 hs1 hen
      have hy : y = .held c := by
        have h2 := elE_mk c
        unfold entV at h2
        rw [h2] at hel
        exact (congrArg Prod.fst (Option.some.inj hel)).symm
      subst hy
      have hin : c ∈ L ∧ c.key = kl ∧ c.ok ∧ c ∈ L.filter (fun e => !p e || left e.key) := by
        obtain ⟨f, hf, hfk⟩ := (HM1.out.has kl).1 (has_true_of_atKey hat)
        have h2 := HM1.out.at' f hf .nil
        rw [hfk, hat] at h2
        cases h2
        exact ⟨(List.mem_filter.1 hf).1, hfk, HM1.out.ok _ hf, hf⟩
      obtain ⟨hcL, hck, hcok, hcf⟩ := hin
      have HIN : Hid (c ∈ L ∧ c.key = kl ∧ c.ok ∧ c ∈ L.filter (fun e => !p e || left e.key)) := ⟨hcL, hck, hcok, hcf⟩
      have HR1 : Hid (w1.ranges Tryz.prog 75 elE B w.heap.size n D1 (fun z => left z && !z.sameKey kl) cnt1) := hrg1
      have HKEY : Hid (keyOf Tryz.prog 75 (Value.agg #[.string a, .int .i64 b]) = some kl) := hkey
      have HK1 : Hid (Kpt w w1 (fun k => k = B ∨ w.heap.size ≤ k)) := HKR.out.trans ((grown_kpt hg1).mono (fun k _ h => .inr (by cases h; exact Nat.le_refl _)))
      have HCNT : Hid (cnt1 < cnt) := hlt
      have hw1 : w.heap.size ≤ w1.heap.size := HK1.out.size
      have HLE : Hid (wr.rangeLeft B w.heap.size = cnt) := hrg.left_eq
      clear hat hel hrg1 hg1 hs1 hkey hrg hcL hck hcok hcf hlk hlt HKR HR
      have HF2 : Hid (∀ W, Kpt w W (fun k => k = B ∨ w.heap.size ≤ k) → Calls Tryz.prog 57 #[.agg #[.string c.nm, .int .i64 c.ty, .bool c.no, .slice c.a c.n c.c, .int .i64 c.un, .int .i64 c.us], .pointer (some ⟨pb, 0, none⟩)] W fun r w' => r = .returned (.bool (p c)) ∧ Below W.heap.size W w') := fun W hW => hfit.out c W HIN.out.1 (hW.mono (fun k hk h => by rcases h with h | h; exact h; omega))
      go_wp2_with fail
      have hs2 : w1.heap.size + 1 = (w1.alloc (.cells #[.string a, .int .i64 b] 75)).heap.size := by simp
      have HKX : Hid (((w1.alloc (.cells #[.string a, .int .i64 b] 75)).alloc (.cells #[.string c.nm, .int .i64 c.ty, .bool c.no, .slice c.a c.n c.c, .int .i64 c.un, .int .i64 c.us] 44)).heap[w1.heap.size]? = some (.cells #[.string a, .int .i64 b] 75)) := (Below.heap_alloc _ _ _ (by simp)).trans (MapKept.heap_alloc w1 _).1
      have HR2 : Hid (((w1.alloc (.cells #[.string a, .int .i64 b] 75)).alloc (.cells #[.string c.nm, .int .i64 c.ty, .bool c.no, .slice c.a c.n c.c, .int .i64 c.un, .int .i64 c.us] 44)).ranges Tryz.prog 75 elE B w.heap.size n D1 (fun z => left z && !z.sameKey kl) cnt1) := (HR1.out.alloc _).alloc _
      have HK2 : Hid (Kpt w ((w1.alloc (.cells #[.string a, .int .i64 b] 75)).alloc (.cells #[.string c.nm, .int .i64 c.ty, .bool c.no, .slice c.a c.n c.c, .int .i64 c.un, .int .i64 c.us] 44)) (fun k => k = B ∨ w.heap.size ≤ k)) := (HK1.out.trans (kpt_alloc _ _ _)).trans (kpt_alloc _ _ _)
      obtain ⟨w2, hw2⟩ : ∃ W, W = (w1.alloc (.cells #[.string a, .int .i64 b] 75)).alloc (.cells #[.string c.nm, .int .i64 c.ty, .bool c.no, .slice c.a c.n c.c, .int .i64 c.un, .int .i64 c.us] 44) := ⟨_, rfl⟩
      rw [← hw2] at HKX HR2 HK2
      rw [← hw2]
      have hlt2 : w1.heap.size < w2.heap.size := by rw [hw2]; simp; omega
      clear hw2 hs2 HK1 HR1
      refine (HF2.out _ HK2.out).mono ?_
      rintro e w3 ⟨rfl, hb3⟩
      have HKX3 : Hid (w3.heap[w1.heap.size]? = some (.cells #[.string a, .int .i64 b] 75)) := (hb3.block _ hlt2).trans HKX.out
      have HR3 : Hid (w3.ranges Tryz.prog 75 elE B w.heap.size n D1 (fun z => left z && !z.sameKey kl) cnt1) := ranges_below HR2.out hb3
      have HK3 : Hid (Kpt w w3 (fun k => k = B ∨ w.heap.size ≤ k)) := HK2.out.trans (below_kpt0 hb3 _)
      clear HKX HR2 HK2 HF2 hb3 hen
      obtain ⟨pc, hpc⟩ : ∃ pc, pc = p c := ⟨_, rfl⟩
      have HPC : Hid (p c = pc) := hpc.symm
      rw [← hpc]
      clear hpc
      cases pc with
      | false =>
        have HM3 : Hid (MapOf D1 (L.filter (fun e => !p e || (left e.key && !e.key.sameKey kl)))) := by
          rw [← HIN.out.2.1, pass_keep h1.out HIN.out.1 HPC.out]; exact HM1
        go_wp2_with fail
        go_roundw
        case rel => exact ⟨_, cnt1, D1, HR3, HM3, HK3⟩
        case measure => rw [HR3.out.left_eq, HLE.out]; exact HCNT.out
      | true =>
        have hrg3 := HR3.out
        obtain ⟨c0, c1⟩ := box2k HKX3.out
        have hkey := HKEY.out
        have HM3 : Hid (MapOf (D1.del kl) (L.filter (fun e => !p e || (left e.key && !e.key.sameKey kl)))) := by
          have h2 := HM1.out.del HIN.out.2.2.2
          rw [HIN.out.2.1] at h2
          have h3 := pass_drop (left := left) h1.out HIN.out.1 HIN.out.2.2.1 HPC.out
          rw [HIN.out.2.1] at h3
          rw [← h3]; exact h2
        go_wp2_with (first | (at_delete; refine wpList_delete_ranges _ rfl _ _ 79 75 rfl 44 keyed map_entry elE B w.heap.size n D1 _ cnt1 rfl hrg3 _ kl rfl hkey ?_; intro w4 cnt4 hrg4 hle4 hturn) | go_in)
        go_frame
        rw [strike_twice] at hrg4
        have HK4 : Hid (Kpt w w4 (fun k => k = B ∨ w.heap.size ≤ k)) := HK3.out.trans ((grown_kpt hturn.grown).mono (fun k _ h => .inl (by cases h; rfl)))
        have HR4 : Hid (w4.ranges Tryz.prog 75 elE B w.heap.size n (D1.del kl) (fun z => left z && !z.sameKey kl) cnt4) := hrg4
        clear hrg4 hrg3 hturn c0 c1 hkey
        go_wp2_with fail
        go_roundw
        case rel => exact ⟨_, cnt4, D1.del kl, HR4, HM3, HK4⟩
        case measure => rw [HR4.out.left_eq, HLE.out]; have := HCNT.out; omega
end Go.Proofs.YtgfiahfoghnpkaaGreatDoor
