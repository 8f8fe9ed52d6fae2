import Derived.Test.YtgfiahfoghnpkaaGreatDoorZ42
import Derived.Test.YtgfiahfoghnpkaaGreatDoorZ19
import Derived.Test.YtgfiahfoghnpkaaGreatDoorZ36
import Derived.Test.YtgfiahfoghnpkaaGreatDoorZ30
namespace Go.Proofs.YtgfiahfoghnpkaaGreatDoor
open Go.RowKit Go.Maps

abbrev RecL : Type := List (List UInt8 × Int × Int × List UInt8)
def EV.sl (e : EV) : Value := .slice e.a e.n e.c
/-- Sorted by the order of entries, and rising: there is one such list alone. -/
theorem srt_is : ∀ {Q L : List EV}, (∀ x ∈ L, nameB x.nm.data.toList = true) → Q.Perm L → srtE Q → L.Pairwise (fun x y => cmpE x y < 0) → Q = L
  | [], L, _, hp, _, _ => (hp.symm.eq_nil).symm
  | q :: Q, [], _, hp, _, _ => by have := hp.length_eq; simp at this
  | q :: Q, x :: L, hN, hp, hs, hr => by
    unfold srtE at hs
    rw [List.pairwise_cons] at hs hr
    have hq : q = x := by
      rcases List.mem_cons.1 (hp.mem_iff.1 (by simp : q ∈ q :: Q)) with h | h
      · exact h
      · have h1 := hr.1 q h
        rcases List.mem_cons.1 (hp.mem_iff.2 (by simp : x ∈ x :: L)) with h2 | h2
        · exact h2.symm
        · exact absurd h1 (hs.1 x h2)
    subst hq
    rw [srt_is (fun y hy => hN y (by simp [hy])) (hp.cons_inv) hs.2 hr.2]

/-- Entries that the call has made: a row of its own, the records of each in a row of their own. -/
structure EBld (w : World) (base : Nat) (v : Value) (M : List (EV × RecL)) : Prop where
  row : w.ownsRow base 44 6 v M.length (ecells (M.map (·.1)))
  recs : ∀ p ∈ M, OwnQ w base p.1.sl p.2
  apart : M.Pairwise (fun p q => ∀ g, p.1.sl.ownBlock = some g → q.1.sl.ownBlock ≠ some g)
  off : ∀ p ∈ M, ∀ g, p.1.sl.ownBlock = some g → v.ownBlock ≠ some g
theorem EBld.nil (w : World) (base : Nat) : EBld w base (.slice none 0 0) [] := ⟨World.ownsRow_nil _ _ _ _, fun p h => (by cases h), List.Pairwise.nil, fun p h => (by cases h)⟩
theorem EBld.kept {w w' : World} {base : Nat} {v : Value} {M : List (EV × RecL)} (h : EBld w base v M) (hb : Below w.heap.size w w') : EBld w' base v M :=
  ⟨own_kpt h.row (below_kpt0 hb (fun _ => False)) (fun _ _ => id), fun p hp => (h.recs p hp).kept hb, h.apart, h.off⟩
theorem EBld.kpt {w w' : World} {base : Nat} {v : Value} {M : List (EV × RecL)} {S : Nat → Prop} (h : EBld w base v M) (hk : Kpt w w' S) (hn : ∀ g, base ≤ g → g < w.heap.size → ¬ S g) : EBld w' base v M :=
  ⟨own_kpt h.row hk (fun g hg => hn g (h.row.lt g hg).1 (h.row.lt g hg).2), fun p hp => (h.recs p hp).kpt hk (fun g hg => hn g ((h.recs p hp).lt g hg).1 ((h.recs p hp).lt g hg).2), h.apart, h.off⟩
/-- One entry more. -/
theorem EBld.add {w w' : World} {base : Nat} {v v' : Value} {M : List (EV × RecL)} {x : EV} {R : RecL} (h : EBld w base v M) (hx : OwnQ w base x.sl R) (hxn : ∀ p ∈ M, ∀ g, p.1.sl.ownBlock = some g → x.sl.ownBlock ≠ some g) (hxo : ∀ g, x.sl.ownBlock = some g → v.ownBlock ≠ some g)
    (hr : w'.ownsRow base 44 6 v' (M.length + 1) (ecells (M.map (·.1)) ++ [.string x.nm, .int .i64 x.ty, .bool x.no, .slice x.a x.n x.c, .int .i64 x.un, .int .i64 x.us])) (hk : Kpt w w' (fun k => v.ownBlock = some k)) (hat : v'.ownBlock = v.ownBlock ∨ ∀ g, v'.ownBlock = some g → w.heap.size ≤ g) : EBld w' base v' (M ++ [(x, R)]) := by
  refine ⟨?_, fun p hp => ?_, ?_, fun p hp g hg => ?_⟩
  · rw [List.length_append, List.map_append]
    have e : ecells (M.map (·.1) ++ [(x, R)].map (·.1)) = ecells (M.map (·.1)) ++ [.string x.nm, .int .i64 x.ty, .bool x.no, .slice x.a x.n x.c, .int .i64 x.un, .int .i64 x.us] := ecells_snoc _ x
    rw [e]; exact hr
  · rcases List.mem_append.1 hp with h1 | h1
    · exact (h.recs p h1).kpt hk (fun g hg => h.off p h1 g hg)
    · rw [List.mem_singleton] at h1; subst h1; exact hx.kpt hk (fun g hg => hxo g hg)
  · rw [List.pairwise_append]
    exact ⟨h.apart, List.pairwise_singleton _ _, fun p hp q hq => by rw [List.mem_singleton] at hq; subst hq; exact hxn p hp⟩
  · have hlt : g < w.heap.size := by
      rcases List.mem_append.1 hp with h1 | h1
      · exact ((h.recs p h1).lt g hg).2
      · rw [List.mem_singleton] at h1; subst h1; exact (hx.lt g hg).2
    have hne : v.ownBlock ≠ some g := by
      rcases List.mem_append.1 hp with h1 | h1
      · exact h.off p h1 g hg
      · rw [List.mem_singleton] at h1; subst h1; exact hxo g hg
    rcases hat with h1 | h1
    · rw [h1]; exact hne
    · exact fun e => by have := h1 g e; omega
end Go.Proofs.YtgfiahfoghnpkaaGreatDoor

namespace Go.Proofs.YtgfiahfoghnpkaaGreatDoor
open Go.RowKit Go.Maps

/-- What an entry says, whose records lie elsewhere. -/
def conT (p : EV × RecL) : EntT := (p.1.nm.data.toList, p.1.ty, p.1.no, p.2, p.1.un, p.1.us)
/-- A cache in a box. -/
def CBox (W : World) (b : Nat) (v0 v1 : Value) : Prop := W.heap[b]? = some (.cells #[v0, v1] 30)
section
variable {W W' : World} {b : Nat} {v0 v1 : Value}
theorem CBox.cells (h : CBox W b v0 v1) : W.cell? ⟨b, 0, none⟩ = some v0 ∧ W.cell? ⟨b, 1, none⟩ = some v1 := box2k h
theorem CBox.free (h : CBox W b v0 v1) : W.frozen? ⟨b, 0, none⟩ = false ∧ W.frozen? ⟨b, 1, none⟩ = false := by
  unfold CBox at h
  refine ⟨?_, ?_⟩ <;> (unfold World.frozen?; rw [h]; simp)
theorem CBox.lt (h : CBox W b v0 v1) : b < W.heap.size := (Array.getElem?_eq_some_iff.1 h).1
theorem CBox.kpt {S : Nat → Prop} (h : CBox W b v0 v1) (hk : Kpt W W' S) (hn : ¬ S b) : CBox W' b v0 v1 := (hk.block b h.lt hn).trans h
theorem CBox.kept (h : CBox W b v0 v1) (hb : Below W.heap.size W W') : CBox W' b v0 v1 := (hb.block b h.lt).trans h
theorem cbox_new (w : World) : CBox (w.alloc (.cells #[v0, v1] 30)) w.heap.size v0 v1 := (MapKept.heap_alloc w _).1
theorem CBox.set0 (h : CBox W b v0 v1) (u : Value) : CBox (W.setCell ⟨b, 0, none⟩ u) b u v1 := heap_setCell_same _ _ 0 _ _ u h
theorem CBox.set1 (h : CBox W b v0 v1) (u : Value) : CBox (W.setCell ⟨b, 1, none⟩ u) b v0 u := heap_setCell_same _ _ 1 _ _ u h
end
theorem own_base {w : World} {base base' : Nat} {e : TypeId} {z : Nat} {v : Value} {n : Nat} {xs : List Value} (h : w.ownsRow base e z v n xs) (hb : base' ≤ base) : w.ownsRow base' e z v n xs := by
  obtain ⟨hl, hh | ⟨g, cap, cur, rfl, hg2, hh, hr⟩⟩ := h
  · exact ⟨hl, .inl hh⟩
  · exact ⟨hl, .inr ⟨g, cap, cur, rfl, Nat.le_trans hb hg2, hh, hr⟩⟩
theorem own6_slice {w : World} {base : Nat} {v : Value} {n : Nat} {xs : List Value} (h : w.ownsRow base 44 6 v n xs) : ∃ a c, v = .slice a n c := by
  rcases h.2 with ⟨rfl, hn⟩ | ⟨g, cap, cur, rfl, _⟩
  · exact ⟨none, 0, by rw [hn]⟩
  · exact ⟨_, cap, rfl⟩

set_option maxRecDepth 20000 in
set_option maxHeartbeats 6000000 in
theorem cacheOf_any (now : Int) (b nn : Nat) (D : DataW EV) (L : List EV) (rc : EV → RecL) (w : World) (hE : Env w) (hown : w.ownsMap Tryz.prog 75 elE b nn D) (hM : Hid (MapOf D L)) (hN : Hid (∀ x ∈ L, nameB x.nm.data.toList = true)) (hris : Hid (L.Pairwise (fun x y => cmpE x y < 0))) (hl : L.length ≤ 1048576)
    (hrec : Hid (∀ e ∈ L, RRow w e.sl (rc e) ∧ (rc e).length ≤ 1048576 ∧ (∀ r ∈ rc e, r.1.length ≤ 1048576 ∧ r.2.2.2.length ≤ 1048576) ∧ e.nm.size ≤ 1048576)) :
    Calls Tryz.prog 53 #[.int .i64 now, .map (some b)] w fun e w' => ∃ v M, e = .returned (.agg #[.int .i64 now, v]) ∧ EBld w' w.heap.size v M ∧ M.map conT = L.map (fun e => conT (e, rc e)) ∧ Below w.heap.size w w' := by
  obtain ⟨W0, hW0⟩ : ∃ W0, W0 = (w.alloc (.cells #[.int .i64 0, .slice none 0 0] 30)).alloc (.cells #[.int .i64 now, .slice none 0 0] 30) := ⟨_, rfl⟩
  have HW0 : Hid ((w.alloc (.cells #[.int .i64 0, .slice none 0 0] 30)).alloc (.cells #[.int .i64 now, .slice none 0 0] 30) = W0) := hW0.symm
  have hs1 : (w.alloc (.cells #[.int .i64 0, .slice none 0 0] 30)).heap.size = w.heap.size + 1 := by simp
  have HR0 : Hid (CBox W0 w.heap.size (.int .i64 0) (.slice none 0 0)) := by rw [hW0]; exact (cbox_new w).kpt (kpt_alloc _ _ (fun _ => False)) id
  have HC0 : Hid (CBox W0 (w.heap.size + 1) (.int .i64 now) (.slice none 0 0)) := by
    rw [hW0]
    have h := cbox_new (w.alloc (.cells #[.int .i64 0, .slice none 0 0] 30)) (v0 := .int .i64 now) (v1 := .slice none 0 0)
    rw [hs1] at h
    exact h
  have hb0 : Below w.heap.size w W0 := by rw [hW0]; exact ((Below.refl _ _).alloc (Nat.le_refl _) _).alloc (by simp) _
  have HO0 : Hid (W0.ownsMap Tryz.prog 75 elE b nn D) := by rw [hW0]; exact (hown.alloc _).alloc _
  clear hW0 hs1 hown
  go_enter Tryz.func53, Tryz.ntmps53
  go_wp2_with fail
  rw [HW0.out]
  refine (inOrder_any b nn D L hM hN hl W0 (hE.below hb0) HO0.out).mono ?_
  rintro e w1 ⟨v, Q, rfl, hp, hso, hr, hgo, hb1⟩
  obtain rfl : Q = L := srt_is hN.out hp hso hris.out
  obtain ⟨a, cap, rfl, hcap, hmax, hrow⟩ := hr
  have hz0 : w.heap.size + 1 < W0.heap.size := HC0.out.lt
  have HROW : Hid (0 < Q.length → ∃ b o, a = some ⟨b, o, none⟩ ∧ b < w1.heap.size ∧ w.heap.size + 1 < b ∧ ∀ j, (hj : j < Q.length) → Ent6 w1 b (o + j * 6) Q[j]) := fun h0 => by
    obtain ⟨b, o, ha, hb, hc⟩ := hrow h0
    subst ha
    exact ⟨b, o, rfl, hb, Nat.lt_of_lt_of_le hz0 (hgo b rfl), hc⟩
  have HR1 : Hid (CBox w1 w.heap.size (.int .i64 0) (.slice none 0 0)) := HR0.out.kept hb1
  have HC1 : Hid (CBox w1 (w.heap.size + 1) (.int .i64 now) (.slice none 0 0)) := HC0.out.kept hb1
  have hb01 : Below w.heap.size w w1 := hb0.trans (hb1.mono hb0.size)
  have hz1 : w.heap.size + 1 < w1.heap.size := HC1.out.lt
  clear hp hso hrow hb1 hb0 HR0 HC0 HO0 hgo hz0
  go_wp2_with fail
  go_loopw [13] (fun i wr => ∃ (k : Nat) (v : Value) (M : List (EV × RecL)), k ≤ Q.length ∧ i = .int .i64 (k : Int) ∧ Hid (CBox wr (w.heap.size + 1) (.int .i64 now) v) ∧ Hid (EBld wr w1.heap.size v M) ∧ Hid (M.map conT = (Q.take k).map (fun e => conT (e, rc e))) ∧ Hid (Kpt w1 wr (fun j => j = w.heap.size + 1 ∨ w1.heap.size ≤ j))) (fun i _ => Q.length - (intOf i).toNat)
  case atStart => exact ⟨0, _, [], Nat.zero_le _, rfl, HC1, EBld.nil _ _, (by show _ = _; simp), Kpt.refl _ _⟩
  case round =>
    obtain ⟨k, v, M, hk, rfl, HC, HB, HMT, HK⟩ := hrel
    have hwr : w1.heap.size ≤ wr.heap.size := HK.out.size
    have HBW : Hid (Below w.heap.size w wr) := hb01.trans (HK.out.below hb01.size (fun j hj h => by rcases h with h | h <;> omega))
    by_cases hlt : k < Q.length
    · obtain ⟨bq, oq, ha, hbl, hbg, hcel⟩ := HROW.out (by omega)
      subst ha
      have hcx := hcel k hlt
      have HXQ : Hid ((Q.take (k + 1)).map (fun e => conT (e, rc e)) = (Q.take k).map (fun e => conT (e, rc e)) ++ [conT (Q[k]'hlt, rc (Q[k]'hlt))]) := by show _ = _; rw [List.take_succ_eq_append_getElem hlt, List.map_append]; rfl
      have hrx := hrec.out _ (List.getElem_mem hlt)
      obtain ⟨x, hx⟩ : ∃ x, x = Q[k]'hlt := ⟨_, rfl⟩
      rw [← hx] at hcx hrx HXQ
      have hcw : Ent6 wr bq (oq + k * 6) x := by
        obtain ⟨q0, q1, q2, q3, q4, q5⟩ := hcx
        have hns : ¬ (bq = w.heap.size + 1 ∨ w1.heap.size ≤ bq) := by omega
        exact ⟨HK.out.cell q0 hns, HK.out.cell q1 hns, HK.out.cell q2 hns, HK.out.cell q3 hns, HK.out.cell q4 hns, HK.out.cell q5 hns⟩
      obtain ⟨c0, c1, c2, c3, c4, c5⟩ := hcw
      have hbr : bq < wr.heap.size := Nat.lt_of_lt_of_le hbl hwr
      have HRX : Hid (RRow wr x.sl (rc x) ∧ (rc x).length ≤ 1048576 ∧ (∀ r ∈ rc x, r.1.length ≤ 1048576 ∧ r.2.2.2.length ≤ 1048576) ∧ x.nm.size ≤ 1048576) := ⟨hrx.1.kept HBW.out, hrx.2⟩
      clear hcel hcx hx hrx
      go_wp2_with fail
      clear c0 c1 c2 c3 c4 c5
      obtain ⟨W2, hW2⟩ : ∃ W, W = wr.alloc (.cells #[.string x.nm, .int .i64 x.ty, .bool x.no, .slice x.a x.n x.c, .int .i64 x.un, .int .i64 x.us] 44) := ⟨_, rfl⟩
      have HS0 : Hid (EBox W2 wr.heap.size (.string x.nm) (.int .i64 x.ty) (.bool x.no) (.slice x.a x.n x.c) (.int .i64 x.un) (.int .i64 x.us)) := by rw [hW2]; exact ebox_new wr
      have HC2 : Hid (CBox W2 (w.heap.size + 1) (.int .i64 now) v) := by rw [hW2]; exact HC.out.kpt (kpt_alloc _ _ (fun _ => False)) id
      have hb2 : Below wr.heap.size wr W2 := by rw [hW2]; exact (Below.refl _ _).alloc (Nat.le_refl _) _
      have HB2 : Hid (EBld W2 w1.heap.size v M) := HB.out.kept hb2
      have hz2 : wr.heap.size < W2.heap.size := HS0.out.lt
      have HK2 : Hid (Kpt w1 W2 (fun j => j = w.heap.size + 1 ∨ w1.heap.size ≤ j)) := HK.out.trans (below_kpt0 hb2 _)
      have HCE : Hid (∀ W, Below W2.heap.size W2 W → Calls Tryz.prog 80 #[.agg #[.string x.nm, .int .i64 x.ty, .bool x.no, .slice x.a x.n x.c, .int .i64 x.un, .int .i64 x.us]] W fun e w' => ∃ a n c, e = .returned (.agg #[.string x.nm, .int .i64 x.ty, .bool x.no, .slice a n c, .int .i64 x.un, .int .i64 x.us]) ∧ OwnQ w' W.heap.size (.slice a n c) (rc x) ∧ Below W.heap.size W w') := fun W hW => copyEntry_any x (rc x) W (HRX.out.1.kept (hb2.trans (hW.mono hb2.size))) HRX.out.2.1 HRX.out.2.2.1 HRX.out.2.2.2
      rw [← hW2]
      have HLT1 : ∀ g, v.ownBlock = some g → w1.heap.size ≤ g ∧ g ≠ wr.heap.size := fun g hg => by have h1 := HB.out.row.lt g hg; exact ⟨h1.1, by omega⟩
      have HLT0 : Hid (∀ g, v.ownBlock = some g → w1.heap.size ≤ g ∧ g ≠ wr.heap.size) := HLT1
      clear hW2 HC HB HK HLT1
      obtain ⟨i0, hi, hz0, hz1', hz2'⟩ := info_parts info_ev
      obtain ⟨av, cv, hv⟩ := own6_slice HB2.out.row
      subst hv
      have HML : Hid (M.length = k) := by have h := congrArg List.length HMT.out; simp at h; show _ = _; omega
      have hML : M.length ≤ 1048576 := by have := HML.out; omega
      refine wp_region_noPanic ?_
      refine wp_region_held_drew (S := fun W : World => EBox W wr.heap.size (.string x.nm) (.int .i64 x.ty) (.bool x.no) (.slice x.a x.n x.c) (.int .i64 x.un) (.int .i64 x.us)) (by kernel_rfl) HS0.out (fun hHeld => ?_)
      refine wpAnyH_take (i := 0) (v := .pointer (some ⟨w.heap.size + 1, 1, none⟩)) rfl (by kernel_rfl) (by kernel_rfl) (by kernel_rfl) (fun _ _ _ h => h) (Or.inl ⟨by rfl, ?_⟩) (by assumption) ?_
      · intro W hSW
        go_simp
      simp only [Act.put, List.getElem_toArray, List.getElem_cons_zero, List.setIfInBounds_toArray, List.set_cons_succ, List.set_cons_zero]
      refine wpAnyH_take (i := 2) (v := .agg #[.string x.nm, .int .i64 x.ty, .bool x.no, .slice x.a x.n x.c, .int .i64 x.un, .int .i64 x.us]) rfl (by kernel_rfl) (by kernel_rfl) (by kernel_rfl) (fun _ _ _ h => h) (Or.inl ⟨by rfl, ?_⟩) (by assumption) ?_
      · intro W hSW
        obtain ⟨q0, q1, q2, q3, q4, q5⟩ := EBox.cells hSW
        go_simp
      simp only [Act.put, List.getElem_toArray, List.getElem_cons_succ, List.getElem_cons_zero, List.setIfInBounds_toArray, List.set_cons_succ, List.set_cons_zero]
      have HLT : Hid (∀ g, (Value.slice av M.length cv).ownBlock = some g → w1.heap.size ≤ g ∧ g ≠ wr.heap.size) := HLT0.out
      refine wpAnyH_ready (rs := [1, 3]) (by kernel_rfl) (by simp) ?_
      refine (AllReadyH.cons rfl (fun K hK => ?_) (AllReadyH.cons rfl (fun K hK => ?_) AllReadyH.nil))
      · skip
        rw [if_pos (by rfl)]
        obtain ⟨p0, p1⟩ := HC2.out.cells
        go_simp
        refine hK.out _ _ HS0.out (fun _ => ?_)
        clear hK K p0 p1
        refine wpAnyH_ready (rs := [3]) (by kernel_rfl) (by simp) ?_
        refine AllReadyH.cons rfl (fun K hK => ?_) AllReadyH.nil
        rw [if_pos (by rfl)]
        go_simp
        refine (HCE.out _ ((Below.refl _ _).drew)).mono ?_
        rintro e w6 ⟨ya, yn, yc, rfl, ho6, hb6⟩
        go_simp
        have hB6 : Below W2.heap.size W2 w6 := ((Below.refl _ _).drew).trans (hb6.mono (Nat.le_refl _))
        have HO6 : Hid (OwnQ w6 W2.heap.size (.slice ya yn yc) (rc x)) := ho6
        have HS6 : Hid (EBox w6 wr.heap.size (.string x.nm) (.int .i64 x.ty) (.bool x.no) (.slice x.a x.n x.c) (.int .i64 x.un) (.int .i64 x.us)) := HS0.out.kept hB6
        have HC6 : Hid (CBox w6 (w.heap.size + 1) (.int .i64 now) (.slice av M.length cv)) := HC2.out.kept hB6
        have HB6 : Hid (EBld w6 w1.heap.size (.slice av M.length cv) M) := HB2.out.kept hB6
        have HK6 : Hid (Kpt w1 w6 (fun j => j = w.heap.size + 1 ∨ w1.heap.size ≤ j)) := HK2.out.trans (below_kpt0 hB6 _)
        have hz6 : W2.heap.size ≤ w6.heap.size := hB6.size
        clear ho6 hb6
        refine hK.out _ _ HS6.out (fun _ => ?_)
        clear hK K
        refine wpAnyH_ready (rs := [4]) (by kernel_rfl) (by simp) ?_
        refine AllReadyH.cons rfl (fun K hK => ?_) AllReadyH.nil
        rw [if_pos (by rfl)]
        go_simp
        have hbn7 : Below w6.heap.size w6 (w6.alloc (.cells #[.string x.nm, .int .i64 x.ty, .bool x.no, .slice ya yn yc, .int .i64 x.un, .int .i64 x.us] 44)) := (Below.refl _ _).alloc (Nat.le_refl _) _
        have HS7 : Hid (EBox (w6.alloc (.cells #[.string x.nm, .int .i64 x.ty, .bool x.no, .slice ya yn yc, .int .i64 x.un, .int .i64 x.us] 44)) wr.heap.size (.string x.nm) (.int .i64 x.ty) (.bool x.no) (.slice x.a x.n x.c) (.int .i64 x.un) (.int .i64 x.us)) := HS6.out.kept hbn7
        have HC7 : Hid (CBox (w6.alloc (.cells #[.string x.nm, .int .i64 x.ty, .bool x.no, .slice ya yn yc, .int .i64 x.un, .int .i64 x.us] 44)) (w.heap.size + 1) (.int .i64 now) (.slice av M.length cv)) := HC6.out.kept hbn7
        have HB7 : Hid (EBld (w6.alloc (.cells #[.string x.nm, .int .i64 x.ty, .bool x.no, .slice ya yn yc, .int .i64 x.un, .int .i64 x.us] 44)) w1.heap.size (.slice av M.length cv) M) := HB6.out.kept hbn7
        have HO7 : Hid (OwnQ (w6.alloc (.cells #[.string x.nm, .int .i64 x.ty, .bool x.no, .slice ya yn yc, .int .i64 x.un, .int .i64 x.us] 44)) W2.heap.size (.slice ya yn yc) (rc x)) := HO6.out.kept hbn7
        have HK7 : Hid (Kpt w1 (w6.alloc (.cells #[.string x.nm, .int .i64 x.ty, .bool x.no, .slice ya yn yc, .int .i64 x.un, .int .i64 x.us] 44)) (fun j => j = w.heap.size + 1 ∨ w1.heap.size ≤ j)) := HK6.out.trans (below_kpt0 hbn7 _)
        refine hK.out _ _ HS7.out (fun _ => ?_)
        clear hK K
        refine wpAnyH_ready (rs := [5]) (by kernel_rfl) (by simp) ?_
        refine AllReadyH.cons rfl (fun K hK => ?_) AllReadyH.nil
        refine step_append_at rfl (.tmp 18) (.tmp 21) 28 rfl w1.heap.size 44 i0 _ 6 72 Tryz.underlying28 hi hz0 hz1' hz2' rfl (by decide) _ _ _ rfl HB7.out.row ⟨w6.heap.size, 0, none⟩ 1 1 [.string x.nm, .int .i64 x.ty, .bool x.no, .slice ya yn yc, .int .i64 x.un, .int .i64 x.us] rfl rfl (cell_kept6 w6 ⟨x.nm, x.ty, x.no, ya, yn, yc, x.un, x.us⟩) (one_cells6 ⟨x.nm, x.ty, x.no, ya, yn, yc, x.un, x.us⟩) (by unfold maxLen; omega) (by omega) (by have h1 := HK7.out.size; exact h1) ?_
        intro v8 w8 hown8 hgrow8 hat8
        have hk8 : Kpt (w6.alloc (.cells #[.string x.nm, .int .i64 x.ty, .bool x.no, .slice ya yn yc, .int .i64 x.un, .int .i64 x.us] 44)) w8 (fun j => (Value.slice av M.length cv).ownBlock = some j) := grown_kpt hgrow8
        have hlt7 : ∀ g, (Value.slice av M.length cv).ownBlock = some g → w1.heap.size ≤ g ∧ g ≠ wr.heap.size := HLT.out
        have HS8 : Hid (EBox w8 wr.heap.size (.string x.nm) (.int .i64 x.ty) (.bool x.no) (.slice x.a x.n x.c) (.int .i64 x.un) (.int .i64 x.us)) := HS7.out.kpt hk8 (fun h => (hlt7 _ h).2 rfl)
        have HC8 : Hid (CBox w8 (w.heap.size + 1) (.int .i64 now) (.slice av M.length cv)) := HC7.out.kpt hk8 (fun h => by have h1 := (hlt7 _ h).1; omega)
        have HB8 : Hid (EBld w8 w1.heap.size v8 (M ++ [((⟨x.nm, x.ty, x.no, ya, yn, yc, x.un, x.us⟩ : EV), rc x)])) := HB7.out.add (x := ⟨x.nm, x.ty, x.no, ya, yn, yc, x.un, x.us⟩) (HO7.out.base (by omega)) (fun p hp g hg h => by have h1 := (HB2.out.recs p hp).lt g hg; have h2 := HO7.out.lt g h; omega) (fun g hg h => by have h1 := HB2.out.row.lt g h; have h2 := HO7.out.lt g hg; omega) hown8 hk8 (hat8.imp id (fun h g hg => by rw [h] at hg; have e := Option.some.inj hg; omega))
        have HK8 : Hid (Kpt w1 w8 (fun j => j = w.heap.size + 1 ∨ w1.heap.size ≤ j)) := HK7.out.trans (hk8.mono (fun j _ h => .inr (hlt7 j h).1))
        obtain ⟨a8, c8, hv8⟩ := own6_slice hown8
        subst hv8
        clear hown8 hgrow8 hat8 hk8 hlt7
        refine hK.out _ _ HS8.out (fun _ => ?_)
        clear hK K
        simp only [Act.put]
        refine wpAnyH_take (i := 6) (v := .pointer (some ⟨w.heap.size + 1, 1, none⟩)) rfl (by kernel_rfl) (by kernel_rfl) (by kernel_rfl) (fun _ _ _ h => h) (Or.inl ⟨by rfl, ?_⟩) (by assumption) ?_
        · intro W hSW
          go_simp
        simp only [Act.put, List.getElem_toArray, List.getElem_cons_succ, List.getElem_cons_zero, List.setIfInBounds_toArray, List.set_cons_succ, List.set_cons_zero]
        refine wpAnyH_ready (rs := [7]) (by kernel_rfl) (by simp) ?_
        refine AllReadyH.cons rfl (fun K hK => ?_) AllReadyH.nil
        rw [if_pos (by rfl)]
        obtain ⟨p0, p1⟩ := HC8.out.cells
        obtain ⟨r0, r1⟩ := HC8.out.free
        go_simp
        have hk9 : Kpt w8 (w8.setCell ⟨w.heap.size + 1, 1, none⟩ (.slice a8 (M.length + 1) c8)) (· = w.heap.size + 1) := kpt_set w8 _ 1 _ rfl
        have HC9 : Hid (CBox (w8.setCell ⟨w.heap.size + 1, 1, none⟩ (.slice a8 (M.length + 1) c8)) (w.heap.size + 1) (.int .i64 now) (.slice a8 (M.length + 1) c8)) := HC8.out.set1 _
        have HB9 : Hid (EBld (w8.setCell ⟨w.heap.size + 1, 1, none⟩ (.slice a8 (M.length + 1) c8)) w1.heap.size (.slice a8 (M.length + 1) c8) (M ++ [((⟨x.nm, x.ty, x.no, ya, yn, yc, x.un, x.us⟩ : EV), rc x)])) := HB8.out.kpt hk9 (fun g hg _ h => by omega)
        have HK9 : Hid (Kpt w1 (w8.setCell ⟨w.heap.size + 1, 1, none⟩ (.slice a8 (M.length + 1) c8)) (fun j => j = w.heap.size + 1 ∨ w1.heap.size ≤ j)) := HK8.out.trans (hk9.mono (fun j _ h => .inl h))
        have HS9 : Hid (EBox (w8.setCell ⟨w.heap.size + 1, 1, none⟩ (.slice a8 (M.length + 1) c8)) wr.heap.size (.string x.nm) (.int .i64 x.ty) (.bool x.no) (.slice x.a x.n x.c) (.int .i64 x.un) (.int .i64 x.us)) := HS8.out.kpt hk9 (by omega)
        refine hK.out _ _ HS9.out (fun _ => ?_)
        clear hK K p0 p1 r0 r1 hk9
        refine wpAnyH_done (by kernel_rfl) ?_ _
        refine NoPanic.normal ?_
        have HM9 : Hid ((M ++ [((⟨x.nm, x.ty, x.no, ya, yn, yc, x.un, x.us⟩ : EV), rc x)]).map conT = (Q.take (k + 1)).map (fun e => conT (e, rc e))) := by show _ = _; rw [HXQ.out, List.map_append, HMT.out]; rfl
        obtain ⟨w9, hw9⟩ : ∃ W, W = w8.setCell ⟨w.heap.size + 1, 1, none⟩ (.slice a8 (M.length + 1) c8) := ⟨_, rfl⟩
        rw [← hw9] at HC9 HB9 HK9
        rw [← hw9]
        clear hw9 HS9 HS8 HC8 HB8 HK8
        go_wp2_with fail
        go_roundw
        case rel => exact ⟨k + 1, _, _, by omega, by go_num, HC9, HB9, HM9, HK9⟩
        case measure => simp [intOf]; omega
      · skip
        rw [if_pos (by rfl)]
        go_simp
        refine (HCE.out _ ((Below.refl _ _).drew)).mono ?_
        rintro e w6 ⟨ya, yn, yc, rfl, ho6, hb6⟩
        go_simp
        have hB6 : Below W2.heap.size W2 w6 := ((Below.refl _ _).drew).trans (hb6.mono (Nat.le_refl _))
        have HO6 : Hid (OwnQ w6 W2.heap.size (.slice ya yn yc) (rc x)) := ho6
        have HS6 : Hid (EBox w6 wr.heap.size (.string x.nm) (.int .i64 x.ty) (.bool x.no) (.slice x.a x.n x.c) (.int .i64 x.un) (.int .i64 x.us)) := HS0.out.kept hB6
        have HC6 : Hid (CBox w6 (w.heap.size + 1) (.int .i64 now) (.slice av M.length cv)) := HC2.out.kept hB6
        have HB6 : Hid (EBld w6 w1.heap.size (.slice av M.length cv) M) := HB2.out.kept hB6
        have HK6 : Hid (Kpt w1 w6 (fun j => j = w.heap.size + 1 ∨ w1.heap.size ≤ j)) := HK2.out.trans (below_kpt0 hB6 _)
        have hz6 : W2.heap.size ≤ w6.heap.size := hB6.size
        clear ho6 hb6
        refine hK.out _ _ HS6.out (fun _ => ?_)
        clear hK K
        refine wpAnyH_ready (rs := [1, 4]) (by kernel_rfl) (by simp) ?_
        refine (AllReadyH.cons rfl (fun K hK => ?_) (AllReadyH.cons rfl (fun K hK => ?_) AllReadyH.nil))
        · skip
          rw [if_pos (by rfl)]
          obtain ⟨p0, p1⟩ := HC6.out.cells
          go_simp
          refine hK.out _ _ HS6.out (fun _ => ?_)
          clear hK K p0 p1
          refine wpAnyH_ready (rs := [4]) (by kernel_rfl) (by simp) ?_
          refine AllReadyH.cons rfl (fun K hK => ?_) AllReadyH.nil
          rw [if_pos (by rfl)]
          go_simp
          have hbn7 : Below w6.heap.size w6 (w6.alloc (.cells #[.string x.nm, .int .i64 x.ty, .bool x.no, .slice ya yn yc, .int .i64 x.un, .int .i64 x.us] 44)) := (Below.refl _ _).alloc (Nat.le_refl _) _
          have HS7 : Hid (EBox (w6.alloc (.cells #[.string x.nm, .int .i64 x.ty, .bool x.no, .slice ya yn yc, .int .i64 x.un, .int .i64 x.us] 44)) wr.heap.size (.string x.nm) (.int .i64 x.ty) (.bool x.no) (.slice x.a x.n x.c) (.int .i64 x.un) (.int .i64 x.us)) := HS6.out.kept hbn7
          have HC7 : Hid (CBox (w6.alloc (.cells #[.string x.nm, .int .i64 x.ty, .bool x.no, .slice ya yn yc, .int .i64 x.un, .int .i64 x.us] 44)) (w.heap.size + 1) (.int .i64 now) (.slice av M.length cv)) := HC6.out.kept hbn7
          have HB7 : Hid (EBld (w6.alloc (.cells #[.string x.nm, .int .i64 x.ty, .bool x.no, .slice ya yn yc, .int .i64 x.un, .int .i64 x.us] 44)) w1.heap.size (.slice av M.length cv) M) := HB6.out.kept hbn7
          have HO7 : Hid (OwnQ (w6.alloc (.cells #[.string x.nm, .int .i64 x.ty, .bool x.no, .slice ya yn yc, .int .i64 x.un, .int .i64 x.us] 44)) W2.heap.size (.slice ya yn yc) (rc x)) := HO6.out.kept hbn7
          have HK7 : Hid (Kpt w1 (w6.alloc (.cells #[.string x.nm, .int .i64 x.ty, .bool x.no, .slice ya yn yc, .int .i64 x.un, .int .i64 x.us] 44)) (fun j => j = w.heap.size + 1 ∨ w1.heap.size ≤ j)) := HK6.out.trans (below_kpt0 hbn7 _)
          refine hK.out _ _ HS7.out (fun _ => ?_)
          clear hK K
          refine wpAnyH_ready (rs := [5]) (by kernel_rfl) (by simp) ?_
          refine AllReadyH.cons rfl (fun K hK => ?_) AllReadyH.nil
          refine step_append_at rfl (.tmp 18) (.tmp 21) 28 rfl w1.heap.size 44 i0 _ 6 72 Tryz.underlying28 hi hz0 hz1' hz2' rfl (by decide) _ _ _ rfl HB7.out.row ⟨w6.heap.size, 0, none⟩ 1 1 [.string x.nm, .int .i64 x.ty, .bool x.no, .slice ya yn yc, .int .i64 x.un, .int .i64 x.us] rfl rfl (cell_kept6 w6 ⟨x.nm, x.ty, x.no, ya, yn, yc, x.un, x.us⟩) (one_cells6 ⟨x.nm, x.ty, x.no, ya, yn, yc, x.un, x.us⟩) (by unfold maxLen; omega) (by omega) (by have h1 := HK7.out.size; exact h1) ?_
          intro v8 w8 hown8 hgrow8 hat8
          have hk8 : Kpt (w6.alloc (.cells #[.string x.nm, .int .i64 x.ty, .bool x.no, .slice ya yn yc, .int .i64 x.un, .int .i64 x.us] 44)) w8 (fun j => (Value.slice av M.length cv).ownBlock = some j) := grown_kpt hgrow8
          have hlt7 : ∀ g, (Value.slice av M.length cv).ownBlock = some g → w1.heap.size ≤ g ∧ g ≠ wr.heap.size := HLT.out
          have HS8 : Hid (EBox w8 wr.heap.size (.string x.nm) (.int .i64 x.ty) (.bool x.no) (.slice x.a x.n x.c) (.int .i64 x.un) (.int .i64 x.us)) := HS7.out.kpt hk8 (fun h => (hlt7 _ h).2 rfl)
          have HC8 : Hid (CBox w8 (w.heap.size + 1) (.int .i64 now) (.slice av M.length cv)) := HC7.out.kpt hk8 (fun h => by have h1 := (hlt7 _ h).1; omega)
          have HB8 : Hid (EBld w8 w1.heap.size v8 (M ++ [((⟨x.nm, x.ty, x.no, ya, yn, yc, x.un, x.us⟩ : EV), rc x)])) := HB7.out.add (x := ⟨x.nm, x.ty, x.no, ya, yn, yc, x.un, x.us⟩) (HO7.out.base (by omega)) (fun p hp g hg h => by have h1 := (HB2.out.recs p hp).lt g hg; have h2 := HO7.out.lt g h; omega) (fun g hg h => by have h1 := HB2.out.row.lt g h; have h2 := HO7.out.lt g hg; omega) hown8 hk8 (hat8.imp id (fun h g hg => by rw [h] at hg; have e := Option.some.inj hg; omega))
          have HK8 : Hid (Kpt w1 w8 (fun j => j = w.heap.size + 1 ∨ w1.heap.size ≤ j)) := HK7.out.trans (hk8.mono (fun j _ h => .inr (hlt7 j h).1))
          obtain ⟨a8, c8, hv8⟩ := own6_slice hown8
          subst hv8
          clear hown8 hgrow8 hat8 hk8 hlt7
          refine hK.out _ _ HS8.out (fun _ => ?_)
          clear hK K
          simp only [Act.put]
          refine wpAnyH_take (i := 6) (v := .pointer (some ⟨w.heap.size + 1, 1, none⟩)) rfl (by kernel_rfl) (by kernel_rfl) (by kernel_rfl) (fun _ _ _ h => h) (Or.inl ⟨by rfl, ?_⟩) (by assumption) ?_
          · intro W hSW
            go_simp
          simp only [Act.put, List.getElem_toArray, List.getElem_cons_succ, List.getElem_cons_zero, List.setIfInBounds_toArray, List.set_cons_succ, List.set_cons_zero]
          refine wpAnyH_ready (rs := [7]) (by kernel_rfl) (by simp) ?_
          refine AllReadyH.cons rfl (fun K hK => ?_) AllReadyH.nil
          rw [if_pos (by rfl)]
          obtain ⟨p0, p1⟩ := HC8.out.cells
          obtain ⟨r0, r1⟩ := HC8.out.free
          go_simp
          have hk9 : Kpt w8 (w8.setCell ⟨w.heap.size + 1, 1, none⟩ (.slice a8 (M.length + 1) c8)) (· = w.heap.size + 1) := kpt_set w8 _ 1 _ rfl
          have HC9 : Hid (CBox (w8.setCell ⟨w.heap.size + 1, 1, none⟩ (.slice a8 (M.length + 1) c8)) (w.heap.size + 1) (.int .i64 now) (.slice a8 (M.length + 1) c8)) := HC8.out.set1 _
          have HB9 : Hid (EBld (w8.setCell ⟨w.heap.size + 1, 1, none⟩ (.slice a8 (M.length + 1) c8)) w1.heap.size (.slice a8 (M.length + 1) c8) (M ++ [((⟨x.nm, x.ty, x.no, ya, yn, yc, x.un, x.us⟩ : EV), rc x)])) := HB8.out.kpt hk9 (fun g hg _ h => by omega)
          have HK9 : Hid (Kpt w1 (w8.setCell ⟨w.heap.size + 1, 1, none⟩ (.slice a8 (M.length + 1) c8)) (fun j => j = w.heap.size + 1 ∨ w1.heap.size ≤ j)) := HK8.out.trans (hk9.mono (fun j _ h => .inl h))
          have HS9 : Hid (EBox (w8.setCell ⟨w.heap.size + 1, 1, none⟩ (.slice a8 (M.length + 1) c8)) wr.heap.size (.string x.nm) (.int .i64 x.ty) (.bool x.no) (.slice x.a x.n x.c) (.int .i64 x.un) (.int .i64 x.us)) := HS8.out.kpt hk9 (by omega)
          refine hK.out _ _ HS9.out (fun _ => ?_)
          clear hK K p0 p1 r0 r1 hk9
          refine wpAnyH_done (by kernel_rfl) ?_ _
          refine NoPanic.normal ?_
          have HM9 : Hid ((M ++ [((⟨x.nm, x.ty, x.no, ya, yn, yc, x.un, x.us⟩ : EV), rc x)]).map conT = (Q.take (k + 1)).map (fun e => conT (e, rc e))) := by show _ = _; rw [HXQ.out, List.map_append, HMT.out]; rfl
          obtain ⟨w9, hw9⟩ : ∃ W, W = w8.setCell ⟨w.heap.size + 1, 1, none⟩ (.slice a8 (M.length + 1) c8) := ⟨_, rfl⟩
          rw [← hw9] at HC9 HB9 HK9
          rw [← hw9]
          clear hw9 HS9 HS8 HC8 HB8 HK8
          go_wp2_with fail
          go_roundw
          case rel => exact ⟨k + 1, _, _, by omega, by go_num, HC9, HB9, HM9, HK9⟩
          case measure => simp [intOf]; omega
        · skip
          rw [if_pos (by rfl)]
          go_simp
          have hbn7 : Below w6.heap.size w6 (w6.alloc (.cells #[.string x.nm, .int .i64 x.ty, .bool x.no, .slice ya yn yc, .int .i64 x.un, .int .i64 x.us] 44)) := (Below.refl _ _).alloc (Nat.le_refl _) _
          have HS7 : Hid (EBox (w6.alloc (.cells #[.string x.nm, .int .i64 x.ty, .bool x.no, .slice ya yn yc, .int .i64 x.un, .int .i64 x.us] 44)) wr.heap.size (.string x.nm) (.int .i64 x.ty) (.bool x.no) (.slice x.a x.n x.c) (.int .i64 x.un) (.int .i64 x.us)) := HS6.out.kept hbn7
          have HC7 : Hid (CBox (w6.alloc (.cells #[.string x.nm, .int .i64 x.ty, .bool x.no, .slice ya yn yc, .int .i64 x.un, .int .i64 x.us] 44)) (w.heap.size + 1) (.int .i64 now) (.slice av M.length cv)) := HC6.out.kept hbn7
          have HB7 : Hid (EBld (w6.alloc (.cells #[.string x.nm, .int .i64 x.ty, .bool x.no, .slice ya yn yc, .int .i64 x.un, .int .i64 x.us] 44)) w1.heap.size (.slice av M.length cv) M) := HB6.out.kept hbn7
          have HO7 : Hid (OwnQ (w6.alloc (.cells #[.string x.nm, .int .i64 x.ty, .bool x.no, .slice ya yn yc, .int .i64 x.un, .int .i64 x.us] 44)) W2.heap.size (.slice ya yn yc) (rc x)) := HO6.out.kept hbn7
          have HK7 : Hid (Kpt w1 (w6.alloc (.cells #[.string x.nm, .int .i64 x.ty, .bool x.no, .slice ya yn yc, .int .i64 x.un, .int .i64 x.us] 44)) (fun j => j = w.heap.size + 1 ∨ w1.heap.size ≤ j)) := HK6.out.trans (below_kpt0 hbn7 _)
          refine hK.out _ _ HS7.out (fun _ => ?_)
          clear hK K
          refine wpAnyH_ready (rs := [1]) (by kernel_rfl) (by simp) ?_
          refine AllReadyH.cons rfl (fun K hK => ?_) AllReadyH.nil
          rw [if_pos (by rfl)]
          obtain ⟨p0, p1⟩ := HC7.out.cells
          go_simp
          refine hK.out _ _ HS7.out (fun _ => ?_)
          clear hK K p0 p1
          refine wpAnyH_ready (rs := [5]) (by kernel_rfl) (by simp) ?_
          refine AllReadyH.cons rfl (fun K hK => ?_) AllReadyH.nil
          refine step_append_at rfl (.tmp 18) (.tmp 21) 28 rfl w1.heap.size 44 i0 _ 6 72 Tryz.underlying28 hi hz0 hz1' hz2' rfl (by decide) _ _ _ rfl HB7.out.row ⟨w6.heap.size, 0, none⟩ 1 1 [.string x.nm, .int .i64 x.ty, .bool x.no, .slice ya yn yc, .int .i64 x.un, .int .i64 x.us] rfl rfl (cell_kept6 w6 ⟨x.nm, x.ty, x.no, ya, yn, yc, x.un, x.us⟩) (one_cells6 ⟨x.nm, x.ty, x.no, ya, yn, yc, x.un, x.us⟩) (by unfold maxLen; omega) (by omega) (by have h1 := HK7.out.size; exact h1) ?_
          intro v8 w8 hown8 hgrow8 hat8
          have hk8 : Kpt (w6.alloc (.cells #[.string x.nm, .int .i64 x.ty, .bool x.no, .slice ya yn yc, .int .i64 x.un, .int .i64 x.us] 44)) w8 (fun j => (Value.slice av M.length cv).ownBlock = some j) := grown_kpt hgrow8
          have hlt7 : ∀ g, (Value.slice av M.length cv).ownBlock = some g → w1.heap.size ≤ g ∧ g ≠ wr.heap.size := HLT.out
          have HS8 : Hid (EBox w8 wr.heap.size (.string x.nm) (.int .i64 x.ty) (.bool x.no) (.slice x.a x.n x.c) (.int .i64 x.un) (.int .i64 x.us)) := HS7.out.kpt hk8 (fun h => (hlt7 _ h).2 rfl)
          have HC8 : Hid (CBox w8 (w.heap.size + 1) (.int .i64 now) (.slice av M.length cv)) := HC7.out.kpt hk8 (fun h => by have h1 := (hlt7 _ h).1; omega)
          have HB8 : Hid (EBld w8 w1.heap.size v8 (M ++ [((⟨x.nm, x.ty, x.no, ya, yn, yc, x.un, x.us⟩ : EV), rc x)])) := HB7.out.add (x := ⟨x.nm, x.ty, x.no, ya, yn, yc, x.un, x.us⟩) (HO7.out.base (by omega)) (fun p hp g hg h => by have h1 := (HB2.out.recs p hp).lt g hg; have h2 := HO7.out.lt g h; omega) (fun g hg h => by have h1 := HB2.out.row.lt g h; have h2 := HO7.out.lt g hg; omega) hown8 hk8 (hat8.imp id (fun h g hg => by rw [h] at hg; have e := Option.some.inj hg; omega))
          have HK8 : Hid (Kpt w1 w8 (fun j => j = w.heap.size + 1 ∨ w1.heap.size ≤ j)) := HK7.out.trans (hk8.mono (fun j _ h => .inr (hlt7 j h).1))
          obtain ⟨a8, c8, hv8⟩ := own6_slice hown8
          subst hv8
          clear hown8 hgrow8 hat8 hk8 hlt7
          refine hK.out _ _ HS8.out (fun _ => ?_)
          clear hK K
          simp only [Act.put]
          refine wpAnyH_take (i := 6) (v := .pointer (some ⟨w.heap.size + 1, 1, none⟩)) rfl (by kernel_rfl) (by kernel_rfl) (by kernel_rfl) (fun _ _ _ h => h) (Or.inl ⟨by rfl, ?_⟩) (by assumption) ?_
          · intro W hSW
            go_simp
          simp only [Act.put, List.getElem_toArray, List.getElem_cons_succ, List.getElem_cons_zero, List.setIfInBounds_toArray, List.set_cons_succ, List.set_cons_zero]
          refine wpAnyH_ready (rs := [7]) (by kernel_rfl) (by simp) ?_
          refine AllReadyH.cons rfl (fun K hK => ?_) AllReadyH.nil
          rw [if_pos (by rfl)]
          obtain ⟨p0, p1⟩ := HC8.out.cells
          obtain ⟨r0, r1⟩ := HC8.out.free
          go_simp
          have hk9 : Kpt w8 (w8.setCell ⟨w.heap.size + 1, 1, none⟩ (.slice a8 (M.length + 1) c8)) (· = w.heap.size + 1) := kpt_set w8 _ 1 _ rfl
          have HC9 : Hid (CBox (w8.setCell ⟨w.heap.size + 1, 1, none⟩ (.slice a8 (M.length + 1) c8)) (w.heap.size + 1) (.int .i64 now) (.slice a8 (M.length + 1) c8)) := HC8.out.set1 _
          have HB9 : Hid (EBld (w8.setCell ⟨w.heap.size + 1, 1, none⟩ (.slice a8 (M.length + 1) c8)) w1.heap.size (.slice a8 (M.length + 1) c8) (M ++ [((⟨x.nm, x.ty, x.no, ya, yn, yc, x.un, x.us⟩ : EV), rc x)])) := HB8.out.kpt hk9 (fun g hg _ h => by omega)
          have HK9 : Hid (Kpt w1 (w8.setCell ⟨w.heap.size + 1, 1, none⟩ (.slice a8 (M.length + 1) c8)) (fun j => j = w.heap.size + 1 ∨ w1.heap.size ≤ j)) := HK8.out.trans (hk9.mono (fun j _ h => .inl h))
          have HS9 : Hid (EBox (w8.setCell ⟨w.heap.size + 1, 1, none⟩ (.slice a8 (M.length + 1) c8)) wr.heap.size (.string x.nm) (.int .i64 x.ty) (.bool x.no) (.slice x.a x.n x.c) (.int .i64 x.un) (.int .i64 x.us)) := HS8.out.kpt hk9 (by omega)
          refine hK.out _ _ HS9.out (fun _ => ?_)
          clear hK K p0 p1 r0 r1 hk9
          refine wpAnyH_done (by kernel_rfl) ?_ _
          refine NoPanic.normal ?_
          have HM9 : Hid ((M ++ [((⟨x.nm, x.ty, x.no, ya, yn, yc, x.un, x.us⟩ : EV), rc x)]).map conT = (Q.take (k + 1)).map (fun e => conT (e, rc e))) := by show _ = _; rw [HXQ.out, List.map_append, HMT.out]; rfl
          obtain ⟨w9, hw9⟩ : ∃ W, W = w8.setCell ⟨w.heap.size + 1, 1, none⟩ (.slice a8 (M.length + 1) c8) := ⟨_, rfl⟩
          rw [← hw9] at HC9 HB9 HK9
          rw [← hw9]
          clear hw9 HS9 HS8 HC8 HB8 HK8
          go_wp2_with fail
          go_roundw
          case rel => exact ⟨k + 1, _, _, by omega, by go_num, HC9, HB9, HM9, HK9⟩
          case measure => simp [intOf]; omega
    · have hkl : k = Q.length := by omega
      have HMT2 : Hid (M.map conT = Q.map (fun e => conT (e, rc e))) := by
        have h := HMT.out
        rw [hkl, List.take_length] at h
        exact h
      have HRr : Hid (CBox wr w.heap.size (.int .i64 0) (.slice none 0 0)) := HR1.out.kpt HK.out (by omega)
      obtain ⟨av, cv, hv⟩ := own6_slice HB.out.row
      subst hv
      obtain ⟨c0, c1⟩ := HC.out.cells
      obtain ⟨d0, d1⟩ := HRr.out.cells
      obtain ⟨f0, f1⟩ := HRr.out.free
      clear hkl HMT
      go_wp2_with fail
      (try simp only [Exit.inBlock, Exit.then])
      have hk2 : Kpt wr ((wr.setCell ⟨w.heap.size, 0, none⟩ (.int .i64 now)).setCell ⟨w.heap.size, 1, none⟩ (.slice av M.length cv)) (· = w.heap.size) := (kpt_set wr w.heap.size 0 _ (S := (· = w.heap.size)) rfl).trans (kpt_set _ w.heap.size 1 _ rfl)
      have hE6 := HB.out.kpt hk2 (fun g hg _ h => by omega)
      refine bodyPost_ret (results_cell_row rfl _ _ w.heap.size 30 #[.int .i64 now, .slice av M.length cv] (0, 0) _ rfl ((HRr.out.set0 _).set1 _) Tryz.underlying30 rfl (by kernel_rfl)) rfl ⟨_, M, rfl, ⟨own_base hE6.row (by omega), fun p hp => (hE6.recs p hp).base (by omega), hE6.apart, hE6.off⟩, HMT2.out, HBW.out.trans (hk2.below HBW.out.size (fun j hj h => by omega))⟩
end Go.Proofs.YtgfiahfoghnpkaaGreatDoor

namespace Go.Proofs.YtgfiahfoghnpkaaGreatDoor
open Go.RowKit Go.Maps

theorem own4_shapeE {w : World} {base n : Nat} {e : TypeId} {v : Value} {xs : List Value} (h : w.ownsRow base e 4 v n xs) : ∃ a cap, v = .slice a n cap := by
  rcases h.2 with ⟨rfl, rfl⟩ | ⟨g, cap, cur, rfl, _, _, _, hm, _⟩
  · exact ⟨none, 0, rfl⟩
  · exact ⟨_, cap, rfl⟩
theorem own_litE (w : World) (base b : Nat) (e : b = w.heap.size) (hb : base ≤ w.heap.size) : (w.alloc (.cells #[] 61)).ownsRow base 61 4 (.slice (some ⟨b, 0, none⟩) 0 0) 0 (rcells []) := by
  subst e; exact World.ownsRow_lit w #[] 0 hb (by unfold maxLen; omega) rfl

set_option maxRecDepth 20000 in
set_option maxHeartbeats 4000000 in
theorem l10OwnEntry_any (x : EV) (R : RecL) (w : World) (hr : RRow w x.sl R) (hl : R.length ≤ 1048576) (hnil : ∀ n c, x.sl = .slice none n c → c = 0) :
    Calls Tryz.prog 51 #[.agg #[.string x.nm, .int .i64 x.ty, .bool x.no, .slice x.a x.n x.c, .int .i64 x.un, .int .i64 x.us]] w fun e w' => ∃ a n c, e = .returned (.agg #[.string x.nm, .int .i64 x.ty, .bool x.no, .slice a n c, .int .i64 x.un, .int .i64 x.us]) ∧ OwnQ w' w.heap.size (.slice a n c) R ∧ Below w.heap.size w w' := by
  have HRR : Hid (∀ W, Below w.heap.size w W → RRow W (.slice x.a x.n x.c) R) := fun W hW => hr.kept hW
  have HNL : Hid (∀ n c, Value.slice x.a x.n x.c = .slice none n c → c = 0) := hnil
  obtain ⟨W0, hW0⟩ : ∃ W0, W0 = (w.alloc (.cells #[.string x.nm, .int .i64 x.ty, .bool x.no, .slice x.a x.n x.c, .int .i64 x.un, .int .i64 x.us] 44)).alloc (.cells #[.string ⟨#[]⟩, .int .i64 0, .bool false, .slice none 0 0, .int .i64 0, .int .i64 0] 44) := ⟨_, rfl⟩
  have HW0 : Hid ((w.alloc (.cells #[.string x.nm, .int .i64 x.ty, .bool x.no, .slice x.a x.n x.c, .int .i64 x.un, .int .i64 x.us] 44)).alloc (.cells #[.string ⟨#[]⟩, .int .i64 0, .bool false, .slice none 0 0, .int .i64 0, .int .i64 0] 44) = W0) := hW0.symm
  have hs1 : (w.alloc (.cells #[.string x.nm, .int .i64 x.ty, .bool x.no, .slice x.a x.n x.c, .int .i64 x.un, .int .i64 x.us] 44)).heap.size = w.heap.size + 1 := by simp
  have hs2 : W0.heap.size = w.heap.size + 1 + 1 := by rw [hW0]; simp
  have HP0 : Hid (EBox W0 w.heap.size (.string x.nm) (.int .i64 x.ty) (.bool x.no) (.slice x.a x.n x.c) (.int .i64 x.un) (.int .i64 x.us)) := by rw [hW0]; exact (ebox_new w).kpt (kpt_alloc _ _ (fun _ => False)) id
  have HQ0 : Hid (EBox W0 (w.heap.size + 1) (.string ⟨#[]⟩) (.int .i64 0) (.bool false) (.slice none 0 0) (.int .i64 0) (.int .i64 0)) := by
    rw [hW0]
    have h := ebox_new (w.alloc (.cells #[.string x.nm, .int .i64 x.ty, .bool x.no, .slice x.a x.n x.c, .int .i64 x.un, .int .i64 x.us] 44)) (v0 := .string ⟨#[]⟩) (v1 := .int .i64 0) (v2 := .bool false) (v3 := .slice none 0 0) (v4 := .int .i64 0) (v5 := .int .i64 0)
    rw [hs1] at h
    exact h
  have hb0 : Below w.heap.size w W0 := by rw [hW0]; exact ((Below.refl _ _).alloc (Nat.le_refl _) _).alloc (by simp) _
  clear hW0 hs1 hr hnil
  go_enter Tryz.func51, Tryz.ntmps51
  go_wp2_with (first | (at_builtin; refine wpList_append_rows rfl (.tmp 3) (.tmp 5) 34 rfl Tryz.underlying34 (w.heap.size + 1 + 1) _ 0 [] rfl rfl (own_litE _ _ _ (by simp) ?b1) _ R rfl (HRR.out _ ?b2) HNL.out ?b3 ?b4 ?_))
  case b1 => simp
  case b2 => rw [HW0.out]; exact hb0.alloc hb0.size _
  case b3 => simp <;> omega
  case b4 => simp <;> omega
  rw [HW0.out]
  intro v1 w2 hown1 hgrow1
  obtain ⟨a1, k1, hv1⟩ := own4_shapeE hown1
  subst hv1
  have hkp : Kpt W0 w2 (fun k => w.heap.size + 1 + 1 ≤ k) := (kpt_alloc W0 _ _).trans ((grown_kpt hgrow1).mono (fun k _ h => by simp [Value.ownBlock] at h; omega))
  have HO2 : Hid (OwnQ w2 (w.heap.size + 1 + 1) (.slice a1 R.length k1) R) := own_q hown1
  have HP2 : Hid (EBox w2 w.heap.size (.string x.nm) (.int .i64 x.ty) (.bool x.no) (.slice x.a x.n x.c) (.int .i64 x.un) (.int .i64 x.us)) := HP0.out.kpt hkp (by omega)
  have HQ2 : Hid (EBox w2 (w.heap.size + 1) (.string ⟨#[]⟩) (.int .i64 0) (.bool false) (.slice none 0 0) (.int .i64 0) (.int .i64 0)) := HQ0.out.kpt hkp (by omega)
  have hbw2 : Below w.heap.size w w2 := hb0.trans (hkp.below hb0.size (fun k hk h => by omega))
  have HP5 : Hid (EBox (w2.setCell ⟨w.heap.size, 3, none⟩ (.slice a1 R.length k1)) w.heap.size (.string x.nm) (.int .i64 x.ty) (.bool x.no) (.slice a1 R.length k1) (.int .i64 x.un) (.int .i64 x.us)) := HP2.out.set3 _
  have HQ5 : Hid (EBox (w2.setCell ⟨w.heap.size, 3, none⟩ (.slice a1 R.length k1)) (w.heap.size + 1) (.string ⟨#[]⟩) (.int .i64 0) (.bool false) (.slice none 0 0) (.int .i64 0) (.int .i64 0)) := HQ2.out.kpt (kpt_set w2 w.heap.size 3 _ (S := (· = w.heap.size)) rfl) (by omega)
  have HO5 : Hid (OwnQ (w2.setCell ⟨w.heap.size, 3, none⟩ (.slice a1 R.length k1)) (w.heap.size + 1 + 1) (.slice a1 R.length k1) R) := HO2.out.kpt (kpt_set w2 w.heap.size 3 _ (S := (· = w.heap.size)) rfl) (fun g hg h => by have h1 := HO2.out.lt g hg; omega)
  have hbw5 : Below w.heap.size w (w2.setCell ⟨w.heap.size, 3, none⟩ (.slice a1 R.length k1)) := hbw2.setCell (p := ⟨w.heap.size, 3, none⟩) (Nat.le_refl _) _
  obtain ⟨w5, hw5⟩ : ∃ W, W = w2.setCell ⟨w.heap.size, 3, none⟩ (.slice a1 R.length k1) := ⟨_, rfl⟩
  rw [← hw5] at HP5 HQ5 HO5 hbw5
  have HW5 : Hid (w2.setCell ⟨w.heap.size, 3, none⟩ (.slice a1 R.length k1) = w5) := hw5.symm
  obtain ⟨c0, c1, c2, c3, c4, c5⟩ := HP2.out.cells
  obtain ⟨f0, f1, f2, f3, f4, f5⟩ := HP2.out.free
  obtain ⟨d0, d1, d2, d3, d4, d5⟩ := HQ2.out.cells
  obtain ⟨g0, g1, g2, g3, g4, g5⟩ := HQ2.out.free
  have hne1 : ¬ w.heap.size = w.heap.size + 1 := by omega
  have hne2 : ¬ w.heap.size + 1 = w.heap.size := by omega
  clear hown1 hgrow1 hkp hw5 hs2
  go_wp2_with fail
  rw [HW5.out]
  (try simp only [Exit.inBlock, Exit.then])
  have hO6 := HO5.out.kpt (put6e_kpt w5 (w.heap.size + 1) (.string x.nm) (.int .i64 x.ty) (.bool x.no) (.slice a1 R.length k1) (.int .i64 x.un) (.int .i64 x.us)) (fun g hg h => by have h1 := HO5.out.lt g hg; omega)
  have hb6 : Below w.heap.size w (put6e w5 (w.heap.size + 1) (.string x.nm) (.int .i64 x.ty) (.bool x.no) (.slice a1 R.length k1) (.int .i64 x.un) (.int .i64 x.us)) := hbw5.trans ((put6e_kpt w5 (w.heap.size + 1) _ _ _ _ _ _).below hbw5.size (fun k hk e => by omega))
  exact bodyPost_ret (results_cell_row rfl _ _ (w.heap.size + 1) 44 #[.string x.nm, .int .i64 x.ty, .bool x.no, .slice a1 R.length k1, .int .i64 x.un, .int .i64 x.us] (0, 0) _ rfl (HQ5.out.put _ _ _ _ _ _) Tryz.underlying44 rfl (by kernel_rfl)) rfl ⟨a1, R.length, k1, rfl, hO6.base (by omega), hb6⟩
end Go.Proofs.YtgfiahfoghnpkaaGreatDoor

namespace Go.Proofs.YtgfiahfoghnpkaaGreatDoor
open Go.RowKit Go.Maps

set_option maxRecDepth 20000 in
set_option maxHeartbeats 4000000 in
theorem l10Own_any (now : Int) (v : Value) (E : List EV) (rc : EV → RecL) (w : World) (hr : EVRow w v E) (hl : E.length ≤ 1048576) (hrec : Hid (∀ e ∈ E, RRow w e.sl (rc e) ∧ (rc e).length ≤ 1048576 ∧ ∀ n c, e.sl = .slice none n c → c = 0)) :
    Calls Tryz.prog 35 #[.agg #[.int .i64 now, v]] w fun e w' => ∃ v' M, e = .returned (.agg #[.int .i64 now, v']) ∧ EBld w' w.heap.size v' M ∧ M.map conT = E.map (fun e => conT (e, rc e)) ∧ Below w.heap.size w w' := by
  obtain ⟨a, cap, rfl, hcap, hmax, hrow⟩ := hr
  have HROW : Hid (0 < E.length → ∃ b o, a = some ⟨b, o, none⟩ ∧ b < w.heap.size ∧ ∀ j, (hj : j < E.length) → Ent6 w b (o + j * 6) E[j]) := hrow
  obtain ⟨i0, hi, hz0, hz1', hz2'⟩ := info_parts info_ev
  obtain ⟨W0, hW0⟩ : ∃ W0, W0 = (w.alloc (.cells #[.int .i64 now, .slice a E.length cap] 30)).alloc (.cells #[.int .i64 0, .slice none 0 0] 30) := ⟨_, rfl⟩
  have HW0 : Hid ((w.alloc (.cells #[.int .i64 now, .slice a E.length cap] 30)).alloc (.cells #[.int .i64 0, .slice none 0 0] 30) = W0) := hW0.symm
  have hs1 : (w.alloc (.cells #[.int .i64 now, .slice a E.length cap] 30)).heap.size = w.heap.size + 1 := by simp
  have HC0 : Hid (CBox W0 w.heap.size (.int .i64 now) (.slice a E.length cap)) := by rw [hW0]; exact (cbox_new w).kpt (kpt_alloc _ _ (fun _ => False)) id
  have HR0 : Hid (CBox W0 (w.heap.size + 1) (.int .i64 0) (.slice none 0 0)) := by
    rw [hW0]
    have h := cbox_new (w.alloc (.cells #[.int .i64 now, .slice a E.length cap] 30)) (v0 := .int .i64 0) (v1 := .slice none 0 0)
    rw [hs1] at h
    exact h
  have HB0 : Hid (Below w.heap.size w W0) := by rw [hW0]; exact ((Below.refl _ _).alloc (Nat.le_refl _) _).alloc (by simp) _
  have hz0w : w.heap.size + 1 < W0.heap.size := HR0.out.lt
  clear hW0 hs1 hrow
  go_enter Tryz.func35, Tryz.ntmps35
  obtain ⟨c0, c1⟩ := HC0.out.cells
  go_wp2_with fail
  rw [HW0.out]
  clear c0 c1
  go_loopw [3, 9] (fun u i wr => ∃ (k : Nat) (M : List (EV × RecL)), k ≤ E.length ∧ i = .int .i64 (k : Int) ∧ Hid (EBld wr W0.heap.size u M) ∧ Hid (M.map conT = (E.take k).map (fun e => conT (e, rc e))) ∧ Hid (Kpt W0 wr (fun j => W0.heap.size ≤ j))) (fun _ i _ => E.length - (intOf i).toNat)
  case atStart => exact ⟨0, [], Nat.zero_le _, rfl, EBld.nil _ _, (by show _ = _; simp), Kpt.refl _ _⟩
  case round =>
    obtain ⟨k, M, hk, rfl, HB, HMT, HK⟩ := hrel
    have hwr : W0.heap.size ≤ wr.heap.size := HK.out.size
    have HBW : Hid (Below w.heap.size w wr) := HB0.out.trans (HK.out.below HB0.out.size (fun j hj h => by omega))
    obtain ⟨av, cv, hv⟩ := own6_slice HB.out.row
    subst hv
    by_cases hlt : k < E.length
    · obtain ⟨bq, oq, ha, hbl, hcel⟩ := HROW.out (by omega)
      subst ha
      have hcx := hcel k hlt
      have HXQ : Hid ((E.take (k + 1)).map (fun e => conT (e, rc e)) = (E.take k).map (fun e => conT (e, rc e)) ++ [conT (E[k]'hlt, rc (E[k]'hlt))]) := by show _ = _; rw [List.take_succ_eq_append_getElem hlt, List.map_append]; rfl
      have hrx := hrec.out _ (List.getElem_mem hlt)
      obtain ⟨x, hx⟩ : ∃ x, x = E[k]'hlt := ⟨_, rfl⟩
      rw [← hx] at hcx hrx HXQ
      obtain ⟨c0, c1, c2, c3, c4, c5⟩ := hcx.kept HBW.out hbl
      have hbr : bq < wr.heap.size := Nat.lt_of_lt_of_le hbl HBW.out.size
      have HML : Hid (M.length = k) := by have h := congrArg List.length HMT.out; simp at h; show _ = _; omega
      have hML : M.length ≤ 1048576 := by have := HML.out; omega
      have hb2 : Below wr.heap.size wr (wr.alloc (.cells #[.string x.nm, .int .i64 x.ty, .bool x.no, .slice x.a x.n x.c, .int .i64 x.un, .int .i64 x.us] 44)) := (Below.refl _ _).alloc (Nat.le_refl _) _
      have HOE : Hid (∀ W, Below wr.heap.size wr W → Calls Tryz.prog 51 #[.agg #[.string x.nm, .int .i64 x.ty, .bool x.no, .slice x.a x.n x.c, .int .i64 x.un, .int .i64 x.us]] W fun e w' => ∃ a n c, e = .returned (.agg #[.string x.nm, .int .i64 x.ty, .bool x.no, .slice a n c, .int .i64 x.un, .int .i64 x.us]) ∧ OwnQ w' W.heap.size (.slice a n c) (rc x) ∧ Below W.heap.size W w') := fun W hW => l10OwnEntry_any x (rc x) W (hrx.1.kept (HBW.out.trans (hW.mono HBW.out.size))) hrx.2.1 hrx.2.2
      clear hcel hcx hx hrx
      go_wp2_with fail
      clear c0 c1 c2 c3 c4 c5
      refine (HOE.out _ hb2).mono ?_
      rintro e w3 ⟨ya, yn, yc, rfl, ho3, hb3⟩
      have hb13 : Below wr.heap.size wr w3 := hb2.trans (hb3.mono hb2.size)
      have HB3 : Hid (EBld w3 W0.heap.size (.slice av M.length cv) M) := HB.out.kept hb13
      have HB4 : Hid (EBld (w3.alloc (.cells #[.string x.nm, .int .i64 x.ty, .bool x.no, .slice ya yn yc, .int .i64 x.un, .int .i64 x.us] 44)) W0.heap.size (.slice av M.length cv) M) := HB3.out.kept ((Below.refl _ _).alloc (Nat.le_refl _) _)
      have HO4 : Hid (OwnQ (w3.alloc (.cells #[.string x.nm, .int .i64 x.ty, .bool x.no, .slice ya yn yc, .int .i64 x.un, .int .i64 x.us] 44)) wr.heap.size (.slice ya yn yc) (rc x)) := (ho3.base (by simp)).kept ((Below.refl _ _).alloc (Nat.le_refl _) _)
      have HK4 : Hid (Kpt W0 (w3.alloc (.cells #[.string x.nm, .int .i64 x.ty, .bool x.no, .slice ya yn yc, .int .i64 x.un, .int .i64 x.us] 44)) (fun j => W0.heap.size ≤ j)) := (HK.out.trans (below_kpt0 hb13 _)).trans (kpt_alloc _ _ _)
      have hrow4 := HB4.out.row
      have hz3 : wr.heap.size ≤ w3.heap.size := hb13.size
      have hz4 : W0.heap.size ≤ (w3.alloc (.cells #[.string x.nm, .int .i64 x.ty, .bool x.no, .slice ya yn yc, .int .i64 x.un, .int .i64 x.us] 44)).heap.size := HK4.out.size
      have hlt0 : ∀ g, (Value.slice av M.length cv).ownBlock = some g → W0.heap.size ≤ g ∧ g < wr.heap.size := fun g hg => HB.out.row.lt g hg
      have HL0 : Hid (∀ g, (Value.slice av M.length cv).ownBlock = some g → W0.heap.size ≤ g ∧ g < wr.heap.size) := hlt0
      have HRL : Hid (∀ p ∈ M, ∀ g, p.1.sl.ownBlock = some g → g < wr.heap.size) := fun p hp g hg => ((HB.out.recs p hp).lt g hg).2
      clear ho3 hb3 hb2 hlt0 HB3
      go_wp2_with (first | (at_builtin; refine wpList_append_own_at _ rfl (.tmp 13) (.tmp 16) 28 rfl W0.heap.size 44 i0 _ 6 72 Tryz.underlying28 hi hz0 hz1' hz2' rfl (by decide) _ _ _ rfl hrow4 ⟨w3.heap.size, 0, none⟩ 1 1 [.string x.nm, .int .i64 x.ty, .bool x.no, .slice ya yn yc, .int .i64 x.un, .int .i64 x.us] rfl rfl (cell_kept6 w3 ⟨x.nm, x.ty, x.no, ya, yn, yc, x.un, x.us⟩) (one_cells6 ⟨x.nm, x.ty, x.no, ya, yn, yc, x.un, x.us⟩) ?e1 ?e2 ?e3 ?_))
      case e1 => unfold maxLen; omega
      case e2 => omega
      case e3 => exact hz4
      intro v8 w8 hown8 hgrow8 _ hat8
      have hk8 : Kpt (w3.alloc (.cells #[.string x.nm, .int .i64 x.ty, .bool x.no, .slice ya yn yc, .int .i64 x.un, .int .i64 x.us] 44)) w8 (fun j => (Value.slice av M.length cv).ownBlock = some j) := grown_kpt hgrow8
      have HB8 : Hid (EBld w8 W0.heap.size v8 (M ++ [((⟨x.nm, x.ty, x.no, ya, yn, yc, x.un, x.us⟩ : EV), rc x)])) := HB4.out.add (x := ⟨x.nm, x.ty, x.no, ya, yn, yc, x.un, x.us⟩) (HO4.out.base (by omega)) (fun p hp g hg h => by have h1 := HRL.out p hp g hg; have h2 := HO4.out.lt g h; omega) (fun g hg h => by have h1 := HL0.out g h; have h2 := HO4.out.lt g hg; omega) hown8 hk8 (hat8.imp id (fun h g hg => by rw [h] at hg; rw [← Option.some.inj hg]; simp))
      have HK8 : Hid (Kpt W0 w8 (fun j => W0.heap.size ≤ j)) := HK4.out.trans (hk8.mono (fun j _ h => (HL0.out j h).1))
      have HM9 : Hid ((M ++ [((⟨x.nm, x.ty, x.no, ya, yn, yc, x.un, x.us⟩ : EV), rc x)]).map conT = (E.take (k + 1)).map (fun e => conT (e, rc e))) := by show _ = _; rw [HXQ.out, List.map_append, HMT.out]; rfl
      obtain ⟨a8, c8, hv8⟩ := own6_slice hown8
      subst hv8
      clear hown8 hgrow8 hat8 hk8 hrow4 HB4 HO4 HK4 hz4
      go_wp2_with fail
      go_roundw
      case rel => exact ⟨k + 1, _, by omega, by go_num, HB8, HM9, HK8⟩
      case measure => simp [intOf]; omega
    · have hkl : k = E.length := by omega
      have HMT2 : Hid (M.map conT = E.map (fun e => conT (e, rc e))) := by
        have h := HMT.out
        rw [hkl, List.take_length] at h
        exact h
      have HCr : Hid (CBox wr w.heap.size (.int .i64 now) (.slice a E.length cap)) := HC0.out.kpt HK.out (by omega)
      have HRr : Hid (CBox wr (w.heap.size + 1) (.int .i64 0) (.slice none 0 0)) := HR0.out.kpt HK.out (by omega)
      obtain ⟨c0, c1⟩ := HCr.out.cells
      obtain ⟨e0, e1⟩ := HCr.out.free
      obtain ⟨d0, d1⟩ := HRr.out.cells
      obtain ⟨f0, f1⟩ := HRr.out.free
      have hne1 : ¬ w.heap.size = w.heap.size + 1 := by omega
      have hne2 : ¬ w.heap.size + 1 = w.heap.size := by omega
      clear hkl HMT
      go_wp2_with fail
      (try simp only [Exit.inBlock, Exit.then])
      have hk1 : Kpt wr (wr.setCell ⟨w.heap.size, 1, none⟩ (.slice av M.length cv)) (· = w.heap.size) := kpt_set wr w.heap.size 1 _ rfl
      have hk2 : Kpt (wr.setCell ⟨w.heap.size, 1, none⟩ (.slice av M.length cv)) (((wr.setCell ⟨w.heap.size, 1, none⟩ (.slice av M.length cv)).setCell ⟨w.heap.size + 1, 0, none⟩ (.int .i64 now)).setCell ⟨w.heap.size + 1, 1, none⟩ (.slice av M.length cv)) (· = w.heap.size + 1) := (kpt_set _ (w.heap.size + 1) 0 _ (S := (· = w.heap.size + 1)) rfl).trans (kpt_set _ (w.heap.size + 1) 1 _ rfl)
      have hE6 := (HB.out.kpt hk1 (fun g hg _ h => by omega)).kpt hk2 (fun g hg _ h => by omega)
      exact bodyPost_ret (results_cell_row rfl _ _ (w.heap.size + 1) 30 #[.int .i64 now, .slice av M.length cv] (0, 0) _ rfl (((HRr.out.kpt hk1 (by omega)).set0 _).set1 _) Tryz.underlying30 rfl (by kernel_rfl)) rfl ⟨_, M, rfl, ⟨own_base hE6.row (by omega), fun p hp => (hE6.recs p hp).base (by omega), hE6.apart, hE6.off⟩, HMT2.out, (HBW.out.trans (hk1.below HBW.out.size (fun j hj h => by omega))).trans (hk2.below (by have := HBW.out.size; simpa using this) (fun j hj h => by omega))⟩
end Go.Proofs.YtgfiahfoghnpkaaGreatDoor

namespace Go.Proofs.YtgfiahfoghnpkaaGreatDoor
open Go.RowKit Go.Maps

/-- The order of entries, as they say it. -/
def cT (x y : EntT) : Int := orI (cmpN x.1 y.1) (Lib.compareInt x.2.1 y.2.1)
theorem tp_T : TP cT := (tp_names.pull (fun x : EntT => x.1)).lex (tp_int.pull (fun x : EntT => x.2.1))
theorem less_cT {x y : EntT} (h : lessE x y = true) : cT x y < 0 := by
  unfold lessE at h
  unfold cT
  rw [Bool.or_eq_true, decide_eq_true_eq, Bool.and_eq_true, decide_eq_true_eq, decide_eq_true_eq] at h
  rcases h with h | ⟨h1, h2⟩
  · rw [orI_ne (by omega)]; exact h
  · rw [orI_eq h1]
    unfold Lib.compareInt
    split <;> (try split) <;> omega
theorem good_rise {now : Int} {L : List EntT} (h : goodC now L = true) : L.Pairwise (fun x y => cT x y < 0) := by
  have hs : ∀ k, k < L.length → stepE now L k = true := by
    unfold goodC at h
    rw [Bool.and_eq_true] at h
    intro k hk
    exact List.all_eq_true.1 h.2 k (List.mem_range.2 hk)
  have adj : ∀ k, (hk : k + 1 < L.length) → cT (L[k]'(by omega)) (L[k + 1]'hk) < 0 := by
    intro k hk
    have h1 := hs (k + 1) hk
    unfold stepE eO at h1
    rw [Bool.and_eq_true] at h1
    have h2 := h1.2
    rw [List.getElem?_eq_getElem hk, show k + 1 - 1 = k from rfl, List.getElem?_eq_getElem (by omega)] at h2
    simp at h2
    exact less_cT h2
  rw [List.pairwise_iff_getElem]
  intro i j hi hj hij
  obtain ⟨d, rfl⟩ : ∃ d, j = i + 1 + d := ⟨j - i - 1, by omega⟩
  induction d with
  | zero => exact adj i hj
  | succ d ih =>
    have h1 := ih (by omega) (by omega)
    have h2 := adj (i + 1 + d) hj
    exact tp_T.ltr h1 (Int.le_of_lt h2)
/-- One entry of the memory, as a value. -/
theorem ev_one {w : World} {b o : Nat} {x : EntT} {va : Value} (h : EntAt w b o x va) : ∃ e : EV, Ent6 w b o e ∧ conT (e, x.2.2.2.1) = x ∧ RRow w e.sl x.2.2.2.1 := by
  obtain ⟨⟨c0, c1, c2, c3, c4, c5⟩, hr⟩ := h
  obtain ⟨a, cap, rfl, h1, h2, h3⟩ := hr
  exact ⟨⟨⟨x.1.toArray⟩, x.2.1, x.2.2.1, a, x.2.2.2.1.length, cap, x.2.2.2.2.1, x.2.2.2.2.2⟩, ⟨c0, c1, c2, c3, c4, c5⟩, rfl, ⟨a, cap, rfl, h1, h2, h3⟩⟩
/-- The records of an entry, found by its name and its type. -/
def rcOf (L : List EntT) (e : EV) : RecL := ((L.find? (fun x => x.1 == e.nm.data.toList && x.2.1 == e.ty)).map (fun x => x.2.2.2.1)).getD []
theorem ct_ne {x y : EntT} (h : cT x y < 0) : ¬ (x.1 = y.1 ∧ x.2.1 = y.2.1) := by
  rintro ⟨h1, h2⟩
  have h3 := tp_T.anti x y
  have e : cT x y = cT y x := by unfold cT; rw [h1, h2]
  omega
theorem rc_at {L : List EntT} (hr : L.Pairwise (fun x y => cT x y < 0)) (j : Nat) (hj : j < L.length) (e : EV) (R : RecL) (he : conT (e, R) = L[j]) : rcOf L e = L[j].2.2.2.1 := by
  have h1 : e.nm.data.toList = L[j].1 := by rw [← he]; rfl
  have h2 : e.ty = L[j].2.1 := by rw [← he]; rfl
  unfold rcOf
  rw [h1, h2]
  have hf : L.find? (fun x => x.1 == L[j].1 && x.2.1 == L[j].2.1) = some L[j] := by
    rw [List.find?_eq_some_iff_getElem]
    refine ⟨by simp, j, hj, rfl, fun i hi => ?_⟩
    have := ct_ne (List.pairwise_iff_getElem.1 hr i j (by omega) hj hi)
    simp only [Bool.not_eq_true', Bool.and_eq_false_iff, beq_eq_false_iff_ne]
    by_cases h : L[i].1 = L[j].1
    · exact .inr (fun h2 => this ⟨h, h2⟩)
    · exact .inl h
  rw [hf]; rfl
/-- Entries that lie in memory, as values with their records. -/
theorem ev_row {w : World} {v : Value} {L : List EntT} (h : ERow w v L) (hr : L.Pairwise (fun x y => cT x y < 0)) : ∃ E : List EV, EVRow w v E ∧ E.map (fun e => conT (e, rcOf L e)) = L ∧ ∀ e ∈ E, RRow w e.sl (rcOf L e) := by
  obtain ⟨a, cap, rfl, h1, h2, h3⟩ := h
  rcases h3 with rfl | ⟨b, o, rfl, hb, hc⟩
  · exact ⟨[], ⟨a, cap, rfl, h1, by unfold maxLen at h2; omega, fun h => (by cases h)⟩, rfl, fun e h => (by cases h)⟩
  · have hx : ∀ j, (hj : j < L.length) → ∃ e : EV, Ent6 w b (o + j * 6) e ∧ conT (e, (L[j]'hj).2.2.2.1) = L[j]'hj ∧ RRow w e.sl (L[j]'hj).2.2.2.1 := fun j hj => by
      obtain ⟨va, h⟩ := hc j hj
      exact ev_one h
    have key : ∀ n, n ≤ L.length → ∃ E : List EV, E.length = n ∧ ∀ j, (hj : j < E.length) → (hl : j < L.length) → Ent6 w b (o + j * 6) E[j] ∧ conT (E[j], (L[j]'hl).2.2.2.1) = L[j]'hl ∧ RRow w (E[j]).sl (L[j]'hl).2.2.2.1 := by
      intro n
      induction n with
      | zero => exact fun _ => ⟨[], rfl, fun j hj => (by cases hj)⟩
      | succ n ih =>
        intro hn
        obtain ⟨E, hE, hP⟩ := ih (by omega)
        obtain ⟨e, he⟩ := hx n (by omega)
        refine ⟨E ++ [e], by simp [hE], fun j hj hl => ?_⟩
        by_cases hjn : j < E.length
        · rw [List.getElem_append_left hjn]; exact hP j hjn hl
        · have hje : j = n := by simp at hj; omega
          subst hje
          rw [List.getElem_append_right (by omega)]
          simp only [hE, Nat.sub_self, List.getElem_cons_zero]
          exact he
    obtain ⟨E, hE, hP⟩ := key L.length (Nat.le_refl _)
    refine ⟨E, ?_, ?_, fun e he => ?_⟩
    · refine ⟨_, cap, by rw [hE], by rw [hE]; exact h1, by unfold maxLen at h2; omega, fun _ => ⟨b, o, rfl, hb, fun j hj => (hP j hj (by omega)).1⟩⟩
    · apply List.ext_getElem (by simp [hE])
      intro j hj1 hj2
      rw [List.getElem_map]
      have hp := hP j (by omega) hj2
      rw [rc_at hr j hj2 _ _ hp.2.1]
      exact hp.2.1
    · obtain ⟨j, hj, rfl⟩ := List.getElem_of_mem he
      have hp := hP j hj (by omega)
      rw [rc_at hr j (by omega) _ _ hp.2.1]
      exact hp.2.2
end Go.Proofs.YtgfiahfoghnpkaaGreatDoor
