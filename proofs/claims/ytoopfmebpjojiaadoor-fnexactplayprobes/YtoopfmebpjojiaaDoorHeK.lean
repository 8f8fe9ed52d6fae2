import Derived.Test.YtoopfmebpjojiaaDoorHeN
namespace Go.Proofs.YtoopfmebpjojiaaDoor
open Go.RowKit

/-- What a probe makes of a host; and whether that changed what is told. -/
def tkH (ri fa : Int) (x : HosT) (fi : Bool) : HosT × Bool := if fi == x.2.1 then ((x.1, x.2.1, 0), false) else if x.2.2 + 1 < mostH ri fa x.2.1 then ((x.1, x.2.1, x.2.2 + 1), false) else ((x.1, !x.2.1, 0), true)
def tkL (ri fa : Int) (L : List HosT) (k : Nat) (fi : Bool) : List HosT := L.set k (tkH ri fa (L.getD k ([], false, 0)) fi).1
def tkC (ri fa : Int) (L : List HosT) (k : Nat) (fi : Bool) : Bool := (tkH ri fa (L.getD k ([], false, 0)) fi).2
def tkB (ri fa : Int) (L : List HosT) (n : Int) : Bool := goodH ri fa L && inB n 0 ((L.length : Int) - 1)
theorem getD_at {L : List HosT} {k : Nat} (h : k < L.length) : L.getD k ([], false, 0) = L[k] := by rw [List.getD_eq_getElem?_getD, List.getElem?_eq_getElem h]; rfl
theorem tkL_at {ri fa : Int} {L : List HosT} {k : Nat} {fi : Bool} (h : k < L.length) : tkL ri fa L k fi = L.set k (tkH ri fa L[k] fi).1 := by unfold tkL; rw [getD_at h]
theorem tkC_at {ri fa : Int} {L : List HosT} {k : Nat} {fi : Bool} (h : k < L.length) : tkC ri fa L k fi = (tkH ri fa L[k] fi).2 := by unfold tkC; rw [getD_at h]
theorem tkL_length (ri fa : Int) (L : List HosT) (k : Nat) (fi : Bool) : (tkL ri fa L k fi).length = L.length := by unfold tkL; simp
theorem tkH_same (ri fa r : Int) (n : List UInt8) (u : Bool) : tkH ri fa (n, u, r) u = ((n, u, 0), false) := by unfold tkH; simp
theorem tkH_less {ri fa r : Int} (n : List UInt8) {u fi : Bool} (h : (fi == u) = false) (hl : r + 1 < mostH ri fa u) : tkH ri fa (n, u, r) fi = ((n, u, r + 1), false) := by unfold tkH; simp only; rw [h, if_neg (by simp), if_pos hl]
theorem tkH_turn {ri fa r : Int} (n : List UInt8) {u fi : Bool} (h : (fi == u) = false) (hl : ¬ r + 1 < mostH ri fa u) : tkH ri fa (n, u, r) fi = ((n, !u, 0), true) := by unfold tkH; simp only; rw [h, if_neg (by simp), if_neg hl]
/-- Health and two bools, told. -/
def TAns (w' : World) (base : Nat) (ok ch : Bool) (ri fa : Int) (L : List HosT) (e : Ending) : Prop := ∃ v, e = .returned (.tuple #[HeaV (if ok then ri else 0) (if ok then fa else 0) v, .bool (if ok then ch else false), .bool ok]) ∧ OwnH w' base v (if ok then L else [])
theorem results_hea_tt0 {fn : Func} {p u z : Tmp} {ty : TypeId} (h : fn.results = #[.cell p ty, .tmp u, .tmp z]) (tmps : Array Value) (P : Program) (w : World) :
    (results fn tmps).run P w =
      ((asAddr (tmps.getD p undef)).run P w).andThen fun a w₁ => ((loadVar ty a).run P w₁).andThen fun v w₂ => .ok (.tuple #[v, tmps.getD u undef, tmps.getD z undef]) w₂ := by
  simp only [results, h]
  simp [Sem.run_bind, Result.andThen]
/-- A struct and two plain values, told. -/
theorem results_hea_tt {P : Program} {fn : Func} {p u z : Tmp} {ty : TypeId} (h : fn.results = #[.cell p ty, .tmp u, .tmp z]) (tmps : Array Value) (w : World) (g : Nat) (t : TypeId) (cs : Array Value) (fr : Nat × Nat) (d : TypeDesc) (x y : Value)
    (hp : tmps.getD p undef = .pointer (some ⟨g, 0, none⟩)) (hu : tmps.getD u undef = x) (hz : tmps.getD z undef = y) (hg : w.heap[g]? = some (.cells cs t fr))
    (hd0 : P.underlying ty = some d) (hd : (match d with | .struct _ | .array _ _ => true | _ => false) = true) (hi : (P.info? ty).map (·.size) = some cs.size) :
    (results fn tmps).run P w = .ok (.tuple #[.agg cs, x, y]) w := by
  have hp' : tmps[p]?.getD undef = .pointer (some ⟨g, 0, none⟩) := by simpa using hp
  have hu' : tmps[u]?.getD undef = x := by simpa using hu
  have hz' : tmps[z]?.getD undef = y := by simpa using hz
  rw [results_hea_tt0 h]
  simp [hp', hu', hz', asAddr, run_loadVar_row w g t ty cs fr d hg hd0 hd hi, Result.andThen]
theorem prb_cells {W : World} {b : Nat} {v0 v1 : Value} {t : TypeId} (h : W.heap[b]? = some (.cells #[v0, v1] t)) : W.cell? ⟨b, 0, none⟩ = some v0 ∧ W.cell? ⟨b, 1, none⟩ = some v1 := by
  refine ⟨?_, ?_⟩ <;> (unfold World.cell?; rw [h]; rfl)
set_option maxRecDepth 20000 in
set_option maxHeartbeats 1000000 in
theorem l13Own_any (ri fa : Int) (v : Value) (L : List HosT) (w : World) (hr : HstRow w v L) (hl : L.length ≤ 1048576) (hp : 0 < L.length) :
    Calls Tryd.prog 51 #[HeaV ri fa v] w fun e w' => (∃ g cap, e = .returned (HeaV ri fa (.slice (some ⟨g, 0, none⟩) L.length cap)) ∧ L.length ≤ cap ∧ cap ≤ maxLen ∧ w.heap.size ≤ g ∧ HoRow w' g L) ∧ Below w.heap.size w w' := by
  unfold HeaV
  obtain ⟨W0, hW0⟩ : ∃ W0, W0 = (w.alloc (.cells #[.int .i64 ri, .int .i64 fa, v] 26)).alloc (.cells #[.int .i64 0, .int .i64 0, .slice none 0 0] 26) := ⟨_, rfl⟩
  have hb0 : Below w.heap.size w W0 := by rw [hW0]; exact ((Below.refl w.heap.size w).alloc (Nat.le_refl _) _).alloc (by simp) _
  have hz0 : W0.heap.size = w.heap.size + 1 + 1 := by rw [hW0]; simp
  have HX0 : Hid (W0.heap[w.heap.size]? = some (.cells #[.int .i64 ri, .int .i64 fa, v] 26) ∧ W0.heap[w.heap.size + 1]? = some (.cells #[.int .i64 0, .int .i64 0, .slice none 0 0] 26)) := by
    have h : Below W0.heap.size ((w.alloc (.cells #[.int .i64 ri, .int .i64 fa, v] 26)).alloc (.cells #[.int .i64 0, .int .i64 0, .slice none 0 0] 26)) W0 := by rw [hW0]; exact Below.refl _ _
    rw [hz0] at h
    have h2 := hst_below2 (W := W0) (by simpa using h)
    exact ⟨h2.1, h2.2.1⟩
  have HW0 : Hid ((w.alloc (.cells #[.int .i64 ri, .int .i64 fa, v] 26)).alloc (.cells #[.int .i64 0, .int .i64 0, .slice none 0 0] 26) = W0) := hW0.symm
  have hbA : Below W0.heap.size W0 (W0.alloc (.cells #[] 68)) := (Below.refl _ _).alloc (Nat.le_refl _) _
  have HR1 : Hid (HstRow (W0.alloc (.cells #[] 68)) v L) := hr.kept (hb0.trans (hbA.mono hb0.size))
  have HNI : Hid (∀ n c, v = .slice none n c → c = 0) := fun n c e => by
    obtain ⟨a, cap, rfl, _, _, h3⟩ := hr
    rcases h3 with h3 | ⟨b, o, rfl, _⟩
    · rw [h3] at hp; simp at hp
    · cases e
  have HOE := own_none3 W0
  rw [hz0] at HOE
  have HO : Hid ((W0.alloc (.cells #[] 68)).ownsRow (w.heap.size + 1 + 1) 68 3 (.slice (some ⟨w.heap.size + 1 + 1, 0, none⟩) 0 0) 0 (hcells [])) := HOE
  obtain ⟨aa, ca, rfl, _, hca, _⟩ := id hr
  obtain ⟨⟨c0, c1, c2⟩, ⟨f0, f1, f2⟩⟩ := hst_cells HX0.out.1
  clear hr hW0 HOE
  go_enter Tryd.func51, Tryd.ntmps51
  go_wp2_with (at_builtin; rw [HW0.out]; refine wpList_append_hsts rfl (.tmp 3) (.tmp 5) 24 rfl Tryd.underlying24 (w.heap.size + 1 + 1) _ 0 [] rfl rfl HO.out _ L rfl HR1.out HNI.out (by omega) (by simp; omega) ?_)
  intro v2 w2 hown2 hgrow2
  have ho2 := own_h hown2
  rcases ho2 with ⟨_, h0⟩ | ⟨g, cap, rfl, hcap, hmax, hbg, hs⟩
  · rw [h0] at hp; simp at hp
  · have hk2 := grown_kpt hgrow2
    have hx2 : w2.heap[w.heap.size]? = some (.cells #[.int .i64 ri, .int .i64 fa, .slice aa L.length ca] 26) := (hk2.block w.heap.size (by simp; omega) (fun h => by have q : w.heap.size + 1 + 1 = _ := Option.some.inj h; omega)).trans ((hbA.block w.heap.size (by omega)).trans HX0.out.1)
    have hy2 : w2.heap[w.heap.size + 1]? = some (.cells #[.int .i64 0, .int .i64 0, .slice none 0 0] 26) := (hk2.block (w.heap.size + 1) (by simp; omega) (fun h => by have q : w.heap.size + 1 + 1 = _ := Option.some.inj h; omega)).trans ((hbA.block (w.heap.size + 1) (by omega)).trans HX0.out.2)
    have hbw2 : Below w.heap.size w w2 := (hb0.trans (hbA.mono hb0.size)).grown hgrow2 (by simp; omega) (fun k e => by have q : w.heap.size + 1 + 1 = _ := Option.some.inj e; omega)
    have HX3 : Hid ((w2.setCell ⟨w.heap.size, 2, none⟩ (.slice (some ⟨g, 0, none⟩) L.length cap)).heap[w.heap.size]? = some (.cells #[.int .i64 ri, .int .i64 fa, .slice (some ⟨g, 0, none⟩) L.length cap] 26)) := hst_set2 hx2
    have HY3 : Hid ((w2.setCell ⟨w.heap.size, 2, none⟩ (.slice (some ⟨g, 0, none⟩) L.length cap)).heap[w.heap.size + 1]? = some (.cells #[.int .i64 0, .int .i64 0, .slice none 0 0] 26)) := by rw [heap_setCell_other _ _ _ _ (show w.heap.size + 1 ≠ w.heap.size by omega)]; exact hy2
    have HS3 : Hid (HoRow (w2.setCell ⟨w.heap.size, 2, none⟩ (.slice (some ⟨g, 0, none⟩) L.length cap)) g L) := hs.far (by omega) _
    have hbw3 : Below w.heap.size w (w2.setCell ⟨w.heap.size, 2, none⟩ (.slice (some ⟨g, 0, none⟩) L.length cap)) := hbw2.setCell (p := ⟨w.heap.size, 2, none⟩) (Nat.le_refl _) _
    have HLE : Hid (L.length ≤ cap ∧ cap ≤ maxLen ∧ w.heap.size + 2 ≤ g) := ⟨hcap, hmax, by omega⟩
    clear c0 c1 c2 f0 f1 f2
    obtain ⟨⟨c0, c1, c2⟩, ⟨f0, f1, f2⟩⟩ := hst_cells hx2
    obtain ⟨⟨d0, d1, d2⟩, ⟨z0, z1, z2⟩⟩ := hst_cells hy2
    unfold maxLen at hmax
    clear hown2 hgrow2 hk2 hx2 hy2 hs hbw2 HO HR1 HW0
    go_wp2_with fail
    (try simp only [Exit.inBlock, Exit.then])
    have hg2 := HLE.out.2.2
    refine bodyPost_ret (results_cell_row rfl _ _ (w.heap.size + 1) 26 #[.int .i64 ri, .int .i64 fa, .slice (some ⟨g, 0, none⟩) L.length cap] (0, 0) _ rfl ?_ Tryd.underlying26 rfl (by kernel_rfl)) rfl ⟨⟨g, cap, rfl, HLE.out.1, HLE.out.2.1, by omega, ?_⟩, ?_⟩
    · exact put3h_heap HY3.out
    · exact put3h_far HS3.out (by omega)
    · exact put3h_below hbw3 (by omega) _ _ _
end Go.Proofs.YtoopfmebpjojiaaDoor
