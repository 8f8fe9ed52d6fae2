import Derived.Test.YtoopfmebpjojiaaDoorLHstM
import Derived.Laws.AppendOwnNone
namespace Go.Proofs.YtoopfmebpjojiaaDoor
open Go.RowKit

/-- The cells of records, one behind the other. -/
def hcs (x : HosT) : List Value := [.string ⟨x.1.toArray⟩, .bool x.2.1, .int .i64 x.2.2]
def hcells : List HosT → List Value
  | [] => []
  | x :: r => hcs x ++ hcells r
theorem hcells_length : ∀ L : List HosT, (hcells L).length = L.length * 3
  | [] => rfl
  | x :: r => by rw [hcells, List.length_append, hcells_length r, List.length_cons]; simp only [hcs, List.length_cons, List.length_nil]; omega
theorem hcells_app : ∀ A B : List HosT, hcells (A ++ B) = hcells A ++ hcells B
  | [], _ => rfl
  | x :: r, B => by rw [List.cons_append, hcells, hcells_app r B, hcells, List.append_assoc]
theorem hcells_get : ∀ (L : List HosT) (j : Nat) (hj : j < L.length) (r : Nat), r < 3 → (hcells L)[j * 3 + r]? = (hcs L[j])[r]?
  | x :: l, 0, _, r, hr => by
    rw [hcells, List.getElem?_append_left (by simp only [hcs, List.length_cons, List.length_nil]; omega), Nat.zero_mul, Nat.zero_add]; rfl
  | x :: l, j + 1, hj, r, hr => by
    have ih := hcells_get l j (by simpa using hj) r hr
    rw [hcells, List.getElem?_append_right (by simp only [hcs, List.length_cons, List.length_nil]; omega)]
    rw [show (j + 1) * 3 + r - (hcs x).length = j * 3 + r by simp only [hcs, List.length_cons, List.length_nil]; omega, ih]
    rfl
theorem hcells_one : ∀ (L : List HosT), ∀ u ∈ hcells L, u.oneCell' = true
  | [], u, h => by cases h
  | x :: r, u, h => by
    rw [hcells, List.mem_append] at h
    rcases h with h | h
    · simp only [hcs, List.mem_cons, List.not_mem_nil, or_false] at h
      rcases h with rfl | rfl | rfl <;> rfl
    · exact hcells_one r u h
theorem hadd_off (b o k : Nat) : (⟨b, o, none⟩ : Addr).add k = ⟨b, o + k, none⟩ := by unfold Addr.add; split <;> simp_all
theorem hst_at {w : World} {b o : Nat} {x : HosT} (h : HstAt w b o x) (r : Nat) (u : Value) (hu : (hcs x)[r]? = some u) : w.cell? ⟨b, o + r, none⟩ = some u := by
  obtain ⟨h0, h1, h2⟩ := h
  match r, hu with
  | 0, hu => cases hu; exact h0
  | 1, hu => cases hu; exact h1
  | 2, hu => cases hu; exact h2
theorem hsts_news {w : World} {b o : Nat} {L : List HosT} (h : ∀ j, (hj : j < L.length) → HstAt w b (o + j * 3) L[j]) : ∀ j u, (hcells L)[j]? = some u → w.cell? ((⟨b, o, none⟩ : Addr).add j) = some u := by
  intro j u hu
  have hj : j < (hcells L).length := (List.getElem?_eq_some_iff.1 hu).1
  rw [hcells_length] at hj
  have hq : j / 3 < L.length := by omega
  have e : j = j / 3 * 3 + j % 3 := by omega
  rw [hadd_off]
  have h1 := hcells_get L (j / 3) hq (j % 3) (by omega)
  rw [← e] at h1
  rw [h1] at hu
  have h2 := hst_at (h (j / 3) hq) (j % 3) u hu
  rw [show o + j / 3 * 3 + j % 3 = o + j by omega] at h2
  exact h2
/-- What the call owns by appending. -/
theorem own_h {w : World} {base : Nat} {v : Value} {L : List HosT} (h : w.ownsRow base 68 3 v L.length (hcells L)) : OwnH w base v L := by
  rcases h.2 with ⟨rfl, hn⟩ | ⟨g, cap, cur, rfl, hb, _, hnc, hcm, _, _⟩
  · exact .inl ⟨rfl, List.eq_nil_of_length_eq_zero hn⟩
  · refine .inr ⟨g, cap, rfl, hnc, hcm, hb, (h.lt g rfl).2, fun j hj => ⟨?_, ?_⟩⟩
    · have c : ∀ r, r < 3 → w.cell? ⟨g, j * 3 + r, none⟩ = (hcs L[j])[r]? := fun r hr => by rw [h.cellAt (j * 3 + r) (by omega), hcells_get L j hj r hr]
      exact ⟨c 0 (by omega), c 1 (by omega), c 2 (by omega)⟩
    · exact ⟨h.frozenAt _, h.frozenAt _, h.frozenAt _⟩

section
variable {w : World} {ops : Array Oper} {rest : List Oper} {o : Oper} {a : Act} {Q : Exit → Act → World → Prop} {K : Act → World → Prop} {E : Prop}
/-- Records that lie somewhere appended to the call's own. -/
theorem wp_append_hsts (s x : Operand) (t : TypeId)
    (ho : o.op = .call { callee := .builtin .append, args := #[s, x], argTypes := #[t, t] }) (ht : Tryd.prog.underlying t = some (.slice 68))
    (base : Nat) (v : Value) (n : Nat) (B : List HosT) (hs : a.eval s = v) (hn : n = B.length) (hown : w.ownsRow base 68 3 v n (hcells B))
    (u : Value) (L : List HosT) (hx : a.eval x = u) (hr : HstRow w u L) (hnil : ∀ n c, u = .slice none n c → c = 0) (hlen : n + L.length ≤ 1048576) (hbase : base ≤ w.heap.size)
    (h : ∀ v' w', w'.ownsRow base 68 3 v' (B ++ L).length (hcells (B ++ L)) → w.grownBy w' v.ownBlock → K (a.put o.dst v') w') : Oper.wp Tryd.prog o a w K Q := by
  obtain ⟨i0, hi, hz0, hz1, hz2⟩ := info_parts info_hst
  obtain ⟨ao, cap, rfl, hcap, hmax, hc⟩ := hr
  have fin : ∀ v' w', w'.ownsRow base 68 3 v' (n + L.length) (hcells B ++ hcells L) → w.grownBy w' v.ownBlock → K (a.put o.dst v') w' := fun v' w' h1 h2 => by
    refine h v' w' ?_ h2
    rw [List.length_append, ← hn, hcells_app]; exact h1
  cases ao with
  | none =>
    rcases hc with hL | ⟨b, off, hb, _⟩
    · subst hL
      obtain rfl : cap = 0 := hnil _ _ rfl
      have hrun := run_append_owned_none (P := Tryd.prog) (w := w) base t o.type 68 i0 3 ht hi v n (hcells B) hown
      unfold Oper.wp
      simp [execOp, ho, resolve, invoke, builtin, hs, hx, hrun, Result.andThen]
      exact fin v w (by simpa [hcells] using hown) (grown_refl _ _)
    · cases hb
  | some ad =>
    have hnews : ∀ j u, (hcells L)[j]? = some u → w.cell? (ad.add j) = some u := by
      rcases hc with hL | ⟨b, off, hb, _, hrow⟩
      · subst hL; intro j u hu; simp [hcells] at hu
      · cases hb; exact hsts_news hrow
    exact wp_append_own w s x t ho base 68 i0 _ 3 32 ht hi hz0 hz1 hz2 rfl (by decide) v n (hcells B) hs hown ad L.length cap (hcells L) hx (hcells_length L) hnews (hcells_one L) (by unfold maxLen; omega) (by omega) hbase (fun v' w' h1 h2 _ => fin v' w' h1 h2)
theorem wpList_append_hsts (hgd : o.guard = none) (s x : Operand) (t : TypeId)
    (ho : o.op = .call { callee := .builtin .append, args := #[s, x], argTypes := #[t, t] }) (ht : Tryd.prog.underlying t = some (.slice 68))
    (base : Nat) (v : Value) (n : Nat) (B : List HosT) (hs : a.eval s = v) (hn : n = B.length) (hown : w.ownsRow base 68 3 v n (hcells B))
    (u : Value) (L : List HosT) (hx : a.eval x = u) (hr : HstRow w u L) (hnil : ∀ n c, u = .slice none n c → c = 0) (hlen : n + L.length ≤ 1048576) (hbase : base ≤ w.heap.size)
    (h : ∀ v' w', w'.ownsRow base 68 3 v' (B ++ L).length (hcells (B ++ L)) → w.grownBy w' v.ownBlock → wpList Tryd.prog ops Q rest (a.put o.dst v') w') : wpList Tryd.prog ops Q (o :: rest) a w :=
  wpList_plain hgd fun _ hK => wp_append_hsts s x t ho ht base v n B hs hn hown u L hx hr hnil hlen hbase fun v' w' h1 h2 => hK _ _ (h v' w' h1 h2)
theorem step_append_hsts (hgd : o.guard = none) (s x : Operand) (t : TypeId)
    (ho : o.op = .call { callee := .builtin .append, args := #[s, x], argTypes := #[t, t] }) (ht : Tryd.prog.underlying t = some (.slice 68))
    (base : Nat) (v : Value) (n : Nat) (B : List HosT) (hs : a.eval s = v) (hn : n = B.length) (hown : w.ownsRow base 68 3 v n (hcells B))
    (u : Value) (L : List HosT) (hx : a.eval x = u) (hr : HstRow w u L) (hnil : ∀ n c, u = .slice none n c → c = 0) (hlen : n + L.length ≤ 1048576) (hbase : base ≤ w.heap.size)
    (h : ∀ v' w', w'.ownsRow base 68 3 v' (B ++ L).length (hcells (B ++ L)) → w.grownBy w' v.ownBlock → K (a.put o.dst v') w') :
    if Region.wanted o (yielded ops a.tmps) = true then Oper.wp Tryd.prog o a w K Q else E := by
  have hw : Region.wanted o (yielded ops a.tmps) = true := by simp [Region.wanted, hgd]
  rw [if_pos hw]
  exact wp_append_hsts s x t ho ht base v n B hs hn hown u L hx hr hnil hlen hbase h
end

theorem own_none3 (w : World) : (w.alloc (.cells #[] 68)).ownsRow w.heap.size 68 3 (.slice (some ⟨w.heap.size, 0, none⟩) 0 0) 0 (hcells []) :=
  World.ownsRow_lit w #[] 0 (Nat.le_refl _) (by unfold maxLen; omega) rfl
set_option maxRecDepth 20000 in
set_option maxHeartbeats 2000000 in
/-- slices.Clone at hosts. -/
theorem cloneHst_any (v : Value) (L : List HosT) (w : World) (hr : HstRow w v L) (hl : L.length ≤ 1048576) (hnil : ∀ n c, v = .slice none n c → c = 0) :
    Calls Tryd.prog 60 #[v] w fun e w' => (∃ u, e = .returned u ∧ OwnH w' w.heap.size u L) ∧ Below w.heap.size w w' := by
  have hb0 : Below w.heap.size w (w.alloc (.cells #[] 68)) := (Below.refl _ _).alloc (Nat.le_refl _) _
  have HR1 : Hid (HstRow (w.alloc (.cells #[] 68)) v L) := hr.kept hb0
  have HNI : Hid (∀ n c, v = .slice none n c → c = 0) := hnil
  obtain ⟨a, cap, rfl, hcap, hmax, hrow⟩ := id hr
  unfold maxLen at hmax
  cases a with
  | none =>
    rcases hrow with rfl | ⟨b, o, h, _⟩
    · have hc0 : cap = 0 := HNI.out _ _ rfl
      subst hc0
      clear hr HR1 HNI hnil
      have hn : ∀ W : World, Sem.run Tryd.prog (binOp .eql 24 (.slice none 0 0) (.slice none 0 0)) W = .ok (.bool true) W := fun W => by rfl
      go_enter Tryd.func60, Tryd.ntmps60
      go_wp2_with fail
      go_ret
      exact ⟨⟨_, rfl, .inl ⟨rfl, rfl⟩⟩, Below.refl _ _⟩
    · cases h
  | some p =>
    have hn : ∀ W : World, Sem.run Tryd.prog (binOp .eql 24 (.slice (some p) L.length cap) (.slice none 0 0)) W = .ok (.bool false) W := fun W => by rfl
    have HOE := own_none3 w
    clear hr hrow hnil
    go_enter Tryd.func60, Tryd.ntmps60
    go_wp2_with (first | (at_builtin; refine wpList_append_hsts rfl (.tmp 5) (.tmp 6) 24 rfl Tryd.underlying24 w.heap.size _ 0 [] rfl rfl HOE _ L rfl HR1.out HNI.out (by omega) (by simp) ?_))
    intro v2 w2 hown2 hgrow2
    have HO : Hid (OwnH w2 w.heap.size v2 L) := own_h hown2
    have hb2 : Below w.heap.size w w2 := hb0.grown hgrow2 hb0.size (fun k e => by cases e; exact Nat.le_refl _)
    clear hown2 hgrow2 HOE
    go_wp2_with fail
    go_ret
    exact ⟨⟨_, rfl, HO.out⟩, hb2⟩
end Go.Proofs.YtoopfmebpjojiaaDoor
