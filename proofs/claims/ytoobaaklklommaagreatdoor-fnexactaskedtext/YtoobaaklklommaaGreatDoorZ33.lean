import Derived.Test.YtoobaaklklommaaGreatDoorZ14
import Derived.Laws.AppendOwnNone
namespace Go.Proofs.YtoobaaklklommaaGreatDoor
open Go.RowKit

/-- The cells of records, one behind the other. -/
def rcs (x : List UInt8 × Int × Int × List UInt8) : List Value := [.string ⟨x.1.toArray⟩, .int .i64 x.2.1, .int .i64 x.2.2.1, .string ⟨x.2.2.2.toArray⟩]
def rcells : List (List UInt8 × Int × Int × List UInt8) → List Value
  | [] => []
  | x :: r => rcs x ++ rcells r
theorem rcells_length : ∀ L : List (List UInt8 × Int × Int × List UInt8), (rcells L).length = L.length * 4
  | [] => rfl
  | x :: r => by rw [rcells, List.length_append, rcells_length r, List.length_cons]; simp only [rcs, List.length_cons, List.length_nil]; omega
theorem rcells_app : ∀ A B : List (List UInt8 × Int × Int × List UInt8), rcells (A ++ B) = rcells A ++ rcells B
  | [], _ => rfl
  | x :: r, B => by rw [List.cons_append, rcells, rcells_app r B, rcells, List.append_assoc]
theorem rcells_get : ∀ (L : List (List UInt8 × Int × Int × List UInt8)) (j : Nat) (hj : j < L.length) (r : Nat), r < 4 → (rcells L)[j * 4 + r]? = (rcs L[j])[r]?
  | x :: l, 0, _, r, hr => by
    rw [rcells, List.getElem?_append_left (by simp only [rcs, List.length_cons, List.length_nil]; omega), Nat.zero_mul, Nat.zero_add]; rfl
  | x :: l, j + 1, hj, r, hr => by
    have ih := rcells_get l j (by simpa using hj) r hr
    rw [rcells, List.getElem?_append_right (by simp only [rcs, List.length_cons, List.length_nil]; omega)]
    rw [show (j + 1) * 4 + r - (rcs x).length = j * 4 + r by simp only [rcs, List.length_cons, List.length_nil]; omega, ih]
    rfl
theorem rcells_one : ∀ (L : List (List UInt8 × Int × Int × List UInt8)), ∀ u ∈ rcells L, u.oneCell' = true
  | [], u, h => by cases h
  | x :: r, u, h => by
    rw [rcells, List.mem_append] at h
    rcases h with h | h
    · simp only [rcs, List.mem_cons, List.not_mem_nil, or_false] at h
      rcases h with rfl | rfl | rfl | rfl <;> rfl
    · exact rcells_one r u h
theorem add_off (b o k : Nat) : (⟨b, o, none⟩ : Addr).add k = ⟨b, o + k, none⟩ := by unfold Addr.add; split <;> simp_all
theorem rec_at {w : World} {b o : Nat} {x : List UInt8 × Int × Int × List UInt8} (h : RecAt w b o x) (r : Nat) (u : Value) (hu : (rcs x)[r]? = some u) : w.cell? ⟨b, o + r, none⟩ = some u := by
  obtain ⟨h0, h1, h2, h3⟩ := h
  match r, hu with
  | 0, hu => cases hu; exact h0
  | 1, hu => cases hu; exact h1
  | 2, hu => cases hu; exact h2
  | 3, hu => cases hu; exact h3
theorem rows_news {w : World} {b o : Nat} {L : List (List UInt8 × Int × Int × List UInt8)} (h : ∀ j, (hj : j < L.length) → RecAt w b (o + j * 4) L[j]) : ∀ j u, (rcells L)[j]? = some u → w.cell? ((⟨b, o, none⟩ : Addr).add j) = some u := by
  intro j u hu
  have hj : j < (rcells L).length := (List.getElem?_eq_some_iff.1 hu).1
  rw [rcells_length] at hj
  have hq : j / 4 < L.length := by omega
  have e : j = j / 4 * 4 + j % 4 := by omega
  rw [add_off]
  have h1 := rcells_get L (j / 4) hq (j % 4) (by omega)
  rw [← e] at h1
  rw [h1] at hu
  have h2 := rec_at (h (j / 4) hq) (j % 4) u hu
  rw [show o + j / 4 * 4 + j % 4 = o + j by omega] at h2
  exact h2
/-- What the call owns by appending. -/
theorem own_q {w : World} {base : Nat} {v : Value} {L : List (List UInt8 × Int × Int × List UInt8)} (h : w.ownsRow base 108 4 v L.length (rcells L)) : OwnQ w base v L := by
  rcases h.2 with ⟨rfl, hn⟩ | ⟨g, cap, cur, rfl, hb, hg, hnc, hcm, hcs, htake⟩
  · exact .inl ⟨rfl, List.eq_nil_of_length_eq_zero hn⟩
  · refine .inr ⟨g, cap, rfl, hnc, hcm, hb, (h.lt g rfl).2, fun j hj => ⟨?_, ?_⟩⟩
    · have c : ∀ r, r < 4 → w.cell? ⟨g, j * 4 + r, none⟩ = (rcs L[j])[r]? := fun r hr => by rw [h.cellAt (j * 4 + r) (by omega), rcells_get L j hj r hr]
      exact ⟨c 0 (by omega), c 1 (by omega), c 2 (by omega), c 3 (by omega)⟩
    · exact ⟨h.frozenAt _, h.frozenAt _, h.frozenAt _, h.frozenAt _⟩

section
variable {w : World} {ops : Array Oper} {rest : List Oper} {o : Oper} {a : Act} {Q : Exit → Act → World → Prop} {K : Act → World → Prop} {E : Prop}
/-- Records that lie somewhere appended to the call's own. -/
theorem wp_append_rows (s x : Operand) (t : TypeId)
    (ho : o.op = .call { callee := .builtin .append, args := #[s, x], argTypes := #[t, t] }) (ht : Tryz.prog.underlying t = some (.slice 108))
    (base : Nat) (v : Value) (n : Nat) (B : List (List UInt8 × Int × Int × List UInt8)) (hs : a.eval s = v) (hn : n = B.length) (hown : w.ownsRow base 108 4 v n (rcells B))
    (u : Value) (L : List (List UInt8 × Int × Int × List UInt8)) (hx : a.eval x = u) (hr : RRow w u L) (hnil : ∀ n c, u = .slice none n c → c = 0) (hlen : n + L.length ≤ 1048576) (hbase : base ≤ w.heap.size)
    (h : ∀ v' w', w'.ownsRow base 108 4 v' (B ++ L).length (rcells (B ++ L)) → w.grownBy w' v.ownBlock → K (a.put o.dst v') w') : Oper.wp Tryz.prog o a w K Q := by
  obtain ⟨i0, hi, hz0, hz1, hz2⟩ := info_parts info_rec
  obtain ⟨ao, cap, rfl, hcap, hmax, hc⟩ := hr
  have fin : ∀ v' w', w'.ownsRow base 108 4 v' (n + L.length) (rcells B ++ rcells L) → w.grownBy w' v.ownBlock → K (a.put o.dst v') w' := fun v' w' h1 h2 => by
    refine h v' w' ?_ h2
    rw [List.length_append, ← hn, rcells_app]; exact h1
  cases ao with
  | none =>
    rcases hc with hL | ⟨b, off, hb, _⟩
    · subst hL
      obtain rfl : cap = 0 := hnil _ _ rfl
      have hrun := run_append_owned_none (P := Tryz.prog) (w := w) base t o.type 108 i0 4 ht hi v n (rcells B) hown
      unfold Oper.wp
      simp [execOp, ho, resolve, invoke, builtin, hs, hx, hrun, Result.andThen]
      exact fin v w (by simpa [rcells] using hown) (grown_refl _ _)
    · cases hb
  | some ad =>
    have hnews : ∀ j u, (rcells L)[j]? = some u → w.cell? (ad.add j) = some u := by
      rcases hc with hL | ⟨b, off, hb, _, hrow⟩
      · subst hL; intro j u hu; simp [rcells] at hu
      · cases hb; exact rows_news hrow
    exact wp_append_own w s x t ho base 108 i0 _ 4 48 ht hi hz0 hz1 hz2 rfl (by decide) v n (rcells B) hs hown ad L.length cap (rcells L) hx (rcells_length L) hnews (rcells_one L) (by unfold maxLen; omega) (by omega) hbase (fun v' w' h1 h2 _ => fin v' w' h1 h2)
theorem wpList_append_rows (hgd : o.guard = none) (s x : Operand) (t : TypeId)
    (ho : o.op = .call { callee := .builtin .append, args := #[s, x], argTypes := #[t, t] }) (ht : Tryz.prog.underlying t = some (.slice 108))
    (base : Nat) (v : Value) (n : Nat) (B : List (List UInt8 × Int × Int × List UInt8)) (hs : a.eval s = v) (hn : n = B.length) (hown : w.ownsRow base 108 4 v n (rcells B))
    (u : Value) (L : List (List UInt8 × Int × Int × List UInt8)) (hx : a.eval x = u) (hr : RRow w u L) (hnil : ∀ n c, u = .slice none n c → c = 0) (hlen : n + L.length ≤ 1048576) (hbase : base ≤ w.heap.size)
    (h : ∀ v' w', w'.ownsRow base 108 4 v' (B ++ L).length (rcells (B ++ L)) → w.grownBy w' v.ownBlock → wpList Tryz.prog ops Q rest (a.put o.dst v') w') : wpList Tryz.prog ops Q (o :: rest) a w :=
  wpList_plain hgd fun _ hK => wp_append_rows s x t ho ht base v n B hs hn hown u L hx hr hnil hlen hbase fun v' w' h1 h2 => hK _ _ (h v' w' h1 h2)
theorem step_append_rows (hgd : o.guard = none) (s x : Operand) (t : TypeId)
    (ho : o.op = .call { callee := .builtin .append, args := #[s, x], argTypes := #[t, t] }) (ht : Tryz.prog.underlying t = some (.slice 108))
    (base : Nat) (v : Value) (n : Nat) (B : List (List UInt8 × Int × Int × List UInt8)) (hs : a.eval s = v) (hn : n = B.length) (hown : w.ownsRow base 108 4 v n (rcells B))
    (u : Value) (L : List (List UInt8 × Int × Int × List UInt8)) (hx : a.eval x = u) (hr : RRow w u L) (hnil : ∀ n c, u = .slice none n c → c = 0) (hlen : n + L.length ≤ 1048576) (hbase : base ≤ w.heap.size)
    (h : ∀ v' w', w'.ownsRow base 108 4 v' (B ++ L).length (rcells (B ++ L)) → w.grownBy w' v.ownBlock → K (a.put o.dst v') w') :
    if Region.wanted o (yielded ops a.tmps) = true then Oper.wp Tryz.prog o a w K Q else E := by
  have hw : Region.wanted o (yielded ops a.tmps) = true := by simp [Region.wanted, hgd]
  rw [if_pos hw]
  exact wp_append_rows s x t ho ht base v n B hs hn hown u L hx hr hnil hlen hbase h
end
end Go.Proofs.YtoobaaklklommaaGreatDoor
