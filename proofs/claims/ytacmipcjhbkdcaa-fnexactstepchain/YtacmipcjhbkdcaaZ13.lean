import Derived.Test.YtacmipcjhbkdcaaZ08
import Derived.Test.YtacmipcjhbkdcaaZ12
import Derived.Laws.AppendOwn
import Derived.Deep.Upon
import Derived.Deep.RegionWith
import Derived.Deep.RegionHeld3
namespace Go.Proofs.Ytacmipcjhbkdcaa
open Go.RowKit

set_option maxRecDepth 20000 in
set_option maxHeartbeats 400000 in
theorem cloneC_any (s : ByteArray) (w : World) (hs : s.size ≤ 281474976710656) :
    Calls Try.prog 61 #[.string s] w fun e w' => e = .returned (.string s) ∧ Below w.heap.size w w' := by
  go_enter Try.func61, Try.ntmps61
  go_wp2_with fail
  refine (Try.stringslite_Clone s w hs).mono ?_
  rintro e w1 ⟨rfl, hb⟩
  go_wp2_with fail
  go_ret
  exact ⟨rfl, hb⟩
theorem S_one (P : List (List UInt8)) : ∀ u ∈ P.map S, u.oneCell' = true := by
  intro u hu
  obtain ⟨x, _, rfl⟩ := List.mem_map.1 hu
  rfl
theorem add_0C (b o j : Nat) : (⟨b, o, none⟩ : Addr).add j = ⟨b, o + j, none⟩ := by unfold Addr.add; split <;> simp_all
theorem own_emptyC (w : World) (e : TypeId) (size : Nat) : (w.alloc (.cells #[] e)).ownsRow w.heap.size e size (.slice (some ⟨w.heap.size, 0, none⟩) 0 0) 0 [] :=
  ⟨by simp, .inr ⟨w.heap.size, 0, #[], rfl, Nat.le_refl _, blk_new _ _, Nat.le_refl _, Nat.zero_le _, by simp, by simp⟩⟩
theorem src_S {W : World} {b o : Nat} {P : List (List UInt8)} (hc : ∀ j, (hj : j < P.length) → W.cell? ⟨b, o + j, none⟩ = some (S P[j])) : ∀ j u, (P.map S)[j]? = some u → W.cell? ((⟨b, o, none⟩ : Addr).add j) = some u := fun j u h => by
  rw [List.getElem?_map] at h
  by_cases hj : j < P.length
  · rw [List.getElem?_eq_getElem hj] at h
    cases h
    rw [add_0C]; exact hc j hj
  · rw [List.getElem?_eq_none (by omega)] at h; cases h
/-- A slice that may be nil: where its cells lie. -/
theorem row_some {w : World} {v : Value} {P : List (List UInt8)} (h : Row w v P) : (∃ cap, v = .slice none 0 cap ∧ P = []) ∨ ∃ b o sp cap, v = .slice (some ⟨b, o, sp⟩) P.length cap ∧ ∀ W, Below w.heap.size w W → ∀ j u, (P.map S)[j]? = some u → W.cell? ((⟨b, o, sp⟩ : Addr).add j) = some u := by
  obtain ⟨a, cap, rfl, h1, h2, h3⟩ := h
  rcases h3 with rfl | ⟨b, o, rfl, hb, hc⟩
  · cases a with
    | none => exact .inl ⟨cap, rfl, rfl⟩
    | some x =>
      obtain ⟨b, o, sp⟩ := x
      exact .inr ⟨b, o, sp, cap, rfl, fun W _ j u h => by simp at h⟩
  · refine .inr ⟨b, o, none, cap, rfl, fun W hW => src_S (fun j hj => ?_)⟩
    rw [hW.cell (p := ⟨b, o + j, none⟩) hb]; exact hc j hj

set_option maxRecDepth 20000 in
set_option maxHeartbeats 1000000 in
theorem cloneS_any (v : Value) (P : List (List UInt8)) (w : World) (hr : Row w v P) (hl : P.length ≤ 1048576) :
    Calls Try.prog 60 #[v] w fun e w' => ∃ u, e = .returned u ∧ w'.ownsRow w.heap.size 9 1 u P.length (P.map S) ∧ Below w.heap.size w w' := by
  obtain ⟨i0, hi, hz0, hz1, hz2⟩ := info_parts info_string
  rcases row_some hr with ⟨cap, rfl, rfl⟩ | ⟨b, o, sp, cap, rfl, hc⟩
  · have hnil : ∀ W : World, Sem.run Try.prog (binOp .eql 67 (.slice none 0 cap) (.slice none 0 0)) W = .ok (.bool true) W := fun W => by rfl
    clear hr
    go_enter Try.func60, Try.ntmps60
    go_wp2_with fail
    go_ret
    exact ⟨_, rfl, World.ownsRow_nil _ _ _ _, Below.refl _ _⟩
  · have hb0 : Below w.heap.size w (w.alloc (.cells #[] 9)) := (Below.refl _ _).alloc (Nat.le_refl _) _
    have hc2 := hc _ hb0
    have hnil : ∀ W : World, Sem.run Try.prog (binOp .eql 67 (.slice (some ⟨b, o, sp⟩) P.length cap) (.slice none 0 0)) W = .ok (.bool false) W := fun W => by rfl
    clear hc hr
    go_enter Try.func60, Try.ntmps60
    go_wp2_with (at_builtin; refine wpList_append_own _ rfl (.tmp 5) (.tmp 6) 67 rfl w.heap.size 9 i0 (.string ByteArray.empty) 1 16 Try.underlying67 hi hz0 hz1 hz2 rfl (by decide) _ _ _ rfl (own_emptyC w 9 1) ⟨b, o, sp⟩ P.length cap (P.map S) rfl (by simp) hc2 (S_one P) ?d3 ?d4 ?d5 ?_)
    case d3 => unfold maxLen; omega
    case d4 => omega
    case d5 => simp
    intro v2 w2 hown2 hgrow2 _
    have hb2 : Below w.heap.size w w2 := hb0.grown hgrow2 hb0.size (fun k e => by cases e; exact Nat.le_refl _)
    have HO : Hid (w2.ownsRow w.heap.size 9 1 v2 P.length (P.map S)) := by
      have h : w2.ownsRow w.heap.size 9 1 v2 P.length (P.map S) := by simpa using hown2
      exact h
    clear hown2 hgrow2 hc2
    go_wp2_with fail
    go_ret
    exact ⟨v2, rfl, HO.out, hb2⟩
theorem own_sliceC {w : World} {base e size n : Nat} {v : Value} {xs : List Value} (h : w.ownsRow base e size v n xs) : ∃ a cap, v = .slice a n cap ∧ n ≤ cap ∧ cap ≤ 9223372036854775807 ∧ (0 < n → ∃ g, a = some ⟨g, 0, none⟩ ∧ base ≤ g) := by
  rcases h.2 with ⟨rfl, rfl⟩ | ⟨g, cap, cur, rfl, hb, _, h1, h2, _⟩
  · exact ⟨none, 0, rfl, Nat.le_refl _, by omega, fun h => by omega⟩
  · exact ⟨_, cap, rfl, h1, by unfold maxLen at h2; omega, fun _ => ⟨g, rfl, hb⟩⟩

set_option maxRecDepth 20000 in
set_option maxHeartbeats 1000000 in
theorem copyTexts_any (v : Value) (P : List (List UInt8)) (w : World) (hr : Row w v P) (hl : P.length ≤ 1048576) (hx : Hid (∀ p ∈ P, p.length ≤ 1048576)) :
    Calls Try.prog 47 #[v] w fun e w' => ∃ u, e = .returned u ∧ w'.ownsRow w.heap.size 9 1 u P.length (P.map S) ∧ Below w.heap.size w w' := by
  have HC : Hid (Calls Try.prog 60 #[v] w fun e w' => ∃ u, e = .returned u ∧ w'.ownsRow w.heap.size 9 1 u P.length (P.map S) ∧ Below w.heap.size w w') := cloneS_any v P w hr hl
  obtain ⟨a, cap, rfl, _, _, _⟩ := hr
  go_enter Try.func47, Try.ntmps47
  go_wp2_with fail
  refine HC.out.mono ?_
  rintro e w1 ⟨u, rfl, ho, hb1⟩
  have HO : Hid (w1.ownsRow w.heap.size 9 1 u P.length (P.map S)) := ho
  obtain ⟨au, cu, rfl, hcu, hmu, hau⟩ := own_sliceC ho
  have HAU : Hid (0 < P.length → ∃ g, au = some ⟨g, 0, none⟩ ∧ w.heap.size ≤ g) := hau
  clear ho hau
  go_wp2_with fail
  go_loopw [10] (fun iv wr => ∃ k : Nat, k ≤ P.length ∧ iv = .int .i64 (k : Int) ∧ Hid (wr.ownsRow w.heap.size 9 1 (.slice au P.length cu) P.length (P.map S)) ∧ Below w.heap.size w wr) (fun iv _ => P.length - (intOf iv).toNat)
  case atStart => exact ⟨0, Nat.zero_le _, rfl, HO, hb1⟩
  case round =>
    obtain ⟨k, hk, rfl, HR, hb⟩ := hrel
    clear HO hb1
    by_cases hlt : k < P.length
    · obtain ⟨g, ha, hg⟩ := HAU.out (by omega)
      subst ha
      have c0 : wr.cell? ⟨g, k, none⟩ = some (S (P[k]'hlt)) := by
        rw [HR.out.cellAt k (by omega), List.getElem?_map, List.getElem?_eq_getElem hlt]; rfl
      have hxl := hx.out _ (List.getElem_mem hlt)
      have HSM : Hid ((P.map S).set k (S (P[k]'hlt)) = P.map S) := by
        show _ = _
        apply List.ext_getElem?
        intro j
        rw [List.getElem?_set]
        split
        · rename_i e
          subst e
          simp [hlt]
        · rfl
      obtain ⟨x, hxe⟩ : ∃ x, x = P[k]'hlt := ⟨_, rfl⟩
      rw [← hxe] at c0 hxl HSM
      have HCL : Hid (Calls Try.prog 61 #[.string ⟨x.toArray⟩] wr fun e w' => e = .returned (.string ⟨x.toArray⟩) ∧ Below wr.heap.size wr w') := cloneC_any ⟨x.toArray⟩ wr (by rw [size_list]; omega)
      unfold S at c0
      clear hxe
      go_wp2_with fail
      refine HCL.out.mono ?_
      rintro e w2 ⟨rfl, hb2⟩
      have ho2 := own_below HR.out hb2
      have c2 : w2.cell? ⟨g, k, none⟩ = some (.string ⟨x.toArray⟩) := by
        rw [hb2.cell (p := ⟨g, k, none⟩) (World.block_lt_of_cell? _ _ c0)]; exact c0
      have f2 := ho2.frozenAt k
      have hst := (ho2.stored k (S x)).1
      rw [HSM.out] at hst
      have HST : Hid ((w2.setCell ⟨g, k, none⟩ (.string ⟨x.toArray⟩)).ownsRow w.heap.size 9 1 (.slice (some ⟨g, 0, none⟩) P.length cu) P.length (P.map S)) := hst
      have hbw := hb.trans (hb2.mono hb.size)
      clear ho2 hst hb2 c0 HCL
      go_wp2_with fail
      go_roundw
      case rel => exact ⟨k + 1, by omega, by go_num, HST, hbw.setCell (p := ⟨g, k, none⟩) hg _⟩
      case measure => simp [intOf]; omega
    · go_wp2_with fail
      go_ret
      exact ⟨_, rfl, HR.out, hb⟩

/-- Texts that lie somewhere, or nil, appended to a row of the call's own. -/
theorem run_append_row (w : World) (base : Nat) (ty : TypeId) (v : Value) (n : Nat) (xs : List Value) (hown : w.ownsRow base 9 1 v n xs) (u : Value) (R : List (List UInt8)) (hr : Row w u R) (hn : n + R.length ≤ 1000000000) (hbase : base ≤ w.heap.size) :
    ∃ v' w', (Builtin.append_ #[67, 67] ty #[v, u]).run Try.prog w = .ok v' w' ∧ w'.ownsRow base 9 1 v' (n + R.length) (xs ++ R.map S) ∧ w.grownBy w' v.ownBlock ∧ (∀ k, v'.ownBlock = some k → v.ownBlock = some k ∨ w.heap.size ≤ k) := by
  obtain ⟨i0, hi, hz0, hz1, hz2⟩ := info_parts info_string
  rcases row_some hr with ⟨cap, rfl, rfl⟩ | ⟨b, o, sp, cap, rfl, hc⟩
  · obtain ⟨a, c, rfl, hle, _, _⟩ := own_sliceC hown
    refine ⟨_, w, run_append_nothing (P := Try.prog) w 67 67 ty 9 i0 Try.underlying67 hi a n c hle (.slice none 0 cap) (Src.ofNil w Try.underlying67 cap), by simpa using hown, grown_refl _ _, fun k hk => .inl hk⟩
  · exact Go.Proofs.Ytacmipcjhbkdcaa.run_append_own_at (P := Try.prog) w base 67 ty 9 i0 (.string ByteArray.empty) 1 16 Try.underlying67 hi hz0 hz1 hz2 rfl (by decide) v n xs hown ⟨b, o, sp⟩ R.length cap (R.map S) (by simp) (hc w (Below.refl _ _)) (S_one R) (by unfold maxLen; omega) (by omega) hbase
theorem wpList_append_row (w : World) {ops : Array Oper} {rest : List Oper} {o : Oper} {a : Act} {Q : Exit → Act → World → Prop} (hgd : o.guard = none) (s x : Operand)
    (ho : o.op = .call { callee := .builtin .append, args := #[s, x], argTypes := #[67, 67] })
    (base : Nat) (v : Value) (n : Nat) (xs : List Value) (hs : a.eval s = v) (hown : w.ownsRow base 9 1 v n xs) (u : Value) (hx : a.eval x = u) (R : List (List UInt8)) (hr : Row w u R) (hn : n + R.length ≤ 1000000000) (hbase : base ≤ w.heap.size)
    (h : ∀ v' w', w'.ownsRow base 9 1 v' (n + R.length) (xs ++ R.map S) → w.grownBy w' v.ownBlock → (∀ k, v'.ownBlock = some k → v.ownBlock = some k ∨ w.heap.size ≤ k) → wpList Try.prog ops Q rest (a.put o.dst v') w') : wpList Try.prog ops Q (o :: rest) a w := by
  refine wpList_plain hgd fun K hK => ?_
  obtain ⟨v', w', hr2, h2, h3, h4⟩ := run_append_row w base o.type v n xs hown u R hr hn hbase
  unfold Oper.wp
  simp [execOp, ho, resolve, invoke, builtin, hs, hx, hr2, Result.andThen]
  exact hK _ _ (h v' w' h2 h3 h4)
theorem step_append_row {w : World} {ops : Array Oper} {o : Oper} {a : Act} {Q : Exit → Act → World → Prop} {K : Act → World → Prop} {E : Prop} (hgd : o.guard = none) (s x : Operand)
    (ho : o.op = .call { callee := .builtin .append, args := #[s, x], argTypes := #[67, 67] })
    (base : Nat) (v : Value) (n : Nat) (xs : List Value) (hs : a.eval s = v) (hown : w.ownsRow base 9 1 v n xs) (u : Value) (hx : a.eval x = u) (R : List (List UInt8)) (hr : Row w u R) (hn : n + R.length ≤ 1000000000) (hbase : base ≤ w.heap.size)
    (h : ∀ v' w', w'.ownsRow base 9 1 v' (n + R.length) (xs ++ R.map S) → w.grownBy w' v.ownBlock → (∀ k, v'.ownBlock = some k → v.ownBlock = some k ∨ w.heap.size ≤ k) → K (a.put o.dst v') w') :
    if Region.wanted o (yielded ops a.tmps) = true then Oper.wp Try.prog o a w K Q else E := by
  have hw : Region.wanted o (yielded ops a.tmps) = true := by simp [Region.wanted, hgd]
  rw [if_pos hw]
  obtain ⟨v', w', hr2, h2, h3, h4⟩ := run_append_row w base o.type v n xs hown u R hr hn hbase
  unfold Oper.wp execOp
  simp only [ho, resolve, invoke, builtin, Sem.run_bind, Sem.run_pure, Result.andThen_ok, List.map_toArray, List.map_cons, List.map_nil, hs, hx, hr2]
  exact h v' w' h2 h3 h4
end Go.Proofs.Ytacmipcjhbkdcaa
