import Derived.Test.YtjbhhllfbonaiaaZ03
import Derived.Test.YtjbhhllfbonaiaaZ10
import Derived.Test.YtjbhhllfbonaiaaZ07
namespace Go.Proofs.Ytjbhhllfbonaiaa
open Go.RowKit

theorem cell_new_oneD (w : World) (x : Value) (t : TypeId) : ∀ j u, [x][j]? = some u → (w.alloc (.cells #[x] t)).cell? ((⟨w.heap.size, 0, none⟩ : Addr).add j) = some u := by
  intro j u hj
  match j, hj with
  | 0, hj => simp at hj; subst hj; simp [Addr.add]
theorem one_intD (n : Int) : ∀ u ∈ [Value.int .i64 n], u.oneCell' = true := by
  intro u hu; simp at hu; subst hu; rfl
theorem own_sliceD {w : World} {base : Nat} {v : Value} {n : Nat} {xs : List Value} (h : w.ownsRow base 3 1 v n xs) : ∃ x c, v = .slice x n c := by
  rcases h.2 with ⟨rfl, hn⟩ | ⟨g, cap, cur, rfl, _⟩
  · exact ⟨none, 0, by rw [hn]⟩
  · exact ⟨_, cap, rfl⟩
theorem own_keptD {a b : World} {S : Nat → Prop} {base : Nat} {v : Value} {n : Nat} {xs : List Value} (h : a.ownsRow base 3 1 v n xs) (hk : Kpt a b S) (hn : ∀ g, v.ownBlock = some g → ¬ S g) : b.ownsRow base 3 1 v n xs := own_kpt h hk hn
theorem own_belD {a b : World} {base : Nat} {v : Value} {n : Nat} {xs : List Value} (h : a.ownsRow base 3 1 v n xs) (hb : Below a.heap.size a b) : b.ownsRow base 3 1 v n xs := own_kpt h (below_kpt0 hb (fun _ => False)) (fun _ _ h => h)
section
variable {w : World} {ops : Array Oper} {rest : List Oper} {o : Oper} {a : Act} {Q : Exit → Act → World → Prop}
/-- An append to a row of the call's own, and where what it tells lies. -/
theorem wpList_append_atD (hgd : o.guard = none) (s x : Operand) (t : TypeId)
    (ho : o.op = .call { callee := .builtin .append, args := #[s, x], argTypes := #[t, t] })
    (base : Nat) (e : TypeId) (i : TypeInfo) (z : Value) (size bytes : Nat) (ht : Try.prog.underlying t = some (.slice e)) (hi : Try.prog.info? e = some i) (hz : i.zero = some z)
    (hsize : i.size = size) (hby : i.bytes = bytes) (hzs : z.cells.size = size) (hsz : 0 < size)
    (v : Value) (n : Nat) (xs : List Value) (hs : a.eval s = v) (hown : w.ownsRow base e size v n xs)
    (ad : Addr) (m c : Nat) (news : List Value) (hx : a.eval x = .slice (some ad) m c) (hl : news.length = m * size) (hnews : ∀ j u, news[j]? = some u → w.cell? (ad.add j) = some u) (h1 : ∀ u ∈ news, u.oneCell' = true)
    (h63 : n + m ≤ maxLen) (hbytes : (n + m) * bytes ≤ 140737488355328) (hbase : base ≤ w.heap.size)
    (h : ∀ v' w', w'.ownsRow base e size v' (n + m) (xs ++ news) → w.grownBy w' v.ownBlock → (v'.ownBlock = v.ownBlock ∨ v'.ownBlock = some w.heap.size) → wpList Try.prog ops Q rest (a.put o.dst v') w') :
    wpList Try.prog ops Q (o :: rest) a w := by
  refine wpList_plain hgd fun K' hK' => ?_
  obtain ⟨v', w', hrun, h2, h3, _, h5⟩ := run_append_own_at (P := Try.prog) w base t o.type e i z size bytes ht hi hz hsize hby hzs hsz v n xs hown ad m c news hl hnews h1 h63 hbytes hbase
  unfold Oper.wp
  simp [execOp, ho, resolve, invoke, builtin, hs, hx, hrun, Result.andThen]
  exact hK' _ _ (h v' w' h2 h3 h5)
end

/-- Weights drawn: one at least, in a block from base on. -/
def DrW (w : World) (base : Nat) (u : Value) (L : List Int) : Prop := ∃ t cap, u = .slice (some ⟨t, 0, none⟩) L.length cap ∧ L.length ≤ cap ∧ cap ≤ 9223372036854775807 ∧ base ≤ t ∧ ZSRow w t L
theorem drw_own {w : World} {base : Nat} {u : Value} {L : List Int} (hp : 0 < L.length) (h : w.ownsRow base 3 1 u L.length (L.map (Value.int .i64))) : DrW w base u L := by
  have h0 := h
  obtain ⟨_, ⟨_, hn⟩ | ⟨g, cap, cur, rfl, hg, _, h1, h2, _⟩⟩ := h
  · omega
  · unfold maxLen at h2
    exact ⟨g, cap, rfl, h1, h2, hg, zs_own h0⟩
theorem two_zs (w : World) (x y : Int) : ZSRow (w.alloc (.cells #[.int .i64 x, .int .i64 y] 3)) w.heap.size [x, y] := by
  have h := trn_new w (.cells #[.int .i64 x, .int .i64 y] 3)
  refine ⟨by simp, fun j hj => ?_⟩
  have hj2 : j = 0 ∨ j = 1 := by simp at hj; omega
  rcases hj2 with rfl | rfl <;> exact ⟨by unfold World.cell?; rw [h]; rfl, by unfold World.frozen?; rw [h]; simp⟩
set_option maxRecDepth 20000 in
set_option maxHeartbeats 8000000 in
theorem weights_any (g : Nat) (v : Value) (P : List Int) (B : Nat) (w : World) (hc : CurB w g v P B) (hB : B ≤ 900000000) (hl : P.length ≤ 9223372036854775807) (HCL : Hid (0 < P.length → ∀ k, v.ownBlock = some k → k < w.heap.size)) :
    Calls Try.prog 27 #[.pointer (some ⟨g, 0, none⟩)] w fun e w' => ∃ u L, e = .returned u ∧ (1 ≤ L.length ∧ L.length ≤ 13) ∧ DrW w' w.heap.size u L ∧ CurB w' g v P (B + 40) ∧ Kpt w w' (· = g) := by
  have HC : Hid (CurB w g v P B) := hc
  have hgw := hc.lt
  have HKE : Hid (∀ W, Kpt w W (fun k => k = g ∨ w.heap.size ≤ k) → Kpt w W (· = g)) := fun W h => h.mono (fun k hk hs => by omega)
  have HGK : Hid (∀ W W', Kpt w W (fun k => k = g ∨ w.heap.size ≤ k) → Kpt W W' (· = g) → Kpt w W' (fun k => k = g ∨ w.heap.size ≤ k)) := fun W W' h k => h.trans (k.mono (fun _ _ e => Or.inl e))
  have HGO : Hid (∀ W W', Kpt w W (fun k => k = g ∨ w.heap.size ≤ k) → ∀ T : Nat → Prop, (∀ k, T k → w.heap.size ≤ k) → Kpt W W' T → Kpt w W' (fun k => k = g ∨ w.heap.size ≤ k)) := fun W W' h T hT k => h.trans (k.mono (fun _ _ e => Or.inr (hT _ e)))
  have HCK : Hid (∀ W W' (T : Nat → Prop) n, CurB W g v P n → (∀ k, T k → w.heap.size ≤ k) → Kpt W W' T → CurB W' g v P n) := fun W W' T n h hT k => h.kpt k (fun e => by have := hT _ e; omega) (fun h0 j hj e => by have := HCL.out h0 j hj; have := hT _ e; omega)
  obtain ⟨i0, hi, hz0, hz1, hz2⟩ := info_parts info_intY
  clear hc HCL
  go_enter Try.func27, Try.ntmps27
  go_wp2_with fail
  refine (pick_any 5 g v P B _ HC.out (by omega) hl (by omega)).mono ?_
  rintro e w1 ⟨x, rfl, hx, hc1, hk1⟩
  have HC1 : Hid (CurB w1 g v P (B + 2)) := hc1
  have HK1 : Hid (Kpt w w1 (fun k => k = g ∨ w.heap.size ≤ k)) := hk1.mono (fun _ _ e => Or.inl e)
  clear hc1 hk1 HC
  go_wp2_with fail
  refine (one_any 20 g v P (B + 2) _ HC1.out (by omega) hl (by omega)).mono ?_
  rintro e w2 ⟨bb, rfl, hc2, hk2⟩
  have HC2 : Hid (CurB w2 g v P (B + 4)) := hc2
  have HK2 : Hid (Kpt w w2 (fun k => k = g ∨ w.heap.size ≤ k)) := HGK.out _ _ HK1.out hk2
  clear hc2 hk2 HC1 HK1
  cases bb with
  | false =>
    obtain ⟨m, hm⟩ : ∃ m : Nat, (m : Int) = 1 + x := ⟨(1 + x).toNat, by omega⟩
    have hm2 : 1 ≤ m ∧ m ≤ 13 := by omega
    have HCA : Hid (CurB w2 g v P (B + 6 + 2 * ([] : List Int).length)) := HC2.out.mono (by simp)
    have HKA := HK2
    have HM : Hid ((m : Int) = 1 + x) := hm
    clear hm HC2 HK2
    have HO0 : Hid (w2.ownsRow w.heap.size 3 1 (.slice none 0 0) 0 (([] : List Int).map (Value.int .i64))) := World.ownsRow_nil w2 w.heap.size 3 1
    go_wp2_with fail
    go_loopw [3, 4] (fun lv nv wr => ∃ (k : Nat) (L : List Int), nv = .int .i64 (k : Int) ∧ Hid (L.length + k = m) ∧ k ≤ m ∧ Hid (wr.ownsRow w.heap.size 3 1 lv L.length (L.map (Value.int .i64))) ∧ Hid (CurB wr g v P (B + 6 + 2 * L.length)) ∧ Hid (Kpt w wr (fun k => k = g ∨ w.heap.size ≤ k))) (fun _ nv _ => (intOf nv).toNat)
    case atStart => exact ⟨m, [], congrArg (Value.int .i64) (by have := HM.out; omega), by show 0 + m = m; omega, Nat.le_refl _, HO0, HCA, HKA⟩
    case round =>
      obtain ⟨k, L, rfl, HL, hkm, HO, HC, HK⟩ := hrel
      obtain ⟨xu, cu, hu⟩ := own_sliceD HO.out
      subst hu
      clear HO0 HCA HKA
      by_cases hlt : 0 < k
      · have hgt : (0 : Int) < (k : Int) := by omega
        have hLl : L.length ≤ 12 := by have := HL.out; omega
        go_wp2_with fail
        refine (pick_any 8 g v P (B + 6 + 2 * L.length) _ HC.out (by omega) hl (by omega)).mono ?_
        rintro e w5 ⟨y, rfl, hy, hc5, hk5⟩
        have hlw : w.heap.size ≤ wr.heap.size := HK.out.size
        have ho5 := own_keptD HO.out hk5 (fun q hq => by have := (HO.out.lt q hq).1; omega)
        have HK5 : Hid (Kpt w w5 (fun k => k = g ∨ w.heap.size ≤ k)) := HGK.out _ _ HK.out hk5
        have hs5 : w.heap.size ≤ w5.heap.size := HK5.out.size
        have HLT : Hid (∀ q, (Value.slice xu L.length cu).ownBlock = some q → w.heap.size ≤ q) := fun q hq => (ho5.lt q hq).1
        have HC5 : Hid (CurB (w5.alloc (.cells #[.int .i64 y] 3)) g v P (B + 6 + 2 * (L.length + 1))) := alloc_cur (hc5.mono (by omega)) _
        have HK6 : Hid (Kpt w (w5.alloc (.cells #[.int .i64 y] 3)) (fun k => k = g ∨ w.heap.size ≤ k)) := HK5.out.trans (kpt_alloc w5 _ _)
        have hb56 : Below w5.heap.size w5 (w5.alloc (.cells #[.int .i64 y] 3)) := (Below.refl _ _).alloc (Nat.le_refl _) _
        have hnews := cell_new_oneD w5 (.int .i64 y) 3
        have ho6 := own_belD ho5 hb56
        clear hc5 hk5 HC HO HK HK5 ho5 hb56
        go_wp2_with (at_builtin; refine wpList_append_atD rfl (.tmp 17) (.tmp 20) 23 rfl w.heap.size 3 i0 (.int .i64 0) 1 8 Try.underlying23 hi hz0 hz1 hz2 rfl (by decide) _ _ _ rfl ho6 ⟨w5.heap.size, 0, none⟩ 1 1 [.int .i64 y] rfl rfl hnews (one_intD _) ?d3 ?d4 ?d5 ?_)
        case d3 => unfold maxLen; omega
        case d4 => omega
        case d5 => simp; omega
        intro v9 w9 hown9 hgrow9 hat9
        have hk9 := grown_kpt hgrow9
        have HO9 : Hid (w9.ownsRow w.heap.size 3 1 v9 (L ++ [y]).length ((L ++ [y]).map (Value.int .i64))) := by
          rw [List.length_append, List.map_append]; exact hown9
        have HC9 : Hid (CurB w9 g v P (B + 6 + 2 * (L ++ [y]).length)) := by
          rw [List.length_append]; exact HCK.out _ _ _ _ HC5.out (fun q hq => HLT.out q hq) hk9
        have HK9 : Hid (Kpt w w9 (fun k => k = g ∨ w.heap.size ≤ k)) := HGO.out _ _ HK6.out _ (fun q hq => HLT.out q hq) hk9
        have HL9 : Hid ((L ++ [y]).length + (k - 1) = m) := by show _ = _; have := HL.out; rw [List.length_append]; simp; omega
        clear hown9 hgrow9 hat9 hk9 HC5 HK6 ho6 hnews HLT
        go_wp2_with fail
        go_roundw
        case rel => exact ⟨k - 1, L ++ [y], congrArg (Value.int .i64) (by omega), HL9, by omega, HO9, HC9, HK9⟩
        case measure => simp [intOf]; omega
      · have hk0 : k = 0 := by omega
        subst hk0
        have hLp : 1 ≤ L.length ∧ L.length ≤ 13 := by have := HL.out; omega
        have HD : Hid (DrW wr w.heap.size (.slice xu L.length cu) L) := drw_own (by omega) HO.out
        clear HO HL hlt
        go_wp2_with fail
        refine (pick_any 30 g v P (B + 6 + 2 * L.length) _ HC.out (by omega) hl (by omega)).mono ?_
        rintro e w5 ⟨z, rfl, hz, hc5, hk5⟩
        have hlw : w.heap.size ≤ wr.heap.size := HK.out.size
        have HC5 : Hid (CurB w5 g v P (B + 34)) := hc5.mono (by omega)
        have HK5 : Hid (Kpt w w5 (fun k => k = g ∨ w.heap.size ≤ k)) := HGK.out _ _ HK.out hk5
        obtain ⟨t, cap, hv, hcp, hmx, hbt, hzs⟩ := HD.out
        rw [hv]
        have HZ5 : Hid (ZSRow w5 t L) := hzs.apart hk5 (by omega)
        clear hc5 hk5 HC HK HD hzs hv
        have hs5 : w.heap.size ≤ w5.heap.size := HK5.out.size
        by_cases h0 : z = 0
        · subst h0
          go_wp2_with fail
          refine (among_any _ [-1, 50, 51] g v P (B + 34) _ (alloc_cur HC5.out _) (by omega) hl (lit_row (w := w5) (L := [-1, 50, 51]) (by decide)) (by decide) (lit_ne HC5.out)).mono ?_
          rintro e w6 ⟨q, rfl, _, hc6, hk6⟩
          have hk6 : Kpt w5 w6 (· = g) := (kpt_alloc w5 _ _).trans hk6
          have HZ6 : Hid (ZSRow w6 t L) := HZ5.out.apart hk6 (by omega)
          obtain ⟨c0, f0⟩ := HZ6.out.2 0 (by omega)
          have hst := HZ6.out.set 0 (by omega) q
          have hks := kpt_set w6 t 0 (.int .i64 q) (S := fun j => j = t) rfl
          have HC7 : Hid (CurB (w6.setCell ⟨t, 0, none⟩ (.int .i64 q)) g v P (B + 40)) := HCK.out _ _ _ _ (hc6.mono (by omega)) (fun j hj => by omega) hks
          have HK7 : Hid (Kpt w (w6.setCell ⟨t, 0, none⟩ (.int .i64 q)) (fun k => k = g ∨ w.heap.size ≤ k)) := HGO.out _ _ (HGK.out _ _ HK5.out hk6) _ (fun j hj => by omega) hks
          have HZ7 : Hid (ZSRow (w6.setCell ⟨t, 0, none⟩ (.int .i64 q)) t (L.set 0 q)) := hst
          have hli : (0 : Int) < (L.length : Int) := by omega
          obtain ⟨yy, hyy⟩ : ∃ yy, yy = L[0]'(by omega) := ⟨_, rfl⟩
          rw [← hyy] at c0
          clear hyy hst hks hc6 hk6 HC5 HK5 HZ5
          go_wp2_with fail
          go_ret
          exact ⟨.slice (some ⟨t, 0, none⟩) L.length cap, L.set 0 q, rfl, by rw [List.length_set]; exact hLp, ⟨t, cap, by rw [List.length_set], by rw [List.length_set]; exact hcp, hmx, hbt, HZ7.out⟩, HC7.out, HKE.out _ HK7.out⟩
        · by_cases h1 : z = 1
          · subst h1
            have HZ6 : Hid (ZSRow (w5.alloc (.cells #[.int .i64 0, .int .i64 0] 3)) w5.heap.size [0, 0]) := two_zs w5 0 0
            have HC6 : Hid (CurB (w5.alloc (.cells #[.int .i64 0, .int .i64 0] 3)) g v P (B + 40)) := alloc_cur (HC5.out.mono (by omega)) _
            have HK6 : Hid (Kpt w (w5.alloc (.cells #[.int .i64 0, .int .i64 0] 3)) (fun k => k = g ∨ w.heap.size ≤ k)) := HK5.out.trans (kpt_alloc w5 _ _)
            go_wp2_with fail
            go_ret
            exact ⟨_, [0, 0], rfl, by decide, ⟨w5.heap.size, 2, rfl, by decide, by omega, hs5, HZ6.out⟩, HC6.out, HKE.out _ HK6.out⟩
          · have e0 : (z == 0) = false := by simp; exact h0
            have e1 : (z == 1) = false := by simp; exact h1
            go_wp2_with fail
            go_ret
            exact ⟨_, L, rfl, hLp, ⟨t, cap, rfl, hcp, hmx, hbt, HZ5.out⟩, HC5.out.mono (by omega), HKE.out _ HK5.out⟩
  | true =>
    go_wp2_with fail
    refine (pick_any 2 g v P (B + 4) _ HC2.out (by omega) hl (by omega)).mono ?_
    rintro e w3 ⟨x2, rfl, hx2, hc3, hk3⟩
    obtain ⟨m, hm⟩ : ∃ m : Nat, (m : Int) = 12 + x2 := ⟨(12 + x2).toNat, by omega⟩
    have hm2 : 1 ≤ m ∧ m ≤ 13 := by omega
    have HCA : Hid (CurB w3 g v P (B + 6 + 2 * ([] : List Int).length)) := hc3.mono (by simp)
    have HKA : Hid (Kpt w w3 (fun k => k = g ∨ w.heap.size ≤ k)) := HGK.out _ _ HK2.out hk3
    have HM : Hid ((m : Int) = 12 + x2) := hm
    clear hm HC2 HK2 hc3 hk3
    have HO0 : Hid (w3.ownsRow w.heap.size 3 1 (.slice none 0 0) 0 (([] : List Int).map (Value.int .i64))) := World.ownsRow_nil w3 w.heap.size 3 1
    go_wp2_with fail
    go_loopw [3, 4] (fun lv nv wr => ∃ (k : Nat) (L : List Int), nv = .int .i64 (k : Int) ∧ Hid (L.length + k = m) ∧ k ≤ m ∧ Hid (wr.ownsRow w.heap.size 3 1 lv L.length (L.map (Value.int .i64))) ∧ Hid (CurB wr g v P (B + 6 + 2 * L.length)) ∧ Hid (Kpt w wr (fun k => k = g ∨ w.heap.size ≤ k))) (fun _ nv _ => (intOf nv).toNat)
    case atStart => exact ⟨m, [], congrArg (Value.int .i64) (by have := HM.out; omega), by show 0 + m = m; omega, Nat.le_refl _, HO0, HCA, HKA⟩
    case round =>
      obtain ⟨k, L, rfl, HL, hkm, HO, HC, HK⟩ := hrel
      obtain ⟨xu, cu, hu⟩ := own_sliceD HO.out
      subst hu
      clear HO0 HCA HKA
      by_cases hlt : 0 < k
      · have hgt : (0 : Int) < (k : Int) := by omega
        have hLl : L.length ≤ 12 := by have := HL.out; omega
        go_wp2_with fail
        refine (pick_any 8 g v P (B + 6 + 2 * L.length) _ HC.out (by omega) hl (by omega)).mono ?_
        rintro e w5 ⟨y, rfl, hy, hc5, hk5⟩
        have hlw : w.heap.size ≤ wr.heap.size := HK.out.size
        have ho5 := own_keptD HO.out hk5 (fun q hq => by have := (HO.out.lt q hq).1; omega)
        have HK5 : Hid (Kpt w w5 (fun k => k = g ∨ w.heap.size ≤ k)) := HGK.out _ _ HK.out hk5
        have hs5 : w.heap.size ≤ w5.heap.size := HK5.out.size
        have HLT : Hid (∀ q, (Value.slice xu L.length cu).ownBlock = some q → w.heap.size ≤ q) := fun q hq => (ho5.lt q hq).1
        have HC5 : Hid (CurB (w5.alloc (.cells #[.int .i64 y] 3)) g v P (B + 6 + 2 * (L.length + 1))) := alloc_cur (hc5.mono (by omega)) _
        have HK6 : Hid (Kpt w (w5.alloc (.cells #[.int .i64 y] 3)) (fun k => k = g ∨ w.heap.size ≤ k)) := HK5.out.trans (kpt_alloc w5 _ _)
        have hb56 : Below w5.heap.size w5 (w5.alloc (.cells #[.int .i64 y] 3)) := (Below.refl _ _).alloc (Nat.le_refl _) _
        have hnews := cell_new_oneD w5 (.int .i64 y) 3
        have ho6 := own_belD ho5 hb56
        clear hc5 hk5 HC HO HK HK5 ho5 hb56
        go_wp2_with (at_builtin; refine wpList_append_atD rfl (.tmp 17) (.tmp 20) 23 rfl w.heap.size 3 i0 (.int .i64 0) 1 8 Try.underlying23 hi hz0 hz1 hz2 rfl (by decide) _ _ _ rfl ho6 ⟨w5.heap.size, 0, none⟩ 1 1 [.int .i64 y] rfl rfl hnews (one_intD _) ?d3 ?d4 ?d5 ?_)
        case d3 => unfold maxLen; omega
        case d4 => omega
        case d5 => simp; omega
        intro v9 w9 hown9 hgrow9 hat9
        have hk9 := grown_kpt hgrow9
        have HO9 : Hid (w9.ownsRow w.heap.size 3 1 v9 (L ++ [y]).length ((L ++ [y]).map (Value.int .i64))) := by
          rw [List.length_append, List.map_append]; exact hown9
        have HC9 : Hid (CurB w9 g v P (B + 6 + 2 * (L ++ [y]).length)) := by
          rw [List.length_append]; exact HCK.out _ _ _ _ HC5.out (fun q hq => HLT.out q hq) hk9
        have HK9 : Hid (Kpt w w9 (fun k => k = g ∨ w.heap.size ≤ k)) := HGO.out _ _ HK6.out _ (fun q hq => HLT.out q hq) hk9
        have HL9 : Hid ((L ++ [y]).length + (k - 1) = m) := by show _ = _; have := HL.out; rw [List.length_append]; simp; omega
        clear hown9 hgrow9 hat9 hk9 HC5 HK6 ho6 hnews HLT
        go_wp2_with fail
        go_roundw
        case rel => exact ⟨k - 1, L ++ [y], congrArg (Value.int .i64) (by omega), HL9, by omega, HO9, HC9, HK9⟩
        case measure => simp [intOf]; omega
      · have hk0 : k = 0 := by omega
        subst hk0
        have hLp : 1 ≤ L.length ∧ L.length ≤ 13 := by have := HL.out; omega
        have HD : Hid (DrW wr w.heap.size (.slice xu L.length cu) L) := drw_own (by omega) HO.out
        clear HO HL hlt
        go_wp2_with fail
        refine (pick_any 30 g v P (B + 6 + 2 * L.length) _ HC.out (by omega) hl (by omega)).mono ?_
        rintro e w5 ⟨z, rfl, hz, hc5, hk5⟩
        have hlw : w.heap.size ≤ wr.heap.size := HK.out.size
        have HC5 : Hid (CurB w5 g v P (B + 34)) := hc5.mono (by omega)
        have HK5 : Hid (Kpt w w5 (fun k => k = g ∨ w.heap.size ≤ k)) := HGK.out _ _ HK.out hk5
        obtain ⟨t, cap, hv, hcp, hmx, hbt, hzs⟩ := HD.out
        rw [hv]
        have HZ5 : Hid (ZSRow w5 t L) := hzs.apart hk5 (by omega)
        clear hc5 hk5 HC HK HD hzs hv
        have hs5 : w.heap.size ≤ w5.heap.size := HK5.out.size
        by_cases h0 : z = 0
        · subst h0
          go_wp2_with fail
          refine (among_any _ [-1, 50, 51] g v P (B + 34) _ (alloc_cur HC5.out _) (by omega) hl (lit_row (w := w5) (L := [-1, 50, 51]) (by decide)) (by decide) (lit_ne HC5.out)).mono ?_
          rintro e w6 ⟨q, rfl, _, hc6, hk6⟩
          have hk6 : Kpt w5 w6 (· = g) := (kpt_alloc w5 _ _).trans hk6
          have HZ6 : Hid (ZSRow w6 t L) := HZ5.out.apart hk6 (by omega)
          obtain ⟨c0, f0⟩ := HZ6.out.2 0 (by omega)
          have hst := HZ6.out.set 0 (by omega) q
          have hks := kpt_set w6 t 0 (.int .i64 q) (S := fun j => j = t) rfl
          have HC7 : Hid (CurB (w6.setCell ⟨t, 0, none⟩ (.int .i64 q)) g v P (B + 40)) := HCK.out _ _ _ _ (hc6.mono (by omega)) (fun j hj => by omega) hks
          have HK7 : Hid (Kpt w (w6.setCell ⟨t, 0, none⟩ (.int .i64 q)) (fun k => k = g ∨ w.heap.size ≤ k)) := HGO.out _ _ (HGK.out _ _ HK5.out hk6) _ (fun j hj => by omega) hks
          have HZ7 : Hid (ZSRow (w6.setCell ⟨t, 0, none⟩ (.int .i64 q)) t (L.set 0 q)) := hst
          have hli : (0 : Int) < (L.length : Int) := by omega
          obtain ⟨yy, hyy⟩ : ∃ yy, yy = L[0]'(by omega) := ⟨_, rfl⟩
          rw [← hyy] at c0
          clear hyy hst hks hc6 hk6 HC5 HK5 HZ5
          go_wp2_with fail
          go_ret
          exact ⟨.slice (some ⟨t, 0, none⟩) L.length cap, L.set 0 q, rfl, by rw [List.length_set]; exact hLp, ⟨t, cap, by rw [List.length_set], by rw [List.length_set]; exact hcp, hmx, hbt, HZ7.out⟩, HC7.out, HKE.out _ HK7.out⟩
        · by_cases h1 : z = 1
          · subst h1
            have HZ6 : Hid (ZSRow (w5.alloc (.cells #[.int .i64 0, .int .i64 0] 3)) w5.heap.size [0, 0]) := two_zs w5 0 0
            have HC6 : Hid (CurB (w5.alloc (.cells #[.int .i64 0, .int .i64 0] 3)) g v P (B + 40)) := alloc_cur (HC5.out.mono (by omega)) _
            have HK6 : Hid (Kpt w (w5.alloc (.cells #[.int .i64 0, .int .i64 0] 3)) (fun k => k = g ∨ w.heap.size ≤ k)) := HK5.out.trans (kpt_alloc w5 _ _)
            go_wp2_with fail
            go_ret
            exact ⟨_, [0, 0], rfl, by decide, ⟨w5.heap.size, 2, rfl, by decide, by omega, hs5, HZ6.out⟩, HC6.out, HKE.out _ HK6.out⟩
          · have e0 : (z == 0) = false := by simp; exact h0
            have e1 : (z == 1) = false := by simp; exact h1
            go_wp2_with fail
            go_ret
            exact ⟨_, L, rfl, hLp, ⟨t, cap, rfl, hcp, hmx, hbt, HZ5.out⟩, HC5.out.mono (by omega), HKE.out _ HK5.out⟩
end Go.Proofs.Ytjbhhllfbonaiaa

namespace Go.Proofs.Ytjbhhllfbonaiaa
open Go.RowKit

theorem zrow_lt {k : IntKind} {w : World} {v : Value} {P : List Int} (hr : ZRow k w v P) : 0 < P.length → ∀ j, v.ownBlock = some j → j < w.heap.size := fun h0 j hj => by
  obtain ⟨a, cap, rfl, _, _, h⟩ := hr
  rcases h with h | ⟨b, o, rfl, hlt, _⟩
  · rw [h] at h0; simp at h0
  · have e2 : b = j := Option.some.inj hj
    omega
theorem DrW.down {w : World} {b b' : Nat} {u : Value} {L : List Int} (h : DrW w b u L) (hb : b' ≤ b) : DrW w b' u L := by
  obtain ⟨t, cap, h1, h2, h3, h4, h5⟩ := h
  exact ⟨t, cap, h1, h2, h3, Nat.le_trans hb h4, h5⟩
theorem DrW.row {w : World} {b : Nat} {u : Value} {L : List Int} (h : DrW w b u L) : ZRow .i64 w u L := by
  obtain ⟨t, cap, rfl, h2, h3, h4, h5⟩ := h
  exact h5.rowc h2 h3
theorem DrW.kept {w w' : World} {b : Nat} {u : Value} {L : List Int} (h : DrW w b u L) (hb : Below w.heap.size w w') : DrW w' b u L := by
  obtain ⟨t, cap, h1, h2, h3, h4, h5⟩ := h
  exact ⟨t, cap, h1, h2, h3, h4, h5.kept hb⟩
theorem DrW.apart {w w' : World} {S : Nat → Prop} {b : Nat} {u : Value} {L : List Int} (h : DrW w b u L) (hk : Kpt w w' S) (hn : ∀ j, b ≤ j → ¬ S j) : DrW w' b u L := by
  obtain ⟨t, cap, h1, h2, h3, h4, h5⟩ := h
  exact ⟨t, cap, h1, h2, h3, h4, h5.apart hk (hn t h4)⟩
set_option maxRecDepth 20000 in
set_option maxHeartbeats 1000000 in
theorem drawGoodWeights_any (v : Value) (P : List Int) (w : World) (hr : ZRow .u8 w v P) (hb : Hid (∀ x ∈ P, 0 ≤ x ∧ x ≤ 255)) (hl : P.length ≤ 9223372036854775807) :
    Calls Try.prog 14 #[v] w fun e w' => (∃ u L, e = .returned u ∧ (1 ≤ L.length ∧ L.length ≤ 13) ∧ DrW w' w.heap.size u L) ∧ Below w.heap.size w w' := by
  have HC0 : Hid (CurB (w.alloc (.cells #[v, .int .i64 0, .int .u64 0] 52)) w.heap.size v P 0) := new_cur hr hb.out
  have HCL : Hid (0 < P.length → ∀ k, v.ownBlock = some k → k < (w.alloc (.cells #[v, .int .i64 0, .int .u64 0] 52)).heap.size) := fun h0 k hk => by have := zrow_lt hr h0 k hk; simp; omega
  have hs : (w.alloc (.cells #[v, .int .i64 0, .int .u64 0] 52)).heap.size = w.heap.size + 1 := by simp
  have HS : Hid ((w.alloc (.cells #[v, .int .i64 0, .int .u64 0] 52)).heap.size = w.heap.size + 1) := hs
  obtain ⟨a, cap, rfl, hcap, hmax, _⟩ := zrow_value hr
  clear hr hs
  go_enter Try.func14, Try.ntmps14
  go_wp2_with fail
  refine (weights_any w.heap.size _ P 0 _ HC0.out (by omega) hl HCL).mono ?_
  rintro e w1 ⟨u, L, rfl, hL, hd, _, hk⟩
  have hd2 : DrW w1 w.heap.size u L := hd.down (by rw [HS.out]; omega)
  have HB : Hid (Below w.heap.size w w1) := cur_below hk
  have HD : Hid (DrW w1 w.heap.size u L) := hd2
  clear hd hd2 hk HS HC0 HCL
  go_wp2_with fail
  go_ret
  exact ⟨⟨u, L, rfl, hL, HD.out⟩, HB.out⟩
end Go.Proofs.Ytjbhhllfbonaiaa
