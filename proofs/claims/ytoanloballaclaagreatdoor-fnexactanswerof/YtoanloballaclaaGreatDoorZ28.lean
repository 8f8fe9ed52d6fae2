import Derived.Test.YtoanloballaclaaGreatDoorZ26
import Derived.Test.YtoanloballaclaaGreatDoorZ27
import Derived.Maps.AppendAt
namespace Go.Proofs.YtoanloballaclaaGreatDoor
open Go.RowKit

section
variable {w : World} {ops : Array Oper} {rest : List Oper} {o : Oper} {a : Act} {Q : Exit → Act → World → Prop}
/-- An append to a row of the call's own, and where what it tells lies. -/
theorem wpList_append_atG (hgd : o.guard = none) (s x : Operand) (t : TypeId)
    (ho : o.op = .call { callee := .builtin .append, args := #[s, x], argTypes := #[t, t] })
    (base : Nat) (e : TypeId) (i : TypeInfo) (z : Value) (size bytes : Nat) (ht : Tryz.prog.underlying t = some (.slice e)) (hi : Tryz.prog.info? e = some i) (hz : i.zero = some z)
    (hsize : i.size = size) (hby : i.bytes = bytes) (hzs : z.cells.size = size) (hsz : 0 < size)
    (v : Value) (n : Nat) (xs : List Value) (hs : a.eval s = v) (hown : w.ownsRow base e size v n xs)
    (ad : Addr) (m c : Nat) (news : List Value) (hx : a.eval x = .slice (some ad) m c) (hl : news.length = m * size) (hnews : ∀ j u, news[j]? = some u → w.cell? (ad.add j) = some u) (h1 : ∀ u ∈ news, u.oneCell' = true)
    (h63 : n + m ≤ maxLen) (hbytes : (n + m) * bytes ≤ 140737488355328) (hbase : base ≤ w.heap.size)
    (h : ∀ v' w', w'.ownsRow base e size v' (n + m) (xs ++ news) → w.grownBy w' v.ownBlock → (v'.ownBlock = v.ownBlock ∨ v'.ownBlock = some w.heap.size) → wpList Tryz.prog ops Q rest (a.put o.dst v') w') :
    wpList Tryz.prog ops Q (o :: rest) a w := by
  refine wpList_plain hgd fun K' hK' => ?_
  obtain ⟨v', w', hrun, h2, h3, _, h5⟩ := run_append_own_at (P := Tryz.prog) w base t o.type e i z size bytes ht hi hz hsize hby hzs hsz v n xs hown ad m c news hl hnews h1 h63 hbytes hbase
  unfold Oper.wp
  simp [execOp, ho, resolve, invoke, builtin, hs, hx, hrun, Result.andThen]
  exact hK' _ _ (h v' w' h2 h3 h5)
end
theorem nums_row {w : World} {base : Nat} {u : Value} {O : List Int} (h : NumsO w base u O) : ZRow .i64 w u O := by
  unfold NumsO at h
  have h0 := h
  obtain ⟨_, ⟨rfl, hn⟩ | ⟨b, c, cur, rfl, hg, _, h1, h2, _, _⟩⟩ := h
  · obtain rfl : O = [] := List.length_eq_zero_iff.1 hn
    exact zrow_nil .i64 w
  · refine ⟨_, c, rfl, h1, h2, .inr ⟨b, 0, rfl, (h0.lt b rfl).2, fun j hj => ?_⟩⟩
    rw [Nat.zero_add, h0.cellAt j (by omega)]
    simp [hj]

set_option maxRecDepth 20000 in
set_option maxHeartbeats 1000000 in
theorem l1HasZ_any (v : Value) (O : List Int) (n : Int) (w : World) (hr : ZRow .i64 w v O) :
    Calls Tryz.prog 80 #[v, .int .i64 n] w fun e w' => e = .returned (.bool (decide (n ∈ O))) ∧ w' = w := by
  obtain ⟨a, cap, rfl, hcap, hmax, HROW⟩ := zrow_value hr
  clear hr
  go_enter Tryz.func80, Tryz.ntmps80
  go_wp2_with fail
  go_loop [9] (fun i => ∃ (k : Nat), k ≤ O.length ∧ i = .int .i64 k ∧ Hid (∀ j, (hj : j < O.length) → j < k → O[j] ≠ n)) (fun i => O.length - (intOf i).toNat)
  case atStart => exact ⟨0, Nat.zero_le _, rfl, fun j _ h => absurd h (Nat.not_lt_zero _)⟩
  case round =>
    obtain ⟨k, hk, rfl, HX⟩ := hrel
    by_cases hlt : k < O.length
    · obtain ⟨b, o, ha, hbl, hc⟩ := HROW.out (by omega)
      rw [ha]
      have hcx := hc k hlt
      clear hc
      by_cases heq : O[k]'hlt = n
      · have HR : Hid (decide (n ∈ O) = true) := decide_eq_true (heq ▸ List.getElem_mem hlt)
        rw [heq] at hcx
        clear heq
        go_wp2_with fail
        go_ret
        exact ⟨ret_bool HR.out.symm, rfl⟩
      · have HR : Hid (∀ j, (hj : j < O.length) → j < k + 1 → O[j] ≠ n) := fun j hj h => by
          rcases Nat.lt_or_ge j k with h' | h'
          · exact HX.out j hj h'
          · obtain rfl : j = k := by omega
            exact heq
        obtain ⟨y, hy⟩ : ∃ y : Int, y = O[k]'hlt := ⟨_, rfl⟩
        rw [← hy] at hcx heq
        clear hy
        go_wp2_with fail
        go_round
        case rel => exact ⟨k + 1, by omega, by go_num, HR.out⟩
        case measure => simp [intOf]; omega
    · have HR : Hid (decide (n ∈ O) = false) := decide_eq_false (fun h => by
        obtain ⟨j, hj, e⟩ := List.getElem_of_mem h
        exact HX.out j hj (by omega) e)
      go_wp2_with fail
      go_ret
      exact ⟨ret_bool HR.out.symm, rfl⟩

set_option maxRecDepth 20000 in
set_option maxHeartbeats 1000000 in
theorem l14Well_any (s : List UInt8) (x : TgtT) (hs : x.1 = s) (ri fa : Int) (hv : Value) (H : List HosT) (w : World) (hr : HstRow w hv H) (hl : H.length ≤ 1048576) (hx : Hid (∀ x ∈ H, x.1.length ≤ 1048576)) (hgd : goodH ri fa H = true) :
    Calls Tryz.prog 65 #[HeaV ri fa hv, .string ⟨s.toArray⟩] w fun e w' => e = .returned (.bool (wellB H x)) ∧ Below w.heap.size w w' := by
  subst hs
  have HIU : Hid (∀ W, Below w.heap.size w W → Calls Tryz.prog 91 #[HeaV ri fa hv, .string ⟨x.1.toArray⟩] W fun e w' => e = .returned (.tuple #[.bool (upO ri fa H x.1).1, .bool (upO ri fa H x.1).2]) ∧ Below W.heap.size W w') := fun W hW => sIsUp_any ri fa x.1 hv H W (hr.kept hW) hl hx
  have HWB : Hid (wellB H x = ((upO ri fa H x.1).1 || !(upO ri fa H x.1).2)) := well_is hgd _
  unfold HeaV at HIU ⊢
  obtain ⟨a, cap, rfl, hcap, hmax, _⟩ := hst_value hr
  have hb0 : Below w.heap.size w (w.alloc (.cells #[.int .i64 ri, .int .i64 fa, .slice a H.length cap] 38)) := (Below.refl _ _).alloc (Nat.le_refl _) _
  obtain ⟨u, hu⟩ : ∃ u, u = (upO ri fa H x.1).1 := ⟨_, rfl⟩
  obtain ⟨kn, hkn⟩ : ∃ kn, kn = (upO ri fa H x.1).2 := ⟨_, rfl⟩
  rw [← hu, ← hkn] at HIU HWB
  rw [HWB.out]
  clear hu hkn HWB hgd hr hx
  cases u
  · cases kn
    · go_enter Tryz.func65, Tryz.ntmps65
      go_wp2_with fail
      refine (HIU.out _ hb0).mono ?_
      rintro e w1 ⟨rfl, hb1⟩
      have hbw := (hea_cells hb1).2
      go_wp2_with fail
      go_ret
      exact ⟨rfl, hbw⟩
    · go_enter Tryz.func65, Tryz.ntmps65
      go_wp2_with fail
      refine (HIU.out _ hb0).mono ?_
      rintro e w1 ⟨rfl, hb1⟩
      have hbw := (hea_cells hb1).2
      go_wp2_with fail
      go_ret
      exact ⟨rfl, hbw⟩
  · go_enter Tryz.func65, Tryz.ntmps65
    go_wp2_with fail
    refine (HIU.out _ hb0).mono ?_
    rintro e w1 ⟨rfl, hb1⟩
    have hbw := (hea_cells hb1).2
    go_wp2_with fail
    go_ret
    exact ⟨by simp, hbw⟩

/-- What has been gathered behind j targets of the round of a group. -/
def midG (L : List TgtT) (k j : Nat) : List Int := grpsL allT L k ++ (if (L.take j).any (inG allT (k : Int)) = true then [(k : Int)] else [])
theorem midG_zero (L : List TgtT) (k : Nat) : midG L k 0 = grpsL allT L k := by unfold midG; simp
theorem midG_end (L : List TgtT) (k : Nat) : midG L k L.length = grpsL allT L (k + 1) := by unfold midG; rw [List.take_length, grpsL_succ]
theorem midG_skip {L : List TgtT} {k j : Nat} (hj : j < L.length) (h : L[j].2.2.1 ≠ (k : Int)) : midG L k (j + 1) = midG L k j := by
  unfold midG
  rw [List.take_succ_eq_append_getElem hj, List.any_append]
  have : inG allT (k : Int) L[j] = false := by unfold inG; rw [beq_eq_false_iff_ne.2 h]; rfl
  rw [List.any_cons, this, List.any_nil, Bool.or_false, Bool.or_false]
theorem midG_mem {L : List TgtT} {k j : Nat} : (k : Int) ∈ midG L k j ↔ (L.take j).any (inG allT (k : Int)) = true := by
  unfold midG
  rw [List.mem_append]
  constructor
  · rintro (h | h)
    · have := (grpsL_mem h).2.1; omega
    · split at h
      · rename_i h2; exact h2
      · cases h
  · intro h; rw [if_pos h]; exact .inr (by simp)
theorem midG_has {L : List TgtT} {k j : Nat} (hj : j < L.length) (hm : (k : Int) ∈ midG L k j) : midG L k (j + 1) = midG L k j := by
  have h := midG_mem.1 hm
  unfold midG
  rw [List.take_succ_eq_append_getElem hj, List.any_append, h]; rfl
theorem midG_new {L : List TgtT} {k j : Nat} (hj : j < L.length) (h : L[j].2.2.1 = (k : Int)) (hm : ¬ (k : Int) ∈ midG L k j) : midG L k (j + 1) = midG L k j ++ [(k : Int)] := by
  have h0 : (L.take j).any (inG allT (k : Int)) = false := by
    cases hc : (L.take j).any (inG allT (k : Int)) with
    | false => rfl
    | true => exact absurd (midG_mem.2 hc) hm
  unfold midG
  rw [List.take_succ_eq_append_getElem hj, List.any_append, h0]
  have : inG allT (k : Int) L[j] = true := by unfold inG allT; rw [h]; simp
  simp [this]
theorem midG_length (L : List TgtT) (k j : Nat) : (midG L k j).length ≤ k + 1 := by
  unfold midG
  have := grpsL_length allT L k
  rw [List.length_append]
  split <;> simp <;> omega

set_option maxRecDepth 20000 in
set_option maxHeartbeats 8000000 in
theorem l14Groups_any (n : ByteArray) (v : Value) (L : List TgtT) (w : World) (hr : TgtRow w v L) (hl : L.length ≤ 1048576) :
    Calls Tryz.prog 54 #[PolV n v] w fun e w' => (∃ u, e = .returned u ∧ NumsO w' w.heap.size u (grpsL allT L 10)) ∧ Below w.heap.size w w' := by
  obtain ⟨i0, hi, hz0, hz1', hz2'⟩ := info_parts info_int
  have HHAS : Hid (∀ u O (x : Int) W base, NumsO W base u O → Calls Tryz.prog 80 #[u, .int .i64 x] W fun e w' => e = .returned (.bool (decide (x ∈ O))) ∧ w' = W) := fun u O x W base h => l1HasZ_any u O x W (nums_row h)
  obtain ⟨W0, hW0⟩ : ∃ W0, W0 = w.alloc (.cells #[.string n, v] 34) := ⟨_, rfl⟩
  have HX : Hid (∀ W, Below W0.heap.size W0 W → (W.cell? ⟨w.heap.size, 0, none⟩ = some (.string n) ∧ W.cell? ⟨w.heap.size, 1, none⟩ = some v) ∧ Below w.heap.size w W) := fun W hW => by
    rw [hW0] at hW; exact pol_box hW
  have HW0 : Hid (w.alloc (.cells #[.string n, v] 34) = W0) := hW0.symm
  have hzw : w.heap.size ≤ W0.heap.size := by rw [hW0]; simp
  unfold PolV
  obtain ⟨a, cap, rfl, hcap, hmax, HROW⟩ := tgt_value hr
  clear hW0 hr
  go_enter Tryz.func54, Tryz.ntmps54
  go_wp2_with fail
  (try rw [HW0.out])
  go_loopw [3, 4] (fun gv i wr => ∃ (k : Nat) (u : Value), k ≤ 10 ∧ i = .int .i64 (k : Int) ∧ u = gv ∧ Hid (NumsO wr W0.heap.size u (grpsL allT L k)) ∧ Below W0.heap.size W0 wr) (fun _ i _ => 10 - (intOf i).toNat)
  case atStart => exact ⟨0, _, Nat.zero_le _, rfl, rfl, nums_nil _ _, Below.refl _ _⟩
  case round =>
    obtain ⟨k, u, hk, rfl, rfl, HO, hb⟩ := hrel
    by_cases hlt : k < 10
    · obtain ⟨⟨p0, p1⟩, _⟩ := HX.out _ hb
      have hk10 : (k : Int) < 10 := by omega
      go_wp2_with fail
      go_loopw [3, 14] (fun gv i wr => ∃ (j : Nat) (u : Value), j ≤ L.length ∧ i = .int .i64 (j : Int) ∧ u = gv ∧ Hid (NumsO wr W0.heap.size u (midG L k j)) ∧ Below W0.heap.size W0 wr) (fun _ i _ => L.length - (intOf i).toNat)
      case atStart => exact ⟨0, _, Nat.zero_le _, rfl, rfl, (by show NumsO _ _ _ _; rw [midG_zero]; exact HO), hb⟩
      case round =>
        obtain ⟨j, u2, hj, rfl, rfl, HO2, hb2⟩ := hrel
        clear HO hb p0 p1
        have hz2 := hb2.size
        by_cases hlj : j < L.length
        · obtain ⟨b, o, ha, hbl, hcel⟩ := HROW.out (by omega)
          have hcx := (hcel j hlj).kept (HX.out _ hb2).2
          unfold TgtAt at hcx
          obtain ⟨c0, c1, c2, c3⟩ := hcx
          have HSK : Hid ((L[j]'hlj).2.2.1 ≠ (k : Int) → midG L k (j + 1) = midG L k j) := fun h => midG_skip hlj h
          have HHS : Hid ((k : Int) ∈ midG L k j → midG L k (j + 1) = midG L k j) := fun h => midG_has hlj h
          have HNW : Hid ((L[j]'hlj).2.2.1 = (k : Int) → ¬ (k : Int) ∈ midG L k j → midG L k (j + 1) = midG L k j ++ [(k : Int)]) := fun h h2 => midG_new hlj h h2
          have hkl := midG_length L k j
          obtain ⟨x, hxe⟩ : ∃ x, x = L[j]'hlj := ⟨_, rfl⟩
          rw [← hxe] at c0 c1 c2 c3 HSK HNW
          obtain ⟨xh, xd, xg, xk⟩ := x
          simp only at c0 c1 c2 c3 HSK HNW
          obtain ⟨gl, hgl⟩ : ∃ gl, gl = midG L k j := ⟨_, rfl⟩
          rw [← hgl] at HO2 HSK HHS HNW hkl
          obtain ⟨W1, hW1⟩ : ∃ W1, W1 = wr.alloc (.cells #[.string ⟨xh.toArray⟩, .string ⟨xd.toArray⟩, .int .i64 xg, .int .i64 xk] 79) := ⟨_, rfl⟩
          have hb01 : Below W0.heap.size W0 W1 := by rw [hW1]; exact hb2.alloc hb2.size _
          have hbr1 : Below wr.heap.size wr W1 := by rw [hW1]; exact (Below.refl _ _).alloc (Nat.le_refl _) _
          have HO1 : Hid (NumsO W1 W0.heap.size u2 gl) := HO2.out.kept hbr1
          have HW1 : Hid (wr.alloc (.cells #[.string ⟨xh.toArray⟩, .string ⟨xd.toArray⟩, .int .i64 xg, .int .i64 xk] 79) = W1) := hW1.symm
          have m2 := (show W1.cell? ⟨wr.heap.size, 2, none⟩ = some (.int .i64 xg) by rw [hW1]; simp)
          have hz1 := hb01.size
          subst ha
          clear hcel hxe hgl hW1 HO2
          by_cases hgg : xg = (k : Int)
          · subst hgg
            have HHC : Hid (Calls Tryz.prog 80 #[u2, .int .i64 (k : Int)] W1 fun e w' => e = .returned (.bool (decide ((k : Int) ∈ gl))) ∧ w' = W1) := HHAS.out u2 gl (k : Int) W1 _ HO1.out
            have e1 : ((k : Int) == (k : Int)) = true := by simp
            by_cases hin : (k : Int) ∈ gl
            · have HE : Hid (midG L k (j + 1) = gl) := HHS.out hin
              rw [decide_eq_true hin] at HHC
              have HO3 : Hid (NumsO W1 W0.heap.size u2 (midG L k (j + 1))) := by show NumsO _ _ _ _; rw [HE.out]; exact HO1
              clear hin HSK HHS HNW HO1
              go_wp2_with (rw [HW1.out])
              refine HHC.out.mono ?_
              rintro e w5 ⟨rfl, rfl⟩
              go_wp2_with fail
              go_roundw
              case rel => exact ⟨j + 1, _, by omega, by go_num, rfl, HO3, hb01⟩
              case measure => simp [intOf]; omega
            · have HE : Hid (midG L k (j + 1) = gl ++ [(k : Int)]) := HNW.out rfl hin
              rw [decide_eq_false hin] at HHC
              have hown := HO1.out
              unfold NumsO at hown
              clear hin HSK HHS HNW HO1
              go_wp2_with (rw [HW1.out])
              refine HHC.out.mono ?_
              rintro e w5 ⟨rfl, hw5⟩
              rw [hw5]
              clear hw5 w5
              go_wp2_with (at_builtin; refine wpList_append_own _ rfl (.tmp 28) (.tmp 30) 43 rfl W0.heap.size 3 i0 (.int .i64 0) 1 8 Tryz.underlying43 hi hz0 hz1' hz2' rfl (by decide) _ _ _ rfl (own_below hown ((Below.refl W1.heap.size W1).alloc (Nat.le_refl _) _)) ⟨W1.heap.size, 0, none⟩ 1 1 [.int .i64 (k : Int)] rfl rfl (cell_new_one W1 (.int .i64 (k : Int)) 3) (one_int _) ?c3 ?c4 ?c5 ?_)
              case c3 => unfold maxLen; omega
              case c4 => omega
              case c5 => simp; omega
              intro v4 w4 hown4 hgrow4 _
              have hb4 := below_appendG hb01 (Nat.le_refl _) hz1 hown hgrow4
              have HO4 : Hid (NumsO w4 W0.heap.size v4 (midG L k (j + 1))) := by
                show w4.ownsRow _ _ _ _ _ _
                rw [HE.out, List.length_append, List.map_append]
                exact hown4
              clear hown hown4 hgrow4
              go_wp2_with fail
              go_roundw
              case rel => exact ⟨j + 1, _, by omega, by go_num, rfl, HO4, hb4⟩
              case measure => simp [intOf]; omega
          · have HE : Hid (midG L k (j + 1) = gl) := HSK.out hgg
            have e1 : (xg == (k : Int)) = false := by simpa using hgg
            have HO3 : Hid (NumsO W1 W0.heap.size u2 (midG L k (j + 1))) := by show NumsO _ _ _ _; rw [HE.out]; exact HO1
            clear HSK HHS HNW HO1
            go_wp2_with (rw [HW1.out])
            go_roundw
            case rel => exact ⟨j + 1, _, by omega, by go_num, rfl, HO3, hb01⟩
            case measure => simp [intOf]; omega
        · obtain rfl : j = L.length := by omega
          have HO3 : Hid (NumsO wr W0.heap.size u2 (grpsL allT L (k + 1))) := by
            show NumsO _ _ _ _
            rw [← midG_end]; exact HO2
          clear HO2
          go_wp2_with fail
          go_roundw
          case rel => exact ⟨k + 1, _, by omega, by go_num, rfl, HO3, hb2⟩
          case measure => simp [intOf]; omega
    · obtain rfl : k = 10 := by omega
      have hbw := (HX.out _ hb).2
      go_wp2_with fail
      go_ret
      exact ⟨⟨_, rfl, HO.out.mono hzw⟩, hbw⟩
end Go.Proofs.YtoanloballaclaaGreatDoor

namespace Go.Proofs.YtoanloballaclaaGreatDoor
open Go.RowKit

theorem inG_no {p : TgtT → Bool} {g : Int} {x : TgtT} (h : x.2.2.1 ≠ g) : inG p g x = false := by unfold inG; rw [beq_eq_false_iff_ne.2 h]; rfl
theorem inG_yes {p : TgtT → Bool} {g : Int} {x : TgtT} (h : x.2.2.1 = g) : inG p g x = p x := by unfold inG; rw [h]; simp
theorem any_none {L : List TgtT} {p : TgtT → Bool} (h : ∀ j, (hj : j < L.length) → j < L.length → p L[j] = false) : L.any p = false := by
  rw [List.any_eq_false]
  intro x hx
  obtain ⟨j, hj, rfl⟩ := List.getElem_of_mem hx
  rw [h j hj hj]; simp

set_option maxRecDepth 20000 in
set_option maxHeartbeats 8000000 in
theorem l14Group_any (nm : List UInt8) (v : Value) (L : List TgtT) (ri fa : Int) (hv : Value) (H : List HosT) (w : World) (hr : TgtRow w v L) (hl : L.length ≤ 1048576) (hh : HstRow w hv H) (hlh : H.length ≤ 1048576) (hxh : Hid (∀ x ∈ H, x.1.length ≤ 1048576)) (hpb : polB nm L = true) (hgd : goodH ri fa H = true) :
    Calls Tryz.prog 37 #[PolV ⟨nm.toArray⟩ v, HeaV ri fa hv] w fun e w' => e = .returned (.int .i64 (grpO (wellB H) L)) ∧ Below w.heap.size w w' := by
  have HGR : Hid (∀ W, Below w.heap.size w W → Calls Tryz.prog 54 #[PolV ⟨nm.toArray⟩ v] W fun e w' => (∃ u, e = .returned u ∧ NumsO w' W.heap.size u (grpsL allT L 10)) ∧ Below W.heap.size W w') := fun W hW => l14Groups_any _ v L W (hr.kept hW) hl
  have HWE : Hid (∀ (x : TgtT) W, Below w.heap.size w W → Calls Tryz.prog 65 #[HeaV ri fa hv, .string ⟨x.1.toArray⟩] W fun e w' => e = .returned (.bool (wellB H x)) ∧ Below W.heap.size W w') := fun x W hW => l14Well_any x.1 x rfl ri fa hv H W (hh.kept hW) hlh hxh hgd
  have hpos0 := grps_some hpb
  obtain ⟨G, hG⟩ : ∃ G, G = grpsL allT L 10 := ⟨_, rfl⟩
  obtain ⟨p, hp⟩ : ∃ p, p = wellB H := ⟨_, rfl⟩
  obtain ⟨A, hA⟩ : ∃ A, A = grpO p L := ⟨_, rfl⟩
  have HFI : Hid (∀ i, (hi : i < G.length) → L.any (inG p G[i]) = true → (∀ j, (hj : j < G.length) → j < i → L.any (inG p G[j]) = false) → A = G[i]) := fun i hi h1 h2 => by
    subst hG; rw [hA]; exact grp_first hi h1 h2
  have HNO : Hid ((∀ j, (hj : j < G.length) → L.any (inG p G[j]) = false) → A = G.headD 0) := fun h => by
    subst hG; rw [hA]; exact grp_nil (grp_none h)
  have hpos : 0 < G.length := by rw [hG]; exact hpos0
  rw [← hp] at HWE ⊢
  rw [← hA]
  rw [← hG] at HGR
  clear hpos0
  obtain ⟨g0, r0, hG0⟩ : ∃ g r, G = g :: r := by
    cases G with
    | nil => simp at hpos
    | cons g r => exact ⟨g, r, rfl⟩
  have HG0 : Hid (G = g0 :: r0) := hG0
  unfold PolV at HGR ⊢
  unfold HeaV at HWE ⊢
  obtain ⟨a, cap, rfl, hcap, hmax, HROW⟩ := tgt_value hr
  obtain ⟨a2, cap2, rfl, hcap2, hmax2, _⟩ := hst_value hh
  obtain ⟨W0, hW0⟩ : ∃ W0, W0 = (w.alloc (.cells #[.string ⟨nm.toArray⟩, .slice a L.length cap] 34)).alloc (.cells #[.int .i64 ri, .int .i64 fa, .slice a2 H.length cap2] 38) := ⟨_, rfl⟩
  have HX : Hid (∀ W, Below W0.heap.size W0 W → ((W.cell? ⟨w.heap.size, 0, none⟩ = some (.string ⟨nm.toArray⟩) ∧ W.cell? ⟨w.heap.size, 1, none⟩ = some (.slice a L.length cap)) ∧ (W.cell? ⟨w.heap.size + 1, 0, none⟩ = some (.int .i64 ri) ∧ W.cell? ⟨w.heap.size + 1, 1, none⟩ = some (.int .i64 fa) ∧ W.cell? ⟨w.heap.size + 1, 2, none⟩ = some (.slice a2 H.length cap2))) ∧ Below w.heap.size w W) := fun W hW => by
    rw [hW0] at hW
    obtain ⟨h1, h2, h3⟩ := tgt_below2 hW
    exact ⟨⟨(pol_cells h1).1, (hst_cells h2).1⟩, h3⟩
  have hb00 : Below W0.heap.size W0 W0 := Below.refl _ _
  have HW0 : Hid ((w.alloc (.cells #[.string ⟨nm.toArray⟩, .slice a L.length cap] 34)).alloc (.cells #[.int .i64 ri, .int .i64 fa, .slice a2 H.length cap2] 38) = W0) := hW0.symm
  clear hW0 hr hh hxh hpb hgd hA hp hG hG0
  go_enter Tryz.func37, Tryz.ntmps37
  go_wp2_with (rw [HW0.out]; obtain ⟨⟨⟨p0, p1⟩, h0, h1, h2⟩, hbw⟩ := HX.out _ hb00)
  refine (HGR.out _ hbw).mono ?_
  rintro e w1 ⟨⟨u, rfl, hu⟩, hb1⟩
  have hb01 := hb00.trans (hb1.mono hb00.size)
  obtain ⟨b1, hb1e⟩ : ∃ b1, b1 = W0.heap.size := ⟨_, rfl⟩
  have hzr := nums_row hu
  obtain ⟨ga, gc, rfl, hgc, hgm, HROWG⟩ := zrow_value hzr
  clear p0 p1 h0 h1 h2 hbw hu hzr hb1e hb1
  go_wp2_with fail
  go_loopw [12] (fun i wr => ∃ k : Nat, k ≤ G.length ∧ i = .int .i64 (k : Int) ∧ Hid (∀ j, (hj : j < G.length) → j < k → L.any (inG p G[j]) = false) ∧ Below w1.heap.size w1 wr) (fun i _ => G.length - (intOf i).toNat)
  case atStart => exact ⟨0, Nat.zero_le _, rfl, fun j _ h => absurd h (Nat.not_lt_zero _), Below.refl _ _⟩
  case round =>
    obtain ⟨k, hk, rfl, HK, hb⟩ := hrel
    have hb0 := hb01.trans (hb.mono hb01.size)
    by_cases hlt : k < G.length
    · obtain ⟨gb, go, hga, hgbl, hgcel⟩ := HROWG.out (by omega)
      have hgk := hgcel k hlt
      rw [← hb.cell (p := ⟨gb, go + k, none⟩) hgbl] at hgk
      have HHIT : Hid (L.any (inG p (G[k]'hlt)) = true → A = G[k]'hlt) := fun h => HFI.out k hlt h HK.out
      have HUPK : Hid (L.any (inG p (G[k]'hlt)) = false → ∀ j, (hj : j < G.length) → j < k + 1 → L.any (inG p G[j]) = false) := fun h j hj h1 => by
        rcases Nat.lt_or_ge j k with h' | h'
        · exact HK.out j hj h'
        · obtain rfl : j = k := by omega
          exact h
      obtain ⟨gk, hgke⟩ : ∃ gk, gk = G[k]'hlt := ⟨_, rfl⟩
      rw [← hgke] at hgk HHIT HUPK
      have hkl : (k : Int) < (G.length : Int) := by omega
      obtain ⟨⟨⟨p0, p1⟩, _⟩, _⟩ := HX.out _ hb0
      subst hga
      clear hgke hgcel
      go_wp2_with fail
      go_loopw [19] (fun i wr => ∃ j : Nat, j ≤ L.length ∧ i = .int .i64 (j : Int) ∧ Hid (∀ i, (hi : i < L.length) → i < j → inG p gk L[i] = false) ∧ Below w1.heap.size w1 wr) (fun i _ => L.length - (intOf i).toNat)
      case atStart => exact ⟨0, Nat.zero_le _, rfl, fun j _ h => absurd h (Nat.not_lt_zero _), hb⟩
      case round =>
        obtain ⟨j, hj, rfl, HJ, hb2⟩ := hrel
        clear hb hb0 p0 p1 hgk
        have hb02 := hb01.trans (hb2.mono hb01.size)
        by_cases hlj : j < L.length
        · obtain ⟨b, o, ha, hbl, hcel⟩ := HROW.out (by omega)
          have hcx := (hcel j hlj).kept (HX.out _ hb02).2
          unfold TgtAt at hcx
          obtain ⟨c0, c1, c2, c3⟩ := hcx
          have HANY : Hid (inG p gk (L[j]'hlj) = true → L.any (inG p gk) = true) := fun h => List.any_eq_true.2 ⟨_, List.getElem_mem hlj, h⟩
          have HUPJ : Hid (inG p gk (L[j]'hlj) = false → ∀ i, (hi : i < L.length) → i < j + 1 → inG p gk L[i] = false) := fun h i hi h1 => by
            rcases Nat.lt_or_ge i j with h' | h'
            · exact HJ.out i hi h'
            · obtain rfl : i = j := by omega
              exact h
          obtain ⟨x, hxe⟩ : ∃ x, x = L[j]'hlj := ⟨_, rfl⟩
          rw [← hxe] at c0 c1 c2 c3 HANY HUPJ
          have hwe := HWE.out x
          have HNO1 : Hid (x.2.2.1 ≠ gk → inG p gk x = false) := fun h => inG_no h
          have HYE1 : Hid (x.2.2.1 = gk → inG p gk x = p x) := fun h => inG_yes h
          obtain ⟨q, hq⟩ : ∃ q, q = p x := ⟨_, rfl⟩
          rw [← hq] at hwe HYE1
          obtain ⟨z, hz⟩ : ∃ z, z = inG p gk x := ⟨_, rfl⟩
          rw [← hz] at HANY HUPJ HNO1 HYE1
          obtain ⟨xh, xd, xg, xk⟩ := x
          simp only at c0 c1 c2 c3 HNO1 HYE1 hwe
          have HWE2 : Hid (∀ W, Below w.heap.size w W → Calls Tryz.prog 65 #[.agg #[.int .i64 ri, .int .i64 fa, .slice a2 H.length cap2], .string ⟨xh.toArray⟩] W fun e w' => e = .returned (.bool q) ∧ Below W.heap.size W w') := hwe
          obtain ⟨W1, hW1⟩ : ∃ W1, W1 = wr.alloc (.cells #[.string ⟨xh.toArray⟩, .string ⟨xd.toArray⟩, .int .i64 xg, .int .i64 xk] 79) := ⟨_, rfl⟩
          have hb11 : Below w1.heap.size w1 W1 := by rw [hW1]; exact hb2.alloc hb2.size _
          have hb011 := hb01.trans (hb11.mono hb01.size)
          obtain ⟨⟨_, h0, h1, h2⟩, hbw1⟩ := HX.out _ hb011
          have HW1 : Hid (wr.alloc (.cells #[.string ⟨xh.toArray⟩, .string ⟨xd.toArray⟩, .int .i64 xg, .int .i64 xk] 79) = W1) := hW1.symm
          have m0 := (show W1.cell? ⟨wr.heap.size, 0, none⟩ = some (.string ⟨xh.toArray⟩) by rw [hW1]; simp)
          have m2 := (show W1.cell? ⟨wr.heap.size, 2, none⟩ = some (.int .i64 xg) by rw [hW1]; simp)
          subst ha
          clear hcel hxe hW1 hq hz hwe hb2 hb02
          by_cases hgg : xg = gk
          · subst hgg
            have HZ : Hid (z = q) := HYE1.out rfl
            have e1 : (xg == xg) = true := by simp
            cases q with
            | true =>
              have HR : Hid (A = xg) := HHIT.out (HANY.out HZ.out)
              clear HNO1 HYE1 HANY HUPJ HZ HHIT HUPK
              go_wp2_with (rw [HW1.out])
              refine (HWE2.out _ hbw1).mono ?_
              rintro e w5 ⟨rfl, hb5⟩
              have hbw5 := hbw1.trans (hb5.mono hbw1.size)
              go_wp2_with fail
              go_ret
              exact ⟨ret_int HR.out.symm, hbw5⟩
            | false =>
              have HR : Hid (∀ i, (hi : i < L.length) → i < j + 1 → inG p xg L[i] = false) := HUPJ.out HZ.out
              clear HNO1 HYE1 HANY HUPJ HZ
              go_wp2_with (rw [HW1.out])
              refine (HWE2.out _ hbw1).mono ?_
              rintro e w5 ⟨rfl, hb5⟩
              have hb15 := hb11.trans (hb5.mono hb11.size)
              go_wp2_with fail
              go_roundw
              case rel => exact ⟨j + 1, by omega, by go_num, HR, hb15⟩
              case measure => simp [intOf]; omega
          · have HR : Hid (∀ i, (hi : i < L.length) → i < j + 1 → inG p gk L[i] = false) := HUPJ.out (HNO1.out hgg)
            have e1 : (xg == gk) = false := by simpa using hgg
            clear HNO1 HYE1 HANY HUPJ
            go_wp2_with (rw [HW1.out])
            go_roundw
            case rel => exact ⟨j + 1, by omega, by go_num, HR, hb11⟩
            case measure => simp [intOf]; omega
        · have HR : Hid (∀ j, (hj : j < G.length) → j < k + 1 → L.any (inG p G[j]) = false) := HUPK.out (any_none (fun i hi _ => HJ.out i hi (by omega)))
          clear HHIT HUPK HJ
          go_wp2_with fail
          go_roundw
          case rel => exact ⟨k + 1, by omega, by go_num, HR, hb2⟩
          case measure => simp [intOf]; omega
    · have hA0 : A = g0 := by
        have h := HNO.out (fun j hj => HK.out j hj (by omega))
        rw [HG0.out] at h
        exact h
      have HA0 : Hid (g0 = A) := hA0.symm
      obtain ⟨⟨⟨p0, p1⟩, _⟩, hbw2⟩ := HX.out _ hb0
      clear hA0 HFI HNO HK
      go_wp2_with fail
      refine (HGR.out _ hbw2).mono ?_
      rintro e w5 ⟨⟨u5, rfl, hu5⟩, hb5⟩
      have hbw5 := hbw2.trans (hb5.mono hbw2.size)
      rw [HG0.out] at hu5
      obtain ⟨ub, uc, um, rfl, hum, hum2, hum3, hub, hubl, hucell⟩ := nums_head hu5
      clear hu5 p0 p1
      go_wp2_with fail
      go_ret
      exact ⟨ret_int HA0.out, hbw5⟩
end Go.Proofs.YtoanloballaclaaGreatDoor

namespace Go.Proofs.YtoanloballaclaaGreatDoor
open Go.RowKit

set_option maxRecDepth 20000 in
set_option maxHeartbeats 8000000 in
theorem l14Candidates_any (nm : List UInt8) (v : Value) (L : List TgtT) (ri fa : Int) (hv : Value) (H : List HosT) (w : World) (hr : TgtRow w v L) (hl : L.length ≤ 1048576) (hh : HstRow w hv H) (hlh : H.length ≤ 1048576) (hxh : Hid (∀ x ∈ H, x.1.length ≤ 1048576)) (hpb : polB nm L = true) (hgd : goodH ri fa H = true) :
    Calls Tryz.prog 43 #[PolV ⟨nm.toArray⟩ v, HeaV ri fa hv] w fun e w' => (∃ u, e = .returned u ∧ NumsO w' w.heap.size u (canO (wellB H) L)) ∧ Below w.heap.size w w' := by
  obtain ⟨i0, hi, hz0, hz1', hz2'⟩ := info_parts info_int
  have HGR : Hid (∀ W, Below w.heap.size w W → Calls Tryz.prog 37 #[PolV ⟨nm.toArray⟩ v, HeaV ri fa hv] W fun e w' => e = .returned (.int .i64 (grpO (wellB H) L)) ∧ Below W.heap.size W w') := fun W hW => l14Group_any nm v L ri fa hv H W (hr.kept hW) hl (hh.kept hW) hlh hxh hpb hgd
  have HWE : Hid (∀ (x : TgtT) W, Below w.heap.size w W → Calls Tryz.prog 65 #[HeaV ri fa hv, .string ⟨x.1.toArray⟩] W fun e w' => e = .returned (.bool (wellB H x)) ∧ Below W.heap.size W w') := fun x W hW => l14Well_any x.1 x rfl ri fa hv H W (hh.kept hW) hlh hxh hgd
  have HCAN : Hid (canO (wellB H) L = if numsL (inG (wellB H) (grpO (wellB H) L)) L L.length = [] then numsL (inG allT (grpO (wellB H) L)) L L.length else numsL (inG (wellB H) (grpO (wellB H) L)) L L.length) := can_same (wellB H) L
  obtain ⟨cA, hcA⟩ : ∃ cA, cA = canO (wellB H) L := ⟨_, rfl⟩
  rw [← hcA] at HCAN ⊢
  obtain ⟨gk, hgk⟩ : ∃ gk, gk = grpO (wellB H) L := ⟨_, rfl⟩
  rw [← hgk] at HCAN HGR
  obtain ⟨p, hp⟩ : ∃ p, p = wellB H := ⟨_, rfl⟩
  rw [← hp] at HCAN HWE
  unfold PolV HeaV at HGR
  unfold PolV HeaV
  unfold HeaV at HWE
  obtain ⟨a, cap, rfl, hcap, hmax, HROW⟩ := tgt_value hr
  obtain ⟨a2, cap2, rfl, hcap2, hmax2, _⟩ := hst_value hh
  obtain ⟨W0, hW0⟩ : ∃ W0, W0 = (w.alloc (.cells #[.string ⟨nm.toArray⟩, .slice a L.length cap] 34)).alloc (.cells #[.int .i64 ri, .int .i64 fa, .slice a2 H.length cap2] 38) := ⟨_, rfl⟩
  have HX : Hid (∀ W, Below W0.heap.size W0 W → ((W.cell? ⟨w.heap.size, 0, none⟩ = some (.string ⟨nm.toArray⟩) ∧ W.cell? ⟨w.heap.size, 1, none⟩ = some (.slice a L.length cap)) ∧ (W.cell? ⟨w.heap.size + 1, 0, none⟩ = some (.int .i64 ri) ∧ W.cell? ⟨w.heap.size + 1, 1, none⟩ = some (.int .i64 fa) ∧ W.cell? ⟨w.heap.size + 1, 2, none⟩ = some (.slice a2 H.length cap2))) ∧ Below w.heap.size w W) := fun W hW => by
    rw [hW0] at hW
    obtain ⟨h1, h2, h3⟩ := tgt_below2 hW
    exact ⟨⟨(pol_cells h1).1, (hst_cells h2).1⟩, h3⟩
  have hb00 : Below W0.heap.size W0 W0 := Below.refl _ _
  have HW0 : Hid ((w.alloc (.cells #[.string ⟨nm.toArray⟩, .slice a L.length cap] 34)).alloc (.cells #[.int .i64 ri, .int .i64 fa, .slice a2 H.length cap2] 38) = W0) := hW0.symm
  have hzw : w.heap.size ≤ W0.heap.size := by rw [hW0]; simp; omega
  clear hW0 hr hh hxh hpb hgd hcA hp hgk
  go_enter Tryz.func43, Tryz.ntmps43
  go_wp2_with (rw [HW0.out]; obtain ⟨⟨⟨p0, p1⟩, h0, h1, h2⟩, hbw⟩ := HX.out _ hb00)
  refine (HGR.out _ hbw).mono ?_
  rintro e w1 ⟨rfl, hb1⟩
  have hb01 := hb00.trans (hb1.mono hb00.size)
  have hz01 := hb01.size
  clear p0 p1 h0 h1 h2 hbw hb1 HGR
  obtain ⟨⟨⟨p0, p1⟩, _⟩, _⟩ := HX.out _ hb01
  go_wp2_with fail
  go_loopw [6, 7, 16] (fun wv av i wr => ∃ (k : Nat) (uw ua : Value), k ≤ L.length ∧ i = .int .i64 (k : Int) ∧ uw = wv ∧ ua = av ∧ Hid (NumsO wr w1.heap.size uw (numsL (inG p gk) L k)) ∧ Hid (NumsO wr w1.heap.size ua (numsL (inG allT gk) L k)) ∧ Hid (∀ b, uw.ownBlock = some b → ua.ownBlock ≠ some b) ∧ Below w1.heap.size w1 wr) (fun _ _ i _ => L.length - (intOf i).toNat)
  case atStart => exact ⟨0, _, _, Nat.zero_le _, rfl, rfl, rfl, nums_nil _ _, nums_nil _ _, (fun b hb => by cases hb), Below.refl _ _⟩
  case round =>
    obtain ⟨k, uw, ua, hk, rfl, rfl, rfl, HUW, HUA, HAP, hb⟩ := hrel
    clear p0 p1
    have hb0 := hb01.trans (hb.mono hb01.size)
    by_cases hlt : k < L.length
    · obtain ⟨b, o, ha, hbl, hcel⟩ := HROW.out (by omega)
      have hcx := (hcel k hlt).kept (HX.out _ hb0).2
      unfold TgtAt at hcx
      obtain ⟨c0, c1, c2, c3⟩ := hcx
      have HSW : Hid (numsL (inG p gk) L (k + 1) = numsL (inG p gk) L k ++ (if inG p gk (L[k]'hlt) = true then [(k : Int)] else [])) := numsL_succ _ L k hlt
      have HSA : Hid (numsL (inG allT gk) L (k + 1) = numsL (inG allT gk) L k ++ (if inG allT gk (L[k]'hlt) = true then [(k : Int)] else [])) := numsL_succ _ L k hlt
      have hkw := numsL_length (inG p gk) L k
      have hka := numsL_length (inG allT gk) L k
      obtain ⟨x, hxe⟩ : ∃ x, x = L[k]'hlt := ⟨_, rfl⟩
      rw [← hxe] at c0 c1 c2 c3 HSW HSA
      have hwe := HWE.out x
      have HNW : Hid (x.2.2.1 ≠ gk → inG p gk x = false) := fun h => inG_no h
      have HNA : Hid (x.2.2.1 ≠ gk → inG allT gk x = false) := fun h => inG_no h
      have HYW : Hid (x.2.2.1 = gk → inG p gk x = p x) := fun h => inG_yes h
      have HYA : Hid (x.2.2.1 = gk → inG allT gk x = true) := fun h => inG_yes h
      obtain ⟨q, hq⟩ : ∃ q, q = p x := ⟨_, rfl⟩
      rw [← hq] at hwe HYW
      obtain ⟨lw, hlw⟩ : ∃ lw, lw = numsL (inG p gk) L k := ⟨_, rfl⟩
      obtain ⟨la, hla⟩ : ∃ la, la = numsL (inG allT gk) L k := ⟨_, rfl⟩
      rw [← hlw] at HUW HSW hkw
      rw [← hla] at HUA HSA hka
      obtain ⟨xh, xd, xg, xk⟩ := x
      simp only at c0 c1 c2 c3 HNW HNA HYW HYA hwe
      have HWE2 : Hid (∀ W, Below w.heap.size w W → Calls Tryz.prog 65 #[.agg #[.int .i64 ri, .int .i64 fa, .slice a2 H.length cap2], .string ⟨xh.toArray⟩] W fun e w' => e = .returned (.bool q) ∧ Below W.heap.size W w') := hwe
      obtain ⟨W1, hW1⟩ : ∃ W1, W1 = wr.alloc (.cells #[.string ⟨xh.toArray⟩, .string ⟨xd.toArray⟩, .int .i64 xg, .int .i64 xk] 79) := ⟨_, rfl⟩
      have hbr1 : Below wr.heap.size wr W1 := by rw [hW1]; exact (Below.refl _ _).alloc (Nat.le_refl _) _
      have hb11 : Below w1.heap.size w1 W1 := hb.trans (hbr1.mono hb.size)
      have HW1 : Hid (wr.alloc (.cells #[.string ⟨xh.toArray⟩, .string ⟨xd.toArray⟩, .int .i64 xg, .int .i64 xk] 79) = W1) := hW1.symm
      have hm : W1.heap[wr.heap.size]? = some (.cells #[.string ⟨xh.toArray⟩, .string ⟨xd.toArray⟩, .int .i64 xg, .int .i64 xk] 79) := by rw [hW1]; exact tgt_new _ _
      have HM : Hid (W1.heap[wr.heap.size]? = some (.cells #[.string ⟨xh.toArray⟩, .string ⟨xd.toArray⟩, .int .i64 xg, .int .i64 xk] 79)) := hm
      have m0 := (show W1.cell? ⟨wr.heap.size, 0, none⟩ = some (.string ⟨xh.toArray⟩) by rw [hW1]; simp)
      have m2 := (show W1.cell? ⟨wr.heap.size, 2, none⟩ = some (.int .i64 xg) by rw [hW1]; simp)
      have HUW1 : Hid (NumsO W1 w1.heap.size uw lw) := HUW.out.kept hbr1
      have HUA1 : Hid (NumsO W1 w1.heap.size ua la) := HUA.out.kept hbr1
      have hz11 := hb11.size
      have hxl : wr.heap.size < W1.heap.size := by rw [hW1]; simp
      subst ha
      clear hcel hxe hW1 hq hwe hb hb0 hlw hla HUW HUA hm hbr1
      by_cases hgg : xg = gk
      · subst hgg
        have HSA2 : Hid (numsL (inG allT xg) L (k + 1) = la ++ [(k : Int)]) := by show _ = _; rw [HSA.out, HYA.out rfl]; simp
        have HSW2 : Hid (numsL (inG p xg) L (k + 1) = lw ++ (if q = true then [(k : Int)] else [])) := by show _ = _; rw [HSW.out, HYW.out rfl]
        have e1 : (xg != xg) = false := by simp
        have e2 : (xg == xg) = true := by simp
        have hown := HUA1.out
        unfold NumsO at hown
        clear HSA HSW HNW HNA HYW HYA
        obtain ⟨W2, hW2⟩ : ∃ W2, W2 = W1.alloc (.cells #[.int .i64 (k : Int)] 3) := ⟨_, rfl⟩
        go_wp2_with (first | rw [HW1.out] | (at_builtin; refine wpList_append_atG rfl (.tmp 25) (.tmp 27) 43 rfl w1.heap.size 3 i0 (.int .i64 0) 1 8 Tryz.underlying43 hi hz0 hz1' hz2' rfl (by decide) _ _ _ rfl (own_below hown ((Below.refl W1.heap.size W1).alloc (Nat.le_refl _) _)) ⟨W1.heap.size, 0, none⟩ 1 1 [.int .i64 (k : Int)] rfl rfl (cell_new_one W1 (.int .i64 (k : Int)) 3) (one_int _) ?c3 ?c4 ?c5 ?_))
        case c3 => unfold maxLen; omega
        case c4 => omega
        case c5 => simp; omega
        intro v4 w4 hown4 hgrow4 hat4
        rw [← hW2] at hgrow4
        have hb4 : Below w1.heap.size w1 w4 := below_appendG hb11 (Nat.le_refl _) hz11 hown (by rw [← hW2]; exact hgrow4)
        have hb12 : Below W1.heap.size W1 W2 := by rw [hW2]; exact (Below.refl _ _).alloc (Nat.le_refl _) _
        have hk4 := grown_kpt hgrow4
        have HLA : Hid (∀ g, ua.ownBlock = some g → w1.heap.size ≤ g ∧ g < W1.heap.size) := fun g hg => World.ownsRow.lt HUA1.out g hg
        have HLW : Hid (∀ g, uw.ownBlock = some g → w1.heap.size ≤ g ∧ g < W1.heap.size) := fun g hg => World.ownsRow.lt HUW1.out g hg
        have HUW4 : Hid (NumsO w4 w1.heap.size uw lw) := own_kpt (HUW1.out.kept hb12) hk4 (fun g hg h => HAP.out g hg h)
        have HUA4 : Hid (NumsO w4 w1.heap.size v4 (numsL (inG allT xg) L (k + 1))) := by
          show w4.ownsRow _ _ _ _ _ _
          rw [HSA2.out, List.length_append, List.map_append]
          exact hown4
        have HAP4 : Hid (∀ b, uw.ownBlock = some b → v4.ownBlock ≠ some b) := fun b hbk hv4 => by
          rcases hat4 with h | h
          · exact HAP.out b hbk (by rw [← h]; exact hv4)
          · rw [hv4] at h
            have e : b = W1.heap.size + 1 := Option.some.inj h
            have h1 := (HLW.out b hbk).2
            have h2 := hb12.size
            omega
        have HFR : Hid (∀ g, ua.ownBlock = some g → g ≠ wr.heap.size) := fun g hg e => own_box HUA1.out HM.out (by decide) (e ▸ hg)
        have hM4 : w4.heap[wr.heap.size]? = some (.cells #[.string ⟨xh.toArray⟩, .string ⟨xd.toArray⟩, .int .i64 xg, .int .i64 xk] 79) := (hk4.block _ (Nat.lt_of_lt_of_le hxl hb12.size) (fun h => HFR.out _ h rfl)).trans ((hb12.block _ hxl).trans HM.out)
        have hm0 : w4.cell? ⟨wr.heap.size, 0, none⟩ = some (.string ⟨xh.toArray⟩) := by unfold World.cell?; rw [hM4]; rfl
        have hb04 := hb01.trans (hb4.mono hb01.size)
        have hz4 := hb4.size
        have hgs := hgrow4.size
        have hw24 := hb12.size
        obtain ⟨⟨_, h0, h1, h2⟩, hbw4⟩ := HX.out _ hb04
        clear hown hown4 hgrow4 hat4 hk4 HSA2 HUW1 HUA1 HAP hM4 m0 m2 c0 c1 c2 c3 hW2 hb12
        cases q with
        | false =>
          have HUW5 : Hid (NumsO w4 w1.heap.size uw (numsL (inG p xg) L (k + 1))) := by show NumsO _ _ _ _; rw [HSW2.out]; simpa using HUW4.out
          clear HSW2 HUW4
          go_wp2_with fail
          refine (HWE2.out _ hbw4).mono ?_
          rintro e w5 ⟨rfl, hb5⟩
          have hb15 := hb4.trans (hb5.mono hb4.size)
          have HUW6 : Hid (NumsO w5 w1.heap.size uw (numsL (inG p xg) L (k + 1))) := HUW5.out.kept hb5
          have HUA6 : Hid (NumsO w5 w1.heap.size v4 (numsL (inG allT xg) L (k + 1))) := HUA4.out.kept hb5
          clear h0 h1 h2 hm0
          go_wp2_with fail
          go_roundw
          case rel => exact ⟨k + 1, _, _, by omega, by go_num, rfl, rfl, HUW6, HUA6, HAP4, hb15⟩
          case measure => simp [intOf]; omega
        | true =>
          have HSW3 : Hid (numsL (inG p xg) L (k + 1) = lw ++ [(k : Int)]) := by show _ = _; rw [HSW2.out]; simp
          clear HSW2
          go_wp2_with fail
          refine (HWE2.out _ hbw4).mono ?_
          rintro e w5 ⟨rfl, hb5⟩
          have hb15 := hb4.trans (hb5.mono hb4.size)
          have hz15 := hb15.size
          have hown := HUW4.out.kept hb5
          have HUA5 : Hid (NumsO w5 w1.heap.size v4 (numsL (inG allT xg) L (k + 1))) := HUA4.out.kept hb5
          have HL4 : Hid (∀ g, v4.ownBlock = some g → g < w5.heap.size) := fun g hg => (World.ownsRow.lt HUA5.out g hg).2
          unfold NumsO at hown
          obtain ⟨W6, hW6⟩ : ∃ W6, W6 = w5.alloc (.cells #[.int .i64 (k : Int)] 3) := ⟨_, rfl⟩
          clear h0 h1 h2 hm0 HUW4 HUA4
          go_wp2_with (at_builtin; refine wpList_append_atG rfl (.tmp 33) (.tmp 35) 43 rfl w1.heap.size 3 i0 (.int .i64 0) 1 8 Tryz.underlying43 hi hz0 hz1' hz2' rfl (by decide) _ _ _ rfl (own_below hown ((Below.refl w5.heap.size w5).alloc (Nat.le_refl _) _)) ⟨w5.heap.size, 0, none⟩ 1 1 [.int .i64 (k : Int)] rfl rfl (cell_new_one w5 (.int .i64 (k : Int)) 3) (one_int _) ?d3 ?d4 ?d5 ?_)
          case d3 => unfold maxLen; omega
          case d4 => omega
          case d5 => simp; omega
          intro v6 w6 hown6 hgrow6 hat6
          rw [← hW6] at hgrow6
          have hb6 : Below w1.heap.size w1 w6 := below_appendG hb15 (Nat.le_refl _) hz15 hown (by rw [← hW6]; exact hgrow6)
          have hb56 : Below w5.heap.size w5 W6 := by rw [hW6]; exact (Below.refl _ _).alloc (Nat.le_refl _) _
          have HUW6 : Hid (NumsO w6 w1.heap.size v6 (numsL (inG p xg) L (k + 1))) := by
            show w6.ownsRow _ _ _ _ _ _
            rw [HSW3.out, List.length_append, List.map_append]
            exact hown6
          have HUA6 : Hid (NumsO w6 w1.heap.size v4 (numsL (inG allT xg) L (k + 1))) := own_kpt (HUA5.out.kept hb56) (grown_kpt hgrow6) (fun g hg h => HAP4.out g h hg)
          have HAP6 : Hid (∀ b, v6.ownBlock = some b → v4.ownBlock ≠ some b) := fun b hbk hv4 => by
            rcases hat6 with h | h
            · exact HAP4.out b (by rw [← h]; exact hbk) hv4
            · rw [hbk] at h
              have e : b = w5.heap.size + 1 := Option.some.inj h
              have h1 := HL4.out b hv4
              have h2 := hb56.size
              omega
          clear hown hown6 hgrow6 hat6 hb56 hW6
          go_wp2_with fail
          go_roundw
          case rel => exact ⟨k + 1, _, _, by omega, by go_num, rfl, rfl, HUW6, HUA6, HAP6, hb6⟩
          case measure => simp [intOf]; omega
      · have HUW2 : Hid (NumsO W1 w1.heap.size uw (numsL (inG p gk) L (k + 1))) := by show NumsO _ _ _ _; rw [HSW.out, HNW.out hgg]; simpa using HUW1.out
        have HUA2 : Hid (NumsO W1 w1.heap.size ua (numsL (inG allT gk) L (k + 1))) := by show NumsO _ _ _ _; rw [HSA.out, HNA.out hgg]; simpa using HUA1.out
        have e1 : (xg == gk) = false := by simpa using hgg
        have e2 : (xg != gk) = true := by simpa using hgg
        clear HSA HSW HNW HNA HYW HYA HUW1 HUA1
        go_wp2_with (rw [HW1.out])
        go_roundw
        case rel => exact ⟨k + 1, _, _, by omega, by go_num, rfl, rfl, HUW2, HUA2, HAP, hb11⟩
        case measure => simp [intOf]; omega
    · obtain rfl : k = L.length := by omega
      have hbw := (HX.out _ hb0).2
      obtain ⟨lw, hlw⟩ : ∃ lw, lw = numsL (inG p gk) L L.length := ⟨_, rfl⟩
      rw [← hlw] at HUW HCAN
      obtain ⟨xu, cu, hue, _, _⟩ := own_slice HUW.out
      subst hue
      by_cases hemp : lw = []
      · have HR : Hid (NumsO wr w.heap.size ua cA) := by show NumsO _ _ _ _; rw [HCAN.out, if_pos hemp]; exact HUA.out.mono (by omega)
        have h0 : lw.length = 0 := by rw [hemp]; rfl
        rw [h0]
        clear HUW HUA HCAN hlw hemp HAP
        go_wp2_with fail
        go_ret
        exact ⟨⟨_, rfl, HR.out⟩, hbw⟩
      · have HR : Hid (NumsO wr w.heap.size (.slice xu lw.length cu) cA) := by show NumsO _ _ _ _; rw [HCAN.out, if_neg hemp]; exact HUW.out.mono (by omega)
        have h0 : lw.length ≠ 0 := fun e => hemp (List.length_eq_zero_iff.1 e)
        obtain ⟨ml, hml⟩ : ∃ ml, ml = lw.length := ⟨_, rfl⟩
        rw [← hml] at HR h0 ⊢
        have h1 : ((ml : Int) == 0) = false := by rw [beq_eq_false_iff_ne]; omega
        clear HUW HUA HCAN hlw hemp HAP hml
        go_wp2_with fail
        go_ret
        exact ⟨⟨_, rfl, HR.out⟩, hbw⟩
end Go.Proofs.YtoanloballaclaaGreatDoor

namespace Go.Proofs.YtoanloballaclaaGreatDoor
open Go.RowKit

set_option maxRecDepth 20000 in
set_option maxHeartbeats 4000000 in
theorem sGroupOf_any (nm : List UInt8) (v : Value) (L : List TgtT) (ri fa : Int) (hv : Value) (H : List HosT) (w : World) (hr : TgtRow w v L) (hl : L.length ≤ 1048576) (hn : nm.length ≤ 1048576) (hx : Hid (∀ x ∈ L, x.1.length ≤ 1048576 ∧ x.2.1.length ≤ 1048576)) (hh : HstRow w hv H) (hlh : H.length ≤ 1048576) (hxh : Hid (∀ x ∈ H, x.1.length ≤ 1048576)) :
    Calls Tryz.prog 11 #[PolV ⟨nm.toArray⟩ v, HeaV ri fa hv] w fun e w' => e = .returned (.tuple #[.int .i64 (grpA nm L ri fa H), .bool (okO nm L ri fa H)]) ∧ Below w.heap.size w w' := by
  have HGP : Hid (∀ W, Below w.heap.size w W → Calls Tryz.prog 35 #[PolV ⟨nm.toArray⟩ v] W fun e w' => e = .returned (.bool (polB nm L)) ∧ Below W.heap.size W w') := fun W hW => sGoodPolicy_any nm v L W (hr.kept hW) hl hn hx
  have HGH : Hid (∀ W, Below w.heap.size w W → Calls Tryz.prog 36 #[HeaV ri fa hv] W fun e w' => e = .returned (.bool (goodH ri fa H)) ∧ Below W.heap.size W w') := fun W hW => sGoodHealth_any ri fa hv H W (hh.kept hW) hlh hxh
  have HGR : Hid (polB nm L = true → goodH ri fa H = true → ∀ W, Below w.heap.size w W → Calls Tryz.prog 37 #[PolV ⟨nm.toArray⟩ v, HeaV ri fa hv] W fun e w' => e = .returned (.int .i64 (grpO (wellB H) L)) ∧ Below W.heap.size W w') := fun h1 h2 W hW => l14Group_any nm v L ri fa hv H W (hr.kept hW) hl (hh.kept hW) hlh hxh h1 h2
  have HOK : Hid (okO nm L ri fa H = (polB nm L && goodH ri fa H)) := rfl
  have HOF := @okO_off nm L ri fa H
  have HON := @okO_on nm L ri fa H
  obtain ⟨ok, hok⟩ : ∃ ok, ok = okO nm L ri fa H := ⟨_, rfl⟩
  rw [← hok] at HOK HOF HON ⊢
  unfold PolV at HGP HGR ⊢
  unfold HeaV at HGH HGR ⊢
  obtain ⟨a, cap, rfl, hcap, hmax, _⟩ := tgt_value hr
  obtain ⟨a2, cap2, rfl, hcap2, hmax2, _⟩ := hst_value hh
  obtain ⟨W0, hW0⟩ : ∃ W0, W0 = (w.alloc (.cells #[.string ⟨nm.toArray⟩, .slice a L.length cap] 34)).alloc (.cells #[.int .i64 ri, .int .i64 fa, .slice a2 H.length cap2] 38) := ⟨_, rfl⟩
  have HX : Hid (∀ W, Below W0.heap.size W0 W → ((W.cell? ⟨w.heap.size, 0, none⟩ = some (.string ⟨nm.toArray⟩) ∧ W.cell? ⟨w.heap.size, 1, none⟩ = some (.slice a L.length cap)) ∧ (W.cell? ⟨w.heap.size + 1, 0, none⟩ = some (.int .i64 ri) ∧ W.cell? ⟨w.heap.size + 1, 1, none⟩ = some (.int .i64 fa) ∧ W.cell? ⟨w.heap.size + 1, 2, none⟩ = some (.slice a2 H.length cap2))) ∧ Below w.heap.size w W) := fun W hW => by
    rw [hW0] at hW
    obtain ⟨h1, h2, h3⟩ := tgt_below2 hW
    exact ⟨⟨(pol_cells h1).1, (hst_cells h2).1⟩, h3⟩
  have hb00 : Below W0.heap.size W0 W0 := Below.refl _ _
  have HW0 : Hid ((w.alloc (.cells #[.string ⟨nm.toArray⟩, .slice a L.length cap] 34)).alloc (.cells #[.int .i64 ri, .int .i64 fa, .slice a2 H.length cap2] 38) = W0) := hW0.symm
  clear hW0 hr hh hx hxh hok
  cases hP : polB nm L with
  | false =>
    have hk : ok = false := by rw [HOK.out, hP]; rfl
    rw [(HOF hk).1, hk]
    rw [hP] at HGP
    clear hk hP HOF HON HOK HGH HGR
    go_enter Tryz.func11, Tryz.ntmps11
    go_wp2_with (rw [HW0.out]; obtain ⟨⟨⟨p0, p1⟩, h0, h1, h2⟩, hbw⟩ := HX.out _ hb00)
    refine (HGP.out _ hbw).mono ?_
    rintro e w1 ⟨rfl, hb1⟩
    have hb01 := hb00.trans (hb1.mono hb00.size)
    clear p0 p1 h0 h1 h2 hbw hb1
    obtain ⟨⟨⟨p0, p1⟩, h0, h1, h2⟩, hbw⟩ := HX.out _ hb01
    go_wp2_with fail
    go_ret2
    exact ⟨rfl, hbw⟩
  | true =>
    rw [hP] at HGP
    cases hG : goodH ri fa H with
    | false =>
      have hk : ok = false := by rw [HOK.out, hP, hG]; rfl
      rw [(HOF hk).1, hk]
      rw [hG] at HGH
      clear hk hP hG HOF HON HOK HGR
      go_enter Tryz.func11, Tryz.ntmps11
      go_wp2_with (rw [HW0.out]; obtain ⟨⟨⟨p0, p1⟩, h0, h1, h2⟩, hbw⟩ := HX.out _ hb00)
      refine (HGP.out _ hbw).mono ?_
      rintro e w1 ⟨rfl, hb1⟩
      have hb01 := hb00.trans (hb1.mono hb00.size)
      clear p0 p1 h0 h1 h2 hbw hb1
      obtain ⟨⟨⟨p0, p1⟩, h0, h1, h2⟩, hbw⟩ := HX.out _ hb01
      go_wp2_with fail
      refine (HGH.out _ hbw).mono ?_
      rintro e w2 ⟨rfl, hb2⟩
      have hb02 := hb01.trans (hb2.mono hb01.size)
      clear p0 p1 h0 h1 h2 hbw hb2
      obtain ⟨⟨⟨p0, p1⟩, h0, h1, h2⟩, hbw⟩ := HX.out _ hb02
      go_wp2_with fail
      go_ret2
      exact ⟨rfl, hbw⟩
    | true =>
      have hk : ok = true := by rw [HOK.out, hP, hG]; rfl
      rw [(HON hk).1, hk]
      have HGR2 := HGR.out hP hG
      have HGR3 : Hid (∀ W, Below w.heap.size w W → Calls Tryz.prog 37 #[.agg #[.string ⟨nm.toArray⟩, .slice a L.length cap], .agg #[.int .i64 ri, .int .i64 fa, .slice a2 H.length cap2]] W fun e w' => e = .returned (.int .i64 (grpO (wellB H) L)) ∧ Below W.heap.size W w') := HGR2
      clear HGR HGR2
      rw [hG] at HGH
      clear hk hP hG HOF HON HOK
      go_enter Tryz.func11, Tryz.ntmps11
      go_wp2_with (rw [HW0.out]; obtain ⟨⟨⟨p0, p1⟩, h0, h1, h2⟩, hbw⟩ := HX.out _ hb00)
      refine (HGP.out _ hbw).mono ?_
      rintro e w1 ⟨rfl, hb1⟩
      have hb01 := hb00.trans (hb1.mono hb00.size)
      clear p0 p1 h0 h1 h2 hbw hb1
      obtain ⟨⟨⟨p0, p1⟩, h0, h1, h2⟩, hbw⟩ := HX.out _ hb01
      go_wp2_with fail
      refine (HGH.out _ hbw).mono ?_
      rintro e w2 ⟨rfl, hb2⟩
      have hb02 := hb01.trans (hb2.mono hb01.size)
      clear p0 p1 h0 h1 h2 hbw hb2
      obtain ⟨⟨⟨p0, p1⟩, h0, h1, h2⟩, hbw⟩ := HX.out _ hb02
      go_wp2_with fail
      refine (HGR3.out _ hbw).mono ?_
      rintro e w3 ⟨rfl, hb3⟩
      have hbw3 := hbw.trans (hb3.mono hbw.size)
      go_wp2_with fail
      go_ret2
      exact ⟨rfl, hbw3⟩

set_option maxRecDepth 20000 in
set_option maxHeartbeats 4000000 in
theorem sCandidatesOf_any (nm : List UInt8) (v : Value) (L : List TgtT) (ri fa : Int) (hv : Value) (H : List HosT) (w : World) (hr : TgtRow w v L) (hl : L.length ≤ 1048576) (hn : nm.length ≤ 1048576) (hx : Hid (∀ x ∈ L, x.1.length ≤ 1048576 ∧ x.2.1.length ≤ 1048576)) (hh : HstRow w hv H) (hlh : H.length ≤ 1048576) (hxh : Hid (∀ x ∈ H, x.1.length ≤ 1048576)) :
    Calls Tryz.prog 17 #[PolV ⟨nm.toArray⟩ v, HeaV ri fa hv] w fun e w' => GrpT w' w.heap.size (okO nm L ri fa H) (canA nm L ri fa H) e ∧ Below w.heap.size w w' := by
  have HGP : Hid (∀ W, Below w.heap.size w W → Calls Tryz.prog 35 #[PolV ⟨nm.toArray⟩ v] W fun e w' => e = .returned (.bool (polB nm L)) ∧ Below W.heap.size W w') := fun W hW => sGoodPolicy_any nm v L W (hr.kept hW) hl hn hx
  have HGH : Hid (∀ W, Below w.heap.size w W → Calls Tryz.prog 36 #[HeaV ri fa hv] W fun e w' => e = .returned (.bool (goodH ri fa H)) ∧ Below W.heap.size W w') := fun W hW => sGoodHealth_any ri fa hv H W (hh.kept hW) hlh hxh
  have HGR : Hid (polB nm L = true → goodH ri fa H = true → ∀ W, Below w.heap.size w W → Calls Tryz.prog 43 #[PolV ⟨nm.toArray⟩ v, HeaV ri fa hv] W fun e w' => (∃ u, e = .returned u ∧ NumsO w' W.heap.size u (canO (wellB H) L)) ∧ Below W.heap.size W w') := fun h1 h2 W hW => l14Candidates_any nm v L ri fa hv H W (hr.kept hW) hl (hh.kept hW) hlh hxh h1 h2
  have HOK : Hid (okO nm L ri fa H = (polB nm L && goodH ri fa H)) := rfl
  have HOF := @okO_off nm L ri fa H
  have HON := @okO_on nm L ri fa H
  obtain ⟨ok, hok⟩ : ∃ ok, ok = okO nm L ri fa H := ⟨_, rfl⟩
  rw [← hok] at HOK HOF HON ⊢
  unfold PolV at HGP HGR ⊢
  unfold HeaV at HGH HGR ⊢
  obtain ⟨a, cap, rfl, hcap, hmax, _⟩ := tgt_value hr
  obtain ⟨a2, cap2, rfl, hcap2, hmax2, _⟩ := hst_value hh
  obtain ⟨W0, hW0⟩ : ∃ W0, W0 = (w.alloc (.cells #[.string ⟨nm.toArray⟩, .slice a L.length cap] 34)).alloc (.cells #[.int .i64 ri, .int .i64 fa, .slice a2 H.length cap2] 38) := ⟨_, rfl⟩
  have HX : Hid (∀ W, Below W0.heap.size W0 W → ((W.cell? ⟨w.heap.size, 0, none⟩ = some (.string ⟨nm.toArray⟩) ∧ W.cell? ⟨w.heap.size, 1, none⟩ = some (.slice a L.length cap)) ∧ (W.cell? ⟨w.heap.size + 1, 0, none⟩ = some (.int .i64 ri) ∧ W.cell? ⟨w.heap.size + 1, 1, none⟩ = some (.int .i64 fa) ∧ W.cell? ⟨w.heap.size + 1, 2, none⟩ = some (.slice a2 H.length cap2))) ∧ Below w.heap.size w W) := fun W hW => by
    rw [hW0] at hW
    obtain ⟨h1, h2, h3⟩ := tgt_below2 hW
    exact ⟨⟨(pol_cells h1).1, (hst_cells h2).1⟩, h3⟩
  have hb00 : Below W0.heap.size W0 W0 := Below.refl _ _
  have HW0 : Hid ((w.alloc (.cells #[.string ⟨nm.toArray⟩, .slice a L.length cap] 34)).alloc (.cells #[.int .i64 ri, .int .i64 fa, .slice a2 H.length cap2] 38) = W0) := hW0.symm
  clear hW0 hr hh hx hxh hok
  cases hP : polB nm L with
  | false =>
    have hk : ok = false := by rw [HOK.out, hP]; rfl
    rw [(HOF hk).2, hk]
    rw [hP] at HGP
    clear hk hP HOF HON HOK HGH HGR
    go_enter Tryz.func17, Tryz.ntmps17
    go_wp2_with (rw [HW0.out]; obtain ⟨⟨⟨p0, p1⟩, h0, h1, h2⟩, hbw⟩ := HX.out _ hb00)
    refine (HGP.out _ hbw).mono ?_
    rintro e w1 ⟨rfl, hb1⟩
    have hb01 := hb00.trans (hb1.mono hb00.size)
    clear p0 p1 h0 h1 h2 hbw hb1
    obtain ⟨⟨⟨p0, p1⟩, h0, h1, h2⟩, hbw⟩ := HX.out _ hb01
    go_wp2_with fail
    go_ret2
    exact ⟨grp_off _ _, hbw⟩
  | true =>
    rw [hP] at HGP
    cases hG : goodH ri fa H with
    | false =>
      have hk : ok = false := by rw [HOK.out, hP, hG]; rfl
      rw [(HOF hk).2, hk]
      rw [hG] at HGH
      clear hk hP hG HOF HON HOK HGR
      go_enter Tryz.func17, Tryz.ntmps17
      go_wp2_with (rw [HW0.out]; obtain ⟨⟨⟨p0, p1⟩, h0, h1, h2⟩, hbw⟩ := HX.out _ hb00)
      refine (HGP.out _ hbw).mono ?_
      rintro e w1 ⟨rfl, hb1⟩
      have hb01 := hb00.trans (hb1.mono hb00.size)
      clear p0 p1 h0 h1 h2 hbw hb1
      obtain ⟨⟨⟨p0, p1⟩, h0, h1, h2⟩, hbw⟩ := HX.out _ hb01
      go_wp2_with fail
      refine (HGH.out _ hbw).mono ?_
      rintro e w2 ⟨rfl, hb2⟩
      have hb02 := hb01.trans (hb2.mono hb01.size)
      clear p0 p1 h0 h1 h2 hbw hb2
      obtain ⟨⟨⟨p0, p1⟩, h0, h1, h2⟩, hbw⟩ := HX.out _ hb02
      go_wp2_with fail
      go_ret2
      exact ⟨grp_off _ _, hbw⟩
    | true =>
      have hk : ok = true := by rw [HOK.out, hP, hG]; rfl
      rw [(HON hk).2, hk]
      have HGR2 := HGR.out hP hG
      obtain ⟨cA, hcA⟩ : ∃ cA, cA = canO (wellB H) L := ⟨_, rfl⟩
      rw [← hcA] at HGR2 ⊢
      have HGR3 : Hid (∀ W, Below w.heap.size w W → Calls Tryz.prog 43 #[.agg #[.string ⟨nm.toArray⟩, .slice a L.length cap], .agg #[.int .i64 ri, .int .i64 fa, .slice a2 H.length cap2]] W fun e w' => (∃ u, e = .returned u ∧ NumsO w' W.heap.size u cA) ∧ Below W.heap.size W w') := HGR2
      clear HGR HGR2 hcA
      rw [hG] at HGH
      clear hk hP hG HOF HON HOK
      go_enter Tryz.func17, Tryz.ntmps17
      go_wp2_with (rw [HW0.out]; obtain ⟨⟨⟨p0, p1⟩, h0, h1, h2⟩, hbw⟩ := HX.out _ hb00)
      refine (HGP.out _ hbw).mono ?_
      rintro e w1 ⟨rfl, hb1⟩
      have hb01 := hb00.trans (hb1.mono hb00.size)
      clear p0 p1 h0 h1 h2 hbw hb1
      obtain ⟨⟨⟨p0, p1⟩, h0, h1, h2⟩, hbw⟩ := HX.out _ hb01
      go_wp2_with fail
      refine (HGH.out _ hbw).mono ?_
      rintro e w2 ⟨rfl, hb2⟩
      have hb02 := hb01.trans (hb2.mono hb01.size)
      clear p0 p1 h0 h1 h2 hbw hb2
      obtain ⟨⟨⟨p0, p1⟩, h0, h1, h2⟩, hbw⟩ := HX.out _ hb02
      go_wp2_with fail
      refine (HGR3.out _ hbw).mono ?_
      rintro e w3 ⟨⟨u, rfl, hu⟩, hb3⟩
      have hbw3 := hbw.trans (hb3.mono hbw.size)
      have HU : Hid (NumsO w3 w.heap.size u cA) := hu.mono hbw.size
      clear hu
      go_wp2_with fail
      go_ret2
      exact ⟨⟨_, rfl, HU.out⟩, hbw3⟩

set_option maxRecDepth 20000 in
set_option maxHeartbeats 2000000 in
theorem sGroupsIn_any (nm : List UInt8) (v : Value) (L : List TgtT) (w : World) (hr : TgtRow w v L) (hl : L.length ≤ 1048576) (hn : nm.length ≤ 1048576) (hx : Hid (∀ x ∈ L, x.1.length ≤ 1048576 ∧ x.2.1.length ≤ 1048576)) :
    Calls Tryz.prog 31 #[PolV ⟨nm.toArray⟩ v] w fun e w' => GrpT w' w.heap.size (polB nm L) (grsO nm L) e ∧ Below w.heap.size w w' := by
  have HGP : Hid (∀ W, Below w.heap.size w W → Calls Tryz.prog 35 #[PolV ⟨nm.toArray⟩ v] W fun e w' => e = .returned (.bool (polB nm L)) ∧ Below W.heap.size W w') := fun W hW => sGoodPolicy_any nm v L W (hr.kept hW) hl hn hx
  have HGO : Hid (∀ W, Below w.heap.size w W → Calls Tryz.prog 54 #[PolV ⟨nm.toArray⟩ v] W fun e w' => (∃ u, e = .returned u ∧ NumsO w' W.heap.size u (grpsL allT L 10)) ∧ Below W.heap.size W w') := fun W hW => l14Groups_any _ v L W (hr.kept hW) hl
  have HOF : Hid (polB nm L = false → grsO nm L = []) := fun h => by unfold grsO; rw [h]; rfl
  have HON : Hid (polB nm L = true → grsO nm L = grpsL allT L 10) := fun h => by unfold grsO; rw [h]; rfl
  unfold PolV at HGP HGO ⊢
  obtain ⟨a, cap, rfl, hcap, hmax, _⟩ := hr
  have hb0 : Below w.heap.size w (w.alloc (.cells #[.string ⟨nm.toArray⟩, .slice a L.length cap] 34)) := (Below.refl w.heap.size w).alloc (Nat.le_refl _) _
  obtain ⟨ok, hok⟩ : ∃ ok, ok = polB nm L := ⟨_, rfl⟩
  rw [← hok] at HGP HOF HON ⊢
  clear hok hx
  cases ok with
  | false =>
    rw [HOF.out rfl]
    clear HOF HON HGO
    go_enter Tryz.func31, Tryz.ntmps31
    go_wp2_with fail
    refine (HGP.out _ hb0).mono ?_
    rintro e w1 ⟨rfl, hb1⟩
    have hbw := (pol_box hb1).2
    go_wp2_with fail
    go_ret2
    exact ⟨grp_off _ _, hbw⟩
  | true =>
    rw [HON.out rfl]
    obtain ⟨G, hG⟩ : ∃ G, G = grpsL allT L 10 := ⟨_, rfl⟩
    rw [← hG] at HGO ⊢
    clear HOF HON hG
    go_enter Tryz.func31, Tryz.ntmps31
    go_wp2_with fail
    refine (HGP.out _ hb0).mono ?_
    rintro e w1 ⟨rfl, hb1⟩
    obtain ⟨⟨p0, p1⟩, hbw⟩ := pol_box hb1
    clear hb1
    go_wp2_with fail
    refine (HGO.out _ hbw).mono ?_
    rintro e w3 ⟨⟨u, rfl, hu⟩, hb3⟩
    have hbw3 := hbw.trans (hb3.mono hbw.size)
    have HU : Hid (NumsO w3 w.heap.size u G) := hu.mono hbw.size
    clear hu p0 p1
    go_wp2_with fail
    go_ret2
    exact ⟨⟨_, rfl, HU.out⟩, hbw3⟩
end Go.Proofs.YtoanloballaclaaGreatDoor
