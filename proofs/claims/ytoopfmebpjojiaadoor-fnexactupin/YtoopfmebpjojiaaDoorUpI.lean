import Derived.Test.YtoopfmebpjojiaaDoorHeT
import Derived.Test.YtoopfmebpjojiaaDoorCloneR
import Derived.Test.YtoopfmebpjojiaaDoorMarkS
namespace Go.Proofs.YtoopfmebpjojiaaDoor
open Go.RowKit

/-- The names of those that are up. -/
def upN (L : List HosT) : List (List UInt8) := (L.filter (fun x => x.2.1)).map (fun x => x.1)
def upT (ri fa : Int) (L : List HosT) : List (List UInt8) := if goodH ri fa L = true then upN L else []
theorem upN_yes {L : List HosT} {k : Nat} (h : k < L.length) (hu : L[k].2.1 = true) : upN (L.take (k + 1)) = upN (L.take k) ++ [L[k].1] := by
  unfold upN; rw [List.take_succ_eq_append_getElem h, List.filter_append, List.map_append]; simp [hu]
theorem upN_no {L : List HosT} {k : Nat} (h : k < L.length) (hu : L[k].2.1 = false) : upN (L.take (k + 1)) = upN (L.take k) := by
  unfold upN; rw [List.take_succ_eq_append_getElem h, List.filter_append, List.map_append]; simp [hu]
theorem upN_length (L : List HosT) : (upN L).length ≤ L.length := by unfold upN; rw [List.length_map]; exact List.length_filter_le _ _
theorem upT_length (ri fa : Int) (L : List HosT) : (upT ri fa L).length ≤ L.length := by
  unfold upT; split
  · exact upN_length L
  · simp
theorem ownS_own {w : World} {base : Nat} {v : Value} {P : List (List UInt8)} (h : w.ownsRow base 9 1 v P.length (P.map S)) : OwnS w base v P := by
  have h0 := h
  obtain ⟨_, ⟨rfl, hn⟩ | ⟨g, cap, cur, rfl, hg, _, h1, h2, _, _⟩⟩ := h
  · exact .inl ⟨rfl, List.length_eq_zero_iff.1 hn⟩
  · exact .inr ⟨g, cap, rfl, h1, h2, hg, srow_own h0 rfl⟩


set_option maxRecDepth 20000 in
set_option maxHeartbeats 2000000 in
theorem iUpIn_any (ri fa : Int) (v : Value) (L : List HosT) (w : World) (hr : HstRow w v L) (hl : L.length ≤ 1048576) (hx : Hid (∀ x ∈ L, x.1.length ≤ 1048576)) (hE : Env w) :
    Calls Tryd.prog 33 #[HeaV ri fa v] w fun e w' => (∃ u, e = .returned (.tuple #[u, .bool (goodH ri fa L)]) ∧ OwnS w' w.heap.size u (upT ri fa L)) ∧ Below w.heap.size w w' := by
  obtain ⟨i0, hi, hz0, hz1, hz2⟩ := info_parts info_string
  have HG : Hid (∀ W, Below w.heap.size w W → Calls Tryd.prog 22 #[HeaV ri fa v] W fun e w' => e = .returned (.bool (goodH ri fa L)) ∧ Below W.heap.size W w') := fun W hW => iGoodHealth_any ri fa v L W (hr.kept hW) (hE.below hW)
  obtain ⟨T, hT⟩ : ∃ T, T = upT ri fa L := ⟨_, rfl⟩
  have HT : Hid (T = upT ri fa L) := hT
  rw [← hT]
  unfold HeaV at HG ⊢
  obtain ⟨a, cap, rfl, hcap, hmax, HROW⟩ := hst_value hr
  have hb0 : Below w.heap.size w (w.alloc (.cells #[.int .i64 ri, .int .i64 fa, .slice a L.length cap] 26)) := (Below.refl w.heap.size w).alloc (Nat.le_refl _) _
  clear hr hT
  cases hg : goodH ri fa L with
  | false =>
    have HR : Hid (T = []) := by show T = []; rw [HT.out]; unfold upT; rw [hg]; rfl
    rw [hg] at HG
    go_enter Tryd.func33, Tryd.ntmps33
    go_wp2_with fail
    refine (HG.out _ hb0).mono ?_
    rintro e w1 ⟨rfl, hb1⟩
    have hbw := (hea_cells hb1).2
    go_wp2_with fail
    go_ret2
    exact ⟨⟨_, rfl, by rw [HR.out]; exact .inl ⟨rfl, rfl⟩⟩, hbw⟩
  | true =>
    have HR : Hid (T = upN L) := by show T = upN L; rw [HT.out]; unfold upT; rw [hg]; rfl
    rw [hg] at HG
    clear hg HT
    go_enter Tryd.func33, Tryd.ntmps33
    go_wp2_with fail
    refine (HG.out _ hb0).mono ?_
    rintro e w1 ⟨rfl, hb1⟩
    obtain ⟨⟨d0, d1, d2⟩, hbw⟩ := hea_cells hb1
    clear hb1 HG
    go_wp2_with fail
    go_loopw [4, 13] (fun nv i wr => ∃ (k : Nat) (vn : Value), k ≤ L.length ∧ i = .int .i64 (k : Int) ∧ vn = nv ∧ Hid (wr.ownsRow w1.heap.size 9 1 vn (upN (L.take k)).length ((upN (L.take k)).map S)) ∧ Below w1.heap.size w1 wr) (fun _ i _ => L.length - (intOf i).toNat)
    case atStart => exact ⟨0, _, Nat.zero_le _, rfl, rfl, World.ownsRow_nil _ _ _ _, Below.refl _ _⟩
    case round =>
      obtain ⟨k, vn, hk, rfl, rfl, HO, hb⟩ := hrel
      have hbwr := hbw.trans (hb.mono hbw.size)
      by_cases hlt : k < L.length
      · obtain ⟨b, o, ha, hbl, hcel⟩ := HROW.out (by omega)
        have hcx := (hcel k hlt).kept hbwr
        unfold HstAt at hcx
        obtain ⟨c0, c1, c2⟩ := hcx
        have hkl : (upN (L.take k)).length ≤ k := Nat.le_trans (upN_length _) (by rw [List.length_take]; omega)
        have HY : Hid ((L[k]'hlt).2.1 = true → upN (L.take (k + 1)) = upN (L.take k) ++ [(L[k]'hlt).1]) := upN_yes hlt
        have HN : Hid ((L[k]'hlt).2.1 = false → upN (L.take (k + 1)) = upN (L.take k)) := upN_no hlt
        have hxl := hx.out _ (List.getElem_mem hlt)
        obtain ⟨x, hxe⟩ : ∃ x, x = L[k]'hlt := ⟨_, rfl⟩
        rw [← hxe] at c0 c1 c2 HY HN hxl
        obtain ⟨xn, u, r⟩ := x
        simp only at c0 c1 c2 HY HN hxl
        rw [ha]
        clear hcel hxe
        cases u with
        | false =>
          have HO2 : Hid ((wr.alloc (.cells #[.string ⟨xn.toArray⟩, .bool false, .int .i64 r] 68)).ownsRow w1.heap.size 9 1 vn (upN (L.take (k + 1))).length ((upN (L.take (k + 1))).map S)) := by rw [HN.out rfl]; exact HO.out.alloc _
          have hb2 := hb.alloc hb.size (.cells #[.string ⟨xn.toArray⟩, .bool false, .int .i64 r] 68)
          clear HY HN
          go_wp2_with fail
          go_roundw
          case rel => exact ⟨k + 1, _, by omega, by go_num, rfl, HO2, hb2⟩
          case measure => simp [intOf]; omega
        | true =>
          have HSN : Hid (upN (L.take (k + 1)) = upN (L.take k) ++ [xn]) := HY.out rfl
          obtain ⟨W1, hW1⟩ : ∃ W1, W1 = wr.alloc (.cells #[.string ⟨xn.toArray⟩, .bool true, .int .i64 r] 68) := ⟨_, rfl⟩
          have hb01 : Below w1.heap.size w1 W1 := by rw [hW1]; exact hb.alloc hb.size _
          have HO1 : Hid (W1.ownsRow w1.heap.size 9 1 vn (upN (L.take k)).length ((upN (L.take k)).map S)) := by rw [hW1]; exact HO.out.alloc _
          have HW1 : Hid (wr.alloc (.cells #[.string ⟨xn.toArray⟩, .bool true, .int .i64 r] 68) = W1) := hW1.symm
          clear HY HN hW1
          have HCL : Hid (∀ W, Calls Tryd.prog 57 #[.string ⟨xn.toArray⟩] W fun e w' => e = .returned (.string ⟨xn.toArray⟩) ∧ Below W.heap.size W w') := fun W => cloneR_any ⟨xn.toArray⟩ W (by rw [size_list]; omega)
          go_wp2_with fail
          rw [HW1.out]
          refine (HCL.out _).mono ?_
          rintro e W ⟨rfl, hW⟩
          have hownW : W.ownsRow w1.heap.size 9 1 vn (upN (L.take k)).length ((upN (L.take k)).map S) := own_below HO1.out hW
          have hbW0 := hb01.trans (hW.mono hb01.size)
          have hzW := hbW0.size
          clear hW hb01 HO1 HCL HO c0 c1 c2
          go_wp2_with (at_builtin; refine wpList_append_own _ rfl (.tmp 19) (.tmp 23) 22 rfl w1.heap.size 9 i0 (.string ByteArray.empty) 1 16 Tryd.underlying22 hi hz0 hz1 hz2 rfl (by decide) _ _ _ rfl (hownW.alloc _) ⟨W.heap.size, 0, none⟩ 1 1 [.string ⟨xn.toArray⟩] rfl rfl ?c1 ?c2 ?c3 ?c4 ?c5 ?_)
          case c1 => exact cell_new_one W (.string ⟨xn.toArray⟩) 9
          case c2 => exact one_string _
          case c3 => unfold maxLen; omega
          case c4 => omega
          case c5 => simp; omega
          intro v4 w4 hown4 hgrow4 _
          have hb4 := below_append hbW0 hownW hgrow4
          have HO4 : Hid (w4.ownsRow w1.heap.size 9 1 v4 (upN (L.take (k + 1))).length ((upN (L.take (k + 1))).map S)) := by
            show w4.ownsRow w1.heap.size 9 1 v4 (upN (L.take (k + 1))).length ((upN (L.take (k + 1))).map S)
            rw [HSN.out, List.length_append, List.map_append]
            exact hown4
          clear hownW hown4 hgrow4
          go_wp2_with fail
          go_roundw
          case rel => exact ⟨k + 1, _, by omega, by go_num, rfl, HO4, hb4⟩
          case measure => simp [intOf]; omega
      · have HOS : Hid (OwnS wr w.heap.size vn T) := by
          have h := HO.out
          rw [List.take_of_length_le (by omega)] at h
          rw [HR.out]
          exact ownS_own (own_mono h hbw.size)
        go_wp2_with fail
        go_ret2
        exact ⟨⟨_, rfl, HOS.out⟩, hbwr⟩

set_option maxRecDepth 20000 in
set_option maxHeartbeats 2000000 in
theorem sUpIn_any (ri fa : Int) (v : Value) (L : List HosT) (w : World) (hr : HstRow w v L) (hl : L.length ≤ 1048576) (hx : Hid (∀ x ∈ L, x.1.length ≤ 1048576)) :
    Calls Tryd.prog 32 #[HeaV ri fa v] w fun e w' => (∃ u, e = .returned (.tuple #[u, .bool (goodH ri fa L)]) ∧ OwnS w' w.heap.size u (upT ri fa L)) ∧ Below w.heap.size w w' := by
  obtain ⟨i0, hi, hz0, hz1, hz2⟩ := info_parts info_string
  have HG : Hid (∀ W, Below w.heap.size w W → Calls Tryd.prog 20 #[HeaV ri fa v] W fun e w' => e = .returned (.bool (goodH ri fa L)) ∧ Below W.heap.size W w') := fun W hW => sGoodHealth_any ri fa v L W (hr.kept hW) hl hx
  obtain ⟨T, hT⟩ : ∃ T, T = upT ri fa L := ⟨_, rfl⟩
  have HT : Hid (T = upT ri fa L) := hT
  rw [← hT]
  unfold HeaV at HG ⊢
  obtain ⟨a, cap, rfl, hcap, hmax, HROW⟩ := hst_value hr
  have hb0 : Below w.heap.size w (w.alloc (.cells #[.int .i64 ri, .int .i64 fa, .slice a L.length cap] 26)) := (Below.refl w.heap.size w).alloc (Nat.le_refl _) _
  clear hr hT
  cases hg : goodH ri fa L with
  | false =>
    have HR : Hid (T = []) := by show T = []; rw [HT.out]; unfold upT; rw [hg]; rfl
    rw [hg] at HG
    go_enter Tryd.func32, Tryd.ntmps32
    go_wp2_with fail
    refine (HG.out _ hb0).mono ?_
    rintro e w1 ⟨rfl, hb1⟩
    have hbw := (hea_cells hb1).2
    go_wp2_with fail
    go_ret2
    exact ⟨⟨_, rfl, by rw [HR.out]; exact .inl ⟨rfl, rfl⟩⟩, hbw⟩
  | true =>
    have HR : Hid (T = upN L) := by show T = upN L; rw [HT.out]; unfold upT; rw [hg]; rfl
    rw [hg] at HG
    clear hg HT
    go_enter Tryd.func32, Tryd.ntmps32
    go_wp2_with fail
    refine (HG.out _ hb0).mono ?_
    rintro e w1 ⟨rfl, hb1⟩
    obtain ⟨⟨d0, d1, d2⟩, hbw⟩ := hea_cells hb1
    clear hb1 HG
    go_wp2_with fail
    go_loopw [4, 13] (fun nv i wr => ∃ (k : Nat) (vn : Value), k ≤ L.length ∧ i = .int .i64 (k : Int) ∧ vn = nv ∧ Hid (wr.ownsRow w1.heap.size 9 1 vn (upN (L.take k)).length ((upN (L.take k)).map S)) ∧ Below w1.heap.size w1 wr) (fun _ i _ => L.length - (intOf i).toNat)
    case atStart => exact ⟨0, _, Nat.zero_le _, rfl, rfl, World.ownsRow_nil _ _ _ _, Below.refl _ _⟩
    case round =>
      obtain ⟨k, vn, hk, rfl, rfl, HO, hb⟩ := hrel
      have hbwr := hbw.trans (hb.mono hbw.size)
      by_cases hlt : k < L.length
      · obtain ⟨b, o, ha, hbl, hcel⟩ := HROW.out (by omega)
        have hcx := (hcel k hlt).kept hbwr
        unfold HstAt at hcx
        obtain ⟨c0, c1, c2⟩ := hcx
        have hkl : (upN (L.take k)).length ≤ k := Nat.le_trans (upN_length _) (by rw [List.length_take]; omega)
        have HY : Hid ((L[k]'hlt).2.1 = true → upN (L.take (k + 1)) = upN (L.take k) ++ [(L[k]'hlt).1]) := upN_yes hlt
        have HN : Hid ((L[k]'hlt).2.1 = false → upN (L.take (k + 1)) = upN (L.take k)) := upN_no hlt
        have hxl := hx.out _ (List.getElem_mem hlt)
        obtain ⟨x, hxe⟩ : ∃ x, x = L[k]'hlt := ⟨_, rfl⟩
        rw [← hxe] at c0 c1 c2 HY HN hxl
        obtain ⟨xn, u, r⟩ := x
        simp only at c0 c1 c2 HY HN hxl
        rw [ha]
        clear hcel hxe
        cases u with
        | false =>
          have HO2 : Hid ((wr.alloc (.cells #[.string ⟨xn.toArray⟩, .bool false, .int .i64 r] 68)).ownsRow w1.heap.size 9 1 vn (upN (L.take (k + 1))).length ((upN (L.take (k + 1))).map S)) := by rw [HN.out rfl]; exact HO.out.alloc _
          have hb2 := hb.alloc hb.size (.cells #[.string ⟨xn.toArray⟩, .bool false, .int .i64 r] 68)
          clear HY HN
          go_wp2_with fail
          go_roundw
          case rel => exact ⟨k + 1, _, by omega, by go_num, rfl, HO2, hb2⟩
          case measure => simp [intOf]; omega
        | true =>
          have HSN : Hid (upN (L.take (k + 1)) = upN (L.take k) ++ [xn]) := HY.out rfl
          obtain ⟨W1, hW1⟩ : ∃ W1, W1 = wr.alloc (.cells #[.string ⟨xn.toArray⟩, .bool true, .int .i64 r] 68) := ⟨_, rfl⟩
          have hb01 : Below w1.heap.size w1 W1 := by rw [hW1]; exact hb.alloc hb.size _
          have HO1 : Hid (W1.ownsRow w1.heap.size 9 1 vn (upN (L.take k)).length ((upN (L.take k)).map S)) := by rw [hW1]; exact HO.out.alloc _
          have HW1 : Hid (wr.alloc (.cells #[.string ⟨xn.toArray⟩, .bool true, .int .i64 r] 68) = W1) := hW1.symm
          clear HY HN hW1
          have hownW := HO1.out
          have hbW0 := hb01
          have hzW := hbW0.size
          rw [← HW1.out] at hownW hbW0 hzW
          clear hb01 HO1 HO
          go_wp2_with (at_builtin; refine wpList_append_own _ rfl (.tmp 19) (.tmp 22) 22 rfl w1.heap.size 9 i0 (.string ByteArray.empty) 1 16 Tryd.underlying22 hi hz0 hz1 hz2 rfl (by decide) _ _ _ rfl (hownW.alloc _) ⟨wr.heap.size + 1, 0, none⟩ 1 1 [.string ⟨xn.toArray⟩] rfl rfl ?c1 ?c2 ?c3 ?c4 ?c5 ?_)
          case c1 => exact (by have h := cell_new_one (wr.alloc (.cells #[.string ⟨xn.toArray⟩, .bool true, .int .i64 r] 68)) (.string ⟨xn.toArray⟩) 9; simpa using h)
          case c2 => exact one_string _
          case c3 => unfold maxLen; omega
          case c4 => omega
          case c5 => simp at hzW ⊢; omega
          intro v4 w4 hown4 hgrow4 _
          have hb4 := below_append hbW0 hownW hgrow4
          have HO4 : Hid (w4.ownsRow w1.heap.size 9 1 v4 (upN (L.take (k + 1))).length ((upN (L.take (k + 1))).map S)) := by
            show w4.ownsRow w1.heap.size 9 1 v4 (upN (L.take (k + 1))).length ((upN (L.take (k + 1))).map S)
            rw [HSN.out, List.length_append, List.map_append]
            exact hown4
          clear hownW hown4 hgrow4
          go_wp2_with fail
          go_roundw
          case rel => exact ⟨k + 1, _, by omega, by go_num, rfl, HO4, hb4⟩
          case measure => simp [intOf]; omega
      · have HOS : Hid (OwnS wr w.heap.size vn T) := by
          have h := HO.out
          rw [List.take_of_length_le (by omega)] at h
          rw [HR.out]
          exact ownS_own (own_mono h hbw.size)
        go_wp2_with fail
        go_ret2
        exact ⟨⟨_, rfl, HOS.out⟩, hbwr⟩
end Go.Proofs.YtoopfmebpjojiaaDoor
