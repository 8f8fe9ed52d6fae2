import Derived.Test.YtjbmnghcfmbjeaaNewS
namespace Go.Proofs.Ytjbmnghcfmbjeaa
open Go.RowKit

/-- Serials in a block of the call's own. -/
theorem z32_own {w : World} {base : Nat} {v : Value} {zs : List Int} (h : w.ownsRow base 47 1 v zs.length (zs.map (Value.int .u32))) : ZRow .u32 w v zs := by
  have h0 := h
  obtain ⟨_, ⟨rfl, hn⟩ | ⟨g, cap, cur, rfl, hg, hh, hc, hm, hs, hx⟩⟩ := h
  · obtain rfl : zs = [] := List.length_eq_zero_iff.1 hn
    exact zrow_nil .u32 w
  · exact ⟨_, cap, rfl, hc, hm, .inr ⟨g, 0, rfl, (h0.lt g rfl).2, fun j hj => by rw [Nat.zero_add, h0.cellAt j (by omega), List.getElem?_map, List.getElem?_eq_getElem hj]; rfl⟩⟩
theorem cell_one (w : World) (x : Value) (t : TypeId) : ∀ j u, [x][j]? = some u → (w.alloc (.cells #[x] t)).cell? ((⟨w.heap.size, 0, none⟩ : Addr).add j) = some u := by
  intro j u hj
  match j, hj with
  | 0, hj => simp at hj; subst hj; simp [Addr.add]
theorem one_u32 (n : Int) : ∀ u ∈ [Value.int .u32 n], u.oneCell' = true := by
  intro u hu; simp at hu; subst hu; rfl
theorem below_append {w wr w1 : World} {v : Value} {e : TypeId} {n : Nat} {xs : List Value} {o : Obj} (hb : Below w.heap.size w wr) (hown : wr.ownsRow w.heap.size e 1 v n xs) (hgrow : (wr.alloc o).grownBy w1 v.ownBlock) : Below w.heap.size w w1 :=
  (hb.alloc hb.size o).grown hgrow (by have := hb.size; simp; omega) (fun k hk => (hown.lt k hk).1)

set_option maxRecDepth 20000 in
set_option maxHeartbeats 1000000 in
theorem serialsIn_any (v : Value) (L : List Int) (w : World) (hr : ZRow .i64 w v L) (hl : L.length ≤ 20) :
    Calls Try.prog 46 #[v] w fun e w' => (L.all serB = false → e = .returned (.tuple #[.slice none 0 0, .bool false])) ∧ (L.all serB = true → ∃ u, e = .returned (.tuple #[u, .bool true]) ∧ ZRow .u32 w' u L) ∧ Below w.heap.size w w' := by
  obtain ⟨i0, hi, hz0, hz1, hz2⟩ := info_parts info_u32
  obtain ⟨a, cap, rfl, hcap, hmax, HROW⟩ := zrow_value hr
  clear hr
  go_enter Try.func46, Try.ntmps46
  go_wp2_with (at_make; refine wpList_make_own _ rfl _ _ 53 rfl w.heap.size 47 i0 (.int .u32 0) 1 Try.underlying53 hi hz0 hz1 _ _ _ L.length rfl rfl rfl ?b2 ?b3 ?b4 ?_)
  case b2 => rw [hz2]; omega
  case b3 => unfold maxLen; omega
  case b4 => exact Nat.le_refl _
  intro w1 hown hgrow
  have hb1 : Below w.heap.size w w1 := (Below.refl _ _).grown hgrow (Nat.le_refl _) (fun k h => by cases h)
  have HO : Hid (w1.ownsRow w.heap.size 47 1 (.slice (some ⟨w.heap.size, 0, none⟩) 0 L.length) (L.take 0).length ((L.take 0).map (Value.int .u32))) := hown
  clear hown hgrow
  go_wp2_with fail
  go_loopw [4, 12] (fun vv i wr => ∃ (k : Nat) (u : Value), k ≤ L.length ∧ i = .int .i64 (k : Int) ∧ u = vv ∧ Hid ((L.take k).all serB = true) ∧ Hid (wr.ownsRow w.heap.size 47 1 u (L.take k).length ((L.take k).map (Value.int .u32))) ∧ Below w.heap.size w wr) (fun _ i _ => L.length - (intOf i).toNat)
  case atStart => exact ⟨0, _, Nat.zero_le _, rfl, rfl, rfl, HO, hb1⟩
  case round =>
    obtain ⟨k, u, hk, rfl, rfl, HA, HK, hb⟩ := hrel
    clear HO hb1
    have hbz := hb.size
    have HLK : Hid ((L.take k).length = k) := by rw [List.length_take]; exact Nat.min_eq_left hk
    by_cases hlt : k < L.length
    · obtain ⟨b, o, ha, hbl, hc⟩ := HROW.out (by omega)
      rw [ha]
      have hcx := hc k hlt
      rw [← hb.cell (p := ⟨b, o + k, none⟩) hbl] at hcx
      have HN : Hid ((L.take (k + 1)).all serB = ((L.take k).all serB && serB (L[k]'hlt))) := all_on hlt
      have HT : Hid (L.take (k + 1) = L.take k ++ [L[k]'hlt]) := List.take_succ_eq_append_getElem hlt
      have HBAD : Hid (serB (L[k]'hlt) = false → L.all serB = false) := fun h => by
        rw [Bool.eq_false_iff]; intro h2
        have h3 := List.all_eq_true.1 h2 _ (List.getElem_mem hlt)
        rw [h] at h3; cases h3
      obtain ⟨x, hx⟩ : ∃ x, x = L[k]'hlt := ⟨_, rfl⟩
      rw [← hx] at hcx HN HBAD HT
      clear hc hx
      cases hs : serB x with
      | false =>
        have HB := HBAD.out hs
        go_wp2_with fail
        refine (isSerial_any _ _).mono ?_
        rintro e w2 ⟨rfl, rfl⟩
        rw [hs]
        go_wp2_with fail
        go_ret2
        exact ⟨fun _ => rfl, fun h => (by rw [HB] at h; cases h), hb⟩
      | true =>
        have hxi := ser_in hs
        go_wp2_with fail
        refine (isSerial_any _ _).mono ?_
        rintro e w2 ⟨rfl, rfl⟩
        rw [hs]
        have hown := HK.out
        rw [HLK.out] at hown
        go_wp2_with (at_builtin; refine wpList_append_own _ rfl (.tmp 19) (.tmp 22) 53 rfl w.heap.size 47 i0 (.int .u32 0) 1 4 Try.underlying53 hi hz0 hz1 hz2 rfl (by decide) _ _ _ rfl (hown.alloc _) ⟨w2.heap.size, 0, none⟩ 1 1 [.int .u32 x] rfl rfl ?c1 ?c2 ?c3 ?c4 ?c5 ?_)
        case c1 => exact cell_one _ _ _
        case c2 => exact one_u32 _
        case c3 => unfold maxLen; omega
        case c4 => omega
        case c5 => simp; omega
        intro v4 w4 hown4 hgrow4 _
        have hb4 := below_append hb hown hgrow4
        have HO4 : Hid (w4.ownsRow w.heap.size 47 1 v4 (L.take (k + 1)).length ((L.take (k + 1)).map (Value.int .u32))) := by
          have e : (L.take k ++ [x]).length = k + 1 := by rw [List.length_append, HLK.out]; rfl
          have h : w4.ownsRow w.heap.size 47 1 v4 (k + 1) ((L.take k ++ [x]).map (Value.int .u32)) := by rw [List.map_append, List.map_take]; exact hown4
          rw [HT.out, e]; exact h
        clear hown hown4 hgrow4
        go_wp2_with fail
        go_roundw
        case rel => exact ⟨k + 1, v4, by omega, by go_num, rfl, by show _ = true; rw [HN.out, HA.out, hs]; rfl, HO4, hb4⟩
        case measure => simp [intOf]; omega
    · have HALL : Hid (L.all serB = true) := by have := HA.out; rw [List.take_of_length_le (by omega)] at this; exact this
      have HROWS : Hid (ZRow .u32 wr u L) := by have := HK.out; rw [List.take_of_length_le (by omega)] at this; exact z32_own this
      go_wp2_with fail
      go_ret2
      exact ⟨fun h => (by rw [HALL.out] at h; cases h), fun _ => ⟨_, rfl, HROWS.out⟩, hb⟩

set_option maxRecDepth 20000 in
set_option maxHeartbeats 1000000 in
theorem isNewest_any (n : Int) (v : Value) (L : List Int) (w : World) (hr : ZRow .u32 w v L) (hl : L.length ≤ 20) :
    Calls Try.prog 47 #[.int .u32 n, v] w fun e w' => e = .returned (.bool (nwB L n)) ∧ w' = w := by
  obtain ⟨a, cap, rfl, hcap, hmax, HROW⟩ := zrow_value hr
  clear hr
  go_enter Try.func47, Try.ntmps47
  go_wp2_with fail
  go_loopw [11] (fun i wr => ∃ k : Nat, k ≤ L.length ∧ i = .int .i64 (k : Int) ∧ Hid ((L.take k).all (okB n) = true) ∧ wr = w) (fun i _ => L.length - (intOf i).toNat)
  case atStart => exact ⟨0, Nat.zero_le _, rfl, rfl, rfl⟩
  case round =>
    obtain ⟨k, hk, rfl, HA, rfl⟩ := hrel
    by_cases hlt : k < L.length
    · obtain ⟨b, o, ha, hbl, hc⟩ := HROW.out (by omega)
      rw [ha]
      have hcx := hc k hlt
      have HN : Hid ((L.take (k + 1)).all (okB n) = ((L.take k).all (okB n) && okB n (L[k]'hlt))) := all_on hlt
      have HBAD : Hid (okB n (L[k]'hlt) = false → nwB L n = false) := fun h => by
        rw [Bool.eq_false_iff]; intro h2
        have h3 := List.all_eq_true.1 h2 _ (List.getElem_mem hlt)
        rw [h] at h3; cases h3
      obtain ⟨x, hx⟩ : ∃ x, x = L[k]'hlt := ⟨_, rfl⟩
      rw [← hx] at hcx HN HBAD
      clear hc hx
      have HOK : Hid (okB n x = (tldB n x && !newB n x)) := rfl
      cases hnn : newB n x with
      | true =>
        have HB := HBAD.out (by rw [HOK.out, hnn]; cases tldB n x <;> rfl)
        go_wp2_with fail
        refine (isNewer_any _ _ _).mono ?_
        rintro e w2 ⟨rfl, rfl⟩
        rw [hnn]
        go_wp2_with fail
        go_ret
        exact ⟨ret_bool HB.symm, rfl⟩
      | false =>
        cases htt : tldB n x with
        | false =>
          have HB := HBAD.out (by rw [HOK.out, htt]; rfl)
          go_wp2_with fail
          refine (isNewer_any _ _ _).mono ?_
          rintro e w2 ⟨rfl, rfl⟩
          rw [hnn, htt]
          go_wp2_with fail
          go_ret
          exact ⟨ret_bool HB.symm, rfl⟩
        | true =>
          go_wp2_with fail
          refine (isNewer_any _ _ _).mono ?_
          rintro e w2 ⟨rfl, rfl⟩
          rw [hnn, htt]
          go_wp2_with fail
          go_roundw
          case rel => exact ⟨k + 1, by omega, by go_num, by show _ = true; rw [HN.out, HA.out, HOK.out, hnn, htt]; rfl, by trivial⟩
          case measure => simp [intOf]; omega
    · have HALL : Hid (nwB L n = true) := by have := HA.out; rw [List.take_of_length_le (by omega)] at this; exact this
      go_wp2_with fail
      go_ret
      exact ⟨ret_bool HALL.out.symm, rfl⟩

set_option maxRecDepth 20000 in
set_option maxHeartbeats 1000000 in
theorem iNewestOf_any (v : Value) (L : List Int) (w : World) (hr : ZRow .i64 w v L) :
    Calls Try.prog 27 #[v] w fun e w' => e = .returned (nwV L) ∧ Below w.heap.size w w' := by
  have HR0 : Hid (ZRow .i64 w v L) := hr
  obtain ⟨a, cap, rfl, hcap, hmax, _⟩ := zrow_value hr
  clear hr
  cases h1 : inB (L.length : Int) 1 20 with
  | false =>
    go_enter Try.func27, Try.ntmps27
    go_wp2_with fail
    refine (iWithin_any _ _ _ _).mono ?_
    rintro e w1 ⟨rfl, rfl⟩
    rw [h1]
    go_wp2_with fail
    go_ret2
    exact ⟨nw_ret (o := none) (nw_len h1), Below.refl _ _⟩
  | true =>
    have hl : L.length ≤ 20 := by
      have : 1 ≤ (L.length : Int) ∧ (L.length : Int) ≤ 20 := by simpa [inB] using h1
      omega
    have H1 : Hid (inB (L.length : Int) 1 20 = true) := h1
    go_enter Try.func27, Try.ntmps27
    go_wp2_with fail
    refine (iWithin_any _ _ _ _).mono ?_
    rintro e w1 ⟨rfl, rfl⟩
    rw [h1]
    clear h1
    go_wp2_with fail
    refine (serialsIn_any _ L _ HR0.out hl).mono ?_
    rintro e w2 ⟨hf, ht, hb⟩
    cases hall : L.all serB with
    | false =>
      obtain rfl := hf hall
      have HN : Hid (nwO L = none) := by show _ = none; unfold nwO; rw [hall]; simp
      clear ht hf hall
      go_wp2_with fail
      go_ret2
      exact ⟨nw_ret (o := none) HN.out, hb⟩
    | true =>
      obtain ⟨u, rfl, hru⟩ := ht hall
      have HF : Hid (nwO L = L.find? (nwB L)) := nw_find H1.out hall
      have HALL : Hid (L.all serB = true) := hall
      clear ht hf hall
      have HRU : Hid (ZRow .u32 w2 u L) := hru
      obtain ⟨a2, cap2, rfl, hcap2, hmax2, HROW⟩ := zrow_value hru
      clear hru
      go_wp2_with fail
      go_loopw [21] (fun i wr => ∃ k : Nat, k ≤ L.length ∧ i = .int .i64 (k : Int) ∧ Hid ((L.take k).find? (nwB L) = none) ∧ wr = w2) (fun i _ => L.length - (intOf i).toNat)
      case atStart => exact ⟨0, Nat.zero_le _, rfl, rfl, rfl⟩
      case round =>
        obtain ⟨k, hk, rfl, HA, rfl⟩ := hrel
        by_cases hlt : k < L.length
        · obtain ⟨b, o, ha, hbl, hc⟩ := HROW.out (by omega)
          have HHIT : Hid (nwB L (L[k]'hlt) = true → nwO L = some (L[k]'hlt)) := fun h => HF.out.trans (find_at hlt HA.out h)
          have HON : Hid (nwB L (L[k]'hlt) = false → (L.take (k + 1)).find? (nwB L) = none) := find_on hlt HA.out
          have HSX : Hid (serB (L[k]'hlt) = true) := List.all_eq_true.1 HALL.out _ (List.getElem_mem hlt)
          have hcx := hc k hlt
          rw [ha]
          have HRX := HRU
          rw [ha] at HRX
          obtain ⟨x, hx⟩ : ∃ x, x = L[k]'hlt := ⟨_, rfl⟩
          rw [← hx] at hcx HHIT HON HSX
          have hxi := ser_in HSX.out
          clear hc hx
          cases hq : nwB L x with
          | true =>
            have HR := HHIT.out hq
            go_wp2_with fail
            refine (isNewest_any _ _ L _ HRX.out hl).mono ?_
            rintro e w3 ⟨rfl, rfl⟩
            rw [hq]
            go_wp2_with fail
            go_ret2
            exact ⟨nw_ret HR, hb⟩
          | false =>
            have HR : Hid ((L.take (k + 1)).find? (nwB L) = none) := HON.out hq
            go_wp2_with fail
            refine (isNewest_any _ _ L _ HRX.out hl).mono ?_
            rintro e w3 ⟨rfl, rfl⟩
            rw [hq]
            go_wp2_with fail
            go_roundw
            case rel => exact ⟨k + 1, by omega, by go_num, HR, by trivial⟩
            case measure => simp [intOf]; omega
        · have HR : Hid (nwO L = none) := by have := HA.out; rw [List.take_of_length_le (by omega)] at this; show _ = _; rw [HF.out, this]
          go_wp2_with fail
          go_ret2
          exact ⟨nw_ret (o := none) HR.out, hb⟩
end Go.Proofs.Ytjbmnghcfmbjeaa
