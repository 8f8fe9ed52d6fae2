import Derived.Test.YtbgkocjpenkijaaGreatDoorSMsgP
namespace Go.Proofs.YtbgkocjpenkijaaGreatDoor
open Go.RowKit

/-- No record. -/
def noRec : List UInt8 × Int × Int × List UInt8 := ([], 0, 0, [])
/-- Where the last set begins, from a place on. -/
def lessK (L : List (List UInt8 × Int × Int × List UInt8)) (z : List UInt8 × Int × Int × List UInt8) : Nat → Nat
  | 0 => 0
  | k + 1 => if (L.getD k noRec).1 = z.1 ∧ (L.getD k noRec).2.1 = z.2.1 then lessK L z k else k + 1
/-- A list without its last set. -/
def lessL (L : List (List UInt8 × Int × Int × List UInt8)) : List (List UInt8 × Int × Int × List UInt8) := L.take (lessK L (L.getD (L.length - 1) noRec) (L.length - 1))
theorem lessK_le (L : List (List UInt8 × Int × Int × List UInt8)) (z : List UInt8 × Int × Int × List UInt8) : ∀ k, lessK L z k ≤ k
  | 0 => Nat.le_refl _
  | k + 1 => by
    have := lessK_le L z k
    unfold lessK; split <;> omega
theorem lessL_lt {L : List (List UInt8 × Int × Int × List UInt8)} (h : 0 < L.length) : (lessL L).length < L.length := by
  have := lessK_le L (L.getD (L.length - 1) noRec) (L.length - 1)
  unfold lessL; rw [List.length_take]; omega
theorem lessL_mem {L : List (List UInt8 × Int × Int × List UInt8)} {x : List UInt8 × Int × Int × List UInt8} (h : x ∈ lessL L) : x ∈ L := List.mem_of_mem_take h
theorem lessK_go {L : List (List UInt8 × Int × Int × List UInt8)} {z : List UInt8 × Int × Int × List UInt8} {k : Nat} (hk : k < L.length) (h1 : L[k].1 = z.1) (h2 : L[k].2.1 = z.2.1) : lessK L z (k + 1) = lessK L z k := by
  rw [lessK, if_pos]
  rw [List.getD_eq_getElem?_getD, List.getElem?_eq_getElem hk]; exact ⟨h1, h2⟩
theorem lessK_stop {L : List (List UInt8 × Int × Int × List UInt8)} {z : List UInt8 × Int × Int × List UInt8} {k : Nat} (hk : k < L.length) (h : ¬ (L[k].1 = z.1 ∧ L[k].2.1 = z.2.1)) : lessK L z (k + 1) = k + 1 := by
  rw [lessK, if_neg]
  rw [List.getD_eq_getElem?_getD, List.getElem?_eq_getElem hk]; exact h

theorem some_nil' (b o n m : Nat) : ∀ n' c, Value.slice (some ⟨b, o, none⟩) n m = .slice none n' c → c = 0 := fun n' c h => by cases h

set_option maxRecDepth 20000 in
set_option maxHeartbeats 4000000 in
theorem l4Less_any (v : Value) (L : List (List UInt8 × Int × Int × List UInt8)) (w : World) (hr : RRow w v L) (h0 : 0 < L.length) (hL : L.length ≤ 1048576) :
    Calls Tryz.prog 41 #[v] w fun e w' => ∃ u, e = .returned u ∧ OwnQ w' w.heap.size u (lessL L) ∧ Below w.heap.size w w' := by
  have HR : Hid (RRow w v L) := hr
  obtain ⟨a, cap, rfl, hcap, hmax, hrow⟩ := hr
  rcases hrow with hrow | ⟨b, o, rfl, hbl, hcel⟩
  · rw [hrow] at h0; simp at h0
  · have HCEL : Hid (∀ j, (hj : j < L.length) → RecAt w b (o + j * 4) L[j]) := hcel
    obtain ⟨n, hn⟩ : ∃ n, n = L.length - 1 := ⟨_, rfl⟩
    obtain ⟨N, hN⟩ : ∃ N, N = L.length := ⟨_, rfl⟩
    have hnN : N = n + 1 := by omega
    have hnl : n < L.length := by omega
    obtain ⟨z, hz⟩ : ∃ z, z = L[n]'hnl := ⟨_, rfl⟩
    have HZ : Hid (L.getD (L.length - 1) noRec = z) := by rw [hz, ← hn, List.getD_eq_getElem?_getD, List.getElem?_eq_getElem hnl]; exact rfl
    have HLL : Hid (lessL L = L.take (lessK L z n)) := by unfold lessL; rw [HZ.out, ← hn]; exact rfl
    obtain ⟨z0, z1, z2, z3⟩ := hcel n hnl
    rw [← hz] at z0 z1 z2 z3
    obtain ⟨zn, zt, zl, zd⟩ := z
    simp only at z0 z1 z2 z3
    unfold maxLen at hmax
    have HNN : Hid (L.length = n + 1) := (by omega : L.length = n + 1)
    have HRT : Hid (∀ k, k ≤ n → RRow w (.slice (some ⟨b, o, none⟩) k cap) (L.take k)) := fun k hk => by
      have hl : (L.take k).length = k := by rw [List.length_take]; omega
      refine ⟨_, cap, by rw [hl], by rw [hl]; omega, by unfold maxLen; omega, .inr ⟨b, o, rfl, hbl, fun j hj => ?_⟩⟩
      have := hcel j (by rw [hl] at hj; omega)
      rw [List.getElem_take]; exact this
    rw [hN.symm, hnN]
    clear hcel hz hn hN hnN
    go_enter Tryz.func41, Tryz.ntmps41
    go_wp2_with fail
    go_loopw [4] (fun i wr => ∃ k : Nat, k ≤ n ∧ i = .int .i64 (k : Int) ∧ Hid (lessK L (zn, zt, zl, zd) n = lessK L (zn, zt, zl, zd) k) ∧ Below w.heap.size w wr) (fun i _ => (intOf i).toNat)
    case atStart => exact ⟨n, Nat.le_refl _, by simp, rfl, Below.refl _ _⟩
    case round =>
      obtain ⟨k, hk, rfl, HK, hb⟩ := hrel
      cases k with
      | zero =>
        have HE : Hid (lessL L = []) := by rw [HLL.out, HK.out]; exact rfl
        go_wp2_with fail
        go_region
        all_goals
          go_wp2_with fail
          go_ret
          exact ⟨_, rfl, by rw [HE.out]; exact own_q (own_lit wr w.heap.size hb.size), (hb.alloc hb.size _).drew⟩
      | succ k =>
        have hkl : k < L.length := by omega
        have HM := (HCEL.out k hkl).kept hb
        have y0 := z0
        have y1 := z1
        rw [← hb.cell (p := ⟨b, o + n * 4, none⟩) hbl] at y0
        rw [← hb.cell (p := ⟨b, o + n * 4 + 1, none⟩) hbl] at y1
        have HGO : Hid ((L[k]'hkl).1 = zn → (L[k]'hkl).2.1 = zt → lessK L (zn, zt, zl, zd) (k + 1) = lessK L (zn, zt, zl, zd) k) := fun h1 h2 => lessK_go hkl h1 h2
        have HSTOP : Hid (¬ ((L[k]'hkl).1 = zn ∧ (L[k]'hkl).2.1 = zt) → lessL L = L.take (k + 1)) := fun h => by rw [HLL.out, HK.out, lessK_stop hkl h]
        have HRK : Hid (RRow wr (.slice (some ⟨b, o, none⟩) (k + 1) cap) (L.take (k + 1))) := (HRT.out (k + 1) hk).kept hb
        have hll : (L.take (k + 1)).length = k + 1 := by rw [List.length_take]; omega
        obtain ⟨x, hx⟩ : ∃ x, x = L[k]'hkl := ⟨_, rfl⟩
        rw [← hx] at HM HGO HSTOP
        clear hx
        obtain ⟨xn, xt, xl, xd⟩ := x
        obtain ⟨m0, m1, m2, m3⟩ := HM
        simp only at m0 m1 m2 m3 HGO HSTOP
        have hkc : (k : Int) + 1 ≤ (cap : Int) := by omega
        have hbs := hb.size
        by_cases h1 : xn = zn
        · subst h1
          by_cases h2 : xt = zt
          · subst h2
            have HK2 : Hid (lessK L (xn, xt, zl, zd) n = lessK L (xn, xt, zl, zd) k) := by rw [HK.out]; exact HGO.out rfl rfl
            clear HGO HSTOP
            go_wp2_with fail
            go_region
            all_goals
              go_wp2_with fail
              go_roundw
              case rel => exact ⟨k, by omega, by go_num, HK2, hb.drew⟩
              case measure => simp [intOf]
          · have HE : Hid (lessL L = L.take (k + 1)) := HSTOP.out (fun h => h2 h.2)
            have e2 : (xt == zt) = false := by simpa using h2
            clear HGO HSTOP
            go_wp2_with fail
            go_region
            all_goals
              go_wp2_with (first | (at_builtin; refine wpList_append_rows rfl (.tmp 41) (.tmp 44) 23 rfl Tryz.underlying23 w.heap.size _ 0 [] rfl rfl (own_lit' _ _ _ (by simp) ?b1) _ (L.take (k + 1)) rfl (HRK.out.kept ((Below.refl _ wr).drew.alloc (Nat.le_refl _) _)) (some_nil' _ _ _ _) ?b3 ?b4 ?_))
              case b1 => exact hbs
              case b3 => omega
              case b4 => simp; omega
              intro v' w' hown hgrow
              have HO : Hid (OwnQ w' w.heap.size v' (lessL L)) := by
                show OwnQ w' w.heap.size v' (lessL L)
                rw [HE.out]; exact own_q (by rw [hll]; exact hown)
              have hbw : Below w.heap.size w w' := (hb.alloc hbs _).drew.grown hgrow (by simp; omega) (fun j hj => by simp [Value.ownBlock] at hj; omega)
              clear hown hgrow
              go_wp2_with fail
              go_ret
              exact ⟨_, rfl, HO.out, hbw⟩
        · have HE : Hid (lessL L = L.take (k + 1)) := HSTOP.out (fun h => h1 h.1)
          have e2 : (xn == zn) = false := by simpa using h1
          have e3 : ((⟨xn.toArray⟩ : ByteArray).toList == (⟨zn.toArray⟩ : ByteArray).toList) = false := by rw [ByteArray.toList_eq, ByteArray.toList_eq]; simpa using h1
          clear HGO HSTOP
          go_wp2_with fail
          go_region
          all_goals
            go_wp2_with (first | (at_builtin; refine wpList_append_rows rfl (.tmp 41) (.tmp 44) 23 rfl Tryz.underlying23 w.heap.size _ 0 [] rfl rfl (own_lit' _ _ _ (by simp) ?b1) _ (L.take (k + 1)) rfl (HRK.out.kept ((Below.refl _ wr).drew.alloc (Nat.le_refl _) _)) (some_nil' _ _ _ _) ?b3 ?b4 ?_))
            case b1 => exact hbs
            case b3 => omega
            case b4 => simp; omega
            intro v' w' hown hgrow
            have HO : Hid (OwnQ w' w.heap.size v' (lessL L)) := by
              show OwnQ w' w.heap.size v' (lessL L)
              rw [HE.out]; exact own_q (by rw [hll]; exact hown)
            have hbw : Below w.heap.size w w' := (hb.alloc hbs _).drew.grown hgrow (by simp; omega) (fun j hj => by simp [Value.ownBlock] at hj; omega)
            clear hown hgrow
            go_wp2_with fail
            go_ret
            exact ⟨_, rfl, HO.out, hbw⟩
end Go.Proofs.YtbgkocjpenkijaaGreatDoor
