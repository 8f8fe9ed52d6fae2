import Derived.Test.YtoanloballaclaaGreatDoorZ21
import Derived.Test.YtoanloballaclaaGreatDoorZ24
namespace Go.Proofs.YtoanloballaclaaGreatDoor
open Go.RowKit

theorem pol_box {w W : World} {a b : Value} {t : TypeId} (hb : Below (w.alloc (.cells #[a, b] t)).heap.size (w.alloc (.cells #[a, b] t)) W) :
    (W.cell? ⟨w.heap.size, 0, none⟩ = some a ∧ W.cell? ⟨w.heap.size, 1, none⟩ = some b) ∧ Below w.heap.size w W :=
  ⟨(pol_cells (tgt_below hb).1).1, (tgt_below hb).2⟩

set_option maxRecDepth 20000 in
set_option maxHeartbeats 1000000 in
theorem isTarget_any (xh xd : List UInt8) (xg xk : Int) (w : World) (hd : xd.length ≤ 1048576) (hE : EnvR w) :
    Calls Tryz.prog 82 #[.agg #[.string ⟨xh.toArray⟩, .string ⟨xd.toArray⟩, .int .i64 xg, .int .i64 xk]] w fun e w' => e = .returned (.bool (tgtB (xh, xd, xg, xk))) ∧ Below w.heap.size w w' := by
  have HGN : Hid (∀ W, Below w.heap.size w W → Calls Tryz.prog 81 #[.string ⟨xh.toArray⟩] W fun e w' => e = .returned (.bool (nameB xh)) ∧ Below W.heap.size W w') := fun W hW => by
    have h := iGoodName_any ⟨xh.toArray⟩ W (hE.below hW).1
    simpa using h
  have HPD : Hid (∀ W, Below w.heap.size w W → Calls Tryz.prog 103 #[.int .i64 1, .string ⟨xd.toArray⟩] W fun e w' => (∃ v, e = .returned (.tuple #[v, .bool (dataP 1 xd).isSome])) ∧ Below W.heap.size W w') := fun W hW => (parseData_any 1 ⟨xd.toArray⟩ W (by rw [size_list]; exact hd) (hE.below hW)).mono fun e w' h => by
    obtain ⟨v, h1, _, h3⟩ := h
    exact ⟨⟨v, by simpa using h1⟩, h3⟩
  have HIG : Hid (∀ W, Calls Tryz.prog 50 #[.int .i64 xg, .int .i64 0, .int .i64 9] W fun e w' => e = .returned (.bool (inB xg 0 9)) ∧ w' = W) := fun W => iWithin_any xg 0 9 W
  have HIK : Hid (∀ W, Calls Tryz.prog 50 #[.int .i64 xk, .int .i64 1, .int .i64 50] W fun e w' => e = .returned (.bool (inB xk 1 50)) ∧ w' = W) := fun W => iWithin_any xk 1 50 W
  have hb0 : Below w.heap.size w (w.alloc (.cells #[.string ⟨xh.toArray⟩, .string ⟨xd.toArray⟩, .int .i64 xg, .int .i64 xk] 79)) := (Below.refl _ _).alloc (Nat.le_refl _) _
  obtain ⟨good, hgood⟩ : ∃ good, good = tgtB (xh, xd, xg, xk) := ⟨_, rfl⟩
  have HGD : Hid (good = ((dataP 1 xd).isSome && nameB xh && inB xg 0 9 && inB xk 1 50)) := hgood
  rw [← hgood]
  obtain ⟨dk, hdk⟩ : ∃ dk, dk = (dataP 1 xd).isSome := ⟨_, rfl⟩
  rw [← hdk] at HPD HGD
  clear hgood hdk
  cases hN : nameB xh with
  | false =>
    have HR : Hid (false = good) := by show _ = _; rw [HGD.out, hN]; simp
    rw [hN] at HGN
    clear hN
    go_enter Tryz.func82, Tryz.ntmps82
    go_wp2_with fail
    refine (HGN.out _ hb0).mono ?_
    rintro e w1 ⟨rfl, hb1⟩
    have hbw := (box4 hb1).2.2.2.2
    go_wp2_with fail
    go_ret
    exact ⟨ret_bool HR.out, hbw⟩
  | true =>
    rw [hN] at HGN HGD
    clear hN
    cases hG : inB xg 0 9 with
    | false =>
      have HR : Hid (false = good) := by show _ = _; rw [HGD.out, hG]; simp
      rw [hG] at HIG
      clear hG
      go_enter Tryz.func82, Tryz.ntmps82
      go_wp2_with fail
      refine (HGN.out _ hb0).mono ?_
      rintro e w1 ⟨rfl, hb1⟩
      obtain ⟨c0, c1, c2, c3, hbw⟩ := box4 hb1
      clear hb1
      go_wp2_with fail
      refine (HIG.out _).mono ?_
      rintro e w2 ⟨rfl, rfl⟩
      go_wp2_with fail
      go_ret
      exact ⟨ret_bool HR.out, hbw⟩
    | true =>
      rw [hG] at HIG HGD
      clear hG
      cases hK : inB xk 1 50 with
      | false =>
        have HR : Hid (false = good) := by show _ = _; rw [HGD.out, hK]; simp
        rw [hK] at HIK
        clear hK
        go_enter Tryz.func82, Tryz.ntmps82
        go_wp2_with fail
        refine (HGN.out _ hb0).mono ?_
        rintro e w1 ⟨rfl, hb1⟩
        obtain ⟨c0, c1, c2, c3, hbw⟩ := box4 hb1
        clear hb1
        go_wp2_with fail
        refine (HIG.out _).mono ?_
        rintro e w2 ⟨rfl, rfl⟩
        go_wp2_with fail
        refine (HIK.out _).mono ?_
        rintro e w2 ⟨rfl, rfl⟩
        go_wp2_with fail
        go_ret
        exact ⟨ret_bool HR.out, hbw⟩
      | true =>
        have HR : Hid (dk = good) := by show _ = _; rw [HGD.out, hK]; simp
        rw [hK] at HIK
        clear hK
        go_enter Tryz.func82, Tryz.ntmps82
        go_wp2_with fail
        refine (HGN.out _ hb0).mono ?_
        rintro e w1 ⟨rfl, hb1⟩
        obtain ⟨c0, c1, c2, c3, hbw⟩ := box4 hb1
        clear hb1
        go_wp2_with fail
        refine (HIG.out _).mono ?_
        rintro e w2 ⟨rfl, rfl⟩
        go_wp2_with fail
        refine (HIK.out _).mono ?_
        rintro e w2 ⟨rfl, rfl⟩
        go_wp2_with fail
        refine (HPD.out _ hbw).mono ?_
        rintro e w3 ⟨⟨v, rfl⟩, hb3⟩
        have hbw3 := hbw.trans (hb3.mono hbw.size)
        clear c0 c1 c2 c3
        go_wp2_with fail
        go_ret
        exact ⟨ret_bool HR.out, hbw3⟩

set_option maxRecDepth 20000 in
set_option maxHeartbeats 2000000 in
theorem iGoodPolicy_any (n : List UInt8) (v : Value) (L : List TgtT) (w : World) (hr : TgtRow w v L) (hl : L.length ≤ 1048576) (hx : Hid (∀ x ∈ L, x.1.length ≤ 1048576 ∧ x.2.1.length ≤ 1048576)) (hE : EnvR w) :
    Calls Tryz.prog 55 #[PolV ⟨n.toArray⟩ v] w fun e w' => e = .returned (.bool (polB n L)) ∧ Below w.heap.size w w' := by
  have HGN : Hid (∀ W, Below w.heap.size w W → Calls Tryz.prog 81 #[.string ⟨n.toArray⟩] W fun e w' => e = .returned (.bool (nameB n)) ∧ Below W.heap.size W w') := fun W hW => by
    have h := iGoodName_any ⟨n.toArray⟩ W (hE.below hW).1
    simpa using h
  have HIL : Hid (∀ W, Calls Tryz.prog 50 #[.int .i64 (L.length : Int), .int .i64 1, .int .i64 12] W fun e w' => e = .returned (.bool (inB (L.length : Int) 1 12)) ∧ w' = W) := fun W => iWithin_any _ 1 12 W
  have HIT : Hid (∀ x W, x ∈ L → Below w.heap.size w W → Calls Tryz.prog 82 #[.agg #[.string ⟨x.1.toArray⟩, .string ⟨x.2.1.toArray⟩, .int .i64 x.2.2.1, .int .i64 x.2.2.2]] W fun e w' => e = .returned (.bool (tgtB x)) ∧ Below W.heap.size W w') := fun x W hm hW => isTarget_any x.1 x.2.1 x.2.2.1 x.2.2.2 W (hx.out x hm).2 (hE.below hW)
  unfold PolV
  obtain ⟨good, hgood⟩ : ∃ good, good = polB n L := ⟨_, rfl⟩
  have HGD : Hid (good = polB n L) := hgood
  rw [← hgood]
  obtain ⟨a, cap, rfl, hcap, hmax, HROW⟩ := tgt_value hr
  have hb0 : Below w.heap.size w (w.alloc (.cells #[.string ⟨n.toArray⟩, .slice a L.length cap] 34)) := (Below.refl w.heap.size w).alloc (Nat.le_refl _) _
  clear hr hgood
  cases hN : nameB n with
  | false =>
    have HR : Hid (false = good) := by show _ = _; rw [HGD.out, pol_name hN]
    rw [hN] at HGN
    clear hN
    go_enter Tryz.func55, Tryz.ntmps55
    go_wp2_with fail
    refine (HGN.out _ hb0).mono ?_
    rintro e w1 ⟨rfl, hb1⟩
    have hbw := (pol_box hb1).2
    go_wp2_with fail
    go_ret
    exact ⟨ret_bool HR.out, hbw⟩
  | true =>
    rw [hN] at HGN
    cases hI : inB (L.length : Int) 1 12 with
    | false =>
      have HR : Hid (false = good) := by show _ = _; rw [HGD.out, pol_len hI]
      rw [hI] at HIL
      clear hN hI
      go_enter Tryz.func55, Tryz.ntmps55
      go_wp2_with fail
      refine (HGN.out _ hb0).mono ?_
      rintro e w1 ⟨rfl, hb1⟩
      obtain ⟨⟨c0, c1⟩, hbw⟩ := pol_box hb1
      clear hb1
      go_wp2_with fail
      refine (HIL.out _).mono ?_
      rintro e w2 ⟨rfl, rfl⟩
      go_wp2_with fail
      go_ret
      exact ⟨ret_bool HR.out, hbw⟩
    | true =>
      have HALL : Hid (L.all tgtB = true → true = good) := fun h => by rw [HGD.out, pol_all h, hN, hI]; rfl
      have HBAD : Hid (∀ k, (hk : k < L.length) → tgtB L[k] = false → false = good) := fun k hk h => by rw [HGD.out, pol_bad hk h]
      rw [hI] at HIL
      clear hN hI HGD
      go_enter Tryz.func55, Tryz.ntmps55
      go_wp2_with fail
      refine (HGN.out _ hb0).mono ?_
      rintro e w1 ⟨rfl, hb1⟩
      obtain ⟨⟨c0, c1⟩, hbw⟩ := pol_box hb1
      clear hb1
      go_wp2_with fail
      refine (HIL.out _).mono ?_
      rintro e w2 ⟨rfl, rfl⟩
      go_wp2_with fail
      go_loopw [19] (fun i wr => ∃ k : Nat, k ≤ L.length ∧ i = .int .i64 (k : Int) ∧ Hid (∀ j, (hj : j < L.length) → j < k → tgtB L[j] = true) ∧ Below w.heap.size w wr) (fun i _ => L.length - (intOf i).toNat)
      case atStart => exact ⟨0, Nat.zero_le _, rfl, fun j _ h => absurd h (Nat.not_lt_zero _), hbw⟩
      case round =>
        obtain ⟨k, hk, rfl, HK, hb⟩ := hrel
        clear hbw c0 c1
        by_cases hlt : k < L.length
        · obtain ⟨b, o, ha, hbl, hcel⟩ := HROW.out (by omega)
          have hcx := (hcel k hlt).kept hb
          unfold TgtAt at hcx
          obtain ⟨c0, c1, c2, c3⟩ := hcx
          have HUP : Hid (tgtB (L[k]'hlt) = true → ∀ j, (hj : j < L.length) → j < k + 1 → tgtB L[j] = true) := fun h j hj h1 => by
            rcases Nat.lt_or_ge j k with h' | h'
            · exact HK.out j hj h'
            · obtain rfl : j = k := by omega
              exact h
          have HNO := HBAD.out k hlt
          have hcall := fun W hW => HIT.out (L[k]'hlt) W (List.getElem_mem hlt) hW
          obtain ⟨x, hxe⟩ : ∃ x, x = L[k]'hlt := ⟨_, rfl⟩
          rw [← hxe] at c0 c1 c2 c3 HUP HNO hcall
          have HCALL : Hid (∀ W, Below w.heap.size w W → Calls Tryz.prog 82 #[.agg #[.string ⟨x.1.toArray⟩, .string ⟨x.2.1.toArray⟩, .int .i64 x.2.2.1, .int .i64 x.2.2.2]] W fun e w' => e = .returned (.bool (tgtB x)) ∧ Below W.heap.size W w') := hcall
          have hbk := hb.alloc hb.size (.cells #[.string ⟨x.1.toArray⟩, .string ⟨x.2.1.toArray⟩, .int .i64 x.2.2.1, .int .i64 x.2.2.2] 79)
          rw [ha]
          clear hcel hxe hcall
          cases hR : tgtB x with
          | false =>
            have HR : Hid (false = good) := HNO hR
            rw [hR] at HCALL
            clear HUP HNO hR
            go_wp2_with fail
            refine (HCALL.out _ hbk).mono ?_
            rintro e w3 ⟨rfl, hb3⟩
            have hbw3 := hbk.trans (hb3.mono hbk.size)
            go_wp2_with fail
            go_ret
            exact ⟨ret_bool HR.out, hbw3⟩
          | true =>
            have HU : Hid (∀ j, (hj : j < L.length) → j < k + 1 → tgtB L[j] = true) := HUP.out hR
            rw [hR] at HCALL
            clear HUP HNO hR
            go_wp2_with fail
            refine (HCALL.out _ hbk).mono ?_
            rintro e w3 ⟨rfl, hb3⟩
            have hbw3 := hbk.trans (hb3.mono hbk.size)
            go_wp2_with fail
            go_roundw
            case rel => exact ⟨k + 1, by omega, by go_num, HU, hbw3⟩
            case measure => simp [intOf]; omega
        · have HR : Hid (true = good) := HALL.out (tall_up (fun j hj _ => HK.out j hj (by omega)))
          go_wp2_with fail
          go_ret
          exact ⟨ret_bool HR.out, hb⟩

set_option maxRecDepth 20000 in
set_option maxHeartbeats 4000000 in
theorem sGoodPolicy_any (n : List UInt8) (v : Value) (L : List TgtT) (w : World) (hr : TgtRow w v L) (hl : L.length ≤ 1048576) (hn : n.length ≤ 1048576) (hx : Hid (∀ x ∈ L, x.1.length ≤ 1048576 ∧ x.2.1.length ≤ 1048576)) :
    Calls Tryz.prog 35 #[PolV ⟨n.toArray⟩ v] w fun e w' => e = .returned (.bool (polB n L)) ∧ Below w.heap.size w w' := by
  have HGN : Hid (∀ W, Calls Tryz.prog 61 #[.string ⟨n.toArray⟩] W fun e w' => e = .returned (.bool (nameB n)) ∧ Below W.heap.size W w') := fun W => by
    have h := sGoodName_any ⟨n.toArray⟩ W (by rw [size_list]; omega)
    simpa using h
  have HIN : Hid (∀ x lo hi W, Calls Tryz.prog 62 #[.int .i64 x, .int .i64 lo, .int .i64 hi] W fun e w' => e = .returned (.bool (inB x lo hi)) ∧ w' = W) := fun x lo hi W => l1In_any x lo hi W
  have HL3 : Hid (∀ x W, x ∈ L → Calls Tryz.prog 60 #[.int .i64 1, .string ⟨x.2.1.toArray⟩] W fun e w' => (∃ u, e = .returned (.tuple #[u, .bool (dataP 1 x.2.1).isSome])) ∧ Below W.heap.size W w') := fun x W hm => (l3Bytes_any 1 ⟨x.2.1.toArray⟩ W (by rw [size_list]; exact (hx.out x hm).2)).mono fun e w' h => by
    obtain ⟨⟨u, h1, _⟩, h2⟩ := h
    exact ⟨⟨_, by simpa using h1⟩, h2⟩
  have HNM : Hid (∀ x W, x ∈ L → Calls Tryz.prog 61 #[.string ⟨x.1.toArray⟩] W fun e w' => e = .returned (.bool (nameB x.1)) ∧ Below W.heap.size W w') := fun x W hm => by
    have h := sGoodName_any ⟨x.1.toArray⟩ W (by rw [size_list]; have := (hx.out x hm).1; omega)
    simpa using h
  unfold PolV
  obtain ⟨good, hgood⟩ : ∃ good, good = polB n L := ⟨_, rfl⟩
  have HGD : Hid (good = polB n L) := hgood
  rw [← hgood]
  obtain ⟨a, cap, rfl, hcap, hmax, HROW⟩ := tgt_value hr
  have hbox : Below (w.alloc (.cells #[.string ⟨n.toArray⟩, .slice a L.length cap] 34)).heap.size (w.alloc (.cells #[.string ⟨n.toArray⟩, .slice a L.length cap] 34)) (w.alloc (.cells #[.string ⟨n.toArray⟩, .slice a L.length cap] 34)) := Below.refl _ _
  have HX : Hid (∀ W, Below (w.alloc (.cells #[.string ⟨n.toArray⟩, .slice a L.length cap] 34)).heap.size (w.alloc (.cells #[.string ⟨n.toArray⟩, .slice a L.length cap] 34)) W → (W.cell? ⟨w.heap.size, 0, none⟩ = some (.string ⟨n.toArray⟩) ∧ W.cell? ⟨w.heap.size, 1, none⟩ = some (.slice a L.length cap)) ∧ Below w.heap.size w W) := fun W hW => pol_box hW
  clear hr hgood
  go_enter Tryz.func35, Tryz.ntmps35
  go_wp2_with fail
  obtain ⟨W0, hW0⟩ : ∃ W0, W0 = w.alloc (.cells #[.string ⟨n.toArray⟩, .slice a L.length cap] 34) := ⟨_, rfl⟩
  rw [← hW0] at hbox HX ⊢
  clear hW0
  go_loopw [10] (fun i wr => ∃ k : Nat, k ≤ L.length ∧ i = .int .i64 (k : Int) ∧ Hid (∀ j, (hj : j < L.length) → j < k → tgtB L[j] = true) ∧ Below W0.heap.size W0 wr) (fun i _ => L.length - (intOf i).toNat)
  case atStart => exact ⟨0, Nat.zero_le _, rfl, fun j _ h => absurd h (Nat.not_lt_zero _), hbox⟩
  case round =>
    obtain ⟨k, hk, rfl, HK, hb⟩ := hrel
    clear hbox
    by_cases hlt : k < L.length
    · obtain ⟨b, o, ha, hbl, hcel⟩ := HROW.out (by omega)
      have hcx := (hcel k hlt).kept (HX.out _ hb).2
      unfold TgtAt at hcx
      obtain ⟨c0, c1, c2, c3⟩ := hcx
      have HUP : Hid (tgtB (L[k]'hlt) = true → ∀ j, (hj : j < L.length) → j < k + 1 → tgtB L[j] = true) := fun h j hj h1 => by
        rcases Nat.lt_or_ge j k with h' | h'
        · exact HK.out j hj h'
        · obtain rfl : j = k := by omega
          exact h
      have HNO : Hid (tgtB (L[k]'hlt) = false → false = good) := fun h => by rw [HGD.out, pol_bad hlt h]
      have h3 := fun W => HL3.out (L[k]'hlt) W (List.getElem_mem hlt)
      have h4 := fun W => HNM.out (L[k]'hlt) W (List.getElem_mem hlt)
      obtain ⟨x, hxe⟩ : ∃ x, x = L[k]'hlt := ⟨_, rfl⟩
      rw [← hxe] at c0 c1 c2 c3 HUP HNO h3 h4
      obtain ⟨xh, xd, xg, xk⟩ := x
      simp only at c0 c1 c2 c3 h3 h4
      have HTB : Hid (tgtB (xh, xd, xg, xk) = ((dataP 1 xd).isSome && nameB xh && inB xg 0 9 && inB xk 1 50)) := rfl
      obtain ⟨dk, hdk⟩ : ∃ dk, dk = (dataP 1 xd).isSome := ⟨_, rfl⟩
      rw [← hdk] at h3 HTB
      have H3 : Hid (∀ W, Calls Tryz.prog 60 #[.int .i64 1, .string ⟨xd.toArray⟩] W fun e w' => (∃ u, e = .returned (.tuple #[u, .bool dk])) ∧ Below W.heap.size W w') := h3
      have H4 : Hid (∀ W, Calls Tryz.prog 61 #[.string ⟨xh.toArray⟩] W fun e w' => e = .returned (.bool (nameB xh)) ∧ Below W.heap.size W w') := h4
      have HBW : Hid (∀ W, Below (wr.alloc (.cells #[.string ⟨xh.toArray⟩, .string ⟨xd.toArray⟩, .int .i64 xg, .int .i64 xk] 79)).heap.size (wr.alloc (.cells #[.string ⟨xh.toArray⟩, .string ⟨xd.toArray⟩, .int .i64 xg, .int .i64 xk] 79)) W → W.cell? ⟨wr.heap.size, 0, none⟩ = some (.string ⟨xh.toArray⟩) ∧ W.cell? ⟨wr.heap.size, 2, none⟩ = some (.int .i64 xg) ∧ W.cell? ⟨wr.heap.size, 3, none⟩ = some (.int .i64 xk) ∧ Below W0.heap.size W0 W) := fun W hW => by
        obtain ⟨d0, _, d2, d3, hbW⟩ := box4 hW
        exact ⟨d0, d2, d3, hb.trans (hbW.mono hb.size)⟩
      rw [ha]
      clear hcel hxe h3 h4 hdk
      cases dk with
      | false =>
        have HR : Hid (false = good) := HNO.out (by rw [HTB.out]; rfl)
        clear HUP HNO HTB
        go_wp2_with fail
        refine (H3.out _).mono ?_
        rintro e w3 ⟨⟨u, rfl⟩, hb3⟩
        obtain ⟨e0, e2, e3, hbw3⟩ := HBW.out _ hb3
        clear hb3 c0 c1 c2 c3
        go_wp2_with fail
        go_ret
        exact ⟨ret_bool HR.out, (HX.out _ hbw3).2⟩
      | true =>
        cases hN : nameB xh with
        | false =>
          have HR : Hid (false = good) := HNO.out (by rw [HTB.out, hN]; rfl)
          rw [hN] at H4
          clear HUP HNO HTB hN
          go_wp2_with fail
          refine (H3.out _).mono ?_
          rintro e w3 ⟨⟨u, rfl⟩, hb3⟩
          obtain ⟨e0, e2, e3, _⟩ := HBW.out _ hb3
          clear c0 c1 c2 c3
          go_wp2_with fail
          refine (H4.out _).mono ?_
          rintro e w4 ⟨rfl, hb4⟩
          have hb34 := hb3.trans (hb4.mono hb3.size)
          clear e0 e2 e3
          obtain ⟨e0, e2, e3, hbw3⟩ := HBW.out _ hb34
          go_wp2_with fail
          go_ret
          exact ⟨ret_bool HR.out, (HX.out _ hbw3).2⟩
        | true =>
          rw [hN] at H4
          have HTB2 : Hid (tgtB (xh, xd, xg, xk) = (inB xg 0 9 && inB xk 1 50)) := by show _ = _; rw [HTB.out, hN]; rfl
          clear hN HTB
          have HG := fun W => HIN.out xg 0 9 W
          have HK2 := fun W => HIN.out xk 1 50 W
          cases hG : inB xg 0 9 with
          | false =>
            have HR : Hid (false = good) := HNO.out (by rw [HTB2.out, hG]; rfl)
            rw [hG] at HG
            have HG2 : Hid (∀ W, Calls Tryz.prog 62 #[.int .i64 xg, .int .i64 0, .int .i64 9] W fun e w' => e = .returned (.bool false) ∧ w' = W) := HG
            clear HUP HNO HTB2 hG HG HK2
            go_wp2_with fail
            refine (H3.out _).mono ?_
            rintro e w3 ⟨⟨u, rfl⟩, hb3⟩
            obtain ⟨e0, e2, e3, _⟩ := HBW.out _ hb3
            clear c0 c1 c2 c3
            go_wp2_with fail
            refine (H4.out _).mono ?_
            rintro e w4 ⟨rfl, hb4⟩
            have hb34 := hb3.trans (hb4.mono hb3.size)
            clear e0 e2 e3
            obtain ⟨e0, e2, e3, hbw3⟩ := HBW.out _ hb34
            go_wp2_with fail
            refine (HG2.out _).mono ?_
            rintro e w5 ⟨rfl, rfl⟩
            go_wp2_with fail
            go_ret
            exact ⟨ret_bool HR.out, (HX.out _ hbw3).2⟩
          | true =>
            rw [hG] at HG
            have HG2 : Hid (∀ W, Calls Tryz.prog 62 #[.int .i64 xg, .int .i64 0, .int .i64 9] W fun e w' => e = .returned (.bool true) ∧ w' = W) := HG
            cases hK : inB xk 1 50 with
            | false =>
              have HR : Hid (false = good) := HNO.out (by rw [HTB2.out, hG, hK]; rfl)
              rw [hK] at HK2
              have HK3 : Hid (∀ W, Calls Tryz.prog 62 #[.int .i64 xk, .int .i64 1, .int .i64 50] W fun e w' => e = .returned (.bool false) ∧ w' = W) := HK2
              clear HUP HNO HTB2 hG HG HK2 hK
              go_wp2_with fail
              refine (H3.out _).mono ?_
              rintro e w3 ⟨⟨u, rfl⟩, hb3⟩
              obtain ⟨e0, e2, e3, _⟩ := HBW.out _ hb3
              clear c0 c1 c2 c3
              go_wp2_with fail
              refine (H4.out _).mono ?_
              rintro e w4 ⟨rfl, hb4⟩
              have hb34 := hb3.trans (hb4.mono hb3.size)
              clear e0 e2 e3
              obtain ⟨e0, e2, e3, hbw3⟩ := HBW.out _ hb34
              go_wp2_with fail
              refine (HG2.out _).mono ?_
              rintro e w5 ⟨rfl, rfl⟩
              go_wp2_with fail
              refine (HK3.out _).mono ?_
              rintro e w5 ⟨rfl, rfl⟩
              go_wp2_with fail
              go_ret
              exact ⟨ret_bool HR.out, (HX.out _ hbw3).2⟩
            | true =>
              have HU : Hid (∀ j, (hj : j < L.length) → j < k + 1 → tgtB L[j] = true) := HUP.out (by rw [HTB2.out, hG, hK]; rfl)
              rw [hK] at HK2
              have HK3 : Hid (∀ W, Calls Tryz.prog 62 #[.int .i64 xk, .int .i64 1, .int .i64 50] W fun e w' => e = .returned (.bool true) ∧ w' = W) := HK2
              clear HUP HNO HTB2 hG HG HK2 hK
              go_wp2_with fail
              refine (H3.out _).mono ?_
              rintro e w3 ⟨⟨u, rfl⟩, hb3⟩
              obtain ⟨e0, e2, e3, _⟩ := HBW.out _ hb3
              clear c0 c1 c2 c3
              go_wp2_with fail
              refine (H4.out _).mono ?_
              rintro e w4 ⟨rfl, hb4⟩
              have hb34 := hb3.trans (hb4.mono hb3.size)
              clear e0 e2 e3
              obtain ⟨e0, e2, e3, hbw3⟩ := HBW.out _ hb34
              go_wp2_with fail
              refine (HG2.out _).mono ?_
              rintro e w5 ⟨rfl, rfl⟩
              go_wp2_with fail
              refine (HK3.out _).mono ?_
              rintro e w5 ⟨rfl, rfl⟩
              go_wp2_with fail
              go_roundw
              case rel => exact ⟨k + 1, by omega, by go_num, HU, hbw3⟩
              case measure => simp [intOf]; omega
    · have HALL : Hid (good = (nameB n && inB (L.length : Int) 1 12)) := by show _ = _; rw [HGD.out, pol_all (tall_up (fun j hj _ => HK.out j hj (by omega)))]
      obtain ⟨⟨d0, d1⟩, hbw⟩ := HX.out _ hb
      have HZ : Hid (∀ W, Below wr.heap.size wr W → W.cell? ⟨w.heap.size, 1, none⟩ = some (.slice a L.length cap) ∧ Below w.heap.size w W) := fun W hW => by
        have h := HX.out W (hb.trans (hW.mono hb.size))
        exact ⟨h.1.2, h.2⟩
      have HI2 := fun W => HIN.out (L.length : Int) 1 12 W
      have HI3 : Hid (∀ W, Calls Tryz.prog 62 #[.int .i64 (L.length : Int), .int .i64 1, .int .i64 12] W fun e w' => e = .returned (.bool (inB (L.length : Int) 1 12)) ∧ w' = W) := HI2
      clear HI2
      cases hN : nameB n with
      | false =>
        have HR : Hid (false = good) := by show _ = _; rw [HALL.out, hN]; rfl
        rw [hN] at HGN
        clear hN
        go_wp2_with fail
        refine (HGN.out _).mono ?_
        rintro e w3 ⟨rfl, hb3⟩
        obtain ⟨f1, hbw3⟩ := HZ.out _ hb3
        go_wp2_with fail
        go_ret
        exact ⟨ret_bool HR.out, hbw3⟩
      | true =>
        have HR : Hid (inB (L.length : Int) 1 12 = good) := by show _ = _; rw [HALL.out, hN]; rfl
        rw [hN] at HGN
        clear hN
        go_wp2_with fail
        refine (HGN.out _).mono ?_
        rintro e w3 ⟨rfl, hb3⟩
        obtain ⟨f1, hbw3⟩ := HZ.out _ hb3
        clear d0 d1
        go_wp2_with fail
        refine (HI3.out _).mono ?_
        rintro e w4 ⟨rfl, rfl⟩
        go_wp2_with fail
        go_ret
        exact ⟨ret_bool HR.out, hbw3⟩
end Go.Proofs.YtoanloballaclaaGreatDoor
