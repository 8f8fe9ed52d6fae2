import Derived.Test.YtjocegnhhhfbeaaGreatDoorZ36
import Derived.Test.YtjocegnhhhfbeaaGreatDoorZ46
import Derived.Test.YtjocegnhhhfbeaaGreatDoorZ14
namespace Go.Proofs.YtjocegnhhhfbeaaGreatDoor
open Go.RowKit

theorem andQ_good {L : List (List UInt8 × Int × Int × List UInt8)} (h : ∀ x ∈ L, x.1.length ≤ 1048576 ∧ x.2.2.2.length ≤ 1048576) : ∀ x ∈ andQ [] L, x.1.length ≤ 1048576 ∧ x.2.2.2.length ≤ 1048576 := fun x hx => by
  rcases andQ_mem hx with h1 | h1
  · cases h1
  · exact h x h1

set_option maxRecDepth 20000 in
set_option maxHeartbeats 8000000 in
theorem iSetsOf_any (v : Value) (L : List (List UInt8 × Int × Int × List UInt8)) (w : World) (hr : RRow w v L) (hnil : Hid (∀ n c, v = .slice none n c → c = 0)) (hl : L.length ≤ 1048576) (hx : Hid (∀ x ∈ L, x.1.length ≤ 1048576 ∧ x.2.2.2.length ≤ 1048576)) (hE : EnvR w) :
    Calls Tryz.prog 8 #[v] w fun e w' => SetsR w' w.heap.size (setsO L) e ∧ Below w.heap.size w w' := by
  have HAR : Hid (∀ W, Below w.heap.size w W → Calls Tryz.prog 24 #[v] W fun e w' => e = .returned (.bool (aresB L)) ∧ Below W.heap.size W w') := fun W hW => areRecords_any v L W (hr.kept hW) hx (hE.below hW)
  have HCL : Hid (∀ W, Below w.heap.size w W → Calls Tryz.prog 25 #[v] W fun e w' => (∃ u, e = .returned u ∧ OwnQ w' W.heap.size u L) ∧ Below W.heap.size W w') := fun W hW => cloneRec_any v L W (hr.kept hW) hl hnil.out
  obtain ⟨a, cp, rfl, hcp, hmx, _⟩ := id hr
  clear hr
  by_cases g1 : 60 < L.length
  · have HN : Hid (setsO L = none) := setsO_many (by omega)
    have g1i : (60 : Int) < (L.length : Int) := by omega
    clear HAR HCL
    go_enter Tryz.func8, Tryz.ntmps8
    go_wp2_with fail
    go_ret2
    exact ⟨by rw [HN.out]; rfl, Below.refl _ _⟩
  have g1i : ¬ (60 : Int) < (L.length : Int) := by omega
  cases g2 : aresB L with
  | false =>
    have HN : Hid (setsO L = none) := setsO_bad g2
    rw [g2] at HAR
    clear HCL g2
    go_enter Tryz.func8, Tryz.ntmps8
    go_wp2_with fail
    refine (HAR.out _ (Below.refl _ _)).mono ?_
    rintro e w1 ⟨rfl, hb1⟩
    go_wp2_with fail
    go_ret2
    exact ⟨by rw [HN.out]; rfl, hb1⟩
  | true =>
  rw [g2] at HAR
  have HGQ : Hid (∀ x ∈ L, GoodQ x) := fun x hm => by
    obtain ⟨j, hj, rfl⟩ := List.getElem_of_mem hm
    have h1 := recB_name (ares_get g2 j hj)
    have h2 := hx.out _ (List.getElem_mem hj)
    exact ⟨h1.1, h1.2, h2.1, h2.2⟩
  have H60 : Hid (L.length ≤ 60) := by show L.length ≤ 60; omega
  have HARE : Hid (aresB L = true) := g2
  clear g1 g2
  go_enter Tryz.func8, Tryz.ntmps8
  go_wp2_with fail
  refine (HAR.out _ (Below.refl _ _)).mono ?_
  rintro e w1 ⟨rfl, hb1⟩
  clear HAR
  go_wp2_with fail
  refine (HCL.out _ hb1).mono ?_
  rintro e w2 ⟨⟨u, rfl, ho2⟩, hb2⟩
  have hbw2 : Below w.heap.size w w2 := hb1.trans (hb2.mono hb1.size)
  have HS : Hid (Calls Tryz.prog 26 #[u, .func (.func 27) #[] #[]] w2 fun e w' => e = .returned (.tuple #[]) ∧ ∃ Q, Q.Perm L ∧ srtQ Q ∧ OwnQ w' w1.heap.size u Q ∧ w2.grownBy w' u.ownBlock) := sortOwn_any w1.heap.size u L w w2 hE hbw2 hb1.size ho2 (fun x hm => by have h := HGQ.out x hm; exact ⟨h.1, h.2.2.1, h.2.2.2⟩) hl
  have HUB : Hid (∀ k, u.ownBlock = some k → w1.heap.size ≤ k ∧ k < w2.heap.size) := ho2.lt
  obtain ⟨a2, c2, hu, hc2⟩ := ho2.shape
  subst hu
  clear HCL ho2 hb2
  go_wp2_with fail
  refine HS.out.mono ?_
  rintro e w3 ⟨rfl, Q, hperm, hsrt, ho3, hg3⟩
  have hbw3 : Below w.heap.size w w3 := hbw2.grown hg3 hbw2.size (fun k hk => Nat.le_trans hb1.size (HUB.out k hk).1)
  have hQl : Q.length = L.length := hperm.length_eq
  have HCP : Hid (Calls Tryz.prog 28 #[.slice a2 L.length c2] w3 fun e w' => (∃ u, e = .returned u ∧ OwnQ w' w1.heap.size u (cpt Q Q.length)) ∧ w3.grownBy w' (Value.slice a2 L.length c2).ownBlock) := compactOwn_any w1.heap.size _ Q w3 ho3 (by omega)
  have HAQ : Hid (cpt Q Q.length = andQ [] L) := cpt_and (fun x hx => by cases hx) HGQ.out (by exact List.Pairwise.nil) (by simpa using hperm) hsrt
  have HUB3 : Hid (∀ k, (Value.slice a2 L.length c2).ownBlock = some k → w1.heap.size ≤ k) := fun k hk => (HUB.out k hk).1
  clear HS ho3 hg3 hperm hsrt hbw2 hQl HUB
  go_wp2_with fail
  refine HCP.out.mono ?_
  rintro e w4 ⟨⟨u4, rfl, ho4⟩, hg4⟩
  have hbw4 : Below w.heap.size w w4 := hbw3.grown hg4 hbw3.size (fun k hk => Nat.le_trans hb1.size (HUB3.out k hk))
  rw [HAQ.out] at ho4
  have hr4 := ho4.row
  obtain ⟨a4, c4, hu4, hc4⟩ := ho4.shape
  subst hu4
  have hrv := rrow_value hr4
  obtain ⟨R, hRe⟩ : ∃ R, R = andQ [] L := ⟨_, rfl⟩
  have HRE : Hid (andQ [] L = R) := hRe.symm
  have HRL : Hid (R.length ≤ 60) := by
    have h := andQ_len [] L
    show R.length ≤ 60
    rw [hRe]
    have h2 := H60.out
    simp only [List.length_nil] at h
    omega
  have HRX : Hid (∀ x ∈ R, x.1.length ≤ 1048576 ∧ x.2.2.2.length ≤ 1048576) := by
    have h := andQ_good hx.out
    rw [← hRe] at h
    exact h
  rw [← hRe] at hr4 hrv ⊢
  obtain ⟨a5, c5, he5, hc51, hc52, HROW⟩ := hrv
  obtain ⟨rfl, rfl⟩ : a5 = a4 ∧ c5 = c4 := by cases he5; exact ⟨rfl, rfl⟩
  have HR4 : Hid (RRow w4 (.slice a5 R.length c5) R) := hr4
  clear HCP ho4 hg4 hbw3 hRe hr4 he5 HAQ HUB3
  go_wp2_with fail
  go_loopw [5, 25] (fun av i wr => ∃ (k : Nat) (vv : Value) (DS : List (SetT × Value)), k ≤ R.length ∧ i = .int .i64 (k : Int) ∧ vv = av ∧ Hid (grpN R k = some (DS.map (fun x => x.1))) ∧ Hid (Bld wr w4.heap.size vv DS) ∧ Below w4.heap.size w4 wr) (fun _ i _ => R.length - (intOf i).toNat)
  case atStart => exact ⟨0, _, [], Nat.zero_le _, rfl, rfl, rfl, Bld.nil _ _, Below.refl _ _⟩
  case round =>
    obtain ⟨k, vv, DS, hk, rfl, rfl, HN, HB, hb⟩ := hrel
    have hrl := HRL.out
    have hbw : Below w.heap.size w wr := hbw4.trans (hb.mono hbw4.size)
    by_cases hlt : k < R.length
    · obtain ⟨b, o, ha, hbl, hcel⟩ := HROW.out (by omega)
      rw [ha]
      have hcx := (hcel k hlt).kept hb
      have HNX : Hid (∀ S, grpN R k = some S → grpN R (k + 1) = grp S (R[k]'hlt)) := fun S h => grpN_next h hlt
      have HNN : Hid (grpN R (k + 1) = none → setsO L = none) := fun h => by
        have h2 := grpN_none h (R.length - (k + 1))
        rw [show k + 1 + (R.length - (k + 1)) = R.length by omega] at h2
        exact setsO_none (by rw [HRE.out]; exact h2)
      have hxk := HRX.out _ (List.getElem_mem hlt)
      obtain ⟨x, hxe⟩ : ∃ x, x = R[k]'hlt := ⟨_, rfl⟩
      rw [← hxe] at hcx HNX hxk
      obtain ⟨xn, xt, xl, xd⟩ := x
      unfold RecAt at hcx
      obtain ⟨c0, c1, c2, c3⟩ := hcx
      simp only at c0 c1 c2 c3 hxk
      have HLEN : Hid (DS.length ≤ 1048575) := by
        have h := grpN_len HN.out
        rw [List.length_map] at h
        show DS.length ≤ 1048575
        omega
      have HDT : Hid (∀ x ∈ DS, x.1.2.2.2.length ≤ 1048575) := fun x hx => by
        have h := grpN_data HN.out x.1 (List.mem_map.2 ⟨x, hx, rfl⟩)
        omega
      have HPU : Hid (∀ W, Below wr.heap.size wr W → Calls Tryz.prog 29 #[vv, .agg #[.string ⟨xn.toArray⟩, .int .i64 xt, .int .i64 xl, .string ⟨xd.toArray⟩]] W fun e w' => PutR w' w4.heap.size (grp (DS.map (fun x => x.1)) (xn, xt, xl, xd)) e ∧ Below w4.heap.size w4 w') := fun W hW => putInto_any vv DS xn xt xl xd w4.heap.size w4 W (hb.trans (hW.mono hb.size)) (Nat.le_refl _) (Nat.le_trans hb.size hW.size) (HB.out.kept hW) HLEN HDT hxk.1 hxk.2
      obtain ⟨av, nv, cv, hvv⟩ : ∃ a n c, vv = .slice a n c := by obtain ⟨a, c, h, _⟩ := HB.out.shape; exact ⟨a, _, c, h⟩
      subst hvv
      clear hcel hxe HB HLEN HDT
      go_wp2_with fail
      refine (HPU.out _ ((Below.refl _ _).alloc (Nat.le_refl _) _)).mono ?_
      rintro e w5 ⟨hres, hb5⟩
      have hbw5 : Below w.heap.size w w5 := hbw4.trans (hb5.mono hbw4.size)
      cases hO : grp (DS.map (fun x => x.1)) (xn, xt, xl, xd) with
      | none =>
        rw [hO] at hres
        obtain ⟨u5, rfl⟩ := hres
        have HF : Hid (setsO L = none) := HNN.out ((HNX.out _ HN.out).trans hO)
        clear hO c0 c1 c2 c3 HPU
        go_wp2_with fail
        go_ret2
        exact ⟨by rw [HF.out]; rfl, hbw5⟩
      | some S2 =>
        rw [hO] at hres
        obtain ⟨u5, D5, hD5, rfl, hB5⟩ := hres
        have HN5 : Hid (grpN R (k + 1) = some (D5.map (fun x => x.1))) := ((HNX.out _ HN.out).trans hO).trans (by rw [hD5])
        have HB5 : Hid (Bld w5 w4.heap.size u5 D5) := hB5
        clear hO c0 c1 c2 c3 HPU hD5 hB5
        go_wp2_with fail
        go_roundw
        case rel => exact ⟨k + 1, u5, D5, by omega, by go_num, rfl, HN5, HB5, hb5⟩
        case measure => simp [intOf]; omega
    · have HF : Hid (grpN (andQ [] L) (andQ [] L).length = some (DS.map (fun x => x.1))) := by
        have h := HN.out
        rw [show k = R.length by omega] at h
        rw [HRE.out]
        exact h
      obtain ⟨a0, cap, rfl, hc1, hc2⟩ := HB.out.shape
      have HB2 : Hid (Bld wr w.heap.size (.slice a0 DS.length cap) DS) := by
        have h := HB.out
        have hz := hbw4.size
        exact ⟨own_low h.1 (fun g hg => Nat.le_trans hz (h.1.lt g hg).1), fun x hx => ⟨own_low (h.2.1 x hx).1 (fun g hg => Nat.le_trans hz ((h.2.1 x hx).1.lt g hg).1), (h.2.1 x hx).2⟩, h.2.2⟩
      obtain ⟨n, hn⟩ : ∃ n, n = DS.length := ⟨_, rfl⟩
      rw [← hn] at hc1 ⊢
      have HNL : Hid (n = DS.length) := hn
      clear hn
      by_cases h40 : n ≤ 40
      · have HS : Hid (setsO L = some (DS.map (fun x => x.1))) := setsO_some H60.out HARE.out HF.out (by rw [List.length_map, ← HNL.out]; exact h40)
        have h40i : ¬ (40 : Int) < (n : Int) := by omega
        go_wp2_with fail
        go_ret2
        refine ⟨?_, hbw⟩
        rw [HS.out]
        exact ⟨_, DS, rfl, rfl, by rw [HNL.out]; exact HB2.out⟩
      · have HS : Hid (setsO L = none) := setsO_big HF.out (by rw [List.length_map, ← HNL.out]; exact h40)
        have h40i : (40 : Int) < (n : Int) := by omega
        go_wp2_with fail
        go_ret2
        exact ⟨by rw [HS.out]; rfl, hbw⟩
end Go.Proofs.YtjocegnhhhfbeaaGreatDoor
