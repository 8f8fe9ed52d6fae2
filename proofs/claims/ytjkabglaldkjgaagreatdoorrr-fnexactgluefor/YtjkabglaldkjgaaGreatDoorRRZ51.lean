import Derived.Test.YtjkabglaldkjgaaGreatDoorRRZ49
import Derived.Test.YtjkabglaldkjgaaGreatDoorRRZ50
import Derived.Test.YtjkabglaldkjgaaGreatDoorRRZ48
import Derived.Test.YtjkabglaldkjgaaGreatDoorRRZ08
import Derived.Deep.RegionHeld3
namespace Go.Proofs.YtjkabglaldkjgaaGreatDoorRR
open Go.RowKit

/-- What leadsOf tells. -/
def ledT (P : List (List UInt8 × Int × Int × List UInt8)) : List (List UInt8) := if P.all ledB = true then leadL (tgtL P) else []
theorem led_bad {P : List (List UInt8 × Int × Int × List UInt8)} (k : Nat) (hk : k < P.length) (h : ledB P[k] = false) : P.all ledB = false := by
  rw [List.all_eq_false]; exact ⟨_, List.getElem_mem hk, by rw [h]; simp⟩
theorem led_all {P : List (List UInt8 × Int × Int × List UInt8)} (h : ∀ j, (hj : j < P.length) → ledB P[j] = true) : P.all ledB = true := by
  rw [List.all_eq_true]; intro x hx
  obtain ⟨j, hj, rfl⟩ := List.getElem_of_mem hx
  exact h j hj
theorem any_false {ls : List (List UInt8)} {t : List UInt8} (h : ∀ j, (hj : j < ls.length) → ls[j] ≠ t) : ls.any (fun x => x == t) = false := by
  rw [List.any_eq_false]; intro x hx
  obtain ⟨j, hj, rfl⟩ := List.getElem_of_mem hx
  simpa using h j hj
theorem any_true {ls : List (List UInt8)} {t : List UInt8} (j : Nat) (hj : j < ls.length) (h : ls[j] = t) : ls.any (fun x => x == t) = true := by
  rw [List.any_eq_true]; exact ⟨_, List.getElem_mem hj, by simpa using h⟩
/-- A row of texts of the call's own, in cells. -/
theorem own_texts {w : World} {base : Nat} {v : Value} {P : List (List UInt8)} (h : w.ownsRow base 9 1 v P.length (P.map S)) : ∃ a cap, v = .slice a P.length cap ∧ P.length ≤ cap ∧ cap ≤ maxLen ∧ Hid (0 < P.length → ∃ g, a = some ⟨g, 0, none⟩ ∧ ∀ j, (hj : j < P.length) → w.cell? ⟨g, j, none⟩ = some (S P[j])) := by
  obtain ⟨g, cap, ⟨rfl, rfl⟩ | ⟨rfl, hg, hgl, hcap, hmax, hcell⟩⟩ := shape_of_own h
  · exact ⟨none, 0, rfl, Nat.le_refl _, Nat.zero_le _, fun h => by simp at h⟩
  · exact ⟨_, cap, rfl, hcap, hmax, fun _ => ⟨g, rfl, hcell⟩⟩

set_option maxRecDepth 20000 in
set_option maxHeartbeats 4000000 in
theorem leadsOf_any (v : Value) (P : List (List UInt8 × Int × Int × List UInt8)) (w : World) (hr : RRow w v P) (hl : P.length ≤ 12) (hx : Hid (∀ x ∈ P, x.1.length ≤ 1048576 ∧ x.2.2.2.length ≤ 1048576)) (hE : EnvR w) :
    Calls Tryz.prog 21 #[v] w fun e w' => (∃ u, e = .returned (.tuple #[u, .bool (P.all ledB)]) ∧ w'.ownsRow w.heap.size 9 1 u (ledT P).length ((ledT P).map S)) ∧ Below w.heap.size w w' := by
  obtain ⟨i0, hi, hz0, hz1, hz2⟩ := info_parts info_string
  obtain ⟨a, cap, rfl, hcap, hmax, hrow⟩ := hr
  have HROW : Hid (P = [] ∨ ∃ b o, a = some ⟨b, o, none⟩ ∧ b < w.heap.size ∧ ∀ j, (hj : j < P.length) → RecAt w b (o + j * 4) P[j]) := hrow
  unfold maxLen at hmax
  clear hrow
  have HBAD : Hid (∀ k, (hk : k < P.length) → ledB P[k] = false → P.all ledB = false) := fun k hk h => led_bad k hk h
  have HALL : Hid ((∀ j, (hj : j < P.length) → ledB P[j] = true) → P.all ledB = true) := led_all
  have HLT : Hid (ledT P = if P.all ledB = true then leadL (tgtL P) else []) := rfl
  obtain ⟨ok, hok⟩ : ∃ ok, ok = P.all ledB := ⟨_, rfl⟩
  rw [← hok] at HBAD HALL HLT ⊢
  clear hok
  obtain ⟨LT, hLT⟩ : ∃ LT, LT = ledT P := ⟨_, rfl⟩
  rw [← hLT] at HLT ⊢
  clear hLT
  have HLN : Hid (∀ k, (leadL (tgtL (P.take k))).length ≤ 12) := fun k => by
    have h1 := lead_len (tgtL (P.take k))
    have h2 : (tgtL (P.take k)).length ≤ P.length := by unfold tgtL; rw [List.length_map, List.length_take]; omega
    exact (show (leadL (tgtL (P.take k))).length ≤ 12 by omega)
  go_enter Tryz.func21, Tryz.ntmps21
  go_wp2_with fail
  go_step3
  go_wp2_with fail
  go_step3
  go_wp2_with fail
  go_loopw [4, 13] (fun lv i wr => ∃ (k : Nat) (vl : Value), k ≤ P.length ∧ i = .int .i64 (k : Int) ∧ vl = lv ∧ Hid (wr.ownsRow w.heap.size 9 1 vl (leadL (tgtL (P.take k))).length ((leadL (tgtL (P.take k))).map S)) ∧ Hid (∀ j, (hj : j < P.length) → j < k → ledB P[j] = true) ∧ Below w.heap.size w wr) (fun _ i _ => P.length - (intOf i).toNat)
  case atStart => exact ⟨0, _, Nat.zero_le _, rfl, rfl, World.ownsRow_nil _ _ _ _, fun j _ h => absurd h (Nat.not_lt_zero _), Below.refl _ _⟩
  case round =>
    obtain ⟨k, vl, hk, rfl, rfl, HO, HA, hb⟩ := hrel
    by_cases hlt : k < P.length
    · rcases HROW.out with hr | ⟨b, o, ha, hbl, hcel⟩
      · rw [hr] at hlt; simp at hlt
      · rw [ha]
        have hcx := (hcel k hlt).kept hb
        unfold RecAt at hcx
        obtain ⟨c0, c1, c2, c3⟩ := hcx
        have hxl := hx.out _ (List.getElem_mem hlt)
        have HSN : Hid (leadL (tgtL (P.take (k + 1))) = putN (leadL (tgtL (P.take k))) (toT (P[k]'hlt).2.1 (P[k]'hlt).2.2.2)) := by
          show leadL (tgtL (P.take (k + 1))) = _
          rw [tgtL_snoc P k hlt, lead_snoc]
        have HB1 : Hid (ledB (P[k]'hlt) = false → ok = false) := HBAD.out k hlt
        have HOK : Hid (ledB (P[k]'hlt) = true → ∀ j, (hj : j < P.length) → j < k + 1 → ledB P[j] = true) := fun h j hj h1 => by
          rcases Nat.lt_or_ge j k with h' | h'
          · exact HA.out j hj h'
          · obtain rfl : j = k := by omega
            exact h
        have HLK := HLN.out k
        obtain ⟨x, hxe⟩ : ∃ x, x = P[k]'hlt := ⟨_, rfl⟩
        rw [← hxe] at c0 c1 c2 c3 hxl HSN HB1 HOK
        obtain ⟨xn, xt, xl, xd⟩ := x
        simp only at c0 c1 c2 c3 hxl HSN
        have HT : Hid (∀ W, Below w.heap.size w W → Calls Tryz.prog 34 #[(.agg #[.string ⟨xn.toArray⟩, .int .i64 xt, .int .i64 xl, .string ⟨xd.toArray⟩])] W fun e w' => e = .returned (.tuple #[.string ⟨(targX xn xt xl xd).toArray⟩, .bool (targO xn xt xl xd)]) ∧ Below W.heap.size W w') := fun W hW => iTargetOf_any ⟨xn.toArray⟩ ⟨xd.toArray⟩ xt xl W (by rw [size_list]; omega) (hE.below hW)
        have HLED : Hid ((targO xn xt xl xd && !(xt == 5)) = ledB (xn, xt, xl, xd)) := led_targ (xn, xt, xl, xd)
        have HTX : Hid (ledB (xn, xt, xl, xd) = true → targX xn xt xl xd = toT xt xd) := fun h => led_x h
        obtain ⟨ls, hls⟩ : ∃ ls, ls = leadL (tgtL (P.take k)) := ⟨_, rfl⟩
        rw [← hls] at HO HSN HLK
        have hbk := hb.alloc hb.size (.cells #[.string ⟨xn.toArray⟩, .int .i64 xt, .int .i64 xl, .string ⟨xd.toArray⟩] 44)
        have HOK1 : Hid ((wr.alloc (.cells #[.string ⟨xn.toArray⟩, .int .i64 xt, .int .i64 xl, .string ⟨xd.toArray⟩] 44)).ownsRow w.heap.size 9 1 vl ls.length (ls.map S)) := HO.out.alloc _
        clear hcel hxe hls
        cases hL : ledB (xn, xt, xl, xd) with
        | false =>
          have HF : Hid (ok = false) := HB1.out hL
          have HLT0 : Hid (LT = []) := by rw [HLT.out, HF.out]; rfl
          cases hO : targO xn xt xl xd with
          | false =>
            rw [hO] at HT
            clear HLED HTX HOK HB1 HSN
            go_wp2_with fail
            refine (HT.out _ hbk).mono ?_
            rintro e w1 ⟨rfl, hb1⟩
            go_wp2_with fail
            (try rw [Exit.noGoto_ret])
            go_ret2
            exact ⟨⟨_, by rw [HF.out]; rfl, by rw [HLT0.out]; exact World.ownsRow_nil _ _ _ _⟩, hbk.trans (hb1.mono hbk.size)⟩
          | true =>
            have h5 : xt = 5 := by
              have h := HLED.out
              rw [hO, hL, Bool.true_and] at h
              simpa using h
            rw [hO] at HT
            subst h5
            clear HLED HTX HOK HB1 HSN
            go_wp2_with fail
            refine (HT.out _ hbk).mono ?_
            rintro e w1 ⟨rfl, hb1⟩
            obtain ⟨d0, d1, d2, d3, _⟩ := box4 hb1
            go_wp2_with fail
            (try rw [Exit.noGoto_ret])
            go_ret2
            exact ⟨⟨_, by rw [HF.out]; rfl, by rw [HLT0.out]; exact World.ownsRow_nil _ _ _ _⟩, hbk.trans (hb1.mono hbk.size)⟩
        | true =>
          have hOb : targO xn xt xl xd = true ∧ ¬ xt = 5 := by
            have h := HLED.out
            rw [hL, Bool.and_eq_true] at h
            exact ⟨h.1, by simpa using h.2⟩
          obtain ⟨hO, h5⟩ := hOb
          have HXX := HTX.out hL
          have HAN := HOK.out hL
          have HAH : Hid (∀ j, (hj : j < P.length) → j < k + 1 → ledB P[j] = true) := HAN
          rw [hO, HXX] at HT
          obtain ⟨t, ht⟩ : ∃ t, t = toT xt xd := ⟨_, rfl⟩
          rw [← ht] at HT HSN
          clear HLED HTX HOK HB1 hL HAN HXX ht HA hO
          go_wp2_with fail
          refine (HT.out _ hbk).mono ?_
          rintro e w1 ⟨rfl, hb1⟩
          obtain ⟨d0, d1, d2, d3, _⟩ := box4 hb1
          have hbw1 := hbk.trans (hb1.mono hbk.size)
          have HO1 : Hid (w1.ownsRow w.heap.size 9 1 vl ls.length (ls.map S)) := own_below HOK1.out hb1
          obtain ⟨la, lc, hlv, hlc, hlm, HCE⟩ := own_texts HO1.out
          unfold maxLen at hlm
          clear HOK1 HO
          subst hlv
          go_wp2_with fail
          go_loop [31] (fun i => ∃ m : Nat, m ≤ ls.length ∧ i = .int .i64 (m : Int) ∧ Hid (∀ j, (hj : j < ls.length) → j < m → ls[j] ≠ t)) (fun i => ls.length - (intOf i).toNat)
          case atStart => exact ⟨0, Nat.zero_le _, rfl, fun j _ h => absurd h (Nat.not_lt_zero _)⟩
          case round =>
            obtain ⟨m, hm, rfl, HM⟩ := hrel
            by_cases hmt : m < ls.length
            · obtain ⟨g, hla, hcell⟩ := HCE.out (by omega)
              rw [hla]
              have hcm := hcell m hmt
              have HMN : Hid (¬ (ls[m]'hmt) = t → ∀ j, (hj : j < ls.length) → j < m + 1 → ls[j] ≠ t) := fun h j hj h1 => by
                rcases Nat.lt_or_ge j m with h' | h'
                · exact HM.out j hj h'
                · obtain rfl : j = m := by omega
                  exact h
              have HHIT : Hid ((ls[m]'hmt) = t → putN ls t = ls) := fun h => by unfold putN; rw [if_pos (any_true m hmt h)]
              obtain ⟨y, hy⟩ : ∃ y, y = ls[m]'hmt := ⟨_, rfl⟩
              rw [← hy] at hcm HMN HHIT
              unfold S at hcm
              clear hy hcell
              by_cases hyt : y = t
              · have HPT : Hid (leadL (tgtL (P.take (k + 1))) = ls) := by rw [HSN.out, HHIT.out hyt]; exact rfl
                have ey : (y == t) = true := by simpa using hyt
                have HOE : Hid (w1.ownsRow w.heap.size 9 1 (.slice la ls.length lc) (leadL (tgtL (P.take (k + 1)))).length ((leadL (tgtL (P.take (k + 1)))).map S)) := by rw [HPT.out]; exact HO1.out
                subst hyt
                rw [← hla]
                clear HMN HHIT
                rw [hla]
                go_wp2_with fail
                go_roundw
                case rel => exact ⟨k + 1, _, by omega, by go_num, by rw [hla], HOE, HAH, hbw1⟩
                case measure => simp [intOf]; omega
              · have ey : (y == t) = false := by simpa using hyt
                have HNX := HMN.out hyt
                have HNH : Hid (∀ j, (hj : j < ls.length) → j < m + 1 → ls[j] ≠ t) := HNX
                clear HMN HHIT HNX
                go_wp2_with fail
                go_round
                case rel => exact ⟨m + 1, by omega, by go_num, HNH⟩
                case measure => simp [intOf]; omega
            · have HPT : Hid (leadL (tgtL (P.take (k + 1))) = ls ++ [t]) := by
                rw [HSN.out]
                unfold putN
                rw [any_false (fun j hj => HM.out j hj (by omega))]
                exact rfl
              have hown := HO1.out
              have hzw := hbw1.size
              go_wp2_with (at_builtin; refine wpList_append_own _ rfl (.tmp 39) (.tmp 41) 47 rfl w.heap.size 9 i0 (.string ByteArray.empty) 1 16 Tryz.underlying47 hi hz0 hz1 hz2 rfl (by decide) _ _ _ rfl (hown.alloc _) ⟨w1.heap.size, 0, none⟩ 1 1 [.string ⟨t.toArray⟩] rfl rfl ?c1 ?c2 ?c3 ?c4 ?c5 ?_)
              case c2 => rfl
              case c3 => unfold maxLen; omega
              case c4 => omega
              case c5 => omega
              intro v4 w4 hown4 hgrow4 _
              have hb4 := below_append hbw1 hown hgrow4
              have HO4 : Hid (w4.ownsRow w.heap.size 9 1 v4 (leadL (tgtL (P.take (k + 1)))).length ((leadL (tgtL (P.take (k + 1)))).map S)) := by
                show w4.ownsRow w.heap.size 9 1 v4 (leadL (tgtL (P.take (k + 1)))).length ((leadL (tgtL (P.take (k + 1)))).map S)
                rw [HPT.out, List.length_append, List.map_append]
                exact hown4
              clear hown hown4 hgrow4
              go_wp2_with fail
              go_roundw
              case rel => exact ⟨k + 1, _, by omega, by go_num, rfl, HO4, HAH, hb4⟩
              case measure => simp [intOf]; omega
    · have HF : Hid (ok = true) := HALL.out (fun j hj => HA.out j hj (by omega))
      have HLT1 : Hid (LT = leadL (tgtL (P.take k))) := by rw [HLT.out, HF.out, List.take_of_length_le (by omega)]; rfl
      go_wp2_with fail
      (try rw [Exit.noGoto_ret])
      go_ret2
      exact ⟨⟨_, by rw [HF.out]; rfl, by rw [HLT1.out]; exact HO.out⟩, hb⟩

set_option maxRecDepth 20000 in
set_option maxHeartbeats 4000000 in
theorem iGlueFor_any (nm : ByteArray) (ct : Int) (v : Value) (L : List (List UInt8 × Int × Int × List UInt8)) (vp : Value) (P : List (List UInt8 × Int × Int × List UInt8)) (w : World) (hr : RRow w v L) (hp : RRow w vp P) (hap : nm.size ≤ 1048576) (hl : L.length ≤ 1048576) (hx : Hid (∀ x ∈ L, x.1.length ≤ 1048576 ∧ x.2.2.2.length ≤ 1048576)) (hxp : Hid (∀ x ∈ P, x.1.length ≤ 1048576 ∧ x.2.2.2.length ≤ 1048576)) (hE : EnvZ w) :
    Calls Tryz.prog 9 #[ZonV nm ct v, vp] w fun e w' => (∃ u, e = .returned (.tuple #[u, .bool (glueB nm.data.toList ct L P)]) ∧ OwnQ w' w.heap.size u (glueX nm.data.toList ct L P)) ∧ Below w.heap.size w w' := by
  have HG : Hid (∀ W, Below w.heap.size w W → Calls Tryz.prog 20 #[ZonV nm ct v] W fun e w' => e = .returned (.bool (zoneB nm.data.toList ct L)) ∧ Below W.heap.size W w') := fun W hW => iGoodZone_any nm ct v L W (hr.kept hW) hap hx (hE.below hW)
  have HLD : Hid (P.length ≤ 12 → ∀ W, Below w.heap.size w W → Calls Tryz.prog 21 #[vp] W fun e w' => (∃ u, e = .returned (.tuple #[u, .bool (P.all ledB)]) ∧ w'.ownsRow W.heap.size 9 1 u (ledT P).length ((ledT P).map S)) ∧ Below W.heap.size W w') := fun h W hW => leadsOf_any vp P W (hp.kept hW) h hxp (hE.below hW).1
  have HSO : Hid (∀ n W, Below w.heap.size w W → Calls Tryz.prog 22 #[v, .agg #[.string ⟨n.toArray⟩, .int .i64 1]] W fun e w' => (∃ u, e = .returned u ∧ OwnQ w' W.heap.size u (setL L n 1)) ∧ Below W.heap.size W w') := fun n W hW => setOf_any v L n 1 W (hr.kept hW) hl hx
  obtain ⟨ap, hal⟩ : ∃ ap, ap = nm.data.toList := ⟨_, rfl⟩
  obtain rfl : nm = ⟨ap.toArray⟩ := data_eq hal.symm
  clear hal
  obtain ⟨a, cap, rfl, _⟩ := hr
  obtain ⟨pa, pc, rfl, hpc, hpm, _⟩ := hp
  unfold maxLen at hpm
  have HG2 : Hid (∀ W, Below w.heap.size w W → Calls Tryz.prog 20 #[ZonV ⟨ap.toArray⟩ ct (.slice a L.length cap)] W fun e w' => e = .returned (.bool (zoneB ap ct L)) ∧ Below W.heap.size W w') := HG.out
  clear HG
  show Calls Tryz.prog 9 _ w fun e w' => (∃ u, e = .returned (.tuple #[u, .bool (glueB ap ct L P)]) ∧ OwnQ w' w.heap.size u (glueX ap ct L P)) ∧ Below w.heap.size w w'
  have HGB : Hid (glueB ap ct L P = (zoneB ap ct L && (decide (P.length ≤ 12) && P.all ledB))) := rfl
  have HGX : Hid (glueX ap ct L P = if glueB ap ct L P = true then glueL L (leadL (tgtL P)) else []) := rfl
  obtain ⟨ok, hok⟩ : ∃ ok, ok = glueB ap ct L P := ⟨_, rfl⟩
  rw [← hok] at HGB HGX ⊢
  obtain ⟨X, hX⟩ : ∃ X, X = glueX ap ct L P := ⟨_, rfl⟩
  rw [← hX] at HGX ⊢
  clear hok hX
  unfold ZonV at HG2 ⊢
  obtain ⟨W0, hW0⟩ : ∃ W0, W0 = w.alloc (.cells #[.string ⟨ap.toArray⟩, .int .i64 ct, .slice a L.length cap] 31) := ⟨_, rfl⟩
  have HW0 : Hid (w.alloc (.cells #[.string ⟨ap.toArray⟩, .int .i64 ct, .slice a L.length cap] 31) = W0) := hW0.symm
  have hz0 : w.heap.size < W0.heap.size := by rw [hW0]; simp
  have hbw0' : Below w.heap.size w W0 := by rw [hW0]; exact (Below.refl _ _).alloc (Nat.le_refl _) _
  have HC0 : Hid (∀ W, Below W0.heap.size W0 W → (W.cell? ⟨w.heap.size, 0, none⟩ = some (.string ⟨ap.toArray⟩) ∧ W.cell? ⟨w.heap.size, 1, none⟩ = some (.int .i64 ct) ∧ W.cell? ⟨w.heap.size, 2, none⟩ = some (.slice a L.length cap)) ∧ Below w.heap.size w W) := fun W hW => by
    rw [hW0] at hW
    obtain ⟨c0, c1, c2, h⟩ := box3c hW
    exact ⟨⟨c0, c1, c2⟩, h⟩
  have hb0 : Below W0.heap.size W0 W0 := Below.refl _ _
  clear hW0
  by_cases h12 : P.length ≤ 12
  · have g12 : ¬ ((12 : Int) < (P.length : Int)) := by omega
    have g12b : decide ((12 : Int) < (P.length : Int)) = false := by simpa using g12
    rw [decide_eq_true h12, Bool.true_and] at HGB
    cases hZ : zoneB ap ct L with
    | false =>
      have HOK : Hid (ok = false) := by rw [HGB.out, hZ]; rfl
      have HR : Hid (X = []) := by rw [HGX.out, HOK.out]; rfl
      rw [hZ] at HG2
      go_enter Tryz.func9, Tryz.ntmps9
      go_wp2_with fail
      rw [HW0.out]
      refine (HG2.out _ hbw0').mono ?_
      rintro e w1 ⟨rfl, hb1⟩
      go_wp2_with fail
      go_ret2
      exact ⟨⟨_, by rw [HOK.out]; rfl, by rw [HR.out]; exact .inl ⟨rfl, rfl⟩⟩, hbw0'.trans (hb1.mono hbw0'.size)⟩
    | true =>
      rw [hZ, Bool.true_and] at HGB
      have hL40 : L.length ≤ 40 := (zone_facts hZ).2.2.2.2.2
      rw [hZ] at HG2
      have HLD2 := HLD.out h12
      have HLDH : Hid (∀ W, Below w.heap.size w W → Calls Tryz.prog 21 #[.slice pa P.length pc] W fun e w' => (∃ u, e = .returned (.tuple #[u, .bool (P.all ledB)]) ∧ w'.ownsRow W.heap.size 9 1 u (ledT P).length ((ledT P).map S)) ∧ Below W.heap.size W w') := HLD2
      rw [← HGB.out] at HLDH
      have HLX : Hid (X = glueL L (ledT P)) := by
        show X = _
        unfold ledT
        rw [HGX.out, ← HGB.out]
        cases ok with
        | true => rfl
        | false => rfl
      have hls : (ledT P).length ≤ 12 := by
        unfold ledT
        split
        · have h1 := lead_len (tgtL P)
          have h2 : (tgtL P).length = P.length := by unfold tgtL; simp
          omega
        · simp
      obtain ⟨ls, hlse⟩ : ∃ ls, ls = ledT P := ⟨_, rfl⟩
      rw [← hlse] at HLDH HLX hls
      have HGL : Hid (∀ k, k ≤ ls.length → (glueL L (ls.take k)).length ≤ 480) := fun k hk => by
        have h1 := glue_len L (ls.take k)
        have h3 : (ls.take k).length * L.length ≤ 12 * 40 := Nat.mul_le_mul (by rw [List.length_take]; omega) hL40
        exact (show (glueL L (ls.take k)).length ≤ 480 by omega)
      have HSL : Hid (∀ n, (setL L n 1).length ≤ 40) := fun n => Nat.le_trans (setL_len _ _ _) hL40
      clear HGB HGX HLD HLD2 hlse hZ
      go_enter Tryz.func9, Tryz.ntmps9
      go_wp2_with fail
      rw [HW0.out]
      refine (HG2.out _ hbw0').mono ?_
      rintro e w1 ⟨rfl, hb1⟩
      have hbw1 := hbw0'.trans (hb1.mono hbw0'.size)
      go_wp2_with fail
      refine (HLDH.out _ hbw1).mono ?_
      rintro e w2 ⟨⟨ul, rfl, hol⟩, hb2⟩
      have hb02 := hb1.trans (hb2.mono hb1.size)
      obtain ⟨⟨z0, z1, z2⟩, hbw2⟩ := HC0.out _ hb02
      have hz2 : w.heap.size < w2.heap.size := Nat.lt_of_lt_of_le hz0 hb02.size
      obtain ⟨la, lc, hlv, hlc, hlm, HCE⟩ := own_texts hol
      have HLB : Hid (∀ g, ul.ownBlock = some g → g < w2.heap.size) := fun g h => (hol.lt g h).2
      unfold maxLen at hlm
      subst hlv
      have HO0 : Hid (w2.ownsRow w2.heap.size 44 4 (.slice none 0 0) (glueL L (ls.take 0)).length (rcells (glueL L (ls.take 0)))) := by
        have h : w2.ownsRow w2.heap.size 44 4 (.slice none 0 0) (glueL L (ls.take 0)).length (rcells (glueL L (ls.take 0))) := by simpa [rcells, glueL] using World.ownsRow_nil _ _ _ _
        exact h
      clear hol HLDH hb1 hb2 hbw1 HG2
      go_wp2_with fail
      go_loopw [8, 26] (fun vv i wr => ∃ (k : Nat) (vg : Value), k ≤ ls.length ∧ i = .int .i64 (k : Int) ∧ vg = vv ∧ Hid (wr.ownsRow w2.heap.size 44 4 vg (glueL L (ls.take k)).length (rcells (glueL L (ls.take k)))) ∧ Below w2.heap.size w2 wr) (fun _ i _ => ls.length - (intOf i).toNat)
      case atStart => exact ⟨0, _, Nat.zero_le _, rfl, rfl, HO0, Below.refl _ _⟩
      case round =>
        obtain ⟨k, vg, hk, rfl, rfl, HO, hb⟩ := hrel
        have hbw := hbw2.trans (hb.mono hbw2.size)
        have hzr : w2.heap.size ≤ wr.heap.size := hb.size
        by_cases hlt : k < ls.length
        · obtain ⟨g, hla, hcell⟩ := HCE.out (by omega)
          have hgl : g < w2.heap.size := HLB.out g (by rw [hla]; rfl)
          have hcm := (hb.cell (p := ⟨g, k, none⟩) hgl).trans (hcell k hlt)
          have y2 := (hb.cell (p := ⟨w.heap.size, 2, none⟩) hz2).trans z2
          have HGN : Hid (glueL L (ls.take (k + 1)) = glueL L (ls.take k) ++ setL L (ls[k]'hlt) 1) := glue_take L ls k hlt
          have hgk := HGL.out k hk
          rw [hla]
          obtain ⟨n, hn⟩ : ∃ n, n = ls[k]'hlt := ⟨_, rfl⟩
          rw [← hn] at hcm HGN
          unfold S at hcm
          have hsl := HSL.out n
          have HSN : Hid (Calls Tryz.prog 22 #[.slice a L.length cap, .agg #[.string ⟨n.toArray⟩, .int .i64 1]] wr fun e w' => (∃ u, e = .returned u ∧ OwnQ w' wr.heap.size u (setL L n 1)) ∧ Below wr.heap.size wr w') := HSO.out n _ hbw
          clear hn hcell
          go_wp2_with fail
          refine HSN.out.mono ?_
          rintro e w3 ⟨⟨u, rfl, hu⟩, hb3⟩
          obtain ⟨ua, uc, hue, huc⟩ := hu.shape
          have HU : Hid (RRow w3 u (setL L n 1)) := hu.row
          have HUN : Hid (∀ n' c, u = .slice none n' c → c = 0) := by
            show ∀ n' c, u = .slice none n' c → c = 0
            intro n' c h
            rcases hu with ⟨rfl, _⟩ | ⟨g', c', h', _⟩
            · cases h; rfl
            · rw [h'] at h; cases h
          have HO3 : Hid (w3.ownsRow w2.heap.size 44 4 vg (glueL L (ls.take k)).length (rcells (glueL L (ls.take k)))) := own_below HO.out hb3
          have hb23 := hb.trans (hb3.mono hb.size)
          obtain ⟨X1, hX1⟩ : ∃ X1, X1 = setL L n 1 := ⟨_, rfl⟩
          rw [← hX1] at HGN HU hsl hue
          subst hue
          clear hu hb3 hX1 HO
          go_wp2_with (first | (at_builtin; refine wpList_append_rows rfl (.tmp 30) (.tmp 35) 27 rfl Tryz.underlying27 w2.heap.size vg _ (glueL L (ls.take k)) rfl rfl ?b0 _ X1 rfl ?b1 ?b2 ?b3 ?b4 ?_))
          case b0 => exact HO3.out
          case b1 => exact HU.out
          case b2 => exact HUN.out
          case b3 => omega
          case b4 => exact hb23.size
          intro v2 w4 hown hgrow
          have HO4 : Hid (w4.ownsRow w2.heap.size 44 4 v2 (glueL L (ls.take (k + 1))).length (rcells (glueL L (ls.take (k + 1))))) := by
            show w4.ownsRow w2.heap.size 44 4 v2 (glueL L (ls.take (k + 1))).length (rcells (glueL L (ls.take (k + 1))))
            rw [HGN.out, List.length_append]; exact hown
          have hb4 : Below w2.heap.size w2 w4 := hb23.grown hgrow hb23.size (fun j hj => (HO3.out.lt j hj).1)
          clear hown hgrow
          go_wp2_with fail
          go_roundw
          case rel => exact ⟨k + 1, v2, by omega, by go_num, rfl, HO4, hb4⟩
          case measure => simp [intOf]; omega
        · have HOL : Hid (OwnQ wr w2.heap.size vg X) := by
            have h := HO.out
            rw [List.take_of_length_le (by omega), ← HLX.out] at h
            exact own_q h
          go_wp2_with fail
          go_ret2
          exact ⟨⟨_, rfl, HOL.out.base hbw2.size⟩, hbw⟩
  · have g12 : (12 : Int) < (P.length : Int) := by omega
    have g12b : decide ((12 : Int) < (P.length : Int)) = true := by simpa using g12
    have HOK : Hid (ok = false) := by rw [HGB.out, decide_eq_false h12, Bool.false_and, Bool.and_false]; exact rfl
    have HR : Hid (X = []) := by rw [HGX.out, HOK.out]; rfl
    go_enter Tryz.func9, Tryz.ntmps9
    go_wp2_with fail
    rw [HW0.out]
    go_ret2
    exact ⟨⟨_, by rw [HOK.out]; rfl, by rw [HR.out]; exact .inl ⟨rfl, rfl⟩⟩, hbw0'⟩
end Go.Proofs.YtjkabglaldkjgaaGreatDoorRR

namespace Go.Proofs.YtjkabglaldkjgaaGreatDoorRR
open Go.RowKit

theorem tgt_len (P : List (List UInt8 × Int × Int × List UInt8)) : (tgtL P).length = P.length := by unfold tgtL; simp

set_option maxRecDepth 20000 in
set_option maxHeartbeats 4000000 in
theorem l7Glue_any (v : Value) (L : List (List UInt8 × Int × Int × List UInt8)) (vp : Value) (P : List (List UInt8 × Int × Int × List UInt8)) (w : World) (hr : RRow w v L) (hp : RRow w vp P) (hl : L.length ≤ 40) (hlp : P.length ≤ 12) (hxp : Hid (∀ x ∈ P, x.1.length ≤ 1048576 ∧ x.2.2.2.length ≤ 1048576)) (hA : Hid (∀ x ∈ P, ledB x = true)) :
    Calls Tryz.prog 18 #[v, vp] w fun e w' => (∃ u, e = .returned u ∧ OwnQ w' w.heap.size u (glueL L (leadL (tgtL P)))) ∧ Below w.heap.size w w' := by
  obtain ⟨i0, hi, hz0, hz1, hz2⟩ := info_parts info_string
  have HSO : Hid (∀ n W, Below w.heap.size w W → Calls Tryz.prog 30 #[v, .string ⟨n.toArray⟩, .int .i64 1] W fun e w' => (∃ u, e = .returned u ∧ OwnQ w' W.heap.size u (setL L n 1)) ∧ Below W.heap.size W w') := fun n W hW => l6Set_any v L ⟨n.toArray⟩ 1 W (hr.kept hW) (by omega)
  obtain ⟨a, cap, rfl, _⟩ := hr
  obtain ⟨pa, pc, rfl, hpc, hpm, hrow⟩ := hp
  have HROW : Hid (P = [] ∨ ∃ b o, pa = some ⟨b, o, none⟩ ∧ b < w.heap.size ∧ ∀ j, (hj : j < P.length) → RecAt w b (o + j * 4) P[j]) := hrow
  unfold maxLen at hpm
  clear hrow
  have HGL : Hid (∀ k, (glueL L (leadL (tgtL (P.take k)))).length ≤ 480) := fun k => by
    have h1 := glue_len L (leadL (tgtL (P.take k)))
    have h2 := lead_len (tgtL (P.take k))
    rw [tgt_len, List.length_take] at h2
    have h3 : (leadL (tgtL (P.take k))).length * L.length ≤ 12 * 40 := Nat.mul_le_mul (by omega) hl
    exact (show (glueL L (leadL (tgtL (P.take k)))).length ≤ 480 by omega)
  have HTL : Hid (∀ k, (tgtL (P.take k)).length ≤ 12) := fun k => by
    show (tgtL (P.take k)).length ≤ 12
    rw [tgt_len, List.length_take]; omega
  have HSL : Hid (∀ n, (setL L n 1).length ≤ 40) := fun n => Nat.le_trans (setL_len _ _ _) hl
  have HO0 : Hid (w.ownsRow w.heap.size 44 4 (.slice none 0 0) (glueL L (leadL (tgtL (P.take 0)))).length (rcells (glueL L (leadL (tgtL (P.take 0)))))) := by
    have h : w.ownsRow w.heap.size 44 4 (.slice none 0 0) (glueL L (leadL (tgtL (P.take 0)))).length (rcells (glueL L (leadL (tgtL (P.take 0))))) := by simpa [rcells, glueL, leadL, tgtL] using World.ownsRow_nil _ _ _ _
    exact h
  go_enter Tryz.func18, Tryz.ntmps18
  go_wp2_with fail
  go_loopw [5, 6, 15] (fun ov dv i wr => ∃ (k : Nat) (vo vd : Value), k ≤ P.length ∧ i = .int .i64 (k : Int) ∧ vo = ov ∧ vd = dv ∧ Hid (wr.ownsRow w.heap.size 44 4 vo (glueL L (leadL (tgtL (P.take k)))).length (rcells (glueL L (leadL (tgtL (P.take k)))))) ∧ Hid (wr.ownsRow w.heap.size 9 1 vd (tgtL (P.take k)).length ((tgtL (P.take k)).map S)) ∧ Below w.heap.size w wr) (fun _ _ i _ => P.length - (intOf i).toNat)
  case atStart => exact ⟨0, _, _, Nat.zero_le _, rfl, rfl, rfl, HO0, World.ownsRow_nil _ _ _ _, Below.refl _ _⟩
  case round =>
    obtain ⟨k, vo, vd, hk, rfl, rfl, rfl, HO, HD, hb⟩ := hrel
    by_cases hlt : k < P.length
    · rcases HROW.out with hr | ⟨b, o, ha, hbl, hcel⟩
      · rw [hr] at hlt; simp at hlt
      · rw [ha]
        have hcx := (hcel k hlt).kept hb
        unfold RecAt at hcx
        obtain ⟨c0, c1, c2, c3⟩ := hcx
        have hxl := hxp.out _ (List.getElem_mem hlt)
        have hled := hA.out _ (List.getElem_mem hlt)
        have HSN : Hid (tgtL (P.take (k + 1)) = tgtL (P.take k) ++ [toT (P[k]'hlt).2.1 (P[k]'hlt).2.2.2]) := tgtL_snoc P k hlt
        have hgk := HGL.out k
        have htk := HTL.out k
        obtain ⟨x, hxe⟩ : ∃ x, x = P[k]'hlt := ⟨_, rfl⟩
        rw [← hxe] at c0 c1 c2 c3 hxl HSN hled
        obtain ⟨xn, xt, xl, xd⟩ := x
        simp only at c0 c1 c2 c3 hxl HSN
        have HT : Hid (∀ W, Calls Tryz.prog 29 #[(.agg #[.string ⟨xn.toArray⟩, .int .i64 xt, .int .i64 xl, .string ⟨xd.toArray⟩])] W fun e w' => e = .returned (.string ⟨(toT xt xd).toArray⟩) ∧ Below W.heap.size W w') := fun W => l3To_any ⟨xn.toArray⟩ ⟨xd.toArray⟩ xt xl W (by rw [size_list]; omega) (fun h => by
          unfold ledB at hled
          simp only [Bool.and_eq_true] at hled
          exact recB_two hled.1 h)
        obtain ⟨t, ht⟩ : ∃ t, t = toT xt xd := ⟨_, rfl⟩
        rw [← ht] at HT HSN
        obtain ⟨ts, hts⟩ : ∃ ts, ts = tgtL (P.take k) := ⟨_, rfl⟩
        rw [← hts] at HSN HO HD hgk htk
        have HLD : Hid (leadL (tgtL (P.take (k + 1))) = if ts.any (fun x => x == t) = true then leadL ts else leadL ts ++ [t]) := by
          show leadL (tgtL (P.take (k + 1))) = _
          rw [HSN.out, lead_snoc]
          unfold putN
          rw [lead_any]
        have hbk := hb.alloc hb.size (.cells #[.string ⟨xn.toArray⟩, .int .i64 xt, .int .i64 xl, .string ⟨xd.toArray⟩] 44)
        have HOA : Hid ((wr.alloc (.cells #[.string ⟨xn.toArray⟩, .int .i64 xt, .int .i64 xl, .string ⟨xd.toArray⟩] 44)).ownsRow w.heap.size 44 4 vo (glueL L (leadL ts)).length (rcells (glueL L (leadL ts)))) := HO.out.alloc _
        have HDA : Hid ((wr.alloc (.cells #[.string ⟨xn.toArray⟩, .int .i64 xt, .int .i64 xl, .string ⟨xd.toArray⟩] 44)).ownsRow w.heap.size 9 1 vd ts.length (ts.map S)) := HD.out.alloc _
        clear hcel hxe ht hts hled HO HD
        go_wp2_with fail
        refine (HT.out _).mono ?_
        rintro e w1 ⟨rfl, hb1⟩
        have hbw1 := hbk.trans (hb1.mono hbk.size)
        have HO1 : Hid (w1.ownsRow w.heap.size 44 4 vo (glueL L (leadL ts)).length (rcells (glueL L (leadL ts)))) := own_below HOA.out hb1
        have HD1 : Hid (w1.ownsRow w.heap.size 9 1 vd ts.length (ts.map S)) := own_below HDA.out hb1
        obtain ⟨la, lc, hlv, hlc, hlm, HCE⟩ := own_texts HD1.out
        unfold maxLen at hlm
        clear HOA HDA hb1
        subst hlv
        go_wp2_with fail
        go_loop [10, 23] (fun ag i => ∃ (m : Nat) (bb : Bool), m ≤ ts.length ∧ i = .int .i64 (m : Int) ∧ ag = .bool bb ∧ Hid (bb = (ts.take m).any (fun x => x == t))) (fun _ i => ts.length - (intOf i).toNat)
        case atStart => exact ⟨0, false, Nat.zero_le _, rfl, rfl, by show false = _; simp⟩
        case round =>
          obtain ⟨m, bb, hm, rfl, rfl, HM⟩ := hrel
          by_cases hmt : m < ts.length
          · obtain ⟨g, hla, hcell⟩ := HCE.out (by omega)
            rw [hla]
            have hcm := hcell m hmt
            have HMN : Hid ((bb || (ts[m]'hmt) == t) = (ts.take (m + 1)).any (fun x => x == t)) := by
              show (bb || (ts[m]'hmt) == t) = _
              rw [List.take_succ_eq_append_getElem hmt, List.any_append, ← HM.out]
              simp
            obtain ⟨y, hy⟩ : ∃ y, y = ts[m]'hmt := ⟨_, rfl⟩
            rw [← hy] at hcm HMN
            unfold S at hcm
            clear hy hcell HM
            cases bb with
            | true =>
              go_wp2_with fail
              go_round
              case rel => exact ⟨m + 1, true, by omega, by go_num, rfl, HMN.out⟩
              case measure => simp [intOf]; omega
            | false =>
              go_wp2_with fail
              go_round
              case rel => exact ⟨m + 1, (y == t), by omega, by go_num, rfl, HMN.out⟩
              case measure => simp [intOf]; omega
          · have HBB : Hid (bb = ts.any (fun x => x == t)) := by
              have h := HM.out
              rw [List.take_of_length_le (by omega)] at h
              exact h
            have hown := HD1.out
            have hzw := hbw1.size
            go_wp2_with (at_builtin; refine wpList_append_own _ rfl (.tmp 34) (.tmp 36) 47 rfl w.heap.size 9 i0 (.string ByteArray.empty) 1 16 Tryz.underlying47 hi hz0 hz1 hz2 rfl (by decide) _ _ _ rfl (hown.alloc _) ⟨w1.heap.size, 0, none⟩ 1 1 [.string ⟨t.toArray⟩] rfl rfl ?c1 ?c2 ?c3 ?c4 ?c5 ?_)
            case c2 => rfl
            case c3 => unfold maxLen; omega
            case c4 => omega
            case c5 => omega
            intro v4 w4 hown4 hgrow4 _
            have hb4 := below_append hbw1 hown hgrow4
            have HD4 : Hid (w4.ownsRow w.heap.size 9 1 v4 (tgtL (P.take (k + 1))).length ((tgtL (P.take (k + 1))).map S)) := by
              show w4.ownsRow w.heap.size 9 1 v4 (tgtL (P.take (k + 1))).length ((tgtL (P.take (k + 1))).map S)
              rw [HSN.out, List.length_append, List.map_append]
              exact hown4
            have HO4 : Hid (w4.ownsRow w.heap.size 44 4 vo (glueL L (leadL ts)).length (rcells (glueL L (leadL ts)))) := own_kpt (HO1.out.alloc _) (grown_kpt hgrow4) (fun g hg hs => own_ne (by decide) HO1.out hown g hg hs)
            clear hown hown4 hgrow4
            cases bb with
            | true =>
              have HLE : Hid (leadL (tgtL (P.take (k + 1))) = leadL ts) := by rw [HLD.out, if_pos HBB.out.symm]; exact rfl
              have HO5 : Hid (w4.ownsRow w.heap.size 44 4 vo (glueL L (leadL (tgtL (P.take (k + 1))))).length (rcells (glueL L (leadL (tgtL (P.take (k + 1))))))) := by rw [HLE.out]; exact HO4.out
              go_wp2_with fail
              go_roundw
              case rel => exact ⟨k + 1, _, _, by omega, by go_num, rfl, rfl, HO5, HD4, hb4⟩
              case measure => simp [intOf]; omega
            | false =>
              have HLE : Hid (leadL (tgtL (P.take (k + 1))) = leadL ts ++ [t]) := by rw [HLD.out, if_neg (by rw [← HBB.out]; simp)]; exact rfl
              have HGN : Hid (glueL L (leadL (tgtL (P.take (k + 1)))) = glueL L (leadL ts) ++ setL L t 1) := by rw [HLE.out, glue_snoc]; exact rfl
              have hsl := HSL.out t
              go_wp2_with fail
              refine (HSO.out t _ hb4).mono ?_
              rintro e w5 ⟨⟨u, rfl, hu⟩, hb5⟩
              obtain ⟨ua, uc, hue, huc⟩ := hu.shape
              have HU : Hid (RRow w5 u (setL L t 1)) := hu.row
              have HUN : Hid (∀ n' c, u = .slice none n' c → c = 0) := by
                show ∀ n' c, u = .slice none n' c → c = 0
                intro n' c h
                rcases hu with ⟨rfl, _⟩ | ⟨g', c', h', _⟩
                · cases h; rfl
                · rw [h'] at h; cases h
              have HO5 : Hid (w5.ownsRow w.heap.size 44 4 vo (glueL L (leadL ts)).length (rcells (glueL L (leadL ts)))) := own_below HO4.out hb5
              have HD5 : Hid (w5.ownsRow w.heap.size 9 1 v4 (tgtL (P.take (k + 1))).length ((tgtL (P.take (k + 1))).map S)) := own_below HD4.out hb5
              have hbw5 := hb4.trans (hb5.mono hb4.size)
              obtain ⟨X1, hX1⟩ : ∃ X1, X1 = setL L t 1 := ⟨_, rfl⟩
              rw [← hX1] at HGN HU hsl hue
              subst hue
              clear hu hb5 hX1 HO4 HD4
              go_wp2_with (first | (at_builtin; refine wpList_append_rows rfl (.tmp 40) (.tmp 43) 27 rfl Tryz.underlying27 w.heap.size vo _ (glueL L (leadL ts)) rfl rfl ?b0 _ X1 rfl ?b1 ?b2 ?b3 ?b4 ?_))
              case b0 => exact HO5.out
              case b1 => exact HU.out
              case b2 => exact HUN.out
              case b3 => omega
              case b4 => exact hbw5.size
              intro v6 w6 hown6 hgrow6
              have HO6 : Hid (w6.ownsRow w.heap.size 44 4 v6 (glueL L (leadL (tgtL (P.take (k + 1))))).length (rcells (glueL L (leadL (tgtL (P.take (k + 1))))))) := by
                show w6.ownsRow w.heap.size 44 4 v6 (glueL L (leadL (tgtL (P.take (k + 1))))).length (rcells (glueL L (leadL (tgtL (P.take (k + 1))))))
                rw [HGN.out, List.length_append]; exact hown6
              have HD6 : Hid (w6.ownsRow w.heap.size 9 1 v4 (tgtL (P.take (k + 1))).length ((tgtL (P.take (k + 1))).map S)) := own_kpt HD5.out (grown_kpt hgrow6) (fun g hg hs => own_ne (by decide) HO5.out HD5.out g hs hg)
              have hb6 : Below w.heap.size w w6 := hbw5.grown hgrow6 hbw5.size (fun j hj => (HO5.out.lt j hj).1)
              clear hown6 hgrow6
              go_wp2_with fail
              go_roundw
              case rel => exact ⟨k + 1, _, _, by omega, by go_num, rfl, rfl, HO6, HD6, hb6⟩
              case measure => simp [intOf]; omega
    · have HOL : Hid (OwnQ wr w.heap.size vo (glueL L (leadL (tgtL P)))) := by
        have h := HO.out
        rw [List.take_of_length_le (by omega)] at h
        exact own_q h
      go_wp2_with fail
      go_ret
      exact ⟨⟨_, rfl, HOL.out⟩, hb⟩

set_option maxRecDepth 20000 in
set_option maxHeartbeats 2000000 in
theorem sGlueFor_any (nm : ByteArray) (ct : Int) (v : Value) (L : List (List UInt8 × Int × Int × List UInt8)) (vp : Value) (P : List (List UInt8 × Int × Int × List UInt8)) (w : World) (hr : RRow w v L) (hp : RRow w vp P) (hap : nm.size ≤ 1048576) (hl : L.length ≤ 1048576) (hx : Hid (∀ x ∈ L, x.1.length ≤ 1048576 ∧ x.2.2.2.length ≤ 1048576)) (hxp : Hid (∀ x ∈ P, x.1.length ≤ 1048576 ∧ x.2.2.2.length ≤ 1048576)) :
    Calls Tryz.prog 6 #[ZonV nm ct v, vp] w fun e w' => (∃ u, e = .returned (.tuple #[u, .bool (glueB nm.data.toList ct L P)]) ∧ RRow w' u (glueX nm.data.toList ct L P)) ∧ Below w.heap.size w w' := by
  have HG : Hid (∀ W, Below w.heap.size w W → Calls Tryz.prog 16 #[ZonV nm ct v] W fun e w' => e = .returned (.bool (zoneB nm.data.toList ct L)) ∧ Below W.heap.size W w') := fun W hW => sGoodZone_any nm ct v L W (hr.kept hW) hap hl hx
  have HRC : Hid (∀ W, Below w.heap.size w W → Calls Tryz.prog 17 #[vp] W fun e w' => e = .returned (.bool (recsB P)) ∧ Below W.heap.size W w') := fun W hW => l4Records_any vp P W (hp.kept hW) hxp
  have HGL : Hid (L.length ≤ 40 → P.length ≤ 12 → (∀ x ∈ P, ledB x = true) → ∀ W, Below w.heap.size w W → Calls Tryz.prog 18 #[v, vp] W fun e w' => (∃ u, e = .returned u ∧ OwnQ w' W.heap.size u (glueL L (leadL (tgtL P)))) ∧ Below W.heap.size W w') := fun h1 h2 h3 W hW => l7Glue_any v L vp P W (hr.kept hW) (hp.kept hW) h1 h2 hxp h3
  obtain ⟨ap, hal⟩ : ∃ ap, ap = nm.data.toList := ⟨_, rfl⟩
  obtain rfl : nm = ⟨ap.toArray⟩ := data_eq hal.symm
  clear hal
  obtain ⟨a, cap, rfl, _⟩ := hr
  obtain ⟨pa, pc, rfl, hpc, hpm, hrow⟩ := hp
  have HROW : Hid (P = [] ∨ ∃ b o, pa = some ⟨b, o, none⟩ ∧ b < w.heap.size ∧ ∀ j, (hj : j < P.length) → RecAt w b (o + j * 4) P[j]) := hrow
  unfold maxLen at hpm
  clear hrow
  have HG2 : Hid (∀ W, Below w.heap.size w W → Calls Tryz.prog 16 #[ZonV ⟨ap.toArray⟩ ct (.slice a L.length cap)] W fun e w' => e = .returned (.bool (zoneB ap ct L)) ∧ Below W.heap.size W w') := HG.out
  clear HG
  show Calls Tryz.prog 6 _ w fun e w' => (∃ u, e = .returned (.tuple #[u, .bool (glueB ap ct L P)]) ∧ RRow w' u (glueX ap ct L P)) ∧ Below w.heap.size w w'
  have HGB : Hid (glueB ap ct L P = (zoneB ap ct L && (decide (P.length ≤ 12) && P.all ledB))) := rfl
  have HGX : Hid (glueX ap ct L P = if glueB ap ct L P = true then glueL L (leadL (tgtL P)) else []) := rfl
  obtain ⟨ok, hok⟩ : ∃ ok, ok = glueB ap ct L P := ⟨_, rfl⟩
  rw [← hok] at HGB HGX ⊢
  obtain ⟨X, hX⟩ : ∃ X, X = glueX ap ct L P := ⟨_, rfl⟩
  rw [← hX] at HGX ⊢
  clear hok hX
  unfold ZonV at HG2 ⊢
  obtain ⟨W0, hW0⟩ : ∃ W0, W0 = w.alloc (.cells #[.string ⟨ap.toArray⟩, .int .i64 ct, .slice a L.length cap] 31) := ⟨_, rfl⟩
  have HW0 : Hid (w.alloc (.cells #[.string ⟨ap.toArray⟩, .int .i64 ct, .slice a L.length cap] 31) = W0) := hW0.symm
  have hz0 : w.heap.size < W0.heap.size := by rw [hW0]; simp
  have hbw0' : Below w.heap.size w W0 := by rw [hW0]; exact (Below.refl _ _).alloc (Nat.le_refl _) _
  have HC0 : Hid (∀ W, Below W0.heap.size W0 W → (W.cell? ⟨w.heap.size, 0, none⟩ = some (.string ⟨ap.toArray⟩) ∧ W.cell? ⟨w.heap.size, 1, none⟩ = some (.int .i64 ct) ∧ W.cell? ⟨w.heap.size, 2, none⟩ = some (.slice a L.length cap)) ∧ Below w.heap.size w W) := fun W hW => by
    rw [hW0] at hW
    obtain ⟨c0, c1, c2, h⟩ := box3c hW
    exact ⟨⟨c0, c1, c2⟩, h⟩
  clear hW0
  have HNO : Hid (ok = false → X = []) := fun h => by rw [HGX.out, h]; rfl
  cases hZ : zoneB ap ct L with
  | false =>
    have HOK : Hid (ok = false) := by rw [HGB.out, hZ]; rfl
    have HR : Hid (X = []) := HNO.out HOK.out
    rw [hZ] at HG2
    go_enter Tryz.func6, Tryz.ntmps6
    go_wp2_with fail
    rw [HW0.out]
    refine (HG2.out _ hbw0').mono ?_
    rintro e w1 ⟨rfl, hb1⟩
    go_wp2_with fail
    go_ret2
    exact ⟨⟨_, by rw [HOK.out]; rfl, by rw [HR.out]; exact rrow_nil _⟩, hbw0'.trans (hb1.mono hbw0'.size)⟩
  | true =>
    have hL40 : L.length ≤ 40 := (zone_facts hZ).2.2.2.2.2
    rw [hZ] at HG2
    rw [hZ, Bool.true_and] at HGB
    cases hC : recsB P with
    | false =>
      have HOK : Hid (ok = false) := by
        rw [HGB.out]
        cases hc : (decide (P.length ≤ 12) && P.all ledB) with
        | false => exact rfl
        | true =>
          exfalso
          simp only [Bool.and_eq_true, decide_eq_true_eq] at hc
          have h : recsB P = true := by
            unfold recsB
            rw [Bool.and_eq_true, decide_eq_true_eq, List.all_eq_true]
            refine ⟨fun x hx => ?_, by omega⟩
            have := List.all_eq_true.1 hc.2 x hx
            unfold ledB at this
            rw [Bool.and_eq_true] at this
            exact this.1
          rw [hC] at h; cases h
      have HR : Hid (X = []) := HNO.out HOK.out
      rw [hC] at HRC
      go_enter Tryz.func6, Tryz.ntmps6
      go_wp2_with fail
      rw [HW0.out]
      refine (HG2.out _ hbw0').mono ?_
      rintro e w1 ⟨rfl, hb1⟩
      have hbw1 := hbw0'.trans (hb1.mono hbw0'.size)
      go_wp2_with fail
      refine (HRC.out _ hbw1).mono ?_
      rintro e w2 ⟨rfl, hb2⟩
      go_wp2_with fail
      go_ret2
      exact ⟨⟨_, by rw [HOK.out]; rfl, by rw [HR.out]; exact rrow_nil _⟩, hbw1.trans (hb2.mono hbw1.size)⟩
    | true =>
      have hC2 := hC
      unfold recsB at hC2
      rw [Bool.and_eq_true, decide_eq_true_eq, List.all_eq_true] at hC2
      have h12 : P.length ≤ 12 := by omega
      rw [decide_eq_true h12, Bool.true_and] at HGB
      have HGD : Hid (∀ j, (hj : j < P.length) → recB P[j].1 P[j].2.1 P[j].2.2.1 P[j].2.2.2 = true) := fun j hj => hC2.1 _ (List.getElem_mem hj)
      rw [hC] at HRC
      clear hC hC2 hZ
      go_enter Tryz.func6, Tryz.ntmps6
      go_wp2_with fail
      rw [HW0.out]
      refine (HG2.out _ hbw0').mono ?_
      rintro e w1 ⟨rfl, hb1⟩
      have hbw1 := hbw0'.trans (hb1.mono hbw0'.size)
      go_wp2_with fail
      refine (HRC.out _ hbw1).mono ?_
      rintro e w2 ⟨rfl, hb2⟩
      have hb02 := hb1.trans (hb2.mono hb1.size)
      obtain ⟨⟨z0, z1, z2⟩, hbw2⟩ := HC0.out _ hb02
      have hz2 : w.heap.size < w2.heap.size := Nat.lt_of_lt_of_le hz0 hb02.size
      clear hb1 hb2 hbw1
      go_wp2_with fail
      go_loopw [18] (fun i wr => ∃ k : Nat, k ≤ P.length ∧ i = .int .i64 (k : Int) ∧ Hid (∀ j, (hj : j < P.length) → j < k → ledB P[j] = true) ∧ Below w2.heap.size w2 wr) (fun i _ => P.length - (intOf i).toNat)
      case atStart => exact ⟨0, Nat.zero_le _, rfl, fun j _ h => absurd h (Nat.not_lt_zero _), Below.refl _ _⟩
      case round =>
        obtain ⟨k, hk, rfl, HA, hb⟩ := hrel
        have hbw := hbw2.trans (hb.mono hbw2.size)
        by_cases hlt : k < P.length
        · rcases HROW.out with hr | ⟨b, o, ha, hbl, hcel⟩
          · rw [hr] at hlt; simp at hlt
          · rw [ha]
            have hcx := (hcel k hlt).kept hbw
            unfold RecAt at hcx
            obtain ⟨c0, c1, c2, c3⟩ := hcx
            have HB1 : Hid (ledB (P[k]'hlt) = false → ok = false) := fun h => by rw [HGB.out]; exact led_bad k hlt h
            have HOKN : Hid (ledB (P[k]'hlt) = true → ∀ j, (hj : j < P.length) → j < k + 1 → ledB P[j] = true) := fun h j hj h1 => by
              rcases Nat.lt_or_ge j k with h' | h'
              · exact HA.out j hj h'
              · obtain rfl : j = k := by omega
                exact h
            have HLE : Hid (ledB (P[k]'hlt) = ((P[k]'hlt).2.1 == 2 || (P[k]'hlt).2.1 == 15)) := by
              show ledB (P[k]'hlt) = _
              unfold ledB; rw [HGD.out k hlt, Bool.true_and]
            obtain ⟨x, hxe⟩ : ∃ x, x = P[k]'hlt := ⟨_, rfl⟩
            rw [← hxe] at c0 c1 c2 c3 HB1 HOKN HLE
            obtain ⟨xn, xt, xl, xd⟩ := x
            simp only at c0 c1 c2 c3 HLE
            have hbk := hb.alloc hb.size (.cells #[.string ⟨xn.toArray⟩, .int .i64 xt, .int .i64 xl, .string ⟨xd.toArray⟩] 44)
            have hbwk := hbw.alloc hbw.size (.cells #[.string ⟨xn.toArray⟩, .int .i64 xt, .int .i64 xl, .string ⟨xd.toArray⟩] 44)
            clear hcel hxe
            by_cases h2 : xt = 2
            · have HN := HOKN.out (by rw [HLE.out, h2]; rfl)
              have HNH : Hid (∀ j, (hj : j < P.length) → j < k + 1 → ledB P[j] = true) := HN
              subst h2
              clear HB1 HOKN HLE HN
              go_wp2_with fail
              go_roundw
              case rel => exact ⟨k + 1, by omega, by go_num, HNH, hbk⟩
              case measure => simp [intOf]; omega
            · by_cases h15 : xt = 15
              · have HN := HOKN.out (by rw [HLE.out, h15]; rfl)
                have HNH : Hid (∀ j, (hj : j < P.length) → j < k + 1 → ledB P[j] = true) := HN
                subst h15
                clear HB1 HOKN HLE HN
                go_wp2_with fail
                go_roundw
                case rel => exact ⟨k + 1, by omega, by go_num, HNH, hbk⟩
                case measure => simp [intOf]; omega
              · have e2 : (xt == 2) = false := by simpa using h2
                have e15 : (xt == 15) = false := by simpa using h15
                have n2 : (xt != 2) = true := by simpa using h2
                have n15 : (xt != 15) = true := by simpa using h15
                have HOK : Hid (ok = false) := HB1.out (by rw [HLE.out, e2, e15]; rfl)
                have HR : Hid (X = []) := HNO.out HOK.out
                clear HB1 HOKN HLE
                go_wp2_with fail
                go_ret2
                exact ⟨⟨_, by rw [HOK.out]; rfl, by rw [HR.out]; exact rrow_nil _⟩, hbwk⟩
        · have HALL : Hid (∀ x ∈ P, ledB x = true) := fun x hx => by
            obtain ⟨j, hj, rfl⟩ := List.getElem_of_mem hx
            exact HA.out j hj (by omega)
          have HOK : Hid (ok = true) := by
            rw [HGB.out]
            exact led_all (fun j hj => HA.out j hj (by omega))
          have HR : Hid (X = glueL L (leadL (tgtL P))) := by rw [HGX.out, HOK.out]; rfl
          have HGG := HGL.out hL40 h12 HALL.out
          have HGH : Hid (∀ W, Below w.heap.size w W → Calls Tryz.prog 18 #[.slice a L.length cap, .slice pa P.length pc] W fun e w' => (∃ u, e = .returned u ∧ OwnQ w' W.heap.size u (glueL L (leadL (tgtL P)))) ∧ Below W.heap.size W w') := HGG
          have y2 := (hb.cell (p := ⟨w.heap.size, 2, none⟩) hz2).trans z2
          clear HGG
          go_wp2_with fail
          refine (HGH.out _ hbw).mono ?_
          rintro e w5 ⟨⟨u, rfl, hu⟩, hb5⟩
          go_wp2_with fail
          go_ret2
          exact ⟨⟨u, by rw [HOK.out]; rfl, by rw [HR.out]; exact hu.row⟩, hbw.trans (hb5.mono hbw.size)⟩
end Go.Proofs.YtjkabglaldkjgaaGreatDoorRR

namespace Go.Proofs.YtjkabglaldkjgaaGreatDoorRR.glueFor
open Go.RowKit

set_option maxRecDepth 20000 in
set_option maxHeartbeats 16000000 in
theorem core (nm : ByteArray) (ct : Int) (va : Value) (L : List (List UInt8 × Int × Int × List UInt8)) (vp : Value) (P : List (List UInt8 × Int × Int × List UInt8)) (ok : Bool) (S : List (List UInt8 × Int × Int × List UInt8)) (w : World) (hn : nm.size ≤ maxLen) (ha : RRow w va L) (hxa : Hid (∀ x ∈ L, x.1.length ≤ maxLen ∧ x.2.2.2.length ≤ maxLen)) (hpp : RRow w vp P) (hxp : Hid (∀ x ∈ P, x.1.length ≤ maxLen ∧ x.2.2.2.length ≤ maxLen)) (hE : EnvZ w) (hSL : S.length ≤ 480)
    (HS0 : Hid (∀ g gp W, nm.size ≤ 1048576 → L.length ≤ 1048576 → Hid (∀ x ∈ L, x.1.length ≤ 1048576 ∧ x.2.2.2.length ≤ 1048576) → Hid (∀ x ∈ P, x.1.length ≤ 1048576 ∧ x.2.2.2.length ≤ 1048576) → P.length ≤ 1048576 → QRow W g L → QRow W gp P → Calls Tryz.prog 6 #[ZonV nm ct (.slice (some ⟨g, 0, none⟩) L.length L.length), (.slice (some ⟨gp, 0, none⟩) P.length P.length)] W fun e w' => (∃ u, e = .returned (.tuple #[u, .bool ok]) ∧ RRow w' u S) ∧ Below W.heap.size W w'))
    (HI0 : Hid (∀ g gp W, EnvZ W → nm.size ≤ 1048576 → L.length ≤ 1048576 → Hid (∀ x ∈ L, x.1.length ≤ 1048576 ∧ x.2.2.2.length ≤ 1048576) → Hid (∀ x ∈ P, x.1.length ≤ 1048576 ∧ x.2.2.2.length ≤ 1048576) → P.length ≤ 1048576 → QRow W g L → QRow W gp P → Calls Tryz.prog 9 #[ZonV nm ct (.slice (some ⟨g, 0, none⟩) L.length L.length), (.slice (some ⟨gp, 0, none⟩) P.length P.length)] W fun e w' => (∃ u, e = .returned (.tuple #[u, .bool ok]) ∧ OwnQ w' W.heap.size u S) ∧ Below W.heap.size W w')) :
    Calls Tryz.prog 3 #[ZonV nm ct va, vp] w fun e w' => e = .returned (.bool true) ∧ Below w.heap.size w w' := by
  obtain ⟨aa, ca, hva, _, hca, _⟩ := id ha
  obtain ⟨pa, pc, hvp, _, hpc, _⟩ := id hpp
  have HSZ : Hid (∀ W, Below w.heap.size w W → Calls Tryz.prog 4 #[ZonV nm ct va, .int .i64 1048576] W fun e w' => (∃ q : Int, e = .returned (.int .i64 q) ∧ (q = -1 ∨ (0 ≤ q ∧ q = 1048576 - (nm.size : Int) - (L.length : Int) - (wtR L : Int)))) ∧ Below W.heap.size W w') := fun W hW => szZone_any nm ct va L 1048576 W hn (ha.kept hW) hxa (by omega) (by omega)
  have HSR : Hid (∀ (left : Int) W, 0 ≤ left → left ≤ 1048576 → Below w.heap.size w W → Calls Tryz.prog 5 #[vp, .int .i64 left] W fun e w' => (∃ q : Int, e = .returned (.int .i64 q) ∧ ((q = -1 ∧ left < (P.length : Int) + (wtR P : Int)) ∨ (q = left - (P.length : Int) - (wtR P : Int) ∧ 0 ≤ q))) ∧ Below W.heap.size W w') := fun left W h0 h1 hW => szRecordS_any vp P left W (hpp.kept hW) hxp h0 h1
  have HTO : Hid (L.length ≤ 1048576 → ∀ W, Below w.heap.size w W → Calls Tryz.prog 7 #[ZonV nm ct va] W fun e w' => (∃ g, e = .returned (ZonV nm ct (.slice (some ⟨g, 0, none⟩) L.length L.length)) ∧ W.heap.size ≤ g ∧ QRow w' g L) ∧ Below W.heap.size W w') := fun h1 W hW => toZone_any nm ct va L W (ha.kept hW) h1
  have HTR0 : Hid (P.length ≤ 1048576 → ∀ W, Below w.heap.size w W → Calls Tryz.prog 8 #[vp] W fun e w' => (∃ g, e = .returned (.slice (some ⟨g, 0, none⟩) P.length P.length) ∧ W.heap.size ≤ g ∧ QRow w' g P) ∧ Below W.heap.size W w') := fun h W hW => (toRecordS_any vp P W (hpp.kept hW) h).mono fun e w' h => ⟨⟨_, h.1, Nat.le_refl _, h.2.1⟩, h.2.2⟩
  subst hva
  subst hvp
  clear ha hpp
  unfold ZonV at HSZ HTO ⊢
  go_enter Tryz.func3, Tryz.ntmps3
  go_wp2_with fail
  refine (HSZ.out _ ((Below.refl w.heap.size w).alloc (Nat.le_refl _) _)).mono ?_
  rintro e w1 ⟨⟨q, rfl, hq⟩, hb1⟩
  have hbw1 : Below w.heap.size w w1 := ((Below.refl w.heap.size w).alloc (Nat.le_refl _) _).trans (hb1.mono (by simp))
  have HP1 : Hid (w1.heap[w.heap.size]? = some (.cells #[.string nm, .int .i64 ct, .slice aa L.length ca] 24)) := (hb1.block w.heap.size (by simp)).trans (blk_new _ _)
  have hz1 : w.heap.size < w1.heap.size := Nat.lt_of_lt_of_le (by simp) hb1.size
  clear hb1
  rcases hq with rfl | ⟨hq0, hqe⟩
  · go_wp2_with fail
    go_ret
    exact ⟨rfl, hbw1⟩
  · obtain ⟨hn', hL, hL2⟩ := sz_zone hq0 hqe
    have hq1 : q ≤ 1048576 := by omega
    have HL2 : Hid (∀ x ∈ L, x.1.length ≤ 1048576 ∧ x.2.2.2.length ≤ 1048576) := hL2
    clear hqe hL2 HSZ
    go_wp2_with fail
    refine (HSR.out q _ hq0 hq1 hbw1).mono ?_
    rintro e w1b ⟨⟨q2, rfl, hq2⟩, hb1b⟩
    have hbw1b : Below w.heap.size w w1b := hbw1.trans (hb1b.mono hbw1.size)
    have HP1b : Hid (w1b.heap[w.heap.size]? = some (.cells #[.string nm, .int .i64 ct, .slice aa L.length ca] 24)) := (hb1b.block w.heap.size hz1).trans HP1.out
    have hz1b : w.heap.size < w1b.heap.size := Nat.lt_of_lt_of_le hz1 hb1b.size
    clear hb1b HP1 hbw1 hz1
    rcases hq2 with ⟨rfl, _⟩ | ⟨hq2e, hq20⟩
    · go_wp2_with fail
      go_ret
      exact ⟨rfl, hbw1b⟩
    · have hPw : (P.length : Int) + (wtR P : Int) ≤ 1048576 := by omega
      have hP : P.length ≤ 1048576 := by omega
      have HP2 : Hid (∀ x ∈ P, x.1.length ≤ 1048576 ∧ x.2.2.2.length ≤ 1048576) := fun x hx => by
        have h := wtR_mem hx
        exact ⟨by omega, by omega⟩
      clear hq2e HSR hPw
      have g20 : decide (q2 < 0) = false := by simp; omega
      have HT : Hid (∀ W, Below w.heap.size w W → Calls Tryz.prog 7 #[(.agg #[.string nm, .int .i64 ct, .slice aa L.length ca])] W fun e w' => (∃ g, e = .returned ((.agg #[.string nm, .int .i64 ct, .slice (some ⟨g, 0, none⟩) L.length L.length])) ∧ W.heap.size ≤ g ∧ QRow w' g L) ∧ Below W.heap.size W w') := HTO.out hL
      have HTR : Hid (∀ W, Below w.heap.size w W → Calls Tryz.prog 8 #[.slice pa P.length pc] W fun e w' => (∃ g, e = .returned (.slice (some ⟨g, 0, none⟩) P.length P.length) ∧ W.heap.size ≤ g ∧ QRow w' g P) ∧ Below W.heap.size W w') := HTR0.out hP
      have HSP : Hid (∀ g gp W, QRow W g L → QRow W gp P → Calls Tryz.prog 6 #[ZonV nm ct (.slice (some ⟨g, 0, none⟩) L.length L.length), (.slice (some ⟨gp, 0, none⟩) P.length P.length)] W fun e w' => (∃ u, e = .returned (.tuple #[u, .bool ok]) ∧ RRow w' u S) ∧ Below W.heap.size W w') := fun g gp W h1 h2 => HS0.out g gp W hn' hL HL2 HP2 hP h1 h2
      have HI : Hid (∀ g gp W, EnvZ W → QRow W g L → QRow W gp P → Calls Tryz.prog 9 #[ZonV nm ct (.slice (some ⟨g, 0, none⟩) L.length L.length), (.slice (some ⟨gp, 0, none⟩) P.length P.length)] W fun e w' => (∃ u, e = .returned (.tuple #[u, .bool ok]) ∧ OwnQ w' W.heap.size u S) ∧ Below W.heap.size W w') := fun g gp W hW h1 h2 => HI0.out g gp W hW hn' hL HL2 HP2 hP h1 h2
      have HEQ : Hid (∀ g1 g2 W, QRow W g1 L → QRow W g2 L → Calls Tryz.prog 11 #[ZonV nm ct (.slice (some ⟨g1, 0, none⟩) L.length L.length), ZonV nm ct (.slice (some ⟨g2, 0, none⟩) L.length L.length)] W fun e w' => e = .returned (.bool true) ∧ Below W.heap.size W w') := fun g1 g2 W h1 h2 => eqZone_same nm ct _ _ L W (h1.row (Nat.le_refl _) (by unfold maxLen; omega)) (h2.row (Nat.le_refl _) (by unfold maxLen; omega))
      have HEP : Hid (∀ g1 g2 W, QRow W g1 P → QRow W g2 P → Calls Tryz.prog 10 #[(.slice (some ⟨g1, 0, none⟩) P.length P.length), (.slice (some ⟨g2, 0, none⟩) P.length P.length)] W fun e w' => e = .returned (.bool true) ∧ Below W.heap.size W w') := fun g1 g2 W h1 h2 => eqRecordS_same _ _ P W (h1.row (Nat.le_refl _) (by unfold maxLen; omega)) (h2.row (Nat.le_refl _) (by unfold maxLen; omega))
      have HMZ : Hid (∀ g base W, base ≤ g → QRow W g L → Calls Tryz.prog 12 #[ZonV nm ct (.slice (some ⟨g, 0, none⟩) L.length L.length), .int .i64 1] W fun e w' => e = .returned (.int .i64 (1 + 4 * (L.length : Int))) ∧ Kpt W w' (fun k => k = g)) := fun g base W hbg h1 => (markZone_any nm ct _ L base 1 W (.inr ⟨g, L.length, rfl, Nat.le_refl _, by unfold maxLen; omega, hbg, h1⟩) hL (by omega) (by omega)).mono fun e w' h => ⟨h.1, h.2.2.mono (fun k _ hk => by injection hk with hk; exact hk.symm)⟩
      have HMP : Hid (∀ g W, QRow W g P → Calls Tryz.prog 13 #[(.slice (some ⟨g, 0, none⟩) P.length P.length), .int .i64 (1 + 4 * (L.length : Int))] W fun e w' => e = .returned (.int .i64 (1 + 4 * (L.length : Int) + 4 * (P.length : Int))) ∧ Kpt W w' (fun k => k = g)) := fun g W h1 => by
        have h := markRecordS_any (.slice (some ⟨g, 0, none⟩) P.length P.length) P g (1 + 4 * L.length) W (.inr ⟨g, P.length, rfl, Nat.le_refl _, by unfold maxLen; omega, Nat.le_refl _, h1⟩) hP (by omega) (by omega)
        have e1 : ((1 + 4 * L.length : Nat) : Int) = 1 + 4 * (L.length : Int) := by omega
        rw [e1] at h
        exact h.mono fun e w' h => ⟨h.1, (grown_kpt h.2.2).mono (fun k _ hk => by injection hk with hk; exact hk.symm)⟩
      have HMR : Hid (∀ v base W, OwnQ W base v S → Calls Tryz.prog 13 #[v, .int .i64 1] W fun e w' => e = .returned (.int .i64 (1 + 4 * (S.length : Int))) ∧ OwnQ w' base v (mrks 1 S.length) ∧ W.grownBy w' v.ownBlock) := fun v base W h1 => markRecordS_any v S base 1 W h1 (by omega) (by omega) (by omega)
      have HHD : Hid (∀ v base W, OwnQ W base v (mrks 1 S.length) → Calls Tryz.prog 14 #[v, .int .i64 1] W fun e w' => e = .returned (.int .i64 (1 + 4 * (S.length : Int))) ∧ Below W.heap.size W w') := fun v base W h1 => heldRecordS_any v S.length 1 W h1.row (by omega) (by omega) (by omega)
      have HES : Hid (∀ v1 v2 W, RRow W v1 S → RRow W v2 S → Calls Tryz.prog 10 #[v1, v2] W fun e w' => e = .returned (.bool true) ∧ Below W.heap.size W w') := fun v1 v2 W h1 h2 => eqRecordS_same v1 v2 S W h1 h2
      obtain ⟨p, hp⟩ : ∃ p : Int, p = 1 + 4 * (S.length : Int) := ⟨_, rfl⟩
      rw [← hp] at HMR HHD
      obtain ⟨pz, hpz⟩ : ∃ pz : Int, pz = 1 + 4 * (L.length : Int) := ⟨_, rfl⟩
      rw [← hpz] at HMZ HMP
      obtain ⟨pk, hpk⟩ : ∃ pk : Int, pk = pz + 4 * (P.length : Int) := ⟨_, rfl⟩
      rw [← hpk] at HMP
      have hp0 : decide (p < 0) = false := by simp; omega
      have hpp : (p != p) = false := by simp
      have hk0 : decide (pk < 0) = false := by simp; omega
      have e2 : (ok != ok) = false := by simp
      clear hp hpz hpk
      unfold ZonV at HSP HI HEQ HMZ
      obtain ⟨⟨p0, p1, p2⟩, _⟩ := zon_cells HP1b.out
      clear HTO HTR0 HI0 HS0
      go_wp2_with fail
      refine (HT.out _ hbw1b).mono ?_
      rintro e w2 ⟨⟨g1, rfl, hg1, hqa⟩, hb2⟩
      clear p0 p1 p2
      have hbw2 : Below w.heap.size w w2 := hbw1b.trans (hb2.mono hbw1b.size)
      have HP2' : Hid (w2.heap[w.heap.size]? = some (.cells #[.string nm, .int .i64 ct, .slice aa L.length ca] 24)) := (hb2.block w.heap.size hz1b).trans HP1b.out
      have hz2 : w.heap.size < w2.heap.size := Nat.lt_of_lt_of_le hz1b hb2.size
      have HQA : Hid (QRow w2 g1 L) := hqa
      clear hqa hg1 hb2 HP1b hbw1b
      go_wp2_with fail
      refine (HTR.out _ hbw2).mono ?_
      rintro e w2b ⟨⟨gp1, rfl, hgp1, hqp⟩, hb2b⟩
      have hbw2b : Below w.heap.size w w2b := hbw2.trans (hb2b.mono hbw2.size)
      have HP2b : Hid (w2b.heap[w.heap.size]? = some (.cells #[.string nm, .int .i64 ct, .slice aa L.length ca] 24)) := (hb2b.block w.heap.size hz2).trans HP2'.out
      have hz2b : w.heap.size < w2b.heap.size := Nat.lt_of_lt_of_le hz2 hb2b.size
      have HQ2 : Hid (QRow w2b g1 L) := HQA.out.kept hb2b
      have HQP2 : Hid (QRow w2b gp1 P) := hqp
      clear hqp hgp1 hb2b HP2' hbw2 HQA hz2
      go_wp2_with fail
      refine (HSP.out g1 gp1 _ HQ2.out HQP2.out).mono ?_
      rintro e w3 ⟨⟨u0, rfl, hr0⟩, hb3⟩
      have hbw3 : Below w.heap.size w w3 := hbw2b.trans (hb3.mono hbw2b.size)
      have HP3 : Hid (w3.heap[w.heap.size]? = some (.cells #[.string nm, .int .i64 ct, .slice aa L.length ca] 24)) := (hb3.block w.heap.size hz2b).trans HP2b.out
      have hz3 : w.heap.size < w3.heap.size := Nat.lt_of_lt_of_le hz2b hb3.size
      obtain ⟨a0, k0, hu0, _, hk0', hrow0⟩ := id hr0
      have HBL0 : Hid (∀ g o n c, u0 = .slice (some ⟨g, o, none⟩) n c → S ≠ [] → g < w3.heap.size) := fun g o n c he hne => by
        rcases hrow0 with h | ⟨b, o', hb', hbl, _⟩
        · exact absurd h hne
        · rw [hu0, hb'] at he; injection he with he _ _; injection he with he; injection he with he; omega
      have HR0 : Hid (RRow w3 u0 S) := hr0
      subst hu0
      obtain ⟨⟨p0, p1, p2⟩, _⟩ := zon_cells HP3.out
      clear HQ2 HQP2 hb3 HP2b hbw2b hr0 hrow0 HSP
      go_wp2_with fail
      refine (HT.out _ hbw3).mono ?_
      rintro e w4 ⟨⟨g3, rfl, hg3, hqa⟩, hb4⟩
      clear p0 p1 p2
      have hbw4 : Below w.heap.size w w4 := hbw3.trans (hb4.mono hbw3.size)
      have HP4 : Hid (w4.heap[w.heap.size]? = some (.cells #[.string nm, .int .i64 ct, .slice aa L.length ca] 24)) := (hb4.block w.heap.size hz3).trans HP3.out
      have hz4 : w.heap.size < w4.heap.size := Nat.lt_of_lt_of_le hz3 hb4.size
      have hz34 : w3.heap.size ≤ w4.heap.size := hb4.size
      have HQ4 : Hid (QRow w4 g3 L) := hqa
      have hg3l : g3 < w4.heap.size := hqa.1
      have HR4 : Hid (RRow w4 (.slice a0 S.length k0) S) := HR0.out.kept hb4
      obtain ⟨A4, hA4⟩ : ∃ A4, A4 = w4.alloc (.cells #[.string nm, .int .i64 ct, .slice (some ⟨g3, 0, none⟩) L.length L.length] 31) := ⟨_, rfl⟩
      have HA4 : Hid (w4.alloc (.cells #[.string nm, .int .i64 ct, .slice (some ⟨g3, 0, none⟩) L.length L.length] 31) = A4) := hA4.symm
      have hbA : Below w4.heap.size w4 A4 := by rw [hA4]; exact (Below.refl _ _).alloc (Nat.le_refl _) _
      have hzA : w4.heap.size + 1 = A4.heap.size := by rw [hA4]; simp
      have HXA : Hid (A4.heap[w4.heap.size]? = some (.cells #[.string nm, .int .i64 ct, .slice (some ⟨g3, 0, none⟩) L.length L.length] 31)) := by rw [hA4]; exact blk_new _ _
      have hbwA : Below w.heap.size w A4 := hbw4.trans (hbA.mono hbw4.size)
      clear hqa hb4 HP3 hbw3 hA4
      go_wp2_with fail
      rw [HA4.out]
      refine (HTR.out _ hbwA).mono ?_
      rintro e w4b ⟨⟨gp3, rfl, hgp3, hqp⟩, hb4b⟩
      have hb44 : Below w4.heap.size w4 w4b := hbA.trans (hb4b.mono (by omega))
      have hbw4b : Below w.heap.size w w4b := hbwA.trans (hb4b.mono hbwA.size)
      have hz4b : A4.heap.size ≤ w4b.heap.size := hb4b.size
      have HX4b : Hid (w4b.heap[w4.heap.size]? = some (.cells #[.string nm, .int .i64 ct, .slice (some ⟨g3, 0, none⟩) L.length L.length] 31)) := (hb4b.block w4.heap.size (by omega)).trans HXA.out
      have HP4b : Hid (w4b.heap[w.heap.size]? = some (.cells #[.string nm, .int .i64 ct, .slice aa L.length ca] 24)) := (hb44.block w.heap.size hz4).trans HP4.out
      have HR4b : Hid (RRow w4b (.slice a0 S.length k0) S) := HR4.out.kept hb44
      have HQ4b : Hid (QRow w4b g3 L) := HQ4.out.kept hb44
      have HQP4 : Hid (QRow w4b gp3 P) := hqp
      have hgp3l : gp3 < w4b.heap.size := hqp.1
      obtain ⟨⟨x0, x1, x2⟩, _⟩ := zon_cells HX4b.out
      clear hqp hb4b hb44 HXA hbwA hbA HP4 HR4 HQ4
      go_wp2_with fail
      refine (HI.out g3 gp3 _ (hE.below hbw4b) HQ4b.out HQP4.out).mono ?_
      rintro e w5 ⟨⟨u1, rfl, ho1⟩, hb5⟩
      clear x0 x1 x2
      obtain ⟨a1, k1, hu1, hk1⟩ := ho1.shape
      subst hu1
      have HLT : Hid (∀ g, (Value.slice a1 S.length k1).ownBlock = some g → w4b.heap.size ≤ g ∧ g < w5.heap.size) := ho1.lt
      have HO5 : Hid (OwnQ w5 w4b.heap.size (.slice a1 S.length k1) S) := ho1
      clear ho1
      have hbw5 : Below w.heap.size w w5 := hbw4b.trans (hb5.mono hbw4b.size)
      have hz45 : w4b.heap.size ≤ w5.heap.size := hb5.size
      have HP5 : Hid (w5.heap[w.heap.size]? = some (.cells #[.string nm, .int .i64 ct, .slice aa L.length ca] 24)) := (hb5.block w.heap.size (by omega)).trans HP4b.out
      have HX5 : Hid (w5.heap[w4.heap.size]? = some (.cells #[.string nm, .int .i64 ct, .slice (some ⟨g3, 0, none⟩) L.length L.length] 31)) := (hb5.block w4.heap.size (by omega)).trans HX4b.out
      have HR5 : Hid (RRow w5 (.slice a0 S.length k0) S) := HR4b.out.kept hb5
      have HQ5 : Hid (QRow w5 g3 L) := HQ4b.out.kept hb5
      have HQP5 : Hid (QRow w5 gp3 P) := HQP4.out.kept hb5
      clear hb5 HP4b HX4b HR4b HQ4b HQP4
      go_wp2_with fail
      refine (HES.out _ _ _ HO5.out.row HR5.out).mono ?_
      rintro e w6 ⟨rfl, hb6⟩
      have hbw6 : Below w.heap.size w w6 := hbw5.trans (hb6.mono hbw5.size)
      have hz6 : w5.heap.size ≤ w6.heap.size := hb6.size
      have HP6 : Hid (w6.heap[w.heap.size]? = some (.cells #[.string nm, .int .i64 ct, .slice aa L.length ca] 24)) := (hb6.block w.heap.size (by omega)).trans HP5.out
      have HX6 : Hid (w6.heap[w4.heap.size]? = some (.cells #[.string nm, .int .i64 ct, .slice (some ⟨g3, 0, none⟩) L.length L.length] 31)) := (hb6.block w4.heap.size (by omega)).trans HX5.out
      have HO6 : Hid (OwnQ w6 w4b.heap.size (.slice a1 S.length k1) S) := HO5.out.kept hb6
      have HR6 : Hid (RRow w6 (.slice a0 S.length k0) S) := HR5.out.kept hb6
      have HQ6 : Hid (QRow w6 g3 L) := HQ5.out.kept hb6
      have HQP6 : Hid (QRow w6 gp3 P) := HQP5.out.kept hb6
      clear hb6 HP5 HX5 HO5 HR5 HQ5 HQP5
      have HC : Hid (∀ W, Below w6.heap.size w6 W → (W.cell? ⟨w.heap.size, 0, none⟩ = some (.string nm) ∧ W.cell? ⟨w.heap.size, 1, none⟩ = some (.int .i64 ct) ∧ W.cell? ⟨w.heap.size, 2, none⟩ = some (.slice aa L.length ca)) ∧ (W.cell? ⟨w4.heap.size, 0, none⟩ = some (.string nm) ∧ W.cell? ⟨w4.heap.size, 1, none⟩ = some (.int .i64 ct) ∧ W.cell? ⟨w4.heap.size, 2, none⟩ = some (.slice (some ⟨g3, 0, none⟩) L.length L.length)) ∧ Below w6.heap.size w6 W) := fun W hW =>
        ⟨(zon_cells ((hW.block w.heap.size (by omega)).trans HP6.out)).1, (zon_cells ((hW.block w4.heap.size (by omega)).trans HX6.out)).1, hW⟩
      have HT6 : Hid (∀ W, Below w6.heap.size w6 W → Calls Tryz.prog 7 #[(.agg #[.string nm, .int .i64 ct, .slice aa L.length ca])] W fun e w' => (∃ g, e = .returned ((.agg #[.string nm, .int .i64 ct, .slice (some ⟨g, 0, none⟩) L.length L.length])) ∧ W.heap.size ≤ g ∧ QRow w' g L) ∧ Below W.heap.size W w') := fun W hW => HT.out W (hbw6.trans (hW.mono hbw6.size))
      have HEQ6 : Hid (∀ g W, Below w6.heap.size w6 W → QRow W g L → Calls Tryz.prog 11 #[(.agg #[.string nm, .int .i64 ct, .slice (some ⟨g3, 0, none⟩) L.length L.length]), (.agg #[.string nm, .int .i64 ct, .slice (some ⟨g, 0, none⟩) L.length L.length])] W fun e w' => e = .returned (.bool true) ∧ Below W.heap.size W w') := fun g W hW h1 => HEQ.out g3 g W (HQ6.out.kept hW) h1
      have HTRN : Hid (∀ W W', Below w6.heap.size w6 W → Below W.heap.size W W' → Below w6.heap.size w6 W') := fun W W' h1 h2 => h1.trans (h2.mono h1.size)
      have hbz : Below w6.heap.size w6 w6 := Below.refl _ _
      have hbd : Below w6.heap.size w6 w6.drew := (Below.refl _ _).drew
      go_wp2_with fail
      go_region_held3 (fun W => (W.cell? ⟨w.heap.size, 0, none⟩ = some (.string nm) ∧ W.cell? ⟨w.heap.size, 1, none⟩ = some (.int .i64 ct) ∧ W.cell? ⟨w.heap.size, 2, none⟩ = some (.slice aa L.length ca)) ∧ (W.cell? ⟨w4.heap.size, 0, none⟩ = some (.string nm) ∧ W.cell? ⟨w4.heap.size, 1, none⟩ = some (.int .i64 ct) ∧ W.cell? ⟨w4.heap.size, 2, none⟩ = some (.slice (some ⟨g3, 0, none⟩) L.length L.length)) ∧ Below w6.heap.size w6 W) (first | exact HC.out _ (by assumption) | exact HC.out _ (Below.drew (by assumption)))
        (first
        | (go_at_call 7; refine (HT6.out _ (by assumption)).mono ?_; rintro e w7 ⟨⟨g5, rfl, _, hqa6⟩, hb7⟩; have hb67 := HTRN.out _ _ (by assumption) hb7)
        | (go_at_call 11; refine (HEQ6.out _ _ (by assumption) (by assumption)).mono ?_; rintro e w8 ⟨rfl, hb8⟩; have hb68 := HTRN.out _ _ (by assumption) hb8))
      clear hb8 HC HT6 HEQ6 HTRN hbz hbd
      (try clear hb7 hb67 hqa6)
      have hbw8 : Below w.heap.size w w8 := hbw6.trans (hb68.mono hbw6.size)
      have hz8 : w6.heap.size ≤ w8.heap.size := hb68.size
      have HP8 : Hid (w8.heap[w.heap.size]? = some (.cells #[.string nm, .int .i64 ct, .slice aa L.length ca] 24)) := (hb68.block w.heap.size (by omega)).trans HP6.out
      have HX8 : Hid (w8.heap[w4.heap.size]? = some (.cells #[.string nm, .int .i64 ct, .slice (some ⟨g3, 0, none⟩) L.length L.length] 31)) := (hb68.block w4.heap.size (by omega)).trans HX6.out
      have HO8 : Hid (OwnQ w8 w4b.heap.size (.slice a1 S.length k1) S) := HO6.out.kept hb68
      have HR8 : Hid (RRow w8 (.slice a0 S.length k0) S) := HR6.out.kept hb68
      have HQ8 : Hid (QRow w8 g3 L) := HQ6.out.kept hb68
      have HQP8 : Hid (QRow w8 gp3 P) := HQP6.out.kept hb68
      clear hb68 HP6 HX6 HO6 HR6 HQ6 HQP6
      go_wp2_with fail
      refine (HTR.out _ hbw8).mono ?_
      rintro e w8b ⟨⟨gp5, rfl, hgp5, hqp⟩, hb8b⟩
      have HQN : Hid (QRow w8b gp5 P) := hqp
      clear hqp
      have hbw8b : Below w.heap.size w w8b := hbw8.trans (hb8b.mono hbw8.size)
      have hz8b : w8.heap.size ≤ w8b.heap.size := hb8b.size
      have HP8b : Hid (w8b.heap[w.heap.size]? = some (.cells #[.string nm, .int .i64 ct, .slice aa L.length ca] 24)) := (hb8b.block w.heap.size (by omega)).trans HP8.out
      have HX8b : Hid (w8b.heap[w4.heap.size]? = some (.cells #[.string nm, .int .i64 ct, .slice (some ⟨g3, 0, none⟩) L.length L.length] 31)) := (hb8b.block w4.heap.size (by omega)).trans HX8.out
      have HO8b : Hid (OwnQ w8b w4b.heap.size (.slice a1 S.length k1) S) := HO8.out.kept hb8b
      have HR8b : Hid (RRow w8b (.slice a0 S.length k0) S) := HR8.out.kept hb8b
      have HQ8b : Hid (QRow w8b g3 L) := HQ8.out.kept hb8b
      have HQP8b : Hid (QRow w8b gp3 P) := HQP8.out.kept hb8b
      clear hb8b HP8 HX8 HO8 HR8 HQ8 HQP8
      go_wp2_with fail
      refine (HEP.out gp3 gp5 _ HQP8b.out HQN.out).mono ?_
      rintro e w8c ⟨rfl, hb8c⟩
      have hbw8c : Below w.heap.size w w8c := hbw8b.trans (hb8c.mono hbw8b.size)
      have hz8c : w8b.heap.size ≤ w8c.heap.size := hb8c.size
      have HP8c : Hid (w8c.heap[w.heap.size]? = some (.cells #[.string nm, .int .i64 ct, .slice aa L.length ca] 24)) := (hb8c.block w.heap.size (by omega)).trans HP8b.out
      have HX8c : Hid (w8c.heap[w4.heap.size]? = some (.cells #[.string nm, .int .i64 ct, .slice (some ⟨g3, 0, none⟩) L.length L.length] 31)) := (hb8c.block w4.heap.size (by omega)).trans HX8b.out
      have HO8c : Hid (OwnQ w8c w4b.heap.size (.slice a1 S.length k1) S) := HO8b.out.kept hb8c
      have HR8c : Hid (RRow w8c (.slice a0 S.length k0) S) := HR8b.out.kept hb8c
      have HQ8c : Hid (QRow w8c g3 L) := HQ8b.out.kept hb8c
      have HQP8c : Hid (QRow w8c gp3 P) := HQP8b.out.kept hb8c
      clear hb8c HP8b HX8b HO8b HR8b HQ8b HQP8b
      obtain ⟨⟨x0, x1, x2⟩, _⟩ := zon_cells HX8c.out
      go_wp2_with fail
      refine (HMZ.out g3 w3.heap.size _ hg3 HQ8c.out).mono ?_
      rintro e w9 ⟨rfl, hk9⟩
      clear x0 x1 x2
      have hz9 : w8c.heap.size ≤ w9.heap.size := hk9.size
      have hbw9 : Below w.heap.size w w9 := hbw8c.trans (hk9.below hbw8c.size (fun k hk h => by omega))
      have HP9 : Hid (w9.heap[w.heap.size]? = some (.cells #[.string nm, .int .i64 ct, .slice aa L.length ca] 24)) := (hk9.block w.heap.size (by omega) (fun h => by omega)).trans HP8c.out
      have HO9 : Hid (OwnQ w9 w4b.heap.size (.slice a1 S.length k1) S) := HO8c.out.kpt hk9 (fun g hg h => by have h1 := HLT.out g hg; omega)
      have HR9 : Hid (RRow w9 (.slice a0 S.length k0) S) := HR8c.out.kpt hk9 (fun g o n c he hne h => by have h1 := HBL0.out g o n c he hne; omega)
      have HQP9 : Hid (QRow w9 gp3 P) := HQP8c.out.kpt hk9 (fun h => by omega)
      clear hk9 HP8c HO8c HR8c HQP8c HX8c HQ8c
      go_wp2_with fail
      refine (HMP.out gp3 _ HQP9.out).mono ?_
      rintro e w9b ⟨rfl, hk9b⟩
      have hz9b : w9.heap.size ≤ w9b.heap.size := hk9b.size
      have hbw9b : Below w.heap.size w w9b := hbw9.trans (hk9b.below hbw9.size (fun k hk h => by omega))
      have HP9b : Hid (w9b.heap[w.heap.size]? = some (.cells #[.string nm, .int .i64 ct, .slice aa L.length ca] 24)) := (hk9b.block w.heap.size (by omega) (fun h => by omega)).trans HP9.out
      have HO9b : Hid (OwnQ w9b w4b.heap.size (.slice a1 S.length k1) S) := HO9.out.kpt hk9b (fun g hg h => by have h1 := HLT.out g hg; omega)
      have HR9b : Hid (RRow w9b (.slice a0 S.length k0) S) := HR9.out.kpt hk9b (fun g o n c he hne h => by have h1 := HBL0.out g o n c he hne; omega)
      clear hk9b HP9 HO9 HR9 HQP9
      go_wp2_with fail
      refine (HES.out _ _ _ HO9b.out.row HR9b.out).mono ?_
      rintro e w10 ⟨rfl, hb10⟩
      have hbw10 : Below w.heap.size w w10 := hbw9b.trans (hb10.mono hbw9b.size)
      have hz10 : w9b.heap.size ≤ w10.heap.size := hb10.size
      have HP10 : Hid (w10.heap[w.heap.size]? = some (.cells #[.string nm, .int .i64 ct, .slice aa L.length ca] 24)) := (hb10.block w.heap.size (by omega)).trans HP9b.out
      have HO10 : Hid (OwnQ w10 w4b.heap.size (.slice a1 S.length k1) S) := HO9b.out.kept hb10
      have HR10 : Hid (RRow w10 (.slice a0 S.length k0) S) := HR9b.out.kept hb10
      clear hb10 HP9b HO9b HR9b
      go_wp2_with fail
      refine (HMR.out _ _ _ HO10.out).mono ?_
      rintro e w11 ⟨rfl, ho11, hg11⟩
      have hk11 := grown_kpt hg11
      have HM11 : Hid (OwnQ w11 w4b.heap.size (.slice a1 S.length k1) (mrks 1 S.length)) := ho11
      clear ho11 hg11
      have hz11 : w10.heap.size ≤ w11.heap.size := hk11.size
      have hbw11 : Below w.heap.size w w11 := hbw10.trans (hk11.below hbw10.size (fun k hk h => by have h2 := HLT.out _ h; omega))
      have HP11 : Hid (w11.heap[w.heap.size]? = some (.cells #[.string nm, .int .i64 ct, .slice aa L.length ca] 24)) := (hk11.block w.heap.size (by omega) (fun h => by have h2 := HLT.out _ h; omega)).trans HP10.out
      have HR11 : Hid (RRow w11 (.slice a0 S.length k0) S) := HR10.out.kpt hk11 (fun g o n c he hne h => by have h1 := HBL0.out g o n c he hne; have h2 := HLT.out _ h; omega)
      clear hk11 HP10 HR10 HO10
      go_wp2_with fail
      refine (HHD.out _ _ _ HM11.out).mono ?_
      rintro e w12 ⟨rfl, hb12⟩
      have hbw12 : Below w.heap.size w w12 := hbw11.trans (hb12.mono hbw11.size)
      have hz12 : w11.heap.size ≤ w12.heap.size := hb12.size
      have HP12 : Hid (w12.heap[w.heap.size]? = some (.cells #[.string nm, .int .i64 ct, .slice aa L.length ca] 24)) := (hb12.block w.heap.size (by omega)).trans HP11.out
      have HM12 : Hid (OwnQ w12 w4b.heap.size (.slice a1 S.length k1) (mrks 1 S.length)) := HM11.out.kept hb12
      have HR12 : Hid (RRow w12 (.slice a0 S.length k0) S) := HR11.out.kept hb12
      clear hb12 HP11 HM11 HR11
      obtain ⟨⟨p0, p1, p2⟩, _⟩ := zon_cells HP12.out
      go_wp2_with fail
      refine (HT.out _ hbw12).mono ?_
      rintro e w13 ⟨⟨g7, rfl, hg7, hqa⟩, hb13⟩
      clear p0 p1 p2
      have HQ13 : Hid (QRow w13 g7 L) := hqa
      clear hqa hg7
      have hbw13 : Below w.heap.size w w13 := hbw12.trans (hb13.mono hbw12.size)
      have hz13 : w12.heap.size ≤ w13.heap.size := hb13.size
      have HP13 : Hid (w13.heap[w.heap.size]? = some (.cells #[.string nm, .int .i64 ct, .slice aa L.length ca] 24)) := (hb13.block w.heap.size (by omega)).trans HP12.out
      have HM13 : Hid (OwnQ w13 w4b.heap.size (.slice a1 S.length k1) (mrks 1 S.length)) := HM12.out.kept hb13
      have HR13 : Hid (RRow w13 (.slice a0 S.length k0) S) := HR12.out.kept hb13
      clear hb13 HP12 HM12 HR12
      go_wp2_with fail
      refine (HTR.out _ hbw13).mono ?_
      rintro e w13b ⟨⟨gp7, rfl, hgp7, hqp⟩, hb13b⟩
      have HQ13b : Hid (QRow w13b g7 L) := HQ13.out.kept hb13b
      have HQP13b : Hid (QRow w13b gp7 P) := hqp
      clear hqp hgp7 HQ13
      have hbw13b : Below w.heap.size w w13b := hbw13.trans (hb13b.mono hbw13.size)
      have hz13b : w13.heap.size ≤ w13b.heap.size := hb13b.size
      have HP13b : Hid (w13b.heap[w.heap.size]? = some (.cells #[.string nm, .int .i64 ct, .slice aa L.length ca] 24)) := (hb13b.block w.heap.size (by omega)).trans HP13.out
      have HM13b : Hid (OwnQ w13b w4b.heap.size (.slice a1 S.length k1) (mrks 1 S.length)) := HM13.out.kept hb13b
      have HR13b : Hid (RRow w13b (.slice a0 S.length k0) S) := HR13.out.kept hb13b
      clear hb13b HP13 HM13 HR13
      go_wp2_with fail
      refine (HI.out g7 gp7 _ (hE.below hbw13b) HQ13b.out HQP13b.out).mono ?_
      rintro e w14 ⟨⟨u2, rfl, ho2⟩, hb14⟩
      obtain ⟨a2, k2, hu2, hk2⟩ := ho2.shape
      subst hu2
      have HRR2 : Hid (RRow w14 (.slice a2 S.length k2) S) := ho2.row
      clear ho2 HQ13b HQP13b
      have hbw14 : Below w.heap.size w w14 := hbw13b.trans (hb14.mono hbw13b.size)
      have hz14 : w13b.heap.size ≤ w14.heap.size := hb14.size
      have HP14 : Hid (w14.heap[w.heap.size]? = some (.cells #[.string nm, .int .i64 ct, .slice aa L.length ca] 24)) := (hb14.block w.heap.size (by omega)).trans HP13b.out
      have HM14 : Hid (OwnQ w14 w4b.heap.size (.slice a1 S.length k1) (mrks 1 S.length)) := HM13b.out.kept hb14
      have HR14 : Hid (RRow w14 (.slice a0 S.length k0) S) := HR13b.out.kept hb14
      clear hb14 HP13b HM13b HR13b
      go_wp2_with fail
      refine (HES.out _ _ _ HRR2.out HR14.out).mono ?_
      rintro e w15 ⟨rfl, hb15⟩
      have hbw15 : Below w.heap.size w w15 := hbw14.trans (hb15.mono hbw14.size)
      have hz15 : w14.heap.size ≤ w15.heap.size := hb15.size
      have HP15 : Hid (w15.heap[w.heap.size]? = some (.cells #[.string nm, .int .i64 ct, .slice aa L.length ca] 24)) := (hb15.block w.heap.size (by omega)).trans HP14.out
      have HM15 : Hid (OwnQ w15 w4b.heap.size (.slice a1 S.length k1) (mrks 1 S.length)) := HM14.out.kept hb15
      have HR15 : Hid (RRow w15 (.slice a0 S.length k0) S) := HR14.out.kept hb15
      clear hb15 HP14 HM14 HR14
      go_wp2_with fail
      refine (HHD.out _ _ _ HM15.out).mono ?_
      rintro e w16 ⟨rfl, hb16⟩
      have hbw16 : Below w.heap.size w w16 := hbw15.trans (hb16.mono hbw15.size)
      go_wp2_with fail
      go_ret
      exact ⟨rfl, hbw16⟩

set_option maxRecDepth 20000 in
set_option maxHeartbeats 1000000 in
theorem walk (nm : ByteArray) (ct : Int) (va : Value) (L : List (List UInt8 × Int × Int × List UInt8)) (vp : Value) (P : List (List UInt8 × Int × Int × List UInt8)) (w : World) (hn : nm.size ≤ maxLen) (ha : RRow w va L) (hxa : Hid (∀ x ∈ L, x.1.length ≤ maxLen ∧ x.2.2.2.length ≤ maxLen)) (_hc : -9223372036854775808 ≤ ct ∧ ct ≤ 9223372036854775807) (hpp : RRow w vp P) (hxp : Hid (∀ x ∈ P, x.1.length ≤ maxLen ∧ x.2.2.2.length ≤ maxLen)) (hE : EnvZ w) :
    Calls Tryz.prog 3 #[ZonV nm ct va, vp] w fun e w' => e = .returned (.bool true) ∧ Below w.heap.size w w' := by
  have la : L.length ≤ maxLen := by obtain ⟨_, cap, _, h1, h2, _⟩ := ha; omega
  have lp : P.length ≤ maxLen := by obtain ⟨_, cap, _, h1, h2, _⟩ := hpp; omega
  exact core nm ct va L vp P _ _ w hn ha hxa hpp hxp hE (glueX_len _ _ _ _) (fun g gp W h1 h2 h3 h4 _ q qp => sGlueFor_any nm ct _ L _ P W (q.row (Nat.le_refl _) la) (qp.row (Nat.le_refl _) lp) h1 h2 h3 h4) (fun g gp W hW h1 h2 h3 h4 _ q qp => iGlueFor_any nm ct _ L _ P W (q.row (Nat.le_refl _) la) (qp.row (Nat.le_refl _) lp) h1 h2 h3 h4 hW)
end Go.Proofs.YtjkabglaldkjgaaGreatDoorRR.glueFor
