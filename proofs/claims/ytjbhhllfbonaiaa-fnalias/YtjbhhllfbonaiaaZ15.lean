import Derived.Test.YtjbhhllfbonaiaaZ14
import Derived.Deep.LoopGhost
import Derived.Deep.RegionHeld3
import Derived.Test.YtjbhhllfbonaiaaZ09
import Derived.Deep.MidRow
namespace Go.Proofs.Ytjbhhllfbonaiaa
open Go.RowKit

/-- Columns that the call owns, or nil. -/
def OwnC (w : World) (base : Nat) (v : Value) (O : List ColT) : Prop := (v = .slice none 0 0 ∧ O = []) ∨ ∃ g cap, v = .slice (some ⟨g, 0, none⟩) O.length cap ∧ O.length ≤ cap ∧ cap ≤ maxLen ∧ base ≤ g ∧ CoRow w g O
def AlA (w' : World) (base : Nat) (ok : Bool) (O : List ColT) (e : Ending) : Prop := ∃ v, e = .returned (.tuple #[v, .bool ok]) ∧ OwnC w' base v (if ok then O else [])
theorem ala_off (w' : World) (base : Nat) (O : List ColT) : AlA w' base false O (.returned (.tuple #[.slice none 0 0, .bool false])) := ⟨_, rfl, .inl ⟨rfl, rfl⟩⟩

set_option maxRecDepth 20000 in
set_option maxHeartbeats 8000000 in
theorem sAliasOf_any (v : Value) (A : List Int) (w : World) (hr : ZRow .i64 w v A) (hl : A.length ≤ 1048576) :
    Calls Try.prog 6 #[v] w fun e w' => AlA w' w.heap.size (goodW A) (aliL A) e ∧ Below w.heap.size w w' := by
  have HG : Hid (Calls Try.prog 19 #[v] w fun e w' => e = .returned (.bool (goodW A)) ∧ w' = w) := sGoodWeights_any v A w hr hl
  cases hg : goodW A with
  | false =>
    rw [hg] at HG
    obtain ⟨va, vc, rfl, _, _, _⟩ := zrow_value hr
    clear hr hg
    go_enter Try.func6, Try.ntmps6
    go_wp2_with fail
    refine HG.out.mono ?_
    rintro e w1 ⟨rfl, rfl⟩
    go_wp2_with fail
    go_ret2
    exact ⟨ala_off _ _ _, Below.refl _ _⟩
  | true =>
    rw [hg] at HG
    obtain ⟨⟨hp1, hp12⟩, hwt, hpos⟩ := goodW_parts hg
    have HTT : Hid (Calls Try.prog 20 #[v] w fun e w' => e = .returned (.int .i64 A.sum) ∧ w' = w) := l12Total_any v A w hr hl (all_sm hwt)
    obtain ⟨va, vc, rfl, hvc, hvm, HROW⟩ := zrow_value hr
    obtain ⟨b, o, ha, hbl, hcel⟩ := HROW.out (by omega)
    subst ha
    have HCA : Hid (∀ W, Below w.heap.size w W → ∀ k, (hk : k < A.length) → W.cell? ⟨b, o + k, none⟩ = some (.int .i64 (A[k]))) := fun W hW k hk => by rw [hW.cell (p := ⟨b, o + k, none⟩) hbl]; exact hcel k hk
    have HWB : Hid (∀ k, (hk : k < A.length) → 0 ≤ A[k] ∧ A[k] ≤ 50) := fun k hk => wt_in (List.all_eq_true.1 hwt _ (List.getElem_mem hk))
    have HI0 : Hid (InvR A.sum (begR A) ∧ cntU (begR A) = (A.length : Int)) := begR_inv hg
    have hT : 0 < A.sum ∧ A.sum ≤ 600 := by have := wt_sum A hwt; omega
    obtain ⟨T, hTe⟩ : ∃ T, T = A.sum := ⟨_, rfl⟩
    have HTE : Hid (T = A.sum) := hTe
    rw [← hTe] at HTT HI0 hT
    obtain ⟨n, hn⟩ : ∃ n, n = A.length := ⟨_, rfl⟩
    have HNA : Hid (A.length = n) := hn.symm
    have hpn : 0 < n ∧ n ≤ 12 := by omega
    have HLB : Hid (leftL (begR A) = A.map (fun a => a * (n : Int))) := by rw [hn]; exact left_beg A
    have HDB : Hid (doneL (begR A) = List.replicate n false) := by rw [hn]; exact done_beg A
    have HOB : Hid (outL T (begR A) = outB T n) := by rw [hn, hTe]; exact out_beg A
    have HAL : Hid (aliL A = itR T (begR A) n) := by rw [hn, hTe]; rfl
    have HBL : Hid ((begR A).length = n) := by show _ = _; rw [begR_length, hn]
    rw [HNA.out] at HG HTT HI0 ⊢
    have hvn : n ≤ vc := by omega
    obtain ⟨i0, hi, hz0, hz1, hz2⟩ := info_parts info_intY
    obtain ⟨j0, hj, hjz0, hjz1, hjz2⟩ := info_parts info_bool
    obtain ⟨k0, hkk, hkz0, hkz1, hkz2⟩ := info_parts info_col
    have HGD : Hid (goodW A = true) := hg
    clear hr hg hwt hpos HROW hcel hTe hn hvc hl hp1 hp12
    go_enter Try.func6, Try.ntmps6
    go_wp2_with fail
    refine HG.out.mono ?_
    rintro e w0 ⟨rfl, rfl⟩
    go_wp2_with fail
    refine HTT.out.mono ?_
    rintro e w ⟨rfl, rfl⟩
    clear HG HTT
    go_wp2_with (at_make; refine wpList_make_full _ rfl _ _ 23 rfl w.heap.size 3 i0 (.int .i64 0) 1 Try.underlying23 hi hz0 hz1 _ _ _ _ n rfl rfl rfl rfl ?b2 ?b3 ?b4 ?_)
    case b2 => rw [hz2]; omega
    case b3 => unfold maxLen; omega
    case b4 => exact Nat.le_refl _
    intro w1 hown1 hgrow1
    have hb1 : Below w.heap.size w w1 := (Below.refl _ _).grown hgrow1 (Nat.le_refl _) (fun k h => by cases h)
    have hL1 : ZSRow w1 w.heap.size (partZ (leftL (begR A)) 0) := made_zs (w := w) (P := leftL (begR A)) (by rw [leftL_length, HBL.out]; simpa [show (Value.int .i64 0).cells = #[Value.int .i64 0] from rfl] using hown1)
    clear hown1 hgrow1
    go_wp2_with (at_make; refine wpList_make_full _ rfl _ _ 46 rfl w1.heap.size 4 j0 (.bool false) 1 Try.underlying46 hj hjz0 hjz1 _ _ _ _ n rfl rfl rfl rfl ?b2 ?b3 ?b4 ?_)
    case b2 => rw [hjz2]; omega
    case b3 => unfold maxLen; omega
    case b4 => exact Nat.le_refl _
    intro w2 hown2 hgrow2
    have hb2 : Below w1.heap.size w1 w2 := (Below.refl _ _).grown hgrow2 (Nat.le_refl _) (fun k h => by cases h)
    have hD2 : BSRow w2 w1.heap.size (doneL (begR A)) := by rw [HDB.out]; exact made_bs ((hown2.lt _ rfl).2) (by simpa [show (Value.bool false).cells = #[Value.bool false] from rfl] using hown2)
    have hL2 := hL1.kept hb2
    clear hown2 hgrow2
    go_wp2_with (at_make; refine wpList_make_full _ rfl _ _ 25 rfl w2.heap.size 30 k0 (.agg #[.int .i64 0, .int .i64 0]) 2 Try.underlying25 hkk hkz0 hkz1 _ _ _ _ n rfl rfl rfl rfl ?b2 ?b3 ?b4 ?_)
    case b2 => rw [hkz2]; omega
    case b3 => unfold maxLen; omega
    case b4 => exact Nat.le_refl _
    intro w3 hown3 hgrow3
    have hb3 : Below w2.heap.size w2 w3 := (Below.refl _ _).grown hgrow3 (Nat.le_refl _) (fun k h => by cases h)
    have hO3 : CoRow w3 w2.heap.size (partC (outL T (begR A)) 0) := made_corow ((hown3.lt _ rfl).2) (by rw [outL_length, HBL.out]; simpa [show (Value.agg #[Value.int .i64 0, Value.int .i64 0]).cells = #[Value.int .i64 0, Value.int .i64 0] from rfl] using hown3)
    have HL3 : Hid (ZSRow w3 w.heap.size (partZ (leftL (begR A)) 0)) := hL2.kept hb3
    have HD3 : Hid (BSRow w3 w1.heap.size (doneL (begR A))) := hD2.kept hb3
    have HO3 : Hid (CoRow w3 w2.heap.size (partC (outL T (begR A)) 0)) := hO3
    have hbw3 : Below w.heap.size w w3 := (hb1.trans (hb2.mono hb1.size)).trans (hb3.mono (hb1.trans (hb2.mono hb1.size)).size)
    have h01 : w.heap.size < w1.heap.size := hL1.1
    have h12 : w1.heap.size < w2.heap.size := hD2.1
    clear hown3 hgrow3 hb1 hb2 hb3 hL1 hL2 hD2 hO3
    obtain ⟨gl, hgl⟩ : ∃ g, g = w.heap.size := ⟨_, rfl⟩
    obtain ⟨gd, hgd⟩ : ∃ g, g = w1.heap.size := ⟨_, rfl⟩
    obtain ⟨go, hgo⟩ : ∃ g, g = w2.heap.size := ⟨_, rfl⟩
    have hwl : w.heap.size ≤ gl := by omega
    go_wp2_with fail
    rw [← hgl] at HL3 h01 ⊢
    rw [← hgd] at HD3 h01 h12 ⊢
    rw [← hgo] at HO3 h12 ⊢
    clear hgl hgd hgo
    go_loopw [29] (fun iv wr => ∃ k : Nat, k ≤ n ∧ iv = .int .i64 (k : Int) ∧ Hid (ZSRow wr gl (partZ (leftL (begR A)) k)) ∧ Hid (BSRow wr gd (doneL (begR A))) ∧ Hid (CoRow wr go (partC (outL T (begR A)) k)) ∧ Below w.heap.size w wr) (fun iv _ => n - (intOf iv).toNat)
    case atStart => exact ⟨0, Nat.zero_le _, rfl, HL3, HD3, HO3, hbw3⟩
    case round =>
      obtain ⟨k, hk, rfl, HL, HD, HO, hb⟩ := hrel
      clear HL3 HD3 HO3 hbw3
      by_cases hlt : k < n
      · have hkA : k < A.length := by rw [HNA.out]; exact hlt
        have hc := HCA.out wr hb k hkA
        have hwb := HWB.out k hkA
        have hll : k < (leftL (begR A)).length := by rw [leftL_length, HBL.out]; exact hlt
        have hlo : k < (outL T (begR A)).length := by rw [outL_length, HBL.out]; exact hlt
        have hpl : k < (partZ (leftL (begR A)) k).length := by rw [partZ_length _ _ (by omega)]; exact hll
        have hpo : k < (partC (outL T (begR A)) k).length := by rw [partC_length _ _ (by omega)]; exact hlo
        obtain ⟨l0, l1⟩ := HL.out.2 k hpl
        obtain ⟨⟨o0, o1⟩, ⟨f0, f1⟩⟩ := HO.out.2 k hpo
        have hsl := HL.out.set k hpl (A[k]'hkA * (n : Int))
        have hso := HO.out.set k hpo (T, (k : Int))
        have e1 : (leftL (begR A))[k]'hll = A[k]'hkA * (n : Int) := by simp only [HLB.out, List.getElem_map]
        have e2 : (outL T (begR A))[k]'hlo = (T, (k : Int)) := by simp only [HOB.out]; exact outB_get T hlt
        rw [← e1, ← partZ_next _ _ hll, e1] at hsl
        have HPC : Hid (partC (outL T (begR A)) (k + 1) = (partC (outL T (begR A)) k).set k (T, (k : Int))) := by show _ = _; rw [partC_next _ _ hlo, e2]
        obtain ⟨ak, hak⟩ : ∃ ak, ak = A[k]'hkA := ⟨_, rfl⟩
        rw [← hak] at hc hwb hsl
        have hml : 0 ≤ ak * (n : Int) ∧ ak * (n : Int) ≤ 600 := by
          refine ⟨Int.mul_nonneg hwb.1 (by omega), ?_⟩
          have := Int.mul_le_mul hwb.2 (show (n : Int) ≤ 12 by omega) (by omega) (by omega)
          simpa using this
        have hwrp : IntKind.i64.wrap (ak * (n : Int)) = ak * (n : Int) := i64_wrap (by omega) (by omega)
        obtain ⟨W1, hW1⟩ : ∃ W, W = wr.setCell ⟨gl, k, none⟩ (.int .i64 (ak * (n : Int))) := ⟨_, rfl⟩
        have hk1 : Kpt wr W1 (fun j => j = gl) := by rw [hW1]; exact kpt_set _ _ _ _ rfl
        have hO1 := HO.out.apart hk1 (by omega)
        obtain ⟨⟨oo0, oo1⟩, ⟨ff0, ff1⟩⟩ := hO1.2 k hpo
        obtain ⟨W2, hW2⟩ : ∃ W, W = putC W1 go (k * 2) (T, (k : Int)) := ⟨_, rfl⟩
        have hk2 : Kpt W1 W2 (fun j => j = go) := by rw [hW2]; exact putC_kpt _ _ _ _
        have HO2 : Hid (CoRow W2 go (partC (outL T (begR A)) (k + 1))) := by rw [hW2, HPC.out]; exact hO1.set k hpo (T, (k : Int))
        have HL2 : Hid (ZSRow W2 gl (partZ (leftL (begR A)) (k + 1))) := by rw [hW1] at hk2; exact hsl.apart hk2 (by omega)
        have HD2 : Hid (BSRow W2 gd (doneL (begR A))) := (HD.out.apart hk1 (by omega)).apart hk2 (by omega)
        have hb2 : Below w.heap.size w W2 := (hb.trans (hk1.below hb.size (fun j hj h => by omega))).trans (hk2.below (Nat.le_trans hb.size hk1.size) (fun j hj h => by omega))
        have HW1 : Hid (wr.setCell ⟨gl, k, none⟩ (.int .i64 (ak * (n : Int))) = W1) := hW1.symm
        have HW2 : Hid ((W1.setCell ⟨go, k * 2, none⟩ (.int .i64 T)).setCell ⟨go, k * 2 + 1, none⟩ (.int .i64 (k : Int)) = W2) := by rw [hW2]; rfl
        obtain ⟨y1, hy1⟩ : ∃ y, y = ((partC (outL T (begR A)) k)[k]'hpo).1 := ⟨_, rfl⟩
        obtain ⟨y2, hy2⟩ : ∃ y, y = ((partC (outL T (begR A)) k)[k]'hpo).2 := ⟨_, rfl⟩
        obtain ⟨y3, hy3⟩ : ∃ y, y = (partZ (leftL (begR A)) k)[k]'hpl := ⟨_, rfl⟩
        rw [← hy1] at oo0
        rw [← hy2] at oo1
        rw [← hy3] at l0
        have hki : (k : Int) < (n : Int) := by omega
        clear hkA hll hlo hpl hpo hsl hso e1 e2 HPC hak o0 o1 f0 f1 hW1 hk1 hO1 hW2 hk2 HL HD HO hy1 hy2 hy3
        go_wp2_with (first | rw [HW1.out] | rw [HW2.out])
        (try rw [HW2.out])
        go_roundw
        case rel => exact ⟨k + 1, by omega, by go_num, HL2, HD2, HO2, hb2⟩
        case measure => simp [intOf]; omega
      · have hkn : n = k := by omega
        subst hkn
        have HLR : Hid (ZSRow wr gl (leftL (itR T (begR A) 0))) := by
          have h := HL.out
          rw [show n = (leftL (begR A)).length by rw [leftL_length, HBL.out], partZ_end] at h
          exact h
        have HOR : Hid (CoRow wr go (outL T (itR T (begR A) 0))) := by
          have h := HO.out
          rw [show n = (outL T (begR A)).length by rw [outL_length, HBL.out], partC_end] at h
          exact h
        have HDR : Hid (BSRow wr gd (doneL (itR T (begR A) 0))) := HD
        have HIN : Hid (InvR T (itR T (begR A) 0) ∧ cntU (itR T (begR A) 0) + (0 : Nat) = (n : Int)) := ⟨HI0.out.1, by have := HI0.out.2; show cntU (begR A) + _ = _; omega⟩
        clear HL HO HD hlt hk HI0 HLB HDB HOB HWB HCA
        go_wp2_with fail
        go_loopg [11, 12] n (fun g s1 s2 wy => ∃ kk : Nat, kk + g = n ∧ Hid (ZSRow wy gl (leftL (itR T (begR A) kk))) ∧ Hid (BSRow wy gd (doneL (itR T (begR A) kk))) ∧ Hid (CoRow wy go (outL T (itR T (begR A) kk))) ∧ Hid (InvR T (itR T (begR A) kk) ∧ cntU (itR T (begR A) kk) + (kk : Int) = (n : Int)) ∧ Below w.heap.size w wy)
        case atStart => exact ⟨0, by omega, HLR, HDR, HOR, HIN, hb⟩
        case round =>
          obtain ⟨kk, hkg, HL, HD, HO, HI, hb⟩ := hrel
          clear HLR HDR HOR HIN
          have HRL : Hid ((itR T (begR A) kk).length = n) := by show _ = _; rw [itR_length]; exact HBL.out
          have HAK : Hid (firstN (smP T (itR T (begR A) kk)) (itR T (begR A) kk).length = none → outL T (itR T (begR A) kk) = aliL A) := fun h => by
            rw [out_end HI.out.1 h, HAL.out, show n = kk + gk by omega, itR_stop h gk]
          have HNK : Hid (itR T (begR A) (kk + 1) = stepR T (itR T (begR A) kk)) := rfl
          obtain ⟨R, hR⟩ : ∃ R, R = itR T (begR A) kk := ⟨_, rfl⟩
          rw [← hR] at HL HD HO HI HRL HAK HNK
          clear hR
          obtain ⟨wy0, rfl⟩ : ∃ W, W = wr := ⟨_, rfl⟩
          go_wp2_with fail
          go_loopw [11, 12, 49] (fun sv gv iv wx => ∃ (k : Nat) (s2 g2 : Int), k ≤ n ∧ iv = .int .i64 (k : Int) ∧ sv = .int .i64 s2 ∧ gv = .int .i64 g2 ∧ Hid (s2 = optI (firstN (smP T R) k) ∧ g2 = optI (firstN (grU T R) k)) ∧ (-1 ≤ s2 ∧ s2 ≤ 12 ∧ -1 ≤ g2 ∧ g2 ≤ 12) ∧ wx = wy0) (fun _ _ iv _ => n - (intOf iv).toNat)
          case atStart => exact ⟨0, -1, -1, Nat.zero_le _, rfl, rfl, rfl, ⟨rfl, rfl⟩, ⟨by omega, by omega, by omega, by omega⟩, rfl⟩
          case round =>
            obtain ⟨k, s2, g2, hk, rfl, rfl, rfl, HSG, hsg, rfl⟩ := hrel
            by_cases hlt : k < n
            · have hkR : k < R.length := by rw [HRL.out]; exact hlt
              have hdl : k < (doneL R).length := by rw [doneL_length]; exact hkR
              have hll : k < (leftL R).length := by rw [leftL_length]; exact hkR
              have d0 := (HD.out.2 k hdl).1
              have l0 := (HL.out.2 k hll).1
              rw [doneL_get hkR] at d0
              rw [leftL_get hkR] at l0
              have HSN : Hid (optI (firstN (smP T R) (k + 1)) = if smP T R k = true ∧ s2 < 0 then (k : Int) else s2) := by show _ = _; rw [optI_next, ← HSG.out.1]
              have HGN : Hid (optI (firstN (grU T R) (k + 1)) = if grU T R k = true ∧ g2 < 0 then (k : Int) else g2) := by show _ = _; rw [optI_next, ← HSG.out.2]
              have HSP : Hid (smP T R k = (isU R k && decide ((R.getD k (0, 0)).1 < T)) ∧ grU T R k = (isU R k && decide (T < (R.getD k (0, 0)).1))) := ⟨rfl, rfl⟩
              obtain ⟨x, hx⟩ : ∃ x, x = (R.getD k (0, 0)).1 := ⟨_, rfl⟩
              rw [← hx] at l0 HSP
              have hki : (k : Int) < (n : Int) := by omega
              have hk12 : (k : Int) ≤ 12 := by omega
              clear hdl hll hkR hx HSG
              cases hu : isU R k with
              | false =>
                rw [hu] at d0 HSP
                have HN : Hid (s2 = optI (firstN (smP T R) (k + 1)) ∧ g2 = optI (firstN (grU T R) (k + 1))) := by
                  refine ⟨?_, ?_⟩
                  · rw [HSN.out, if_neg]; rintro ⟨h1, _⟩; rw [HSP.out.1] at h1; cases h1
                  · rw [HGN.out, if_neg]; rintro ⟨h1, _⟩; rw [HSP.out.2] at h1; cases h1
                clear HSN HGN HSP hu
                go_wp2_with fail
                go_roundw
                case rel => exact ⟨k + 1, s2, g2, by omega, by go_num, rfl, rfl, HN, hsg, by trivial⟩
                case measure => simp [intOf]; omega
              | true =>
                rw [hu] at d0 HSP
                have hnu : (!true) = false := rfl
                clear hu
                by_cases h1 : x < T
                · by_cases h2 : s2 < 0
                  · have HN : Hid ((k : Int) = optI (firstN (smP T R) (k + 1)) ∧ g2 = optI (firstN (grU T R) (k + 1))) := by
                      refine ⟨?_, ?_⟩
                      · rw [HSN.out, if_pos ⟨by rw [HSP.out.1]; simp [h1], h2⟩]
                      · rw [HGN.out, if_neg (fun h => by have h1 := h.1; rw [HSP.out.2] at h1; simp at h1; omega)]
                    clear HSN HGN HSP
                    go_wp2_with fail
                    go_roundw
                    case rel => exact ⟨k + 1, (k : Int), g2, by omega, by go_num, rfl, rfl, HN, ⟨by omega, by omega, by omega, by omega⟩, by trivial⟩
                    case measure => simp [intOf]; omega
                  · have HN : Hid (s2 = optI (firstN (smP T R) (k + 1)) ∧ g2 = optI (firstN (grU T R) (k + 1))) := by
                      refine ⟨?_, ?_⟩
                      · rw [HSN.out, if_neg (fun h => h2 h.2)]
                      · rw [HGN.out, if_neg (fun h => by have h1 := h.1; rw [HSP.out.2] at h1; simp at h1; omega)]
                    clear HSN HGN HSP
                    go_wp2_with fail
                    go_roundw
                    case rel => exact ⟨k + 1, s2, g2, by omega, by go_num, rfl, rfl, HN, ⟨by omega, by omega, by omega, by omega⟩, by trivial⟩
                    case measure => simp [intOf]; omega
                · by_cases h3 : T < x
                  · by_cases h2 : g2 < 0
                    · have HN : Hid (s2 = optI (firstN (smP T R) (k + 1)) ∧ (k : Int) = optI (firstN (grU T R) (k + 1))) := by
                        refine ⟨?_, ?_⟩
                        · rw [HSN.out, if_neg (fun h => by have h1 := h.1; rw [HSP.out.1] at h1; simp at h1; omega)]
                        · rw [HGN.out, if_pos ⟨by rw [HSP.out.2]; simp [h3], h2⟩]
                      clear HSN HGN HSP
                      go_wp2_with fail
                      go_roundw
                      case rel => exact ⟨k + 1, s2, (k : Int), by omega, by go_num, rfl, rfl, HN, ⟨by omega, by omega, by omega, by omega⟩, by trivial⟩
                      case measure => simp [intOf]; omega
                    · have HN : Hid (s2 = optI (firstN (smP T R) (k + 1)) ∧ g2 = optI (firstN (grU T R) (k + 1))) := by
                        refine ⟨?_, ?_⟩
                        · rw [HSN.out, if_neg (fun h => by have h1 := h.1; rw [HSP.out.1] at h1; simp at h1; omega)]
                        · rw [HGN.out, if_neg (fun h => h2 h.2)]
                      clear HSN HGN HSP
                      go_wp2_with fail
                      go_roundw
                      case rel => exact ⟨k + 1, s2, g2, by omega, by go_num, rfl, rfl, HN, ⟨by omega, by omega, by omega, by omega⟩, by trivial⟩
                      case measure => simp [intOf]; omega
                  · have HN : Hid (s2 = optI (firstN (smP T R) (k + 1)) ∧ g2 = optI (firstN (grU T R) (k + 1))) := by
                      refine ⟨?_, ?_⟩
                      · rw [HSN.out, if_neg (fun h => by have h1 := h.1; rw [HSP.out.1] at h1; simp at h1; omega)]
                      · rw [HGN.out, if_neg (fun h => by have h1 := h.1; rw [HSP.out.2] at h1; simp at h1; omega)]
                    clear HSN HGN HSP
                    go_wp2_with fail
                    go_roundw
                    case rel => exact ⟨k + 1, s2, g2, by omega, by go_num, rfl, rfl, HN, ⟨by omega, by omega, by omega, by omega⟩, by trivial⟩
                    case measure => simp [intOf]; omega
            · have hkn : n = k := by omega
              subst hkn
              rw [← HRL.out] at HSG
              cases hs : firstN (smP T R) R.length with
              | none =>
                have e1 : s2 = -1 := by rw [HSG.out.1, hs]; rfl
                subst e1
                have HF : Hid (outL T R = aliL A) := HAK.out hs
                have HALL : Hid ((aliL A).length = n) := by show _ = _; rw [← HF.out, outL_length]; exact HRL.out
                rw [HF.out] at HO
                have HOF : Hid (CoRow wr go (aliL A)) := HO
                clear hs HSG hsg HL HD HO HI HAK HNK HRL hlt
                go_wp2_with fail
                go_ret2
                exact ⟨⟨.slice (some ⟨go, 0, none⟩) n n, rfl, .inr ⟨go, n, by show Value.slice _ n n = Value.slice _ (aliL A).length n; rw [HALL.out], by show (aliL A).length ≤ n; rw [HALL.out]; exact Nat.le_refl _, by unfold maxLen; omega, by omega, HOF.out⟩⟩, hb⟩
              | some s =>
                obtain ⟨g, hgg⟩ := HI.out.1.great hs
                have e1 : s2 = (s : Int) := by rw [HSG.out.1, hs]; rfl
                have e2 : g2 = (g : Int) := by rw [HSG.out.2, grU_gr HI.out.1, hgg]; rfl
                subst e1
                subst e2
                have HNX : Hid (itR T (begR A) (kk + 1) = fillS T R s g) := by show _ = _; rw [HNK.out, stepR_some hs hgg]
                have HNI := HI.out.1.next hs hgg
                obtain ⟨hsR, hgR, hne, hus, hug, hls, hlg⟩ := HI.out.1.facts hs hgg
                have hcn := cntU_nonneg (fillS T R s g)
                have hcc := HI.out.2
                have hgk : kk + 1 ≤ n := by have := HNI.2; omega
                have HIN : Hid (InvR T (itR T (begR A) (kk + 1)) ∧ cntU (itR T (begR A) (kk + 1)) + ((kk + 1 : Nat) : Int) = (n : Int)) := by
                  rw [HNX.out]
                  exact ⟨HNI.1, by have := HNI.2; omega⟩
                have hbs := HI.out.1.bound s hsR
                have hbg := HI.out.1.bound g hgR
                have hlS : s < (leftL R).length := by rw [leftL_length]; exact hsR
                have hlG : g < (leftL R).length := by rw [leftL_length]; exact hgR
                have hdS : s < (doneL R).length := by rw [doneL_length]; exact hsR
                have hoS : s < (outL T R).length := by rw [outL_length]; exact hsR
                have hLF := left_fill (T := T) hsR hgR
                have hDF := done_fill (T := T) hsR hgR hne
                have hOF := out_fill (T := T) hsR hgR hne hug
                rw [← HNX.out] at hLF hDF hOF
                have ls := (HL.out.2 s hlS).1
                obtain ⟨lg, lgf⟩ := HL.out.2 g hlG
                rw [leftL_get hsR] at ls
                rw [leftL_get hgR] at lg
                obtain ⟨ds, dsf⟩ := HD.out.2 s hdS
                obtain ⟨⟨os0, os1⟩, ⟨of0, of1⟩⟩ := HO.out.2 s hoS
                obtain ⟨xs, hxs⟩ : ∃ x, x = (R.getD s (0, 0)).1 := ⟨_, rfl⟩
                obtain ⟨xg, hxg⟩ : ∃ x, x = (R.getD g (0, 0)).1 := ⟨_, rfl⟩
                rw [← hxs] at ls hls hbs hLF hOF
                rw [← hxg] at lg hlg hbg hLF
                obtain ⟨W1, hW1⟩ : ∃ W, W = putC wr go (s * 2) (xs, (g : Int)) := ⟨_, rfl⟩
                have hk1 : Kpt wr W1 (fun j => j = go) := by rw [hW1]; exact putC_kpt _ _ _ _
                have HO1 : Hid (CoRow W1 go (outL T (itR T (begR A) (kk + 1)))) := by rw [hW1, hOF]; exact HO.out.set s hoS (xs, (g : Int))
                have hL1 := HL.out.apart hk1 (by omega)
                have hD1 := HD.out.apart hk1 (by omega)
                have ls1 := (hL1.2 s hlS).1
                obtain ⟨lg1, lgf1⟩ := hL1.2 g hlG
                rw [leftL_get hsR, ← hxs] at ls1
                rw [leftL_get hgR, ← hxg] at lg1
                obtain ⟨W2, hW2⟩ : ∃ W, W = W1.setCell ⟨gl, g, none⟩ (.int .i64 (xg - (T - xs))) := ⟨_, rfl⟩
                have hL2 : ZSRow W2 gl (leftL (itR T (begR A) (kk + 1))) := by rw [hW2, hLF]; exact hL1.set g hlG _
                have hk2 : Kpt W1 W2 (fun j => j = gl) := by rw [hW2]; exact kpt_set _ _ _ _ rfl
                have hD2 := hD1.apart hk2 (by omega)
                have hO2 := HO1.out.apart hk2 (by omega)
                obtain ⟨ds2, df2⟩ := hD2.2 s hdS
                have hk3 := kpt_set W2 gd s (.bool true) (S := fun j => j = gd) rfl
                have HD3 : Hid (BSRow (W2.setCell ⟨gd, s, none⟩ (.bool true)) gd (doneL (itR T (begR A) (kk + 1)))) := by rw [hDF]; exact hD2.set s hdS true
                have HL3 : Hid (ZSRow (W2.setCell ⟨gd, s, none⟩ (.bool true)) gl (leftL (itR T (begR A) (kk + 1)))) := hL2.apart hk3 (by omega)
                have HO3 : Hid (CoRow (W2.setCell ⟨gd, s, none⟩ (.bool true)) go (outL T (itR T (begR A) (kk + 1)))) := hO2.apart hk3 (by omega)
                have hb1 : Below w.heap.size w W1 := hb.trans (hk1.below hb.size (fun j hj h => by omega))
                have hb2 : Below w.heap.size w W2 := hb1.trans (hk2.below hb1.size (fun j hj h => by omega))
                have hb3 : Below w.heap.size w (W2.setCell ⟨gd, s, none⟩ (.bool true)) := hb2.trans (hk3.below hb2.size (fun j hj h => by omega))
                have HW1 : Hid ((wr.setCell ⟨go, s * 2, none⟩ (.int .i64 xs)).setCell ⟨go, s * 2 + 1, none⟩ (.int .i64 (g : Int)) = W1) := by rw [hW1]; rfl
                have HW2 : Hid (W1.setCell ⟨gl, g, none⟩ (.int .i64 (xg - (T - xs))) = W2) := hW2.symm
                have hsn : s < n ∧ g < n := by have := HRL.out; omega
                have hsi : (s : Int) < (n : Int) ∧ (g : Int) < (n : Int) := by omega
                have hwr1 : IntKind.i64.wrap (T - xs) = T - xs := i64_wrap (by omega) (by omega)
                have hwr2 : IntKind.i64.wrap (xg - (T - xs)) = xg - (T - xs) := i64_wrap (by omega) (by omega)
                have hs0 : ¬ ((s : Int) < 0) := by omega
                have hg0 : ¬ ((g : Int) < 0) := by omega
                obtain ⟨yb, hyb⟩ : ∃ y, y = (doneL R)[s]'hdS := ⟨_, rfl⟩
                rw [← hyb] at ds2
                obtain ⟨y1, hy1⟩ : ∃ y, y = ((outL T R)[s]'hoS).1 := ⟨_, rfl⟩
                obtain ⟨y2, hy2⟩ : ∃ y, y = ((outL T R)[s]'hoS).2 := ⟨_, rfl⟩
                rw [← hy1] at os0
                rw [← hy2] at os1
                have hnk : kk + 1 + (gk - 1) = n := by omega
                have hgk0 : gk - 1 < gk := by omega
                clear hs hgg HNI hcn hcc hLF hDF hOF hlS hlG hdS hoS hxs hxg hW1 hk1 hL1 hD1 hW2 hL2 hk2 hD2 hO2 hk3 hb1 hb2 HSG HL HD HO HI HAK HNK HNX hsR hgR hus hug lg lgf ds dsf hyb hy1 hy2 HO1 hlt
                go_wp2_with (rw [HW1.out])
                go_region
                go_wp2_with (first | rw [HW2.out])
                go_roundg (gk - 1)
                case measure => exact hgk0
                case rel => exact ⟨kk + 1, hnk, HL3, HD3, HO3, HIN, hb3.drew⟩
end Go.Proofs.Ytjbhhllfbonaiaa

namespace Go.Proofs.Ytjbhhllfbonaiaa
open Go.RowKit

/-- The cells of columns that lie behind one another. -/
def cellsL (R : List ColT) : List Value := R.flatMap (fun x => [.int .i64 x.1, .int .i64 x.2])
theorem cellsL_length (R : List ColT) : (cellsL R).length = R.length * 2 := by
  unfold cellsL
  induction R with
  | nil => rfl
  | cons x R ih => rw [List.flatMap_cons, List.length_append, ih, List.length_cons]; simp; omega
theorem cellsL_get : ∀ (R : List ColT) (k : Nat), (h : k < R.length) → (cellsL R)[k * 2]? = some (.int .i64 (R[k]).1) ∧ (cellsL R)[k * 2 + 1]? = some (.int .i64 (R[k]).2)
  | [], k, h => by simp at h
  | x :: R, 0, _ => by unfold cellsL; rw [List.flatMap_cons]; exact ⟨rfl, rfl⟩
  | x :: R, k + 1, h => by
    have ih := cellsL_get R k (by simpa using h)
    unfold cellsL at ih ⊢
    rw [List.flatMap_cons, show (k + 1) * 2 = k * 2 + 1 + 1 by omega, List.getElem_cons_succ]
    exact ih
theorem cellsL_set : ∀ (R : List ColT) (k : Nat) (x : ColT), (h : k < R.length) → ((cellsL R).set (k * 2) (.int .i64 x.1)).set (k * 2 + 1) (.int .i64 x.2) = cellsL (R.set k x)
  | [], k, x, h => by simp at h
  | y :: R, 0, x, _ => by unfold cellsL; rw [List.flatMap_cons, List.set_cons_zero, List.flatMap_cons]; rfl
  | y :: R, k + 1, x, h => by
    have ih := cellsL_set R k x (by simpa using h)
    unfold cellsL at ih ⊢
    rw [List.flatMap_cons, List.set_cons_succ, List.flatMap_cons, ← ih, show (k + 1) * 2 = k * 2 + 1 + 1 by omega]
    rfl
/-- Columns in a box of their own. -/
def BoxR (w : World) (b : Nat) (R : List ColT) : Prop := w.heap[b]? = some (.cells (cellsL R).toArray 42)
theorem BoxR.lt {w : World} {b : Nat} {R : List ColT} (h : BoxR w b R) : b < w.heap.size := (Array.getElem?_eq_some_iff.1 h).1
theorem BoxR.kept {w w' : World} {b : Nat} {R : List ColT} (h : BoxR w b R) (hb : Below w.heap.size w w') : BoxR w' b R := (hb.block b h.lt).trans h
theorem BoxR.apart {w w' : World} {b : Nat} {S : Nat → Prop} {R : List ColT} (h : BoxR w b R) (hk : Kpt w w' S) (hn : ¬ S b) : BoxR w' b R := (hk.block b h.lt hn).trans h
theorem BoxR.cell {w : World} {b : Nat} {R : List ColT} (h : BoxR w b R) (j : Nat) (v : Value) (hv : (cellsL R)[j]? = some v) : w.cell? ⟨b, j, none⟩ = some v := by
  have h1 := cell_of_row w b j _ _ (0, 0) h
  rw [h1]
  simpa using hv
theorem BoxR.frozen {w : World} {b : Nat} {R : List ColT} (h : BoxR w b R) (j : Nat) : w.frozen? ⟨b, j, none⟩ = false := by
  have h1 : w.heap[b]? = some (.cells (cellsL R).toArray 42) := h
  unfold World.frozen?; rw [h1]; simp
theorem BoxR.corow {w : World} {b : Nat} {R : List ColT} (h : BoxR w b R) : CoRow w b R :=
  ⟨h.lt, fun j hj => ⟨⟨h.cell _ _ (cellsL_get R j hj).1, h.cell _ _ (cellsL_get R j hj).2⟩, ⟨h.frozen _, h.frozen _⟩⟩⟩
theorem BoxR.range {w : World} {b : Nat} {R : List ColT} (h : BoxR w b R) : w.rangeAt b 0 (cellsL R) := fun j v hv => by rw [Nat.zero_add]; exact h.cell j v hv
theorem BoxR.put {w : World} {b : Nat} {R : List ColT} (h : BoxR w b R) (k : Nat) (hk : k < R.length) (x : ColT) : BoxR (putC w b (k * 2) x) b (R.set k x) := by
  have e0 := heap_setCell_same _ _ (k * 2) _ _ (.int .i64 x.1) h
  have e1 := heap_setCell_same _ _ (k * 2 + 1) _ _ (.int .i64 x.2) e0
  unfold BoxR putC
  rw [e1]
  have h2 := cellsL_set R k x hk
  rw [← h2]
  simp
theorem BoxR.put0 {w : World} {b : Nat} {R : List ColT} (h : BoxR w b R) (k : Nat) (hk : k < R.length) (x : Int) : BoxR (w.setCell ⟨b, k * 2, none⟩ (.int .i64 x)) b (R.set k (x, (R[k]).2)) := by
  have e0 := heap_setCell_same _ _ (k * 2) _ _ (.int .i64 x) h
  unfold BoxR
  rw [e0, ← cellsL_set R k (x, (R[k]).2) hk]
  have h2 := (cellsL_get R k hk).2
  have h3 : ((cellsL R).set (k * 2) (.int .i64 x)).set (k * 2 + 1) (.int .i64 (R[k]).2) = (cellsL R).set (k * 2) (.int .i64 x) := by
    apply List.ext_getElem?
    intro i
    rw [List.getElem?_set]
    by_cases e : k * 2 + 1 = i
    · subst e
      rw [if_pos rfl, if_pos (by rw [List.length_set, cellsL_length]; omega), List.getElem?_set_ne (by omega), h2]
    · rw [if_neg e]
  rw [h3]
  simp
theorem BoxR.put1 {w : World} {b : Nat} {R : List ColT} (h : BoxR w b R) (k : Nat) (hk : k < R.length) (x : Int) : BoxR (w.setCell ⟨b, k * 2 + 1, none⟩ (.int .i64 x)) b (R.set k ((R[k]).1, x)) := by
  have e0 := heap_setCell_same _ _ (k * 2 + 1) _ _ (.int .i64 x) h
  unfold BoxR
  rw [e0, ← cellsL_set R k ((R[k]).1, x) hk]
  have h2 := (cellsL_get R k hk).1
  have h3 : (cellsL R).set (k * 2) (.int .i64 (R[k]).1) = cellsL R := by
    apply List.ext_getElem?
    intro i
    rw [List.getElem?_set]
    by_cases e : k * 2 = i
    · subst e
      rw [if_pos rfl, if_pos (by rw [cellsL_length]; omega), h2]
    · rw [if_neg e]
  simp only
  rw [h3]
  simp
theorem box_new (w : World) (R : List ColT) : BoxR (w.alloc (.cells (cellsL R).toArray 42)) w.heap.size R := trn_new _ _
/-- A whole row stored. -/
theorem wpList_store_rowT {ops : Array Oper} {rest : List Oper} {op : Oper} {a : Act} {w : World} {Q : Exit → Act → World → Prop} (hgd : op.guard = none) (x y : Operand) (ho : op.op = .store 42 x y)
    (b : Nat) (R R' : List ColT) (hx : a.eval x = .pointer (some ⟨b, 0, none⟩)) (hy : a.eval y = .agg (cellsL R').toArray) (hb : BoxR w b R) (hl : R.length = 12) (hl' : R'.length = 12)
    (h : ∀ w', BoxR w' b R' → Kpt w w' (fun j => j = b) → wpList Try.prog ops Q rest (a.put op.dst undef) w') : wpList Try.prog ops Q (op :: rest) a w := by
  have hi : (Try.prog.info? 42).map (fun i => i.size) = some (cellsL R').toArray.size := by
    rw [List.size_toArray, cellsL_length, hl']; kernel_rfl
  have h1 : (cellsL R').toArray.all (fun x => x.oneCell') = true := by
    rw [Array.all_eq_true_iff_forall_mem]
    intro v hv
    have hv2 : v ∈ cellsL R' := by simpa using hv
    unfold cellsL at hv2
    rw [List.mem_flatMap] at hv2
    obtain ⟨c, _, hc⟩ := hv2
    simp only [List.mem_cons, List.not_mem_nil, or_false] at hc
    rcases hc with rfl | rfl <;> rfl
  have hrun := run_storeVar_row (P := Try.prog) w b 42 42 (cellsL R).toArray (cellsL R').toArray hb hi (by simp only [List.size_toArray, cellsL_length, hl, hl']) h1
  have hbx : BoxR (w.setRow b (cellsL R').toArray) b R' := setRow_heap w b _ _ _ _ hb
  have hkp : Kpt w (w.setRow b (cellsL R').toArray) (fun j => j = b) := ⟨rfl, rfl, rfl, by simp, fun k _ hk => setRow_other w b k _ hk⟩
  refine wpList_plain hgd fun K' hK' => ?_
  unfold Oper.wp
  simp [execOp, ho, hx, hy, Instr.storeAt, Instr.sureAddr, hrun, Result.andThen]
  exact hK' _ _ (h _ hbx hkp)
end Go.Proofs.Ytjbhhllfbonaiaa

namespace Go.Proofs.Ytjbhhllfbonaiaa
open Go.RowKit

/-- Twelve columns: behind those of the weights such as neither give nor take. -/
def extR (T : Int) (R : List ColT) : List ColT := R ++ (List.range (12 - R.length)).map (fun (j : Nat) => ((T, ((R.length + j : Nat) : Int)) : ColT))
theorem extR_length {T : Int} {R : List ColT} (h : R.length ≤ 12) : (extR T R).length = 12 := by simp [extR]; omega
theorem extR_lo {T : Int} {R : List ColT} {i : Nat} (h : i < R.length) : (extR T R).getD i (0, 0) = R.getD i (0, 0) := by
  unfold extR
  rw [List.getD_eq_getElem?_getD, List.getElem?_append_left h, ← List.getD_eq_getElem?_getD]
theorem extR_hi {T : Int} {R : List ColT} {i : Nat} (h : R.length ≤ i) (h2 : i < 12) : (extR T R).getD i (0, 0) = (T, (i : Int)) := by
  unfold extR
  rw [List.getD_eq_getElem?_getD, List.getElem?_append_right h, List.getElem?_map, List.getElem?_range (by omega)]
  simp only [Option.map_some, Option.getD_some]
  rw [show R.length + (i - R.length) = i by omega]
def rowP (A : List Int) (T : Int) (k : Nat) : List ColT := (List.range 12).map (fun (i : Nat) => if i < k then ((A.getD i 0 * (A.length : Int), (i : Int)) : ColT) else ((T, (i : Int)) : ColT))
theorem rowP_length (A : List Int) (T : Int) (k : Nat) : (rowP A T k).length = 12 := by simp [rowP]
theorem rowP_get (A : List Int) (T : Int) (k : Nat) {i : Nat} (h : i < 12) : (rowP A T k)[i]'(by rw [rowP_length]; exact h) = if i < k then ((A.getD i 0 * (A.length : Int), (i : Int)) : ColT) else ((T, (i : Int)) : ColT) := by simp [rowP]
theorem rowP_zero (A : List Int) (T : Int) : rowP A T 0 = outB T 12 := by
  apply List.ext_getElem
  · simp [rowP, outB]
  · intro i h1 h2
    have hi : i < 12 := by rw [rowP_length] at h1; exact h1
    rw [rowP_get A T 0 hi, outB_get T hi, if_neg (by omega)]
theorem rowP_next (A : List Int) (T : Int) (k : Nat) (h : k < 12) : rowP A T (k + 1) = (rowP A T k).set k (A.getD k 0 * (A.length : Int), ((rowP A T k)[k]'(by rw [rowP_length]; exact h)).2) := by
  apply List.ext_getElem
  · simp [rowP]
  · intro i h1 h2
    have hi : i < 12 := by rw [rowP_length] at h1; exact h1
    rw [rowP_get A T (k + 1) hi, List.getElem_set]
    by_cases e : k = i
    · subst e
      rw [if_pos (by omega), if_pos rfl, rowP_get A T k hi, if_neg (by omega)]
    · rw [if_neg e, rowP_get A T k hi]
      by_cases e2 : i < k
      · rw [if_pos (by omega), if_pos e2]
      · rw [if_neg (by omega), if_neg e2]
theorem rowP_end {A : List Int} (T : Int) (h : A.length ≤ 12) : rowP A T A.length = extR T (begR A) := by
  apply List.ext_getElem
  · rw [rowP_length, extR_length (by rw [begR_length]; exact h)]
  · intro i h1 h2
    have hi : i < 12 := by rw [rowP_length] at h1; exact h1
    rw [rowP_get A T _ hi, ← cgetD h2]
    by_cases e : i < A.length
    · rw [if_pos e, extR_lo (by rw [begR_length]; exact e), begR_get e]
    · rw [if_neg e, extR_hi (by rw [begR_length]; omega) hi]
theorem box_zero : (cellsL (List.replicate 12 (0, 0))).toArray = #[.int .i64 0, .int .i64 0, .int .i64 0, .int .i64 0, .int .i64 0, .int .i64 0, .int .i64 0, .int .i64 0, .int .i64 0, .int .i64 0, .int .i64 0, .int .i64 0, .int .i64 0, .int .i64 0, .int .i64 0, .int .i64 0, .int .i64 0, .int .i64 0, .int .i64 0, .int .i64 0, .int .i64 0, .int .i64 0, .int .i64 0, .int .i64 0] := rfl
theorem row_is (R : List ColT) (h : R.length = 12) : (Try.prog.info? 42).map (fun i => i.size) = some (cellsL R).length := by rw [cellsL_length, h]; kernel_rfl
theorem row_is2 (R : List ColT) (h : R.length = 12) : (Try.prog.info? 42).map (fun i => i.size) = some (cellsL R).toArray.size := by rw [List.size_toArray]; exact row_is R h

set_option maxRecDepth 20000 in
set_option maxHeartbeats 4000000 in
theorem unfilledRow_any (v : Value) (A : List Int) (T : Int) (w : World) (hr : ZRow .i64 w v A) (hg : goodW A = true) :
    Calls Try.prog 16 #[v, .int .i64 T] w fun e w' => e = .returned (.agg (cellsL (extR T (begR A))).toArray) ∧ Below w.heap.size w w' := by
  obtain ⟨⟨hp1, hp12⟩, hwt, _⟩ := goodW_parts hg
  obtain ⟨va, vc, rfl, hvc, hvm, HROW⟩ := zrow_value hr
  obtain ⟨b, o, ha, hbl, hcel⟩ := HROW.out (by omega)
  subst ha
  have HCA : Hid (∀ W, Below w.heap.size w W → ∀ k, (hk : k < A.length) → W.cell? ⟨b, o + k, none⟩ = some (.int .i64 (A.getD k 0)) ∧ 0 ≤ A.getD k 0 ∧ A.getD k 0 ≤ 50) := fun W hW k hk => by
    rw [hW.cell (p := ⟨b, o + k, none⟩) hbl, getD_get hk]
    exact ⟨hcel k hk, wt_in (List.all_eq_true.1 hwt _ (List.getElem_mem hk))⟩
  have HEN : Hid (rowP A T A.length = extR T (begR A)) := rowP_end T hp12
  have HRN : Hid (∀ k, (h : k < 12) → rowP A T (k + 1) = (rowP A T k).set k (A.getD k 0 * (A.length : Int), ((rowP A T k)[k]'(by rw [rowP_length]; exact h)).2)) := rowP_next A T
  obtain ⟨n, hn⟩ : ∃ n, n = A.length := ⟨_, rfl⟩
  have HNA : Hid (A.length = n) := hn.symm
  rw [← hn] at HEN HRN hp1 hp12 hvc ⊢
  obtain ⟨W0, hW0⟩ : ∃ W0, W0 = (w.alloc (.cells (cellsL (List.replicate 12 (0, 0))).toArray 42)).alloc (.cells (cellsL (List.replicate 12 (0, 0))).toArray 42) := ⟨_, rfl⟩
  have HB0 : Hid (BoxR W0 w.heap.size (List.replicate 12 (0, 0))) := by rw [hW0]; exact (trn_below2 (Below.refl _ _)).1
  have HC0 : Hid (BoxR W0 (w.heap.size + 1) (partC (outB T 12) 0)) := by rw [hW0]; exact (trn_below2 (Below.refl _ _)).2.1
  have hb0 : Below w.heap.size w W0 := by rw [hW0]; exact (trn_below2 (Below.refl _ _)).2.2
  rw [box_zero] at hW0
  have HW0 : Hid ((w.alloc (.cells #[.int .i64 0, .int .i64 0, .int .i64 0, .int .i64 0, .int .i64 0, .int .i64 0, .int .i64 0, .int .i64 0, .int .i64 0, .int .i64 0, .int .i64 0, .int .i64 0, .int .i64 0, .int .i64 0, .int .i64 0, .int .i64 0, .int .i64 0, .int .i64 0, .int .i64 0, .int .i64 0, .int .i64 0, .int .i64 0, .int .i64 0, .int .i64 0] 42)).alloc (.cells #[.int .i64 0, .int .i64 0, .int .i64 0, .int .i64 0, .int .i64 0, .int .i64 0, .int .i64 0, .int .i64 0, .int .i64 0, .int .i64 0, .int .i64 0, .int .i64 0, .int .i64 0, .int .i64 0, .int .i64 0, .int .i64 0, .int .i64 0, .int .i64 0, .int .i64 0, .int .i64 0, .int .i64 0, .int .i64 0, .int .i64 0, .int .i64 0] 42) = W0) := hW0.symm
  clear hW0 hr hg hwt HROW hcel hn
  go_enter Try.func16, Try.ntmps16
  go_wp2_with fail
  rw [HW0.out]
  clear HW0
  go_loopw [9] (fun iv wr => ∃ k : Nat, k ≤ 12 ∧ iv = .int .i64 (k : Int) ∧ Hid (BoxR wr w.heap.size (List.replicate 12 (0, 0))) ∧ Hid (BoxR wr (w.heap.size + 1) (partC (outB T 12) k)) ∧ Below w.heap.size w wr) (fun iv _ => 12 - (intOf iv).toNat)
  case atStart => exact ⟨0, Nat.zero_le _, rfl, HB0, HC0, hb0⟩
  case round =>
    obtain ⟨k, hk, rfl, HB, HC, hb⟩ := hrel
    clear HB0 HC0 hb0
    by_cases hlt : k < 12
    · have hlo : k < (outB T 12).length := by rw [outB_length]; exact hlt
      have hlp : k < (partC (outB T 12) k).length := by rw [partC_length _ _ (by omega)]; exact hlo
      obtain ⟨⟨c0, c1⟩, ⟨f0, f1⟩⟩ := HC.out.corow.2 k hlp
      have hput := HC.out.put k hlp (T, (k : Int))
      have e1 : (outB T 12)[k]'hlo = (T, (k : Int)) := outB_get T hlt
      rw [← e1, ← partC_next _ _ hlo, e1] at hput
      obtain ⟨W1, hW1⟩ : ∃ W, W = putC wr (w.heap.size + 1) (k * 2) (T, (k : Int)) := ⟨_, rfl⟩
      have hk1 : Kpt wr W1 (fun j => j = w.heap.size + 1) := by rw [hW1]; exact putC_kpt _ _ _ _
      have HC1 : Hid (BoxR W1 (w.heap.size + 1) (partC (outB T 12) (k + 1))) := by rw [hW1]; exact hput
      have HB1 : Hid (BoxR W1 w.heap.size (List.replicate 12 (0, 0))) := HB.out.apart hk1 (by omega)
      have hb1 : Below w.heap.size w W1 := hb.trans (hk1.below hb.size (fun j hj h => by omega))
      have HW1 : Hid ((wr.setCell ⟨w.heap.size + 1, k * 2, none⟩ (.int .i64 T)).setCell ⟨w.heap.size + 1, k * 2 + 1, none⟩ (.int .i64 (k : Int)) = W1) := by rw [hW1]; rfl
      obtain ⟨y1, hy1⟩ : ∃ y, y = ((partC (outB T 12) k)[k]'hlp).1 := ⟨_, rfl⟩
      obtain ⟨y2, hy2⟩ : ∃ y, y = ((partC (outB T 12) k)[k]'hlp).2 := ⟨_, rfl⟩
      rw [← hy1] at c0
      rw [← hy2] at c1
      have hki : (k : Int) < 12 := by omega
      clear hlo hlp hput e1 hW1 hk1 HB HC hy1 hy2
      go_wp2_with (rw [HW1.out])
      (try rw [HW1.out])
      go_roundw
      case rel => exact ⟨k + 1, by omega, by go_num, HB1, HC1, hb1⟩
      case measure => simp [intOf]; omega
    · have hk12 : k = 12 := by omega
      subst hk12
      have HCR : Hid (BoxR wr (w.heap.size + 1) (rowP A T 0)) := by
        have h := HC.out
        have e : partC (outB T 12) 12 = outB T 12 := by
          have h2 := partC_end (outB T 12)
          rwa [outB_length] at h2
        rw [e] at h
        rw [rowP_zero]
        exact h
      clear HC hlt hk
      go_wp2_with fail
      go_loopw [20] (fun iv wx => ∃ k : Nat, k ≤ n ∧ iv = .int .i64 (k : Int) ∧ Hid (BoxR wx w.heap.size (List.replicate 12 (0, 0))) ∧ Hid (BoxR wx (w.heap.size + 1) (rowP A T k)) ∧ Below w.heap.size w wx) (fun iv _ => n - (intOf iv).toNat)
      case atStart => exact ⟨0, Nat.zero_le _, rfl, HB, HCR, hb⟩
      case round =>
        obtain ⟨k, hk, rfl, HB2, HC2, hb2⟩ := hrel
        clear HB HCR hb
        by_cases hlt : k < n
        · have hk12 : k < 12 := by omega
          obtain ⟨c0, hw1, hw2⟩ := HCA.out wr hb2 k (by rw [HNA.out]; exact hlt)
          have hlp : k < (rowP A T k).length := by rw [rowP_length]; exact hk12
          obtain ⟨⟨d0, d1⟩, ⟨f0, f1⟩⟩ := HC2.out.corow.2 k hlp
          have hput := HC2.out.put0 k hlp (A.getD k 0 * (n : Int))
          have hnx := HRN.out k hk12
          rw [← hnx] at hput
          obtain ⟨ak, hak⟩ : ∃ ak, ak = A.getD k 0 := ⟨_, rfl⟩
          rw [← hak] at c0 hw1 hw2 hput
          have hml : 0 ≤ ak * (n : Int) ∧ ak * (n : Int) ≤ 600 := by
            refine ⟨Int.mul_nonneg hw1 (by omega), ?_⟩
            have := Int.mul_le_mul hw2 (show (n : Int) ≤ 12 by omega) (by omega) (by omega)
            simpa using this
          have hwrp : IntKind.i64.wrap (ak * (n : Int)) = ak * (n : Int) := i64_wrap (by omega) (by omega)
          have HC3 : Hid (BoxR (wr.setCell ⟨w.heap.size + 1, k * 2, none⟩ (.int .i64 (ak * (n : Int)))) (w.heap.size + 1) (rowP A T (k + 1))) := hput
          have hk3 := kpt_set wr (w.heap.size + 1) (k * 2) (.int .i64 (ak * (n : Int))) (S := fun j => j = w.heap.size + 1) rfl
          have HB3 : Hid (BoxR (wr.setCell ⟨w.heap.size + 1, k * 2, none⟩ (.int .i64 (ak * (n : Int)))) w.heap.size (List.replicate 12 (0, 0))) := HB2.out.apart hk3 (by omega)
          have hb3 : Below w.heap.size w (wr.setCell ⟨w.heap.size + 1, k * 2, none⟩ (.int .i64 (ak * (n : Int)))) := hb2.trans (hk3.below hb2.size (fun j hj h => by omega))
          obtain ⟨y1, hy1⟩ : ∃ y, y = ((rowP A T k)[k]'hlp).1 := ⟨_, rfl⟩
          rw [← hy1] at d0
          have hki : (k : Int) < (n : Int) := by omega
          have hk12i : (k : Int) < 12 := by omega
          clear hlp hput hnx hak hk3 HB2 HC2 d1 f1 hy1
          go_wp2_with fail
          go_roundw
          case rel => exact ⟨k + 1, by omega, by go_num, HB3, HC3, hb3⟩
          case measure => simp [intOf]; omega
        · have hkn : n = k := by omega
          subst hkn
          have HCE : Hid (BoxR wr (w.heap.size + 1) (extR T (begR A))) := by
            have h := HC2.out
            rw [HEN.out] at h
            exact h
          have HEL : Hid ((extR T (begR A)).length = 12) := extR_length (by rw [begR_length, HNA.out]; exact hp12)
          have hrng := HCE.out.range
          have hris := row_is _ HEL.out
          have hbz := HB2.out
          have hel := HEL.out
          clear hlt hk HC2
          go_wp2_with (first | (refine wpList_load_mid rfl 42 (.tmp 5) rfl (w.heap.size + 1) 0 rfl (cellsL (extR T (begR A))) _ hrng Try.underlying42 rfl hris ?_) | (refine wpList_store_rowT rfl (.tmp 4) (.tmp 33) rfl w.heap.size (List.replicate 12 (0, 0)) (extR T (begR A)) rfl rfl hbz rfl hel ?_; intro w5 hbx5 hk5))
          (try simp only [Exit.inBlock, Exit.then])
          have hb5 : Below w.heap.size w w5 := hb2.trans (hk5.below hb2.size (fun j hj h => by omega))
          exact bodyPost_ret (results_cell_row rfl _ _ w.heap.size 42 (cellsL (extR T (begR A))).toArray (0, 0) _ rfl hbx5 Try.underlying42 rfl (row_is2 _ hel)) rfl ⟨rfl, hb5⟩
end Go.Proofs.Ytjbhhllfbonaiaa
