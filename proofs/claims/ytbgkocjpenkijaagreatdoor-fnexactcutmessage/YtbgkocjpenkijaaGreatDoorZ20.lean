import Derived.Test.YtbgkocjpenkijaaGreatDoorZ19
import Derived.Test.YtbgkocjpenkijaaGreatDoorZ05
import Derived.Test.YtbgkocjpenkijaaGreatDoorZ08
namespace Go.Proofs.YtbgkocjpenkijaaGreatDoor
open Go.RowKit

/-- The names that stand at places. -/
def putT (l : List UInt8) (ps : List Nat) : List (List UInt8) := ps.map (fun p => nmT (takeN l p))
theorem putT_length (l : List UInt8) (ps : List Nat) : (putT l ps).length = ps.length := by simp [putT]
theorem putT_get (l : List UInt8) (ps : List Nat) (k : Nat) (h : k < ps.length) : (putT l ps)[k]'(by rw [putT_length]; exact h) = nmT (takeN l ps[k]) := by simp [putT]

set_option maxRecDepth 20000 in
set_option maxHeartbeats 1000000 in
theorem namesAt_any (s : ByteArray) (v : Value) (ps : List Nat) (w : World) (hs : s.size ≤ 600) (hr : IRow w v ps) (hps : Hid (∀ p ∈ ps, p ≤ 600)) (hlen : ps.length ≤ 600) (hE : Env w) :
    Calls Tryz.prog 115 #[.string s, v] w fun e w' => ∃ u, e = .returned u ∧ Row w' u (putT s.data.toList ps) ∧ Below w.heap.size w w' := by
  obtain ⟨i0, hi, hz0, hz1, hz2⟩ := info_parts info_string
  obtain ⟨a, cap, rfl, hcap, hmax, HROW⟩ := irow_value hr
  have HPL : Hid ((putT s.data.toList ps).length = ps.length) := putT_length _ _
  clear hr
  go_enter Tryz.func115, Tryz.ntmps115
  go_wp2_with (at_make; refine wpList_make_full _ rfl _ _ 72 rfl w.heap.size 9 i0 (.string ByteArray.empty) 1 Tryz.underlying72 hi hz0 hz1 _ _ _ _ ps.length rfl rfl rfl rfl ?b2 ?b3 ?b4 ?_)
  case b2 => rw [hz2]; omega
  case b3 => unfold maxLen; omega
  case b4 => exact Nat.le_refl _
  intro w1 hown hgrow
  have hb1 : Below w.heap.size w w1 := (Below.refl _ _).grown hgrow (Nat.le_refl _) (fun k h => by cases h)
  have hs1 := made_srow (w := w) (P := putT s.data.toList ps) (by rw [HPL.out]; exact hown)
  obtain ⟨P, hP⟩ : ∃ P, P = putT s.data.toList ps := ⟨_, rfl⟩
  rw [← hP] at hs1
  have HP : Hid (P = putT s.data.toList ps) := hP
  have HPL2 : Hid (P.length = ps.length) := by rw [hP]; exact HPL
  have HS1 : Hid (SRow w1 w.heap.size (part P 0)) := hs1
  clear hown hgrow hs1 hP
  go_wp2_with fail
  go_loopw [13] (fun i wr => ∃ k : Nat, k ≤ ps.length ∧ i = .int .i64 k ∧ Hid (SRow wr w.heap.size (part P k)) ∧ Below w.heap.size w wr) (fun i _ => ps.length - (intOf i).toNat)
  case atStart => exact ⟨0, Nat.zero_le _, rfl, HS1, hb1⟩
  case round =>
    obtain ⟨k, hk, rfl, HR, hb⟩ := hrel
    by_cases hlt : k < ps.length
    · obtain ⟨b, o, ha, hbl, hc⟩ := HROW.out (by omega)
      rw [ha]
      have hcx := hc k hlt
      rw [← hb.cell (p := ⟨b, o + k, none⟩) hbl] at hcx
      have hpk6 := hps.out _ (List.getElem_mem hlt)
      have HPK : Hid (∃ hk : k < P.length, P[k] = nmT (takeN s.data.toList (ps[k]'hlt))) := by
        refine ⟨by rw [HPL2.out]; exact hlt, ?_⟩
        have := putT_get s.data.toList ps k hlt
        rw [← this]; congr 1
      obtain ⟨p, hp⟩ : ∃ p, p = ps[k]'hlt := ⟨_, rfl⟩
      rw [← hp] at hcx hpk6 HPK
      clear hc hp
      have HT : Hid (tkI s.data.toList (p : Int) = takeN s.data.toList p) := tkI_nat hs
      go_wp2_with fail
      refine (iTakeName_any s p _ (by omega) (by omega) (hE.below hb)).mono ?_
      rintro e w2 ⟨rfl, hb2⟩
      unfold tkVal
      have hs2 := HR.out.kept hb2
      have hkP : k < (part P k).length := by rw [part_length P k (by rw [HPL2.out]; exact hk), HPL2.out]; exact hlt
      have hpk := hs2.2 k hkP
      have hcg := hpk.1
      have hfg := hpk.2
      obtain ⟨hkl, hPk⟩ := HPK.out
      have hset := hs2.set k hkP (P[k]'hkl)
      rw [← part_next P k hkl, hPk, ← HT.out] at hset
      obtain ⟨y, hy⟩ : ∃ y, y = nmT (tkI s.data.toList (p : Int)) := ⟨_, rfl⟩
      rw [← hy] at hset ⊢
      have HSS : Hid (SRow (w2.setCell ⟨w.heap.size, k, none⟩ (.string ⟨y.toArray⟩)) w.heap.size (part P (k + 1))) := hset
      obtain ⟨z, hz⟩ : ∃ z, z = (part P k)[k]'hkP := ⟨_, rfl⟩
      rw [← hz] at hcg
      unfold S at hcg
      have hb02 := hb.trans (hb2.mono hb.size)
      clear hset hpk hy hs2 hPk hkl hz hkP hcx
      go_wp2_with fail
      go_roundw
      case rel => exact ⟨k + 1, by omega, by go_num, HSS, hb02.setCell (p := ⟨w.heap.size, k, none⟩) (Nat.le_refl _) _⟩
      case measure => simp [intOf]; omega
    · have hkk : k = P.length := by rw [HPL2.out]; omega
      have HF : Hid (SRow wr w.heap.size P) := by have := HR.out; rw [hkk, part_end] at this; exact this
      clear hkk
      go_wp2_with fail
      go_ret
      refine ⟨_, rfl, ?_, hb⟩
      have h1 := HF.out.row (cap := ps.length) (by rw [HPL2.out]; exact Nat.le_refl _) (by unfold maxLen; omega)
      rw [HPL2.out] at h1
      rw [← HP.out]; exact h1

/-- What PutName tells. -/
def packed (l s : List UInt8) : List UInt8 := packL (putT l (sufs l)) (sufs l) (labelsOf s)
def putR (l s : List UInt8) : Option (List UInt8) := if l.length ≤ 600 ∧ nameB s = true ∧ l.length + (packed l s).length ≤ 600 then some (l ++ packed l s) else none
def putVal (R : Option (List UInt8)) : Ending := .returned (.tuple #[.string ⟨(R.getD []).toArray⟩, .bool R.isSome])
theorem put_none {R : Option (List UInt8)} (h : R = none) : Ending.returned (.tuple #[.string ⟨#[]⟩, .bool false]) = putVal R := by rw [h]; rfl
theorem put_some {R : Option (List UInt8)} {x : ByteArray} {y : List UInt8} (h : R = some y) (hx : x.data.toList = y) : Ending.returned (.tuple #[.string x, .bool true]) = putVal R := by
  rw [h]; unfold putVal; rw [data_eq hx]; rfl
theorem putR_length (l s y : List UInt8) (h : putR l s = some y) : y.length ≤ 600 := by
  unfold putR at h
  split at h
  · rename_i hc
    simp only [Option.some.injEq] at h
    rw [← h, List.length_append]; omega
  · cases h

theorem packL_small (T : List (List UInt8)) (ps : List Nat) : ∀ P : List (List UInt8), (∀ p ∈ P, p.length ≤ 20) → (packL T ps P).length ≤ 21 * P.length + 2
  | [], _ => by simp [packL]
  | x :: r, h => by
    have h1 := h x (by simp)
    have ih := packL_small T ps r (fun q hq => h q (by simp [hq]))
    unfold packL
    split
    · simp [ptr]
    · simp; omega

set_option maxRecDepth 20000 in
set_option maxHeartbeats 1000000 in
theorem iPutName_any (b s : ByteArray) (w : World) (hE : Env w) :
    Calls Tryz.prog 80 #[.string b, .string s] w fun e w' => e = putVal (putR b.data.toList s.data.toList) ∧ Below w.heap.size w w' := by
  cases hN : nameB s.data.toList with
  | false =>
    have HN : Hid (nameB s.data.toList = false) := hN
    have HR : Hid (putR b.data.toList s.data.toList = none) := if_neg (by rw [hN]; simp)
    clear hN
    go_enter Tryz.func80, Tryz.ntmps80
    go_wp2_with fail
    refine (splitName_any s w hE).mono ?_
    rintro e w1 ⟨v, rfl, _, hv, hb⟩
    rw [hv HN.out, HN.out]
    clear hv
    go_wp2_with fail
    go_ret2
    exact ⟨put_none HR.out, hb⟩
  | true =>
    have HN : Hid (nameB s.data.toList = true) := hN
    obtain ⟨hx, h8⟩ := name_labels hN
    have HX : Hid (∀ p ∈ labelsOf s.data.toList, p.length ≤ 20) := fun p hp => (hx p hp).1
    clear hN hx
    by_cases hs : b.size ≤ 600
    · have HT : Hid (sufsT b.data.toList = sufs b.data.toList ∧ decide (b.data.toList.length ≤ 600) = true) := by
        unfold sufsT; rw [data_len, if_pos hs]; exact ⟨rfl, decide_eq_true hs⟩
      go_enter Tryz.func80, Tryz.ntmps80
      go_wp2_with fail
      refine (splitName_any s w hE).mono ?_
      rintro e w1 ⟨v, rfl, hown, _, hb⟩
      rw [HN.out]
      have hrow := row_own (hown HN.out)
      have HROW : Hid (Row w1 v (labelsOf s.data.toList)) := hrow
      have hE1 := hE.below hb
      clear hown hrow
      go_wp2_with fail
      refine (iSuffixesOf_any b w1 hE1).mono ?_
      rintro e w2 ⟨vp, rfl, hownp, hb2⟩
      rw [HT.out.2]
      rw [HT.out.1] at hownp
      have hirow := irow_own hownp
      have HIROW : Hid (IRow w2 vp (sufs b.data.toList)) := hirow
      have hb02 := hb.trans (hb2.mono hb.size)
      have hE2 := hE.below hb02
      have hsl : (sufs b.data.toList).length ≤ 600 := by have h := sufsT_length b.data.toList; rw [HT.out.1] at h; exact h
      have HSM : Hid (∀ p ∈ sufs b.data.toList, p ≤ 600) := by have h := sufsT_mem b.data.toList; rw [HT.out.1] at h; exact h
      have HROW2 : Hid (Row w2 v (labelsOf s.data.toList)) := HROW.out.kept hb2
      clear hownp hirow hE1 hb2
      go_wp2_with fail
      refine (namesAt_any b vp (sufs b.data.toList) w2 hs HIROW.out HSM hsl hE2).mono ?_
      rintro e w3 ⟨u, rfl, hrow3, hb3⟩
      have HT3 : Hid (Row w3 u (putT b.data.toList (sufs b.data.toList))) := hrow3
      have HROW3 : Hid (Row w3 v (labelsOf s.data.toList)) := HROW2.out.kept hb3
      have HIROW3 : Hid (IRow w3 vp (sufs b.data.toList)) := HIROW.out.kept hb3
      have hb03 := hb02.trans (hb3.mono hb02.size)
      clear hrow3 hE2 hb3
      go_wp2_with fail
      refine (packName_any v u vp (labelsOf s.data.toList) (putT b.data.toList (sufs b.data.toList)) (sufs b.data.toList) w3 HROW3.out HT3.out HIROW3.out (putT_length _ _) h8 HX HSM (by rw [putT_length]; omega)).mono ?_
      rintro e w4 ⟨vq, rfl, hownq, hb4⟩
      have hb04 := hb03.trans (hb4.mono hb03.size)
      have hpl := packL_small (putT b.data.toList (sufs b.data.toList)) (sufs b.data.toList) (labelsOf s.data.toList) HX.out
      have HPK : Hid (packL (putT b.data.toList (sufs b.data.toList)) (sufs b.data.toList) (labelsOf s.data.toList) = packed b.data.toList s.data.toList) := rfl
      rw [HPK.out] at hownq hpl
      have hconv := own_string hownq
      obtain ⟨aq, cq, hvq, hcq, hmq⟩ := own_slice hownq
      subst hvq
      obtain ⟨y, hy⟩ : ∃ y, y = packed b.data.toList s.data.toList := ⟨_, rfl⟩
      rw [← hy] at hconv hpl hcq ⊢
      have HY : Hid (y = packed b.data.toList s.data.toList) := hy
      clear hownq hb4 hy
      by_cases hfit : b.size + y.length ≤ 600
      · have HR : Hid (putR b.data.toList s.data.toList = some (b.data.toList ++ y)) := by
          rw [HY.out] at hfit ⊢
          exact if_pos ⟨by rw [data_len]; exact hs, HN.out, by rw [data_len]; exact hfit⟩
        go_wp2_with fail
        go_ret2
        exact ⟨put_some HR.out (by simp), hb04⟩
      · have HR : Hid (putR b.data.toList s.data.toList = none) := by
          rw [HY.out] at hfit
          exact if_neg (fun h => hfit (by have := h.2.2; rw [data_len] at this; exact this))
        go_wp2_with fail
        go_ret2
        exact ⟨put_none HR.out, hb04⟩
    · have HT : Hid (sufsT b.data.toList = [] ∧ decide (b.data.toList.length ≤ 600) = false) := by
        unfold sufsT; rw [data_len, if_neg hs]; exact ⟨rfl, decide_eq_false hs⟩
      have HR : Hid (putR b.data.toList s.data.toList = none) := if_neg (fun h => hs (by have := h.1; rw [data_len] at this; exact this))
      go_enter Tryz.func80, Tryz.ntmps80
      go_wp2_with fail
      refine (splitName_any s w hE).mono ?_
      rintro e w1 ⟨v, rfl, hown, _, hb⟩
      rw [HN.out]
      have hE1 := hE.below hb
      clear hown
      go_wp2_with fail
      refine (iSuffixesOf_any b w1 hE1).mono ?_
      rintro e w2 ⟨vp, rfl, _, hb2⟩
      rw [HT.out.2]
      go_wp2_with fail
      go_ret2
      exact ⟨put_none HR.out, hb.trans (hb2.mono hb.size)⟩
end Go.Proofs.YtbgkocjpenkijaaGreatDoor
