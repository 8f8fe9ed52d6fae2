import Derived.Test.YtbgkocjpenkijaaGreatDoorPackA
import Derived.Test.YtbgkocjpenkijaaGreatDoorInts
namespace Go.Proofs.YtbgkocjpenkijaaGreatDoor
open Go.RowKit

theorem row_drop {w : World} {b o cap : Nat} {P : List (List UInt8)} {i : Nat} (hcap : P.length ≤ cap) (hmax : cap ≤ 9223372036854775807) (hbl : b < w.heap.size) (hc : ∀ j, (hj : j < P.length) → w.cell? ⟨b, o + j, none⟩ = some (S P[j])) :
    Row w (.slice (some ⟨b, o + i, none⟩) (P.length - i) (cap - i)) (P.drop i) := by
  refine ⟨_, cap - i, by rw [List.length_drop], by rw [List.length_drop]; omega, by unfold maxLen; omega, .inr ⟨b, o + i, rfl, hbl, fun j hj => ?_⟩⟩
  have h : j < P.length - i := by simpa using hj
  have := hc (i + j) (by omega)
  rw [List.getElem_drop, ← this, Nat.add_assoc]

theorem joinD_small : ∀ P : List (List UInt8), (∀ p ∈ P, p.length ≤ 20) → (joinD P).length ≤ 21 * P.length
  | [], _ => by simp [joinD]
  | p :: r, h => by
    have h1 := h p (by simp)
    have ih := joinD_small r (fun q hq => h q (by simp [hq]))
    unfold joinD
    split
    · simp; omega
    · simp; omega

/-- What packName tells: labels, up to the longest suffix that was told. -/
def packL (T : List (List UInt8)) (ps : List Nat) : List (List UInt8) → List UInt8
  | [] => [0]
  | x :: r => if T.idxOf (joinD (x :: r)) < T.length then ptr (ps.getD (T.idxOf (joinD (x :: r))) 0) else UInt8.ofNat x.length :: (x ++ packL T ps r)

theorem packL_hit {T P : List (List UInt8)} {ps : List Nat} {k j : Nat} {pre : List UInt8} (h : packL T ps P = pre ++ packL T ps (P.drop k)) (hk : k < P.length) (hi : idxI T (joinD (P.drop k)) = (j : Int)) (hj : j < ps.length) : packL T ps P = pre ++ ptr ps[j] := by
  rw [h, List.drop_eq_getElem_cons hk, packL, ← List.drop_eq_getElem_cons hk]
  unfold idxI at hi
  split at hi
  · rename_i hlt
    have e : T.idxOf (joinD (P.drop k)) = j := by omega
    rw [if_pos hlt, e, List.getD_eq_getElem?_getD, List.getElem?_eq_getElem hj]; rfl
  · omega
theorem packL_miss {T P : List (List UInt8)} {ps : List Nat} {k : Nat} {pre : List UInt8} (h : packL T ps P = pre ++ packL T ps (P.drop k)) (hk : k < P.length) (hi : idxI T (joinD (P.drop k)) < 0) : packL T ps P = (pre ++ UInt8.ofNat P[k].length :: P[k]) ++ packL T ps (P.drop (k + 1)) := by
  rw [h, List.drop_eq_getElem_cons hk, packL, ← List.drop_eq_getElem_cons hk]
  unfold idxI at hi
  split at hi
  · omega
  · rename_i hlt
    rw [if_neg hlt]; simp
theorem idxI_lt {T : List (List UInt8)} {x : List UInt8} {j : Nat} (h : idxI T x = (j : Int)) : j < T.length := by
  unfold idxI at h; split at h <;> omega
theorem idxI_ge (T : List (List UInt8)) (x : List UInt8) : -1 ≤ idxI T x := by
  unfold idxI; split <;> omega

set_option maxRecDepth 20000 in
set_option maxHeartbeats 1000000 in
theorem packName_any (vl vt vp : Value) (P T : List (List UInt8)) (ps : List Nat) (w : World) (hr : Row w vl P) (ht : Row w vt T) (hp : IRow w vp ps) (hlen : T.length = ps.length) (h8 : P.length ≤ 8) (hx : Hid (∀ p ∈ P, p.length ≤ 20)) (hps : Hid (∀ p ∈ ps, p ≤ 600)) (hT : T.length ≤ 1048576) :
    Calls Tryz.prog 114 #[vl, vt, vp] w fun e w' => ∃ v, e = .returned v ∧ w'.ownsRow w.heap.size 5 1 v (packL T ps P).length ((packL T ps P).map B8) ∧ Below w.heap.size w w' := by
  obtain ⟨i0, hi, hz0, hz1, hz2⟩ := info_parts info_byte
  have HR : Hid (Row w vt T) := ht
  have HP : Hid (IRow w vp ps) := hp
  have HLEN : Hid (T.length = ps.length) := hlen
  obtain ⟨a, cap, rfl, hcap, hmax, HROW⟩ := row_valueI hr
  clear hr ht hp hlen
  go_enter Tryz.func114, Tryz.ntmps114
  go_wp2_with fail
  go_loopw [7, 13] (fun v i wr => ∃ (k : Nat) (pre : List UInt8), k ≤ P.length ∧ i = .int .i64 k ∧ Hid (packL T ps P = pre ++ packL T ps (P.drop k)) ∧ pre.length ≤ 21 * k ∧ wr.ownsRow w.heap.size 5 1 v pre.length (pre.map B8) ∧ Below w.heap.size w wr) (fun _ i _ => P.length - (intOf i).toNat)
  case atStart => exact ⟨0, [], Nat.zero_le _, rfl, rfl, Nat.le_refl _, World.ownsRow_nil _ _ _ _, Below.refl _ _⟩
  case round =>
    obtain ⟨k, pre, hk, rfl, HK, hpre, hown, hb⟩ := hrel
    have hbz := hb.size
    by_cases hlt : k < P.length
    · obtain ⟨b, o, ha, hbl, hc⟩ := HROW.out (by omega)
      rw [ha]
      have hcx : wr.cell? ⟨b, o + k, none⟩ = some (.string ⟨(P[k]'hlt).toArray⟩) := by rw [hb.cell (p := ⟨b, o + k, none⟩) hbl]; exact hc k hlt
      have hrow := row_drop (i := k) hcap hmax hbl hc
      have hrow2 := hrow.kept hb
      have HROW2 : Hid (Row wr (.slice (some ⟨b, o + k, none⟩) (P.length - k) (cap - k)) (P.drop k)) := hrow2
      have HJL : Hid ((joinD (P.drop k)).length ≤ 1048576) := by
        have h1 := joinD_small (P.drop k) (fun p h => hx.out p (List.mem_of_mem_drop h))
        rw [List.length_drop] at h1
        exact (show (joinD (P.drop k)).length ≤ 1048576 by omega)
      have hxl := hx.out _ (List.getElem_mem hlt)
      clear hc hrow hrow2
      have HMISS : Hid (idxI T (joinD (P.drop k)) < 0 → packL T ps P = (pre ++ UInt8.ofNat (P[k]'hlt).length :: P[k]'hlt) ++ packL T ps (P.drop (k + 1))) := fun h => packL_miss HK.out hlt h
      have HHIT : Hid (∀ j, (hj : j < ps.length) → idxI T (joinD (P.drop k)) = (j : Int) → packL T ps P = pre ++ ptr ps[j]) := fun j hj h => packL_hit HK.out hlt h hj
      obtain ⟨x, hxe⟩ : ∃ x, x = P[k]'hlt := ⟨_, rfl⟩
      rw [← hxe] at hcx hxl HMISS
      clear hxe
      have HOWN : Hid (wr.ownsRow w.heap.size 5 1 _ pre.length (pre.map B8)) := hown
      clear hown
      go_wp2_with fail
      refine (joinLabels_any _ (P.drop k) _ HROW2.out HJL).mono ?_
      rintro e w2 ⟨rfl, hb2⟩
      have hb02 := hb.trans (hb2.mono hb.size)
      have hown2 := own_below HOWN.out hb2
      have HOWN2 : Hid (w2.ownsRow w.heap.size 5 1 _ pre.length (pre.map B8)) := hown2
      clear hown2 hcx
      go_wp2_with fail
      refine (index_any _ T _ _ (HR.out.kept hb02)).mono ?_
      rintro e w3 ⟨rfl, rfl⟩
      have hge := idxI_ge T (joinD (P.drop k))
      have HLT : Hid (∀ j : Nat, idxI T (joinD (P.drop k)) = (j : Int) → j < T.length) := fun j h => idxI_lt h
      obtain ⟨q, hq⟩ : ∃ q, q = idxI T (joinD (P.drop k)) := ⟨_, rfl⟩
      rw [← hq] at hge HLT HMISS HHIT ⊢
      clear hq
      by_cases hneg : q < 0
      · have HM := HMISS.out hneg
        have HMH : Hid (packL T ps P = (pre ++ UInt8.ofNat x.length :: x) ++ packL T ps (P.drop (k + 1))) := HM
        clear HM
        go_wp2_with fail
        refine (appendLabel_any w _ pre x _ hb02 HOWN2.out (by omega) (by omega)).mono ?_
        rintro e w4 ⟨v4, rfl, hown4, hb4⟩
        go_wp2_with fail
        go_roundw
        case rel => exact ⟨k + 1, pre ++ UInt8.ofNat x.length :: x, by omega, by go_num, HMH, by simp; omega, hown4, hb4⟩
        case measure => simp [intOf]; omega
      · obtain ⟨j, rfl⟩ : ∃ j : Nat, q = (j : Int) := ⟨q.toNat, by omega⟩
        have hjT := HLT.out j rfl
        have hj : j < ps.length := by rw [← HLEN.out]; exact hjT
        have HH : Hid (packL T ps P = pre ++ ptr (ps[j]'hj)) := HHIT.out j hj rfl
        have hpj := hps.out _ (List.getElem_mem hj)
        obtain ⟨ap, cp, hvp, hcp, hmp, HPR⟩ := irow_value (HP.out.kept hb02)
        obtain ⟨bp, op, hap, hbp, hcpx⟩ := HPR.out (by omega)
        have hcj := hcpx j hj
        rw [hvp, hap]
        obtain ⟨pj, hpje⟩ : ∃ pj, pj = ps[j]'hj := ⟨_, rfl⟩
        rw [← hpje] at hcj hpj HH
        clear hcpx hpje HPR hvp hap
        go_wp2_with fail
        refine (appendPointer_any w _ pre pj _ hb02 HOWN2.out (by omega) hpj).mono ?_
        rintro e w4 ⟨v4, rfl, hown4, hb4⟩
        go_wp2_with fail
        go_ret
        exact ⟨_, rfl, by rw [HH.out]; exact hown4, hb4⟩
    · have HE : Hid (packL T ps P = pre ++ [0]) := by rw [HK.out, List.drop_of_length_le (by omega)]; exact rfl
      have hown1 := hown.alloc (.cells #[.int .u8 0] 5)
      go_wp2_with (first | (at_builtin; refine wpList_append_own _ rfl (.tmp 36) (.tmp 37) 22 rfl w.heap.size 5 i0 (.int .u8 0) 1 1 Tryz.underlying22 hi hz0 hz1 hz2 rfl (by decide) _ _ _ rfl hown1 ⟨wr.heap.size, 0, none⟩ 1 1 [.int .u8 0] rfl rfl ?d1 ?d2 ?d3 ?d4 ?d5 ?_))
      case d1 => exact cell_new_one _ _ _
      case d2 => exact one_byte _
      case d3 => unfold maxLen; omega
      case d4 => omega
      case d5 => simp; omega
      intro v1 w1 hown' hgrow _
      have hb1 := below_grown1 hb hown hgrow
      have HO : Hid (w1.ownsRow w.heap.size 5 1 v1 (packL T ps P).length ((packL T ps P).map B8)) := by
        have h : w1.ownsRow w.heap.size 5 1 v1 (pre ++ [0]).length ((pre ++ [0]).map B8) := by
          rw [List.map_append, List.map_cons, show B8 0 = .int .u8 0 from rfl]
          simpa using hown'
        rw [HE.out]; exact h
      clear hown' hgrow hown hown1
      go_wp2_with fail
      go_ret
      exact ⟨_, rfl, HO.out, hb1⟩
end Go.Proofs.YtbgkocjpenkijaaGreatDoor
