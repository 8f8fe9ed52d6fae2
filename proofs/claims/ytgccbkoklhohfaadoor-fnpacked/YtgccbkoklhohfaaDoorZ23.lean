import Derived.Test.YtgccbkoklhohfaaDoorZ22
import Derived.Test.YtgccbkoklhohfaaDoorZ18
import Derived.Test.YtgccbkoklhohfaaDoorZ13
import Derived.BigRegion
namespace Go.Proofs.YtgccbkoklhohfaaDoor
open Go.RowKit

/-- The names that stand at places. -/
def putT (l : List UInt8) (ps : List Nat) : List (List UInt8) := ps.map (fun p => nmT (takeN l p))
theorem putT_length (l : List UInt8) (ps : List Nat) : (putT l ps).length = ps.length := by simp [putT]
theorem putT_get (l : List UInt8) (ps : List Nat) (k : Nat) (h : k < ps.length) : (putT l ps)[k]'(by rw [putT_length]; exact h) = nmT (takeN l ps[k]) := by simp [putT]

/-- What PutName tells. -/
def packed (l s : List UInt8) : List UInt8 := packL (putT l (sufs l)) (sufs l) (labelsOf s)
def putR (l s : List UInt8) : Option (List UInt8) := if l.length ≤ 600 ∧ nameB s = true ∧ l.length + (packed l s).length ≤ 600 then some (l ++ packed l s) else none
theorem putR_length (l s y : List UInt8) (h : putR l s = some y) : y.length ≤ 600 := by
  unfold putR at h
  split at h
  · rename_i hc
    simp only [Option.some.injEq] at h
    rw [← h, List.length_append]; omega
  · cases h

end Go.Proofs.YtgccbkoklhohfaaDoor

namespace Go.Proofs.YtgccbkoklhohfaaDoor
open Go.RowKit

theorem parent_joinD {Q : List (List UInt8)} (h0 : Q ≠ []) (h : Plain Q) : parentL (joinD Q) = joinD Q.tail := by
  rw [parent_join, cut_joinD Q h0 (fun p hp => (h p hp).2)]
theorem joinD_drop_le (P : List (List UInt8)) (k : Nat) : (joinD (P.drop k)).length ≤ (joinD P).length := by
  by_cases hA : P.take k = []
  · have : P.drop k = P := by
      have h := List.take_append_drop k P
      rw [hA, List.nil_append] at h; exact h
    rw [this]; exact Nat.le_refl _
  · by_cases hB : P.drop k = []
    · rw [hB]; simp [joinD]
    · have := joinD_append _ _ hA hB
      rw [List.take_append_drop] at this
      rw [this]; simp; omega
/-- What is behind some labels of a name is a name. -/
theorem name_drop {l : List UInt8} (h : nameB l = true) (k : Nat) : nameB (joinD ((labelsOf l).drop k)) = true ∧ labelsOf (joinD ((labelsOf l).drop k)) = (labelsOf l).drop k := by
  have hp := (name_plain h).drop k
  have hl : labelsOf (joinD ((labelsOf l).drop k)) = (labelsOf l).drop k := by
    unfold labelsOf
    by_cases h0 : (if l = [] then [] else cut 46 l).drop k = []
    · rw [h0]; simp [joinD]
    · have hp2 : Plain ((if l = [] then [] else cut 46 l).drop k) := hp
      rw [if_neg (plain_ne h0 hp2), cut_joinD _ h0 (fun p h => (hp2 p h).2)]
  refine ⟨?_, hl⟩
  have h2 := joinD_drop_le (labelsOf l) k
  rw [joinD_labels] at h2
  unfold nameB at h ⊢
  rw [hl]
  simp only [Bool.and_eq_true, List.all_eq_true, decide_eq_true_eq] at h ⊢
  refine ⟨fun p hp => h.1 p (List.mem_of_mem_drop hp), by omega, ?_⟩
  rw [List.length_drop]; omega
theorem joinD_drop_ne {l : List UInt8} (h : nameB l = true) {k : Nat} (hk : k < (labelsOf l).length) : joinD ((labelsOf l).drop k) ≠ [] := by
  refine plain_ne ?_ ((name_plain h).drop k)
  intro e
  have := congrArg List.length e
  rw [List.length_drop, List.length_nil] at this; omega

theorem put_hit {l : List UInt8} {ps : List Nat} {P : List (List UInt8)} {k j : Nat} {pre : List UInt8} (h : packL (putT l ps) ps P = pre ++ packL (putT l ps) ps (P.drop k)) (hk : k < P.length) (hj : j < ps.length)
    (hx : nmT (takeN l ps[j]) = joinD (P.drop k)) (hb : ∀ i, (hi : i < ps.length) → i < j → nmT (takeN l ps[i]) ≠ joinD (P.drop k)) : packL (putT l ps) ps P = pre ++ ptr ps[j] := by
  refine packL_hit h hk (idxI_hit (by rw [putT_length]; exact hj) (by rw [putT_get l ps j hj]; exact hx) (fun i hi => ?_)) hj
  rw [putT_get l ps i (by omega)]
  exact hb i (by omega) hi
theorem put_miss {l : List UInt8} {ps : List Nat} {P : List (List UInt8)} {k : Nat} {pre : List UInt8} (h : packL (putT l ps) ps P = pre ++ packL (putT l ps) ps (P.drop k)) (hk : k < P.length)
    (hb : ∀ i, (hi : i < ps.length) → nmT (takeN l ps[i]) ≠ joinD (P.drop k)) : packL (putT l ps) ps P = (pre ++ UInt8.ofNat P[k].length :: P[k]) ++ packL (putT l ps) ps (P.drop (k + 1)) := by
  refine packL_miss h hk ?_
  rw [idxI_miss]
  · omega
  · intro j hj
    rw [putT_length] at hj
    rw [putT_get l ps j hj]
    exact hb j hj

theorem bytes_two {w : World} {p : Nat} (hp : p ≤ 4000) :
    Sem.run Tryd.prog (convert 22 9 (.slice (some ⟨w.heap.size, 0, none⟩) 2 2)) (w.alloc (.cells #[.int .u8 (192 + (p : Int) / 256), .int .u8 ((p : Int) % 256)] 5)) = .ok (.string ⟨(ptr p).toArray⟩) (w.alloc (.cells #[.int .u8 (192 + (p : Int) / 256), .int .u8 ((p : Int) % 256)] 5)) := by
  refine run_convert_bytes_back _ 22 9 5 ⟨w.heap.size, 0, none⟩ 2 (ptr p) Tryd.underlying22 Tryd.underlying5 Tryd.underlying9 (fun j hj => ?_)
  have e1 := b8_ofNat (n := 192 + p / 256) (by omega)
  have e2 := b8_ofNat (n := p % 256) (by omega)
  unfold B8 at e1 e2
  match j, hj with
  | 0, _ =>
    rw [cell_new_two w _ _ 5 0 _ rfl]
    refine congrArg some (Eq.trans ?_ e1.symm)
    congr 1
  | 1, _ =>
    rw [cell_new_two w _ _ 5 1 _ rfl]
    refine congrArg some (Eq.trans ?_ e2.symm)
    congr 1
end Go.Proofs.YtgccbkoklhohfaaDoor

namespace Go.Proofs.YtgccbkoklhohfaaDoor
open Go.RowKit

def strLen : Value → Nat
  | .string x => x.size
  | _ => 0
theorem joinD_lessP {P : List (List UInt8)} (h : Plain P) {k : Nat} (hk : k < P.length) : (joinD (P.drop (k + 1))).length < (joinD (P.drop k)).length := by
  rw [List.drop_eq_getElem_cons hk]
  have hp := (h _ (List.getElem_mem hk)).1
  have hl : 0 < P[k].length := List.length_pos_iff.2 hp
  obtain ⟨r, hr⟩ : ∃ r, r = P.drop (k + 1) := ⟨_, rfl⟩
  rw [← hr]
  by_cases h0 : r = []
  · subst h0; simpa [joinD] using hl
  · rw [joinD, if_neg h0]; simp; omega
theorem ret_strP {x : ByteArray} {l : List UInt8} (h : x.data.toList = l) : Ending.returned (.string x) = .returned (.string ⟨l.toArray⟩) := by rw [data_eq h]

theorem bytes_new_drew {w : World} {n : Int} {x : List UInt8} (hn : n = (x.length : Int)) (hx : x.length ≤ 255) :
    Sem.run Tryd.prog (convert 22 9 (.slice (some ⟨w.heap.size, 0, none⟩) 1 1)) (w.alloc (.cells #[.int .u8 n] 5)).drew = .ok (.string ⟨#[UInt8.ofNat x.length]⟩) (w.alloc (.cells #[.int .u8 n] 5)).drew := by
  refine run_convert_bytes_back _ 22 9 5 ⟨w.heap.size, 0, none⟩ 1 [UInt8.ofNat x.length] Tryd.underlying22 Tryd.underlying5 Tryd.underlying9 (fun j hj => ?_)
  match j, hj with
  | 0, _ =>
    have := b8_ofNat hx
    unfold B8 at this
    have e : (w.alloc (.cells #[.int .u8 n] 5)).drew.cell? ((⟨w.heap.size, 0, none⟩ : Addr).add 0) = some (.int .u8 n) := cell_new_one w (.int .u8 n) 5 0 (.int .u8 n) rfl
    rw [e, hn]
    exact congrArg some this.symm

set_option maxRecDepth 20000 in
set_option maxHeartbeats 4000000 in
theorem l2Put_any (b s : ByteArray) (w : World) (hs : b.size ≤ 4000) (hN : Hid (nameB s.data.toList = true)) :
    Calls Tryd.prog 89 #[.string b, .string s] w fun e w' => e = .returned (.string ⟨(b.data.toList ++ packed b.data.toList s.data.toList).toArray⟩) ∧ Below w.heap.size w w' := by
  obtain ⟨hx20, h8⟩ := name_labels hN.out
  have HX : Hid (∀ p ∈ labelsOf s.data.toList, p.length ≤ 20 ∧ 0 < p.length) := hx20
  have HPL : Hid (Plain (labelsOf s.data.toList)) := name_plain hN.out
  have HND : Hid (∀ k, nameB (joinD ((labelsOf s.data.toList).drop k)) = true ∧ labelsOf (joinD ((labelsOf s.data.toList).drop k)) = (labelsOf s.data.toList).drop k) := fun k => name_drop hN.out k
  have HNE : Hid (∀ k, k < (labelsOf s.data.toList).length → joinD ((labelsOf s.data.toList).drop k) ≠ []) := fun k hk => joinD_drop_ne hN.out hk
  have HJ0 : Hid (joinD ((labelsOf s.data.toList).drop 0) = s.data.toList) := by rw [List.drop_zero]; exact joinD_labels _
  have HJ60 : Hid (∀ k, (joinD ((labelsOf s.data.toList).drop k)).length ≤ 60) := fun k => by
    have h1 := joinD_drop_le (labelsOf s.data.toList) k
    rw [joinD_labels] at h1
    have h2 := hN.out
    unfold nameB at h2
    simp only [Bool.and_eq_true, decide_eq_true_eq] at h2
    omega
  clear hx20
  go_enter Tryd.func89, Tryd.ntmps89
  go_wp2_with fail
  refine (l2Suffixes_any b w hs).mono ?_
  rintro e w1 ⟨vp, rfl, hownp, hb1⟩
  have hsl : (sufs b.data.toList).length ≤ 4000 := Nat.le_trans (sufs_length _) (by rw [data_len]; exact hs)
  have HSM : Hid (∀ p ∈ sufs b.data.toList, p ≤ 4000) := fun p hp => by have h := sufF_mem _ _ _ p hp; rw [data_len] at h; omega
  obtain ⟨ap, cp, hvp, hcp, hmp, HPR⟩ := irow_value (irow_own hownp)
  subst hvp
  obtain ⟨P, hP⟩ : ∃ P, P = labelsOf s.data.toList := ⟨_, rfl⟩
  obtain ⟨ps, hps⟩ : ∃ ps, ps = sufs b.data.toList := ⟨_, rfl⟩
  have HPK : Hid (packed b.data.toList s.data.toList = packL (putT b.data.toList ps) ps P) := by rw [hP, hps]; exact rfl
  rw [← hP] at HX HPL HND HNE HJ0 HJ60 h8
  rw [← hps] at hsl HSM hcp HPR ⊢
  have HS0 : Hid (s = ⟨(joinD (P.drop 0)).toArray⟩) := data_eq HJ0.out.symm
  clear hownp hP hps
  go_wp2_with fail
  go_loopw [1, 6] (fun vs vh wr => ∃ (k : Nat) (pre : List UInt8), k ≤ P.length ∧ vs = .string ⟨(joinD (P.drop k)).toArray⟩ ∧ vh = .string ⟨pre.toArray⟩ ∧ pre.length ≤ 21 * k ∧ Hid (packL (putT b.data.toList ps) ps P = pre ++ packL (putT b.data.toList ps) ps (P.drop k)) ∧ Below w.heap.size w wr ∧ Below w1.heap.size w1 wr) (fun vs _ _ => strLen vs)
  case atStart => exact ⟨0, [], Nat.zero_le _, congrArg Value.string HS0.out, rfl, Nat.le_refl _, rfl, hb1, Below.refl _ _⟩
  case round =>
    obtain ⟨k, pre, hk, rfl, rfl, hpre, HK, hb, hb1r⟩ := hrel
    have h60 := HJ60.out k
    by_cases hlt : k < P.length
    · have HNEk : Hid (joinD (P.drop k) ≠ []) := HNE.out k hlt
      have HPKk : Hid (parentL (joinD (P.drop k)) = joinD (P.drop (k + 1))) := by
        rw [parent_joinD (by intro e; have := congrArg List.length e; rw [List.length_drop, List.length_nil] at this; omega) (HPL.out.drop k), List.tail_drop]; exact rfl
      have HSH : Hid ((joinD (P.drop (k + 1))).length < (joinD (P.drop k)).length) := joinD_lessP HPL.out hlt
      have HNDk : Hid (nameB (joinD (P.drop k)) = true ∧ labelsOf (joinD (P.drop k)) = P.drop k) := HND.out k
      obtain ⟨x, hx⟩ : ∃ x, x = joinD (P.drop k) := ⟨_, rfl⟩
      have HXE : Hid (x = joinD (P.drop k)) := hx
      rw [← hx] at HNEk HPKk HSH HNDk h60 ⊢
      have e0 : x.isEmpty = false := by simpa using HNEk.out
      clear hx
      go_wp2_with fail
      go_loopw [21] (fun i wi => ∃ j : Nat, j ≤ ps.length ∧ i = .int .i64 (j : Int) ∧ Hid (∀ i, (hi : i < ps.length) → i < j → nmT (takeN b.data.toList ps[i]) ≠ x) ∧ Below w.heap.size w wi ∧ Below w1.heap.size w1 wi) (fun i _ => ps.length - (intOf i).toNat)
      case atStart => exact ⟨0, Nat.zero_le _, rfl, fun i _ hi => absurd hi (Nat.not_lt_zero i), hb, hb1r⟩
      case round =>
        clear hb hb1r
        obtain ⟨j, hj, rfl, HA, hb, hb1i⟩ := hrel
        by_cases hjl : j < ps.length
        · obtain ⟨bp, op, hap, hbp, hcpx⟩ := HPR.out (by omega)
          rw [hap]
          have hcj := hcpx j hjl
          rw [← hb1i.cell (p := ⟨bp, op + j, none⟩) hbp] at hcj
          have hp6 := HSM.out _ (List.getElem_mem hjl)
          have HHIT : Hid (nmT (takeN b.data.toList (ps[j]'hjl)) = x → packL (putT b.data.toList ps) ps P = pre ++ ptr (ps[j]'hjl)) := fun h => put_hit HK.out hlt hjl (by rw [h]; exact HXE.out) (fun i hi hij => by rw [← HXE.out]; exact HA.out i hi hij)
          have HMIS : Hid (nmT (takeN b.data.toList (ps[j]'hjl)) ≠ x → ∀ i, (hi : i < ps.length) → i < j + 1 → nmT (takeN b.data.toList ps[i]) ≠ x) := fun h i hi hij => by
            by_cases e : i = j
            · subst e; exact h
            · exact HA.out i hi (by omega)
          obtain ⟨p, hp⟩ : ∃ p, p = ps[j]'hjl := ⟨_, rfl⟩
          rw [← hp] at hcj hp6 HHIT HMIS
          clear hcpx hp
          go_wp2_with fail
          refine (l2Take_any b p _ hs (by omega)).mono ?_
          rintro e w3 ⟨hn, hsm, hb3⟩
          have hb03 := hb.trans (hb3.mono hb.size)
          have hb13 := hb1i.trans (hb3.mono hb1i.size)
          cases hR : takeN b.data.toList p with
          | none =>
            obtain ⟨y, n, v, rfl⟩ := hn hR
            have HM : Hid (∀ i, (hi : i < ps.length) → i < j + 1 → nmT (takeN b.data.toList ps[i]) ≠ x) := HMIS.out (by rw [hR]; exact fun e => HNEk.out e.symm)
            clear hn hsm hR hcj
            go_wp2_with fail
            go_roundw
            case rel => exact ⟨j + 1, by omega, by go_num, HM, hb03, hb13⟩
            case measure => simp [intOf]; omega
          | some z =>
            obtain ⟨nm, en, q⟩ := z
            obtain ⟨v, rfl, _⟩ := hsm nm en q hR
            by_cases hnx : nm = x
            · subst hnx
              have HH : Hid (packL (putT b.data.toList ps) ps P = pre ++ ptr p) := HHIT.out (by rw [hR]; rfl)
              have hconv := bytes_two (w := w3) hp6
              have hpl2 : (ptr p).length ≤ 2 := by simp [ptr]
              clear hn hsm hR hcj
              go_wp2_with fail
              go_ret
              exact ⟨ret_strP (by rw [HPK.out, HH.out]; simp), hb03.alloc hb03.size _⟩
            · have HM : Hid (∀ i, (hi : i < ps.length) → i < j + 1 → nmT (takeN b.data.toList ps[i]) ≠ x) := HMIS.out (by rw [hR]; exact hnx)
              have e1 : (nm == x) = false := by simpa using hnx
              clear hn hsm hR hcj hnx
              go_wp2_with fail
              go_roundw
              case rel => exact ⟨j + 1, by omega, by go_num, HM, hb03, hb13⟩
              case measure => simp [intOf]; omega
        · have HMS : Hid (packL (putT b.data.toList ps) ps P = (pre ++ UInt8.ofNat (P[k]'hlt).length :: P[k]'hlt) ++ packL (putT b.data.toList ps) ps (P.drop (k + 1))) := put_miss HK.out hlt (fun i hi => by rw [← HXE.out]; exact HA.out i hi (by omega))
          have hx20 := (HX.out _ (List.getElem_mem hlt)).1
          have hxs : (⟨x.toArray⟩ : ByteArray).size ≤ 4294967280 := by rw [size_list]; omega
          go_wp2_with fail
          refine (l1Labels_any _ _ hxs).mono ?_
          rintro e w3 ⟨v, rfl, hown, hb3⟩
          rw [show (⟨x.toArray⟩ : ByteArray).data.toList = x from rfl] at hown ⊢
          have hown := hown HNDk.out.1
          rw [HNDk.out.1]
          rw [HNDk.out.2] at hown
          have hb03 := hb.trans (hb3.mono hb.size)
          have hb13 := hb1i.trans (hb3.mono hb1i.size)
          obtain ⟨g, cap, hv, hg, hgl, hcap, hmax, hcell⟩ := own_shape hown (by rw [List.length_drop]; omega)
          have hc0 := hcell 0 (by rw [List.length_drop]; omega)
          rw [List.getElem?_map, List.getElem?_drop, Nat.add_zero, List.getElem?_eq_getElem hlt] at hc0
          obtain ⟨y, hy⟩ : ∃ y, y = P[k]'hlt := ⟨_, rfl⟩
          rw [← hy] at hc0 hx20 HMS
          have hc1 : w3.cell? ⟨g, 0, none⟩ = some (.string ⟨y.toArray⟩) := hc0
          rw [hv]
          have hlen : 0 < (P.drop k).length := by rw [List.length_drop]; omega
          obtain ⟨n, hn⟩ : ∃ n, n = (P.drop k).length := ⟨_, rfl⟩
          rw [← hn] at hlen hcap ⊢
          clear hown hcell hc0 hy hv hn
          have hconv := bytes_new_drew (w := w3) (n := (y.length : Int)) (x := y) rfl (by omega)
          unfold maxLen at hmax
          go_wp2_with fail
          go_region
          all_goals
            go_wp2_with fail
            refine (l1Parent_any _ _ hxs).mono ?_
            rintro e w4 ⟨rfl, rfl⟩
            rw [show (⟨x.toArray⟩ : ByteArray).data.toList = x from rfl, HPKk.out]
            obtain ⟨z, hz⟩ : ∃ z, z = joinD (P.drop (k + 1)) := ⟨_, rfl⟩
            rw [← hz] at HSH ⊢
            have HZ : Hid (z = joinD (P.drop (k + 1))) := hz
            clear hz
            go_wp2_with fail
            go_roundw
            case rel => exact ⟨k + 1, pre ++ UInt8.ofNat y.length :: y, by omega, by rw [HZ.out], val_strN (by simp), by simp; omega, HMS, (hb03.alloc hb03.size _).drew, (hb13.alloc hb13.size _).drew⟩
            case measure => simp only [strLen, size_list]; exact HSH.out
    · have HE : Hid (packL (putT b.data.toList ps) ps P = pre ++ [0] ∧ joinD (P.drop k) = []) := by
        have h1 : P.drop k = [] := List.drop_of_length_le (by omega)
        have h2 := HK.out
        rw [h1] at h2
        exact ⟨h2, by rw [h1]; rfl⟩
      rw [HE.out.2]
      go_wp2_with fail
      go_ret
      exact ⟨ret_strP (by rw [HPK.out, HE.out.1]; simp), hb⟩
end Go.Proofs.YtgccbkoklhohfaaDoor

namespace Go.Proofs.YtgccbkoklhohfaaDoor
open Go.RowKit

/-- Names packed behind bytes, however many. -/
def packAll : List UInt8 → List (List UInt8) → List UInt8
  | b, [] => b
  | b, s :: r => packAll (b ++ packed b s) r
theorem packed_len (b : List UInt8) {s : List UInt8} (h : nameB s = true) : (packed b s).length ≤ 63 := by
  have h1 := packL_len (putT b (sufs b)) (sufs b) (labelsOf s)
  have h2 := tot_joinD (labelsOf s)
  rw [joinD_labels] at h2
  have h3 : s.length ≤ 60 := by
    unfold nameB at h
    simp only [Bool.and_eq_true, decide_eq_true_eq] at h
    omega
  unfold packed
  omega
theorem packAll_len : ∀ (P : List (List UInt8)) (b : List UInt8), (∀ p ∈ P, nameB p = true) → (packAll b P).length ≤ b.length + 63 * P.length
  | [], b, _ => by simp [packAll]
  | s :: r, b, h => by
    have h1 := packed_len b (h s (by simp))
    have h2 := packAll_len r (b ++ packed b s) (fun p hp => h p (by simp [hp]))
    rw [packAll]
    simp only [List.length_append, List.length_cons] at h2 ⊢
    omega
theorem packAll_step {P : List (List UInt8)} {R b : List UInt8} {k : Nat} (h : R = packAll b (P.drop k)) (hk : k < P.length) : R = packAll (b ++ packed b P[k]) (P.drop (k + 1)) := by
  rw [h, List.drop_eq_getElem_cons hk, packAll]
theorem packAll_end {P : List (List UInt8)} {R b : List UInt8} {k : Nat} (h : R = packAll b (P.drop k)) (hk : ¬ k < P.length) : R = b := by
  rw [h, List.drop_of_length_le (by omega), packAll]

end Go.Proofs.YtgccbkoklhohfaaDoor

namespace Go.Proofs.YtgccbkoklhohfaaDoor
open Go.RowKit

theorem labAt_more {l x : List UInt8} {a c : Nat} (h : a + c < l.length) : labAt (l ++ x) a c = labAt l a c := by
  unfold labAt; rw [List.take_append_of_le_length (by omega)]
/-- What is read stays so with more bytes behind. -/
theorem rd_more (l x : List UInt8) : ∀ (n a least : Nat) (pt : Option Nat) (raw : List (List UInt8)) (pl : List Nat) (R : List (List UInt8) × Nat × List Nat), rd l n a least pt raw pl = some R → rd (l ++ x) n a least pt raw pl = some R
  | 0, _, _, _, _, _, _, h => by simp [rd] at h
  | n + 1, a, least, pt, raw, pl, R, h => by
    by_cases ha : a < l.length
    · have ha' : a < (l ++ x).length := by rw [List.length_append]; omega
      have e : (l ++ x)[a] = l[a] := List.getElem_append_left ha
      by_cases h0 : l[a].toNat = 0
      · rw [rd_end ha h0] at h
        rw [rd_end ha' (by rw [e]; exact h0)]; exact h
      · by_cases h20 : l[a].toNat ≤ 20
        · by_cases hin : a + l[a].toNat < l.length
          · rw [rd_lab ha h0 h20 hin] at h
            rw [rd_lab ha' (by rw [e]; exact h0) (by rw [e]; exact h20) (by rw [e, List.length_append]; omega), e, labAt_more hin]
            exact rd_more l x n _ _ _ _ _ _ h
          · rw [rd_lab_out ha h0 h20 hin] at h; cases h
        · by_cases h192 : 192 ≤ l[a].toNat
          · by_cases hin : a + 1 < l.length
            · have hin' : a + 1 < (l ++ x).length := by rw [List.length_append]; omega
              have e2 : (l ++ x)[a + 1] = l[a + 1] := List.getElem_append_left hin
              obtain ⟨k, hk⟩ : ∃ k, k = (l[a].toNat - 192) * 256 + l[a + 1].toNat := ⟨_, rfl⟩
              by_cases hlt : k < least
              · rw [rd_ptr ha h192 hin hk hlt] at h
                rw [rd_ptr ha' (by rw [e]; exact h192) hin' (by rw [e, e2]; exact hk) hlt]
                exact rd_more l x n _ _ _ _ _ _ h
              · rw [rd_ptr_no ha h192 hin (by rw [← hk]; exact hlt)] at h; cases h
            · rw [rd_ptr_out ha h192 hin] at h; cases h
          · rw [rd_mid ha h20 h192] at h; cases h
    · rw [rd_out ha] at h; cases h
theorem takeN_more {l : List UInt8} (x : List UInt8) {a : Nat} {y : List UInt8 × Nat × List Nat} (h : takeN l a = some y) : takeN (l ++ x) a = some y := by
  unfold takeN takeR at h ⊢
  cases hr : rd l (a * 70002 + 70002) a a none [] [] with
  | none => rw [hr] at h; cases h
  | some R => rw [rd_more l x _ _ _ _ _ _ _ hr]; rw [hr] at h; exact h

/-- What is read behind a pointer. -/
theorem rd_acc (l : List UInt8) : ∀ (n a least : Nat) (pt : Option Nat) (raw : List (List UInt8)) (pl : List Nat) (R : List (List UInt8)) (e : Nat) (q : List Nat), rd l n a least pt raw pl = some (R, e, q) →
    ∃ R', R = raw ++ R' ∧ ∀ m, n ≤ m → ∀ b raw2 pl2, rd l m a least (some b) raw2 pl2 = some (raw2 ++ R', b, pl2)
  | 0, _, _, _, _, _, _, _, _, h => by simp [rd] at h
  | n + 1, a, least, pt, raw, pl, R, e, q, h => by
    by_cases ha : a < l.length
    · by_cases h0 : l[a].toNat = 0
      · rw [rd_end ha h0] at h
        simp only [Option.some.injEq, Prod.mk.injEq] at h
        refine ⟨[], by rw [h.1, List.append_nil], fun m hm b raw2 pl2 => ?_⟩
        obtain ⟨m, rfl⟩ : ∃ k, m = k + 1 := ⟨m - 1, by omega⟩
        rw [rd_end ha h0, List.append_nil]; rfl
      · by_cases h20 : l[a].toNat ≤ 20
        · by_cases hin : a + l[a].toNat < l.length
          · rw [rd_lab ha h0 h20 hin] at h
            obtain ⟨R', hR, hA⟩ := rd_acc l n _ _ _ _ _ _ _ _ h
            refine ⟨labAt l a l[a].toNat :: R', by rw [hR, List.append_assoc]; rfl, fun m hm b raw2 pl2 => ?_⟩
            obtain ⟨m, rfl⟩ : ∃ k, m = k + 1 := ⟨m - 1, by omega⟩
            rw [rd_lab ha h0 h20 hin, if_neg (by simp), hA m (by omega), List.append_assoc]; rfl
          · rw [rd_lab_out ha h0 h20 hin] at h; cases h
        · by_cases h192 : 192 ≤ l[a].toNat
          · by_cases hin : a + 1 < l.length
            · obtain ⟨k, hk⟩ : ∃ k, k = (l[a].toNat - 192) * 256 + l[a + 1].toNat := ⟨_, rfl⟩
              by_cases hlt : k < least
              · rw [rd_ptr ha h192 hin hk hlt] at h
                obtain ⟨R', hR, hA⟩ := rd_acc l n _ _ _ _ _ _ _ _ h
                refine ⟨R', hR, fun m hm b raw2 pl2 => ?_⟩
                obtain ⟨m, rfl⟩ : ∃ k, m = k + 1 := ⟨m - 1, by omega⟩
                rw [rd_ptr ha h192 hin hk hlt, hA m (by omega)]; rfl
              · rw [rd_ptr_no ha h192 hin (by rw [← hk]; exact hlt)] at h; cases h
            · rw [rd_ptr_out ha h192 hin] at h; cases h
          · rw [rd_mid ha h20 h192] at h; cases h
    · rw [rd_out ha] at h; cases h

theorem packL_pos (T : List (List UInt8)) (ps : List Nat) (P : List (List UInt8)) : 0 < (packL T ps P).length := by
  cases P with
  | nil => simp [packL]
  | cons x r => unfold packL; split <;> simp [ptr]
/-- Labels are told by their name alone. -/
theorem labels_one {X Y : List (List UInt8)} (hX : Plain X) (hY : Plain Y) (h : joinD X = joinD Y) : X = Y := by
  by_cases hx : X = []
  · by_cases hy : Y = []
    · rw [hx, hy]
    · exact absurd (by rw [← h, hx]; rfl) (plain_ne hy hY)
  · by_cases hy : Y = []
    · exact absurd (by rw [h, hy]; rfl) (plain_ne hx hX)
    · rw [← cut_joinD X hx (fun p hp => (hX p hp).2), ← cut_joinD Y hy (fun p hp => (hY p hp).2), h]
theorem nameOf_plain {X : List (List UInt8)} (h : nameOfB X = true) : Plain X := by
  intro p hp
  unfold nameOfB at h
  simp only [Bool.and_eq_true, List.all_eq_true] at h
  exact ⟨lab_ne (h.1 p hp), label_nodot (h.1 p hp)⟩

/-- The names that are told so far stand at their places. -/
def Told (B : List UInt8) (T : List (List UInt8)) (ps : List Nat) : Prop := T.length = ps.length ∧ ∀ i, (h : i < ps.length) → ∃ e q, takeN B ps[i] = some (T.getD i [], e, q)
set_option maxRecDepth 20000 in
theorem told_at {B : List UInt8} {T : List (List UInt8)} {ps : List Nat} (h : Told B T ps) {i : Nat} (hi : i < ps.length) : ps[i] < B.length ∧ ∃ R e q, rd B (ps[i] * 70002 + 70002) ps[i] ps[i] none [] [] = some (R, e, q) ∧ nameOfB (R.map foldL) = true ∧ joinD (R.map foldL) = T.getD i [] := by
  obtain ⟨e, q, ht⟩ := h.2 i hi
  have hb := take_bounds ht
  refine ⟨by omega, ?_⟩
  unfold takeN takeR at ht
  cases hr : rd B (ps[i] * 70002 + 70002) ps[i] ps[i] none [] [] with
  | none => rw [hr] at ht; cases ht
  | some y =>
    obtain ⟨R, e', q'⟩ := y
    rw [hr] at ht
    unfold nmR at ht
    simp only at ht
    split at ht
    · rename_i hn
      simp only [Option.some.injEq, Prod.mk.injEq] at ht
      exact ⟨R, e', q', rfl, hn, ht.1⟩
    · cases ht

/-- Labels as they are told. -/
def Low (P : List (List UInt8)) : Prop := ∀ p ∈ P, p.length ≤ 20 ∧ 0 < p.length ∧ foldL p = p ∧ 46 ∉ p
theorem Low.plain {P : List (List UInt8)} (h : Low P) : Plain P := fun p hp => ⟨List.length_pos_iff.1 (h p hp).2.1, (h p hp).2.2.2⟩

set_option maxRecDepth 20000 in
theorem rd_pack {B : List UInt8} {T : List (List UInt8)} {ps : List Nat} (hT : Told B T ps) (hB : B.length ≤ 4000) (P : List (List UInt8)) : ∀ (A : List UInt8), Low P → B <+: A → ∀ (n least : Nat) (raw : List (List UInt8)) (pl : List Nat), B.length ≤ least → B.length * 70002 + P.length + 1 ≤ n →
    ∃ R', rd (A ++ packL T ps P) n A.length least none raw pl = some (raw ++ R', (A ++ packL T ps P).length, pl ++ newP T A.length P) ∧ R'.map foldL = P := by
  induction P with
  | nil =>
    intro A _ _ n least raw pl _ hn
    obtain ⟨n, rfl⟩ : ∃ k, n = k + 1 := ⟨n - 1, by omega⟩
    refine ⟨[], ?_, rfl⟩
    have ha : A.length < (A ++ packL T ps []).length := by rw [List.length_append]; simp [packL]
    have e : (A ++ packL T ps [])[A.length] = 0 := by rw [List.getElem_append_right (Nat.le_refl _)]; simp [packL]
    rw [rd_end ha (by rw [e]; rfl)]
    simp [packL, newP]
  | cons x r ih =>
    intro A hP hA n least raw pl hle hn
    obtain ⟨n, rfl⟩ : ∃ k, n = k + 1 := ⟨n - 1, by omega⟩
    obtain ⟨M, hM⟩ : ∃ M, M = B.length * 70002 := ⟨_, rfl⟩
    rw [← hM] at hn ih
    have hMn : M ≤ n := by omega
    have hfu : ∀ p, p < B.length → p * 70002 + 70002 ≤ n := fun p hp => by
      have h1 : (p + 1) * 70002 ≤ B.length * 70002 := Nat.mul_le_mul_right _ hp
      rw [Nat.add_mul, Nat.one_mul, ← hM] at h1
      exact Nat.le_trans h1 hMn
    clear hM
    by_cases hit : T.idxOf (joinD (x :: r)) < T.length
    · obtain ⟨i, hi⟩ : ∃ i, i = T.idxOf (joinD (x :: r)) := ⟨_, rfl⟩
      have hil : i < ps.length := by rw [← hT.1, hi]; exact hit
      obtain ⟨hp, R, e, q, hr, hnm, hj⟩ := told_at hT hil
      have hTi : T.getD i [] = joinD (x :: r) := by
        rw [List.getD_eq_getElem?_getD, List.getElem?_eq_getElem (by rw [hi]; exact hit)]
        simp only [Option.getD_some, hi]
        exact List.getElem_idxOf hit
      have hpk : packL T ps (x :: r) = ptr ps[i] := by
        unfold packL; rw [if_pos hit, ← hi, List.getD_eq_getElem?_getD, List.getElem?_eq_getElem hil]; rfl
      have hnp : newP T A.length (x :: r) = [] := by unfold newP; rw [if_pos hit]
      obtain ⟨z, rfl⟩ := hA
      obtain ⟨p, hpe⟩ : ∃ p, p = ps[i] := ⟨_, rfl⟩
      rw [← hpe] at hp hr hpk
      obtain ⟨R', hR, hAc⟩ := rd_acc _ _ _ _ _ _ _ _ _ _ (rd_more B (z ++ ptr p) _ _ _ _ _ _ _ hr)
      rw [List.nil_append] at hR
      subst hR
      refine ⟨R, ?_, labels_one (nameOf_plain hnm) hP.plain (by rw [hj, hTi])⟩
      rw [hpk, hnp, List.append_nil]
      have ha : (B ++ z).length < ((B ++ z) ++ ptr p).length := by rw [List.length_append (bs := ptr p)]; simp [ptr]
      have ha2 : (B ++ z).length + 1 < ((B ++ z) ++ ptr p).length := by rw [List.length_append (bs := ptr p)]; simp [ptr]
      have e1 : ((B ++ z) ++ ptr p)[(B ++ z).length] = UInt8.ofNat (192 + p / 256) := by rw [List.getElem_append_right (Nat.le_refl _)]; simp [ptr]
      have e2 : ((B ++ z) ++ ptr p)[(B ++ z).length + 1] = UInt8.ofNat (p % 256) := by rw [List.getElem_append_right (by omega)]; simp [ptr]
      have f1 : (UInt8.ofNat (192 + p / 256)).toNat = 192 + p / 256 := by rw [UInt8.toNat_ofNat']; omega
      have f2 : (UInt8.ofNat (p % 256)).toNat = p % 256 := by rw [UInt8.toNat_ofNat']; omega
      rw [rd_ptr ha (by rw [e1, f1]; omega) ha2 (q := p) (by rw [e1, e2, f1, f2]; omega) (by omega)]
      have h3 := hAc n (hfu p hp) ((B ++ z).length + 2) raw pl
      rw [← List.append_assoc] at h3
      rw [show (none : Option Nat).getD ((B ++ z).length + 2) = (B ++ z).length + 2 from rfl, h3]
      congr 3
      rw [List.length_append (bs := ptr p)]; simp [ptr]
    · have hx := hP x (by simp)
      have hpk : packL T ps (x :: r) = UInt8.ofNat x.length :: (x ++ packL T ps r) := by rw [packL, if_neg hit]
      have hnp : newP T A.length (x :: r) = A.length :: newP T (A.length + 1 + x.length) r := by rw [newP, if_neg hit]
      have hq := packL_pos T ps r
      have hA2 : B <+: A ++ UInt8.ofNat x.length :: x := hA.trans (List.prefix_append _ _)
      have hl2 : (A ++ UInt8.ofNat x.length :: x).length = A.length + 1 + x.length := by rw [List.length_append, List.length_cons]; omega
      have hn2 : M + r.length + 1 ≤ n := by rw [List.length_cons] at hn; omega
      obtain ⟨R', hR, hf⟩ := ih (A ++ UInt8.ofNat x.length :: x) (fun p hp => hP p (by simp [hp])) hA2 n least (raw ++ [x]) (pl ++ [A.length]) hle hn2
      rw [hl2] at hR
      have hc : A ++ packL T ps (x :: r) = (A ++ UInt8.ofNat x.length :: x) ++ packL T ps r := by rw [hpk, List.append_assoc, List.cons_append]
      rw [hc, hnp]
      refine ⟨x :: R', ?_, by rw [List.map_cons, hf, hx.2.2.1]⟩
      have ha : A.length < ((A ++ UInt8.ofNat x.length :: x) ++ packL T ps r).length := by rw [List.length_append, hl2]; omega
      have e1 : ((A ++ UInt8.ofNat x.length :: x) ++ packL T ps r)[A.length] = UInt8.ofNat x.length := by
        rw [List.getElem_append_left (by rw [hl2]; omega), List.getElem_append_right (Nat.le_refl _)]; simp
      have f1 : (UInt8.ofNat x.length).toNat = x.length := by rw [UInt8.toNat_ofNat']; omega
      have hlab : labAt ((A ++ UInt8.ofNat x.length :: x) ++ packL T ps r) A.length x.length = x := by
        unfold labAt
        rw [List.take_append_of_le_length (by rw [hl2]; omega), List.take_of_length_le (by rw [hl2]; omega)]
        rw [show A ++ UInt8.ofNat x.length :: x = (A ++ [UInt8.ofNat x.length]) ++ x by simp]
        rw [List.drop_left' (by simp)]
      rw [rd_lab ha (by rw [e1, f1]; omega) (by rw [e1, f1]; omega) (by rw [e1, f1, List.length_append, hl2]; omega), e1, f1, hlab, if_pos rfl, hR]
      simp [List.append_assoc]
set_option maxRecDepth 20000 in
theorem take_pack {B : List UInt8} {T : List (List UInt8)} {ps : List Nat} (hT : Told B T ps) (hB : B.length ≤ 4000) {P : List (List UInt8)} {A : List UInt8} (hP : Low P) (h8 : P.length ≤ 8) (hn : nameOfB P = true) (hA : B <+: A) : takeN (A ++ packL T ps P) A.length = some (joinD P, (A ++ packL T ps P).length, newP T A.length P) := by
  have hl := hA.length_le
  obtain ⟨R', hR, hf⟩ := rd_pack hT hB P A hP hA (A.length * 70002 + 70002) A.length [] [] hl (by omega)
  unfold takeN takeR
  rw [hR]
  unfold nmR
  simp only [List.nil_append]
  rw [hf, if_pos hn]

theorem new_told {B : List UInt8} {T : List (List UInt8)} {ps : List Nat} (hT : Told B T ps) (hB : B.length ≤ 4000) : ∀ (P : List (List UInt8)) (A : List UInt8), Low P → P.length ≤ 8 → (∀ k, nameOfB (P.drop k) = true) → B <+: A →
    ∀ j, (hj : j < (newP T A.length P).length) → ∃ e q, takeN (A ++ packL T ps P) (newP T A.length P)[j] = some ((newS T P).getD j [], e, q)
  | [], A, _, _, _, _, j, hj => by simp [newP] at hj
  | x :: r, A, hP, h8, hN, hA, j, hj => by
    by_cases hit : T.idxOf (joinD (x :: r)) < T.length
    · have hnp : newP T A.length (x :: r) = [] := by unfold newP; rw [if_pos hit]
      simp [hnp] at hj
    · have hpk : packL T ps (x :: r) = UInt8.ofNat x.length :: (x ++ packL T ps r) := by rw [packL, if_neg hit]
      have hnp : newP T A.length (x :: r) = A.length :: newP T (A.length + 1 + x.length) r := by rw [newP, if_neg hit]
      have hns : newS T (x :: r) = joinD (x :: r) :: newS T r := by rw [newS, if_neg hit]
      cases j with
      | zero =>
        have ht := take_pack hT hB hP h8 (hN 0) hA
        refine ⟨(A ++ packL T ps (x :: r)).length, newP T A.length (x :: r), ?_⟩
        · have e : (newP T A.length (x :: r))[0] = A.length := by simp [hnp]
          rw [e, ht, hns]; rfl
      | succ j =>
        have hl2 : (A ++ UInt8.ofNat x.length :: x).length = A.length + 1 + x.length := by rw [List.length_append, List.length_cons]; omega
        have hj2 : j < (newP T (A ++ UInt8.ofNat x.length :: x).length r).length := by
          rw [hl2]; rw [hnp, List.length_cons] at hj; omega
        obtain ⟨e, q, h⟩ := new_told hT hB r (A ++ UInt8.ofNat x.length :: x) (fun p hp => hP p (by simp [hp])) (by simp at h8; omega) (fun k => hN (k + 1)) (hA.trans (List.prefix_append _ _)) j hj2
        refine ⟨e, q, ?_⟩
        have hc : A ++ packL T ps (x :: r) = (A ++ UInt8.ofNat x.length :: x) ++ packL T ps r := by rw [hpk, List.append_assoc, List.cons_append]
        have e2 : (newP T A.length (x :: r))[j + 1] = (newP T (A ++ UInt8.ofNat x.length :: x).length r)[j] := by simp [hnp, hl2]
        rw [e2, hc, h, hns]; rfl
theorem Told.step {B : List UInt8} {T : List (List UInt8)} {ps : List Nat} (hT : Told B T ps) (hB : B.length ≤ 4000) {P : List (List UInt8)} (hP : Low P) (h8 : P.length ≤ 8) (hN : ∀ k, nameOfB (P.drop k) = true) : Told (B ++ packL T ps P) (T ++ newS T P) (ps ++ newP T B.length P) := by
  refine ⟨by rw [List.length_append, List.length_append, hT.1, new_length], fun i hi => ?_⟩
  by_cases hlt : i < ps.length
  · obtain ⟨e, q, h⟩ := hT.2 i hlt
    refine ⟨e, q, ?_⟩
    rw [List.getElem_append_left hlt, takeN_more _ h]
    congr 2
    rw [List.getD_eq_getElem?_getD, List.getD_eq_getElem?_getD, List.getElem?_append_left (by rw [hT.1]; exact hlt)]
  · have hj : i - ps.length < (newP T B.length P).length := by rw [List.length_append] at hi; omega
    obtain ⟨e, q, h⟩ := new_told hT hB P B hP h8 hN (List.prefix_refl _) _ hj
    refine ⟨e, q, ?_⟩
    rw [List.getElem_append_right (by omega), h]
    congr 2
    rw [List.getD_eq_getElem?_getD, List.getD_eq_getElem?_getD, List.getElem?_append_right (by rw [hT.1]; omega), hT.1]

/-- Names that stand one behind the other, up to the end. -/
def Ends (l : List UInt8) : Nat → Nat → List Nat → Prop
  | 0, a, ps => a = l.length ∧ ps = []
  | n + 1, a, ps => ∃ nm e q r, takeN l a = some (nm, e, q) ∧ Ends l n e r ∧ ps = q ++ r
theorem take_end (l : List UInt8) : takeN l l.length = none := by
  unfold takeN takeR; rw [rd_out (n := l.length * 70002 + 70001) (by omega)]; rfl
theorem ends_suf {l : List UInt8} : ∀ (k n a : Nat) (ps : List Nat), l.length < n + a → Ends l k a ps → sufF l n a = ps
  | 0, n, a, ps, _, h => by obtain ⟨rfl, rfl⟩ := h; exact sufF_none (take_end l)
  | k + 1, n, a, ps, hn, h => by
    obtain ⟨nm, e, q, r, ht, hr, rfl⟩ := h
    obtain ⟨m, hm, hs⟩ := sufF_some hn ht
    rw [hs, ends_suf k m e r hm hr]
theorem ends_more {l x nm : List UInt8} {q : List Nat} (hx : takeN (l ++ x) l.length = some (nm, (l ++ x).length, q)) : ∀ (k a : Nat) (ps : List Nat), Ends l k a ps → Ends (l ++ x) (k + 1) a (ps ++ q)
  | 0, a, ps, h => by obtain ⟨rfl, rfl⟩ := h; exact ⟨nm, _, q, [], hx, ⟨rfl, rfl⟩, by simp⟩
  | k + 1, a, ps, h => by
    obtain ⟨nm', e, q', r, ht, hr, rfl⟩ := h
    exact ⟨nm', e, q', r ++ q, takeN_more x ht, ends_more hx k e r hr, by rw [List.append_assoc]⟩

/-- What is kept while names are packed. -/
structure Trk (B : List UInt8) (T : List (List UInt8)) (ps : List Nat) : Prop where
  told : Told B T ps
  ends : ∃ k, Ends B k 0 ps
theorem Trk.start : Trk [] [] [] := ⟨⟨rfl, fun i h => by cases h⟩, 0, rfl, rfl⟩
theorem Trk.sufs {B : List UInt8} {T : List (List UInt8)} {ps : List Nat} (h : Trk B T ps) : sufs B = ps := by
  obtain ⟨k, hk⟩ := h.ends
  exact ends_suf k _ 0 ps (by omega) hk
theorem told_put {B : List UInt8} {T : List (List UInt8)} {ps : List Nat} (h : Told B T ps) : putT B ps = T := by
  refine List.ext_getElem (by rw [putT_length, h.1]) (fun i h1 h2 => ?_)
  have hi : i < ps.length := by rw [putT_length] at h1; exact h1
  obtain ⟨e, q, ht⟩ := h.2 i hi
  rw [putT_get _ _ _ hi, ht]
  simp only [nmT, List.getD_eq_getElem?_getD, List.getElem?_eq_getElem h2, Option.getD_some]
theorem Trk.packed {B : List UInt8} {T : List (List UInt8)} {ps : List Nat} (h : Trk B T ps) (s : List UInt8) : packed B s = packL T ps (labelsOf s) := by
  unfold Go.Proofs.YtgccbkoklhohfaaDoor.packed; rw [h.sufs, told_put h.told]
theorem name_low {s : List UInt8} (h : nameB s = true) : Low (labelsOf s) ∧ (labelsOf s).length ≤ 8 ∧ ∀ k, nameOfB ((labelsOf s).drop k) = true := by
  obtain ⟨h1, h2⟩ := name_labels h
  have hall : ∀ p ∈ labelsOf s, labelB p = true := by
    have h3 := h
    unfold nameB at h3; simp only [Bool.and_eq_true, List.all_eq_true] at h3; exact h3.1
  refine ⟨fun p hp => ⟨(h1 p hp).1, (h1 p hp).2, fold_label (hall p hp), label_nodot (hall p hp)⟩, h2, fun k => ?_⟩
  unfold nameOfB
  rw [(name_drop h k).1, Bool.and_true, List.all_eq_true]
  exact fun p hp => hall p (List.mem_of_mem_drop hp)
theorem Trk.step {B : List UInt8} {T : List (List UInt8)} {ps : List Nat} (h : Trk B T ps) (hB : B.length ≤ 4000) {s : List UInt8} (hs : nameB s = true) : Trk (B ++ packL T ps (labelsOf s)) (T ++ newS T (labelsOf s)) (ps ++ newP T B.length (labelsOf s)) := by
  obtain ⟨h1, h2, h3⟩ := name_low hs
  obtain ⟨k, hk⟩ := h.ends
  exact ⟨h.told.step hB h1 h2 h3, k + 1, ends_more (take_pack h.told hB h1 h2 (h3 0) (List.prefix_refl _)) k 0 ps hk⟩

theorem trkR_all : ∀ (L : List (List UInt8)) (B : List UInt8) (T : List (List UInt8)) (ps : List Nat), (∀ p ∈ L, nameB p = true) → Trk B T ps → B.length + 63 * L.length ≤ 4000 → trkR B T ps L = some (packAll B L)
  | [], B, T, ps, _, _, _ => rfl
  | s :: r, B, T, ps, hg, h, hB => by
    have hs := hg s (by simp)
    have hl := packed_len B hs
    have hp := h.packed s
    rw [trkR, if_pos hs, packAll, hp]
    refine trkR_all r _ _ _ (fun p hp => hg p (by simp [hp])) (h.step (by omega) hs) ?_
    rw [List.length_append, ← hp]
    simp only [List.length_cons] at hB
    omega
end Go.Proofs.YtgccbkoklhohfaaDoor

namespace Go.Proofs.YtgccbkoklhohfaaDoor
open Go.RowKit

/-- Names that stand one behind the other from a place on, up to the end. -/
def Chain (l : List UInt8) : Nat → List (List UInt8) → Prop
  | a, [] => a = l.length
  | a, s :: r => ∃ e q, takeN l a = some (s, e, q) ∧ Chain l e r
theorem chain_more {l x s : List UInt8} {q : List Nat} (hx : takeN (l ++ x) l.length = some (s, (l ++ x).length, q)) : ∀ (N : List (List UInt8)) (a : Nat), Chain l a N → Chain (l ++ x) a (N ++ [s])
  | [], a, h => by
    have h' : a = l.length := h
    subst h'; exact ⟨_, q, hx, rfl⟩
  | n :: r, a, h => by
    obtain ⟨e, q', ht, hr⟩ := h
    exact ⟨e, q', takeN_more x ht, chain_more hx r e hr⟩
theorem chain_all : ∀ (P : List (List UInt8)) (B : List UInt8) (T : List (List UInt8)) (ps : List Nat) (N : List (List UInt8)), (∀ p ∈ P, nameB p = true) → Trk B T ps → Chain B 0 N → B.length + 63 * P.length ≤ 4000 → Chain (packAll B P) 0 (N ++ P)
  | [], B, T, ps, N, _, _, hc, _ => by rw [packAll, List.append_nil]; exact hc
  | s :: r, B, T, ps, N, hg, h, hc, hB => by
    have hs := hg s (by simp)
    have hl := packed_len B hs
    have hp := h.packed s
    obtain ⟨h1, h2, h3⟩ := name_low hs
    rw [List.length_cons] at hB
    have ht := take_pack h.told (by omega) h1 h2 (h3 0) (List.prefix_refl B)
    rw [joinD_labels] at ht
    have hc2 := chain_more ht N 0 hc
    have := chain_all r (B ++ packL T ps (labelsOf s)) _ _ (N ++ [s]) (fun p hp => hg p (by simp [hp])) (h.step (by omega) hs) hc2 (by rw [List.length_append, ← hp]; omega)
    rw [packAll, hp]
    rw [List.append_assoc] at this
    exact this
theorem chain_pack {P : List (List UInt8)} (hg : ∀ p ∈ P, nameB p = true) (h : P.length ≤ 60) : Chain (packAll [] P) 0 P := by
  have := chain_all P [] [] [] [] hg Trk.start rfl (by rw [List.length_nil]; omega)
  exact this

end Go.Proofs.YtgccbkoklhohfaaDoor

namespace Go.Proofs.YtgccbkoklhohfaaDoor
open Go.RowKit

set_option maxRecDepth 20000 in
set_option maxHeartbeats 1000000 in
theorem sPutName_any (b s : ByteArray) (w : World) (hss : s.size ≤ 4294967280) :
    Calls Tryd.prog 69 #[.string b, .string s] w fun e w' => e = putVal (putR b.data.toList s.data.toList) ∧ Below w.heap.size w w' := by
  by_cases hs : b.size ≤ 600
  · cases hN : nameB s.data.toList with
    | false =>
      have HN : Hid (nameB s.data.toList = false) := hN
      have HR : Hid (putR b.data.toList s.data.toList = none) := if_neg (by rw [hN]; simp)
      clear hN
      go_enter Tryd.func69, Tryd.ntmps69
      go_wp2_with fail
      refine (sGoodName_any s w hss).mono ?_
      rintro e w1 ⟨rfl, hb⟩
      rw [HN.out]
      go_wp2_with fail
      go_ret2
      exact ⟨put_none HR.out, hb⟩
    | true =>
      have HN : Hid (nameB s.data.toList = true) := hN
      clear hN
      go_enter Tryd.func69, Tryd.ntmps69
      go_wp2_with fail
      refine (sGoodName_any s w hss).mono ?_
      rintro e w1 ⟨rfl, hb⟩
      rw [HN.out]
      go_wp2_with fail
      refine (l2Put_any b s w1 (by omega) HN).mono ?_
      rintro e w2 ⟨rfl, hb2⟩
      have hb02 := hb.trans (hb2.mono hb.size)
      have hpl := packL_small (putT b.data.toList (sufs b.data.toList)) (sufs b.data.toList) (labelsOf s.data.toList) (fun p hp => ((name_labels HN.out).1 p hp).1)
      have h8 := (name_labels HN.out).2
      have hpl2 : (b.data.toList ++ packed b.data.toList s.data.toList).length ≤ 100000 := by
        rw [List.length_append, data_len]
        have : (packed b.data.toList s.data.toList).length ≤ 21 * (labelsOf s.data.toList).length + 2 := hpl
        omega
      have HLL : Hid ((b.data.toList ++ packed b.data.toList s.data.toList).length = b.data.toList.length + (packed b.data.toList s.data.toList).length) := List.length_append
      obtain ⟨y, hy⟩ : ∃ y, y = b.data.toList ++ packed b.data.toList s.data.toList := ⟨_, rfl⟩
      rw [← hy] at hpl2 HLL ⊢
      have HY : Hid (y = b.data.toList ++ packed b.data.toList s.data.toList) := hy
      clear hy hpl h8
      by_cases hfit : y.length ≤ 600
      · have HR : Hid (putR b.data.toList s.data.toList = some y) := by
          rw [HY.out]
          exact if_pos ⟨by rw [data_len]; exact hs, HN.out, by rw [← HLL.out]; exact hfit⟩
        go_wp2_with fail
        go_ret2
        exact ⟨put_some HR.out rfl, hb02⟩
      · have HR : Hid (putR b.data.toList s.data.toList = none) := if_neg (fun h => hfit (by rw [HLL.out]; exact h.2.2))
        go_wp2_with fail
        go_ret2
        exact ⟨put_none HR.out, hb02⟩
  · have HR : Hid (putR b.data.toList s.data.toList = none) := if_neg (fun h => hs (by have := h.1; rw [data_len] at this; exact this))
    have g : (600 : Int) < (b.size : Int) := by omega
    go_enter Tryd.func69, Tryd.ntmps69
    go_wp2_with fail
    go_ret2
    exact ⟨put_none HR.out, Below.refl _ _⟩
end Go.Proofs.YtgccbkoklhohfaaDoor

namespace Go.Proofs.YtgccbkoklhohfaaDoor
open Go.RowKit

/-- Names put one behind the other. -/
def pkR : List UInt8 → List (List UInt8) → Option (List UInt8)
  | b, [] => some b
  | b, s :: r => match putR b s with
    | none => none
    | some y => pkR y r
def packR (P : List (List UInt8)) : Option (List UInt8) := if P.length ≤ 20 then pkR [] P else none
theorem pk_none {P : List (List UInt8)} {cur : List UInt8} {k : Nat} {R : Option (List UInt8)} (h : R = pkR cur (P.drop k)) (hk : k < P.length) (hp : putR cur P[k] = none) : R = none := by
  rw [h, List.drop_eq_getElem_cons hk, pkR, hp]
theorem pk_some {P : List (List UInt8)} {cur y : List UInt8} {k : Nat} {R : Option (List UInt8)} (h : R = pkR cur (P.drop k)) (hk : k < P.length) (hp : putR cur P[k] = some y) : R = pkR y (P.drop (k + 1)) := by
  rw [h, List.drop_eq_getElem_cons hk, pkR, hp]
theorem pk_end {P : List (List UInt8)} {cur : List UInt8} {k : Nat} {R : Option (List UInt8)} (h : R = pkR cur (P.drop k)) (hk : ¬ k < P.length) : R = some cur := by
  rw [h, List.drop_of_length_le (by omega), pkR]

theorem packAll_more : ∀ (P : List (List UInt8)) (b : List UInt8), b.length ≤ (packAll b P).length
  | [], b => by simp [packAll]
  | s :: r, b => by
    have h2 := packAll_more r (b ++ packed b s)
    rw [packAll]
    simp only [List.length_append] at h2
    omega
/-- Put one behind the other is packed, where it is not too long. -/
theorem pkR_all : ∀ (P : List (List UInt8)) (b : List UInt8), (∀ p ∈ P, nameB p = true) → b.length ≤ 600 → pkR b P = if (packAll b P).length ≤ 600 then some (packAll b P) else none
  | [], b, _, hb => by rw [pkR, packAll, if_pos hb]
  | s :: r, b, h, hb => by
    rw [pkR, packAll]
    have hm := packAll_more r (b ++ packed b s)
    rw [List.length_append] at hm
    by_cases hc : b.length + (packed b s).length ≤ 600
    · have e : putR b s = some (b ++ packed b s) := if_pos ⟨hb, h s (by simp), hc⟩
      rw [e]
      exact pkR_all r (b ++ packed b s) (fun p hp => h p (by simp [hp])) (by rw [List.length_append]; exact hc)
    · have e : putR b s = none := if_neg (fun hh => hc hh.2.2)
      rw [e, if_neg (by omega)]

theorem put_name {b s y : List UInt8} (h : putR b s = some y) : nameB s = true := by
  unfold putR at h
  split at h
  · rename_i hc; exact hc.2.1
  · cases h
theorem pk_names : ∀ (Q : List (List UInt8)) (b z : List UInt8), pkR b Q = some z → ∀ s ∈ Q, nameB s = true
  | [], _, _, _, s, hs => by cases hs
  | x :: r, b, z, h, s, hs => by
    rw [pkR] at h
    split at h
    · cases h
    · rename_i y hy
      rcases List.mem_cons.1 hs with rfl | hs
      · exact put_name hy
      · exact pk_names r y z h s hs
theorem trk_names : ∀ (L : List (List UInt8)) (B : List UInt8) (T : List (List UInt8)) (ps : List Nat) (z : List UInt8), trkR B T ps L = some z → ∀ s ∈ L, nameB s = true
  | [], _, _, _, _, _, s, hs => by cases hs
  | x :: r, B, T, ps, z, h, s, hs => by
    rw [trkR] at h
    split at h
    · rename_i hx
      rcases List.mem_cons.1 hs with rfl | hs
      · exact hx
      · exact trk_names r _ _ _ z h s hs
    · cases h
/-- What was told kept aside, and the bytes counted once at the end: the same. -/
theorem pack_same {P : List (List UInt8)} (h20 : P.length ≤ 20) : packR P = match trkR [] [] [] P with
    | none => none
    | some z => if z.length ≤ 600 then some z else none := by
  unfold packR
  rw [if_pos h20]
  by_cases hg : ∀ p ∈ P, nameB p = true
  · rw [trkR_all P [] [] [] hg Trk.start (by simp only [List.length_nil]; omega), pkR_all P [] hg (by simp)]
  · cases ht : trkR [] [] [] P with
    | some z => exact absurd (trk_names P _ _ _ z ht) hg
    | none =>
      cases hp : pkR [] P with
      | none => rfl
      | some z => exact absurd (pk_names P _ z hp) hg

set_option maxRecDepth 20000 in
set_option maxHeartbeats 1000000 in
theorem iPackNames_any (v : Value) (P : List (List UInt8)) (w : World) (hr : Row w v P) (_hl : Hid (P.length + tot P ≤ 1048576)) (hE : Env w) :
    Calls Tryd.prog 34 #[v] w fun e w' => e = putVal (packR P) ∧ Below w.heap.size w w' := by
  obtain ⟨a, cap, hv, hcap, hmax, HROW⟩ := row_value hr
  by_cases h20 : P.length ≤ 20
  · have HR : Hid (packR P = match trkR [] [] [] P with
      | none => none
      | some z => if z.length ≤ 600 then some z else none) := pack_same h20
    have HC : Hid (Calls Tryd.prog 68 #[v] w fun e w' => e = putVal (trkR [] [] [] P) ∧ Below w.heap.size w w') := iPackAll_any v P w hr (by omega) hE
    subst hv
    clear hr HROW
    obtain ⟨R, hR⟩ : ∃ R, R = trkR [] [] [] P := ⟨_, rfl⟩
    rw [← hR] at HR HC
    clear hR
    cases R with
    | none =>
      have HN : Hid (packR P = none) := HR.out
      go_enter Tryd.func34, Tryd.ntmps34
      go_wp2_with fail
      refine HC.out.mono ?_
      rintro e w1 ⟨rfl, hb⟩
      unfold putVal
      rw [show (none : Option (List UInt8)).getD [] = [] from rfl, show (none : Option (List UInt8)).isSome = false from rfl]
      go_wp2_with fail
      go_ret2
      exact ⟨put_none HN.out, hb⟩
    | some z =>
      by_cases h600 : z.length ≤ 600
      · have HN : Hid (packR P = some z) := HR.out.trans (if_pos h600)
        go_enter Tryd.func34, Tryd.ntmps34
        go_wp2_with fail
        refine HC.out.mono ?_
        rintro e w1 ⟨rfl, hb⟩
        unfold putVal
        rw [show (some z).getD [] = z from rfl, show (some z).isSome = true from rfl]
        go_wp2_with fail
        go_ret2
        exact ⟨put_some HN.out rfl, hb⟩
      · have HN : Hid (packR P = none) := HR.out.trans (if_neg h600)
        go_enter Tryd.func34, Tryd.ntmps34
        go_wp2_with fail
        refine HC.out.mono ?_
        rintro e w1 ⟨rfl, hb⟩
        unfold putVal
        rw [show (some z).getD [] = z from rfl, show (some z).isSome = true from rfl]
        go_wp2_with fail
        go_ret2
        exact ⟨put_none HN.out, hb⟩
  · have HN : Hid (packR P = none) := if_neg h20
    subst hv
    go_enter Tryd.func34, Tryd.ntmps34
    go_wp2_with fail
    go_ret2
    exact ⟨put_none HN.out, Below.refl _ _⟩

set_option maxRecDepth 20000 in
set_option maxHeartbeats 1000000 in
theorem sPackNames_any (v : Value) (P : List (List UInt8)) (w : World) (hr : Row w v P) (hl : Hid (P.length + tot P ≤ 1048576)) :
    Calls Tryd.prog 35 #[v] w fun e w' => e = putVal (packR P) ∧ Below w.heap.size w w' := by
  obtain ⟨a, cap, rfl, hcap, hmax, HROW⟩ := row_value hr
  clear hr
  by_cases h20 : P.length ≤ 20
  · have HR0 : Hid (packR P = pkR [] (P.drop 0)) := by rw [List.drop_zero]; exact if_pos h20
    go_enter Tryd.func35, Tryd.ntmps35
    go_wp2_with fail
    go_loopw [4, 14] (fun vb i wr => ∃ (k : Nat) (cur : List UInt8), k ≤ P.length ∧ i = .int .i64 (k : Int) ∧ vb = .string ⟨cur.toArray⟩ ∧ Hid (packR P = pkR cur (P.drop k)) ∧ Below w.heap.size w wr) (fun _ i _ => P.length - (intOf i).toNat)
    case atStart => exact ⟨0, [], Nat.zero_le _, rfl, rfl, HR0, Below.refl _ _⟩
    case round =>
      obtain ⟨k, cur, hk, rfl, rfl, HR, hb⟩ := hrel
      by_cases hlt : k < P.length
      · obtain ⟨b, o, ha, hbl, hc⟩ := HROW.out (by omega)
        rw [ha]
        have hcx := hc k hlt
        rw [← hb.cell (p := ⟨b, o + k, none⟩) hbl] at hcx
        have HNO : Hid (putR cur (P[k]'hlt) = none → packR P = none) := fun h => pk_none HR.out hlt h
        have HYES : Hid (∀ y, putR cur (P[k]'hlt) = some y → packR P = pkR y (P.drop (k + 1))) := fun y h => pk_some HR.out hlt h
        have hxl : (⟨(P[k]'hlt).toArray⟩ : ByteArray).size ≤ 4294967280 := by
          have h1 := tot_one (List.getElem_mem hlt)
          have h2 := hl.out
          rw [size_list]; omega
        obtain ⟨x, hx⟩ : ∃ x, x = P[k]'hlt := ⟨_, rfl⟩
        rw [← hx] at hcx HNO HYES hxl
        unfold S at hcx
        clear hc hx
        go_wp2_with fail
        refine (sPutName_any ⟨cur.toArray⟩ ⟨x.toArray⟩ _ hxl).mono ?_
        rintro e w2 ⟨rfl, hb2⟩
        have hb02 := hb.trans (hb2.mono hb.size)
        rw [show (⟨cur.toArray⟩ : ByteArray).data.toList = cur from rfl, show (⟨x.toArray⟩ : ByteArray).data.toList = x from rfl]
        unfold putVal
        cases hR : putR cur x with
        | none =>
          have HN : Hid (packR P = none) := HNO.out hR
          clear hR
          go_wp2_with fail
          go_ret2
          exact ⟨put_none HN.out, hb02⟩
        | some y =>
          have HN : Hid (packR P = pkR y (P.drop (k + 1))) := HYES.out y hR
          clear hR
          rw [show (some y).getD [] = y from rfl, show (some y).isSome = true from rfl]
          go_wp2_with fail
          go_roundw
          case rel => exact ⟨k + 1, y, by omega, by go_num, rfl, HN, hb02⟩
          case measure => simp [intOf]; omega
      · have HN : Hid (packR P = some cur) := pk_end HR.out hlt
        go_wp2_with fail
        go_ret2
        exact ⟨put_some HN.out rfl, hb⟩
  · have HN : Hid (packR P = none) := if_neg h20
    have g : (20 : Int) < (P.length : Int) := by omega
    go_enter Tryd.func35, Tryd.ntmps35
    go_wp2_with fail
    go_ret2
    exact ⟨put_none HN.out, Below.refl _ _⟩
end Go.Proofs.YtgccbkoklhohfaaDoor

namespace Go.Proofs.YtgccbkoklhohfaaDoor
open Go.RowKit

theorem pk_length : ∀ (Q : List (List UInt8)) (b z : List UInt8), b.length ≤ 600 → pkR b Q = some z → z.length ≤ 600
  | [], b, z, hb, h => by rw [pkR] at h; simp only [Option.some.injEq] at h; rw [← h]; exact hb
  | x :: r, b, z, hb, h => by
    rw [pkR] at h
    split at h
    · cases h
    · rename_i y hy
      exact pk_length r y z (putR_length _ _ _ hy) h
theorem pack_facts {P : List (List UInt8)} {z : List UInt8} (h : packR P = some z) : P.length ≤ 20 ∧ z.length ≤ 600 ∧ ∀ s ∈ P, nameB s = true := by
  unfold packR at h
  split at h
  · rename_i h20; exact ⟨h20, pk_length P [] z (by simp) h, pk_names P [] z h⟩
  · cases h

/-- The bytes of names without pointers. -/
def sumN (P : List (List UInt8)) : Nat := (P.map (fun p => (wireL (labelsOf p)).length)).sum
theorem sumN_next (P : List (List UInt8)) (k : Nat) (h : k < P.length) : sumN (P.take (k + 1)) = sumN (P.take k) + (wireL (labelsOf P[k])).length := by
  unfold sumN; rw [List.take_succ_eq_append_getElem h, List.map_append, List.sum_append]; simp only [List.map_cons, List.map_nil, List.sum_cons, List.sum_nil, Nat.add_zero]
theorem wireL_small : ∀ P : List (List UInt8), (∀ p ∈ P, p.length ≤ 20) → (wireL P).length ≤ 21 * P.length + 1
  | [], _ => by simp [wireL]
  | x :: r, h => by
    have h1 := h x (by simp)
    have ih := wireL_small r (fun q hq => h q (by simp [hq]))
    unfold wireL; simp; omega
theorem wire_small {s : List UInt8} (h : nameB s = true) : (wireL (labelsOf s)).length ≤ 169 := by
  obtain ⟨h1, h2⟩ := name_labels h
  have := wireL_small (labelsOf s) (fun p hp => (h1 p hp).1)
  omega

/-- What PackedSize tells. -/
def sizeVal (P : List (List UInt8)) : Value := match packR P with
  | none => .tuple #[.int .i64 0, .int .i64 0, .bool false]
  | some z => .tuple #[.int .i64 ((z.length : Nat) : Int), .int .i64 ((sumN P : Nat) : Int), .bool true]
theorem size_none {P : List (List UInt8)} (h : packR P = none) : Ending.returned (.tuple #[.int .i64 0, .int .i64 0, .bool false]) = .returned (sizeVal P) := by unfold sizeVal; rw [h]
theorem size_some {P : List (List UInt8)} {z : List UInt8} {a b : Int} (h : packR P = some z) (ha : a = (z.length : Int)) (hb : b = ((sumN P : Nat) : Int)) : Ending.returned (.tuple #[.int .i64 a, .int .i64 b, .bool true]) = .returned (sizeVal P) := by
  unfold sizeVal; rw [h, ha, hb]

set_option maxRecDepth 20000 in
set_option maxHeartbeats 1000000 in
theorem iPackedSize_any (v : Value) (P : List (List UInt8)) (w : World) (hr : Row w v P) (hl : Hid (P.length + tot P ≤ 1048576)) (hE : Env w) :
    Calls Tryd.prog 37 #[v] w fun e w' => e = .returned (sizeVal P) ∧ Below w.heap.size w w' := by
  have HR0 : Hid (Row w v P) := hr
  go_enter Tryd.func37, Tryd.ntmps37
  go_wp2_with fail
  refine (iPackNames_any v P w hr hl hE).mono ?_
  rintro e w1 ⟨rfl, hb1⟩
  unfold putVal
  cases hR : packR P with
  | none =>
    have HR : Hid (packR P = none) := hR
    clear hR
    go_wp2_with fail
    go_ret3
    exact ⟨size_none HR.out, hb1⟩
  | some z =>
    have HR : Hid (packR P = some z) := hR
    obtain ⟨h20, hz, hnm⟩ := pack_facts hR
    have HNM : Hid (∀ s ∈ P, nameB s = true) := hnm
    obtain ⟨a, cap, rfl, hcap, hmax, HROW⟩ := row_value hr
    clear hR hnm hr
    rw [show (some z).getD [] = z from rfl, show (some z).isSome = true from rfl]
    go_wp2_with fail
    go_loopw [7, 21] (fun n i wr => ∃ k : Nat, k ≤ P.length ∧ i = .int .i64 (k : Int) ∧ n = .int .i64 ((sumN (P.take k) : Nat) : Int) ∧ sumN (P.take k) ≤ 169 * k ∧ Below w.heap.size w wr) (fun _ i _ => P.length - (intOf i).toNat)
    case atStart => exact ⟨0, Nat.zero_le _, rfl, rfl, Nat.le_refl _, hb1⟩
    case round =>
      obtain ⟨k, hk, rfl, rfl, hsum, hb⟩ := hrel
      by_cases hlt : k < P.length
      · obtain ⟨b, o, ha, hbl, hc⟩ := HROW.out (by omega)
        rw [ha]
        have hcx := hc k hlt
        rw [← hb.cell (p := ⟨b, o + k, none⟩) hbl] at hcx
        have hn := HNM.out _ (List.getElem_mem hlt)
        have HSN : Hid (sumN (P.take (k + 1)) = sumN (P.take k) + (wireL (labelsOf (P[k]'hlt))).length) := sumN_next P k hlt
        have hws := wire_small hn
        have HWT : Hid (wireT (P[k]'hlt) = wireL (labelsOf (P[k]'hlt)) ∧ nameB (P[k]'hlt) = true) := ⟨by unfold wireT; rw [if_pos hn], hn⟩
        obtain ⟨x, hx⟩ : ∃ x, x = P[k]'hlt := ⟨_, rfl⟩
        rw [← hx] at hcx HSN hws HWT
        unfold S at hcx
        clear hc hx hn
        go_wp2_with fail
        refine (iNameBytes_any ⟨x.toArray⟩ _ (hE.below hb)).mono ?_
        rintro e w2 ⟨rfl, hb2⟩
        rw [show (⟨x.toArray⟩ : ByteArray).data.toList = x from rfl, HWT.out.1, HWT.out.2]
        obtain ⟨y, hy⟩ : ∃ y, y = wireL (labelsOf x) := ⟨_, rfl⟩
        rw [← hy] at hws HSN ⊢
        obtain ⟨q, hq⟩ : ∃ q, q = sumN (P.take k) := ⟨_, rfl⟩
        rw [← hq] at hsum HSN ⊢
        clear hy hq
        go_wp2_with fail
        go_roundw
        case rel => exact ⟨k + 1, by omega, by go_num, by rw [HSN.out]; go_num, by rw [HSN.out]; omega, hb.trans (hb2.mono hb.size)⟩
        case measure => simp [intOf]; omega
      · have HF : Hid (P.take k = P) := List.take_of_length_le (by omega)
        obtain ⟨q, hq⟩ : ∃ q, q = sumN (P.take k) := ⟨_, rfl⟩
        rw [← hq] at hsum ⊢
        have HQ : Hid (q = sumN P) := by rw [hq, HF.out]; exact rfl
        clear hq
        go_wp2_with fail
        go_ret3
        exact ⟨size_some HR.out rfl (by rw [HQ.out]), hb⟩

end Go.Proofs.YtgccbkoklhohfaaDoor
