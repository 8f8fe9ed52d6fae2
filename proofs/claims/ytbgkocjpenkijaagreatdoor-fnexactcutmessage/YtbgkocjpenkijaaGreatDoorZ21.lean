import Derived.Test.YtbgkocjpenkijaaGreatDoorZ20
import Derived.Test.YtbgkocjpenkijaaGreatDoorZ08
import Derived.BigRegion
namespace Go.Proofs.YtbgkocjpenkijaaGreatDoor
open Go.RowKit

theorem parent_joinD {Q : List (List UInt8)} (h0 : Q ≠ []) (h : Plain Q) : parentL (joinD Q) = joinD Q.tail := by
  rw [parent_join, cut_joinD Q h0 (fun p hp => (h p hp).2)]
theorem joinD_drop_le (P : List (List UInt8)) (k : Nat) : (joinD (P.drop k)).length ≤ (joinD P).length := by
  by_cases hA : P.take k = []
  · have : P.drop k = P := by
      have h := List.take_append_drop k P
      rw [hA, List.nil_append] at h; exact h
    rw [this]; exact Nat.le_refl _
  · by_cases hB : P.drop k = []
    · rw [hB]; simp [joinD]
    · have := joinD_append _ _ hA hB
      rw [List.take_append_drop] at this
      rw [this]; simp; omega
/-- What is behind some labels of a name is a name. -/
theorem name_drop {l : List UInt8} (h : nameB l = true) (k : Nat) : nameB (joinD ((labelsOf l).drop k)) = true ∧ labelsOf (joinD ((labelsOf l).drop k)) = (labelsOf l).drop k := by
  have hp := (name_plain h).drop k
  have hl : labelsOf (joinD ((labelsOf l).drop k)) = (labelsOf l).drop k := by
    unfold labelsOf
    by_cases h0 : (if l = [] then [] else cut 46 l).drop k = []
    · rw [h0]; simp [joinD]
    · have hp2 : Plain ((if l = [] then [] else cut 46 l).drop k) := hp
      rw [if_neg (plain_ne h0 hp2), cut_joinD _ h0 (fun p h => (hp2 p h).2)]
  refine ⟨?_, hl⟩
  have h2 := joinD_drop_le (labelsOf l) k
  rw [joinD_labels] at h2
  unfold nameB at h ⊢
  rw [hl]
  simp only [Bool.and_eq_true, List.all_eq_true, decide_eq_true_eq] at h ⊢
  refine ⟨fun p hp => h.1 p (List.mem_of_mem_drop hp), by omega, ?_⟩
  rw [List.length_drop]; omega
theorem joinD_drop_ne {l : List UInt8} (h : nameB l = true) {k : Nat} (hk : k < (labelsOf l).length) : joinD ((labelsOf l).drop k) ≠ [] := by
  refine plain_ne ?_ ((name_plain h).drop k)
  intro e
  have := congrArg List.length e
  rw [List.length_drop, List.length_nil] at this; omega

theorem put_hit {l : List UInt8} {ps : List Nat} {P : List (List UInt8)} {k j : Nat} {pre : List UInt8} (h : packL (putT l ps) ps P = pre ++ packL (putT l ps) ps (P.drop k)) (hk : k < P.length) (hj : j < ps.length)
    (hx : nmT (takeN l ps[j]) = joinD (P.drop k)) (hb : ∀ i, (hi : i < ps.length) → i < j → nmT (takeN l ps[i]) ≠ joinD (P.drop k)) : packL (putT l ps) ps P = pre ++ ptr ps[j] := by
  refine packL_hit h hk (idxI_hit (by rw [putT_length]; exact hj) (by rw [putT_get l ps j hj]; exact hx) (fun i hi => ?_)) hj
  rw [putT_get l ps i (by omega)]
  exact hb i (by omega) hi
theorem put_miss {l : List UInt8} {ps : List Nat} {P : List (List UInt8)} {k : Nat} {pre : List UInt8} (h : packL (putT l ps) ps P = pre ++ packL (putT l ps) ps (P.drop k)) (hk : k < P.length)
    (hb : ∀ i, (hi : i < ps.length) → nmT (takeN l ps[i]) ≠ joinD (P.drop k)) : packL (putT l ps) ps P = (pre ++ UInt8.ofNat P[k].length :: P[k]) ++ packL (putT l ps) ps (P.drop (k + 1)) := by
  refine packL_miss h hk ?_
  rw [idxI_miss]
  · omega
  · intro j hj
    rw [putT_length] at hj
    rw [putT_get l ps j hj]
    exact hb j hj

theorem bytes_two {w : World} {p : Nat} (hp : p ≤ 4000) :
    Sem.run Tryz.prog (convert 22 9 (.slice (some ⟨w.heap.size, 0, none⟩) 2 2)) (w.alloc (.cells #[.int .u8 (192 + (p : Int) / 256), .int .u8 ((p : Int) % 256)] 5)) = .ok (.string ⟨(ptr p).toArray⟩) (w.alloc (.cells #[.int .u8 (192 + (p : Int) / 256), .int .u8 ((p : Int) % 256)] 5)) := by
  refine run_convert_bytes_back _ 22 9 5 ⟨w.heap.size, 0, none⟩ 2 (ptr p) Tryz.underlying22 Tryz.underlying5 Tryz.underlying9 (fun j hj => ?_)
  have e1 := b8_ofNat (n := 192 + p / 256) (by omega)
  have e2 := b8_ofNat (n := p % 256) (by omega)
  unfold B8 at e1 e2
  match j, hj with
  | 0, _ =>
    rw [cell_new_two w _ _ 5 0 _ rfl]
    refine congrArg some (Eq.trans ?_ e1.symm)
    congr 1
  | 1, _ =>
    rw [cell_new_two w _ _ 5 1 _ rfl]
    refine congrArg some (Eq.trans ?_ e2.symm)
    congr 1
end Go.Proofs.YtbgkocjpenkijaaGreatDoor

namespace Go.Proofs.YtbgkocjpenkijaaGreatDoor
open Go.RowKit

def strLen : Value → Nat
  | .string x => x.size
  | _ => 0
theorem joinD_shorter {P : List (List UInt8)} (h : Plain P) {k : Nat} (hk : k < P.length) : (joinD (P.drop (k + 1))).length < (joinD (P.drop k)).length := by
  rw [List.drop_eq_getElem_cons hk]
  have hp := (h _ (List.getElem_mem hk)).1
  have hl : 0 < P[k].length := List.length_pos_iff.2 hp
  obtain ⟨r, hr⟩ : ∃ r, r = P.drop (k + 1) := ⟨_, rfl⟩
  rw [← hr]
  by_cases h0 : r = []
  · subst h0; simpa [joinD] using hl
  · rw [joinD, if_neg h0]; simp; omega
theorem ret_strP {x : ByteArray} {l : List UInt8} (h : x.data.toList = l) : Ending.returned (.string x) = .returned (.string ⟨l.toArray⟩) := by rw [data_eq h]

theorem bytes_new_drew {w : World} {n : Int} {x : List UInt8} (hn : n = (x.length : Int)) (hx : x.length ≤ 255) :
    Sem.run Tryz.prog (convert 22 9 (.slice (some ⟨w.heap.size, 0, none⟩) 1 1)) (w.alloc (.cells #[.int .u8 n] 5)).drew = .ok (.string ⟨#[UInt8.ofNat x.length]⟩) (w.alloc (.cells #[.int .u8 n] 5)).drew := by
  refine run_convert_bytes_back _ 22 9 5 ⟨w.heap.size, 0, none⟩ 1 [UInt8.ofNat x.length] Tryz.underlying22 Tryz.underlying5 Tryz.underlying9 (fun j hj => ?_)
  match j, hj with
  | 0, _ =>
    have := b8_ofNat hx
    unfold B8 at this
    have e : (w.alloc (.cells #[.int .u8 n] 5)).drew.cell? ((⟨w.heap.size, 0, none⟩ : Addr).add 0) = some (.int .u8 n) := cell_new_one w (.int .u8 n) 5 0 (.int .u8 n) rfl
    rw [e, hn]
    exact congrArg some this.symm

set_option maxRecDepth 20000 in
set_option maxHeartbeats 4000000 in
theorem l2Put_any (b s : ByteArray) (w : World) (hs : b.size ≤ 4000) (hN : Hid (nameB s.data.toList = true)) :
    Calls Tryz.prog 106 #[.string b, .string s] w fun e w' => e = .returned (.string ⟨(b.data.toList ++ packed b.data.toList s.data.toList).toArray⟩) ∧ Below w.heap.size w w' := by
  obtain ⟨hx20, h8⟩ := name_labels hN.out
  have HX : Hid (∀ p ∈ labelsOf s.data.toList, p.length ≤ 20 ∧ 0 < p.length) := hx20
  have HPL : Hid (Plain (labelsOf s.data.toList)) := name_plain hN.out
  have HND : Hid (∀ k, nameB (joinD ((labelsOf s.data.toList).drop k)) = true ∧ labelsOf (joinD ((labelsOf s.data.toList).drop k)) = (labelsOf s.data.toList).drop k) := fun k => name_drop hN.out k
  have HNE : Hid (∀ k, k < (labelsOf s.data.toList).length → joinD ((labelsOf s.data.toList).drop k) ≠ []) := fun k hk => joinD_drop_ne hN.out hk
  have HJ0 : Hid (joinD ((labelsOf s.data.toList).drop 0) = s.data.toList) := by rw [List.drop_zero]; exact joinD_labels _
  have HJ60 : Hid (∀ k, (joinD ((labelsOf s.data.toList).drop k)).length ≤ 60) := fun k => by
    have h1 := joinD_drop_le (labelsOf s.data.toList) k
    rw [joinD_labels] at h1
    have h2 := hN.out
    unfold nameB at h2
    simp only [Bool.and_eq_true, decide_eq_true_eq] at h2
    omega
  clear hx20
  go_enter Tryz.func106, Tryz.ntmps106
  go_wp2_with fail
  refine (l2Suffixes_any b w hs).mono ?_
  rintro e w1 ⟨vp, rfl, hownp, hb1⟩
  have hsl : (sufs b.data.toList).length ≤ 4000 := Nat.le_trans (sufs_length _) (by rw [data_len]; exact hs)
  have HSM : Hid (∀ p ∈ sufs b.data.toList, p ≤ 4000) := fun p hp => by have h := sufF_mem _ _ _ p hp; rw [data_len] at h; omega
  obtain ⟨ap, cp, hvp, hcp, hmp, HPR⟩ := irow_value (irow_own hownp)
  subst hvp
  obtain ⟨P, hP⟩ : ∃ P, P = labelsOf s.data.toList := ⟨_, rfl⟩
  obtain ⟨ps, hps⟩ : ∃ ps, ps = sufs b.data.toList := ⟨_, rfl⟩
  have HPK : Hid (packed b.data.toList s.data.toList = packL (putT b.data.toList ps) ps P) := by rw [hP, hps]; exact rfl
  rw [← hP] at HX HPL HND HNE HJ0 HJ60 h8
  rw [← hps] at hsl HSM hcp HPR ⊢
  have HS0 : Hid (s = ⟨(joinD (P.drop 0)).toArray⟩) := data_eq HJ0.out.symm
  clear hownp hP hps
  go_wp2_with fail
  go_loopw [1, 6] (fun vs vh wr => ∃ (k : Nat) (pre : List UInt8), k ≤ P.length ∧ vs = .string ⟨(joinD (P.drop k)).toArray⟩ ∧ vh = .string ⟨pre.toArray⟩ ∧ pre.length ≤ 21 * k ∧ Hid (packL (putT b.data.toList ps) ps P = pre ++ packL (putT b.data.toList ps) ps (P.drop k)) ∧ Below w.heap.size w wr ∧ Below w1.heap.size w1 wr) (fun vs _ _ => strLen vs)
  case atStart => exact ⟨0, [], Nat.zero_le _, congrArg Value.string HS0.out, rfl, Nat.le_refl _, rfl, hb1, Below.refl _ _⟩
  case round =>
    obtain ⟨k, pre, hk, rfl, rfl, hpre, HK, hb, hb1r⟩ := hrel
    have h60 := HJ60.out k
    by_cases hlt : k < P.length
    · have HNEk : Hid (joinD (P.drop k) ≠ []) := HNE.out k hlt
      have HPKk : Hid (parentL (joinD (P.drop k)) = joinD (P.drop (k + 1))) := by
        rw [parent_joinD (by intro e; have := congrArg List.length e; rw [List.length_drop, List.length_nil] at this; omega) (HPL.out.drop k), List.tail_drop]; exact rfl
      have HSH : Hid ((joinD (P.drop (k + 1))).length < (joinD (P.drop k)).length) := joinD_shorter HPL.out hlt
      have HNDk : Hid (nameB (joinD (P.drop k)) = true ∧ labelsOf (joinD (P.drop k)) = P.drop k) := HND.out k
      obtain ⟨x, hx⟩ : ∃ x, x = joinD (P.drop k) := ⟨_, rfl⟩
      have HXE : Hid (x = joinD (P.drop k)) := hx
      rw [← hx] at HNEk HPKk HSH HNDk h60 ⊢
      have e0 : x.isEmpty = false := by simpa using HNEk.out
      clear hx
      go_wp2_with fail
      go_loopw [21] (fun i wi => ∃ j : Nat, j ≤ ps.length ∧ i = .int .i64 (j : Int) ∧ Hid (∀ i, (hi : i < ps.length) → i < j → nmT (takeN b.data.toList ps[i]) ≠ x) ∧ Below w.heap.size w wi ∧ Below w1.heap.size w1 wi) (fun i _ => ps.length - (intOf i).toNat)
      case atStart => exact ⟨0, Nat.zero_le _, rfl, fun i _ hi => absurd hi (Nat.not_lt_zero i), hb, hb1r⟩
      case round =>
        clear hb hb1r
        obtain ⟨j, hj, rfl, HA, hb, hb1i⟩ := hrel
        by_cases hjl : j < ps.length
        · obtain ⟨bp, op, hap, hbp, hcpx⟩ := HPR.out (by omega)
          rw [hap]
          have hcj := hcpx j hjl
          rw [← hb1i.cell (p := ⟨bp, op + j, none⟩) hbp] at hcj
          have hp6 := HSM.out _ (List.getElem_mem hjl)
          have HHIT : Hid (nmT (takeN b.data.toList (ps[j]'hjl)) = x → packL (putT b.data.toList ps) ps P = pre ++ ptr (ps[j]'hjl)) := fun h => put_hit HK.out hlt hjl (by rw [h]; exact HXE.out) (fun i hi hij => by rw [← HXE.out]; exact HA.out i hi hij)
          have HMIS : Hid (nmT (takeN b.data.toList (ps[j]'hjl)) ≠ x → ∀ i, (hi : i < ps.length) → i < j + 1 → nmT (takeN b.data.toList ps[i]) ≠ x) := fun h i hi hij => by
            by_cases e : i = j
            · subst e; exact h
            · exact HA.out i hi (by omega)
          obtain ⟨p, hp⟩ : ∃ p, p = ps[j]'hjl := ⟨_, rfl⟩
          rw [← hp] at hcj hp6 HHIT HMIS
          clear hcpx hp
          go_wp2_with fail
          refine (l2Take_any b p _ hs (by omega)).mono ?_
          rintro e w3 ⟨hn, hsm, hb3⟩
          have hb03 := hb.trans (hb3.mono hb.size)
          have hb13 := hb1i.trans (hb3.mono hb1i.size)
          cases hR : takeN b.data.toList p with
          | none =>
            obtain ⟨y, n, v, rfl⟩ := hn hR
            have HM : Hid (∀ i, (hi : i < ps.length) → i < j + 1 → nmT (takeN b.data.toList ps[i]) ≠ x) := HMIS.out (by rw [hR]; exact fun e => HNEk.out e.symm)
            clear hn hsm hR hcj
            go_wp2_with fail
            go_roundw
            case rel => exact ⟨j + 1, by omega, by go_num, HM, hb03, hb13⟩
            case measure => simp [intOf]; omega
          | some z =>
            obtain ⟨nm, en, q⟩ := z
            obtain ⟨v, rfl, _⟩ := hsm nm en q hR
            by_cases hnx : nm = x
            · subst hnx
              have HH : Hid (packL (putT b.data.toList ps) ps P = pre ++ ptr p) := HHIT.out (by rw [hR]; rfl)
              have hconv := bytes_two (w := w3) hp6
              have hpl2 : (ptr p).length ≤ 2 := by simp [ptr]
              clear hn hsm hR hcj
              go_wp2_with fail
              go_ret
              exact ⟨ret_strP (by rw [HPK.out, HH.out]; simp), hb03.alloc hb03.size _⟩
            · have HM : Hid (∀ i, (hi : i < ps.length) → i < j + 1 → nmT (takeN b.data.toList ps[i]) ≠ x) := HMIS.out (by rw [hR]; exact hnx)
              have e1 : (nm == x) = false := by simpa using hnx
              clear hn hsm hR hcj hnx
              go_wp2_with fail
              go_roundw
              case rel => exact ⟨j + 1, by omega, by go_num, HM, hb03, hb13⟩
              case measure => simp [intOf]; omega
        · have HMS : Hid (packL (putT b.data.toList ps) ps P = (pre ++ UInt8.ofNat (P[k]'hlt).length :: P[k]'hlt) ++ packL (putT b.data.toList ps) ps (P.drop (k + 1))) := put_miss HK.out hlt (fun i hi => by rw [← HXE.out]; exact HA.out i hi (by omega))
          have hx20 := (HX.out _ (List.getElem_mem hlt)).1
          have hxs : (⟨x.toArray⟩ : ByteArray).size ≤ 4294967280 := by rw [size_list]; omega
          go_wp2_with fail
          refine (l1Labels_any _ _ hxs).mono ?_
          rintro e w3 ⟨v, rfl, hown, hb3⟩
          rw [show (⟨x.toArray⟩ : ByteArray).data.toList = x from rfl] at hown ⊢
          have hown := hown HNDk.out.1
          rw [HNDk.out.1]
          rw [HNDk.out.2] at hown
          have hb03 := hb.trans (hb3.mono hb.size)
          have hb13 := hb1i.trans (hb3.mono hb1i.size)
          obtain ⟨g, cap, hv, hg, hgl, hcap, hmax, hcell⟩ := own_shape hown (by rw [List.length_drop]; omega)
          have hc0 := hcell 0 (by rw [List.length_drop]; omega)
          rw [List.getElem?_map, List.getElem?_drop, Nat.add_zero, List.getElem?_eq_getElem hlt] at hc0
          obtain ⟨y, hy⟩ : ∃ y, y = P[k]'hlt := ⟨_, rfl⟩
          rw [← hy] at hc0 hx20 HMS
          have hc1 : w3.cell? ⟨g, 0, none⟩ = some (.string ⟨y.toArray⟩) := hc0
          rw [hv]
          have hlen : 0 < (P.drop k).length := by rw [List.length_drop]; omega
          obtain ⟨n, hn⟩ : ∃ n, n = (P.drop k).length := ⟨_, rfl⟩
          rw [← hn] at hlen hcap ⊢
          clear hown hcell hc0 hy hv hn
          have hconv := bytes_new_drew (w := w3) (n := (y.length : Int)) (x := y) rfl (by omega)
          unfold maxLen at hmax
          go_wp2_with fail
          go_region
          all_goals
            go_wp2_with fail
            refine (l1Parent_any _ _ hxs).mono ?_
            rintro e w4 ⟨rfl, rfl⟩
            rw [show (⟨x.toArray⟩ : ByteArray).data.toList = x from rfl, HPKk.out]
            obtain ⟨z, hz⟩ : ∃ z, z = joinD (P.drop (k + 1)) := ⟨_, rfl⟩
            rw [← hz] at HSH ⊢
            have HZ : Hid (z = joinD (P.drop (k + 1))) := hz
            clear hz
            go_wp2_with fail
            go_roundw
            case rel => exact ⟨k + 1, pre ++ UInt8.ofNat y.length :: y, by omega, by rw [HZ.out], val_strN (by simp), by simp; omega, HMS, (hb03.alloc hb03.size _).drew, (hb13.alloc hb13.size _).drew⟩
            case measure => simp only [strLen, size_list]; exact HSH.out
    · have HE : Hid (packL (putT b.data.toList ps) ps P = pre ++ [0] ∧ joinD (P.drop k) = []) := by
        have h1 : P.drop k = [] := List.drop_of_length_le (by omega)
        have h2 := HK.out
        rw [h1] at h2
        exact ⟨h2, by rw [h1]; rfl⟩
      rw [HE.out.2]
      go_wp2_with fail
      go_ret
      exact ⟨ret_strP (by rw [HPK.out, HE.out.1]; simp), hb⟩
end Go.Proofs.YtbgkocjpenkijaaGreatDoor

namespace Go.Proofs.YtbgkocjpenkijaaGreatDoor
open Go.RowKit

/-- Names packed behind bytes, however many. -/
def packAll : List UInt8 → List (List UInt8) → List UInt8
  | b, [] => b
  | b, s :: r => packAll (b ++ packed b s) r
theorem tot_joinD : ∀ P : List (List UInt8), tot P + P.length ≤ (joinD P).length + 1
  | [] => by simp [joinD, tot]
  | p :: r => by
    have ih := tot_joinD r
    have e : tot (p :: r) = p.length + tot r := by simp [tot]
    unfold joinD
    split
    · rename_i h; rw [e, h]; simp [tot]
    · rw [e]; simp; omega
theorem packL_len (T : List (List UInt8)) (ps : List Nat) : ∀ P : List (List UInt8), (packL T ps P).length ≤ tot P + P.length + 2
  | [] => by simp [packL]
  | x :: r => by
    have ih := packL_len T ps r
    have e : tot (x :: r) = x.length + tot r := by simp [tot]
    unfold packL
    split
    · rw [e]; simp [ptr]
    · rw [e]; simp; omega
theorem packed_len (b : List UInt8) {s : List UInt8} (h : nameB s = true) : (packed b s).length ≤ 63 := by
  have h1 := packL_len (putT b (sufs b)) (sufs b) (labelsOf s)
  have h2 := tot_joinD (labelsOf s)
  rw [joinD_labels] at h2
  have h3 : s.length ≤ 60 := by
    unfold nameB at h
    simp only [Bool.and_eq_true, decide_eq_true_eq] at h
    omega
  unfold packed
  omega
theorem packAll_len : ∀ (P : List (List UInt8)) (b : List UInt8), (∀ p ∈ P, nameB p = true) → (packAll b P).length ≤ b.length + 63 * P.length
  | [], b, _ => by simp [packAll]
  | s :: r, b, h => by
    have h1 := packed_len b (h s (by simp))
    have h2 := packAll_len r (b ++ packed b s) (fun p hp => h p (by simp [hp]))
    rw [packAll]
    simp only [List.length_append, List.length_cons] at h2 ⊢
    omega
theorem packAll_step {P : List (List UInt8)} {R b : List UInt8} {k : Nat} (h : R = packAll b (P.drop k)) (hk : k < P.length) : R = packAll (b ++ packed b P[k]) (P.drop (k + 1)) := by
  rw [h, List.drop_eq_getElem_cons hk, packAll]
theorem packAll_end {P : List (List UInt8)} {R b : List UInt8} {k : Nat} (h : R = packAll b (P.drop k)) (hk : ¬ k < P.length) : R = b := by
  rw [h, List.drop_of_length_le (by omega), packAll]

set_option maxRecDepth 20000 in
set_option maxHeartbeats 1000000 in
theorem l4Names_any (v : Value) (P : List (List UInt8)) (w : World) (hr : Row w v P) (hn : Hid (∀ p ∈ P, nameB p = true)) (h30 : P.length ≤ 30) :
    Calls Tryz.prog 77 #[v] w fun e w' => e = .returned (.string ⟨(packAll [] P).toArray⟩) ∧ Below w.heap.size w w' := by
  obtain ⟨a, cap, rfl, hcap, hmax, HROW⟩ := row_value hr
  clear hr
  have HR0 : Hid (packAll [] P = packAll [] (P.drop 0)) := by rw [List.drop_zero]; exact rfl
  go_enter Tryz.func77, Tryz.ntmps77
  go_wp2_with fail
  go_loopw [3, 8] (fun vb i wr => ∃ (k : Nat) (cur : List UInt8), k ≤ P.length ∧ i = .int .i64 (k : Int) ∧ vb = .string ⟨cur.toArray⟩ ∧ Hid (packAll [] P = packAll cur (P.drop k)) ∧ cur.length ≤ 63 * k ∧ Below w.heap.size w wr) (fun _ i _ => P.length - (intOf i).toNat)
  case atStart => exact ⟨0, [], Nat.zero_le _, rfl, rfl, HR0, Nat.le_refl _, Below.refl _ _⟩
  case round =>
    obtain ⟨k, cur, hk, rfl, rfl, HR, hcl, hb⟩ := hrel
    by_cases hlt : k < P.length
    · obtain ⟨b, o, ha, hbl, hc⟩ := HROW.out (by omega)
      rw [ha]
      have hcx := hc k hlt
      rw [← hb.cell (p := ⟨b, o + k, none⟩) hbl] at hcx
      have HN : Hid (packAll [] P = packAll (cur ++ packed cur (P[k]'hlt)) (P.drop (k + 1))) := packAll_step HR.out hlt
      have HX : Hid (nameB (P[k]'hlt) = true) := hn.out _ (List.getElem_mem hlt)
      have hnl : (cur ++ packed cur (P[k]'hlt)).length ≤ 63 * (k + 1) := by
        have h1 := packed_len cur HX.out
        rw [List.length_append]; omega
      obtain ⟨x, hx⟩ : ∃ x, x = P[k]'hlt := ⟨_, rfl⟩
      rw [← hx] at hcx HN HX hnl
      unfold S at hcx
      clear hc hx HR
      go_wp2_with fail
      refine (l2Put_any ⟨cur.toArray⟩ ⟨x.toArray⟩ _ (by rw [size_list]; omega) HX).mono ?_
      rintro e w2 ⟨rfl, hb2⟩
      have hb02 := hb.trans (hb2.mono hb.size)
      rw [show (⟨cur.toArray⟩ : ByteArray).data.toList = cur from rfl, show (⟨x.toArray⟩ : ByteArray).data.toList = x from rfl]
      obtain ⟨y, hy⟩ : ∃ y, y = cur ++ packed cur x := ⟨_, rfl⟩
      rw [← hy] at HN hnl ⊢
      clear hy
      go_wp2_with fail
      go_roundw
      case rel => exact ⟨k + 1, y, by omega, by go_num, rfl, HN, hnl, hb02⟩
      case measure => simp [intOf]; omega
    · have HN : Hid (packAll [] P = cur) := packAll_end HR.out hlt
      go_wp2_with fail
      go_ret
      exact ⟨ret_strP (x := ⟨cur.toArray⟩) HN.out.symm, hb⟩
end Go.Proofs.YtbgkocjpenkijaaGreatDoor

namespace Go.Proofs.YtbgkocjpenkijaaGreatDoor
open Go.RowKit

/-- Names put one behind the other. -/
def pkR : List UInt8 → List (List UInt8) → Option (List UInt8)
  | b, [] => some b
  | b, s :: r => match putR b s with
    | none => none
    | some y => pkR y r
theorem pk_none {P : List (List UInt8)} {cur : List UInt8} {k : Nat} {R : Option (List UInt8)} (h : R = pkR cur (P.drop k)) (hk : k < P.length) (hp : putR cur P[k] = none) : R = none := by
  rw [h, List.drop_eq_getElem_cons hk, pkR, hp]
theorem pk_some {P : List (List UInt8)} {cur y : List UInt8} {k : Nat} {R : Option (List UInt8)} (h : R = pkR cur (P.drop k)) (hk : k < P.length) (hp : putR cur P[k] = some y) : R = pkR y (P.drop (k + 1)) := by
  rw [h, List.drop_eq_getElem_cons hk, pkR, hp]
theorem pk_end {P : List (List UInt8)} {cur : List UInt8} {k : Nat} {R : Option (List UInt8)} (h : R = pkR cur (P.drop k)) (hk : ¬ k < P.length) : R = some cur := by
  rw [h, List.drop_of_length_le (by omega), pkR]
theorem packAll_more : ∀ (P : List (List UInt8)) (b : List UInt8), b.length ≤ (packAll b P).length
  | [], b => by simp [packAll]
  | s :: r, b => by
    have h2 := packAll_more r (b ++ packed b s)
    rw [packAll]
    simp only [List.length_append] at h2
    omega
/-- Put one behind the other is packed, where it is not too long. -/
theorem pkR_all : ∀ (P : List (List UInt8)) (b : List UInt8), (∀ p ∈ P, nameB p = true) → b.length ≤ 600 → pkR b P = if (packAll b P).length ≤ 600 then some (packAll b P) else none
  | [], b, _, hb => by rw [pkR, packAll, if_pos hb]
  | s :: r, b, h, hb => by
    rw [pkR, packAll]
    have hm := packAll_more r (b ++ packed b s)
    rw [List.length_append] at hm
    by_cases hc : b.length + (packed b s).length ≤ 600
    · have e : putR b s = some (b ++ packed b s) := if_pos ⟨hb, h s (by simp), hc⟩
      rw [e]
      exact pkR_all r (b ++ packed b s) (fun p hp => h p (by simp [hp])) (by rw [List.length_append]; exact hc)
    · have e : putR b s = none := if_neg (fun hh => hc hh.2.2)
      rw [e, if_neg (by omega)]

set_option maxRecDepth 20000 in
set_option maxHeartbeats 1000000 in
theorem iPackAll_any (v : Value) (P : List (List UInt8)) (w : World) (hr : Row w v P) (hE : Env w) :
    Calls Tryz.prog 48 #[v] w fun e w' => e = putVal (pkR [] P) ∧ Below w.heap.size w w' := by
  obtain ⟨a, cap, rfl, hcap, hmax, HROW⟩ := row_value hr
  clear hr
  have HR0 : Hid (pkR [] P = pkR [] (P.drop 0)) := by rw [List.drop_zero]; exact rfl
  obtain ⟨R, hR⟩ : ∃ R, R = pkR [] P := ⟨_, rfl⟩
  rw [← hR] at HR0 ⊢
  clear hR
  go_enter Tryz.func48, Tryz.ntmps48
  go_wp2_with fail
  go_loopw [4, 11] (fun vb i wr => ∃ (k : Nat) (cur : List UInt8), k ≤ P.length ∧ i = .int .i64 (k : Int) ∧ vb = .string ⟨cur.toArray⟩ ∧ Hid (R = pkR cur (P.drop k)) ∧ Below w.heap.size w wr) (fun _ i _ => P.length - (intOf i).toNat)
  case atStart => exact ⟨0, [], Nat.zero_le _, rfl, rfl, HR0, Below.refl _ _⟩
  case round =>
    obtain ⟨k, cur, hk, rfl, rfl, HR, hb⟩ := hrel
    by_cases hlt : k < P.length
    · obtain ⟨b, o, ha, hbl, hc⟩ := HROW.out (by omega)
      rw [ha]
      have hcx := hc k hlt
      rw [← hb.cell (p := ⟨b, o + k, none⟩) hbl] at hcx
      have HNO : Hid (putR cur (P[k]'hlt) = none → R = none) := fun h => pk_none HR.out hlt h
      have HYES : Hid (∀ y, putR cur (P[k]'hlt) = some y → R = pkR y (P.drop (k + 1))) := fun y h => pk_some HR.out hlt h
      obtain ⟨x, hx⟩ : ∃ x, x = P[k]'hlt := ⟨_, rfl⟩
      rw [← hx] at hcx HNO HYES
      unfold S at hcx
      clear hc hx
      go_wp2_with fail
      refine (iPutName_any ⟨cur.toArray⟩ ⟨x.toArray⟩ _ (hE.below hb)).mono ?_
      rintro e w2 ⟨rfl, hb2⟩
      have hb02 := hb.trans (hb2.mono hb.size)
      rw [show (⟨cur.toArray⟩ : ByteArray).data.toList = cur from rfl, show (⟨x.toArray⟩ : ByteArray).data.toList = x from rfl]
      unfold putVal
      cases hR : putR cur x with
      | none =>
        have HN : Hid (R = none) := HNO.out hR
        clear hR
        go_wp2_with fail
        go_ret2
        exact ⟨put_none HN.out, hb02⟩
      | some y =>
        have HN : Hid (R = pkR y (P.drop (k + 1))) := HYES.out y hR
        clear hR
        rw [show (some y).getD [] = y from rfl, show (some y).isSome = true from rfl]
        go_wp2_with fail
        go_roundw
        case rel => exact ⟨k + 1, y, by omega, by go_num, rfl, HN, hb02⟩
        case measure => simp [intOf]; omega
    · have HN : Hid (R = some cur) := pk_end HR.out hlt
      go_wp2_with fail
      go_ret2
      exact ⟨put_some HN.out rfl, hb⟩
end Go.Proofs.YtbgkocjpenkijaaGreatDoor
