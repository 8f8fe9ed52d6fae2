import Derived.Test.YtbgkocjpenkijaaGreatDoorPutS
namespace Go.Proofs.YtbgkocjpenkijaaGreatDoor
open Go.RowKit

def strLen : Value → Nat
  | .string x => x.size
  | _ => 0
theorem joinD_shorter {P : List (List UInt8)} (h : Plain P) {k : Nat} (hk : k < P.length) : (joinD (P.drop (k + 1))).length < (joinD (P.drop k)).length := by
  rw [List.drop_eq_getElem_cons hk]
  have hp := (h _ (List.getElem_mem hk)).1
  have hl : 0 < P[k].length := List.length_pos_iff.2 hp
  obtain ⟨r, hr⟩ : ∃ r, r = P.drop (k + 1) := ⟨_, rfl⟩
  rw [← hr]
  by_cases h0 : r = []
  · subst h0; simpa [joinD] using hl
  · rw [joinD, if_neg h0]; simp; omega
theorem ret_strP {x : ByteArray} {l : List UInt8} (h : x.data.toList = l) : Ending.returned (.string x) = .returned (.string ⟨l.toArray⟩) := by rw [data_eq h]

theorem bytes_new_drew {w : World} {n : Int} {x : List UInt8} (hn : n = (x.length : Int)) (hx : x.length ≤ 255) :
    Sem.run Tryz.prog (convert 22 9 (.slice (some ⟨w.heap.size, 0, none⟩) 1 1)) (w.alloc (.cells #[.int .u8 n] 5)).drew = .ok (.string ⟨#[UInt8.ofNat x.length]⟩) (w.alloc (.cells #[.int .u8 n] 5)).drew := by
  refine run_convert_bytes_back _ 22 9 5 ⟨w.heap.size, 0, none⟩ 1 [UInt8.ofNat x.length] Tryz.underlying22 Tryz.underlying5 Tryz.underlying9 (fun j hj => ?_)
  match j, hj with
  | 0, _ =>
    have := b8_ofNat hx
    unfold B8 at this
    have e : (w.alloc (.cells #[.int .u8 n] 5)).drew.cell? ((⟨w.heap.size, 0, none⟩ : Addr).add 0) = some (.int .u8 n) := cell_new_one w (.int .u8 n) 5 0 (.int .u8 n) rfl
    rw [e, hn]
    exact congrArg some this.symm

set_option maxRecDepth 20000 in
set_option maxHeartbeats 4000000 in
theorem l2Put_any (b s : ByteArray) (w : World) (hs : b.size ≤ 4000) (hN : Hid (nameB s.data.toList = true)) :
    Calls Tryz.prog 106 #[.string b, .string s] w fun e w' => e = .returned (.string ⟨(b.data.toList ++ packed b.data.toList s.data.toList).toArray⟩) ∧ Below w.heap.size w w' := by
  obtain ⟨hx20, h8⟩ := name_labels hN.out
  have HX : Hid (∀ p ∈ labelsOf s.data.toList, p.length ≤ 20 ∧ 0 < p.length) := hx20
  have HPL : Hid (Plain (labelsOf s.data.toList)) := name_plain hN.out
  have HND : Hid (∀ k, nameB (joinD ((labelsOf s.data.toList).drop k)) = true ∧ labelsOf (joinD ((labelsOf s.data.toList).drop k)) = (labelsOf s.data.toList).drop k) := fun k => name_drop hN.out k
  have HNE : Hid (∀ k, k < (labelsOf s.data.toList).length → joinD ((labelsOf s.data.toList).drop k) ≠ []) := fun k hk => joinD_drop_ne hN.out hk
  have HJ0 : Hid (joinD ((labelsOf s.data.toList).drop 0) = s.data.toList) := by rw [List.drop_zero]; exact joinD_labels _
  have HJ60 : Hid (∀ k, (joinD ((labelsOf s.data.toList).drop k)).length ≤ 60) := fun k => by
    have h1 := joinD_drop_le (labelsOf s.data.toList) k
    rw [joinD_labels] at h1
    have h2 := hN.out
    unfold nameB at h2
    simp only [Bool.and_eq_true, decide_eq_true_eq] at h2
    omega
  clear hx20
  go_enter Tryz.func106, Tryz.ntmps106
  go_wp2_with fail
  refine (l2Suffixes_any b w hs).mono ?_
  rintro e w1 ⟨vp, rfl, hownp, hb1⟩
  have hsl : (sufs b.data.toList).length ≤ 4000 := Nat.le_trans (sufs_length _) (by rw [data_len]; exact hs)
  have HSM : Hid (∀ p ∈ sufs b.data.toList, p ≤ 4000) := fun p hp => by have h := sufF_mem _ _ _ p hp; rw [data_len] at h; omega
  obtain ⟨ap, cp, hvp, hcp, hmp, HPR⟩ := irow_value (irow_own hownp)
  subst hvp
  obtain ⟨P, hP⟩ : ∃ P, P = labelsOf s.data.toList := ⟨_, rfl⟩
  obtain ⟨ps, hps⟩ : ∃ ps, ps = sufs b.data.toList := ⟨_, rfl⟩
  have HPK : Hid (packed b.data.toList s.data.toList = packL (putT b.data.toList ps) ps P) := by rw [hP, hps]; exact rfl
  rw [← hP] at HX HPL HND HNE HJ0 HJ60 h8
  rw [← hps] at hsl HSM hcp HPR ⊢
  have HS0 : Hid (s = ⟨(joinD (P.drop 0)).toArray⟩) := data_eq HJ0.out.symm
  clear hownp hP hps
  go_wp2_with fail
  go_loopw [1, 6] (fun vs vh wr => ∃ (k : Nat) (pre : List UInt8), k ≤ P.length ∧ vs = .string ⟨(joinD (P.drop k)).toArray⟩ ∧ vh = .string ⟨pre.toArray⟩ ∧ pre.length ≤ 21 * k ∧ Hid (packL (putT b.data.toList ps) ps P = pre ++ packL (putT b.data.toList ps) ps (P.drop k)) ∧ Below w.heap.size w wr ∧ Below w1.heap.size w1 wr) (fun vs _ _ => strLen vs)
  case atStart => exact ⟨0, [], Nat.zero_le _, congrArg Value.string HS0.out, rfl, Nat.le_refl _, rfl, hb1, Below.refl _ _⟩
  case round =>
    obtain ⟨k, pre, hk, rfl, rfl, hpre, HK, hb, hb1r⟩ := hrel
    have h60 := HJ60.out k
    by_cases hlt : k < P.length
    · have HNEk : Hid (joinD (P.drop k) ≠ []) := HNE.out k hlt
      have HPKk : Hid (parentL (joinD (P.drop k)) = joinD (P.drop (k + 1))) := by
        rw [parent_joinD (by intro e; have := congrArg List.length e; rw [List.length_drop, List.length_nil] at this; omega) (HPL.out.drop k), List.tail_drop]; exact rfl
      have HSH : Hid ((joinD (P.drop (k + 1))).length < (joinD (P.drop k)).length) := joinD_shorter HPL.out hlt
      have HNDk : Hid (nameB (joinD (P.drop k)) = true ∧ labelsOf (joinD (P.drop k)) = P.drop k) := HND.out k
      obtain ⟨x, hx⟩ : ∃ x, x = joinD (P.drop k) := ⟨_, rfl⟩
      have HXE : Hid (x = joinD (P.drop k)) := hx
      rw [← hx] at HNEk HPKk HSH HNDk h60 ⊢
      have e0 : x.isEmpty = false := by simpa using HNEk.out
      clear hx
      go_wp2_with fail
      go_loopw [21] (fun i wi => ∃ j : Nat, j ≤ ps.length ∧ i = .int .i64 (j : Int) ∧ Hid (∀ i, (hi : i < ps.length) → i < j → nmT (takeN b.data.toList ps[i]) ≠ x) ∧ Below w.heap.size w wi ∧ Below w1.heap.size w1 wi) (fun i _ => ps.length - (intOf i).toNat)
      case atStart => exact ⟨0, Nat.zero_le _, rfl, fun i _ hi => absurd hi (Nat.not_lt_zero i), hb, hb1r⟩
      case round =>
        clear hb hb1r
        obtain ⟨j, hj, rfl, HA, hb, hb1i⟩ := hrel
        by_cases hjl : j < ps.length
        · obtain ⟨bp, op, hap, hbp, hcpx⟩ := HPR.out (by omega)
          rw [hap]
          have hcj := hcpx j hjl
          rw [← hb1i.cell (p := ⟨bp, op + j, none⟩) hbp] at hcj
          have hp6 := HSM.out _ (List.getElem_mem hjl)
          have HHIT : Hid (nmT (takeN b.data.toList (ps[j]'hjl)) = x → packL (putT b.data.toList ps) ps P = pre ++ ptr (ps[j]'hjl)) := fun h => put_hit HK.out hlt hjl (by rw [h]; exact HXE.out) (fun i hi hij => by rw [← HXE.out]; exact HA.out i hi hij)
          have HMIS : Hid (nmT (takeN b.data.toList (ps[j]'hjl)) ≠ x → ∀ i, (hi : i < ps.length) → i < j + 1 → nmT (takeN b.data.toList ps[i]) ≠ x) := fun h i hi hij => by
            by_cases e : i = j
            · subst e; exact h
            · exact HA.out i hi (by omega)
          obtain ⟨p, hp⟩ : ∃ p, p = ps[j]'hjl := ⟨_, rfl⟩
          rw [← hp] at hcj hp6 HHIT HMIS
          clear hcpx hp
          go_wp2_with fail
          refine (l2Take_any b p _ hs (by omega)).mono ?_
          rintro e w3 ⟨hn, hsm, hb3⟩
          have hb03 := hb.trans (hb3.mono hb.size)
          have hb13 := hb1i.trans (hb3.mono hb1i.size)
          cases hR : takeN b.data.toList p with
          | none =>
            obtain ⟨y, n, v, rfl⟩ := hn hR
            have HM : Hid (∀ i, (hi : i < ps.length) → i < j + 1 → nmT (takeN b.data.toList ps[i]) ≠ x) := HMIS.out (by rw [hR]; exact fun e => HNEk.out e.symm)
            clear hn hsm hR hcj
            go_wp2_with fail
            go_roundw
            case rel => exact ⟨j + 1, by omega, by go_num, HM, hb03, hb13⟩
            case measure => simp [intOf]; omega
          | some z =>
            obtain ⟨nm, en, q⟩ := z
            obtain ⟨v, rfl, _⟩ := hsm nm en q hR
            by_cases hnx : nm = x
            · subst hnx
              have HH : Hid (packL (putT b.data.toList ps) ps P = pre ++ ptr p) := HHIT.out (by rw [hR]; rfl)
              have hconv := bytes_two (w := w3) hp6
              have hpl2 : (ptr p).length ≤ 2 := by simp [ptr]
              clear hn hsm hR hcj
              go_wp2_with fail
              go_ret
              exact ⟨ret_strP (by rw [HPK.out, HH.out]; simp), hb03.alloc hb03.size _⟩
            · have HM : Hid (∀ i, (hi : i < ps.length) → i < j + 1 → nmT (takeN b.data.toList ps[i]) ≠ x) := HMIS.out (by rw [hR]; exact hnx)
              have e1 : (nm == x) = false := by simpa using hnx
              clear hn hsm hR hcj hnx
              go_wp2_with fail
              go_roundw
              case rel => exact ⟨j + 1, by omega, by go_num, HM, hb03, hb13⟩
              case measure => simp [intOf]; omega
        · have HMS : Hid (packL (putT b.data.toList ps) ps P = (pre ++ UInt8.ofNat (P[k]'hlt).length :: P[k]'hlt) ++ packL (putT b.data.toList ps) ps (P.drop (k + 1))) := put_miss HK.out hlt (fun i hi => by rw [← HXE.out]; exact HA.out i hi (by omega))
          have hx20 := (HX.out _ (List.getElem_mem hlt)).1
          have hxs : (⟨x.toArray⟩ : ByteArray).size ≤ 4294967280 := by rw [size_list]; omega
          go_wp2_with fail
          refine (l1Labels_any _ _ hxs).mono ?_
          rintro e w3 ⟨v, rfl, hown, hb3⟩
          rw [show (⟨x.toArray⟩ : ByteArray).data.toList = x from rfl] at hown ⊢
          have hown := hown HNDk.out.1
          rw [HNDk.out.1]
          rw [HNDk.out.2] at hown
          have hb03 := hb.trans (hb3.mono hb.size)
          have hb13 := hb1i.trans (hb3.mono hb1i.size)
          obtain ⟨g, cap, hv, hg, hgl, hcap, hmax, hcell⟩ := own_shape hown (by rw [List.length_drop]; omega)
          have hc0 := hcell 0 (by rw [List.length_drop]; omega)
          rw [List.getElem?_map, List.getElem?_drop, Nat.add_zero, List.getElem?_eq_getElem hlt] at hc0
          obtain ⟨y, hy⟩ : ∃ y, y = P[k]'hlt := ⟨_, rfl⟩
          rw [← hy] at hc0 hx20 HMS
          have hc1 : w3.cell? ⟨g, 0, none⟩ = some (.string ⟨y.toArray⟩) := hc0
          rw [hv]
          have hlen : 0 < (P.drop k).length := by rw [List.length_drop]; omega
          obtain ⟨n, hn⟩ : ∃ n, n = (P.drop k).length := ⟨_, rfl⟩
          rw [← hn] at hlen hcap ⊢
          clear hown hcell hc0 hy hv hn
          have hconv := bytes_new_drew (w := w3) (n := (y.length : Int)) (x := y) rfl (by omega)
          unfold maxLen at hmax
          go_wp2_with fail
          go_region
          all_goals
            go_wp2_with fail
            refine (l1Parent_any _ _ hxs).mono ?_
            rintro e w4 ⟨rfl, rfl⟩
            rw [show (⟨x.toArray⟩ : ByteArray).data.toList = x from rfl, HPKk.out]
            obtain ⟨z, hz⟩ : ∃ z, z = joinD (P.drop (k + 1)) := ⟨_, rfl⟩
            rw [← hz] at HSH ⊢
            have HZ : Hid (z = joinD (P.drop (k + 1))) := hz
            clear hz
            go_wp2_with fail
            go_roundw
            case rel => exact ⟨k + 1, pre ++ UInt8.ofNat y.length :: y, by omega, by rw [HZ.out], val_strN (by simp), by simp; omega, HMS, (hb03.alloc hb03.size _).drew, (hb13.alloc hb13.size _).drew⟩
            case measure => simp only [strLen, size_list]; exact HSH.out
    · have HE : Hid (packL (putT b.data.toList ps) ps P = pre ++ [0] ∧ joinD (P.drop k) = []) := by
        have h1 : P.drop k = [] := List.drop_of_length_le (by omega)
        have h2 := HK.out
        rw [h1] at h2
        exact ⟨h2, by rw [h1]; rfl⟩
      rw [HE.out.2]
      go_wp2_with fail
      go_ret
      exact ⟨ret_strP (by rw [HPK.out, HE.out.1]; simp), hb⟩
end Go.Proofs.YtbgkocjpenkijaaGreatDoor
