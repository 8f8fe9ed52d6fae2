import Derived.Test.YtbgkocjpenkijaaGreatDoorPutW
namespace Go.Proofs.YtbgkocjpenkijaaGreatDoor
open Go.RowKit

/-- Names packed behind bytes, however many. -/
def packAll : List UInt8 → List (List UInt8) → List UInt8
  | b, [] => b
  | b, s :: r => packAll (b ++ packed b s) r
theorem tot_joinD : ∀ P : List (List UInt8), tot P + P.length ≤ (joinD P).length + 1
  | [] => by simp [joinD, tot]
  | p :: r => by
    have ih := tot_joinD r
    have e : tot (p :: r) = p.length + tot r := by simp [tot]
    unfold joinD
    split
    · rename_i h; rw [e, h]; simp [tot]
    · rw [e]; simp; omega
theorem packL_len (T : List (List UInt8)) (ps : List Nat) : ∀ P : List (List UInt8), (packL T ps P).length ≤ tot P + P.length + 2
  | [] => by simp [packL]
  | x :: r => by
    have ih := packL_len T ps r
    have e : tot (x :: r) = x.length + tot r := by simp [tot]
    unfold packL
    split
    · rw [e]; simp [ptr]
    · rw [e]; simp; omega
theorem packed_len (b : List UInt8) {s : List UInt8} (h : nameB s = true) : (packed b s).length ≤ 63 := by
  have h1 := packL_len (putT b (sufs b)) (sufs b) (labelsOf s)
  have h2 := tot_joinD (labelsOf s)
  rw [joinD_labels] at h2
  have h3 : s.length ≤ 60 := by
    unfold nameB at h
    simp only [Bool.and_eq_true, decide_eq_true_eq] at h
    omega
  unfold packed
  omega
theorem packAll_len : ∀ (P : List (List UInt8)) (b : List UInt8), (∀ p ∈ P, nameB p = true) → (packAll b P).length ≤ b.length + 63 * P.length
  | [], b, _ => by simp [packAll]
  | s :: r, b, h => by
    have h1 := packed_len b (h s (by simp))
    have h2 := packAll_len r (b ++ packed b s) (fun p hp => h p (by simp [hp]))
    rw [packAll]
    simp only [List.length_append, List.length_cons] at h2 ⊢
    omega
theorem packAll_step {P : List (List UInt8)} {R b : List UInt8} {k : Nat} (h : R = packAll b (P.drop k)) (hk : k < P.length) : R = packAll (b ++ packed b P[k]) (P.drop (k + 1)) := by
  rw [h, List.drop_eq_getElem_cons hk, packAll]
theorem packAll_end {P : List (List UInt8)} {R b : List UInt8} {k : Nat} (h : R = packAll b (P.drop k)) (hk : ¬ k < P.length) : R = b := by
  rw [h, List.drop_of_length_le (by omega), packAll]

set_option maxRecDepth 20000 in
set_option maxHeartbeats 1000000 in
theorem l4Names_any (v : Value) (P : List (List UInt8)) (w : World) (hr : Row w v P) (hn : Hid (∀ p ∈ P, nameB p = true)) (h30 : P.length ≤ 30) :
    Calls Tryz.prog 77 #[v] w fun e w' => e = .returned (.string ⟨(packAll [] P).toArray⟩) ∧ Below w.heap.size w w' := by
  obtain ⟨a, cap, rfl, hcap, hmax, HROW⟩ := row_value hr
  clear hr
  have HR0 : Hid (packAll [] P = packAll [] (P.drop 0)) := by rw [List.drop_zero]; exact rfl
  go_enter Tryz.func77, Tryz.ntmps77
  go_wp2_with fail
  go_loopw [3, 8] (fun vb i wr => ∃ (k : Nat) (cur : List UInt8), k ≤ P.length ∧ i = .int .i64 (k : Int) ∧ vb = .string ⟨cur.toArray⟩ ∧ Hid (packAll [] P = packAll cur (P.drop k)) ∧ cur.length ≤ 63 * k ∧ Below w.heap.size w wr) (fun _ i _ => P.length - (intOf i).toNat)
  case atStart => exact ⟨0, [], Nat.zero_le _, rfl, rfl, HR0, Nat.le_refl _, Below.refl _ _⟩
  case round =>
    obtain ⟨k, cur, hk, rfl, rfl, HR, hcl, hb⟩ := hrel
    by_cases hlt : k < P.length
    · obtain ⟨b, o, ha, hbl, hc⟩ := HROW.out (by omega)
      rw [ha]
      have hcx := hc k hlt
      rw [← hb.cell (p := ⟨b, o + k, none⟩) hbl] at hcx
      have HN : Hid (packAll [] P = packAll (cur ++ packed cur (P[k]'hlt)) (P.drop (k + 1))) := packAll_step HR.out hlt
      have HX : Hid (nameB (P[k]'hlt) = true) := hn.out _ (List.getElem_mem hlt)
      have hnl : (cur ++ packed cur (P[k]'hlt)).length ≤ 63 * (k + 1) := by
        have h1 := packed_len cur HX.out
        rw [List.length_append]; omega
      obtain ⟨x, hx⟩ : ∃ x, x = P[k]'hlt := ⟨_, rfl⟩
      rw [← hx] at hcx HN HX hnl
      unfold S at hcx
      clear hc hx HR
      go_wp2_with fail
      refine (l2Put_any ⟨cur.toArray⟩ ⟨x.toArray⟩ _ (by rw [size_list]; omega) HX).mono ?_
      rintro e w2 ⟨rfl, hb2⟩
      have hb02 := hb.trans (hb2.mono hb.size)
      rw [show (⟨cur.toArray⟩ : ByteArray).data.toList = cur from rfl, show (⟨x.toArray⟩ : ByteArray).data.toList = x from rfl]
      obtain ⟨y, hy⟩ : ∃ y, y = cur ++ packed cur x := ⟨_, rfl⟩
      rw [← hy] at HN hnl ⊢
      clear hy
      go_wp2_with fail
      go_roundw
      case rel => exact ⟨k + 1, y, by omega, by go_num, rfl, HN, hnl, hb02⟩
      case measure => simp [intOf]; omega
    · have HN : Hid (packAll [] P = cur) := packAll_end HR.out hlt
      go_wp2_with fail
      go_ret
      exact ⟨ret_strP (x := ⟨cur.toArray⟩) HN.out.symm, hb⟩
end Go.Proofs.YtbgkocjpenkijaaGreatDoor
