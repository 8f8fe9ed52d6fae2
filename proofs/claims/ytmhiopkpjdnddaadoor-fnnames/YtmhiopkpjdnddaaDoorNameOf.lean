import Derived.Test.YtmhiopkpjdnddaaDoorListT
import Derived.Test.YtmhiopkpjdnddaaDoorJoinN
namespace Go.Proofs.YtmhiopkpjdnddaaDoor
open Go.RowKit

set_option maxRecDepth 20000 in
set_option maxHeartbeats 1000000 in
theorem sNameOf_any (v : Value) (P : List (List UInt8)) (w : World) (hr : Row w v P) (hl : Hid (P.length + tot P ≤ 1048576)) :
    Calls Tryd.prog 19 #[v] w fun e w' => e = .returned (.tuple #[.string ⟨(nameOfT P).toArray⟩, .bool (nameOfB P)]) ∧ Below w.heap.size w w' := by
  have hr0 := hr
  obtain ⟨a, cap, rfl, hcap, hmax, HROW⟩ := row_value hr
  have HJL : Hid ((joinD P).length ≤ 1048576) := by have := joinD_tot P; have := hl.out; exact (show (joinD P).length ≤ 1048576 by omega)
  have HR0 : Hid (Row w (.slice a P.length cap) P) := hr0
  clear hr hr0
  go_enter Tryd.func19, Tryd.ntmps19
  go_wp2_with fail
  go_loop [9] (fun i => ∃ k : Nat, k ≤ P.length ∧ i = .int .i64 k ∧ Hid ((P.take k).all labelB = true)) (fun i => P.length - (intOf i).toNat)
  case atStart => exact ⟨0, Nat.zero_le _, rfl, rfl⟩
  case round =>
    obtain ⟨k, hk, rfl, HA⟩ := hrel
    by_cases hlt : k < P.length
    · obtain ⟨b, o, ha, hbl, hc⟩ := HROW.out (by omega)
      rw [ha]
      have hcx := hc k hlt
      unfold S at hcx
      clear hc
      have hpl : (⟨(P[k]'hlt).toArray⟩ : ByteArray).size ≤ maxLen := by
        have h1 := tot_one (List.getElem_mem hlt)
        have h2 := hl.out
        rw [size_list]; unfold maxLen; omega
      cases ho : labelB (P[k]'hlt) with
      | true =>
        have HO : Hid (labelB (P[k]'hlt) = true) := ho
        clear ho
        go_wp2_with fail
        refine (l1Label_any _ _ hpl).mono ?_
        rintro e w2 ⟨rfl, rfl⟩
        rw [show (⟨(P[k]'hlt).toArray⟩ : ByteArray).data.toList = P[k]'hlt from rfl, HO.out]
        go_wp2_with fail
        go_round
        case rel => exact ⟨k + 1, by omega, by go_num, pieces_step HA.out hlt HO.out⟩
        case measure => simp [intOf]; omega
      | false =>
        have HO : Hid (labelB (P[k]'hlt) = false) := ho
        clear ho
        go_wp2_with fail
        refine (l1Label_any _ _ hpl).mono ?_
        rintro e w2 ⟨rfl, rfl⟩
        rw [show (⟨(P[k]'hlt).toArray⟩ : ByteArray).data.toList = P[k]'hlt from rfl, HO.out]
        go_wp2_with fail
        go_ret2
        have hN : nameOfB P = false := by unfold nameOfB; rw [pieces_not hlt HO.out]; rfl
        exact ⟨ret_two (by unfold nameOfT; rw [hN]; rfl) (val_bool hN.symm), Below.refl _ _⟩
    · have hall := pieces_full HA.out hlt
      have HN : Hid (nameOfB P = nameB (joinD P)) := by unfold nameOfB; rw [hall, Bool.true_and]; exact rfl
      have hjs : (⟨(joinD P).toArray⟩ : ByteArray).size ≤ 4294967280 := by rw [size_list]; have := HJL.out; omega
      clear hall
      go_wp2_with fail
      refine (l1Join_any _ P w HR0.out HJL).mono ?_
      rintro e w1 ⟨rfl, rfl⟩
      go_wp2_with fail
      refine (sGoodName_any _ _ hjs).mono ?_
      rintro e w2 ⟨rfl, hb2⟩
      rw [show (⟨(joinD P).toArray⟩ : ByteArray).data.toList = joinD P from rfl]
      cases hn : nameB (joinD P) with
      | false =>
        have HNN : Hid (nameOfB P = false) := by rw [HN.out]; exact hn
        clear hn
        go_wp2_with fail
        go_ret2
        exact ⟨ret_two (by unfold nameOfT; rw [HNN.out]; rfl) (val_bool HNN.out.symm), hb2⟩
      | true =>
        have HNN : Hid (nameOfB P = true) := by rw [HN.out]; exact hn
        clear hn
        go_wp2_with fail
        go_ret2
        exact ⟨ret_two (by unfold nameOfT; rw [HNN.out]; rfl) (val_bool HNN.out.symm), hb2⟩

end Go.Proofs.YtmhiopkpjdnddaaDoor
