import Derived.Test.YtoanloballaclaaDoorPackR
namespace Go.Proofs.YtoanloballaclaaDoor
open Go.RowKit

/-- Labels with their lengths, and a byte 0. -/
def wireL : List (List UInt8) → List UInt8
  | [] => [0]
  | x :: r => UInt8.ofNat x.length :: (x ++ wireL r)
theorem packL_plain : ∀ P : List (List UInt8), packL [] [] P = wireL P
  | [] => rfl
  | x :: r => by unfold packL wireL; rw [if_neg (by simp), packL_plain r]

/-- What NameBytes tells. -/
def wireT (l : List UInt8) : List UInt8 := if nameB l = true then wireL (labelsOf l) else []
/-- What stands ahead of the labels that are still to come. -/
def headL (P : List (List UInt8)) (k : Nat) : List UInt8 := ((P.take k).map (fun x => UInt8.ofNat x.length :: x)).flatten
theorem headL_zero (P : List (List UInt8)) : headL P 0 = [] := by simp [headL]
theorem headL_next (P : List (List UInt8)) (k : Nat) (h : k < P.length) : headL P (k + 1) = headL P k ++ (UInt8.ofNat P[k].length :: P[k]) := by
  unfold headL; rw [List.take_succ_eq_append_getElem h, List.map_append, List.flatten_append]; simp only [List.map_cons, List.map_nil, List.flatten_cons, List.flatten_nil, List.append_nil]
theorem headL_end (P : List (List UInt8)) (k : Nat) (h : ¬ k < P.length) : headL P k ++ [0] = wireL P := by
  unfold headL; rw [List.take_of_length_le (by omega)]
  clear h
  induction P with
  | nil => rfl
  | cons x r ih => rw [wireL, ← ih]; simp
theorem val_strN {x : ByteArray} {l : List UInt8} (h : x.data.toList = l) : Value.string x = .string ⟨l.toArray⟩ := by rw [data_eq h]

theorem bytes_new {w : World} {n : Int} {x : List UInt8} (hn : n = (x.length : Int)) (hx : x.length ≤ 255) :
    Sem.run Tryd.prog (convert 50 9 (.slice (some ⟨w.heap.size, 0, none⟩) 1 1)) (w.alloc (.cells #[.int .u8 n] 5)) = .ok (.string ⟨#[UInt8.ofNat x.length]⟩) (w.alloc (.cells #[.int .u8 n] 5)) := by
  refine run_convert_bytes_back _ 50 9 5 ⟨w.heap.size, 0, none⟩ 1 [UInt8.ofNat x.length] Tryd.underlying50 Tryd.underlying5 Tryd.underlying9 (fun j hj => ?_)
  match j, hj with
  | 0, _ =>
    have := b8_ofNat hx
    unfold B8 at this
    rw [cell_new_one w (.int .u8 n) 5 0 (.int .u8 n) rfl, hn]
    exact congrArg some this.symm

set_option maxRecDepth 20000 in
set_option maxHeartbeats 1000000 in
theorem l2Bytes_any (s : ByteArray) (w : World) (hs : s.size ≤ 4294967280) (hn : Hid (nameB s.data.toList = true)) :
    Calls Tryd.prog 23 #[.string s] w fun e w' => e = .returned (.string ⟨(wireL (labelsOf s.data.toList)).toArray⟩) ∧ Below w.heap.size w w' := by
  go_enter Tryd.func23, Tryd.ntmps23
  go_wp2_with fail
  refine (l1Labels_any s w hs).mono ?_
  rintro e w1 ⟨v, rfl, hown, hb⟩
  have hown := hown hn.out
  obtain ⟨hx, h8⟩ := name_labels hn.out
  rw [hn.out]
  obtain ⟨P, hP⟩ : ∃ P, P = labelsOf s.data.toList := ⟨_, rfl⟩
  rw [← hP] at hown hx h8
  have HP : Hid (P = labelsOf s.data.toList) := hP
  have HX : Hid (∀ p ∈ P, p.length ≤ 20 ∧ 0 < p.length) := hx
  obtain ⟨a, cap, hv, hcap, hmax, HROW⟩ := row_valueI (row_own hown)
  rw [hv]
  clear hown hP hx hv
  go_wp2_with fail
  go_loopw [5, 15] (fun v i wr => ∃ k : Nat, k ≤ P.length ∧ i = .int .i64 k ∧ v = .string ⟨(headL P k).toArray⟩ ∧ (headL P k).length ≤ 21 * k ∧ Below w.heap.size w wr ∧ Below w1.heap.size w1 wr) (fun _ i _ => P.length - (intOf i).toNat)
  case atStart => exact ⟨0, Nat.zero_le _, rfl, by rw [headL_zero], by rw [headL_zero]; exact Nat.le_refl _, hb, Below.refl _ _⟩
  case round =>
    obtain ⟨k, hk, rfl, rfl, hhl, hbr, hb1⟩ := hrel
    by_cases hlt : k < P.length
    · obtain ⟨b, o, ha, hbl, hc⟩ := HROW.out (by omega)
      rw [ha]
      have hcx : wr.cell? ⟨b, o + k, none⟩ = some (.string ⟨(P[k]'hlt).toArray⟩) := by rw [hb1.cell (p := ⟨b, o + k, none⟩) hbl]; exact hc k hlt
      clear hc
      have hxl := (HX.out _ (List.getElem_mem hlt)).1
      have HN : Hid (headL P (k + 1) = headL P k ++ (UInt8.ofNat (P[k]'hlt).length :: P[k]'hlt)) := headL_next P k hlt
      obtain ⟨x, hxe⟩ : ∃ x, x = P[k]'hlt := ⟨_, rfl⟩
      rw [← hxe] at hcx hxl HN
      obtain ⟨z, hz⟩ : ∃ z, z = headL P k := ⟨_, rfl⟩
      rw [← hz] at hhl HN ⊢
      clear hxe hz
      have hconv := bytes_new (w := wr) (n := (x.length : Int)) (x := x) rfl (by omega)
      go_wp2_with fail
      go_roundw
      case rel => exact ⟨k + 1, by omega, by go_num, val_strN (by rw [HN.out]; simp), by rw [HN.out]; simp; omega, hbr.alloc hbr.size _, hb1.alloc hb1.size _⟩
      case measure => simp [intOf]; omega
    · have HE : Hid (headL P k ++ [0] = wireL P) := headL_end P k hlt
      obtain ⟨z, hz⟩ : ∃ z, z = headL P k := ⟨_, rfl⟩
      rw [← hz] at hhl HE ⊢
      clear hz
      go_wp2_with fail
      go_ret
      exact ⟨congrArg Ending.returned (val_strN (by rw [← HP.out, ← HE.out]; simp)), hbr⟩


theorem trk_one (s : List UInt8) : trkR [] [] [] [s] = if nameB s = true then some (wireL (labelsOf s)) else none := by
  rw [trkR]
  split
  · rw [trkR, packL_plain]; rfl
  · rfl
theorem row_lit1 (w : World) (nm : ByteArray) : Row (w.alloc (.cells #[.string nm] 9)) (.slice (some ⟨w.heap.size, 0, none⟩) 1 1) [nm.data.toList] := by
  refine row_own (base := w.heap.size) ?_
  exact World.ownsRow_lit w #[.string nm] 1 (Nat.le_refl _) (by unfold maxLen; omega) rfl

end Go.Proofs.YtoanloballaclaaDoor
