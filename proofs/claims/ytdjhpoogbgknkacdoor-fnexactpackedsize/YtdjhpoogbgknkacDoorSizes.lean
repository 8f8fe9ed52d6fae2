import Derived.Test.YtdjhpoogbgknkacDoorPacks
namespace Go.Proofs.YtdjhpoogbgknkacDoor
open Go.RowKit

theorem put_name {b s y : List UInt8} (h : putR b s = some y) : nameB s = true := by
  unfold putR at h
  split at h
  · rename_i hc; exact hc.2.1
  · cases h
theorem pk_names : ∀ (Q : List (List UInt8)) (b z : List UInt8), pkR b Q = some z → ∀ s ∈ Q, nameB s = true
  | [], _, _, _, s, hs => by cases hs
  | x :: r, b, z, h, s, hs => by
    rw [pkR] at h
    split at h
    · cases h
    · rename_i y hy
      rcases List.mem_cons.1 hs with rfl | hs
      · exact put_name hy
      · exact pk_names r y z h s hs
theorem pk_length : ∀ (Q : List (List UInt8)) (b z : List UInt8), b.length ≤ 600 → pkR b Q = some z → z.length ≤ 600
  | [], b, z, hb, h => by rw [pkR] at h; simp only [Option.some.injEq] at h; rw [← h]; exact hb
  | x :: r, b, z, hb, h => by
    rw [pkR] at h
    split at h
    · cases h
    · rename_i y hy
      exact pk_length r y z (putR_length _ _ _ hy) h
theorem pack_facts {P : List (List UInt8)} {z : List UInt8} (h : packR P = some z) : P.length ≤ 20 ∧ z.length ≤ 600 ∧ ∀ s ∈ P, nameB s = true := by
  unfold packR at h
  split at h
  · rename_i h20; exact ⟨h20, pk_length P [] z (by simp) h, pk_names P [] z h⟩
  · cases h

/-- The bytes of names without pointers. -/
def sumN (P : List (List UInt8)) : Nat := (P.map (fun p => (wireL (labelsOf p)).length)).sum
theorem sumN_next (P : List (List UInt8)) (k : Nat) (h : k < P.length) : sumN (P.take (k + 1)) = sumN (P.take k) + (wireL (labelsOf P[k])).length := by
  unfold sumN; rw [List.take_succ_eq_append_getElem h, List.map_append, List.sum_append]; simp only [List.map_cons, List.map_nil, List.sum_cons, List.sum_nil, Nat.add_zero]
theorem wireL_small : ∀ P : List (List UInt8), (∀ p ∈ P, p.length ≤ 20) → (wireL P).length ≤ 21 * P.length + 1
  | [], _ => by simp [wireL]
  | x :: r, h => by
    have h1 := h x (by simp)
    have ih := wireL_small r (fun q hq => h q (by simp [hq]))
    unfold wireL; simp; omega
theorem wire_small {s : List UInt8} (h : nameB s = true) : (wireL (labelsOf s)).length ≤ 169 := by
  obtain ⟨h1, h2⟩ := name_labels h
  have := wireL_small (labelsOf s) (fun p hp => (h1 p hp).1)
  omega

/-- What PackedSize tells. -/
def sizeVal (P : List (List UInt8)) : Value := match packR P with
  | none => .tuple #[.int .i64 0, .int .i64 0, .bool false]
  | some z => .tuple #[.int .i64 ((z.length : Nat) : Int), .int .i64 ((sumN P : Nat) : Int), .bool true]
theorem size_none {P : List (List UInt8)} (h : packR P = none) : Ending.returned (.tuple #[.int .i64 0, .int .i64 0, .bool false]) = .returned (sizeVal P) := by unfold sizeVal; rw [h]
theorem size_some {P : List (List UInt8)} {z : List UInt8} {a b : Int} (h : packR P = some z) (ha : a = (z.length : Int)) (hb : b = ((sumN P : Nat) : Int)) : Ending.returned (.tuple #[.int .i64 a, .int .i64 b, .bool true]) = .returned (sizeVal P) := by
  unfold sizeVal; rw [h, ha, hb]

set_option maxRecDepth 20000 in
set_option maxHeartbeats 1000000 in
theorem iPackedSize_any (v : Value) (P : List (List UInt8)) (w : World) (hr : Row w v P) (hl : Hid (P.length + tot P ≤ 1048576)) (hE : Env w) :
    Calls Tryd.prog 25 #[v] w fun e w' => e = .returned (sizeVal P) ∧ Below w.heap.size w w' := by
  have HR0 : Hid (Row w v P) := hr
  go_enter Tryd.func25, Tryd.ntmps25
  go_wp2_with fail
  refine (iPackNames_any v P w hr hl hE).mono ?_
  rintro e w1 ⟨rfl, hb1⟩
  unfold putVal
  cases hR : packR P with
  | none =>
    have HR : Hid (packR P = none) := hR
    clear hR
    go_wp2_with fail
    go_ret3
    exact ⟨size_none HR.out, hb1⟩
  | some z =>
    have HR : Hid (packR P = some z) := hR
    obtain ⟨h20, hz, hnm⟩ := pack_facts hR
    have HNM : Hid (∀ s ∈ P, nameB s = true) := hnm
    obtain ⟨a, cap, rfl, hcap, hmax, HROW⟩ := row_value hr
    clear hR hnm hr
    rw [show (some z).getD [] = z from rfl, show (some z).isSome = true from rfl]
    go_wp2_with fail
    go_loopw [7, 21] (fun n i wr => ∃ k : Nat, k ≤ P.length ∧ i = .int .i64 (k : Int) ∧ n = .int .i64 ((sumN (P.take k) : Nat) : Int) ∧ sumN (P.take k) ≤ 169 * k ∧ Below w.heap.size w wr) (fun _ i _ => P.length - (intOf i).toNat)
    case atStart => exact ⟨0, Nat.zero_le _, rfl, rfl, Nat.le_refl _, hb1⟩
    case round =>
      obtain ⟨k, hk, rfl, rfl, hsum, hb⟩ := hrel
      by_cases hlt : k < P.length
      · obtain ⟨b, o, ha, hbl, hc⟩ := HROW.out (by omega)
        rw [ha]
        have hcx := hc k hlt
        rw [← hb.cell (p := ⟨b, o + k, none⟩) hbl] at hcx
        have hn := HNM.out _ (List.getElem_mem hlt)
        have HSN : Hid (sumN (P.take (k + 1)) = sumN (P.take k) + (wireL (labelsOf (P[k]'hlt))).length) := sumN_next P k hlt
        have hws := wire_small hn
        have HWT : Hid (wireT (P[k]'hlt) = wireL (labelsOf (P[k]'hlt)) ∧ nameB (P[k]'hlt) = true) := ⟨by unfold wireT; rw [if_pos hn], hn⟩
        obtain ⟨x, hx⟩ : ∃ x, x = P[k]'hlt := ⟨_, rfl⟩
        rw [← hx] at hcx HSN hws HWT
        unfold S at hcx
        clear hc hx hn
        go_wp2_with fail
        refine (iNameBytes_any ⟨x.toArray⟩ _ (hE.below hb)).mono ?_
        rintro e w2 ⟨rfl, hb2⟩
        rw [show (⟨x.toArray⟩ : ByteArray).data.toList = x from rfl, HWT.out.1, HWT.out.2]
        obtain ⟨y, hy⟩ : ∃ y, y = wireL (labelsOf x) := ⟨_, rfl⟩
        rw [← hy] at hws HSN ⊢
        obtain ⟨q, hq⟩ : ∃ q, q = sumN (P.take k) := ⟨_, rfl⟩
        rw [← hq] at hsum HSN ⊢
        clear hy hq
        go_wp2_with fail
        go_roundw
        case rel => exact ⟨k + 1, by omega, by go_num, by rw [HSN.out]; go_num, by rw [HSN.out]; omega, hb.trans (hb2.mono hb.size)⟩
        case measure => simp [intOf]; omega
      · have HF : Hid (P.take k = P) := List.take_of_length_le (by omega)
        obtain ⟨q, hq⟩ : ∃ q, q = sumN (P.take k) := ⟨_, rfl⟩
        rw [← hq] at hsum ⊢
        have HQ : Hid (q = sumN P) := by rw [hq, HF.out]; exact rfl
        clear hq
        go_wp2_with fail
        go_ret3
        exact ⟨size_some HR.out rfl (by rw [HQ.out]), hb⟩

set_option maxRecDepth 20000 in
set_option maxHeartbeats 1000000 in
theorem sPackedSize_any (v : Value) (P : List (List UInt8)) (w : World) (hr : Row w v P) (hl : Hid (P.length + tot P ≤ 1048576)) :
    Calls Tryd.prog 24 #[v] w fun e w' => e = .returned (sizeVal P) ∧ Below w.heap.size w w' := by
  have HR0 : Hid (Row w v P) := hr
  go_enter Tryd.func24, Tryd.ntmps24
  go_wp2_with fail
  refine (sPackNames_any v P w hr hl).mono ?_
  rintro e w1 ⟨rfl, hb1⟩
  unfold putVal
  cases hR : packR P with
  | none =>
    have HR : Hid (packR P = none) := hR
    clear hR
    go_wp2_with fail
    go_ret3
    exact ⟨size_none HR.out, hb1⟩
  | some z =>
    have HR : Hid (packR P = some z) := hR
    obtain ⟨h20, hz, hnm⟩ := pack_facts hR
    have HNM : Hid (∀ s ∈ P, nameB s = true) := hnm
    obtain ⟨a, cap, rfl, hcap, hmax, HROW⟩ := row_value hr
    clear hR hnm hr
    rw [show (some z).getD [] = z from rfl, show (some z).isSome = true from rfl]
    go_wp2_with fail
    go_loopw [7, 19] (fun n i wr => ∃ k : Nat, k ≤ P.length ∧ i = .int .i64 (k : Int) ∧ n = .int .i64 ((sumN (P.take k) : Nat) : Int) ∧ sumN (P.take k) ≤ 169 * k ∧ Below w.heap.size w wr) (fun _ i _ => P.length - (intOf i).toNat)
    case atStart => exact ⟨0, Nat.zero_le _, rfl, rfl, Nat.le_refl _, hb1⟩
    case round =>
      obtain ⟨k, hk, rfl, rfl, hsum, hb⟩ := hrel
      by_cases hlt : k < P.length
      · obtain ⟨b, o, ha, hbl, hc⟩ := HROW.out (by omega)
        rw [ha]
        have hcx := hc k hlt
        rw [← hb.cell (p := ⟨b, o + k, none⟩) hbl] at hcx
        have hn := HNM.out _ (List.getElem_mem hlt)
        have HSN : Hid (sumN (P.take (k + 1)) = sumN (P.take k) + (wireL (labelsOf (P[k]'hlt))).length) := sumN_next P k hlt
        have hws := wire_small hn
        have HWT : Hid (nameB (P[k]'hlt) = true) := hn
        have hxl : (⟨(P[k]'hlt).toArray⟩ : ByteArray).size ≤ 4294967280 := by
          have h1 := tot_one (List.getElem_mem hlt)
          have h2 := hl.out
          rw [size_list]; omega
        obtain ⟨x, hx⟩ : ∃ x, x = P[k]'hlt := ⟨_, rfl⟩
        rw [← hx] at hcx HSN hws HWT hxl
        unfold S at hcx
        clear hc hx hn
        go_wp2_with fail
        refine (l2Bytes_any ⟨x.toArray⟩ _ hxl HWT).mono ?_
        rintro e w2 ⟨rfl, hb2⟩
        rw [show (⟨x.toArray⟩ : ByteArray).data.toList = x from rfl]
        obtain ⟨y, hy⟩ : ∃ y, y = wireL (labelsOf x) := ⟨_, rfl⟩
        rw [← hy] at hws HSN ⊢
        obtain ⟨q, hq⟩ : ∃ q, q = sumN (P.take k) := ⟨_, rfl⟩
        rw [← hq] at hsum HSN ⊢
        clear hy hq
        go_wp2_with fail
        go_roundw
        case rel => exact ⟨k + 1, by omega, by go_num, by rw [HSN.out]; go_num, by rw [HSN.out]; omega, hb.trans (hb2.mono hb.size)⟩
        case measure => simp [intOf]; omega
      · have HF : Hid (P.take k = P) := List.take_of_length_le (by omega)
        obtain ⟨q, hq⟩ : ∃ q, q = sumN (P.take k) := ⟨_, rfl⟩
        rw [← hq] at hsum ⊢
        have HQ : Hid (q = sumN P) := by rw [hq, HF.out]; exact rfl
        clear hq
        go_wp2_with fail
        go_ret3
        exact ⟨size_some HR.out rfl (by rw [HQ.out]), hb⟩

theorem sizeVal_shape (P : List (List UInt8)) : ∃ (a b : Int) (c : Bool), sizeVal P = .tuple #[.int .i64 a, .int .i64 b, .bool c] := by
  unfold sizeVal
  split
  · exact ⟨_, _, _, rfl⟩
  · exact ⟨_, _, _, rfl⟩
end Go.Proofs.YtdjhpoogbgknkacDoor
