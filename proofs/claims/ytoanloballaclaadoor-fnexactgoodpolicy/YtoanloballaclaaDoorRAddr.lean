import Derived.Test.YtoanloballaclaaDoorRPre
import Derived.Test.YtoanloballaclaaDoorSplP
namespace Go.Proofs.YtoanloballaclaaDoor
open Go.RowKit

theorem splitN_row (s : ByteArray) (b : UInt8) (n : Nat) (w : World) (hs : s.size ≤ 1048576) (hE : Env w) (hn : 1 ≤ n) (hn2 : n ≤ 1000) :
    Calls Tryd.prog 39 #[.string s, .string ⟨#[b]⟩, .int .i64 (n : Int)] w fun e w' => ∃ (Q : List (List UInt8)) (cap : Nat), e = .returned (.slice (some ⟨w.heap.size, 0, none⟩) Q.length cap) ∧ Q.length ≤ cap ∧ cap ≤ 1000 ∧
      Q = Lib.splitK [b] 0 (min n (s.data.toList.length + 1) - 1) s.data.toList ∧ (∀ j, (hj : j < Q.length) → w'.cell? ⟨w.heap.size, j, none⟩ = some (S Q[j])) ∧ w.heap.size < w'.heap.size ∧ Below w.heap.size w w' := by
  obtain ⟨m, hm⟩ := hE.2
  refine (Tryd.strings_SplitN s ⟨#[b]⟩ n m w (by omega) hm (by show 1 ≤ 1; omega) hn (by omega)).mono ?_
  rintro e w' ⟨rfl, rfl⟩
  have hd := Lib.splitB_data ⟨#[b]⟩ 0 (min n (s.size + 1) - 1) s
  have hsz : s.data.toList.length = s.size := by simp
  obtain ⟨B, hB⟩ : ∃ B, B = Lib.splitB ⟨#[b]⟩ 0 (min n (s.size + 1) - 1) s := ⟨_, rfl⟩
  rw [← hB] at hd ⊢
  have hlen : B.length ≤ min n (s.size + 1) := by
    have := Lib.splitB_length_le ⟨#[b]⟩ 0 (min n (s.size + 1) - 1) s
    rw [← hB] at this; omega
  refine ⟨B.map (·.data.toList), min n (s.size + 1), by rw [List.length_map], by rw [List.length_map]; exact hlen, by omega, by rw [hsz]; exact hd, ?_, by simp, (Below.refl _ _).alloc (Nat.le_refl _) _⟩
  intro j hj
  rw [List.length_map] at hj
  have hc : (w.alloc (.cells (Lib.cellsOf B (min n (s.size + 1))) 9)).cell? ⟨w.heap.size, j, none⟩ = (Lib.cellsOf B (min n (s.size + 1)))[j]? := by
    simp
  rw [hc]
  unfold Lib.cellsOf S
  rw [List.getElem?_toArray, List.getElem?_append_left (by rw [List.length_map]; exact hj), List.getElem?_map, List.getElem?_eq_getElem hj, List.getElem_map]
  rfl

theorem brow_zero (w : World) (t : TypeId) : BRow (w.alloc (.cells #[.int .u8 0, .int .u8 0, .int .u8 0, .int .u8 0] t)) w.heap.size [0, 0, 0, 0] := by
  refine ⟨by simp, fun j hj => ?_⟩
  match j, hj with
  | 0, _ => exact ⟨by simp, by simp⟩
  | 1, _ => exact ⟨by simp, by simp⟩
  | 2, _ => exact ⟨by simp, by simp⟩
  | 3, _ => exact ⟨by simp, by simp⟩
theorem cell_other {w : World} {a p : Addr} {u : Value} (h : p.block ≠ a.block) : (w.setCell a u).cell? p = w.cell? p :=
  World.cell?_of_block (w := w) (Below.heap_setCell _ _ _ _ h)
def zeros (n : Nat) : List UInt8 := List.replicate n 0
theorem set_next {a : List UInt8} {n : Nat} {c : UInt8} : (a ++ zeros (n + 1)).set a.length c = (a ++ [c]) ++ zeros n := by
  unfold zeros; rw [List.set_append_right _ _ (Nat.le_refl _), Nat.sub_self, List.replicate_succ, List.set_cons_zero, List.append_assoc]; rfl
/-- The value that data of a type becomes. -/
def addrV (y : List UInt8) : Value := .iface 73 (.agg (y.map (fun c => Value.int .u8 (c.toNat : Int))).toArray)
theorem of_none {D : Option (List UInt8)} {q : List UInt8 → Prop} (h : D = none) : ∀ y, D = some y → q y := fun y hy => by rw [h] at hy; cases hy
theorem four_of {y : List UInt8} (h : y.length = 4) : ∃ a b c d, y = [a, b, c, d] := by
  match y, h with
  | [a, b, c, d], _ => exact ⟨a, b, c, d, rfl⟩

set_option maxRecDepth 20000 in
set_option maxHeartbeats 1000000 in
theorem parseAddress_any (s : ByteArray) (w : World) (hs : s.size ≤ 1048576) (hE : EnvR w) :
    Calls Tryd.prog 32 #[.string s] w fun e w' => ∃ v, e = .returned (.tuple #[v, .bool (dataA s.data.toList).isSome]) ∧ (∀ y, dataA s.data.toList = some y → v = addrV y) ∧ Below w.heap.size w w' := by
  obtain ⟨W0, hW0⟩ : ∃ W0, W0 = w.alloc (.cells #[.int .u8 0, .int .u8 0, .int .u8 0, .int .u8 0] 73) := ⟨_, rfl⟩
  have hbr0 : BRow W0 w.heap.size [0, 0, 0, 0] := by rw [hW0]; exact brow_zero _ _
  have hb0 : Below w.heap.size w W0 := by rw [hW0]; exact (Below.refl _ _).alloc (Nat.le_refl _) _
  have HLEN : Hid (s.data.toList.length = s.size) := (by simp : s.data.toList.length = s.size)
  have hgz : w.heap.size < W0.heap.size := hbr0.1
  have HSPL : Hid (∀ Q, Q = Lib.splitK [46] 0 (min 5 (s.data.toList.length + 1) - 1) s.data.toList → (Q.length = 4 ↔ (cut 46 s.data.toList).length = 4) ∧ ((cut 46 s.data.toList).length = 4 → Q = cut 46 s.data.toList)) := fun Q hQ => by rw [hQ]; exact split4 rfl
  have HDA : Hid (dataA s.data.toList = if (cut 46 s.data.toList).all (fun x => numIn x 255) = true ∧ (cut 46 s.data.toList).length = 4 then some (accA (cut 46 s.data.toList)) else none) := rfl
  have HPC : Hid (∀ p ∈ cut 46 s.data.toList, p.length ≤ 1048576) := fun p hp => by have := cut_piece_le 46 _ p hp; rw [HLEN.out] at this; omega
  have HSN : Hid (Calls Tryd.prog 39 #[.string s, .string ⟨#[46]⟩, .int .i64 5] W0 fun e w' => ∃ (Q : List (List UInt8)) (cap : Nat), e = .returned (.slice (some ⟨W0.heap.size, 0, none⟩) Q.length cap) ∧ Q.length ≤ cap ∧ cap ≤ 1000 ∧
      Q = Lib.splitK [46] 0 (min 5 (s.data.toList.length + 1) - 1) s.data.toList ∧ (∀ j, (hj : j < Q.length) → w'.cell? ⟨W0.heap.size, j, none⟩ = some (S Q[j])) ∧ W0.heap.size < w'.heap.size ∧ Below W0.heap.size W0 w') := splitN_row s 46 5 W0 hs (hE.1.below hb0) (by omega) (by omega)
  have HW0 : Hid (w.alloc (.cells #[.int .u8 0, .int .u8 0, .int .u8 0, .int .u8 0] 73) = W0) := hW0.symm
  clear hW0
  go_enter Tryd.func32, Tryd.ntmps32
  go_wp2_with fail
  rw [HW0.out]
  refine HSN.out.mono ?_
  rintro e w1 ⟨Q, cap, rfl, hcap, hcap2, hQ, hcell, hg1, hb1⟩
  have hsp := HSPL.out Q hQ
  clear hQ
  by_cases h4 : (cut 46 s.data.toList).length = 4
  · obtain rfl : Q = cut 46 s.data.toList := hsp.2 h4
    obtain ⟨P, hP⟩ : ∃ P, P = cut 46 s.data.toList := ⟨_, rfl⟩
    rw [← hP] at HDA HPC h4 hcap hcell ⊢
    have hcell0 : Hid (∀ j, (hj : j < P.length) → w1.cell? ⟨W0.heap.size, j, none⟩ = some (S P[j])) := hcell
    have hbr1 : Hid (BRow w1 w.heap.size (accA (P.take 0) ++ zeros 4)) := hbr0.kept hb1
    have hbw1 : Below w.heap.size w w1 := hb0.trans (hb1.mono hb0.size)
    have HP4 : Hid (P.length = 4) := h4
    have hp4a : P.length ≤ 4 := by omega
    have hp4b : 4 ≤ P.length := by omega
    obtain ⟨g1, hg1e⟩ : ∃ g1, g1 = W0.heap.size := ⟨_, rfl⟩
    rw [← hg1e] at hcell0 hgz hg1 ⊢
    clear hsp hP hcell hbr0 hb0 hb1 h4 HSN HSPL HW0 hg1e
    have e4 : ((P.length : Int) != 4) = false := by rw [HP4.out]; rfl
    go_wp2_with fail
    go_loopw [17] (fun i wr => ∃ k : Nat, k ≤ 4 ∧ i = .int .i64 (k : Int) ∧ Hid ((P.take k).all (fun x => numIn x 255) = true) ∧ Hid (BRow wr w.heap.size (accA (P.take k) ++ zeros (4 - k))) ∧ Hid (∀ j, (hj : j < P.length) → wr.cell? ⟨g1, j, none⟩ = some (S P[j])) ∧ g1 < wr.heap.size ∧ Below w.heap.size w wr) (fun i _ => 4 - (intOf i).toNat)
    case atStart => exact ⟨0, by omega, rfl, rfl, hbr1, hcell0, hg1, hbw1⟩
    case round =>
      obtain ⟨k, hk, rfl, HA, HBR, HC, hg, hb⟩ := hrel
      clear hbr1 hcell0 hg1 hbw1
      by_cases hlt : k < P.length
      · have hcx := HC.out k hlt
        have hxl : (⟨(P[k]'hlt).toArray⟩ : ByteArray).size ≤ 4294967280 := by rw [size_list]; have := HPC.out _ (List.getElem_mem hlt); omega
        have HNO : Hid (numIn (P[k]'hlt) 255 = false → dataA s.data.toList = none) := fun h => by rw [HDA.out]; exact if_neg (fun hc => by rw [num_not hlt h] at hc; cases hc.1)
        have HYES : Hid (numIn (P[k]'hlt) 255 = true → (P.take (k + 1)).all (fun x => numIn x 255) = true) := fun h => num_step HA.out hlt h
        have HACC : Hid (accA (P.take (k + 1)) = accA (P.take k) ++ [UInt8.ofNat (intV (P[k]'hlt)).toNat]) := accA_step P k hlt
        obtain ⟨x, hx⟩ : ∃ x, x = P[k]'hlt := ⟨_, rfl⟩
        rw [← hx] at hcx hxl HNO HYES HACC
        unfold S at hcx
        clear hx
        have hal : (accA (P.take k)).length = k := by unfold accA; rw [List.length_map, List.length_take]; omega
        obtain ⟨z, hz⟩ : ∃ z, z = accA (P.take k) := ⟨_, rfl⟩
        rw [← hz] at hal HACC HBR
        clear hz
        have HAL : Hid (z.length = k) := hal
        have hltz : k < (z ++ zeros (4 - k)).length := by unfold zeros; rw [List.length_append, List.length_replicate]; omega
        have HRD := readNumber_any ⟨x.toArray⟩ 255 wr hxl (by omega) (by omega) (hE.below hb)
        have hRDH : Hid (Calls Tryd.prog 34 #[.string ⟨x.toArray⟩, .int .i64 255] wr fun e w' => e = .returned (.tuple #[.int .i64 (rdNum x 255), .bool (numIn x 255)]) ∧ Below wr.heap.size wr w') := HRD
        clear HRD hal
        cases hd : numIn x 255 with
        | false =>
          have HR : Hid (dataA s.data.toList = none) := HNO.out hd
          rw [hd] at hRDH
          clear hd
          go_wp2_with fail
          refine hRDH.out.mono ?_
          rintro e w2 ⟨rfl, hb2⟩
          go_wp2_with fail
          go_ret2
          exact ⟨_, ret_two rfl (val_bool (by rw [HR.out]; rfl)), of_none HR.out, hb.trans (hb2.mono hb.size)⟩
        | true =>
          have HAN : Hid ((P.take (k + 1)).all (fun x => numIn x 255) = true) := HYES.out hd
          have hn : rdNum x 255 = intV x := if_pos hd
          have hr : 0 ≤ intV x ∧ intV x ≤ 255 := ⟨(num_atoi hd).2.1, (num_atoi hd).2.2.1⟩
          rw [hd, hn] at hRDH
          obtain ⟨n, hnn⟩ : ∃ n, n = intV x := ⟨_, rfl⟩
          rw [← hnn] at hRDH HACC hr
          have hr1 := hr.1
          have hr2 := hr.2
          obtain ⟨c, hc⟩ : ∃ c : UInt8, c = UInt8.ofNat n.toNat := ⟨_, rfl⟩
          have hcn : (c.toNat : Int) = n := by rw [hc, UInt8.toNat_ofNat']; omega
          rw [← hc] at HACC
          clear hd hn hr hnn hc
          have HST : Hid (∀ W, Below wr.heap.size wr W → BRow W w.heap.size (z ++ zeros (4 - k)) ∧ BRow (W.setCell ⟨w.heap.size, k, none⟩ (.int .u8 n)) w.heap.size (accA (P.take (k + 1)) ++ zeros (4 - (k + 1))) ∧ (∀ j, (hj : j < P.length) → (W.setCell ⟨w.heap.size, k, none⟩ (.int .u8 n)).cell? ⟨g1, j, none⟩ = some (S P[j]))) := fun W hW => by
            have h1 := HBR.out.kept hW
            refine ⟨h1, ?_, fun j hj => ?_⟩
            · have h2 := h1.set k hltz c
              rw [hcn, show 4 - k = (4 - (k + 1)) + 1 by omega] at h2
              have h3 := set_next (a := z) (n := 4 - (k + 1)) (c := c)
              rw [HAL.out] at h3
              rw [h3] at h2
              rw [HACC.out]; exact h2
            · rw [cell_other (show g1 ≠ w.heap.size by omega), hW.cell (p := ⟨g1, j, none⟩) hg]; exact HC.out j hj
          have HLT : Hid (k < (z ++ zeros (4 - k)).length) := hltz
          clear hcn hltz
          go_wp2_with fail
          refine hRDH.out.mono ?_
          rintro e w2 ⟨rfl, hb2⟩
          have hst := HST.out w2 hb2
          have hcz := (hst.1.2 k HLT.out).1
          have hfz := (hst.1.2 k HLT.out).2
          obtain ⟨u, hu⟩ : ∃ u, u = (z ++ zeros (4 - k))[k]'HLT.out := ⟨_, rfl⟩
          rw [← hu] at hcz
          have HST2 : Hid (BRow (w2.setCell ⟨w.heap.size, k, none⟩ (.int .u8 n)) w.heap.size (accA (P.take (k + 1)) ++ zeros (4 - (k + 1)))) := hst.2.1
          have HST3 : Hid (∀ j, (hj : j < P.length) → (w2.setCell ⟨w.heap.size, k, none⟩ (.int .u8 n)).cell? ⟨g1, j, none⟩ = some (S P[j])) := hst.2.2
          have hg2 : g1 < (w2.setCell ⟨w.heap.size, k, none⟩ (.int .u8 n)).heap.size := by simp [World.setCell]; exact Nat.lt_of_lt_of_le hg hb2.size
          have hb3 : Below w.heap.size w (w2.setCell ⟨w.heap.size, k, none⟩ (.int .u8 n)) := (hb.trans (hb2.mono hb.size)).setCell (p := ⟨w.heap.size, k, none⟩) (Nat.le_refl _) _
          clear hst hu hb2 hcx
          go_wp2_with fail
          go_roundw
          case rel => exact ⟨k + 1, by omega, by go_num, HAN, HST2, HST3, hg2, hb3⟩
          case measure => simp [intOf]; omega
      · have hk4 : k = 4 := by omega
        subst hk4
        have hfull : P.take 4 = P := List.take_of_length_le (by omega)
        have hall := HA.out
        rw [hfull] at hall HBR
        have HR : Hid (dataA s.data.toList = some (accA P)) := by rw [HDA.out]; exact if_pos ⟨hall, HP4.out⟩
        obtain ⟨a, b, c, d, hy⟩ := four_of (y := accA P) (by unfold accA; rw [List.length_map]; exact HP4.out)
        rw [hy] at HR HBR
        have hrow : BRow wr w.heap.size [a, b, c, d] := HBR.out
        have q0 : wr.cell? ⟨w.heap.size, 0, none⟩ = some (.int .u8 (a.toNat : Int)) := (hrow.2 0 (by simp)).1
        have q1 : wr.cell? ⟨w.heap.size, 1, none⟩ = some (.int .u8 (b.toNat : Int)) := (hrow.2 1 (by simp)).1
        have q2 : wr.cell? ⟨w.heap.size, 2, none⟩ = some (.int .u8 (c.toNat : Int)) := (hrow.2 2 (by simp)).1
        have q3 : wr.cell? ⟨w.heap.size, 3, none⟩ = some (.int .u8 (d.toNat : Int)) := (hrow.2 3 (by simp)).1
        clear hall hy hrow hfull
        go_wp2_with fail
        go_ret2
        exact ⟨_, ret_two rfl (val_bool (by rw [HR.out]; rfl)), (fun y hy => by rw [HR.out] at hy; cases hy; rfl), hb⟩
  · have hQ4 : ¬ Q.length = 4 := fun h => h4 (hsp.1.1 h)
    have HR : Hid (dataA s.data.toList = none) := by rw [HDA.out]; exact if_neg (fun h => h4 h.2)
    have e4 : ((Q.length : Int) != 4) = true := by simp; omega
    have hbw1 : Below w.heap.size w w1 := hb0.trans (hb1.mono hb0.size)
    clear h4 hQ4 hsp hcell
    go_wp2_with fail
    go_ret2
    exact ⟨_, ret_two rfl (val_bool (by rw [HR.out]; rfl)), of_none HR.out, hbw1⟩
end Go.Proofs.YtoanloballaclaaDoor
