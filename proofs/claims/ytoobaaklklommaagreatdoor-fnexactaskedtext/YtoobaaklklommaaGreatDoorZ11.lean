import Derived.Test.YtoobaaklklommaaGreatDoorZ10
import Derived.Test.YtoobaaklklommaaGreatDoorZ07
namespace Go.Proofs.YtoobaaklklommaaGreatDoor
open Go.RowKit

theorem splitN_row (s : ByteArray) (b : UInt8) (n : Nat) (w : World) (hs : s.size ≤ 1048576) (hE : Env w) (hn : 1 ≤ n) (hn2 : n ≤ 1000) :
    Calls Tryz.prog 112 #[.string s, .string ⟨#[b]⟩, .int .i64 (n : Int)] w fun e w' => ∃ (Q : List (List UInt8)) (cap : Nat), e = .returned (.slice (some ⟨w.heap.size, 0, none⟩) Q.length cap) ∧ Q.length ≤ cap ∧ cap ≤ 1000 ∧
      Q = Lib.splitK [b] 0 (min n (s.data.toList.length + 1) - 1) s.data.toList ∧ (∀ j, (hj : j < Q.length) → w'.cell? ⟨w.heap.size, j, none⟩ = some (S Q[j])) ∧ w.heap.size < w'.heap.size ∧ Below w.heap.size w w' := by
  obtain ⟨m, hm⟩ := hE.2
  refine (Tryz.strings_SplitN s ⟨#[b]⟩ n m w (by omega) hm (by show 1 ≤ 1; omega) hn (by omega)).mono ?_
  rintro e w' ⟨rfl, rfl⟩
  have hd := Lib.splitB_data ⟨#[b]⟩ 0 (min n (s.size + 1) - 1) s
  have hsz : s.data.toList.length = s.size := by simp
  obtain ⟨B, hB⟩ : ∃ B, B = Lib.splitB ⟨#[b]⟩ 0 (min n (s.size + 1) - 1) s := ⟨_, rfl⟩
  rw [← hB] at hd ⊢
  have hlen : B.length ≤ min n (s.size + 1) := by
    have := Lib.splitB_length_le ⟨#[b]⟩ 0 (min n (s.size + 1) - 1) s
    rw [← hB] at this; omega
  refine ⟨B.map (·.data.toList), min n (s.size + 1), by rw [List.length_map], by rw [List.length_map]; exact hlen, by omega, by rw [hsz]; exact hd, ?_, by simp, (Below.refl _ _).alloc (Nat.le_refl _) _⟩
  intro j hj
  rw [List.length_map] at hj
  have hc : (w.alloc (.cells (Lib.cellsOf B (min n (s.size + 1))) 9)).cell? ⟨w.heap.size, j, none⟩ = (Lib.cellsOf B (min n (s.size + 1)))[j]? := by
    simp
  rw [hc]
  unfold Lib.cellsOf S
  rw [List.getElem?_toArray, List.getElem?_append_left (by rw [List.length_map]; exact hj), List.getElem?_map, List.getElem?_eq_getElem hj, List.getElem_map]
  rfl

theorem brow_zero (w : World) (t : TypeId) : BRow (w.alloc (.cells #[.int .u8 0, .int .u8 0, .int .u8 0, .int .u8 0] t)) w.heap.size [0, 0, 0, 0] := by
  refine ⟨by simp, fun j hj => ?_⟩
  match j, hj with
  | 0, _ => exact ⟨by simp, by simp⟩
  | 1, _ => exact ⟨by simp, by simp⟩
  | 2, _ => exact ⟨by simp, by simp⟩
  | 3, _ => exact ⟨by simp, by simp⟩
theorem cell_other {w : World} {a p : Addr} {u : Value} (h : p.block ≠ a.block) : (w.setCell a u).cell? p = w.cell? p :=
  World.cell?_of_block (w := w) (Below.heap_setCell _ _ _ _ h)
def zeros (n : Nat) : List UInt8 := List.replicate n 0
theorem set_next {a : List UInt8} {n : Nat} {c : UInt8} : (a ++ zeros (n + 1)).set a.length c = (a ++ [c]) ++ zeros n := by
  unfold zeros; rw [List.set_append_right _ _ (Nat.le_refl _), Nat.sub_self, List.replicate_succ, List.set_cons_zero, List.append_assoc]; rfl
/-- The value that data of a type becomes. -/
def addrV (y : List UInt8) : Value := .iface 271 (.agg (y.map (fun c => Value.int .u8 (c.toNat : Int))).toArray)
theorem of_none {D : Option (List UInt8)} {q : List UInt8 → Prop} (h : D = none) : ∀ y, D = some y → q y := fun y hy => by rw [h] at hy; cases hy
theorem four_of {y : List UInt8} (h : y.length = 4) : ∃ a b c d, y = [a, b, c, d] := by
  match y, h with
  | [a, b, c, d], _ => exact ⟨a, b, c, d, rfl⟩

set_option maxRecDepth 20000 in
set_option maxHeartbeats 1000000 in
theorem parseAddress_any (s : ByteArray) (w : World) (hs : s.size ≤ 1048576) (hE : EnvR w) :
    Calls Tryz.prog 232 #[.string s] w fun e w' => ∃ v, e = .returned (.tuple #[v, .bool (dataA s.data.toList).isSome]) ∧ (∀ y, dataA s.data.toList = some y → v = addrV y) ∧ Below w.heap.size w w' := by
  obtain ⟨W0, hW0⟩ : ∃ W0, W0 = w.alloc (.cells #[.int .u8 0, .int .u8 0, .int .u8 0, .int .u8 0] 271) := ⟨_, rfl⟩
  have hbr0 : BRow W0 w.heap.size [0, 0, 0, 0] := by rw [hW0]; exact brow_zero _ _
  have hb0 : Below w.heap.size w W0 := by rw [hW0]; exact (Below.refl _ _).alloc (Nat.le_refl _) _
  have HLEN : Hid (s.data.toList.length = s.size) := (by simp : s.data.toList.length = s.size)
  have hgz : w.heap.size < W0.heap.size := hbr0.1
  have HSPL : Hid (∀ Q, Q = Lib.splitK [46] 0 (min 5 (s.data.toList.length + 1) - 1) s.data.toList → (Q.length = 4 ↔ (cut 46 s.data.toList).length = 4) ∧ ((cut 46 s.data.toList).length = 4 → Q = cut 46 s.data.toList)) := fun Q hQ => by rw [hQ]; exact split4 rfl
  have HDA : Hid (dataA s.data.toList = if (cut 46 s.data.toList).all (fun x => numIn x 255) = true ∧ (cut 46 s.data.toList).length = 4 then some (accA (cut 46 s.data.toList)) else none) := rfl
  have HPC : Hid (∀ p ∈ cut 46 s.data.toList, p.length ≤ 1048576) := fun p hp => by have := cut_piece_le 46 _ p hp; rw [HLEN.out] at this; omega
  have HSN : Hid (Calls Tryz.prog 112 #[.string s, .string ⟨#[46]⟩, .int .i64 5] W0 fun e w' => ∃ (Q : List (List UInt8)) (cap : Nat), e = .returned (.slice (some ⟨W0.heap.size, 0, none⟩) Q.length cap) ∧ Q.length ≤ cap ∧ cap ≤ 1000 ∧
      Q = Lib.splitK [46] 0 (min 5 (s.data.toList.length + 1) - 1) s.data.toList ∧ (∀ j, (hj : j < Q.length) → w'.cell? ⟨W0.heap.size, j, none⟩ = some (S Q[j])) ∧ W0.heap.size < w'.heap.size ∧ Below W0.heap.size W0 w') := splitN_row s 46 5 W0 hs (hE.1.below hb0) (by omega) (by omega)
  have HW0 : Hid (w.alloc (.cells #[.int .u8 0, .int .u8 0, .int .u8 0, .int .u8 0] 271) = W0) := hW0.symm
  clear hW0
  go_enter Tryz.func232, Tryz.ntmps232
  go_wp2_with fail
  rw [HW0.out]
  refine HSN.out.mono ?_
  rintro e w1 ⟨Q, cap, rfl, hcap, hcap2, hQ, hcell, hg1, hb1⟩
  have hsp := HSPL.out Q hQ
  clear hQ
  by_cases h4 : (cut 46 s.data.toList).length = 4
  · obtain rfl : Q = cut 46 s.data.toList := hsp.2 h4
    obtain ⟨P, hP⟩ : ∃ P, P = cut 46 s.data.toList := ⟨_, rfl⟩
    rw [← hP] at HDA HPC h4 hcap hcell ⊢
    have hcell0 : Hid (∀ j, (hj : j < P.length) → w1.cell? ⟨W0.heap.size, j, none⟩ = some (S P[j])) := hcell
    have hbr1 : Hid (BRow w1 w.heap.size (accA (P.take 0) ++ zeros 4)) := hbr0.kept hb1
    have hbw1 : Below w.heap.size w w1 := hb0.trans (hb1.mono hb0.size)
    have HP4 : Hid (P.length = 4) := h4
    have hp4a : P.length ≤ 4 := by omega
    have hp4b : 4 ≤ P.length := by omega
    obtain ⟨g1, hg1e⟩ : ∃ g1, g1 = W0.heap.size := ⟨_, rfl⟩
    rw [← hg1e] at hcell0 hgz hg1 ⊢
    clear hsp hP hcell hbr0 hb0 hb1 h4 HSN HSPL HW0 hg1e
    have e4 : ((P.length : Int) != 4) = false := by rw [HP4.out]; rfl
    go_wp2_with fail
    go_loopw [17] (fun i wr => ∃ k : Nat, k ≤ 4 ∧ i = .int .i64 (k : Int) ∧ Hid ((P.take k).all (fun x => numIn x 255) = true) ∧ Hid (BRow wr w.heap.size (accA (P.take k) ++ zeros (4 - k))) ∧ Hid (∀ j, (hj : j < P.length) → wr.cell? ⟨g1, j, none⟩ = some (S P[j])) ∧ g1 < wr.heap.size ∧ Below w.heap.size w wr) (fun i _ => 4 - (intOf i).toNat)
    case atStart => exact ⟨0, by omega, rfl, rfl, hbr1, hcell0, hg1, hbw1⟩
    case round =>
      obtain ⟨k, hk, rfl, HA, HBR, HC, hg, hb⟩ := hrel
      clear hbr1 hcell0 hg1 hbw1
      by_cases hlt : k < P.length
      · have hcx := HC.out k hlt
        have hxl : (⟨(P[k]'hlt).toArray⟩ : ByteArray).size ≤ 4294967280 := by rw [size_list]; have := HPC.out _ (List.getElem_mem hlt); omega
        have HNO : Hid (numIn (P[k]'hlt) 255 = false → dataA s.data.toList = none) := fun h => by rw [HDA.out]; exact if_neg (fun hc => by rw [num_not hlt h] at hc; cases hc.1)
        have HYES : Hid (numIn (P[k]'hlt) 255 = true → (P.take (k + 1)).all (fun x => numIn x 255) = true) := fun h => num_step HA.out hlt h
        have HACC : Hid (accA (P.take (k + 1)) = accA (P.take k) ++ [UInt8.ofNat (intV (P[k]'hlt)).toNat]) := accA_step P k hlt
        obtain ⟨x, hx⟩ : ∃ x, x = P[k]'hlt := ⟨_, rfl⟩
        rw [← hx] at hcx hxl HNO HYES HACC
        unfold S at hcx
        clear hx
        have hal : (accA (P.take k)).length = k := by unfold accA; rw [List.length_map, List.length_take]; omega
        obtain ⟨z, hz⟩ : ∃ z, z = accA (P.take k) := ⟨_, rfl⟩
        rw [← hz] at hal HACC HBR
        clear hz
        have HAL : Hid (z.length = k) := hal
        have hltz : k < (z ++ zeros (4 - k)).length := by unfold zeros; rw [List.length_append, List.length_replicate]; omega
        have HRD := readNumber_any ⟨x.toArray⟩ 255 wr hxl (by omega) (by omega) (hE.below hb)
        have hRDH : Hid (Calls Tryz.prog 149 #[.string ⟨x.toArray⟩, .int .i64 255] wr fun e w' => e = .returned (.tuple #[.int .i64 (rdNum x 255), .bool (numIn x 255)]) ∧ Below wr.heap.size wr w') := HRD
        clear HRD hal
        cases hd : numIn x 255 with
        | false =>
          have HR : Hid (dataA s.data.toList = none) := HNO.out hd
          rw [hd] at hRDH
          clear hd
          go_wp2_with fail
          refine hRDH.out.mono ?_
          rintro e w2 ⟨rfl, hb2⟩
          go_wp2_with fail
          go_ret2
          exact ⟨_, ret_two rfl (val_bool (by rw [HR.out]; rfl)), of_none HR.out, hb.trans (hb2.mono hb.size)⟩
        | true =>
          have HAN : Hid ((P.take (k + 1)).all (fun x => numIn x 255) = true) := HYES.out hd
          have hn : rdNum x 255 = intV x := if_pos hd
          have hr : 0 ≤ intV x ∧ intV x ≤ 255 := ⟨(num_atoi hd).2.1, (num_atoi hd).2.2.1⟩
          rw [hd, hn] at hRDH
          obtain ⟨n, hnn⟩ : ∃ n, n = intV x := ⟨_, rfl⟩
          rw [← hnn] at hRDH HACC hr
          have hr1 := hr.1
          have hr2 := hr.2
          obtain ⟨c, hc⟩ : ∃ c : UInt8, c = UInt8.ofNat n.toNat := ⟨_, rfl⟩
          have hcn : (c.toNat : Int) = n := by rw [hc, UInt8.toNat_ofNat']; omega
          rw [← hc] at HACC
          clear hd hn hr hnn hc
          have HST : Hid (∀ W, Below wr.heap.size wr W → BRow W w.heap.size (z ++ zeros (4 - k)) ∧ BRow (W.setCell ⟨w.heap.size, k, none⟩ (.int .u8 n)) w.heap.size (accA (P.take (k + 1)) ++ zeros (4 - (k + 1))) ∧ (∀ j, (hj : j < P.length) → (W.setCell ⟨w.heap.size, k, none⟩ (.int .u8 n)).cell? ⟨g1, j, none⟩ = some (S P[j]))) := fun W hW => by
            have h1 := HBR.out.kept hW
            refine ⟨h1, ?_, fun j hj => ?_⟩
            · have h2 := h1.set k hltz c
              rw [hcn, show 4 - k = (4 - (k + 1)) + 1 by omega] at h2
              have h3 := set_next (a := z) (n := 4 - (k + 1)) (c := c)
              rw [HAL.out] at h3
              rw [h3] at h2
              rw [HACC.out]; exact h2
            · rw [cell_other (show g1 ≠ w.heap.size by omega), hW.cell (p := ⟨g1, j, none⟩) hg]; exact HC.out j hj
          have HLT : Hid (k < (z ++ zeros (4 - k)).length) := hltz
          clear hcn hltz
          go_wp2_with fail
          refine hRDH.out.mono ?_
          rintro e w2 ⟨rfl, hb2⟩
          have hst := HST.out w2 hb2
          have hcz := (hst.1.2 k HLT.out).1
          have hfz := (hst.1.2 k HLT.out).2
          obtain ⟨u, hu⟩ : ∃ u, u = (z ++ zeros (4 - k))[k]'HLT.out := ⟨_, rfl⟩
          rw [← hu] at hcz
          have HST2 : Hid (BRow (w2.setCell ⟨w.heap.size, k, none⟩ (.int .u8 n)) w.heap.size (accA (P.take (k + 1)) ++ zeros (4 - (k + 1)))) := hst.2.1
          have HST3 : Hid (∀ j, (hj : j < P.length) → (w2.setCell ⟨w.heap.size, k, none⟩ (.int .u8 n)).cell? ⟨g1, j, none⟩ = some (S P[j])) := hst.2.2
          have hg2 : g1 < (w2.setCell ⟨w.heap.size, k, none⟩ (.int .u8 n)).heap.size := by simp [World.setCell]; exact Nat.lt_of_lt_of_le hg hb2.size
          have hb3 : Below w.heap.size w (w2.setCell ⟨w.heap.size, k, none⟩ (.int .u8 n)) := (hb.trans (hb2.mono hb.size)).setCell (p := ⟨w.heap.size, k, none⟩) (Nat.le_refl _) _
          clear hst hu hb2 hcx
          go_wp2_with fail
          go_roundw
          case rel => exact ⟨k + 1, by omega, by go_num, HAN, HST2, HST3, hg2, hb3⟩
          case measure => simp [intOf]; omega
      · have hk4 : k = 4 := by omega
        subst hk4
        have hfull : P.take 4 = P := List.take_of_length_le (by omega)
        have hall := HA.out
        rw [hfull] at hall HBR
        have HR : Hid (dataA s.data.toList = some (accA P)) := by rw [HDA.out]; exact if_pos ⟨hall, HP4.out⟩
        obtain ⟨a, b, c, d, hy⟩ := four_of (y := accA P) (by unfold accA; rw [List.length_map]; exact HP4.out)
        rw [hy] at HR HBR
        have hrow : BRow wr w.heap.size [a, b, c, d] := HBR.out
        have q0 : wr.cell? ⟨w.heap.size, 0, none⟩ = some (.int .u8 (a.toNat : Int)) := (hrow.2 0 (by simp)).1
        have q1 : wr.cell? ⟨w.heap.size, 1, none⟩ = some (.int .u8 (b.toNat : Int)) := (hrow.2 1 (by simp)).1
        have q2 : wr.cell? ⟨w.heap.size, 2, none⟩ = some (.int .u8 (c.toNat : Int)) := (hrow.2 2 (by simp)).1
        have q3 : wr.cell? ⟨w.heap.size, 3, none⟩ = some (.int .u8 (d.toNat : Int)) := (hrow.2 3 (by simp)).1
        clear hall hy hrow hfull
        go_wp2_with fail
        go_ret2
        exact ⟨_, ret_two rfl (val_bool (by rw [HR.out]; rfl)), (fun y hy => by rw [HR.out] at hy; cases hy; rfl), hb⟩
  · have hQ4 : ¬ Q.length = 4 := fun h => h4 (hsp.1.1 h)
    have HR : Hid (dataA s.data.toList = none) := by rw [HDA.out]; exact if_neg (fun h => h4 h.2)
    have e4 : ((Q.length : Int) != 4) = true := by simp; omega
    have hbw1 : Below w.heap.size w w1 := hb0.trans (hb1.mono hb0.size)
    clear h4 hQ4 hsp hcell
    go_wp2_with fail
    go_ret2
    exact ⟨_, ret_two rfl (val_bool (by rw [HR.out]; rfl)), of_none HR.out, hbw1⟩
end Go.Proofs.YtoobaaklklommaaGreatDoor

namespace Go.Proofs.YtoobaaklklommaaGreatDoor
open Go.RowKit

theorem name_noblank {l : List UInt8} (h : nameB l = true) : (32 : UInt8) ∉ l := by
  intro hm
  have h0 : l ≠ [] := fun e => by rw [e] at hm; cases hm
  have hl : labelsOf l = cut 46 l := by unfold labelsOf; rw [if_neg h0]
  unfold nameB at h
  simp only [Bool.and_eq_true, List.all_eq_true] at h
  rw [hl] at h
  obtain ⟨p, hp, hb⟩ := (mem_cut (b := 46) (c := 32) (by decide) l).1 hm
  have h2 := h.1 p hp
  unfold labelB at h2
  rw [Bool.or_eq_true] at h2
  rcases h2 with h2 | h2
  · have : p = [42] := by simpa using h2
    rw [this] at hb; revert hb; decide
  · simp only [Bool.and_eq_true, List.all_eq_true] at h2
    have := h2.2.2 32 hb
    revert this; decide
theorem targ_noblank {l : List UInt8} (h : targB l = true) : (32 : UInt8) ∉ l := by
  unfold targB at h; simp only [Bool.and_eq_true] at h; exact name_noblank h.1
theorem targ_nil : targB [] = false := by decide
theorem exch_no {l : List UInt8} (h : (32 : UInt8) ∉ l) : dataM l = none := dataM_not (by rw [cut_plain 32 l h]; simp)
theorem exch_at {a r : List UInt8} (h : (32 : UInt8) ∉ a) : dataM (a ++ 32 :: r) = if numIn a 65535 = true ∧ targB r = true then some (beB (intV a) 2 ++ wireL (labelsOf r)) else none := by
  by_cases hr : (32 : UInt8) ∈ r
  · have ht : ¬ targB r = true := fun ht => targ_noblank ht hr
    rw [if_neg (fun hc => ht hc.2)]
    obtain ⟨p, q, rfl, hp⟩ := List.eq_append_cons_of_mem hr
    refine dataM_not ?_
    rw [cut_at h, cut_at hp]
    have := List.length_pos_iff.2 (cut_ne 32 q)
    simp only [List.length_cons]; omega
  · exact dataM_two (by rw [cut_at h, cut_plain 32 r hr])

def hostV (s : ByteArray) : Value := .iface 239 (.agg #[.string s])
def serV (n : Int) : Value := .iface 241 (.agg #[.int .i64 n])
def exV (n : Int) (s : ByteArray) : Value := .iface 273 (.agg #[.int .i64 n, .string s])
def noteV (s : ByteArray) : Value := .iface 243 (.agg #[.string s])
/-- What data that is as its type asks becomes. -/
def IsV (k : Int) (l : List UInt8) (v : Value) : Prop :=
  (k = 1 ∧ ∃ y, dataA l = some y ∧ v = addrV y) ∨ ((k = 2 ∨ k = 5) ∧ targB l = true ∧ v = hostV ⟨l.toArray⟩) ∨ (k = 6 ∧ numIn l 4294967295 = true ∧ v = serV (intV l)) ∨
  (k = 15 ∧ ∃ a r, l = a ++ 32 :: r ∧ (32 : UInt8) ∉ a ∧ numIn a 65535 = true ∧ targB r = true ∧ v = exV (intV a) ⟨r.toArray⟩) ∨ (k = 16 ∧ noteB l = true ∧ v = noteV ⟨l.toArray⟩)
def ParseRes (w : World) (k : Int) (l : List UInt8) (e : Ending) (w' : World) : Prop :=
  ∃ v, e = .returned (.tuple #[v, .bool (dataP k l).isSome]) ∧ ((dataP k l).isSome = true → IsV k l v) ∧ Below w.heap.size w w'
theorem parse_no {w w' : World} {k : Int} {l : List UInt8} {v : Value} (h : dataP k l = none) (hb : Below w.heap.size w w') : ParseRes w k l (.returned (.tuple #[v, .bool false])) w' :=
  ⟨v, by rw [h]; rfl, fun hh => (by rw [h] at hh; cases hh), hb⟩
theorem parse_yes {w w' : World} {k : Int} {l : List UInt8} {v : Value} (h : (dataP k l).isSome = true) (hv : IsV k l v) (hb : Below w.heap.size w w') : ParseRes w k l (.returned (.tuple #[v, .bool true])) w' :=
  ⟨v, by rw [h], fun _ => hv, hb⟩
theorem dataP_M (l : List UInt8) : dataP 15 l = dataM l := by unfold dataP; rw [if_neg (by omega), if_neg (by omega), if_neg (by omega), if_pos rfl]
theorem dataP_S (l : List UInt8) : dataP 6 l = dataS l := by unfold dataP; rw [if_neg (by omega), if_neg (by omega), if_pos rfl]
theorem dataP_T (l : List UInt8) : dataP 16 l = dataT l := by unfold dataP; rw [if_neg (by omega), if_neg (by omega), if_neg (by omega), if_neg (by omega), if_pos rfl]
theorem dataP_N {k : Int} (h : k = 2 ∨ k = 5) (l : List UInt8) : dataP k l = dataN l := by unfold dataP; rw [if_neg (by omega), if_pos h]
theorem dataP_O {k : Int} (h1 : (k == 1) = false) (h2 : (k == 2) = false) (h5 : (k == 5) = false) (h6 : (k == 6) = false) (h15 : (k == 15) = false) (h16 : (k == 16) = false) (l : List UInt8) : dataP k l = none := by
  simp only [beq_eq_false_iff_ne] at h1 h2 h5 h6 h15 h16
  unfold dataP; rw [if_neg h1, if_neg (by omega), if_neg h6, if_neg h15, if_neg h16]

theorem strCut_any (s : ByteArray) (w : World) (hs : s.size ≤ 1048576) (hE : Env w) :
    Calls Tryz.prog 113 #[.string s, .string ⟨#[32]⟩] w fun e w' => e = .returned (.tuple #[.string ⟨(Lib.cut s.data.toList [32]).1.toArray⟩, .string ⟨(Lib.cut s.data.toList [32]).2.1.toArray⟩, .bool (Lib.cut s.data.toList [32]).2.2]) ∧ Below w.heap.size w w' := by
  obtain ⟨m, hm⟩ := hE.2
  refine (Tryz.strings_Cut s ⟨#[32]⟩ m w (by omega) hm).mono ?_
  rintro e w' ⟨rfl, n, rfl⟩
  exact ⟨rfl, below_drewN (Below.refl _ _) n⟩

set_option maxRecDepth 20000 in
set_option maxHeartbeats 1000000 in
theorem parseExchange_any (s : ByteArray) (w : World) (hs : s.size ≤ 1048576) (hE : EnvR w) :
    Calls Tryz.prog 233 #[.string s] w fun e w' => ParseRes w 15 s.data.toList e w' := by
  have hsz : s.data.toList.length = s.size := by simp
  have HCUT := strCut_any s w hs hE.1
  by_cases hm : (32 : UInt8) ∈ s.data.toList
  · obtain ⟨a, r, hl, ha⟩ := List.eq_append_cons_of_mem hm
    rw [hl, libCut_at ha] at HCUT
    have HC : Hid (Calls Tryz.prog 113 #[.string s, .string ⟨#[32]⟩] w fun e w' => e = .returned (.tuple #[.string ⟨a.toArray⟩, .string ⟨r.toArray⟩, .bool true]) ∧ Below w.heap.size w w') := HCUT
    have hll : a.length ≤ 1048576 ∧ r.length ≤ 1048576 := by rw [hl, List.length_append, List.length_cons] at hsz; omega
    have HRD : Hid (∀ W, EnvR W → Calls Tryz.prog 149 #[.string ⟨a.toArray⟩, .int .i64 65535] W fun e w' => e = .returned (.tuple #[.int .i64 (rdNum a 65535), .bool (numIn a 65535)]) ∧ Below W.heap.size W w') := fun W hW => readNumber_any ⟨a.toArray⟩ 65535 W (by rw [size_list]; omega) (by omega) (by omega) hW
    have HH : Hid (∀ W, EnvR W → Calls Tryz.prog 155 #[.string ⟨r.toArray⟩] W fun e w' => e = .returned (.bool (targB r)) ∧ Below W.heap.size W w') := fun W hW => isHost_any ⟨r.toArray⟩ W hW.1
    have HD : Hid (dataP 15 s.data.toList = if numIn a 65535 = true ∧ targB r = true then some (beB (intV a) 2 ++ wireL (labelsOf r)) else none) := by rw [dataP_M, hl]; exact exch_at ha
    have HV : Hid (numIn a 65535 = true → targB r = true → IsV 15 s.data.toList (exV (rdNum a 65535) ⟨r.toArray⟩)) := fun h1 h2 => by
      rw [show rdNum a 65535 = intV a from if_pos h1]
      exact .inr (.inr (.inr (.inl ⟨rfl, a, r, hl, ha, h1, h2, rfl⟩)))
    clear hm hl ha HCUT hsz hll
    cases hn : numIn a 65535 with
    | false =>
      have HR : Hid (dataP 15 s.data.toList = none) := by rw [HD.out]; exact if_neg (fun h => by rw [hn] at h; cases h.1)
      rw [hn] at HRD
      clear hn
      go_enter Tryz.func233, Tryz.ntmps233
      go_wp2_with fail
      refine HC.out.mono ?_
      rintro e w1 ⟨rfl, hb1⟩
      go_wp2_with fail
      refine (HRD.out _ (hE.below hb1)).mono ?_
      rintro e w2 ⟨rfl, hb2⟩
      go_wp2_with fail
      go_ret2
      exact parse_no HR.out (hb1.trans (hb2.mono hb1.size))
    | true =>
      cases ht : targB r with
      | false =>
        have HR : Hid (dataP 15 s.data.toList = none) := by rw [HD.out]; exact if_neg (fun h => by rw [ht] at h; cases h.2)
        rw [hn] at HRD
        rw [ht] at HH
        clear hn ht
        go_enter Tryz.func233, Tryz.ntmps233
        go_wp2_with fail
        refine HC.out.mono ?_
        rintro e w1 ⟨rfl, hb1⟩
        go_wp2_with fail
        refine (HRD.out _ (hE.below hb1)).mono ?_
        rintro e w2 ⟨rfl, hb2⟩
        have hbb := hb1.trans (hb2.mono hb1.size)
        go_wp2_with fail
        refine (HH.out _ (hE.below hbb)).mono ?_
        rintro e w3 ⟨rfl, hb3⟩
        go_wp2_with fail
        go_ret2
        exact parse_no HR.out (hbb.trans (hb3.mono hbb.size))
      | true =>
        have HR : Hid ((dataP 15 s.data.toList).isSome = true) := by rw [HD.out, if_pos ⟨hn, ht⟩]; exact rfl
        have HVV : Hid (IsV 15 s.data.toList (exV (rdNum a 65535) ⟨r.toArray⟩)) := HV.out hn ht
        rw [hn] at HRD
        rw [ht] at HH
        clear hn ht
        go_enter Tryz.func233, Tryz.ntmps233
        go_wp2_with fail
        refine HC.out.mono ?_
        rintro e w1 ⟨rfl, hb1⟩
        go_wp2_with fail
        refine (HRD.out _ (hE.below hb1)).mono ?_
        rintro e w2 ⟨rfl, hb2⟩
        have hbb := hb1.trans (hb2.mono hb1.size)
        go_wp2_with fail
        refine (HH.out _ (hE.below hbb)).mono ?_
        rintro e w3 ⟨rfl, hb3⟩
        go_wp2_with fail
        go_ret2
        exact parse_yes HR.out HVV.out (hbb.trans (hb3.mono hbb.size))
  · rw [libCut_no hm] at HCUT
    have HC : Hid (Calls Tryz.prog 113 #[.string s, .string ⟨#[32]⟩] w fun e w' => e = .returned (.tuple #[.string ⟨s.data.toList.toArray⟩, .string ⟨#[]⟩, .bool false]) ∧ Below w.heap.size w w') := HCUT
    have HR : Hid (dataP 15 s.data.toList = none) := by rw [dataP_M]; exact exch_no hm
    have HRD : Hid (∀ W, EnvR W → Calls Tryz.prog 149 #[.string ⟨s.data.toList.toArray⟩, .int .i64 65535] W fun e w' => e = .returned (.tuple #[.int .i64 (rdNum s.data.toList 65535), .bool (numIn s.data.toList 65535)]) ∧ Below W.heap.size W w') := fun W hW => readNumber_any ⟨s.data.toList.toArray⟩ 65535 W (by rw [size_list]; omega) (by omega) (by omega) hW
    have HH : Hid (∀ W, EnvR W → Calls Tryz.prog 155 #[.string ⟨#[]⟩] W fun e w' => e = .returned (.bool false) ∧ Below W.heap.size W w') := fun W hW => by
      have h := isHost_any ⟨#[]⟩ W hW.1
      rw [show targB (⟨#[]⟩ : ByteArray).data.toList = false from targ_nil] at h; exact h
    clear hm HCUT hsz
    cases hn : numIn s.data.toList 65535 with
    | false =>
      rw [hn] at HRD
      clear hn
      go_enter Tryz.func233, Tryz.ntmps233
      go_wp2_with fail
      refine HC.out.mono ?_
      rintro e w1 ⟨rfl, hb1⟩
      go_wp2_with fail
      refine (HRD.out _ (hE.below hb1)).mono ?_
      rintro e w2 ⟨rfl, hb2⟩
      go_wp2_with fail
      go_ret2
      exact parse_no HR.out (hb1.trans (hb2.mono hb1.size))
    | true =>
      rw [hn] at HRD
      clear hn
      go_enter Tryz.func233, Tryz.ntmps233
      go_wp2_with fail
      refine HC.out.mono ?_
      rintro e w1 ⟨rfl, hb1⟩
      go_wp2_with fail
      refine (HRD.out _ (hE.below hb1)).mono ?_
      rintro e w2 ⟨rfl, hb2⟩
      have hbb := hb1.trans (hb2.mono hb1.size)
      go_wp2_with fail
      refine (HH.out _ (hE.below hbb)).mono ?_
      rintro e w3 ⟨rfl, hb3⟩
      go_wp2_with fail
      go_ret2
      exact parse_no HR.out (hbb.trans (hb3.mono hbb.size))

set_option maxRecDepth 20000 in
set_option maxHeartbeats 1000000 in
theorem parseData_any (k : Int) (s : ByteArray) (w : World) (hs : s.size ≤ 1048576) (hE : EnvR w) :
    Calls Tryz.prog 207 #[.int .i64 k, .string s] w fun e w' => ParseRes w k s.data.toList e w' := by
  have HSS : Hid (⟨s.data.toList.toArray⟩ = s) := rfl
  by_cases h1 : k = 1
  · subst h1
    have HD : Hid (dataP 1 s.data.toList = dataA s.data.toList) := if_pos rfl
    go_enter Tryz.func207, Tryz.ntmps207
    go_wp2_with fail
    refine (parseAddress_any s w hs hE).mono ?_
    rintro e w1 ⟨v, rfl, hv, hb⟩
    have HV : Hid (∀ y, dataA s.data.toList = some y → v = addrV y) := hv
    clear hv
    go_wp2_with fail
    go_ret2
    refine ⟨v, ret_two rfl (val_bool (by rw [HD.out])), fun h => ?_, hb⟩
    rw [HD.out] at h
    obtain ⟨y, hy⟩ := Option.isSome_iff_exists.1 h
    exact .inl ⟨rfl, y, hy, HV.out y hy⟩
  · by_cases h2 : k = 2 ∨ k = 5
    · have HD : Hid (dataP k s.data.toList = dataN s.data.toList) := dataP_N h2 _
      clear h1
      rcases h2 with rfl | rfl
      all_goals
        go_enter Tryz.func207, Tryz.ntmps207
        go_wp2_with fail
        refine (isHost_any s w hE.1).mono ?_
        rintro e w1 ⟨rfl, hb⟩
        cases ht : targB s.data.toList with
        | false =>
          have HR : Hid (dataN s.data.toList = none) := if_neg (by rw [ht]; simp)
          clear ht
          go_wp2_with fail
          go_ret2
          exact parse_no (by rw [HD.out, HR.out]) hb
        | true =>
          have HR : Hid (dataN s.data.toList = some (wireL (labelsOf s.data.toList))) := if_pos ht
          have HT : Hid (targB s.data.toList = true) := ht
          clear ht
          go_wp2_with fail
          go_ret2
          exact parse_yes (by rw [HD.out, HR.out]; rfl) (.inr (.inl ⟨by first | exact .inl rfl | exact .inr rfl, HT.out, rfl⟩)) hb
    · by_cases h6 : k = 6
      · subst h6
        have HD : Hid (dataP 6 s.data.toList = dataS s.data.toList) := dataP_S _
        have HRD : Hid (Calls Tryz.prog 149 #[.string s, .int .i64 4294967295] w fun e w' => e = .returned (.tuple #[.int .i64 (rdNum s.data.toList 4294967295), .bool (numIn s.data.toList 4294967295)]) ∧ Below w.heap.size w w') := readNumber_any s 4294967295 w (by omega) (by omega) (by omega) hE
        clear h1 h2
        cases hn : numIn s.data.toList 4294967295 with
        | false =>
          have HR : Hid (dataS s.data.toList = none) := if_neg (by rw [hn]; simp)
          rw [hn] at HRD
          clear hn
          go_enter Tryz.func207, Tryz.ntmps207
          go_wp2_with fail
          refine HRD.out.mono ?_
          rintro e w1 ⟨rfl, hb⟩
          go_wp2_with fail
          go_ret2
          exact parse_no (by rw [HD.out, HR.out]) hb
        | true =>
          have HR : Hid (dataS s.data.toList = some (beB (intV s.data.toList) 4)) := if_pos hn
          have HN : Hid (numIn s.data.toList 4294967295 = true) := hn
          have HI : Hid (rdNum s.data.toList 4294967295 = intV s.data.toList) := if_pos hn
          rw [hn] at HRD
          clear hn
          go_enter Tryz.func207, Tryz.ntmps207
          go_wp2_with fail
          refine HRD.out.mono ?_
          rintro e w1 ⟨rfl, hb⟩
          go_wp2_with fail
          go_ret2
          exact parse_yes (by rw [HD.out, HR.out]; rfl) (.inr (.inr (.inl ⟨rfl, HN.out, by rw [HI.out]; rfl⟩))) hb
      · by_cases h15 : k = 15
        · subst h15
          clear h1 h2 h6
          go_enter Tryz.func207, Tryz.ntmps207
          go_wp2_with fail
          refine (parseExchange_any s w hs hE).mono ?_
          rintro e w1 ⟨v, rfl, hv, hb⟩
          have HV : Hid ((dataP 15 s.data.toList).isSome = true → IsV 15 s.data.toList v) := hv
          clear hv
          go_wp2_with fail
          go_ret2
          exact ⟨v, rfl, HV.out, hb⟩
        · by_cases h16 : k = 16
          · subst h16
            have HD : Hid (dataP 16 s.data.toList = dataT s.data.toList) := dataP_T _
            clear h1 h2 h6 h15
            go_enter Tryz.func207, Tryz.ntmps207
            go_wp2_with fail
            refine (isNote_any s w).mono ?_
            rintro e w1 ⟨rfl, rfl⟩
            cases ht : noteB s.data.toList with
            | false =>
              have HR : Hid (dataT s.data.toList = none) := if_neg (fun h => by unfold noteB at ht; rw [h.1, decide_eq_true h.2] at ht; cases ht)
              clear ht
              go_wp2_with fail
              go_ret2
              exact parse_no (by rw [HD.out, HR.out]) (Below.refl _ _)
            | true =>
              have HT : Hid (noteB s.data.toList = true) := ht
              have HR : Hid (dataT s.data.toList = some (UInt8.ofNat s.data.toList.length :: s.data.toList)) := if_pos (by unfold noteB at ht; simp only [Bool.and_eq_true, decide_eq_true_eq] at ht; exact ⟨ht.2, ht.1⟩)
              clear ht
              go_wp2_with fail
              go_ret2
              exact parse_yes (by rw [HD.out, HR.out]; rfl) (.inr (.inr (.inr (.inr ⟨rfl, HT.out, rfl⟩)))) (Below.refl _ _)
          · have e1 : (k == 1) = false := by simpa using h1
            have e2 : (k == 2) = false := by simpa using fun h => h2 (.inl h)
            have e5 : (k == 5) = false := by simpa using fun h => h2 (.inr h)
            have e6 : (k == 6) = false := by simpa using h6
            have e15 : (k == 15) = false := by simpa using h15
            have e16 : (k == 16) = false := by simpa using h16
            have HR : Hid (dataP k s.data.toList = none) := dataP_O e1 e2 e5 e6 e15 e16 _
            clear h1 h2 h6 h15 h16
            go_enter Tryz.func207, Tryz.ntmps207
            go_wp2_with fail
            go_ret2
            exact parse_no HR.out (Below.refl _ _)
end Go.Proofs.YtoobaaklklommaaGreatDoor

namespace Go.Proofs.YtoobaaklklommaaGreatDoor
open Go.RowKit

theorem recB_name_no {nm d : List UInt8} {ty ttl : Int} (h : nameB nm = false) : recB nm ty ttl d = false := by unfold recB; rw [h, Bool.false_and, Bool.and_false]
theorem recB_ttl_no {nm d : List UInt8} {ty ttl : Int} (h : ¬ (0 ≤ ttl ∧ ttl ≤ 100000)) : recB nm ty ttl d = false := by
  unfold recB
  have : (decide (0 ≤ ttl) && decide (ttl ≤ 100000)) = false := by
    rw [Bool.eq_false_iff]; intro hc; simp only [Bool.and_eq_true, decide_eq_true_eq] at hc; exact h hc
  rw [this, Bool.and_false, Bool.and_false]
theorem recB_is {nm d : List UInt8} {ty ttl : Int} (h : nameB nm = true) (h0 : 0 ≤ ttl) (h1 : ttl ≤ 100000) : recB nm ty ttl d = (dataP ty d).isSome := by
  unfold recB; rw [h, decide_eq_true h0, decide_eq_true h1]; simp
/-- What takeApart tells. -/
def TakeRes (w : World) (nm : List UInt8) (ty ttl : Int) (d : List UInt8) (e : Ending) (w' : World) : Prop :=
  ∃ v, e = .returned (.tuple #[v, .bool (recB nm ty ttl d)]) ∧ (recB nm ty ttl d = true → IsV ty d v) ∧ Below w.heap.size w w'
theorem take_no {w w' : World} {nm d : List UInt8} {ty ttl : Int} {v : Value} (h : recB nm ty ttl d = false) (hb : Below w.heap.size w w') : TakeRes w nm ty ttl d (.returned (.tuple #[v, .bool false])) w' :=
  ⟨v, by rw [h], fun hh => (by rw [h] at hh; cases hh), hb⟩

set_option maxRecDepth 20000 in
set_option maxHeartbeats 1000000 in
theorem takeApart_any (nm d : ByteArray) (ty ttl : Int) (w : World) (hd : d.size ≤ 1048576) (hE : EnvR w) :
    Calls Tryz.prog 176 #[RecV nm ty ttl d] w fun e w' => TakeRes w nm.data.toList ty ttl d.data.toList e w' := by
  unfold RecV
  cases hN : nameB nm.data.toList with
  | false =>
    have HR : Hid (recB nm.data.toList ty ttl d.data.toList = false) := recB_name_no hN
    have HN : Hid (nameB nm.data.toList = false) := hN
    clear hN
    go_enter Tryz.func176, Tryz.ntmps176
    go_wp2_with fail
    refine (iGoodName_any nm _ (hE.1.below ((Below.refl _ _).alloc (Nat.le_refl _) _))).mono ?_
    rintro e w1 ⟨rfl, hb1⟩
    have hbw := (box4 hb1).2.2.2.2
    rw [HN.out]
    clear hb1
    go_wp2_with fail
    go_ret2
    exact take_no HR.out hbw
  | true =>
    have HN : Hid (nameB nm.data.toList = true) := hN
    by_cases h0 : ttl < 0
    · have HR : Hid (recB nm.data.toList ty ttl d.data.toList = false) := recB_ttl_no (by omega)
      clear hN
      go_enter Tryz.func176, Tryz.ntmps176
      go_wp2_with fail
      refine (iGoodName_any nm _ (hE.1.below ((Below.refl _ _).alloc (Nat.le_refl _) _))).mono ?_
      rintro e w1 ⟨rfl, hb1⟩
      obtain ⟨c0, c1, c2, c3, hbw⟩ := box4 hb1
      rw [HN.out]
      clear hb1
      go_wp2_with fail
      go_ret2
      exact take_no HR.out hbw
    · have h0' : 0 ≤ ttl := by omega
      by_cases h1 : (100000 : Int) < ttl
      · have HR : Hid (recB nm.data.toList ty ttl d.data.toList = false) := recB_ttl_no (by omega)
        clear hN
        go_enter Tryz.func176, Tryz.ntmps176
        go_wp2_with fail
        refine (iGoodName_any nm _ (hE.1.below ((Below.refl _ _).alloc (Nat.le_refl _) _))).mono ?_
        rintro e w1 ⟨rfl, hb1⟩
        obtain ⟨c0, c1, c2, c3, hbw⟩ := box4 hb1
        rw [HN.out]
        clear hb1 h0
        go_wp2_with fail
        go_ret2
        exact take_no HR.out hbw
      · have h1' : ttl ≤ 100000 := by omega
        have HR : Hid (recB nm.data.toList ty ttl d.data.toList = (dataP ty d.data.toList).isSome) := recB_is hN h0' h1'
        clear hN
        go_enter Tryz.func176, Tryz.ntmps176
        go_wp2_with fail
        refine (iGoodName_any nm _ (hE.1.below ((Below.refl _ _).alloc (Nat.le_refl _) _))).mono ?_
        rintro e w1 ⟨rfl, hb1⟩
        obtain ⟨c0, c1, c2, c3, hbw⟩ := box4 hb1
        rw [HN.out]
        clear hb1 h0 h1
        go_wp2_with fail
        refine (parseData_any ty d _ hd (hE.below hbw)).mono ?_
        rintro e w2 ⟨v, rfl, hv, hb2⟩
        have HV : Hid ((dataP ty d.data.toList).isSome = true → IsV ty d.data.toList v) := hv
        clear hv c0 c1 c2 c3
        go_wp2_with fail
        go_ret2
        exact ⟨v, ret_two rfl (val_bool HR.out.symm), fun h => HV.out (by rw [← HR.out]; exact h), hbw.trans (hb2.mono hbw.size)⟩

set_option maxRecDepth 20000 in
set_option maxHeartbeats 400000 in
theorem iGoodRecord_any (nm d : ByteArray) (ty ttl : Int) (w : World) (hd : d.size ≤ 1048576) (hE : EnvR w) :
    Calls Tryz.prog 145 #[RecV nm ty ttl d] w fun e w' => e = .returned (.bool (recB nm.data.toList ty ttl d.data.toList)) ∧ Below w.heap.size w w' := by
  have HT : Hid (∀ W, EnvR W → Calls Tryz.prog 176 #[RecV nm ty ttl d] W fun e w' => TakeRes W nm.data.toList ty ttl d.data.toList e w') := fun W hW => takeApart_any nm d ty ttl W hd hW
  unfold RecV at HT ⊢
  go_enter Tryz.func145, Tryz.ntmps145
  go_wp2_with fail
  refine (HT.out _ (hE.below ((Below.refl _ _).alloc (Nat.le_refl _) _))).mono ?_
  rintro e w1 ⟨v, rfl, _, hb1⟩
  have hbw := (box4 hb1).2.2.2.2
  clear hb1
  go_wp2_with fail
  go_ret
  exact ⟨rfl, hbw⟩
end Go.Proofs.YtoobaaklklommaaGreatDoor

namespace Go.Proofs.YtoobaaklklommaaGreatDoor
open Go.RowKit

/-- What szRecord tells. -/
def szR (a b left : Int) : Int := if left - a < 0 then -1 else if left - a - b < 0 then -1 else left - a - b

set_option maxRecDepth 20000 in
set_option maxHeartbeats 400000 in
theorem szRecord_any (nm d : ByteArray) (ty ttl left : Int) (w : World) (hn : nm.size ≤ maxLen) (hd : d.size ≤ maxLen) (h0 : 0 ≤ left) (h1 : left ≤ 1048576) :
    Calls Tryz.prog 116 #[RecV nm ty ttl d, .int .i64 left] w fun e w' => e = .returned (.int .i64 (szR (nm.size : Int) (d.size : Int) left)) ∧ Below w.heap.size w w' := by
  unfold RecV
  unfold maxLen at hn hd
  by_cases g1 : left - (nm.size : Int) < 0
  · have HR : Hid (szR (nm.size : Int) (d.size : Int) left = -1) := if_pos g1
    go_enter Tryz.func116, Tryz.ntmps116
    go_wp2_with fail
    go_ret
    exact ⟨ret_int HR.out.symm, (Below.refl _ _).alloc (Nat.le_refl _) _⟩
  · have g1' : 0 ≤ left - (nm.size : Int) := by omega
    by_cases g2 : left - (nm.size : Int) - (d.size : Int) < 0
    · have HR : Hid (szR (nm.size : Int) (d.size : Int) left = -1) := by unfold szR; rw [if_neg g1]; exact if_pos g2
      clear g1
      go_enter Tryz.func116, Tryz.ntmps116
      go_wp2_with fail
      go_ret
      exact ⟨ret_int HR.out.symm, (Below.refl _ _).alloc (Nat.le_refl _) _⟩
    · have g2' : 0 ≤ left - (nm.size : Int) - (d.size : Int) := by omega
      have HR : Hid (szR (nm.size : Int) (d.size : Int) left = left - (nm.size : Int) - (d.size : Int)) := by unfold szR; rw [if_neg g1]; exact if_neg g2
      clear g1 g2
      go_enter Tryz.func116, Tryz.ntmps116
      go_wp2_with fail
      go_ret
      exact ⟨ret_int HR.out.symm, (Below.refl _ _).alloc (Nat.le_refl _) _⟩

set_option maxRecDepth 20000 in
set_option maxHeartbeats 400000 in
theorem toRecord_any (nm d : ByteArray) (ty ttl : Int) (w : World) :
    Calls Tryz.prog 120 #[RecV nm ty ttl d] w fun e w' => e = .returned (RecV nm ty ttl d) ∧ Below w.heap.size w w' := by
  unfold RecV
  go_enter Tryz.func120, Tryz.ntmps120
  go_wp2_with fail
  (try simp only [Exit.inBlock, Exit.then])
  refine bodyPost_ret (results_cell_row rfl _ _ (w.heap.size + 1) 108 #[.string nm, .int .i64 ty, .int .i64 ttl, .string d] (0, 0) _ rfl ?_ Tryz.underlying108 rfl (by kernel_rfl)) rfl ⟨rfl, ?_⟩
  · rw [Below.heap_alloc _ _ _ (by simp), heap_alloc2_new]
  · exact (((Below.refl _ _).alloc (Nat.le_refl _) _).alloc (by simp) _).alloc (by simp; omega) _
theorem sz_cases {a b : Nat} : szR (a : Int) (b : Int) 1048576 = -1 ∧ ¬ a + b ≤ 1048576 ∨ szR (a : Int) (b : Int) 1048576 = 1048576 - (a : Int) - (b : Int) ∧ a + b ≤ 1048576 := by
  unfold szR
  split
  · exact .inl ⟨rfl, by omega⟩
  · split
    · exact .inl ⟨rfl, by omega⟩
    · exact .inr ⟨rfl, by omega⟩
end Go.Proofs.YtoobaaklklommaaGreatDoor
