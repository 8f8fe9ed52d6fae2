import Derived.Test.YtjocegnhhhfbeaaGreatDoorZ11
import Derived.Test.YtjocegnhhhfbeaaGreatDoorZ33
namespace Go.Proofs.YtjocegnhhhfbeaaGreatDoor
open Go.RowKit

/-- The name that bytes are, empty where they are none. -/
def nameP (b : List UInt8) : List UInt8 := if b = [] then [] else match takeN b 0 with
  | none => []
  | some (nm, e, _) => if e = b.length then nm else []


/-- The data that bytes may be of. -/
def candP (k : Int) (b : List UInt8) : List UInt8 :=
  if k = 1 then joinD (b.map (fun c => numL c.toNat)) else if k = 2 ∨ k = 5 then nameP b else if k = 6 then (if b.length = 4 then numL (rdN b) else [])
  else if k = 15 then (if 2 < b.length then numL (rdN (b.take 2)) ++ (32 :: nameP (b.drop 2)) else []) else if k = 16 then b.drop 1 else []
def readR (k : Int) (b : List UInt8) : Option (List UInt8) := if b.length ≤ 600 ∧ dataP k (candP k b) = some b then some (candP k b) else none
def readVal (R : Option (List UInt8)) : Ending := .returned (.tuple #[.string ⟨(R.getD []).toArray⟩, .bool R.isSome])
theorem put_noneR {R : Option (List UInt8)} (h : R = none) : Ending.returned (.tuple #[.string ⟨#[]⟩, .bool false]) = readVal R := by rw [h]; rfl
theorem put_someR {R : Option (List UInt8)} {x : ByteArray} {y : List UInt8} (h : R = some y) (hx : x.data.toList = y) : Ending.returned (.tuple #[.string x, .bool true]) = readVal R := by
  rw [h]; unfold readVal; rw [data_eq hx]; rfl
theorem read_yes {k : Int} {b z : List UInt8} (hb : b.length ≤ 600) (hz : candP k b = z) (h : dataP k z = some b) : readR k b = some z := by
  unfold readR; rw [hz]; exact if_pos ⟨hb, h⟩
theorem read_no {k : Int} {b z : List UInt8} (hz : candP k b = z) (h : dataP k z ≠ some b) : readR k b = none := by
  unfold readR; rw [hz]; exact if_neg (fun hc => h hc.2)
theorem nameP_length (b : List UInt8) : (nameP b).length ≤ 60 := by
  unfold nameP
  split
  · simp
  · split
    · simp
    · rename_i nm e pl h
      split
      · unfold takeN at h
        cases hr : takeR b 0 with
        | none => rw [hr] at h; cases h
        | some q =>
          obtain ⟨R, e', q'⟩ := q
          rw [hr] at h
          unfold nmR at h
          simp only at h
          split at h
          · rename_i hn
            simp only [Option.some.injEq, Prod.mk.injEq] at h
            rw [← h.1]
            unfold nameOfB nameB at hn
            simp only [Bool.and_eq_true, decide_eq_true_eq] at hn
            exact hn.2.2.1
          · cases h
      · simp

end Go.Proofs.YtjocegnhhhfbeaaGreatDoor

namespace Go.Proofs.YtjocegnhhhfbeaaGreatDoor
open Go.RowKit

theorem cut_one_eq {c : UInt8} : ∀ {l a : List UInt8}, cut c l = [a] → l = a
  | [], a, h => by simp only [cut, List.cons.injEq, and_true] at h; exact h
  | d :: l, a, h => by
    by_cases hd : d = c
    · simp only [cut, hd, if_true, List.cons.injEq] at h
      exact absurd h.2 (cut_ne c l)
    · cases e : cut c l with
      | nil => exact absurd e (cut_ne c l)
      | cons p r =>
        simp only [cut, hd, if_false, e, List.cons.injEq] at h
        rw [h.2] at e
        rw [cut_one_eq e, h.1]
theorem cut_two_eq {c : UInt8} : ∀ {l a b : List UInt8}, cut c l = [a, b] → l = a ++ c :: b
  | [], a, b, h => by simp [cut] at h
  | d :: l, a, b, h => by
    by_cases hd : d = c
    · simp only [cut, hd, if_true, List.cons.injEq] at h
      rw [← h.1, cut_one_eq h.2, hd]; rfl
    · cases e : cut c l with
      | nil => exact absurd e (cut_ne c l)
      | cons p r =>
        simp only [cut, hd, if_false, e, List.cons.injEq] at h
        rw [h.2] at e
        rw [cut_two_eq e, ← h.1]; rfl

theorem rd_wire : ∀ (P : List (List UInt8)) (p : List UInt8) (n least : Nat) (raw : List (List UInt8)) (pl : List Nat), (∀ x ∈ P, x.length ≤ 20 ∧ 0 < x.length) → P.length < n →
    ∃ q, rd (p ++ wireL P) n p.length least none raw pl = some (raw ++ P, (p ++ wireL P).length, q)
  | [], p, n, least, raw, pl, _, hn => by
    obtain ⟨m, rfl⟩ : ∃ m, n = m + 1 := ⟨n - 1, by omega⟩
    refine ⟨pl, ?_⟩
    rw [rd_end (by simp [wireL]) (by simp [wireL])]
    simp [wireL]
  | x :: r, p, n, least, raw, pl, hx, hn => by
    obtain ⟨m, rfl⟩ : ∃ m, n = m + 1 := ⟨n - 1, by omega⟩
    obtain ⟨h20, h0⟩ := hx x (by simp)
    have hxn : (UInt8.ofNat x.length).toNat = x.length := by rw [UInt8.toNat_ofNat']; omega
    have hlt : p.length < (p ++ wireL (x :: r)).length := by simp [wireL]
    have hg : (p ++ wireL (x :: r))[p.length]'hlt = UInt8.ofNat x.length := by simp [wireL]
    have hgn : ((p ++ wireL (x :: r))[p.length]'hlt).toNat = x.length := by rw [hg, hxn]
    have hroom : p.length + ((p ++ wireL (x :: r))[p.length]'hlt).toNat < (p ++ wireL (x :: r)).length := by
      rw [hgn]; simp [wireL]; omega
    rw [rd_lab hlt (by omega) (by omega) hroom, hgn]
    have hlab : labAt (p ++ wireL (x :: r)) p.length x.length = x := by
      unfold labAt
      rw [show p.length + 1 + x.length = p.length + (1 + x.length) by omega, List.take_length_add_append, List.drop_length_add_append]
      simp [wireL, Nat.add_comm 1]
    have he : p ++ wireL (x :: r) = (p ++ (UInt8.ofNat x.length :: x)) ++ wireL r := by simp [wireL]
    have hlen : p.length + 1 + x.length = (p ++ (UInt8.ofNat x.length :: x)).length := by simp; omega
    obtain ⟨q, hq⟩ := rd_wire r (p ++ (UInt8.ofNat x.length :: x)) m least (raw ++ [x]) (if (none : Option Nat) = none then pl ++ [p.length] else pl) (fun y hy => hx y (by simp [hy])) (by simp at hn; omega)
    refine ⟨q, ?_⟩
    rw [hlab, he, hlen, hq]
    simp
theorem takeN_wire {nm p : List UInt8} (hn : nameB nm = true) : ∃ q, takeN (p ++ wireL (labelsOf nm)) p.length = some (nm, (p ++ wireL (labelsOf nm)).length, q) := by
  obtain ⟨h1, h2⟩ := name_labels hn
  obtain ⟨q, hq⟩ := rd_wire (labelsOf nm) p (p.length * 70002 + 70002) p.length [] [] h1 (by omega)
  refine ⟨q, ?_⟩
  have hall : (labelsOf nm).all labelB = true := by unfold nameB at hn; simp only [Bool.and_eq_true] at hn; exact hn.1
  have hf : (labelsOf nm).map foldL = labelsOf nm := by
    exact (List.map_congr_left (fun x hx => fold_label (List.all_eq_true.1 hall x hx))).trans (List.map_id' _)
  have hnb : nameOfB (labelsOf nm) = true := by unfold nameOfB; rw [hall, joinD_labels, hn]; rfl
  unfold takeN takeR
  rw [hq, List.nil_append]
  simp only [nmR]
  rw [hf, if_pos hnb, joinD_labels]
theorem wire_len {nm : List UInt8} (hn : nameB nm = true) : (wireL (labelsOf nm)).length ≤ 200 ∧ 0 < (wireL (labelsOf nm)).length := by
  obtain ⟨h1, h2⟩ := name_labels hn
  have h : ∀ P : List (List UInt8), (∀ x ∈ P, x.length ≤ 20 ∧ 0 < x.length) → (wireL P).length ≤ 21 * P.length + 1 ∧ 0 < (wireL P).length := by
    intro P
    induction P with
    | nil => intro _; simp [wireL]
    | cons x r ih =>
      intro hx
      have := ih (fun y hy => hx y (by simp [hy]))
      have hx1 := hx x (by simp)
      simp [wireL]; omega
  have := h _ h1
  omega
theorem nameP_wire {nm : List UInt8} (hn : nameB nm = true) : nameP (wireL (labelsOf nm)) = nm := by
  obtain ⟨q, hq⟩ := takeN_wire (p := []) hn
  rw [List.nil_append] at hq
  unfold nameP
  rw [if_neg (by intro e; have := (wire_len hn).2; rw [e] at this; simp at this), show (0 : Nat) = ([] : List UInt8).length from rfl, hq]
  simp
theorem rdN_app (l : List UInt8) (c : UInt8) : rdN (l ++ [c]) = rdN l * 256 + c.toNat := by unfold rdN; rw [List.foldl_append]; rfl
theorem rdN_beB : ∀ (k : Nat) (n : Nat), n < 256 ^ k → rdN (beB (n : Int) k) = n
  | 0, n, h => by have : n = 0 := by simpa using h
                  subst this; rfl
  | k + 1, n, h => by
    rw [beB, rdN_app, show ((n : Int) / 256) = ((n / 256 : Nat) : Int) by omega, rdN_beB k (n / 256) (by rw [Nat.pow_succ] at h; omega), UInt8.toNat_ofNat']
    omega
theorem targ_name {l : List UInt8} (h : targB l = true) : nameB l = true ∧ l ≠ [] := by
  unfold targB at h
  simp only [Bool.and_eq_true] at h
  refine ⟨h.1, fun e => ?_⟩
  rw [e] at h; simp at h
theorem map_numL {P : List (List UInt8)} (h : P.all (fun x => numIn x 255) = true) : (P.map (fun x => UInt8.ofNat (intV x).toNat)).map (fun c => numL c.toNat) = P := by
  rw [List.map_map]
  have : P.map ((fun c : UInt8 => numL c.toNat) ∘ fun x => UInt8.ofNat (intV x).toNat) = P.map id := by
    refine List.map_congr_left (fun x hx => ?_)
    have hx := List.all_eq_true.1 h x hx
    obtain ⟨_, h0, h1, _⟩ := num_atoi hx
    obtain ⟨n, e, _, hl⟩ := intV_nat h0
    show numL (UInt8.ofNat (intV x).toNat).toNat = x
    rw [e, Int.toNat_natCast, UInt8.toNat_ofNat', Nat.mod_eq_of_lt (by rw [e] at h1; omega)]
    exact hl.symm
  rw [this, List.map_id]
/-- The text that the program reads out of bytes of a type. -/
def candI (k : Int) (b : List UInt8) : Option (List UInt8) :=
  if k = 1 then (if b.length = 4 then some (joinD (b.map (fun c => numL c.toNat))) else none)
  else if k = 2 ∨ k = 5 then (tkI b 0).map (·.1)
  else if k = 6 then (if b.length = 4 then some (numL (rdN b)) else none)
  else if k = 15 then (tkI b 2).map (fun r => numL (rdN (b.take 2)) ++ (32 :: r.1))
  else if k = 16 then (if b = [] then none else some (b.drop 1)) else none
theorem tkI_wire {nm p : List UInt8} (hn : nameB nm = true) (hp : p.length ≤ 2) : ∃ q, tkI (p ++ wireL (labelsOf nm)) (p.length : Int) = some (nm, (p ++ wireL (labelsOf nm)).length, q) := by
  obtain ⟨q, hq⟩ := takeN_wire (p := p) hn
  have hw := wire_len hn
  refine ⟨q, ?_⟩
  unfold tkI
  rw [if_pos ⟨by rw [List.length_append]; omega, by omega, by rw [List.length_append]; omega⟩, Int.toNat_natCast, hq]
theorem beB_len2 {n : Int} (l : List UInt8) : (beB n 2 ++ l).take 2 = beB n 2 ∧ (beB n 2 ++ l).drop 2 = l := by
  have h := beB_length 2 n
  exact ⟨by rw [List.take_append_of_le_length (by omega), List.take_of_length_le (by omega)], by rw [List.drop_append_of_le_length (by omega), List.drop_eq_nil_of_le (by omega), List.nil_append]⟩
theorem rt_A {z b : List UInt8} (h : dataA z = some b) : b.length = 4 ∧ joinD (b.map (fun c => numL c.toNat)) = z := by
  unfold dataA at h
  split at h
  · rename_i hc
    have hb := (Option.some.inj h).symm
    refine ⟨by rw [hb, List.length_map]; exact hc.2, ?_⟩
    rw [hb, map_numL hc.1, joinD_cut]
  · cases h
theorem rt_N {z b : List UInt8} (h : dataN z = some b) : nameB z = true ∧ b = wireL (labelsOf z) := by
  unfold dataN at h
  split at h
  · rename_i hc; exact ⟨(targ_name hc).1, (Option.some.inj h).symm⟩
  · cases h
theorem rt_S {z b : List UInt8} (h : dataS z = some b) : b.length = 4 ∧ numL (rdN b) = z := by
  unfold dataS at h
  split at h
  · rename_i hc
    have hb := (Option.some.inj h).symm
    obtain ⟨_, h0, h1, _⟩ := num_atoi hc
    obtain ⟨n, e, _, hl⟩ := intV_nat h0
    refine ⟨by rw [hb, beB_length], ?_⟩
    rw [hb, e, rdN_beB 4 n (by rw [e] at h1; omega)]; exact hl.symm
  · cases h
theorem rt_M {z b : List UInt8} (h : dataM z = some b) : ∃ p nm, nameB nm = true ∧ p.length = 2 ∧ b = p ++ wireL (labelsOf nm) ∧ z = numL (rdN p) ++ (32 :: nm) := by
  unfold dataM at h
  split at h
  · rename_i a c hcut
    split at h
    · rename_i hc
      have hb := (Option.some.inj h).symm
      obtain ⟨_, h0, h1, _⟩ := num_atoi hc.1
      obtain ⟨n, e, _, hl⟩ := intV_nat h0
      refine ⟨beB (intV a) 2, c, (targ_name hc.2).1, beB_length _ _, hb, ?_⟩
      rw [e, rdN_beB 2 n (by rw [e] at h1; omega), ← hl]
      exact cut_two_eq hcut
    · cases h
  · cases h
theorem rt_T {z b : List UInt8} (h : dataT z = some b) : b.length ≤ 31 ∧ b ≠ [] ∧ b.drop 1 = z := by
  unfold dataT at h
  split at h
  · rename_i hc
    have hb := (Option.some.inj h).symm
    rw [hb]; refine ⟨?_, by simp, rfl⟩
    simp; omega
  · cases h
/-- Bytes of data come back, by both readings. -/
theorem data_back {k : Int} {z b : List UInt8} (h : dataP k z = some b) : candP k b = z ∧ candI k b = some z ∧ b.length ≤ 600 := by
  unfold dataP at h
  unfold candP candI
  by_cases h1 : k = 1
  · rw [if_pos h1] at h; rw [if_pos h1, if_pos h1]
    obtain ⟨e1, e2⟩ := rt_A h
    rw [if_pos e1, e2]; exact ⟨rfl, rfl, by omega⟩
  · rw [if_neg h1] at h; rw [if_neg h1, if_neg h1]
    by_cases h2 : k = 2 ∨ k = 5
    · rw [if_pos h2] at h; rw [if_pos h2, if_pos h2]
      obtain ⟨e1, e2⟩ := rt_N h
      obtain ⟨q, hq⟩ := tkI_wire (p := []) e1 (by simp)
      rw [List.nil_append] at hq
      have hw := wire_len e1
      rw [e2, nameP_wire e1]
      refine ⟨rfl, ?_, by omega⟩
      rw [show (0 : Int) = (([] : List UInt8).length : Int) from rfl, hq]; rfl
    · rw [if_neg h2] at h; rw [if_neg h2, if_neg h2]
      by_cases h6 : k = 6
      · rw [if_pos h6] at h; rw [if_pos h6, if_pos h6]
        obtain ⟨e1, e2⟩ := rt_S h
        rw [if_pos e1, if_pos e1, e2]; exact ⟨rfl, rfl, by omega⟩
      · rw [if_neg h6] at h; rw [if_neg h6, if_neg h6]
        by_cases h15 : k = 15
        · rw [if_pos h15] at h; rw [if_pos h15, if_pos h15]
          obtain ⟨p, nm, e1, e2, e3, e4⟩ := rt_M h
          obtain ⟨q, hq⟩ := tkI_wire (p := p) e1 (by omega)
          have hw := wire_len e1
          have ht : b.take 2 = p := by rw [e3, List.take_append_of_le_length (by omega), List.take_of_length_le (by omega)]
          have hd : b.drop 2 = wireL (labelsOf nm) := by rw [e3, List.drop_append_of_le_length (by omega), List.drop_eq_nil_of_le (by omega), List.nil_append]
          have hbl : b.length = 2 + (wireL (labelsOf nm)).length := by rw [e3, List.length_append, e2]
          rw [← e3, e2] at hq
          rw [if_pos (by omega), ht, hd, nameP_wire e1, e4]
          refine ⟨rfl, ?_, by omega⟩
          rw [show (2 : Int) = ((2 : Nat) : Int) from rfl, hq]; rfl
        · rw [if_neg h15] at h; rw [if_neg h15, if_neg h15]
          by_cases h16 : k = 16
          · rw [if_pos h16] at h; rw [if_pos h16, if_pos h16]
            obtain ⟨e1, e2, e3⟩ := rt_T h
            rw [if_neg e2, e3]; exact ⟨rfl, rfl, by omega⟩
          · rw [if_neg h16] at h; cases h
theorem readI_yes {k : Int} {b z : List UInt8} (hd : dataP k z = some b) : readR k b = some z :=
  read_yes (data_back hd).2.2 (data_back hd).1 hd
theorem readI_no {k : Int} {b : List UInt8} (h : ∀ z, candI k b = some z → dataP k z ≠ some b) : readR k b = none := by
  by_cases hd : dataP k (candP k b) = some b
  · exact absurd hd (h _ (data_back hd).2.1)
  · exact read_no rfl hd
end Go.Proofs.YtjocegnhhhfbeaaGreatDoor
