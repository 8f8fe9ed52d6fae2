import Derived.Test.YtpghpeombednkaaGreatDoorPackQ
namespace Go.Proofs.YtpghpeombednkaaGreatDoor
open Go.RowKit

theorem tot_joinD : ∀ P : List (List UInt8), tot P + P.length ≤ (joinD P).length + 1
  | [] => by simp [joinD, tot]
  | p :: r => by
    have ih := tot_joinD r
    have e : tot (p :: r) = p.length + tot r := by simp [tot]
    unfold joinD
    split
    · rename_i h; rw [e, h]; simp [tot]
    · rw [e]; simp; omega
theorem packL_len (T : List (List UInt8)) (ps : List Nat) : ∀ P : List (List UInt8), (packL T ps P).length ≤ tot P + P.length + 2
  | [] => by simp [packL]
  | x :: r => by
    have ih := packL_len T ps r
    have e : tot (x :: r) = x.length + tot r := by simp [tot]
    unfold packL
    split
    · rw [e]; simp [ptr]
    · rw [e]; simp; omega
theorem pk_ps {T : List (List UInt8)} : ∀ (P : List (List UInt8)) (a : Nat), ∀ p ∈ newP T a P, p ≤ a + (tot P + P.length)
  | [], a, p, hp => by simp [newP] at hp
  | x :: r, a, p, hp => by
    have e : tot (x :: r) = x.length + tot r := by simp [tot]
    unfold newP at hp
    split at hp
    · cases hp
    · rcases List.mem_cons.1 hp with h | h
      · omega
      · have h1 := pk_ps r (a + 1 + x.length) p h
        rw [e, List.length_cons]; omega
theorem packL_small (T : List (List UInt8)) (ps : List Nat) : ∀ P : List (List UInt8), (∀ p ∈ P, p.length ≤ 20) → (packL T ps P).length ≤ 21 * P.length + 2
  | [], _ => by simp [packL]
  | x :: r, h => by
    have h1 := h x (by simp)
    have ih := packL_small T ps r (fun q hq => h q (by simp [hq]))
    unfold packL
    split
    · simp [ptr]
    · simp; omega
theorem name_labels {l : List UInt8} (h : nameB l = true) : (∀ p ∈ labelsOf l, p.length ≤ 20 ∧ 0 < p.length) ∧ (labelsOf l).length ≤ 8 := by
  unfold nameB at h
  simp only [Bool.and_eq_true, List.all_eq_true, decide_eq_true_eq] at h
  refine ⟨fun p hp => ?_, h.2.2⟩
  exact ⟨label_le (h.1 p hp), List.length_pos_iff.2 (lab_ne (h.1 p hp))⟩
theorem trk_no {P : List (List UInt8)} {B : List UInt8} {T : List (List UInt8)} {ps : List Nat} {k : Nat} {R : Option (List UInt8)} (h : R = trkR B T ps (P.drop k)) (hk : k < P.length) (hn : nameB P[k] = false) : R = none := by
  rw [h, List.drop_eq_getElem_cons hk, trkR, hn]; rfl
theorem trk_yes {P : List (List UInt8)} {B : List UInt8} {T : List (List UInt8)} {ps : List Nat} {k : Nat} {R : Option (List UInt8)} (h : R = trkR B T ps (P.drop k)) (hk : k < P.length) (hn : nameB P[k] = true) : R = trkR (B ++ packL T ps (labelsOf P[k])) (T ++ newS T (labelsOf P[k])) (ps ++ newP T B.length (labelsOf P[k])) (P.drop (k + 1)) := by
  rw [h, List.drop_eq_getElem_cons hk, trkR, if_pos hn]
theorem trk_end {P : List (List UInt8)} {B : List UInt8} {T : List (List UInt8)} {ps : List Nat} {k : Nat} {R : Option (List UInt8)} (h : R = trkR B T ps (P.drop k)) (hk : ¬ k < P.length) : R = some B := by
  rw [h, List.drop_of_length_le (by omega), trkR]
/-- A text, or none, and whether. -/
def putVal (R : Option (List UInt8)) : Ending := .returned (.tuple #[.string ⟨(R.getD []).toArray⟩, .bool R.isSome])
theorem put_none {R : Option (List UInt8)} (h : R = none) : Ending.returned (.tuple #[.string ⟨#[]⟩, .bool false]) = putVal R := by rw [h]; rfl
theorem put_some {R : Option (List UInt8)} {x : ByteArray} {y : List UInt8} (h : R = some y) (hx : x.data.toList = y) : Ending.returned (.tuple #[.string x, .bool true]) = putVal R := by
  rw [h]; unfold putVal; rw [data_eq hx]; rfl

/-- What is packed so far, between two names. -/
structure PkT (base pb k : Nat) (w : World) (vw vt vp : Value) (B : List UInt8) (T : List (List UInt8)) (ps : List Nat) : Prop where
  low : base ≤ pb
  box : w.heap[pb]? = some (.cells #[vw, vt, vp] 104)
  wire : w.ownsRow base 5 1 vw B.length (B.map B8)
  told : w.ownsRow base 9 1 vt T.length (T.map S)
  places : w.ownsRow base 3 1 vp ps.length (ps.map I64)
  same : T.length = ps.length
  few : T.length ≤ 8 * k
  near : ∀ p ∈ ps, p ≤ 63 * k
  short : B.length ≤ 63 * k
theorem PkT.lt {base pb k : Nat} {w : World} {vw vt vp : Value} {B : List UInt8} {T : List (List UInt8)} {ps : List Nat} (h : PkT base pb k w vw vt vp B T ps) : pb < w.heap.size := by
  have := h.box
  by_cases e : pb < w.heap.size
  · exact e
  · rw [Array.getElem?_eq_none (by omega)] at this; cases this
theorem PkT.below {base pb k : Nat} {w w' : World} {vw vt vp : Value} {B : List UInt8} {T : List (List UInt8)} {ps : List Nat} (h : PkT base pb k w vw vt vp B T ps) (hb : Below w.heap.size w w') : PkT base pb k w' vw vt vp B T ps :=
  ⟨h.low, (hb.block pb h.lt).trans h.box, own_below h.wire hb, own_below h.told hb, own_below h.places hb, h.same, h.few, h.near, h.short⟩
theorem PkT.with {base pb k : Nat} {w w' : World} {vw vt vp vl : Value} {B : List UInt8} {T P : List (List UInt8)} {ps : List Nat} (h : PkT base pb k w vw vt vp B T ps) (hb : Below w.heap.size w w') (hl : w'.ownsRow w.heap.size 9 1 vl P.length (P.map S)) (hbs : base ≤ w.heap.size) : PkS base pb vl P w' vw vt vp B T ps :=
  ⟨h.low, (hb.block pb h.lt).trans h.box, own_below h.wire hb, own_below h.told hb, own_below h.places hb, own_mono hl hbs, fun g h1 h2 => by
    have h3 := (hl.lt g h1).1
    have h4 := (h.told.lt g h2).2
    omega⟩
theorem PkT.next {base pb k : Nat} {w w' : World} {vw vt vp vl vw' vt' vp' : Value} {B : List UInt8} {T : List (List UInt8)} {ps : List Nat} {s : List UInt8} (h : PkT base pb k w vw vt vp B T ps) (hn : nameB s = true) (hs : PkS base pb vl (labelsOf s) w' vw' vt' vp' (B ++ packL T ps (labelsOf s)) (T ++ newS T (labelsOf s)) (ps ++ newP T B.length (labelsOf s))) :
    PkT base pb (k + 1) w' vw' vt' vp' (B ++ packL T ps (labelsOf s)) (T ++ newS T (labelsOf s)) (ps ++ newP T B.length (labelsOf s)) := by
  obtain ⟨hx, h8⟩ := name_labels hn
  have h1 := newS_length T (labelsOf s)
  have h2 := new_length T (labelsOf s) B.length
  have h3 := packL_len T ps (labelsOf s)
  have h7 := tot_joinD (labelsOf s)
  rw [joinD_labels] at h7
  have h8' : s.length ≤ 60 := by
    unfold nameB at hn
    simp only [Bool.and_eq_true, decide_eq_true_eq] at hn
    omega
  have h4 := h.same
  have h5 := h.few
  have h6 := h.short
  refine ⟨hs.low, hs.box, hs.wire, hs.told, hs.places, ?_, ?_, fun p hp => ?_, ?_⟩
  · rw [List.length_append, List.length_append]; omega
  · rw [List.length_append]; omega
  · rcases List.mem_append.1 hp with h' | h'
    · have := h.near p h'; omega
    · have := pk_ps (labelsOf s) B.length p h'
      omega
  · rw [List.length_append]; omega

theorem blk_fresh (w : World) (o : Obj) : (w.alloc o).heap[w.heap.size]? = some o := by
  show (w.heap.push o)[w.heap.size]? = some o
  simp

set_option maxRecDepth 20000 in
set_option maxHeartbeats 2000000 in
theorem iPackAll_any (v : Value) (P : List (List UInt8)) (w : World) (hr : Row w v P) (h30 : P.length ≤ 30) (hE : Env w) :
    Calls Tryz.prog 40 #[v] w fun e w' => e = putVal (trkR [] [] [] P) ∧ Below w.heap.size w w' := by
  obtain ⟨a, cap, rfl, hcap, hmax, HROW⟩ := row_value hr
  clear hr
  have HR0 : Hid (trkR [] [] [] P = trkR [] [] [] (P.drop 0)) := by rw [List.drop_zero]; exact rfl
  obtain ⟨R, hR⟩ : ∃ R, R = trkR [] [] [] P := ⟨_, rfl⟩
  rw [← hR] at HR0 ⊢
  clear hR
  go_enter Tryz.func40, Tryz.ntmps40
  go_wp2_with fail
  go_loopw [11] (fun i wr => ∃ (k : Nat) (vw vt vp : Value) (B : List UInt8) (T : List (List UInt8)) (ps : List Nat), k ≤ P.length ∧ i = .int .i64 (k : Int) ∧ Hid (R = trkR B T ps (P.drop k)) ∧ Hid (PkT w.heap.size w.heap.size k wr vw vt vp B T ps) ∧ Hid (Below w.heap.size w wr)) (fun i _ => P.length - (intOf i).toNat)
  case atStart =>
    refine ⟨0, .slice none 0 0, .slice none 0 0, .slice none 0 0, [], [], [], Nat.zero_le _, rfl, HR0, ?_, (Below.refl w.heap.size w).alloc (Nat.le_refl _) _⟩
    exact ⟨Nat.le_refl _, blk_fresh _ _, World.ownsRow_nil _ _ _ _, World.ownsRow_nil _ _ _ _, World.ownsRow_nil _ _ _ _, rfl, Nat.le_refl _, fun p hp => (by cases hp), Nat.le_refl _⟩
  case round =>
    obtain ⟨k, vw, vt, vp, B, T, ps, hk, rfl, HR, HT, HB⟩ := hrel
    have hB1 := HB.out.size
    by_cases hlt : k < P.length
    · obtain ⟨b, o, ha, hbl, hc⟩ := HROW.out (by omega)
      rw [ha]
      have hcx := hc k hlt
      rw [← HB.out.cell (p := ⟨b, o + k, none⟩) hbl] at hcx
      have HNO : Hid (nameB (P[k]'hlt) = false → R = none) := fun h => trk_no HR.out hlt h
      have HYES : Hid (nameB (P[k]'hlt) = true → R = trkR (B ++ packL T ps (labelsOf (P[k]'hlt))) (T ++ newS T (labelsOf (P[k]'hlt))) (ps ++ newP T B.length (labelsOf (P[k]'hlt))) (P.drop (k + 1))) := fun h => trk_yes HR.out hlt h
      obtain ⟨x, hx⟩ : ∃ x, x = P[k]'hlt := ⟨_, rfl⟩
      rw [← hx] at hcx HNO HYES
      unfold S at hcx
      clear hc hx
      go_wp2_with fail
      refine (splitName_any ⟨x.toArray⟩ _ (hE.below HB.out)).mono ?_
      rintro e w1 ⟨v, rfl, hown, hv, hb1⟩
      rw [show (⟨x.toArray⟩ : ByteArray).data.toList = x from rfl] at hown hv ⊢
      have hb01 : Below w.heap.size w w1 := HB.out.trans (hb1.mono hB1)
      cases hN : nameB x with
      | false =>
        have HN : Hid (R = none) := HNO.out hN
        rw [hv hN]
        clear hv hown hN
        go_wp2_with fail
        go_ret2
        exact ⟨put_none HN.out, hb01⟩
      | true =>
        have HN : Hid (R = trkR (B ++ packL T ps (labelsOf x)) (T ++ newS T (labelsOf x)) (ps ++ newP T B.length (labelsOf x)) (P.drop (k + 1))) := HYES.out hN
        have HNB : Hid (nameB x = true) := hN
        have HPS : Hid (PkS w.heap.size w.heap.size v (labelsOf x) w1 vw vt vp B T ps) := HT.out.with hb1 (hown hN) hB1
        obtain ⟨hxl, h8⟩ := name_labels hN
        have HXL : Hid (∀ p ∈ labelsOf x, p.length ≤ 20 ∧ 0 < p.length) := hxl
        have hsm := HT.out.few
        have hsh := HT.out.short
        have HNR : Hid (∀ p ∈ ps, p ≤ 4000) := fun p hp => by have := HT.out.near p hp; omega
        clear hv hown hN hxl
        go_wp2_with fail
        refine (put_any w.heap.size w.heap.size v vw vt vp (labelsOf x) B T ps _ HPS HT.out.same h8 HXL HNR (by omega) (by omega)).mono ?_
        rintro e w2 ⟨rfl, vw2, vt2, vp2, hs2, hb2⟩
        have HT2 : Hid (PkT w.heap.size w.heap.size (k + 1) w2 vw2 vt2 vp2 (B ++ packL T ps (labelsOf x)) (T ++ newS T (labelsOf x)) (ps ++ newP T B.length (labelsOf x))) := HT.out.next HNB.out hs2
        have HB2 : Hid (Below w.heap.size w w2) := hb01.trans hb2
        clear hs2 hb2
        go_wp2_with fail
        go_roundw
        case rel => exact ⟨k + 1, vw2, vt2, vp2, _, _, _, by omega, by go_num, HN, HT2, HB2⟩
        case measure => simp [intOf]; omega
    · have HN : Hid (R = some B) := trk_end HR.out hlt
      have hconv := own_string HT.out.wire
      obtain ⟨c0, c1, c2, f0, f1, f2⟩ := box3_cells HT.out.box
      have hbb := HB.out
      go_wp2_with fail
      go_ret2
      exact ⟨put_some HN.out rfl, hbb⟩
end Go.Proofs.YtpghpeombednkaaGreatDoor
