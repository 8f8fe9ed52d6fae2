import Derived.Test.YtdmellmmhipncaaGreatDoorZ20
import Derived.Test.YtdmellmmhipncaaGreatDoorZ10
import Derived.Test.YtdmellmmhipncaaGreatDoorZ21
import Derived.Test.YtdmellmmhipncaaGreatDoorZ05
import Derived.Test.YtdmellmmhipncaaGreatDoorZ12
namespace Go.Proofs.YtdmellmmhipncaaGreatDoor
open Go.RowKit

theorem stands_spec (l : List UInt8) (a : Nat) :
    (stands l a = 0 ∧ ∀ R low pt raw pl, Going l R a low pt raw pl → R = none) ∨ (stands l a = 1 ∧ ∃ h : a < l.length, l[a].toNat = 0) ∨
    (stands l a = 2 ∧ ∃ h : a < l.length, ¬ l[a].toNat = 0 ∧ l[a].toNat ≤ 20 ∧ a + l[a].toNat < l.length) ∨ (stands l a = 3 ∧ ∃ (h : a < l.length) (_ : a + 1 < l.length), 192 ≤ l[a].toNat) := by
  unfold stands
  by_cases h : a < l.length
  · rw [dif_pos h]
    by_cases h0 : l[a].toNat = 0
    · rw [if_pos h0]; exact .inr (.inl ⟨rfl, h, h0⟩)
    · rw [if_neg h0]
      by_cases h20 : l[a].toNat ≤ 20
      · rw [if_pos h20]
        by_cases hin : a + l[a].toNat < l.length
        · rw [if_pos hin]; exact .inr (.inr (.inl ⟨rfl, h, h0, h20, hin⟩))
        · rw [if_neg hin]; exact .inl ⟨rfl, fun R low pt raw pl g => going_lab_out g h h0 h20 hin⟩
      · rw [if_neg h20]
        by_cases h192 : 192 ≤ l[a].toNat
        · rw [if_pos h192]
          by_cases hin : a + 1 < l.length
          · rw [if_pos hin]; exact .inr (.inr (.inr ⟨rfl, h, hin, h192⟩))
          · rw [if_neg hin]; exact .inl ⟨rfl, fun R low pt raw pl g => going_ptr_out g h h192 hin⟩
        · rw [if_neg h192]; exact .inl ⟨rfl, fun R low pt raw pl g => going_mid g h h20 h192⟩
  · rw [dif_neg h]; exact .inl ⟨rfl, fun R low pt raw pl g => going_out g h⟩

theorem tot_app (P : List (List UInt8)) (x : List UInt8) : tot (P ++ [x]) = tot P + x.length := by simp [tot]

/-- readName's frame. -/
def Frm (s : ByteArray) (a : Nat) (act : Act) (vpl vlb vbh vhere vlow : Value) (pt : Bool) : Prop :=
  ∃ u12 u13 u14 u15 u16 u17 u18 u19 u20 u21 u22 u23 u24 u25 u26 u27 u28 u29 u30 u31 u32 u33 u34 u35 u36 u37 u38 u39 u40 u41 u42 u43 u44 u45 u46 u47 u48 u49 u50 u51 u52 u53 u54 u55 u56 u57 u58 u59 u60 u61 u62 u63 u64 u65 u66 : Value, act = { tmps := #[.string s, .int .i64 (a : Int), undef, undef, .string ⟨#[]⟩, vpl, vbh, .bool false, vlb, vhere, vlow, .bool pt, u12, u13, u14, u15, u16, u17, u18, u19, u20, u21, u22, u23, u24, u25, u26, u27, u28, u29, u30, u31, u32, u33, u34, u35, u36, u37, u38, u39, u40, u41, u42, u43, u44, u45, u46, u47, u48, u49, u50, u51, u52, u53, u54, u55, u56, u57, u58, u59, u60, u61, u62, u63, u64, u65, u66], defers := [] }

/-- The state of the reading in memory. -/
structure Inv (w0 : World) (l : List UInt8) (R : Option (List UInt8 × Nat × List Nat)) (w : World) (vpl vlb : Value) (bh here low : Nat) (pt : Option Nat) (raw : List (List UInt8)) (pl : List Nat) : Prop where
  going : Going l R here low pt raw pl
  labels : w.ownsRow w0.heap.size 9 1 vlb raw.length ((raw.map foldL).map S)
  places : w.ownsRow w0.heap.size 3 1 vpl pl.length (pl.map I64)
  below : Below w0.heap.size w0 w
  hhere : here ≤ 65535
  hlow : low ≤ 65535
  much : raw.length + tot raw + (low * 65537 + (l.length - here)) ≤ 4295032832
  few : pl.length ≤ raw.length
  behind : pt.getD 0 = bh
  bhle : bh ≤ 65537

/-- What holds at each jump. -/
def Jmp (w0 : World) (s : ByteArray) (a : Nat) (R : Option (List UInt8 × Nat × List Nat)) (m l : Nat) (act : Act) (w : World) : Prop :=
  ∃ vpl vlb vbh vhere vlow bh here low pt raw pl, Frm s a act vpl vlb vbh vhere vlow (Option.isSome pt) ∧ vbh = .int .i64 ((bh : Nat) : Int) ∧ vhere = .int .i64 ((here : Nat) : Int) ∧ vlow = .int .i64 ((low : Nat) : Int) ∧
    Inv w0 s.data.toList R w vpl vlb bh here low pt raw pl ∧
    (l = 3 ∧ m = 2 * ms s.data.toList here low + 1 ∨ l = 0 ∧ m = 2 * ms s.data.toList here low ∧ stands s.data.toList here = 2 ∨ l = 1 ∧ m = 2 * ms s.data.toList here low ∧ stands s.data.toList here = 3 ∨ l = 2 ∧ m = 2 * ms s.data.toList here low ∧ stands s.data.toList here = 1)

/-- What readName tells. -/
def TkRes (w0 : World) (R : Option (List UInt8 × Nat × List Nat)) (e : Ending) (w' : World) : Prop :=
  (R = none → e = .returned (.tuple #[.string ⟨#[]⟩, .slice none 0 0, .int .i64 0, .bool false])) ∧
  (∀ nm en pl, R = some (nm, en, pl) → ∃ v, e = .returned (.tuple #[.string ⟨nm.toArray⟩, v, .int .i64 ((en : Nat) : Int), .bool true]) ∧ w'.ownsRow w0.heap.size 3 1 v pl.length (pl.map I64)) ∧ Below w0.heap.size w0 w'
theorem tk_none {w0 w' : World} {R : Option (List UInt8 × Nat × List Nat)} {e : Ending} (h : R = none) (he : e = .returned (.tuple #[.string ⟨#[]⟩, .slice none 0 0, .int .i64 0, .bool false])) (hb : Below w0.heap.size w0 w') : TkRes w0 R e w' :=
  ⟨fun _ => he, fun _ _ _ h2 => (by rw [h] at h2; cases h2), hb⟩

theorem inv_start (w : World) (s : ByteArray) (a : Nat) (hs : s.size ≤ 65535) (ha : a < s.size) : Inv w s.data.toList (takeN s.data.toList a) w (.slice none 0 0) (.slice none 0 0) 0 a a none [] [] where
  going := going_start _ _ (by have : s.data.toList.length = s.size := by simp
                               omega)
  labels := World.ownsRow_nil _ _ _ _
  places := World.ownsRow_nil _ _ _ _
  below := Below.refl _ _
  hhere := by omega
  hlow := by omega
  much := by
    have : s.data.toList.length = s.size := by simp
    unfold tot; simp only [List.length_nil, List.map_nil, List.sum_nil]; omega
  few := Nat.le_refl _
  behind := rfl
  bhle := by omega

theorem stands_label {s : ByteArray} {a : Nat} (h : stands s.data.toList a = 2) : ∃ hl : a < s.size, ¬ s[a].toNat = 0 ∧ s[a].toNat ≤ 20 ∧ a + s[a].toNat < s.size := by
  have hz : s.data.toList.length = s.size := by simp
  rcases stands_spec s.data.toList a with ⟨h1, _⟩ | ⟨h1, _⟩ | ⟨h1, hl, h2⟩ | ⟨h1, _⟩
  · rw [h] at h1; cases h1
  · rw [h] at h1; cases h1
  · rw [hz] at h2; exact ⟨by rw [← hz]; exact hl, h2⟩
  · rw [h] at h1; cases h1
theorem stands_pointer {s : ByteArray} {a : Nat} (h : stands s.data.toList a = 3) : ∃ hl : a + 1 < s.size, 192 ≤ s[a].toNat := by
  have hz : s.data.toList.length = s.size := by simp
  rcases stands_spec s.data.toList a with ⟨h1, _⟩ | ⟨h1, _⟩ | ⟨h1, _⟩ | ⟨h1, hl, h2, h3⟩
  · rw [h] at h1; cases h1
  · rw [h] at h1; cases h1
  · rw [h] at h1; cases h1
  · exact ⟨by rw [← hz]; exact h2, h3⟩
theorem stands_end {s : ByteArray} {a : Nat} (h : stands s.data.toList a = 1) : ∃ hl : a < s.size, s[a].toNat = 0 := by
  have hz : s.data.toList.length = s.size := by simp
  rcases stands_spec s.data.toList a with ⟨h1, _⟩ | ⟨h1, hl, h2⟩ | ⟨h1, _⟩ | ⟨h1, _⟩
  · rw [h] at h1; cases h1
  · exact ⟨by rw [← hz]; exact hl, h2⟩
  · rw [h] at h1; cases h1
  · rw [h] at h1; cases h1

/-- Behind a label. -/
theorem inv_lab {w0 w w2 : World} {s : ByteArray} {R : Option (List UInt8 × Nat × List Nat)} {vpl vlb v1 v2 : Value} {bh here low : Nat} {pt : Option Nat} {raw : List (List UInt8)} {pl : List Nat} (hs : s.size ≤ 65535)
    (hI : Inv w0 s.data.toList R w vpl vlb bh here low pt raw pl) (hlt : here < s.size) (h0 : ¬ s[here].toNat = 0) (h20 : s[here].toNat ≤ 20) (hin : here + s[here].toNat < s.size)
    (hl : w2.ownsRow w0.heap.size 9 1 v2 (raw.length + 1) ((raw.map foldL).map S ++ [.string ⟨(foldL (labAt s.data.toList here s[here].toNat)).toArray⟩]))
    (hp : w2.ownsRow w0.heap.size 3 1 v1 (if pt = none then pl ++ [here] else pl).length ((if pt = none then pl ++ [here] else pl).map I64)) (hb : Below w0.heap.size w0 w2) :
    Inv w0 s.data.toList R w2 v1 v2 bh (here + 1 + s[here].toNat) low pt (raw ++ [labAt s.data.toList here s[here].toNat]) (if pt = none then pl ++ [here] else pl) ∧ ms s.data.toList (here + 1 + s[here].toNat) low < ms s.data.toList here low := by
  have hz : s.data.toList.length = s.size := by simp
  have hg := going_lab hI.going (show here < s.data.toList.length by rw [hz]; exact hlt) h0 h20 (show here + s[here].toNat < s.data.toList.length by rw [hz]; exact hin)
  have hll := labAt_length (l := s.data.toList) (a := here) (c := s[here].toNat) (by rw [hz]; exact hin)
  have hm := hI.much
  have hf := hI.few
  have h2 : ms s.data.toList (here + 1 + s[here].toNat) low + 1 + s[here].toNat ≤ ms s.data.toList here low := hg.2
  refine ⟨⟨hg.1, ?_, hp, hb, by omega, hI.hlow, ?_, ?_, hI.behind, hI.bhle⟩, by omega⟩
  · rw [List.map_append, List.map_append, List.length_append]; exact hl
  · rw [tot_app, List.length_append, hll]; simp only [List.length_cons, List.length_nil]; omega
  · rw [List.length_append]; simp only [List.length_cons, List.length_nil]
    split
    · rw [List.length_append]; simp only [List.length_cons, List.length_nil]; omega
    · omega

/-- Behind a pointer. -/
theorem inv_ptr {w0 w w2 : World} {s : ByteArray} {R : Option (List UInt8 × Nat × List Nat)} {vpl vlb : Value} {bh here low q : Nat} {pt : Option Nat} {raw : List (List UInt8)} {pl : List Nat} (hs : s.size ≤ 65535)
    (hI : Inv w0 s.data.toList R w vpl vlb bh here low pt raw pl) (hlt : here + 1 < s.size) (h192 : 192 ≤ s[here].toNat) (hq : q = (s[here].toNat - 192) * 256 + s[here + 1].toNat) (hql : q < low) (hb : Below w.heap.size w w2) :
    Inv w0 s.data.toList R w2 vpl vlb (pt.getD (here + 2)) q q (some (pt.getD (here + 2))) raw pl ∧ ms s.data.toList q q < ms s.data.toList here low := by
  have hz : s.data.toList.length = s.size := by simp
  have hg := going_ptr hI.going (by rw [hz]; omega) (show here < s.data.toList.length by rw [hz]; omega) h192 (show here + 1 < s.data.toList.length by rw [hz]; exact hlt) hq hql
  have hm := hI.much
  have h1 := hI.hhere
  have h2 := hI.hlow
  have h3 := hI.bhle
  have h4 := hI.behind
  have h5 := hg.2
  have h6 : q * 65537 + (s.data.toList.length - q) ≤ low * 65537 + (s.data.toList.length - here) := by
    rw [hz]; clear hq hg h5 hm h4 h3 hI; omega
  refine ⟨⟨hg.1, own_below hI.labels hb, own_below hI.places hb, hI.below.trans (hb.mono hI.below.size), by clear hq hg h5 hm h6; omega, by clear hq hg h5 hm h6; omega, Nat.le_trans (Nat.add_le_add_left h6 _) hm, hI.few, rfl, ?_⟩, h5⟩
  cases pt with
  | none => show here + 2 ≤ 65537; omega
  | some e => exact (show e ≤ 65537 from (show e = bh from h4) ▸ h3)
theorem inv_ptr_no {w0 w : World} {s : ByteArray} {R : Option (List UInt8 × Nat × List Nat)} {vpl vlb : Value} {bh here low q : Nat} {pt : Option Nat} {raw : List (List UInt8)} {pl : List Nat}
    (hI : Inv w0 s.data.toList R w vpl vlb bh here low pt raw pl) (hlt : here + 1 < s.size) (h192 : 192 ≤ s[here].toNat) (hq : q = (s[here].toNat - 192) * 256 + s[here + 1].toNat) (hql : ¬ q < low) : R = none := by
  have hz : s.data.toList.length = s.size := by simp
  exact going_ptr_no hI.going (show here < s.data.toList.length by rw [hz]; omega) h192 (show here + 1 < s.data.toList.length by rw [hz]; exact hlt) (by rw [hq] at hql; exact hql)
theorem tk_some {w0 w' : World} {R : Option (List UInt8 × Nat × List Nat)} {e : Ending} {nm : List UInt8} {en : Nat} {pl : List Nat} {v : Value} (h : R = some (nm, en, pl)) (he : e = .returned (.tuple #[.string ⟨nm.toArray⟩, v, .int .i64 ((en : Nat) : Int), .bool true]))
    (hp : w'.ownsRow w0.heap.size 3 1 v pl.length (pl.map I64)) (hb : Below w0.heap.size w0 w') : TkRes w0 R e w' := by
  refine ⟨fun h2 => (by rw [h] at h2; cases h2), fun nm2 en2 pl2 h2 => ?_, hb⟩
  rw [h] at h2
  simp only [Option.some.injEq, Prod.mk.injEq] at h2
  obtain ⟨rfl, rfl, rfl⟩ := h2
  exact ⟨v, he, hp⟩
theorem tot_fold : ∀ P : List (List UInt8), tot (P.map foldL) = tot P
  | [] => rfl
  | p :: r => by
    have := tot_fold r
    unfold tot at this ⊢
    rw [List.map_cons, List.map_cons, List.map_cons, List.sum_cons, List.sum_cons, this]; simp [foldL]
/-- At the end: what is told. -/
theorem inv_end {w0 w : World} {s : ByteArray} {R : Option (List UInt8 × Nat × List Nat)} {vpl vlb : Value} {bh here low : Nat} {pt : Option Nat} {raw : List (List UInt8)} {pl : List Nat}
    (hI : Inv w0 s.data.toList R w vpl vlb bh here low pt raw pl) (hlt : here < s.size) (h0 : s[here].toNat = 0) :
    R = nmR (some (raw, pt.getD (here + 1), pl)) ∧ Row w vlb (raw.map foldL) ∧ (raw.map foldL).length + tot (raw.map foldL) ≤ 68719476736 := by
  have hz : s.data.toList.length = s.size := by simp
  refine ⟨going_end hI.going (show here < s.data.toList.length by rw [hz]; exact hlt) h0, row_own (by rw [List.length_map]; exact hI.labels), ?_⟩
  have hm := hI.much
  rw [tot_fold, List.length_map]; omega
theorem ret_four {a b c d a' b' c' d' : Value} (h1 : a = a') (h2 : b = b') (h3 : c = c') (h4 : d = d') : Ending.returned (.tuple #[a, b, c, d]) = .returned (.tuple #[a', b', c', d']) := by rw [h1, h2, h3, h4]

set_option maxRecDepth 20000 in
set_option maxHeartbeats 2000000 in
theorem readName_any (s : ByteArray) (a : Nat) (w : World) (hs : s.size ≤ 65535) (ha : a < s.size) (hE : Env w) :
    Calls Tryz.prog 85 #[.string s, .int .i64 (a : Int)] w fun e w' => TkRes w (takeN s.data.toList a) e w' := by
  have HI0 : Hid (Inv w s.data.toList (takeN s.data.toList a) w (.slice none 0 0) (.slice none 0 0) 0 a a none [] []) := inv_start w s a hs ha
  obtain ⟨i0, hi, hz0, hz1, hz2⟩ := info_parts info_string
  obtain ⟨i1, hi1, hy0, hy1, hy2⟩ := info_parts info_int
  go_enter Tryz.func85, Tryz.ntmps85
  go_wp2_with fail
  refine wp_scope_many (Jmp w s a (takeN s.data.toList a)) ?_ ?_
  · go_wp2_with fail
    go_step3
    go_wp2_with fail
    refine (whatStands_any s a _ (by omega) (by omega)).mono ?_
    rintro e w1 ⟨rfl, rfl⟩
    rcases stands_spec s.data.toList a with ⟨h, hR⟩ | ⟨h, hR⟩ | ⟨h, hR⟩ | ⟨h, hR⟩
    · have HR : Hid (takeN s.data.toList a = none) := hR _ _ _ _ _ HI0.out.going
      clear hR
      rw [h]
      go_wp2_with fail
      rw [jumps_ret]
      (try simp only [Exit.inBlock, Exit.then]); refine bodyPost_ret (results_tmp4 rfl _ _ _) rfl ?_
      exact tk_none HR.out rfl (Below.refl _ _)
    · clear hR
      rw [h]
      go_wp2_with fail
      go_step3
      change ∃ m, Jmp w1 s a (takeN s.data.toList a) m 2 _ _
      exact ⟨_, _, _, _, _, _, 0, a, a, none, [], [], ⟨_, _, _, _, _, _, _, _, _, _, _, _, _, _, _, _, _, _, _, _, _, _, _, _, _, _, _, _, _, _, _, _, _, _, _, _, _, _, _, _, _, _, _, _, _, _, _, _, _, _, _, _, _, _, _, rfl⟩, rfl, rfl, rfl, HI0.out, .inr (.inr (.inr ⟨rfl, rfl, h⟩))⟩
    · clear hR
      rw [h]
      go_wp2_with fail
      go_step3
      change ∃ m, Jmp w1 s a (takeN s.data.toList a) m 0 _ _
      exact ⟨_, _, _, _, _, _, 0, a, a, none, [], [], ⟨_, _, _, _, _, _, _, _, _, _, _, _, _, _, _, _, _, _, _, _, _, _, _, _, _, _, _, _, _, _, _, _, _, _, _, _, _, _, _, _, _, _, _, _, _, _, _, _, _, _, _, _, _, _, _, rfl⟩, rfl, rfl, rfl, HI0.out, .inr (.inl ⟨rfl, rfl, h⟩)⟩
    · clear hR
      rw [h]
      go_wp2_with fail
      go_step3
      change ∃ m, Jmp w1 s a (takeN s.data.toList a) m 1 _ _
      exact ⟨_, _, _, _, _, _, 0, a, a, none, [], [], ⟨_, _, _, _, _, _, _, _, _, _, _, _, _, _, _, _, _, _, _, _, _, _, _, _, _, _, _, _, _, _, _, _, _, _, _, _, _, _, _, _, _, _, _, _, _, _, _, _, _, _, _, _, _, _, _, rfl⟩, rfl, rfl, rfl, HI0.out, .inr (.inr (.inl ⟨rfl, rfl, h⟩))⟩
  · rintro m l act w' ⟨vpl, vlb, vbh, vhere, vlow, bh, here, low, pt, raw, pl, ⟨u12, u13, u14, u15, u16, u17, u18, u19, u20, u21, u22, u23, u24, u25, u26, u27, u28, u29, u30, u31, u32, u33, u34, u35, u36, u37, u38, u39, u40, u41, u42, u43, u44, u45, u46, u47, u48, u49, u50, u51, u52, u53, u54, u55, u56, u57, u58, u59, u60, u61, u62, u63, u64, u65, u66, u67, u68, u69, rfl⟩, rfl, rfl, rfl, hI, ⟨rfl, rfl⟩ | ⟨rfl, rfl, h⟩ | ⟨rfl, rfl, h⟩ | ⟨rfl, rfl, h⟩⟩
    · refine ⟨_, rfl, ?_⟩
      have HI : Hid (Inv w s.data.toList (takeN s.data.toList a) w' vpl vlb bh here low pt raw pl) := hI
      have hh := hI.hhere
      clear hI
      go_wp2_with fail
      refine (whatStands_any s here _ (by omega) (by omega)).mono ?_
      rintro e w1 ⟨rfl, rfl⟩
      rcases stands_spec s.data.toList here with ⟨h, hR⟩ | ⟨h, hR⟩ | ⟨h, hR⟩ | ⟨h, hR⟩
      · have HR : Hid (takeN s.data.toList a = none) := hR _ _ _ _ _ HI.out.going
        clear hR
        rw [h]
        go_wp2_with fail
        rw [jumps_ret]
        (try simp only [Exit.inBlock, Exit.then]); refine bodyPost_ret (results_tmp4 rfl _ _ _) rfl ?_
        exact tk_none HR.out rfl HI.out.below
      · clear hR
        rw [h]
        go_wp2_with fail
        go_step3
        change ∃ m', m' < _ ∧ Jmp w s a (takeN s.data.toList a) m' 2 _ _
        exact ⟨2 * ms s.data.toList here low, by omega, _, _, _, _, _, bh, here, low, pt, raw, pl, ⟨_, _, _, _, _, _, _, _, _, _, _, _, _, _, _, _, _, _, _, _, _, _, _, _, _, _, _, _, _, _, _, _, _, _, _, _, _, _, _, _, _, _, _, _, _, _, _, _, _, _, _, _, _, _, _, rfl⟩, rfl, rfl, rfl, HI.out, .inr (.inr (.inr ⟨rfl, rfl, h⟩))⟩
      · clear hR
        rw [h]
        go_wp2_with fail
        go_step3
        change ∃ m', m' < _ ∧ Jmp w s a (takeN s.data.toList a) m' 0 _ _
        exact ⟨2 * ms s.data.toList here low, by omega, _, _, _, _, _, bh, here, low, pt, raw, pl, ⟨_, _, _, _, _, _, _, _, _, _, _, _, _, _, _, _, _, _, _, _, _, _, _, _, _, _, _, _, _, _, _, _, _, _, _, _, _, _, _, _, _, _, _, _, _, _, _, _, _, _, _, _, _, _, _, rfl⟩, rfl, rfl, rfl, HI.out, .inr (.inl ⟨rfl, rfl, h⟩)⟩
      · clear hR
        rw [h]
        go_wp2_with fail
        go_step3
        change ∃ m', m' < _ ∧ Jmp w s a (takeN s.data.toList a) m' 1 _ _
        exact ⟨2 * ms s.data.toList here low, by omega, _, _, _, _, _, bh, here, low, pt, raw, pl, ⟨_, _, _, _, _, _, _, _, _, _, _, _, _, _, _, _, _, _, _, _, _, _, _, _, _, _, _, _, _, _, _, _, _, _, _, _, _, _, _, _, _, _, _, _, _, _, _, _, _, _, _, _, _, _, _, rfl⟩, rfl, rfl, rfl, HI.out, .inr (.inr (.inl ⟨rfl, rfl, h⟩))⟩
    · refine ⟨_, rfl, ?_⟩
      have HI : Hid (Inv w s.data.toList (takeN s.data.toList a) w' vpl vlb bh here low pt raw pl) := hI
      obtain ⟨hlt, h0, h20, hin⟩ := stands_label h
      have H0 : Hid (¬ s[here].toNat = 0) := h0
      have hlab := hI.labels
      have hpl := hI.places
      have hb := hI.below
      have hmu := hI.much
      have hfew := hI.few
      have hbz := hb.size
      have hsa : (s[here].toNat : Int) ≤ 20 := by omega
      clear hI h h0
      cases pt with
      | none =>
        have hown1 := hpl.alloc (.cells #[.int .i64 (here : Int)] 3)
        go_wp2_with (first | (at_builtin; refine wpList_append_own _ rfl (.tmp 25) (.tmp 27) 81 rfl w.heap.size 3 i1 (.int .i64 0) 1 8 Tryz.underlying81 hi1 hy0 hy1 hy2 rfl (by decide) _ _ _ rfl hown1 ⟨w'.heap.size, 0, none⟩ 1 1 [.int .i64 (here : Int)] rfl rfl ?d1 ?d2 ?d3 ?d4 ?d5 ?_))
        case d1 => exact cell_new_one _ _ _
        case d2 => exact one_int _
        case d3 => unfold maxLen; omega
        case d4 => omega
        case d5 => simp; omega
        intro v1 w1 hown' hgrow _
        have hb1 := below_grown1 hb hpl hgrow
        have hlab1 := own_other (by decide) hown1 (hlab.alloc _) hgrow
        have hpl1 : w1.ownsRow w.heap.size 3 1 v1 (pl ++ [here]).length ((pl ++ [here]).map I64) := by
          rw [List.map_append, List.length_append]; exact hown'
        have HPL1 : Hid (w1.ownsRow w.heap.size 3 1 v1 (pl ++ [here]).length ((pl ++ [here]).map I64)) := hpl1
        have HLAB1 : Hid (w1.ownsRow w.heap.size 9 1 vlb raw.length ((raw.map foldL).map S)) := hlab1
        have hE1 := hE.below hb1
        clear hown' hgrow hown1 hpl hlab hpl1 hlab1
        go_wp2_with fail
        refine (labelAt_any s here _ (by omega) hlt hin hE1).mono ?_
        rintro e w2 ⟨rfl, hb2⟩
        have hb02 := hb1.trans (hb2.mono hb1.size)
        have hb02z := hb02.size
        have hlab2 := own_below HLAB1.out hb2
        have hpl2 := own_below HPL1.out hb2
        obtain ⟨y, hy⟩ : ∃ y, y = foldL (labAt s.data.toList here s[here].toNat) := ⟨_, rfl⟩
        rw [← hy]
        have HY : Hid (y = foldL (labAt s.data.toList here s[here].toNat)) := hy
        have hown2 := hlab2.alloc (.cells #[.string ⟨y.toArray⟩] 9)
        clear hy
        go_wp2_with (first | (at_builtin; refine wpList_append_own _ rfl (.tmp 29) (.tmp 33) 46 rfl w.heap.size 9 i0 (.string ByteArray.empty) 1 16 Tryz.underlying46 hi hz0 hz1 hz2 rfl (by decide) _ _ _ rfl hown2 ⟨w2.heap.size, 0, none⟩ 1 1 [.string ⟨y.toArray⟩] rfl rfl ?e1 ?e2 ?e3 ?e4 ?e5 ?_))
        case e1 => exact cell_new_one _ _ _
        case e2 => exact one_string _
        case e3 => unfold maxLen; omega
        case e4 => omega
        case e5 => simp; omega
        intro v3 w3 hown3 hgrow3 _
        have hb3 := below_grown1 hb02 hlab2 hgrow3
        have hpl3 := own_other (by decide) hown2 (hpl2.alloc _) hgrow3
        rw [HY.out, ← List.map_map] at hown3
        have HNX := inv_lab hs HI.out hlt H0.out h20 hin hown3 hpl3 hb3
        have HNH : Hid (Inv w s.data.toList (takeN s.data.toList a) w3 v1 v3 bh (here + 1 + s[here].toNat) low none (raw ++ [labAt s.data.toList here s[here].toNat]) (pl ++ [here]) ∧ ms s.data.toList (here + 1 + s[here].toNat) low < ms s.data.toList here low) := HNX
        clear hown3 hgrow3 hown2 hlab2 hpl2 hpl3 HNX
        go_wp2_with fail
        go_step3
        change ∃ m', m' < _ ∧ Jmp w s a (takeN s.data.toList a) m' 3 _ _
        have hlm := HNH.out.2
        exact ⟨2 * ms s.data.toList (here + 1 + s[here].toNat) low + 1, by omega, _, _, _, _, _, bh, here + 1 + s[here].toNat, low, none, _, _, ⟨_, _, _, _, _, _, _, _, _, _, _, _, _, _, _, _, _, _, _, _, _, _, _, _, _, _, _, _, _, _, _, _, _, _, _, _, _, _, _, _, _, _, _, _, _, _, _, _, _, _, _, _, _, _, _, rfl⟩, rfl, by go_num, rfl, HNH.out.1, .inl ⟨rfl, rfl⟩⟩
      | some e0 =>
        go_wp2_with fail
        have hE1 := hE.below hb
        refine (labelAt_any s here _ (by omega) hlt hin hE1).mono ?_
        rintro e w2 ⟨rfl, hb2⟩
        have hb02 := hb.trans (hb2.mono hb.size)
        have hb02z := hb02.size
        have hlab2 := own_below hlab hb2
        have hpl2 := own_below hpl hb2
        obtain ⟨y, hy⟩ : ∃ y, y = foldL (labAt s.data.toList here s[here].toNat) := ⟨_, rfl⟩
        rw [← hy]
        have HY : Hid (y = foldL (labAt s.data.toList here s[here].toNat)) := hy
        have hown2 := hlab2.alloc (.cells #[.string ⟨y.toArray⟩] 9)
        clear hy hpl hlab
        go_wp2_with (first | (at_builtin; refine wpList_append_own _ rfl (.tmp 29) (.tmp 33) 46 rfl w.heap.size 9 i0 (.string ByteArray.empty) 1 16 Tryz.underlying46 hi hz0 hz1 hz2 rfl (by decide) _ _ _ rfl hown2 ⟨w2.heap.size, 0, none⟩ 1 1 [.string ⟨y.toArray⟩] rfl rfl ?e1 ?e2 ?e3 ?e4 ?e5 ?_))
        case e1 => exact cell_new_one _ _ _
        case e2 => exact one_string _
        case e3 => unfold maxLen; omega
        case e4 => omega
        case e5 => simp; omega
        intro v3 w3 hown3 hgrow3 _
        have hb3 := below_grown1 hb02 hlab2 hgrow3
        have hpl3 := own_other (by decide) hown2 (hpl2.alloc _) hgrow3
        rw [HY.out, ← List.map_map] at hown3
        have HNX := inv_lab hs HI.out hlt H0.out h20 hin hown3 hpl3 hb3
        have HNH : Hid (Inv w s.data.toList (takeN s.data.toList a) w3 vpl v3 bh (here + 1 + s[here].toNat) low (some e0) (raw ++ [labAt s.data.toList here s[here].toNat]) pl ∧ ms s.data.toList (here + 1 + s[here].toNat) low < ms s.data.toList here low) := HNX
        clear hown3 hgrow3 hown2 hlab2 hpl2 hpl3 HNX
        go_wp2_with fail
        go_step3
        change ∃ m', m' < _ ∧ Jmp w s a (takeN s.data.toList a) m' 3 _ _
        have hlm := HNH.out.2
        exact ⟨2 * ms s.data.toList (here + 1 + s[here].toNat) low + 1, by omega, _, _, _, _, _, bh, here + 1 + s[here].toNat, low, some e0, _, _, ⟨_, _, _, _, _, _, _, _, _, _, _, _, _, _, _, _, _, _, _, _, _, _, _, _, _, _, _, _, _, _, _, _, _, _, _, _, _, _, _, _, _, _, _, _, _, _, _, _, _, _, _, _, _, _, _, rfl⟩, rfl, by go_num, rfl, HNH.out.1, .inl ⟨rfl, rfl⟩⟩
    · refine ⟨_, rfl, ?_⟩
      have HI : Hid (Inv w s.data.toList (takeN s.data.toList a) w' vpl vlb bh here low pt raw pl) := hI
      obtain ⟨hlt, h192⟩ := stands_pointer h
      have hhere := hI.hhere
      have hlow := hI.hlow
      clear hI h
      have h255 : s[here].toNat < 256 := s[here].toNat_lt
      have h255' : s[here + 1].toNat < 256 := s[here + 1].toNat_lt
      obtain ⟨q, hq⟩ : ∃ q, q = (s[here].toNat - 192) * 256 + s[here + 1].toNat := ⟨_, rfl⟩
      have HQ : Hid (q = (s[here].toNat - 192) * 256 + s[here + 1].toNat) := hq
      have hqb : q ≤ 65536 := by omega
      by_cases hql : q < low
      · have HNX : Hid (∀ w2, Below w'.heap.size w' w2 → Inv w s.data.toList (takeN s.data.toList a) w2 vpl vlb (pt.getD (here + 2)) q q (some (pt.getD (here + 2))) raw pl ∧ ms s.data.toList q q < ms s.data.toList here low) := fun w2 hb => inv_ptr hs HI.out hlt h192 hq hql hb
        have HBH : Hid (pt.getD 0 = bh) := HI.out.behind
        cases pt with
        | none =>
          go_wp2_with fail
          refine (pointerAt_any s here _ (by omega) hlt h192).mono ?_
          rintro e w2 ⟨rfl, hb2⟩
          rw [← HQ.out]
          have hnx := HNX.out w2 hb2
          have HNH : Hid (Inv w s.data.toList (takeN s.data.toList a) w2 vpl vlb (here + 2) q q (some (here + 2)) raw pl ∧ ms s.data.toList q q < ms s.data.toList here low) := hnx
          clear hq hnx h255 h255'
          go_wp2_with fail
          go_step3
          change ∃ m', m' < _ ∧ Jmp w s a (takeN s.data.toList a) m' 3 _ _
          have hlm := HNH.out.2
          exact ⟨2 * ms s.data.toList q q + 1, by omega, _, _, _, _, _, here + 2, q, q, some (here + 2), _, _, ⟨_, _, _, _, _, _, _, _, _, _, _, _, _, _, _, _, _, _, _, _, _, _, _, _, _, _, _, _, _, _, _, _, _, _, _, _, _, _, _, _, _, _, _, _, _, _, _, _, _, _, _, _, _, _, _, rfl⟩, by go_num, rfl, rfl, HNH.out.1, .inl ⟨rfl, rfl⟩⟩
        | some e0 =>
          obtain rfl : e0 = bh := HBH.out
          go_wp2_with fail
          refine (pointerAt_any s here _ (by omega) hlt h192).mono ?_
          rintro e w2 ⟨rfl, hb2⟩
          rw [← HQ.out]
          have hnx := HNX.out w2 hb2
          have HNH : Hid (Inv w s.data.toList (takeN s.data.toList a) w2 vpl vlb e0 q q (some e0) raw pl ∧ ms s.data.toList q q < ms s.data.toList here low) := hnx
          clear hq hnx h255 h255'
          go_wp2_with fail
          go_step3
          change ∃ m', m' < _ ∧ Jmp w s a (takeN s.data.toList a) m' 3 _ _
          have hlm := HNH.out.2
          exact ⟨2 * ms s.data.toList q q + 1, by omega, _, _, _, _, _, e0, q, q, some e0, _, _, ⟨_, _, _, _, _, _, _, _, _, _, _, _, _, _, _, _, _, _, _, _, _, _, _, _, _, _, _, _, _, _, _, _, _, _, _, _, _, _, _, _, _, _, _, _, _, _, _, _, _, _, _, _, _, _, _, rfl⟩, rfl, rfl, rfl, HNH.out.1, .inl ⟨rfl, rfl⟩⟩
      · have HR : Hid (takeN s.data.toList a = none) := inv_ptr_no HI.out hlt h192 hq hql
        cases pt with
        | none =>
          go_wp2_with fail
          refine (pointerAt_any s here _ (by omega) hlt h192).mono ?_
          rintro e w2 ⟨rfl, hb2⟩
          rw [← HQ.out]
          clear hq h255 h255'
          go_wp2_with fail
          rw [jumps_ret]
          (try simp only [Exit.inBlock, Exit.then]); refine bodyPost_ret (results_tmp4 rfl _ _ _) rfl ?_
          exact tk_none HR.out rfl (HI.out.below.trans (hb2.mono HI.out.below.size))
        | some e0 =>
          go_wp2_with fail
          refine (pointerAt_any s here _ (by omega) hlt h192).mono ?_
          rintro e w2 ⟨rfl, hb2⟩
          rw [← HQ.out]
          clear hq h255 h255'
          go_wp2_with fail
          rw [jumps_ret]
          (try simp only [Exit.inBlock, Exit.then]); refine bodyPost_ret (results_tmp4 rfl _ _ _) rfl ?_
          exact tk_none HR.out rfl (HI.out.below.trans (hb2.mono HI.out.below.size))
    · refine ⟨_, rfl, ?_⟩
      have HI : Hid (Inv w s.data.toList (takeN s.data.toList a) w' vpl vlb bh here low pt raw pl) := hI
      obtain ⟨hlt, h0⟩ := stands_end h
      have hhere := hI.hhere
      obtain ⟨hR, hrow, hsz⟩ := inv_end hI hlt h0
      have HSZ : Hid ((raw.map foldL).length + tot (raw.map foldL) ≤ 68719476736) := hsz
      have HROW : Hid (Row w' vlb (raw.map foldL)) := hrow
      have hEw := hE.below hI.below
      have HBH : Hid (pt.getD 0 = bh) := hI.behind
      clear hI h hrow hsz h0
      cases hN : nameOfB (raw.map foldL) with
      | false =>
        have HR : Hid (takeN s.data.toList a = none) := hR.trans (if_neg (by rw [hN]; simp))
        have HT : Hid (nameOfT (raw.map foldL) = [] ∧ nameOfB (raw.map foldL) = false) := ⟨by unfold nameOfT; rw [if_neg (by rw [hN]; simp)], hN⟩
        clear hR hN
        cases pt with
        | none =>
          go_wp2_with fail
          refine (iNameOf_any _ (raw.map foldL) _ HROW.out HSZ hEw).mono ?_
          rintro e w2 ⟨rfl, hb2⟩
          rw [HT.out.1, HT.out.2]
          go_wp2_with fail
          rw [jumps_ret]
          (try simp only [Exit.inBlock, Exit.then]); refine bodyPost_ret (results_tmp4 rfl _ _ _) rfl ?_
          exact tk_none HR.out rfl (HI.out.below.trans (hb2.mono HI.out.below.size))
        | some e0 =>
          go_wp2_with fail
          refine (iNameOf_any _ (raw.map foldL) _ HROW.out HSZ hEw).mono ?_
          rintro e w2 ⟨rfl, hb2⟩
          rw [HT.out.1, HT.out.2]
          go_wp2_with fail
          rw [jumps_ret]
          (try simp only [Exit.inBlock, Exit.then]); refine bodyPost_ret (results_tmp4 rfl _ _ _) rfl ?_
          exact tk_none HR.out rfl (HI.out.below.trans (hb2.mono HI.out.below.size))
      | true =>
        have HR : Hid (takeN s.data.toList a = some (joinD (raw.map foldL), pt.getD (here + 1), pl)) := hR.trans (if_pos hN)
        have HT : Hid (nameOfT (raw.map foldL) = joinD (raw.map foldL) ∧ nameOfB (raw.map foldL) = true) := ⟨by unfold nameOfT; rw [if_pos hN], hN⟩
        clear hR hN
        cases pt with
        | none =>
          go_wp2_with fail
          refine (iNameOf_any _ (raw.map foldL) _ HROW.out HSZ hEw).mono ?_
          rintro e w2 ⟨rfl, hb2⟩
          rw [HT.out.1, HT.out.2]
          go_wp2_with fail
          rw [jumps_ret]
          (try simp only [Exit.inBlock, Exit.then]); refine bodyPost_ret (results_tmp4 rfl _ _ _) rfl ?_
          exact tk_some HR.out (ret_four rfl rfl (by show Value.int .i64 _ = .int .i64 ((here + 1 : Nat) : Int); go_num) rfl) (own_below HI.out.places hb2) (HI.out.below.trans (hb2.mono HI.out.below.size))
        | some e0 =>
          obtain rfl : e0 = bh := HBH.out
          go_wp2_with fail
          refine (iNameOf_any _ (raw.map foldL) _ HROW.out HSZ hEw).mono ?_
          rintro e w2 ⟨rfl, hb2⟩
          rw [HT.out.1, HT.out.2]
          go_wp2_with fail
          rw [jumps_ret]
          (try simp only [Exit.inBlock, Exit.then]); refine bodyPost_ret (results_tmp4 rfl _ _ _) rfl ?_
          exact tk_some HR.out rfl (own_below HI.out.places hb2) (HI.out.below.trans (hb2.mono HI.out.below.size))
end Go.Proofs.YtdmellmmhipncaaGreatDoor

namespace Go.Proofs.YtdmellmmhipncaaGreatDoor
open Go.RowKit

def endI : Option Nat → Int
  | none => -1
  | some e => (e : Int)

/-- The state of the specification's reading. -/
structure InvS (w0 : World) (l : List UInt8) (R : Option (List UInt8 × Nat × List Nat)) (w : World) (vpl vlb : Value) (here low : Nat) (pt : Option Nat) (raw : List (List UInt8)) (pl : List Nat) : Prop where
  going : Going l R here low pt raw pl
  labels : w.ownsRow w0.heap.size 9 1 vlb raw.length (raw.map S)
  places : w.ownsRow w0.heap.size 3 1 vpl pl.length (pl.map I64)
  below : Below w0.heap.size w0 w
  hhere : here ≤ 4000
  hlow : low ≤ 4000
  nine : raw.length ≤ 9
  few : pl.length ≤ raw.length
  plain : Plain raw
  small : ∀ p ∈ raw, p.length ≤ 20
  bhle : endI pt ≤ 4002 ∧ -1 ≤ endI pt

/-- What l2Take tells. -/
def TkSpec (w0 : World) (R : Option (List UInt8 × Nat × List Nat)) (e : Ending) (w' : World) : Prop :=
  (R = none → ∃ (x : ByteArray) (n : Int) (v : Value), e = .returned (.tuple #[.string x, .int .i64 n, v, .bool false])) ∧
  (∀ nm en pl, R = some (nm, en, pl) → ∃ v, e = .returned (.tuple #[.string ⟨nm.toArray⟩, .int .i64 ((en : Nat) : Int), v, .bool true]) ∧ w'.ownsRow w0.heap.size 3 1 v pl.length (pl.map I64)) ∧ Below w0.heap.size w0 w'
theorem tks_none {w0 w' : World} {R : Option (List UInt8 × Nat × List Nat)} {e : Ending} {x : ByteArray} {n : Int} {v : Value} (h : R = none) (he : e = .returned (.tuple #[.string x, .int .i64 n, v, .bool false])) (hb : Below w0.heap.size w0 w') : TkSpec w0 R e w' :=
  ⟨fun _ => ⟨x, n, v, he⟩, fun _ _ _ h2 => (by rw [h] at h2; cases h2), hb⟩
theorem tks_some {w0 w' : World} {R : Option (List UInt8 × Nat × List Nat)} {e : Ending} {nm : List UInt8} {en : Nat} {pl : List Nat} {v : Value} (h : R = some (nm, en, pl)) (he : e = .returned (.tuple #[.string ⟨nm.toArray⟩, .int .i64 ((en : Nat) : Int), v, .bool true]))
    (hp : w'.ownsRow w0.heap.size 3 1 v pl.length (pl.map I64)) (hb : Below w0.heap.size w0 w') : TkSpec w0 R e w' := by
  refine ⟨fun h2 => (by rw [h] at h2; cases h2), fun nm2 en2 pl2 h2 => ?_, hb⟩
  rw [h] at h2
  simp only [Option.some.injEq, Prod.mk.injEq] at h2
  obtain ⟨rfl, rfl, rfl⟩ := h2
  exact ⟨v, he, hp⟩

theorem invs_start (w : World) (s : ByteArray) (a : Nat) (hs : s.size ≤ 4000) (ha : a < s.size) : InvS w s.data.toList (takeN s.data.toList a) w (.slice none 0 0) (.slice none 0 0) a a none [] [] where
  going := going_start _ _ (by
    have hz : s.data.toList.length = s.size := by simp
    omega)
  labels := World.ownsRow_nil _ _ _ _
  places := World.ownsRow_nil _ _ _ _
  below := Below.refl _ _
  hhere := by omega
  hlow := by omega
  nine := by simp
  few := Nat.le_refl _
  plain := fun p hp => by cases hp
  small := fun p hp => by cases hp
  bhle := by simp [endI]

section
variable {w0 w w2 : World} {s : ByteArray} {R : Option (List UInt8 × Nat × List Nat)} {vpl vlb v1 v2 : Value} {here low q : Nat} {pt : Option Nat} {raw : List (List UInt8)} {pl : List Nat}
theorem data_len (s : ByteArray) : s.data.toList.length = s.size := by simp
theorem invs_out (hI : InvS w0 s.data.toList R w vpl vlb here low pt raw pl) (h : ¬ here < s.size) : R = none := going_out hI.going (by rw [data_len]; exact h)
theorem invs_ptr_out (hI : InvS w0 s.data.toList R w vpl vlb here low pt raw pl) (h : here < s.size) (h1 : 192 ≤ s[here].toNat) (h2 : ¬ here + 1 < s.size) : R = none :=
  going_ptr_out hI.going (show here < s.data.toList.length by rw [data_len]; exact h) h1 (by rw [data_len]; exact h2)
theorem invs_ptr_no (hI : InvS w0 s.data.toList R w vpl vlb here low pt raw pl) (h2 : here + 1 < s.size) (h1 : 192 ≤ s[here].toNat) (hq : q = (s[here].toNat - 192) * 256 + s[here + 1].toNat) (h3 : ¬ q < low) : R = none :=
  going_ptr_no hI.going (show here < s.data.toList.length by rw [data_len]; omega) h1 (show here + 1 < s.data.toList.length by rw [data_len]; exact h2) (by rw [hq] at h3; exact h3)
theorem invs_ptr (hs : s.size ≤ 4000) (hI : InvS w0 s.data.toList R w vpl vlb here low pt raw pl) (h2 : here + 1 < s.size) (h1 : 192 ≤ s[here].toNat) (hq : q = (s[here].toNat - 192) * 256 + s[here + 1].toNat) (h3 : q < low) :
    InvS w0 s.data.toList R w vpl vlb q q (some (pt.getD (here + 2))) raw pl ∧ ms s.data.toList q q < ms s.data.toList here low := by
  have hg := going_ptr hI.going (by rw [data_len]; omega) (show here < s.data.toList.length by rw [data_len]; omega) h1 (show here + 1 < s.data.toList.length by rw [data_len]; exact h2) hq h3
  have hl := hI.hlow
  have hb := hI.bhle
  refine ⟨⟨hg.1, hI.labels, hI.places, hI.below, by omega, by omega, hI.nine, hI.few, hI.plain, hI.small, ?_⟩, hg.2⟩
  cases pt with
  | none => simp [endI]; omega
  | some e => exact hb
theorem invs_mid (hI : InvS w0 s.data.toList R w vpl vlb here low pt raw pl) (h : here < s.size) (h1 : ¬ s[here].toNat ≤ 20) (h2 : ¬ 192 ≤ s[here].toNat) : R = none :=
  going_mid hI.going (show here < s.data.toList.length by rw [data_len]; exact h) h1 h2
theorem invs_lab_out (hI : InvS w0 s.data.toList R w vpl vlb here low pt raw pl) (h : here < s.size) (h0 : ¬ s[here].toNat = 0) (h1 : s[here].toNat ≤ 20) (h2 : ¬ here + s[here].toNat < s.size) : R = none :=
  going_lab_out hI.going (show here < s.data.toList.length by rw [data_len]; exact h) h0 h1 (show ¬ here + s[here].toNat < s.data.toList.length by rw [data_len]; exact h2)
theorem invs_dot (hI : InvS w0 s.data.toList R w vpl vlb here low pt raw pl) (h : here < s.size) (h0 : ¬ s[here].toNat = 0) (h1 : s[here].toNat ≤ 20) (h2 : here + s[here].toNat < s.size) (hd : 46 ∈ labAt s.data.toList here s[here].toNat) : R = none := by
  have hg := going_lab hI.going (show here < s.data.toList.length by rw [data_len]; exact h) h0 h1 (show here + s[here].toNat < s.data.toList.length by rw [data_len]; exact h2)
  obtain ⟨n, hn, hr⟩ := hg.1
  rw [← hr]
  exact nmR_dot (List.mem_append.2 (.inr (List.mem_singleton.2 rfl))) hd
theorem invs_end (hI : InvS w0 s.data.toList R w vpl vlb here low pt raw pl) (h : here < s.size) (h0 : s[here].toNat = 0) : R = nmR (some (raw, pt.getD (here + 1), pl)) :=
  going_end hI.going (show here < s.data.toList.length by rw [data_len]; exact h) h0
theorem invs_lab (hs : s.size ≤ 4000) (hI : InvS w0 s.data.toList R w vpl vlb here low pt raw pl) (h8 : raw.length ≤ 8) (hlt : here < s.size) (h0 : ¬ s[here].toNat = 0) (h20 : s[here].toNat ≤ 20) (hin : here + s[here].toNat < s.size) (hd : 46 ∉ labAt s.data.toList here s[here].toNat)
    (hl : w2.ownsRow w0.heap.size 9 1 v2 (raw.length + 1) (raw.map S ++ [S (labAt s.data.toList here s[here].toNat)]))
    (hp : w2.ownsRow w0.heap.size 3 1 v1 (if pt = none then pl ++ [here] else pl).length ((if pt = none then pl ++ [here] else pl).map I64)) (hb : Below w0.heap.size w0 w2) :
    InvS w0 s.data.toList R w2 v1 v2 (here + 1 + s[here].toNat) low pt (raw ++ [labAt s.data.toList here s[here].toNat]) (if pt = none then pl ++ [here] else pl) ∧ ms s.data.toList (here + 1 + s[here].toNat) low < ms s.data.toList here low := by
  have hg := going_lab hI.going (show here < s.data.toList.length by rw [data_len]; exact hlt) h0 h20 (show here + s[here].toNat < s.data.toList.length by rw [data_len]; exact hin)
  have hll := labAt_length (l := s.data.toList) (a := here) (c := s[here].toNat) (by rw [data_len]; exact hin)
  have hf := hI.few
  have h2 : ms s.data.toList (here + 1 + s[here].toNat) low + 1 + s[here].toNat ≤ ms s.data.toList here low := hg.2
  refine ⟨⟨hg.1, ?_, hp, hb, by omega, hI.hlow, ?_, ?_, ?_, ?_, hI.bhle⟩, by omega⟩
  · rw [List.map_append, List.length_append]; exact hl
  · rw [List.length_append]; simp only [List.length_cons, List.length_nil]; omega
  · rw [List.length_append]; simp only [List.length_cons, List.length_nil]
    split
    · rw [List.length_append]; simp only [List.length_cons, List.length_nil]; omega
    · omega
  · intro p hp
    rcases List.mem_append.1 hp with hp | hp
    · exact hI.plain p hp
    · rw [List.mem_singleton] at hp
      subst hp
      refine ⟨fun e => ?_, hd⟩
      have := congrArg List.length e
      rw [hll, List.length_nil] at this
      exact h0 this
  · intro p hp
    rcases List.mem_append.1 hp with hp | hp
    · exact hI.small p hp
    · rw [List.mem_singleton] at hp
      subst hp
      rw [hll]; exact h20
end
end Go.Proofs.YtdmellmmhipncaaGreatDoor

namespace Go.Proofs.YtdmellmmhipncaaGreatDoor
open Go.RowKit

theorem lab_extract (s : ByteArray) (a : Nat) (c : Nat) : s.extract (a + 1) (a + 1 + c) = ⟨(labAt s.data.toList a c).toArray⟩ := by
  apply data_eq
  unfold labAt; rw [Lib.extract_data, List.drop_take]

theorem joinD_nine {P : List (List UInt8)} (h : ∀ p ∈ P, p.length ≤ 20) (h9 : P.length ≤ 9) : (joinD P).length ≤ 1048576 := by
  have h1 := joinD_tot P
  have h2 : ∀ Q : List (List UInt8), (∀ p ∈ Q, p.length ≤ 20) → tot Q ≤ 20 * Q.length := by
    intro Q
    induction Q with
    | nil => intro _; simp [tot]
    | cons q r ih =>
      intro hq
      have a1 := hq q (by simp)
      have a2 := ih (fun p hp => hq p (by simp [hp]))
      have a3 : tot (q :: r) = q.length + tot r := by simp [tot]
      rw [a3]; simp; omega
  have := h2 P h
  omega
theorem dot_mem {x : ByteArray} {l : List UInt8} {k : Nat} (hx : x = ⟨l.toArray⟩) (hk : k < x.size) (hd : x[k] = 46) : 46 ∈ l := by
  subst hx
  rw [← hd]
  exact List.getElem_mem (l := l) (by simpa [size_list] using hk)
theorem no_dot {x : ByteArray} {l : List UInt8} (hx : x = ⟨l.toArray⟩) (h : ∀ j, (hj : j < x.size) → x[j] ≠ 46) : 46 ∉ l := by
  subst hx
  intro hm
  obtain ⟨j, hj, e⟩ := List.mem_iff_getElem.1 hm
  exact h j (by simpa [size_list] using hj) e

theorem index_next (s : ByteArray) (a : Nat) (w : World) (h : a + 1 < s.size) : Sem.run Tryz.prog (Instr.index 9 (.string s) (.int .i64 ((a : Int) + 1))) w = .ok (.int .u8 (s[a + 1].toNat : Int)) w := by
  rw [run_index_string _ _ _ _ _ Tryz.underlying9, dif_pos ⟨by omega, by omega⟩]
  have e : ((a : Int) + 1).toNat = a + 1 := by omega
  simp only [e]

set_option maxRecDepth 100000 in
set_option maxHeartbeats 4000000 in
theorem l2Take_in (s : ByteArray) (a : Nat) (w : World) (hs : s.size ≤ 4000) (ha : a < s.size) :
    Calls Tryz.prog 64 #[.string s, .int .i64 (a : Int)] w fun e w' => TkSpec w (takeN s.data.toList a) e w' := by
  have HI0 : Hid (InvS w s.data.toList (takeN s.data.toList a) w (.slice none 0 0) (.slice none 0 0) a a none [] []) := invs_start w s a hs ha
  obtain ⟨i0, hi, hz0, hz1, hz2⟩ := info_parts info_string
  obtain ⟨i1, hi1, hy0, hy1, hy2⟩ := info_parts info_int
  go_enter Tryz.func64, Tryz.ntmps64
  go_wp2_with fail
  go_loopw [1, 8, 9, 10, 11] (fun va vlb vpl vlo ve wr => ∃ (here low : Nat) (pt : Option Nat) (raw : List (List UInt8)) (pl : List Nat), va = .int .i64 (here : Int) ∧ vlo = .int .i64 (low : Int) ∧ ve = .int .i64 (endI pt) ∧ Hid (InvS w s.data.toList (takeN s.data.toList a) wr vpl vlb here low pt raw pl)) (fun va _ _ vlo _ _ => ms s.data.toList (intOf va).toNat (intOf vlo).toNat)
  case atStart => exact ⟨a, a, none, [], [], rfl, rfl, rfl, HI0⟩
  case round =>
    obtain ⟨here, low, pt, raw, pl, rfl, rfl, rfl, HI⟩ := hrel
    have hhere := HI.out.hhere
    have hlow := HI.out.hlow
    have hnine := HI.out.nine
    have hfew := HI.out.few
    have hb := HI.out.below
    have hbz := hb.size
    have hen := HI.out.bhle
    obtain ⟨al, cl, hvl, hcl, hml⟩ := own_slice HI.out.labels
    subst hvl
    by_cases h8 : raw.length ≤ 8
    · by_cases hlt : here < s.size
      · have h255 : s[here].toNat < 256 := s[here].toNat_lt
        have hsa : (s[here].toNat : Int) ≤ 255 := by omega
        by_cases h192 : 192 ≤ s[here].toNat
        · have g192 : (192 : Int) ≤ (s[here].toNat : Int) := by omega
          by_cases hlt1 : here + 1 < s.size
          · have h255' : s[here + 1].toNat < 256 := s[here + 1].toNat_lt
            obtain ⟨q, hq⟩ : ∃ q, q = (s[here].toNat - 192) * 256 + s[here + 1].toNat := ⟨_, rfl⟩
            have hqi : ((s[here].toNat : Int) - 192) * 256 + (s[here + 1].toNat : Int) = (q : Int) := by omega
            have hsb : (s[here + 1].toNat : Int) ≤ 255 := by omega
            by_cases hql : q < low
            · have HNX : Hid (InvS w s.data.toList (takeN s.data.toList a) wr _ (.slice al raw.length cl) q q (some (pt.getD (here + 2))) raw pl ∧ ms s.data.toList q q < ms s.data.toList here low) := invs_ptr hs HI.out hlt1 h192 hq hql
              have gq : ((s[here].toNat : Int) - 192) * 256 + (s[here + 1].toNat : Int) < (low : Int) := by omega
              have HQ : Hid (((s[here].toNat : Int) - 192) * 256 + (s[here + 1].toNat : Int) = (q : Int)) := hqi
              have hix : Sem.run Tryz.prog (Instr.index 9 (.string s) (.int .i64 ((here : Int) + 1))) wr = .ok (.int .u8 (s[here + 1].toNat : Int)) wr := index_next s here wr hlt1
              clear hq h192 hqi
              cases pt with
              | none =>
                have he : decide (endI none < 0) = true := by decide
                go_wp2_with fail
                go_roundw
                case rel => exact ⟨q, q, some (here + 2), raw, pl, congrArg (Value.int .i64) HQ.out, congrArg (Value.int .i64) HQ.out, by unfold endI; go_num, HNX.out.1⟩
                case measure => rw [HQ.out]; simpa [intOf] using HNX.out.2
              | some e0 =>
                have he : decide (endI (some e0) < 0) = false := by unfold endI; simp
                go_wp2_with fail
                go_roundw
                case rel => exact ⟨q, q, some e0, raw, pl, congrArg (Value.int .i64) HQ.out, congrArg (Value.int .i64) HQ.out, rfl, HNX.out.1⟩
                case measure => rw [HQ.out]; simpa [intOf] using HNX.out.2
            · have HR : Hid (takeN s.data.toList a = none) := invs_ptr_no HI.out hlt1 h192 hq hql
              have gq : (low : Int) ≤ ((s[here].toNat : Int) - 192) * 256 + (s[here + 1].toNat : Int) := by omega
              have hix : Sem.run Tryz.prog (Instr.index 9 (.string s) (.int .i64 ((here : Int) + 1))) wr = .ok (.int .u8 (s[here + 1].toNat : Int)) wr := index_next s here wr hlt1
              clear hq h192 hqi
              cases pt with
              | none =>
                have he : decide (endI none < 0) = true := by decide
                go_wp2_with fail
                (try simp only [Exit.inBlock, Exit.then]); refine bodyPost_ret (results_tmp4 rfl _ _ _) rfl ?_
                exact tks_none HR.out rfl HI.out.below
              | some e0 =>
                have he : decide (endI (some e0) < 0) = false := by unfold endI; simp
                go_wp2_with fail
                (try simp only [Exit.inBlock, Exit.then]); refine bodyPost_ret (results_tmp4 rfl _ _ _) rfl ?_
                exact tks_none HR.out rfl HI.out.below
          · have HR : Hid (takeN s.data.toList a = none) := invs_ptr_out HI.out hlt h192 hlt1
            have g1 : (s.size : Int) ≤ (here : Int) + 1 := by omega
            clear h192
            go_wp2_with fail
            (try simp only [Exit.inBlock, Exit.then]); refine bodyPost_ret (results_tmp4 rfl _ _ _) rfl ?_
            exact tks_none HR.out rfl HI.out.below
        · have g192 : (s[here].toNat : Int) < 192 := by omega
          by_cases h0 : s[here].toNat = 0
          · have e0 : ((s[here].toNat : Int) == 0) = true := by rw [h0]; rfl
            have HEND0 : Hid (takeN s.data.toList a = nmR (some (raw, pt.getD (here + 1), pl))) := invs_end HI.out hlt h0
            have HROW : Hid (Row wr (.slice al raw.length cl) raw) := row_own HI.out.labels
            have HJL : Hid ((joinD raw).length ≤ 1048576) := joinD_nine HI.out.small hnine
            have hjs : (⟨(joinD raw).toArray⟩ : ByteArray).size ≤ 4294967280 := by rw [size_list]; have := HJL.out; omega
            have HF : Hid (foldT (joinD raw) = (if nameOfB (raw.map foldL) = true then joinD (raw.map foldL) else []) ∧ foldB (joinD raw) = nameOfB (raw.map foldL)) := ⟨fold_text HI.out.plain, fold_name HI.out.plain⟩
            clear h0 h192
            cases pt with
            | none =>
              have HEND : Hid (takeN s.data.toList a = nmR (some (raw, here + 1, pl))) := HEND0
              have he : decide (endI none < 0) = true := by decide
              go_wp2_with fail
              refine (l1Join_any _ raw _ HROW.out HJL).mono ?_
              rintro e w1 ⟨rfl, rfl⟩
              go_wp2_with fail
              refine (sFoldName_any _ _ hjs).mono ?_
              rintro e w2 ⟨rfl, hb2⟩
              rw [show (⟨(joinD raw).toArray⟩ : ByteArray).data.toList = joinD raw from rfl, HF.out.1, HF.out.2]
              cases hN : nameOfB (raw.map foldL) with
              | false =>
                have HR : Hid (takeN s.data.toList a = none) := HEND.out.trans (if_neg (by rw [hN]; simp))
                clear hN
                go_wp2_with fail
                (try simp only [Exit.inBlock, Exit.then]); refine bodyPost_ret (results_tmp4 rfl _ _ _) rfl ?_
                exact tks_none HR.out rfl (HI.out.below.trans (hb2.mono HI.out.below.size))
              | true =>
                have HR : Hid (takeN s.data.toList a = some (joinD (raw.map foldL), here + 1, pl)) := HEND.out.trans (if_pos hN)
                clear hN
                rw [if_pos rfl]
                go_wp2_with fail
                (try simp only [Exit.inBlock, Exit.then]); refine bodyPost_ret (results_tmp4 rfl _ _ _) rfl ?_
                exact tks_some HR.out (ret_four rfl (by show Value.int .i64 _ = .int .i64 ((here + 1 : Nat) : Int); go_num) rfl rfl) (own_below HI.out.places hb2) (HI.out.below.trans (hb2.mono HI.out.below.size))
            | some e0' =>
              have HEND : Hid (takeN s.data.toList a = nmR (some (raw, e0', pl))) := HEND0
              have he : decide (endI (some e0') < 0) = false := by unfold endI; simp
              go_wp2_with fail
              refine (l1Join_any _ raw _ HROW.out HJL).mono ?_
              rintro e w1 ⟨rfl, rfl⟩
              go_wp2_with fail
              refine (sFoldName_any _ _ hjs).mono ?_
              rintro e w2 ⟨rfl, hb2⟩
              rw [show (⟨(joinD raw).toArray⟩ : ByteArray).data.toList = joinD raw from rfl, HF.out.1, HF.out.2]
              cases hN : nameOfB (raw.map foldL) with
              | false =>
                have HR : Hid (takeN s.data.toList a = none) := HEND.out.trans (if_neg (by rw [hN]; simp))
                clear hN
                go_wp2_with fail
                (try simp only [Exit.inBlock, Exit.then]); refine bodyPost_ret (results_tmp4 rfl _ _ _) rfl ?_
                exact tks_none HR.out rfl (HI.out.below.trans (hb2.mono HI.out.below.size))
              | true =>
                have HR : Hid (takeN s.data.toList a = some (joinD (raw.map foldL), e0', pl)) := HEND.out.trans (if_pos hN)
                clear hN
                rw [if_pos rfl]
                go_wp2_with fail
                (try simp only [Exit.inBlock, Exit.then]); refine bodyPost_ret (results_tmp4 rfl _ _ _) rfl ?_
                exact tks_some HR.out (ret_four rfl rfl rfl rfl) (own_below HI.out.places hb2) (HI.out.below.trans (hb2.mono HI.out.below.size))
          · have e0 : ((s[here].toNat : Int) == 0) = false := by rw [beq_eq_false_iff_ne]; omega
            by_cases h20 : s[here].toNat ≤ 20
            · have g20 : (s[here].toNat : Int) ≤ 20 := by omega
              by_cases hin : here + s[here].toNat < s.size
              · have gin : (here : Int) + 1 + (s[here].toNat : Int) ≤ (s.size : Int) := by omega
                have H0 : Hid (¬ s[here].toNat = 0) := h0
                clear h0 h192
                cases pt with
                | none =>
                  have he : decide (endI none < 0) = true := by decide
                  have hpl := HI.out.places
                  have hown1 := hpl.alloc (.cells #[.int .i64 (here : Int)] 3)
                  go_wp2_with (first | (at_builtin; refine wpList_append_own _ rfl (.tmp 82) (.tmp 84) 81 rfl w.heap.size 3 i1 (.int .i64 0) 1 8 Tryz.underlying81 hi1 hy0 hy1 hy2 rfl (by decide) _ _ _ rfl hown1 ⟨wr.heap.size, 0, none⟩ 1 1 [.int .i64 (here : Int)] rfl rfl ?d1 ?d2 ?d3 ?d4 ?d5 ?_))
                  case d1 => exact cell_new_one _ _ _
                  case d2 => exact one_int _
                  case d3 => unfold maxLen; omega
                  case d4 => omega
                  case d5 => simp; omega
                  intro v1 w1 hown' hgrow _
                  have hb1 := below_grown1 hb hpl hgrow
                  have hb1z := hb1.size
                  have hlab1 := own_other (by decide) hown1 (HI.out.labels.alloc _) hgrow
                  have hpl1 : w1.ownsRow w.heap.size 3 1 v1 (pl ++ [here]).length ((pl ++ [here]).map I64) := by
                    rw [List.map_append, List.length_append]; exact hown'
                  have HPL : Hid (w1.ownsRow w.heap.size 3 1 v1 (pl ++ [here]).length ((pl ++ [here]).map I64)) := hpl1
                  have HLAB : Hid (w1.ownsRow w.heap.size 9 1 (.slice al raw.length cl) raw.length (raw.map S)) := hlab1
                  clear hown' hgrow hown1 hpl hpl1 hlab1
                  go_wp2_with fail
                  rw [lab_extract]
                  obtain ⟨x, hx⟩ : ∃ x : ByteArray, x = ⟨(labAt s.data.toList here s[here].toNat).toArray⟩ := ⟨_, rfl⟩
                  rw [← hx]
                  have hxz : x.size = s[here].toNat := by rw [hx, size_list, labAt_length (by rw [data_len]; exact hin)]
                  have HX : Hid (x = ⟨(labAt s.data.toList here s[here].toNat).toArray⟩) := hx
                  clear hx
                  go_loop [16] (fun i => ∃ k : Nat, k ≤ s[here].toNat ∧ i = .int .i64 k ∧ Hid (∀ j, (hj : j < x.size) → j < k → x[j] ≠ 46)) (fun i => s[here].toNat - (intOf i).toNat)
                  case atStart => exact ⟨0, Nat.zero_le _, rfl, fun j _ hj => absurd hj (Nat.not_lt_zero j)⟩
                  case round =>
                    obtain ⟨k, hk, rfl, HA⟩ := hrel
                    by_cases hkc : k < s[here].toNat
                    · have hkx : k < x.size := by omega
                      by_cases hd : x[k] = 46
                      · have e1 : ((x[k].toNat : Int) == 46) = true := by rw [hd]; rfl
                        have HR : Hid (takeN s.data.toList a = none) := invs_dot HI.out hlt H0.out h20 hin (dot_mem HX.out hkx hd)
                        clear hd
                        go_wp2_with fail
                        (try simp only [Exit.inBlock, Exit.then]); refine bodyPost_ret (results_tmp4 rfl _ _ _) rfl ?_
                        exact tks_none HR.out rfl hb1
                      · have e1 : ((x[k].toNat : Int) == 46) = false := by
                          rw [beq_eq_false_iff_ne]; intro h; exact hd (UInt8.toNat_inj.1 (by show x[k].toNat = 46; omega))
                        have HR : Hid (∀ j, (hj : j < x.size) → j < k + 1 → x[j] ≠ 46) := fun j hj hjk => by
                          by_cases e : j = k
                          · subst e; exact hd
                          · exact HA.out j hj (by omega)
                        clear hd
                        go_wp2_with fail
                        go_round
                        case rel => exact ⟨k + 1, by omega, by go_num, HR⟩
                        case measure => simp [intOf]; omega
                    · have HD : Hid (46 ∉ labAt s.data.toList here s[here].toNat) := no_dot HX.out (fun j hj => HA.out j hj (by omega))
                      have HXS : Hid (Value.string x = S (labAt s.data.toList here s[here].toNat)) := by rw [HX.out]; exact rfl
                      have hown2 := HLAB.out.alloc (.cells #[.string x] 9)
                      go_wp2_with (first | (at_builtin; refine wpList_append_own _ rfl (.tmp 103) (.tmp 105) 46 rfl w.heap.size 9 i0 (.string ByteArray.empty) 1 16 Tryz.underlying46 hi hz0 hz1 hz2 rfl (by decide) _ _ _ rfl hown2 ⟨w1.heap.size, 0, none⟩ 1 1 [.string x] rfl rfl ?k1 ?k2 ?k3 ?k4 ?k5 ?_))
                      (try case k1 => exact cell_new_one _ _ _)
                      case k2 => first | exact one_string _ | rfl
                      case k3 => unfold maxLen; omega
                      case k4 => omega
                      case k5 => first | (simp; omega) | omega
                      intro v3 w3 hown3 hgrow3 _
                      have hb3 := below_grown1 hb1 HLAB.out hgrow3
                      have hpl3 := own_other (by decide) hown2 (HPL.out.alloc _) hgrow3
                      rw [HXS.out] at hown3
                      have HNX := invs_lab hs HI.out h8 hlt H0.out h20 hin HD.out hown3 hpl3 hb3
                      have HNH : Hid (InvS w s.data.toList (takeN s.data.toList a) w3 _ v3 (here + 1 + s[here].toNat) low none (raw ++ [labAt s.data.toList here s[here].toNat]) (pl ++ [here]) ∧ ms s.data.toList (here + 1 + s[here].toNat) low < ms s.data.toList here low) := HNX
                      clear hown3 hgrow3 hown2 hpl3 HNX
                      go_wp2_with fail
                      go_roundw
                      case rel => exact ⟨here + 1 + s[here].toNat, low, none, _, _, by go_num, rfl, rfl, HNH.out.1⟩
                      case measure => exact Nat.lt_of_le_of_lt (Nat.le_of_eq (by congr 1; simp [intOf]; omega)) HNH.out.2
                | some e0' =>
                  have he : decide (endI (some e0') < 0) = false := by unfold endI; simp
                  have HPL : Hid (wr.ownsRow w.heap.size 3 1 _ pl.length (pl.map I64)) := HI.out.places
                  have HLAB : Hid (wr.ownsRow w.heap.size 9 1 (.slice al raw.length cl) raw.length (raw.map S)) := HI.out.labels
                  go_wp2_with fail
                  rw [lab_extract]
                  obtain ⟨x, hx⟩ : ∃ x : ByteArray, x = ⟨(labAt s.data.toList here s[here].toNat).toArray⟩ := ⟨_, rfl⟩
                  rw [← hx]
                  have hxz : x.size = s[here].toNat := by rw [hx, size_list, labAt_length (by rw [data_len]; exact hin)]
                  have HX : Hid (x = ⟨(labAt s.data.toList here s[here].toNat).toArray⟩) := hx
                  clear hx
                  go_loop [16] (fun i => ∃ k : Nat, k ≤ s[here].toNat ∧ i = .int .i64 k ∧ Hid (∀ j, (hj : j < x.size) → j < k → x[j] ≠ 46)) (fun i => s[here].toNat - (intOf i).toNat)
                  case atStart => exact ⟨0, Nat.zero_le _, rfl, fun j _ hj => absurd hj (Nat.not_lt_zero j)⟩
                  case round =>
                    obtain ⟨k, hk, rfl, HA⟩ := hrel
                    by_cases hkc : k < s[here].toNat
                    · have hkx : k < x.size := by omega
                      by_cases hd : x[k] = 46
                      · have e1 : ((x[k].toNat : Int) == 46) = true := by rw [hd]; rfl
                        have HR : Hid (takeN s.data.toList a = none) := invs_dot HI.out hlt H0.out h20 hin (dot_mem HX.out hkx hd)
                        clear hd
                        go_wp2_with fail
                        (try simp only [Exit.inBlock, Exit.then]); refine bodyPost_ret (results_tmp4 rfl _ _ _) rfl ?_
                        exact tks_none HR.out rfl hb
                      · have e1 : ((x[k].toNat : Int) == 46) = false := by
                          rw [beq_eq_false_iff_ne]; intro h; exact hd (UInt8.toNat_inj.1 (by show x[k].toNat = 46; omega))
                        have HR : Hid (∀ j, (hj : j < x.size) → j < k + 1 → x[j] ≠ 46) := fun j hj hjk => by
                          by_cases e : j = k
                          · subst e; exact hd
                          · exact HA.out j hj (by omega)
                        clear hd
                        go_wp2_with fail
                        go_round
                        case rel => exact ⟨k + 1, by omega, by go_num, HR⟩
                        case measure => simp [intOf]; omega
                    · have HD : Hid (46 ∉ labAt s.data.toList here s[here].toNat) := no_dot HX.out (fun j hj => HA.out j hj (by omega))
                      have HXS : Hid (Value.string x = S (labAt s.data.toList here s[here].toNat)) := by rw [HX.out]; exact rfl
                      have hown2 := HLAB.out.alloc (.cells #[.string x] 9)
                      go_wp2_with (first | (at_builtin; refine wpList_append_own _ rfl (.tmp 103) (.tmp 105) 46 rfl w.heap.size 9 i0 (.string ByteArray.empty) 1 16 Tryz.underlying46 hi hz0 hz1 hz2 rfl (by decide) _ _ _ rfl hown2 ⟨wr.heap.size, 0, none⟩ 1 1 [.string x] rfl rfl ?m1 ?m2 ?m3 ?m4 ?m5 ?_))
                      (try case m1 => exact cell_new_one _ _ _)
                      case m2 => first | exact one_string _ | rfl
                      case m3 => unfold maxLen; omega
                      case m4 => omega
                      case m5 => first | (simp; omega) | omega
                      intro v3 w3 hown3 hgrow3 _
                      have hb3 := below_grown1 hb HLAB.out hgrow3
                      have hpl3 := own_other (by decide) hown2 (HPL.out.alloc _) hgrow3
                      rw [HXS.out] at hown3
                      have HNX := invs_lab hs HI.out h8 hlt H0.out h20 hin HD.out hown3 hpl3 hb3
                      have HNH : Hid (InvS w s.data.toList (takeN s.data.toList a) w3 _ v3 (here + 1 + s[here].toNat) low (some e0') (raw ++ [labAt s.data.toList here s[here].toNat]) pl ∧ ms s.data.toList (here + 1 + s[here].toNat) low < ms s.data.toList here low) := HNX
                      clear hown3 hgrow3 hown2 hpl3 HNX
                      go_wp2_with fail
                      go_roundw
                      case rel => exact ⟨here + 1 + s[here].toNat, low, (some e0'), _, _, by go_num, rfl, rfl, HNH.out.1⟩
                      case measure => exact Nat.lt_of_le_of_lt (Nat.le_of_eq (by congr 1; simp [intOf]; omega)) HNH.out.2
              · have gin : decide ((s.size : Int) < (here : Int) + 1 + (s[here].toNat : Int)) = true := by simp; omega
                have HR : Hid (takeN s.data.toList a = none) := invs_lab_out HI.out hlt h0 h20 hin
                clear h0 h192
                go_wp2_with fail
                (try simp only [Exit.inBlock, Exit.then]); refine bodyPost_ret (results_tmp4 rfl _ _ _) rfl ?_
                exact tks_none HR.out rfl HI.out.below
            · have g20 : (20 : Int) < (s[here].toNat : Int) := by omega
              have HR : Hid (takeN s.data.toList a = none) := invs_mid HI.out hlt h20 h192
              clear h0 h192
              go_wp2_with fail
              (try simp only [Exit.inBlock, Exit.then]); refine bodyPost_ret (results_tmp4 rfl _ _ _) rfl ?_
              exact tks_none HR.out rfl HI.out.below
      · have HR : Hid (takeN s.data.toList a = none) := invs_out HI.out hlt
        go_wp2_with fail
        (try simp only [Exit.inBlock, Exit.then]); refine bodyPost_ret (results_tmp4 rfl _ _ _) rfl ?_
        exact tks_none HR.out rfl HI.out.below
    · have HR : Hid (takeN s.data.toList a = none) := going_long HI.out.going (by omega)
      go_wp2_with fail
      (try simp only [Exit.inBlock, Exit.then]); refine bodyPost_ret (results_tmp4 rfl _ _ _) rfl ?_
      exact tks_none HR.out rfl HI.out.below
end Go.Proofs.YtdmellmmhipncaaGreatDoor

namespace Go.Proofs.YtdmellmmhipncaaGreatDoor
open Go.RowKit

/-- What is read at any place of any bytes. -/
def tkI (l : List UInt8) (a : Int) : Option (List UInt8 × Nat × List Nat) := if l.length ≤ 600 ∧ 0 ≤ a ∧ a < (l.length : Int) then takeN l a.toNat else none
theorem tkI_in {s : ByteArray} {a : Nat} (hs : s.size ≤ 600) (ha : a < s.size) : tkI s.data.toList (a : Int) = takeN s.data.toList a := by
  unfold tkI; rw [data_len, if_pos ⟨hs, by omega, by omega⟩]; rfl
theorem tkI_none {s : ByteArray} {a : Int} (h : ¬ (s.size ≤ 600 ∧ 0 ≤ a ∧ a < (s.size : Int))) : tkI s.data.toList a = none := by
  unfold tkI; rw [data_len, if_neg h]
theorem tkI_nat {s : ByteArray} {a : Nat} (hs : s.size ≤ 600) : tkI s.data.toList (a : Int) = takeN s.data.toList a := by
  by_cases ha : a < s.size
  · exact tkI_in hs ha
  · rw [tkI_none (by omega)]
    exact (going_out (going_start s.data.toList a (by rw [data_len]; omega)) (by rw [data_len]; exact ha)).symm
def nmT : Option (List UInt8 × Nat × List Nat) → List UInt8
  | none => []
  | some (nm, _, _) => nm
def nmE : Option (List UInt8 × Nat × List Nat) → Nat
  | none => 0
  | some (_, en, _) => en

def tkVal (R : Option (List UInt8 × Nat × List Nat)) : Value := .tuple #[.string ⟨(nmT R).toArray⟩, .int .i64 ((nmE R : Nat) : Int), .bool R.isSome]
theorem tk_ret {R R' : Option (List UInt8 × Nat × List Nat)} (h : R = R') : Ending.returned (tkVal R') = .returned (tkVal R) := by rw [h]

/-- The same of bytes of any number. -/
def tkP (l : List UInt8) (a : Int) : Option (List UInt8 × Nat × List Nat) := if 0 ≤ a ∧ a < (l.length : Int) then takeN l a.toNat else none
theorem tkP_none {s : ByteArray} {a : Int} (h : ¬ (0 ≤ a ∧ a < (s.size : Int))) : tkP s.data.toList a = none := by
  unfold tkP; rw [data_len, if_neg h]
theorem tkP_nat {s : ByteArray} {a : Nat} (hs : s.size ≤ 70000) : tkP s.data.toList (a : Int) = takeN s.data.toList a := by
  by_cases ha : a < s.size
  · unfold tkP; rw [data_len, if_pos ⟨by omega, by omega⟩]; rfl
  · rw [tkP_none (by omega)]
    exact (going_out (going_start s.data.toList a (by rw [data_len]; omega)) (by rw [data_len]; exact ha)).symm
theorem tkI_P {s : ByteArray} {a : Int} (hs : s.size ≤ 600) : tkI s.data.toList a = tkP s.data.toList a := by
  unfold tkI tkP; rw [data_len]
  by_cases h : 0 ≤ a ∧ a < (s.size : Int)
  · rw [if_pos ⟨hs, h⟩, if_pos h]
  · rw [if_neg (fun hh => h hh.2), if_neg h]

set_option maxRecDepth 20000 in
set_option maxHeartbeats 2000000 in
theorem readName_all (s : ByteArray) (a : Int) (w : World) (hs : s.size ≤ 65535) (h1 : -9223372036854775808 ≤ a) (h2 : a ≤ 9223372036854775807) (hE : Env w) :
    Calls Tryz.prog 85 #[.string s, .int .i64 a] w fun e w' => TkRes w (tkP s.data.toList a) e w' := by
  by_cases h0 : a < 0
  · have HR : Hid (tkP s.data.toList a = none) := tkP_none (by omega)
    go_enter Tryz.func85, Tryz.ntmps85
    go_wp2_with fail
    go_step3
    go_wp2_with fail
    go_step3
    go_wp2_with fail
    refine (whatStands_low s a _ h0).mono ?_
    rintro e w1 ⟨rfl, rfl⟩
    go_wp2_with fail
    rw [Exit.noGoto_ret]
    (try simp only [Exit.inBlock, Exit.then]); refine bodyPost_ret (results_tmp4 rfl _ _ _) rfl ?_
    exact tk_none HR.out rfl (Below.refl _ _)
  · obtain ⟨n, rfl⟩ : ∃ n : Nat, a = (n : Int) := ⟨a.toNat, by omega⟩
    by_cases hn : n < s.size
    · rw [tkP_nat (by omega)]; exact readName_any s n w hs hn hE
    · have HR : Hid (tkP s.data.toList (n : Int) = none) := tkP_none (by omega)
      have HST : Hid (stands s.data.toList n = 0) := by unfold stands; exact dif_neg (by rw [data_len]; exact hn)
      go_enter Tryz.func85, Tryz.ntmps85
      go_wp2_with fail
      go_step3
      go_wp2_with fail
      go_step3
      go_wp2_with fail
      refine (whatStands_any s n _ (by omega) (by omega)).mono ?_
      rintro e w1 ⟨rfl, rfl⟩
      rw [HST.out]
      go_wp2_with fail
      rw [Exit.noGoto_ret]
      (try simp only [Exit.inBlock, Exit.then]); refine bodyPost_ret (results_tmp4 rfl _ _ _) rfl ?_
      exact tk_none HR.out rfl (Below.refl _ _)

set_option maxRecDepth 20000 in
set_option maxHeartbeats 1000000 in
theorem iTakeName_any (s : ByteArray) (a : Int) (w : World) (h1 : -9223372036854775808 ≤ a) (h2 : a ≤ 9223372036854775807) (hE : Env w) :
    Calls Tryz.prog 54 #[.string s, .int .i64 a] w fun e w' => e = .returned (tkVal (tkI s.data.toList a)) ∧ Below w.heap.size w w' := by
  by_cases hs : s.size ≤ 600
  · have HIP : Hid (tkI s.data.toList a = tkP s.data.toList a) := tkI_P hs
    go_enter Tryz.func54, Tryz.ntmps54
    go_wp2_with fail
    refine (readName_all s a w (by omega) h1 h2 hE).mono ?_
    rintro e w1 ⟨hn, hsm, hb⟩
    cases hR : tkP s.data.toList a with
    | none =>
      obtain rfl := hn hR
      have HR : Hid (tkI s.data.toList a = none) := HIP.out.trans hR
      clear hn hsm hR
      go_wp2_with fail
      go_ret3
      exact ⟨tk_ret HR.out, hb⟩
    | some x =>
      obtain ⟨nm, en, pl⟩ := x
      obtain ⟨v, rfl, _⟩ := hsm nm en pl hR
      have HR : Hid (tkI s.data.toList a = some (nm, en, pl)) := HIP.out.trans hR
      clear hn hsm hR
      go_wp2_with fail
      go_ret3
      exact ⟨tk_ret HR.out, hb⟩
  · have HR : Hid (tkI s.data.toList a = none) := tkI_none (by omega)
    have g : (600 : Int) < (s.size : Int) := by omega
    go_enter Tryz.func54, Tryz.ntmps54
    go_wp2_with fail
    go_ret3
    exact ⟨tk_ret HR.out, Below.refl _ _⟩

set_option maxRecDepth 20000 in
set_option maxHeartbeats 1000000 in
theorem l2Take_any (s : ByteArray) (a : Nat) (w : World) (hs : s.size ≤ 4000) (_ha64 : a ≤ 9223372036854775807) :
    Calls Tryz.prog 64 #[.string s, .int .i64 (a : Int)] w fun e w' => TkSpec w (takeN s.data.toList a) e w' := by
  by_cases ha : a < s.size
  · exact l2Take_in s a w hs ha
  · have HR : Hid (takeN s.data.toList a = none) := going_out (going_start s.data.toList a (by rw [data_len]; omega)) (by rw [data_len]; exact ha)
    have g : (s.size : Int) ≤ (a : Int) := by omega
    go_enter Tryz.func64, Tryz.ntmps64
    go_wp2_with fail
    go_rounds 1
    (try simp only [Exit.inBlock, Exit.then]); refine bodyPost_ret (results_tmp4 rfl _ _ _) rfl ?_
    exact tks_none HR.out rfl (Below.refl _ _)

end Go.Proofs.YtdmellmmhipncaaGreatDoor
