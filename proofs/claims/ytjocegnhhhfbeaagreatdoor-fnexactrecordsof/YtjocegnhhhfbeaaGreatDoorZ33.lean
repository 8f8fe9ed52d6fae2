import Derived.Test.YtjocegnhhhfbeaaGreatDoorZ31
import Derived.Test.YtjocegnhhhfbeaaGreatDoorZ08
import Derived.Test.YtjocegnhhhfbeaaGreatDoorZ32
import Derived.Test.YtjocegnhhhfbeaaGreatDoorZ05
import Derived.Test.YtjocegnhhhfbeaaGreatDoorZ10
namespace Go.Proofs.YtjocegnhhhfbeaaGreatDoor
open Go.RowKit

theorem stands_spec (l : List UInt8) (a : Nat) :
    (stands l a = 0 ∧ ∀ R low pt raw pl, Going l R a low pt raw pl → R = none) ∨ (stands l a = 1 ∧ ∃ h : a < l.length, l[a].toNat = 0) ∨
    (stands l a = 2 ∧ ∃ h : a < l.length, ¬ l[a].toNat = 0 ∧ l[a].toNat ≤ 20 ∧ a + l[a].toNat < l.length) ∨ (stands l a = 3 ∧ ∃ (h : a < l.length) (_ : a + 1 < l.length), 192 ≤ l[a].toNat) := by
  unfold stands
  by_cases h : a < l.length
  · rw [dif_pos h]
    by_cases h0 : l[a].toNat = 0
    · rw [if_pos h0]; exact .inr (.inl ⟨rfl, h, h0⟩)
    · rw [if_neg h0]
      by_cases h20 : l[a].toNat ≤ 20
      · rw [if_pos h20]
        by_cases hin : a + l[a].toNat < l.length
        · rw [if_pos hin]; exact .inr (.inr (.inl ⟨rfl, h, h0, h20, hin⟩))
        · rw [if_neg hin]; exact .inl ⟨rfl, fun R low pt raw pl g => going_lab_out g h h0 h20 hin⟩
      · rw [if_neg h20]
        by_cases h192 : 192 ≤ l[a].toNat
        · rw [if_pos h192]
          by_cases hin : a + 1 < l.length
          · rw [if_pos hin]; exact .inr (.inr (.inr ⟨rfl, h, hin, h192⟩))
          · rw [if_neg hin]; exact .inl ⟨rfl, fun R low pt raw pl g => going_ptr_out g h h192 hin⟩
        · rw [if_neg h192]; exact .inl ⟨rfl, fun R low pt raw pl g => going_mid g h h20 h192⟩
  · rw [dif_neg h]; exact .inl ⟨rfl, fun R low pt raw pl g => going_out g h⟩

theorem tot_app (P : List (List UInt8)) (x : List UInt8) : tot (P ++ [x]) = tot P + x.length := by simp [tot]

/-- readName's frame. -/
def Frm (s : ByteArray) (a : Nat) (act : Act) (vpl vlb vbh vhere vlow : Value) (pt : Bool) : Prop :=
  ∃ u12 u13 u14 u15 u16 u17 u18 u19 u20 u21 u22 u23 u24 u25 u26 u27 u28 u29 u30 u31 u32 u33 u34 u35 u36 u37 u38 u39 u40 u41 u42 u43 u44 u45 u46 u47 u48 u49 u50 u51 u52 u53 u54 u55 u56 u57 u58 u59 u60 u61 u62 u63 u64 u65 u66 : Value, act = { tmps := #[.string s, .int .i64 (a : Int), undef, undef, .string ⟨#[]⟩, vpl, vbh, .bool false, vlb, vhere, vlow, .bool pt, u12, u13, u14, u15, u16, u17, u18, u19, u20, u21, u22, u23, u24, u25, u26, u27, u28, u29, u30, u31, u32, u33, u34, u35, u36, u37, u38, u39, u40, u41, u42, u43, u44, u45, u46, u47, u48, u49, u50, u51, u52, u53, u54, u55, u56, u57, u58, u59, u60, u61, u62, u63, u64, u65, u66], defers := [] }

/-- The state of the reading in memory. -/
structure Inv (w0 : World) (l : List UInt8) (R : Option (List UInt8 × Nat × List Nat)) (w : World) (vpl vlb : Value) (bh here low : Nat) (pt : Option Nat) (raw : List (List UInt8)) (pl : List Nat) : Prop where
  going : Going l R here low pt raw pl
  labels : w.ownsRow w0.heap.size 9 1 vlb raw.length ((raw.map foldL).map S)
  places : w.ownsRow w0.heap.size 3 1 vpl pl.length (pl.map I64)
  below : Below w0.heap.size w0 w
  hhere : here ≤ 65535
  hlow : low ≤ 65535
  much : raw.length + tot raw + (low * 65537 + (l.length - here)) ≤ 4295032832
  few : pl.length ≤ raw.length
  behind : pt.getD 0 = bh
  bhle : bh ≤ 65537

/-- What holds at each jump. -/
def Jmp (w0 : World) (s : ByteArray) (a : Nat) (R : Option (List UInt8 × Nat × List Nat)) (m l : Nat) (act : Act) (w : World) : Prop :=
  ∃ vpl vlb vbh vhere vlow bh here low pt raw pl, Frm s a act vpl vlb vbh vhere vlow (Option.isSome pt) ∧ vbh = .int .i64 ((bh : Nat) : Int) ∧ vhere = .int .i64 ((here : Nat) : Int) ∧ vlow = .int .i64 ((low : Nat) : Int) ∧
    Inv w0 s.data.toList R w vpl vlb bh here low pt raw pl ∧
    (l = 3 ∧ m = 2 * ms s.data.toList here low + 1 ∨ l = 0 ∧ m = 2 * ms s.data.toList here low ∧ stands s.data.toList here = 2 ∨ l = 1 ∧ m = 2 * ms s.data.toList here low ∧ stands s.data.toList here = 3 ∨ l = 2 ∧ m = 2 * ms s.data.toList here low ∧ stands s.data.toList here = 1)

/-- What readName tells. -/
def TkRes (w0 : World) (R : Option (List UInt8 × Nat × List Nat)) (e : Ending) (w' : World) : Prop :=
  (R = none → e = .returned (.tuple #[.string ⟨#[]⟩, .slice none 0 0, .int .i64 0, .bool false])) ∧
  (∀ nm en pl, R = some (nm, en, pl) → ∃ v, e = .returned (.tuple #[.string ⟨nm.toArray⟩, v, .int .i64 ((en : Nat) : Int), .bool true]) ∧ w'.ownsRow w0.heap.size 3 1 v pl.length (pl.map I64)) ∧ Below w0.heap.size w0 w'
theorem tk_none {w0 w' : World} {R : Option (List UInt8 × Nat × List Nat)} {e : Ending} (h : R = none) (he : e = .returned (.tuple #[.string ⟨#[]⟩, .slice none 0 0, .int .i64 0, .bool false])) (hb : Below w0.heap.size w0 w') : TkRes w0 R e w' :=
  ⟨fun _ => he, fun _ _ _ h2 => (by rw [h] at h2; cases h2), hb⟩

theorem inv_start (w : World) (s : ByteArray) (a : Nat) (hs : s.size ≤ 65535) (ha : a < s.size) : Inv w s.data.toList (takeN s.data.toList a) w (.slice none 0 0) (.slice none 0 0) 0 a a none [] [] where
  going := going_start _ _ (by have : s.data.toList.length = s.size := by simp
                               omega)
  labels := World.ownsRow_nil _ _ _ _
  places := World.ownsRow_nil _ _ _ _
  below := Below.refl _ _
  hhere := by omega
  hlow := by omega
  much := by
    have : s.data.toList.length = s.size := by simp
    unfold tot; simp only [List.length_nil, List.map_nil, List.sum_nil]; omega
  few := Nat.le_refl _
  behind := rfl
  bhle := by omega

theorem stands_label {s : ByteArray} {a : Nat} (h : stands s.data.toList a = 2) : ∃ hl : a < s.size, ¬ s[a].toNat = 0 ∧ s[a].toNat ≤ 20 ∧ a + s[a].toNat < s.size := by
  have hz : s.data.toList.length = s.size := by simp
  rcases stands_spec s.data.toList a with ⟨h1, _⟩ | ⟨h1, _⟩ | ⟨h1, hl, h2⟩ | ⟨h1, _⟩
  · rw [h] at h1; cases h1
  · rw [h] at h1; cases h1
  · rw [hz] at h2; exact ⟨by rw [← hz]; exact hl, h2⟩
  · rw [h] at h1; cases h1
theorem stands_pointer {s : ByteArray} {a : Nat} (h : stands s.data.toList a = 3) : ∃ hl : a + 1 < s.size, 192 ≤ s[a].toNat := by
  have hz : s.data.toList.length = s.size := by simp
  rcases stands_spec s.data.toList a with ⟨h1, _⟩ | ⟨h1, _⟩ | ⟨h1, _⟩ | ⟨h1, hl, h2, h3⟩
  · rw [h] at h1; cases h1
  · rw [h] at h1; cases h1
  · rw [h] at h1; cases h1
  · exact ⟨by rw [← hz]; exact h2, h3⟩
theorem stands_end {s : ByteArray} {a : Nat} (h : stands s.data.toList a = 1) : ∃ hl : a < s.size, s[a].toNat = 0 := by
  have hz : s.data.toList.length = s.size := by simp
  rcases stands_spec s.data.toList a with ⟨h1, _⟩ | ⟨h1, hl, h2⟩ | ⟨h1, _⟩ | ⟨h1, _⟩
  · rw [h] at h1; cases h1
  · exact ⟨by rw [← hz]; exact hl, h2⟩
  · rw [h] at h1; cases h1
  · rw [h] at h1; cases h1

/-- Behind a label. -/
theorem inv_lab {w0 w w2 : World} {s : ByteArray} {R : Option (List UInt8 × Nat × List Nat)} {vpl vlb v1 v2 : Value} {bh here low : Nat} {pt : Option Nat} {raw : List (List UInt8)} {pl : List Nat} (hs : s.size ≤ 65535)
    (hI : Inv w0 s.data.toList R w vpl vlb bh here low pt raw pl) (hlt : here < s.size) (h0 : ¬ s[here].toNat = 0) (h20 : s[here].toNat ≤ 20) (hin : here + s[here].toNat < s.size)
    (hl : w2.ownsRow w0.heap.size 9 1 v2 (raw.length + 1) ((raw.map foldL).map S ++ [.string ⟨(foldL (labAt s.data.toList here s[here].toNat)).toArray⟩]))
    (hp : w2.ownsRow w0.heap.size 3 1 v1 (if pt = none then pl ++ [here] else pl).length ((if pt = none then pl ++ [here] else pl).map I64)) (hb : Below w0.heap.size w0 w2) :
    Inv w0 s.data.toList R w2 v1 v2 bh (here + 1 + s[here].toNat) low pt (raw ++ [labAt s.data.toList here s[here].toNat]) (if pt = none then pl ++ [here] else pl) ∧ ms s.data.toList (here + 1 + s[here].toNat) low < ms s.data.toList here low := by
  have hz : s.data.toList.length = s.size := by simp
  have hg := going_lab hI.going (show here < s.data.toList.length by rw [hz]; exact hlt) h0 h20 (show here + s[here].toNat < s.data.toList.length by rw [hz]; exact hin)
  have hll := labAt_length (l := s.data.toList) (a := here) (c := s[here].toNat) (by rw [hz]; exact hin)
  have hm := hI.much
  have hf := hI.few
  have h2 : ms s.data.toList (here + 1 + s[here].toNat) low + 1 + s[here].toNat ≤ ms s.data.toList here low := hg.2
  refine ⟨⟨hg.1, ?_, hp, hb, by omega, hI.hlow, ?_, ?_, hI.behind, hI.bhle⟩, by omega⟩
  · rw [List.map_append, List.map_append, List.length_append]; exact hl
  · rw [tot_app, List.length_append, hll]; simp only [List.length_cons, List.length_nil]; omega
  · rw [List.length_append]; simp only [List.length_cons, List.length_nil]
    split
    · rw [List.length_append]; simp only [List.length_cons, List.length_nil]; omega
    · omega

/-- Behind a pointer. -/
theorem inv_ptr {w0 w w2 : World} {s : ByteArray} {R : Option (List UInt8 × Nat × List Nat)} {vpl vlb : Value} {bh here low q : Nat} {pt : Option Nat} {raw : List (List UInt8)} {pl : List Nat} (hs : s.size ≤ 65535)
    (hI : Inv w0 s.data.toList R w vpl vlb bh here low pt raw pl) (hlt : here + 1 < s.size) (h192 : 192 ≤ s[here].toNat) (hq : q = (s[here].toNat - 192) * 256 + s[here + 1].toNat) (hql : q < low) (hb : Below w.heap.size w w2) :
    Inv w0 s.data.toList R w2 vpl vlb (pt.getD (here + 2)) q q (some (pt.getD (here + 2))) raw pl ∧ ms s.data.toList q q < ms s.data.toList here low := by
  have hz : s.data.toList.length = s.size := by simp
  have hg := going_ptr hI.going (by rw [hz]; omega) (show here < s.data.toList.length by rw [hz]; omega) h192 (show here + 1 < s.data.toList.length by rw [hz]; exact hlt) hq hql
  have hm := hI.much
  have h1 := hI.hhere
  have h2 := hI.hlow
  have h3 := hI.bhle
  have h4 := hI.behind
  have h5 := hg.2
  have h6 : q * 65537 + (s.data.toList.length - q) ≤ low * 65537 + (s.data.toList.length - here) := by
    rw [hz]; clear hq hg h5 hm h4 h3 hI; omega
  refine ⟨⟨hg.1, own_below hI.labels hb, own_below hI.places hb, hI.below.trans (hb.mono hI.below.size), by clear hq hg h5 hm h6; omega, by clear hq hg h5 hm h6; omega, Nat.le_trans (Nat.add_le_add_left h6 _) hm, hI.few, rfl, ?_⟩, h5⟩
  cases pt with
  | none => show here + 2 ≤ 65537; omega
  | some e => exact (show e ≤ 65537 from (show e = bh from h4) ▸ h3)
theorem inv_ptr_no {w0 w : World} {s : ByteArray} {R : Option (List UInt8 × Nat × List Nat)} {vpl vlb : Value} {bh here low q : Nat} {pt : Option Nat} {raw : List (List UInt8)} {pl : List Nat}
    (hI : Inv w0 s.data.toList R w vpl vlb bh here low pt raw pl) (hlt : here + 1 < s.size) (h192 : 192 ≤ s[here].toNat) (hq : q = (s[here].toNat - 192) * 256 + s[here + 1].toNat) (hql : ¬ q < low) : R = none := by
  have hz : s.data.toList.length = s.size := by simp
  exact going_ptr_no hI.going (show here < s.data.toList.length by rw [hz]; omega) h192 (show here + 1 < s.data.toList.length by rw [hz]; exact hlt) (by rw [hq] at hql; exact hql)
theorem tk_some {w0 w' : World} {R : Option (List UInt8 × Nat × List Nat)} {e : Ending} {nm : List UInt8} {en : Nat} {pl : List Nat} {v : Value} (h : R = some (nm, en, pl)) (he : e = .returned (.tuple #[.string ⟨nm.toArray⟩, v, .int .i64 ((en : Nat) : Int), .bool true]))
    (hp : w'.ownsRow w0.heap.size 3 1 v pl.length (pl.map I64)) (hb : Below w0.heap.size w0 w') : TkRes w0 R e w' := by
  refine ⟨fun h2 => (by rw [h] at h2; cases h2), fun nm2 en2 pl2 h2 => ?_, hb⟩
  rw [h] at h2
  simp only [Option.some.injEq, Prod.mk.injEq] at h2
  obtain ⟨rfl, rfl, rfl⟩ := h2
  exact ⟨v, he, hp⟩
theorem tot_fold : ∀ P : List (List UInt8), tot (P.map foldL) = tot P
  | [] => rfl
  | p :: r => by
    have := tot_fold r
    unfold tot at this ⊢
    rw [List.map_cons, List.map_cons, List.map_cons, List.sum_cons, List.sum_cons, this]; simp [foldL]
/-- At the end: what is told. -/
theorem inv_end {w0 w : World} {s : ByteArray} {R : Option (List UInt8 × Nat × List Nat)} {vpl vlb : Value} {bh here low : Nat} {pt : Option Nat} {raw : List (List UInt8)} {pl : List Nat}
    (hI : Inv w0 s.data.toList R w vpl vlb bh here low pt raw pl) (hlt : here < s.size) (h0 : s[here].toNat = 0) :
    R = nmR (some (raw, pt.getD (here + 1), pl)) ∧ Row w vlb (raw.map foldL) ∧ (raw.map foldL).length + tot (raw.map foldL) ≤ 68719476736 := by
  have hz : s.data.toList.length = s.size := by simp
  refine ⟨going_end hI.going (show here < s.data.toList.length by rw [hz]; exact hlt) h0, row_own (by rw [List.length_map]; exact hI.labels), ?_⟩
  have hm := hI.much
  rw [tot_fold, List.length_map]; omega
theorem ret_four {a b c d a' b' c' d' : Value} (h1 : a = a') (h2 : b = b') (h3 : c = c') (h4 : d = d') : Ending.returned (.tuple #[a, b, c, d]) = .returned (.tuple #[a', b', c', d']) := by rw [h1, h2, h3, h4]

end Go.Proofs.YtjocegnhhhfbeaaGreatDoor

namespace Go.Proofs.YtjocegnhhhfbeaaGreatDoor
open Go.RowKit

def endI : Option Nat → Int
  | none => -1
  | some e => (e : Int)

/-- The state of the specification's reading. -/
structure InvS (w0 : World) (l : List UInt8) (R : Option (List UInt8 × Nat × List Nat)) (w : World) (vpl vlb : Value) (here low : Nat) (pt : Option Nat) (raw : List (List UInt8)) (pl : List Nat) : Prop where
  going : Going l R here low pt raw pl
  labels : w.ownsRow w0.heap.size 9 1 vlb raw.length (raw.map S)
  places : w.ownsRow w0.heap.size 3 1 vpl pl.length (pl.map I64)
  below : Below w0.heap.size w0 w
  hhere : here ≤ 4000
  hlow : low ≤ 4000
  nine : raw.length ≤ 9
  few : pl.length ≤ raw.length
  plain : Plain raw
  small : ∀ p ∈ raw, p.length ≤ 20
  bhle : endI pt ≤ 4002 ∧ -1 ≤ endI pt

/-- What l2Take tells. -/
def TkSpec (w0 : World) (R : Option (List UInt8 × Nat × List Nat)) (e : Ending) (w' : World) : Prop :=
  (R = none → ∃ (x : ByteArray) (n : Int) (v : Value), e = .returned (.tuple #[.string x, .int .i64 n, v, .bool false])) ∧
  (∀ nm en pl, R = some (nm, en, pl) → ∃ v, e = .returned (.tuple #[.string ⟨nm.toArray⟩, .int .i64 ((en : Nat) : Int), v, .bool true]) ∧ w'.ownsRow w0.heap.size 3 1 v pl.length (pl.map I64)) ∧ Below w0.heap.size w0 w'
theorem tks_none {w0 w' : World} {R : Option (List UInt8 × Nat × List Nat)} {e : Ending} {x : ByteArray} {n : Int} {v : Value} (h : R = none) (he : e = .returned (.tuple #[.string x, .int .i64 n, v, .bool false])) (hb : Below w0.heap.size w0 w') : TkSpec w0 R e w' :=
  ⟨fun _ => ⟨x, n, v, he⟩, fun _ _ _ h2 => (by rw [h] at h2; cases h2), hb⟩
theorem tks_some {w0 w' : World} {R : Option (List UInt8 × Nat × List Nat)} {e : Ending} {nm : List UInt8} {en : Nat} {pl : List Nat} {v : Value} (h : R = some (nm, en, pl)) (he : e = .returned (.tuple #[.string ⟨nm.toArray⟩, .int .i64 ((en : Nat) : Int), v, .bool true]))
    (hp : w'.ownsRow w0.heap.size 3 1 v pl.length (pl.map I64)) (hb : Below w0.heap.size w0 w') : TkSpec w0 R e w' := by
  refine ⟨fun h2 => (by rw [h] at h2; cases h2), fun nm2 en2 pl2 h2 => ?_, hb⟩
  rw [h] at h2
  simp only [Option.some.injEq, Prod.mk.injEq] at h2
  obtain ⟨rfl, rfl, rfl⟩ := h2
  exact ⟨v, he, hp⟩

theorem invs_start (w : World) (s : ByteArray) (a : Nat) (hs : s.size ≤ 4000) (ha : a < s.size) : InvS w s.data.toList (takeN s.data.toList a) w (.slice none 0 0) (.slice none 0 0) a a none [] [] where
  going := going_start _ _ (by
    have hz : s.data.toList.length = s.size := by simp
    omega)
  labels := World.ownsRow_nil _ _ _ _
  places := World.ownsRow_nil _ _ _ _
  below := Below.refl _ _
  hhere := by omega
  hlow := by omega
  nine := by simp
  few := Nat.le_refl _
  plain := fun p hp => by cases hp
  small := fun p hp => by cases hp
  bhle := by simp [endI]

section
variable {w0 w w2 : World} {s : ByteArray} {R : Option (List UInt8 × Nat × List Nat)} {vpl vlb v1 v2 : Value} {here low q : Nat} {pt : Option Nat} {raw : List (List UInt8)} {pl : List Nat}
theorem data_len (s : ByteArray) : s.data.toList.length = s.size := by simp
theorem invs_out (hI : InvS w0 s.data.toList R w vpl vlb here low pt raw pl) (h : ¬ here < s.size) : R = none := going_out hI.going (by rw [data_len]; exact h)
theorem invs_ptr_out (hI : InvS w0 s.data.toList R w vpl vlb here low pt raw pl) (h : here < s.size) (h1 : 192 ≤ s[here].toNat) (h2 : ¬ here + 1 < s.size) : R = none :=
  going_ptr_out hI.going (show here < s.data.toList.length by rw [data_len]; exact h) h1 (by rw [data_len]; exact h2)
theorem invs_ptr_no (hI : InvS w0 s.data.toList R w vpl vlb here low pt raw pl) (h2 : here + 1 < s.size) (h1 : 192 ≤ s[here].toNat) (hq : q = (s[here].toNat - 192) * 256 + s[here + 1].toNat) (h3 : ¬ q < low) : R = none :=
  going_ptr_no hI.going (show here < s.data.toList.length by rw [data_len]; omega) h1 (show here + 1 < s.data.toList.length by rw [data_len]; exact h2) (by rw [hq] at h3; exact h3)
theorem invs_ptr (hs : s.size ≤ 4000) (hI : InvS w0 s.data.toList R w vpl vlb here low pt raw pl) (h2 : here + 1 < s.size) (h1 : 192 ≤ s[here].toNat) (hq : q = (s[here].toNat - 192) * 256 + s[here + 1].toNat) (h3 : q < low) :
    InvS w0 s.data.toList R w vpl vlb q q (some (pt.getD (here + 2))) raw pl ∧ ms s.data.toList q q < ms s.data.toList here low := by
  have hg := going_ptr hI.going (by rw [data_len]; omega) (show here < s.data.toList.length by rw [data_len]; omega) h1 (show here + 1 < s.data.toList.length by rw [data_len]; exact h2) hq h3
  have hl := hI.hlow
  have hb := hI.bhle
  refine ⟨⟨hg.1, hI.labels, hI.places, hI.below, by omega, by omega, hI.nine, hI.few, hI.plain, hI.small, ?_⟩, hg.2⟩
  cases pt with
  | none => simp [endI]; omega
  | some e => exact hb
theorem invs_mid (hI : InvS w0 s.data.toList R w vpl vlb here low pt raw pl) (h : here < s.size) (h1 : ¬ s[here].toNat ≤ 20) (h2 : ¬ 192 ≤ s[here].toNat) : R = none :=
  going_mid hI.going (show here < s.data.toList.length by rw [data_len]; exact h) h1 h2
theorem invs_lab_out (hI : InvS w0 s.data.toList R w vpl vlb here low pt raw pl) (h : here < s.size) (h0 : ¬ s[here].toNat = 0) (h1 : s[here].toNat ≤ 20) (h2 : ¬ here + s[here].toNat < s.size) : R = none :=
  going_lab_out hI.going (show here < s.data.toList.length by rw [data_len]; exact h) h0 h1 (show ¬ here + s[here].toNat < s.data.toList.length by rw [data_len]; exact h2)
theorem invs_dot (hI : InvS w0 s.data.toList R w vpl vlb here low pt raw pl) (h : here < s.size) (h0 : ¬ s[here].toNat = 0) (h1 : s[here].toNat ≤ 20) (h2 : here + s[here].toNat < s.size) (hd : 46 ∈ labAt s.data.toList here s[here].toNat) : R = none := by
  have hg := going_lab hI.going (show here < s.data.toList.length by rw [data_len]; exact h) h0 h1 (show here + s[here].toNat < s.data.toList.length by rw [data_len]; exact h2)
  obtain ⟨n, hn, hr⟩ := hg.1
  rw [← hr]
  exact nmR_dot (List.mem_append.2 (.inr (List.mem_singleton.2 rfl))) hd
theorem invs_end (hI : InvS w0 s.data.toList R w vpl vlb here low pt raw pl) (h : here < s.size) (h0 : s[here].toNat = 0) : R = nmR (some (raw, pt.getD (here + 1), pl)) :=
  going_end hI.going (show here < s.data.toList.length by rw [data_len]; exact h) h0
theorem invs_lab (hs : s.size ≤ 4000) (hI : InvS w0 s.data.toList R w vpl vlb here low pt raw pl) (h8 : raw.length ≤ 8) (hlt : here < s.size) (h0 : ¬ s[here].toNat = 0) (h20 : s[here].toNat ≤ 20) (hin : here + s[here].toNat < s.size) (hd : 46 ∉ labAt s.data.toList here s[here].toNat)
    (hl : w2.ownsRow w0.heap.size 9 1 v2 (raw.length + 1) (raw.map S ++ [S (labAt s.data.toList here s[here].toNat)]))
    (hp : w2.ownsRow w0.heap.size 3 1 v1 (if pt = none then pl ++ [here] else pl).length ((if pt = none then pl ++ [here] else pl).map I64)) (hb : Below w0.heap.size w0 w2) :
    InvS w0 s.data.toList R w2 v1 v2 (here + 1 + s[here].toNat) low pt (raw ++ [labAt s.data.toList here s[here].toNat]) (if pt = none then pl ++ [here] else pl) ∧ ms s.data.toList (here + 1 + s[here].toNat) low < ms s.data.toList here low := by
  have hg := going_lab hI.going (show here < s.data.toList.length by rw [data_len]; exact hlt) h0 h20 (show here + s[here].toNat < s.data.toList.length by rw [data_len]; exact hin)
  have hll := labAt_length (l := s.data.toList) (a := here) (c := s[here].toNat) (by rw [data_len]; exact hin)
  have hf := hI.few
  have h2 : ms s.data.toList (here + 1 + s[here].toNat) low + 1 + s[here].toNat ≤ ms s.data.toList here low := hg.2
  refine ⟨⟨hg.1, ?_, hp, hb, by omega, hI.hlow, ?_, ?_, ?_, ?_, hI.bhle⟩, by omega⟩
  · rw [List.map_append, List.length_append]; exact hl
  · rw [List.length_append]; simp only [List.length_cons, List.length_nil]; omega
  · rw [List.length_append]; simp only [List.length_cons, List.length_nil]
    split
    · rw [List.length_append]; simp only [List.length_cons, List.length_nil]; omega
    · omega
  · intro p hp
    rcases List.mem_append.1 hp with hp | hp
    · exact hI.plain p hp
    · rw [List.mem_singleton] at hp
      subst hp
      refine ⟨fun e => ?_, hd⟩
      have := congrArg List.length e
      rw [hll, List.length_nil] at this
      exact h0 this
  · intro p hp
    rcases List.mem_append.1 hp with hp | hp
    · exact hI.small p hp
    · rw [List.mem_singleton] at hp
      subst hp
      rw [hll]; exact h20
end
end Go.Proofs.YtjocegnhhhfbeaaGreatDoor

namespace Go.Proofs.YtjocegnhhhfbeaaGreatDoor
open Go.RowKit

theorem lab_extract (s : ByteArray) (a : Nat) (c : Nat) : s.extract (a + 1) (a + 1 + c) = ⟨(labAt s.data.toList a c).toArray⟩ := by
  apply data_eq
  unfold labAt; rw [Lib.extract_data, List.drop_take]

theorem joinD_nine {P : List (List UInt8)} (h : ∀ p ∈ P, p.length ≤ 20) (h9 : P.length ≤ 9) : (joinD P).length ≤ 1048576 := by
  have h1 := joinD_tot P
  have h2 : ∀ Q : List (List UInt8), (∀ p ∈ Q, p.length ≤ 20) → tot Q ≤ 20 * Q.length := by
    intro Q
    induction Q with
    | nil => intro _; simp [tot]
    | cons q r ih =>
      intro hq
      have a1 := hq q (by simp)
      have a2 := ih (fun p hp => hq p (by simp [hp]))
      have a3 : tot (q :: r) = q.length + tot r := by simp [tot]
      rw [a3]; simp; omega
  have := h2 P h
  omega
theorem dot_mem {x : ByteArray} {l : List UInt8} {k : Nat} (hx : x = ⟨l.toArray⟩) (hk : k < x.size) (hd : x[k] = 46) : 46 ∈ l := by
  subst hx
  rw [← hd]
  exact List.getElem_mem (l := l) (by simpa [size_list] using hk)
theorem no_dot {x : ByteArray} {l : List UInt8} (hx : x = ⟨l.toArray⟩) (h : ∀ j, (hj : j < x.size) → x[j] ≠ 46) : 46 ∉ l := by
  subst hx
  intro hm
  obtain ⟨j, hj, e⟩ := List.mem_iff_getElem.1 hm
  exact h j (by simpa [size_list] using hj) e

theorem index_next (s : ByteArray) (a : Nat) (w : World) (h : a + 1 < s.size) : Sem.run Tryz.prog (Instr.index 9 (.string s) (.int .i64 ((a : Int) + 1))) w = .ok (.int .u8 (s[a + 1].toNat : Int)) w := by
  rw [run_index_string _ _ _ _ _ Tryz.underlying9, dif_pos ⟨by omega, by omega⟩]
  have e : ((a : Int) + 1).toNat = a + 1 := by omega
  simp only [e]

end Go.Proofs.YtjocegnhhhfbeaaGreatDoor

namespace Go.Proofs.YtjocegnhhhfbeaaGreatDoor
open Go.RowKit

/-- What is read at any place of any bytes. -/
def tkI (l : List UInt8) (a : Int) : Option (List UInt8 × Nat × List Nat) := if l.length ≤ 600 ∧ 0 ≤ a ∧ a < (l.length : Int) then takeN l a.toNat else none
theorem tkI_in {s : ByteArray} {a : Nat} (hs : s.size ≤ 600) (ha : a < s.size) : tkI s.data.toList (a : Int) = takeN s.data.toList a := by
  unfold tkI; rw [data_len, if_pos ⟨hs, by omega, by omega⟩]; rfl
theorem tkI_none {s : ByteArray} {a : Int} (h : ¬ (s.size ≤ 600 ∧ 0 ≤ a ∧ a < (s.size : Int))) : tkI s.data.toList a = none := by
  unfold tkI; rw [data_len, if_neg h]
theorem tkI_nat {s : ByteArray} {a : Nat} (hs : s.size ≤ 600) : tkI s.data.toList (a : Int) = takeN s.data.toList a := by
  by_cases ha : a < s.size
  · exact tkI_in hs ha
  · rw [tkI_none (by omega)]
    exact (going_out (going_start s.data.toList a (by rw [data_len]; omega)) (by rw [data_len]; exact ha)).symm
def nmT : Option (List UInt8 × Nat × List Nat) → List UInt8
  | none => []
  | some (nm, _, _) => nm
def nmE : Option (List UInt8 × Nat × List Nat) → Nat
  | none => 0
  | some (_, en, _) => en

def tkVal (R : Option (List UInt8 × Nat × List Nat)) : Value := .tuple #[.string ⟨(nmT R).toArray⟩, .int .i64 ((nmE R : Nat) : Int), .bool R.isSome]
theorem tk_ret {R R' : Option (List UInt8 × Nat × List Nat)} (h : R = R') : Ending.returned (tkVal R') = .returned (tkVal R) := by rw [h]

/-- The same of bytes of any number. -/
def tkP (l : List UInt8) (a : Int) : Option (List UInt8 × Nat × List Nat) := if 0 ≤ a ∧ a < (l.length : Int) then takeN l a.toNat else none
theorem tkP_none {s : ByteArray} {a : Int} (h : ¬ (0 ≤ a ∧ a < (s.size : Int))) : tkP s.data.toList a = none := by
  unfold tkP; rw [data_len, if_neg h]
theorem tkP_nat {s : ByteArray} {a : Nat} (hs : s.size ≤ 70000) : tkP s.data.toList (a : Int) = takeN s.data.toList a := by
  by_cases ha : a < s.size
  · unfold tkP; rw [data_len, if_pos ⟨by omega, by omega⟩]; rfl
  · rw [tkP_none (by omega)]
    exact (going_out (going_start s.data.toList a (by rw [data_len]; omega)) (by rw [data_len]; exact ha)).symm
theorem tkI_P {s : ByteArray} {a : Int} (hs : s.size ≤ 600) : tkI s.data.toList a = tkP s.data.toList a := by
  unfold tkI tkP; rw [data_len]
  by_cases h : 0 ≤ a ∧ a < (s.size : Int)
  · rw [if_pos ⟨hs, h⟩, if_pos h]
  · rw [if_neg (fun hh => h hh.2), if_neg h]




end Go.Proofs.YtjocegnhhhfbeaaGreatDoor
