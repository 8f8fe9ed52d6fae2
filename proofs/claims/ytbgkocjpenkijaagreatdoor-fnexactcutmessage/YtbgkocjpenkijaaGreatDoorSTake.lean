import Derived.Test.YtbgkocjpenkijaaGreatDoorReadN
namespace Go.Proofs.YtbgkocjpenkijaaGreatDoor
open Go.RowKit

def endI : Option Nat → Int
  | none => -1
  | some e => (e : Int)

/-- The state of the specification's reading. -/
structure InvS (w0 : World) (l : List UInt8) (R : Option (List UInt8 × Nat × List Nat)) (w : World) (vpl vlb : Value) (here low : Nat) (pt : Option Nat) (raw : List (List UInt8)) (pl : List Nat) : Prop where
  going : Going l R here low pt raw pl
  labels : w.ownsRow w0.heap.size 9 1 vlb raw.length (raw.map S)
  places : w.ownsRow w0.heap.size 3 1 vpl pl.length (pl.map I64)
  below : Below w0.heap.size w0 w
  hhere : here ≤ 4000
  hlow : low ≤ 4000
  nine : raw.length ≤ 9
  few : pl.length ≤ raw.length
  plain : Plain raw
  small : ∀ p ∈ raw, p.length ≤ 20
  bhle : endI pt ≤ 4002 ∧ -1 ≤ endI pt

/-- What l2Take tells. -/
def TkSpec (w0 : World) (R : Option (List UInt8 × Nat × List Nat)) (e : Ending) (w' : World) : Prop :=
  (R = none → ∃ (x : ByteArray) (n : Int) (v : Value), e = .returned (.tuple #[.string x, .int .i64 n, v, .bool false])) ∧
  (∀ nm en pl, R = some (nm, en, pl) → ∃ v, e = .returned (.tuple #[.string ⟨nm.toArray⟩, .int .i64 ((en : Nat) : Int), v, .bool true]) ∧ w'.ownsRow w0.heap.size 3 1 v pl.length (pl.map I64)) ∧ Below w0.heap.size w0 w'
theorem tks_none {w0 w' : World} {R : Option (List UInt8 × Nat × List Nat)} {e : Ending} {x : ByteArray} {n : Int} {v : Value} (h : R = none) (he : e = .returned (.tuple #[.string x, .int .i64 n, v, .bool false])) (hb : Below w0.heap.size w0 w') : TkSpec w0 R e w' :=
  ⟨fun _ => ⟨x, n, v, he⟩, fun _ _ _ h2 => (by rw [h] at h2; cases h2), hb⟩
theorem tks_some {w0 w' : World} {R : Option (List UInt8 × Nat × List Nat)} {e : Ending} {nm : List UInt8} {en : Nat} {pl : List Nat} {v : Value} (h : R = some (nm, en, pl)) (he : e = .returned (.tuple #[.string ⟨nm.toArray⟩, .int .i64 ((en : Nat) : Int), v, .bool true]))
    (hp : w'.ownsRow w0.heap.size 3 1 v pl.length (pl.map I64)) (hb : Below w0.heap.size w0 w') : TkSpec w0 R e w' := by
  refine ⟨fun h2 => (by rw [h] at h2; cases h2), fun nm2 en2 pl2 h2 => ?_, hb⟩
  rw [h] at h2
  simp only [Option.some.injEq, Prod.mk.injEq] at h2
  obtain ⟨rfl, rfl, rfl⟩ := h2
  exact ⟨v, he, hp⟩

theorem own_slice {w : World} {base : Nat} {e : TypeId} {v : Value} {n : Nat} {xs : List Value} (h : w.ownsRow base e 1 v n xs) : ∃ a cap, v = .slice a n cap ∧ n ≤ cap ∧ cap ≤ 9223372036854775807 := by
  obtain ⟨_, ⟨rfl, rfl⟩ | ⟨g, cap, cur, rfl, _, _, hc, hm, _⟩⟩ := h
  · exact ⟨_, _, rfl, Nat.le_refl _, by omega⟩
  · exact ⟨_, _, rfl, hc, by unfold maxLen at hm; omega⟩

theorem invs_start (w : World) (s : ByteArray) (a : Nat) (hs : s.size ≤ 4000) (ha : a < s.size) : InvS w s.data.toList (takeN s.data.toList a) w (.slice none 0 0) (.slice none 0 0) a a none [] [] where
  going := going_start _ _ (by simpa using hs)
  labels := World.ownsRow_nil _ _ _ _
  places := World.ownsRow_nil _ _ _ _
  below := Below.refl _ _
  hhere := by omega
  hlow := by omega
  nine := by simp
  few := Nat.le_refl _
  plain := fun p hp => by cases hp
  small := fun p hp => by cases hp
  bhle := by simp [endI]

section
variable {w0 w w2 : World} {s : ByteArray} {R : Option (List UInt8 × Nat × List Nat)} {vpl vlb v1 v2 : Value} {here low q : Nat} {pt : Option Nat} {raw : List (List UInt8)} {pl : List Nat}
theorem data_len (s : ByteArray) : s.data.toList.length = s.size := by simp
theorem invs_out (hI : InvS w0 s.data.toList R w vpl vlb here low pt raw pl) (h : ¬ here < s.size) : R = none := going_out hI.going (by rw [data_len]; exact h)
theorem invs_ptr_out (hI : InvS w0 s.data.toList R w vpl vlb here low pt raw pl) (h : here < s.size) (h1 : 192 ≤ s[here].toNat) (h2 : ¬ here + 1 < s.size) : R = none :=
  going_ptr_out hI.going (show here < s.data.toList.length by rw [data_len]; exact h) h1 (by rw [data_len]; exact h2)
theorem invs_ptr_no (hI : InvS w0 s.data.toList R w vpl vlb here low pt raw pl) (h2 : here + 1 < s.size) (h1 : 192 ≤ s[here].toNat) (hq : q = (s[here].toNat - 192) * 256 + s[here + 1].toNat) (h3 : ¬ q < low) : R = none :=
  going_ptr_no hI.going (show here < s.data.toList.length by rw [data_len]; omega) h1 (show here + 1 < s.data.toList.length by rw [data_len]; exact h2) (by rw [hq] at h3; exact h3)
theorem invs_ptr (hs : s.size ≤ 4000) (hI : InvS w0 s.data.toList R w vpl vlb here low pt raw pl) (h2 : here + 1 < s.size) (h1 : 192 ≤ s[here].toNat) (hq : q = (s[here].toNat - 192) * 256 + s[here + 1].toNat) (h3 : q < low) :
    InvS w0 s.data.toList R w vpl vlb q q (some (pt.getD (here + 2))) raw pl ∧ ms s.data.toList q q < ms s.data.toList here low := by
  have hg := going_ptr hI.going (by rw [data_len]; exact hs) (show here < s.data.toList.length by rw [data_len]; omega) h1 (show here + 1 < s.data.toList.length by rw [data_len]; exact h2) hq h3
  have hl := hI.hlow
  have hb := hI.bhle
  refine ⟨⟨hg.1, hI.labels, hI.places, hI.below, by omega, by omega, hI.nine, hI.few, hI.plain, hI.small, ?_⟩, hg.2⟩
  cases pt with
  | none => simp [endI]; omega
  | some e => exact hb
theorem invs_mid (hI : InvS w0 s.data.toList R w vpl vlb here low pt raw pl) (h : here < s.size) (h1 : ¬ s[here].toNat ≤ 20) (h2 : ¬ 192 ≤ s[here].toNat) : R = none :=
  going_mid hI.going (show here < s.data.toList.length by rw [data_len]; exact h) h1 h2
theorem invs_lab_out (hI : InvS w0 s.data.toList R w vpl vlb here low pt raw pl) (h : here < s.size) (h0 : ¬ s[here].toNat = 0) (h1 : s[here].toNat ≤ 20) (h2 : ¬ here + s[here].toNat < s.size) : R = none :=
  going_lab_out hI.going (show here < s.data.toList.length by rw [data_len]; exact h) h0 h1 (show ¬ here + s[here].toNat < s.data.toList.length by rw [data_len]; exact h2)
theorem invs_dot (hI : InvS w0 s.data.toList R w vpl vlb here low pt raw pl) (h : here < s.size) (h0 : ¬ s[here].toNat = 0) (h1 : s[here].toNat ≤ 20) (h2 : here + s[here].toNat < s.size) (hd : 46 ∈ labAt s.data.toList here s[here].toNat) : R = none := by
  have hg := going_lab hI.going (show here < s.data.toList.length by rw [data_len]; exact h) h0 h1 (show here + s[here].toNat < s.data.toList.length by rw [data_len]; exact h2)
  obtain ⟨n, hn, hr⟩ := hg.1
  rw [← hr]
  exact nmR_dot (List.mem_append.2 (.inr (List.mem_singleton.2 rfl))) hd
theorem invs_end (hI : InvS w0 s.data.toList R w vpl vlb here low pt raw pl) (h : here < s.size) (h0 : s[here].toNat = 0) : R = nmR (some (raw, pt.getD (here + 1), pl)) :=
  going_end hI.going (show here < s.data.toList.length by rw [data_len]; exact h) h0
theorem invs_lab (hs : s.size ≤ 4000) (hI : InvS w0 s.data.toList R w vpl vlb here low pt raw pl) (h8 : raw.length ≤ 8) (hlt : here < s.size) (h0 : ¬ s[here].toNat = 0) (h20 : s[here].toNat ≤ 20) (hin : here + s[here].toNat < s.size) (hd : 46 ∉ labAt s.data.toList here s[here].toNat)
    (hl : w2.ownsRow w0.heap.size 9 1 v2 (raw.length + 1) (raw.map S ++ [S (labAt s.data.toList here s[here].toNat)]))
    (hp : w2.ownsRow w0.heap.size 3 1 v1 (if pt = none then pl ++ [here] else pl).length ((if pt = none then pl ++ [here] else pl).map I64)) (hb : Below w0.heap.size w0 w2) :
    InvS w0 s.data.toList R w2 v1 v2 (here + 1 + s[here].toNat) low pt (raw ++ [labAt s.data.toList here s[here].toNat]) (if pt = none then pl ++ [here] else pl) ∧ ms s.data.toList (here + 1 + s[here].toNat) low < ms s.data.toList here low := by
  have hg := going_lab hI.going (show here < s.data.toList.length by rw [data_len]; exact hlt) h0 h20 (show here + s[here].toNat < s.data.toList.length by rw [data_len]; exact hin)
  have hll := labAt_length (l := s.data.toList) (a := here) (c := s[here].toNat) (by rw [data_len]; exact hin)
  have hf := hI.few
  have h2 : ms s.data.toList (here + 1 + s[here].toNat) low + 1 + s[here].toNat ≤ ms s.data.toList here low := hg.2
  refine ⟨⟨hg.1, ?_, hp, hb, by omega, hI.hlow, ?_, ?_, ?_, ?_, hI.bhle⟩, by omega⟩
  · rw [List.map_append, List.length_append]; exact hl
  · rw [List.length_append]; simp only [List.length_cons, List.length_nil]; omega
  · rw [List.length_append]; simp only [List.length_cons, List.length_nil]
    split
    · rw [List.length_append]; simp only [List.length_cons, List.length_nil]; omega
    · omega
  · intro p hp
    rcases List.mem_append.1 hp with hp | hp
    · exact hI.plain p hp
    · rw [List.mem_singleton] at hp
      subst hp
      refine ⟨fun e => ?_, hd⟩
      have := congrArg List.length e
      rw [hll, List.length_nil] at this
      exact h0 this
  · intro p hp
    rcases List.mem_append.1 hp with hp | hp
    · exact hI.small p hp
    · rw [List.mem_singleton] at hp
      subst hp
      rw [hll]; exact h20
end
end Go.Proofs.YtbgkocjpenkijaaGreatDoor
