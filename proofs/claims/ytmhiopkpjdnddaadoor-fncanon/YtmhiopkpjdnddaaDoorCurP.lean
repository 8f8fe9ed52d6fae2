import Derived.Test.YtmhiopkpjdnddaaDoorCur
namespace Go.Proofs.YtmhiopkpjdnddaaDoor
open Go.RowKit

/-- The cursor at the B-th byte at most. -/
def CurB (w : World) (g : Nat) (v : Value) (P : List Int) (B : Nat) : Prop := ∃ p, p ≤ B ∧ CurOk w g v P p
theorem CurB.mono {w : World} {g : Nat} {v : Value} {P : List Int} {B C : Nat} (h : CurB w g v P B) (hbc : B ≤ C) : CurB w g v P C := by
  obtain ⟨p, hp, h⟩ := h; exact ⟨p, by omega, h⟩
/-- What else is made or drawn leaves the cursor alone. -/
theorem CurB.kpt {w w' : World} {g : Nat} {v : Value} {P : List Int} {B : Nat} {S : Nat → Prop} (h : CurB w g v P B) (hk : Kpt w w' S) (hg : ¬ S g) (hn : 0 < P.length → ∀ k, v.ownBlock = some k → ¬ S k) : CurB w' g v P B := by
  obtain ⟨p, hp, ⟨s, hs, hb⟩, hr, hne, hby⟩ := h
  have hlt : g < w.heap.size := (Array.getElem?_eq_some_iff.1 hb).1
  exact ⟨p, hp, ⟨s, hs, (hk.block g hlt hg).trans hb⟩, hr.kpt hk hn, hne, hby⟩
theorem CurB.lt {w : World} {g : Nat} {v : Value} {P : List Int} {B : Nat} (h : CurB w g v P B) : g < w.heap.size := by
  obtain ⟨p, hp, ⟨s, hs, hb⟩, _⟩ := h
  exact (Array.getElem?_eq_some_iff.1 hb).1
theorem CurB.drew {w : World} {g : Nat} {v : Value} {P : List Int} {B : Nat} (h : CurB w g v P B) (n : Nat) : CurB (w.drewN n) g v P B := h.kpt (S := fun _ => False) (kpt_drew (Kpt.refl w _) n) id (fun _ _ _ => id)

theorem nextB_any (g : Nat) (v : Value) (P : List Int) (B : Nat) (w : World) (hc : CurB w g v P B) (hB : B ≤ 1099511627776) (hl : P.length ≤ 9223372036854775807) :
    Calls Tryd.prog 66 #[.pointer (some ⟨g, 0, none⟩)] w fun e w' => ∃ x : Int, e = .returned (.int .i64 x) ∧ (0 ≤ x ∧ x ≤ 255) ∧ CurB w' g v P (B + 1) ∧ Kpt w w' (· = g) := by
  obtain ⟨p, hp, hc⟩ := hc
  refine (next_any g v P p w hc (by omega) hl).mono ?_
  rintro e w' ⟨x, he, hx, hc', hk⟩
  exact ⟨x, he, hx, ⟨p + 1, by omega, hc'⟩, hk⟩

set_option maxRecDepth 20000 in
set_option maxHeartbeats 1000000 in
theorem pick_any (n : Int) (g : Nat) (v : Value) (P : List Int) (B : Nat) (w : World) (hc : CurB w g v P B) (hB : B ≤ 1000000000000) (hl : P.length ≤ 9223372036854775807) (hn : 1 ≤ n ∧ n ≤ 65536) :
    Calls Tryd.prog 43 #[.pointer (some ⟨g, 0, none⟩), .int .i64 n] w fun e w' => ∃ x : Int, e = .returned (.int .i64 x) ∧ (0 ≤ x ∧ x < n) ∧ CurB w' g v P (B + 2) ∧ Kpt w w' (· = g) := by
  have HC : Hid (CurB w g v P B) := hc
  clear hc
  by_cases h1 : n ≤ 1
  · go_enter Tryd.func43, Tryd.ntmps43
    go_wp2_with fail
    go_ret
    exact ⟨0, rfl, by omega, HC.out.mono (by omega), Kpt.refl _ _⟩
  · by_cases h2 : n ≤ 200
    · go_enter Tryd.func43, Tryd.ntmps43
      go_wp2_with fail
      refine (nextB_any g v P B _ HC.out (by omega) hl).mono ?_
      rintro e w1 ⟨x, rfl, hx, hc1, hk1⟩
      have HC1 : Hid (CurB w1 g v P (B + 1)) := hc1
      clear hc1
      have hn0 : ¬ n = 0 := by omega
      go_wp2_with fail
      go_ret
      exact ⟨_, rfl, ⟨Int.emod_nonneg _ (by omega), Int.emod_lt_of_pos _ (by omega)⟩, HC1.out.mono (by omega), hk1⟩
    · go_enter Tryd.func43, Tryd.ntmps43
      go_wp2_with fail
      refine (nextB_any g v P B _ HC.out (by omega) hl).mono ?_
      rintro e w1 ⟨x, rfl, hx, hc1, hk1⟩
      have HC1 : Hid (CurB w1 g v P (B + 1)) := hc1
      clear hc1
      have hn0 : ¬ n = 0 := by omega
      go_wp2_with fail
      refine (nextB_any g v P (B + 1) _ HC1.out (by omega) hl).mono ?_
      rintro e w2 ⟨y, rfl, hy, hc2, hk2⟩
      have HC2 : Hid (CurB w2 g v P (B + 2)) := hc2
      clear hc2
      go_wp2_with fail
      go_ret
      exact ⟨_, rfl, ⟨Int.emod_nonneg _ (by omega), Int.emod_lt_of_pos _ (by omega)⟩, HC2.out, hk1.trans hk2⟩
end Go.Proofs.YtmhiopkpjdnddaaDoor
