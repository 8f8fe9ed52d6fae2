import Derived.Test.YtoopfmebpjojiaaDoorHeT
namespace Go.Proofs.YtoopfmebpjojiaaDoor
open Go.RowKit

/-- What RowOf tells. -/
def rowV (ri fa : Int) (L : List HosT) (n : Int) : Int × Bool := if goodH ri fa L = true ∧ 0 ≤ n ∧ n < (L.length : Int) then ((L.getD n.toNat ([], false, 0)).2.2, true) else (0, false)
/-- What IsUp tells. -/
def upO (ri fa : Int) (L : List HosT) (s : List UInt8) : Bool × Bool := if goodH ri fa L = true then match upV L s with
  | none => (false, false)
  | some x => (x.2.1, true) else (false, false)
theorem ret_pair {a b c d : Value} (h : a = c) (k : b = d) : Ending.returned (.tuple #[a, b]) = .returned (.tuple #[c, d]) := by rw [h, k]
theorem row_yes {ri fa : Int} {L : List HosT} {j : Nat} (hg : goodH ri fa L = true) (hj : j < L.length) : rowV ri fa L (j : Int) = (L[j].2.2, true) := by
  unfold rowV
  rw [if_pos ⟨hg, by omega, by omega⟩, Int.toNat_natCast, List.getD_eq_getElem?_getD, List.getElem?_eq_getElem hj]; rfl
theorem row_off {ri fa : Int} {L : List HosT} {n : Int} (h : goodH ri fa L = false ∨ ¬ (0 ≤ n ∧ n < (L.length : Int))) : rowV ri fa L n = (0, false) := by
  unfold rowV
  rw [if_neg]
  rintro ⟨h1, h2⟩
  rcases h with h | h
  · rw [h1] at h; cases h
  · exact h h2
theorem in_at {n : Int} {k : Nat} (h : inB n 0 ((k : Int) - 1) = true) : ∃ j : Nat, n = (j : Int) ∧ j < k := by
  simp only [inB, Bool.and_eq_true, decide_eq_true_eq] at h
  exact ⟨n.toNat, by omega, by omega⟩
theorem in_off {n : Int} {k : Nat} (h : inB n 0 ((k : Int) - 1) = false) : ¬ (0 ≤ n ∧ n < (k : Int)) := by
  intro ⟨h1, h2⟩
  have : inB n 0 ((k : Int) - 1) = true := by simp only [inB, Bool.and_eq_true, decide_eq_true_eq]; omega
  rw [this] at h; cases h

set_option maxRecDepth 20000 in
set_option maxHeartbeats 400000 in
theorem isNumberIn_any (ri fa n : Int) (v : Value) (L : List HosT) (w : World) (hr : HstRow w v L) (hl : L.length ≤ 1048576) :
    Calls Tryd.prog 52 #[HeaV ri fa v, .int .i64 n] w fun e w' => e = .returned (.bool (inB n 0 ((L.length : Int) - 1))) ∧ Below w.heap.size w w' := by
  unfold HeaV
  obtain ⟨a, cap, rfl, hcap, hmax, _⟩ := hst_value hr
  have hb0 : Below w.heap.size w (w.alloc (.cells #[.int .i64 ri, .int .i64 fa, .slice a L.length cap] 26)) := (Below.refl w.heap.size w).alloc (Nat.le_refl _) _
  clear hr
  go_enter Tryd.func52, Tryd.ntmps52
  go_wp2_with fail
  refine (iWithin_any n 0 ((L.length : Int) - 1) _).mono ?_
  rintro e w1 ⟨rfl, rfl⟩
  go_wp2_with fail
  go_ret
  exact ⟨rfl, hb0⟩


set_option maxRecDepth 20000 in
set_option maxHeartbeats 1000000 in
theorem iRowOf_any (ri fa n : Int) (v : Value) (L : List HosT) (w : World) (hr : HstRow w v L) (hl : L.length ≤ 1048576) (hE : Env w) :
    Calls Tryd.prog 38 #[HeaV ri fa v, .int .i64 n] w fun e w' => e = .returned (.tuple #[.int .i64 (rowV ri fa L n).1, .bool (rowV ri fa L n).2]) ∧ Below w.heap.size w w' := by
  have HG : Hid (∀ W, Below w.heap.size w W → Calls Tryd.prog 22 #[HeaV ri fa v] W fun e w' => e = .returned (.bool (goodH ri fa L)) ∧ Below W.heap.size W w') := fun W hW => iGoodHealth_any ri fa v L W (hr.kept hW) (hE.below hW)
  have HN : Hid (∀ W, Below w.heap.size w W → Calls Tryd.prog 52 #[HeaV ri fa v, .int .i64 n] W fun e w' => e = .returned (.bool (inB n 0 ((L.length : Int) - 1))) ∧ Below W.heap.size W w') := fun W hW => isNumberIn_any ri fa n v L W (hr.kept hW) hl
  obtain ⟨ans, hans⟩ : ∃ ans, ans = rowV ri fa L n := ⟨_, rfl⟩
  rw [← hans]
  have HOFF : Hid (goodH ri fa L = false ∨ ¬ (0 ≤ n ∧ n < (L.length : Int)) → ans = (0, false)) := fun h => by rw [hans]; exact row_off h
  have HYES : Hid (∀ j, goodH ri fa L = true → (hj : j < L.length) → n = (j : Int) → ans = (L[j].2.2, true)) := fun j h hj e => by rw [hans, e]; exact row_yes h hj
  unfold HeaV at HG HN ⊢
  obtain ⟨a, cap, rfl, hcap, hmax, HROW⟩ := hst_value hr
  have hb0 : Below w.heap.size w (w.alloc (.cells #[.int .i64 ri, .int .i64 fa, .slice a L.length cap] 26)) := (Below.refl w.heap.size w).alloc (Nat.le_refl _) _
  clear hr hans
  cases hg : goodH ri fa L with
  | false =>
    have HR : Hid (ans = (0, false)) := HOFF.out (.inl hg)
    rw [hg] at HG
    go_enter Tryd.func38, Tryd.ntmps38
    go_wp2_with fail
    refine (HG.out _ hb0).mono ?_
    rintro e w1 ⟨rfl, hb1⟩
    have hbw := (hea_cells hb1).2
    go_wp2_with fail
    go_ret2
    exact ⟨ret_two (by rw [HR.out]; first | done | rfl) (by rw [HR.out]; first | done | rfl), hbw⟩
  | true =>
    rw [hg] at HG
    cases hn : inB n 0 ((L.length : Int) - 1) with
    | false =>
      have HR : Hid (ans = (0, false)) := HOFF.out (.inr (in_off hn))
      rw [hn] at HN
      clear hn
      go_enter Tryd.func38, Tryd.ntmps38
      go_wp2_with fail
      refine (HG.out _ hb0).mono ?_
      rintro e w1 ⟨rfl, hb1⟩
      obtain ⟨⟨d0, d1, d2⟩, hbw⟩ := hea_cells hb1
      go_wp2_with fail
      refine (HN.out _ hbw).mono ?_
      rintro e w2 ⟨rfl, hb2⟩
      have hbw2 := hbw.trans (hb2.mono hbw.size)
      go_wp2_with fail
      go_ret2
      exact ⟨ret_two (by rw [HR.out]; first | done | rfl) (by rw [HR.out]; first | done | rfl), hbw2⟩
    | true =>
      obtain ⟨j, hj, hjl⟩ := in_at hn
      have HR : Hid (ans = (L[j].2.2, true)) := HYES.out j hg hjl hj
      rw [hn] at HN
      subst hj
      obtain ⟨b, o, ha, hbl, hcel⟩ := HROW.out (by omega)
      have HC : Hid (∀ W, Below w.heap.size w W → W.cell? ⟨b, o + j * 3 + 2, none⟩ = some (.int .i64 L[j].2.2)) := fun W hW => ((hcel j hjl).kept hW).2.2
      obtain ⟨r, hr⟩ : ∃ r, r = L[j].2.2 := ⟨_, rfl⟩
      rw [← hr] at HR HC
      subst ha
      clear hn hcel hr HROW HOFF HYES
      go_enter Tryd.func38, Tryd.ntmps38
      go_wp2_with fail
      refine (HG.out _ hb0).mono ?_
      rintro e w1 ⟨rfl, hb1⟩
      obtain ⟨⟨d0, d1, d2⟩, hbw⟩ := hea_cells hb1
      go_wp2_with fail
      refine (HN.out _ hbw).mono ?_
      rintro e w2 ⟨rfl, hb2⟩
      have hbw2 := hbw.trans (hb2.mono hbw.size)
      have hb12 := hb1.trans (hb2.mono hb1.size)
      clear d0 d1 d2
      obtain ⟨⟨d0, d1, d2⟩, _⟩ := hea_cells hb12
      have c2 := HC.out _ hbw2
      go_wp2_with fail
      go_ret2
      exact ⟨ret_two (by rw [HR.out]; first | done | rfl) (by rw [HR.out]; first | done | rfl), hbw2⟩

set_option maxRecDepth 20000 in
set_option maxHeartbeats 1000000 in
theorem sRowOf_any (ri fa n : Int) (v : Value) (L : List HosT) (w : World) (hr : HstRow w v L) (hl : L.length ≤ 1048576) (hx : Hid (∀ x ∈ L, x.1.length ≤ 1048576)) :
    Calls Tryd.prog 37 #[HeaV ri fa v, .int .i64 n] w fun e w' => e = .returned (.tuple #[.int .i64 (rowV ri fa L n).1, .bool (rowV ri fa L n).2]) ∧ Below w.heap.size w w' := by
  have HG : Hid (∀ W, Below w.heap.size w W → Calls Tryd.prog 20 #[HeaV ri fa v] W fun e w' => e = .returned (.bool (goodH ri fa L)) ∧ Below W.heap.size W w') := fun W hW => sGoodHealth_any ri fa v L W (hr.kept hW) hl hx
  have HN : Hid (∀ W, Below w.heap.size w W → Calls Tryd.prog 39 #[.int .i64 n, .int .i64 0, .int .i64 ((L.length : Int) - 1)] W fun e w' => e = .returned (.bool (inB n 0 ((L.length : Int) - 1))) ∧ Below W.heap.size W w') := fun W _ => (l1In_any n 0 _ W).mono fun e w' h => ⟨h.1, by rw [h.2]; exact Below.refl _ _⟩
  obtain ⟨ans, hans⟩ : ∃ ans, ans = rowV ri fa L n := ⟨_, rfl⟩
  rw [← hans]
  have HOFF : Hid (goodH ri fa L = false ∨ ¬ (0 ≤ n ∧ n < (L.length : Int)) → ans = (0, false)) := fun h => by rw [hans]; exact row_off h
  have HYES : Hid (∀ j, goodH ri fa L = true → (hj : j < L.length) → n = (j : Int) → ans = (L[j].2.2, true)) := fun j h hj e => by rw [hans, e]; exact row_yes h hj
  unfold HeaV at HG ⊢
  obtain ⟨a, cap, rfl, hcap, hmax, HROW⟩ := hst_value hr
  have hb0 : Below w.heap.size w (w.alloc (.cells #[.int .i64 ri, .int .i64 fa, .slice a L.length cap] 26)) := (Below.refl w.heap.size w).alloc (Nat.le_refl _) _
  clear hr hans
  cases hg : goodH ri fa L with
  | false =>
    have HR : Hid (ans = (0, false)) := HOFF.out (.inl hg)
    rw [hg] at HG
    go_enter Tryd.func37, Tryd.ntmps37
    go_wp2_with fail
    refine (HG.out _ hb0).mono ?_
    rintro e w1 ⟨rfl, hb1⟩
    have hbw := (hea_cells hb1).2
    go_wp2_with fail
    go_ret2
    exact ⟨ret_two (by rw [HR.out]; first | done | rfl) (by rw [HR.out]; first | done | rfl), hbw⟩
  | true =>
    rw [hg] at HG
    cases hn : inB n 0 ((L.length : Int) - 1) with
    | false =>
      have HR : Hid (ans = (0, false)) := HOFF.out (.inr (in_off hn))
      rw [hn] at HN
      clear hn
      go_enter Tryd.func37, Tryd.ntmps37
      go_wp2_with fail
      refine (HG.out _ hb0).mono ?_
      rintro e w1 ⟨rfl, hb1⟩
      obtain ⟨⟨d0, d1, d2⟩, hbw⟩ := hea_cells hb1
      go_wp2_with fail
      refine (HN.out _ hbw).mono ?_
      rintro e w2 ⟨rfl, hb2⟩
      have hbw2 := hbw.trans (hb2.mono hbw.size)
      go_wp2_with fail
      go_ret2
      exact ⟨ret_two (by rw [HR.out]; first | done | rfl) (by rw [HR.out]; first | done | rfl), hbw2⟩
    | true =>
      obtain ⟨j, hj, hjl⟩ := in_at hn
      have HR : Hid (ans = (L[j].2.2, true)) := HYES.out j hg hjl hj
      rw [hn] at HN
      subst hj
      obtain ⟨b, o, ha, hbl, hcel⟩ := HROW.out (by omega)
      have HC : Hid (∀ W, Below w.heap.size w W → W.cell? ⟨b, o + j * 3 + 2, none⟩ = some (.int .i64 L[j].2.2)) := fun W hW => ((hcel j hjl).kept hW).2.2
      obtain ⟨r, hr⟩ : ∃ r, r = L[j].2.2 := ⟨_, rfl⟩
      rw [← hr] at HR HC
      subst ha
      clear hn hcel hr HROW HOFF HYES
      go_enter Tryd.func37, Tryd.ntmps37
      go_wp2_with fail
      refine (HG.out _ hb0).mono ?_
      rintro e w1 ⟨rfl, hb1⟩
      obtain ⟨⟨d0, d1, d2⟩, hbw⟩ := hea_cells hb1
      go_wp2_with fail
      refine (HN.out _ hbw).mono ?_
      rintro e w2 ⟨rfl, hb2⟩
      have hbw2 := hbw.trans (hb2.mono hbw.size)
      have hb12 := hb1.trans (hb2.mono hb1.size)
      clear d0 d1 d2
      obtain ⟨⟨d0, d1, d2⟩, _⟩ := hea_cells hb12
      have c2 := HC.out _ hbw2
      go_wp2_with fail
      go_ret2
      exact ⟨ret_two (by rw [HR.out]; first | done | rfl) (by rw [HR.out]; first | done | rfl), hbw2⟩

set_option maxRecDepth 20000 in
set_option maxHeartbeats 1000000 in
theorem iIsUp_any (ri fa : Int) (s : List UInt8) (v : Value) (L : List HosT) (w : World) (hr : HstRow w v L) (hE : Env w) :
    Calls Tryd.prog 36 #[HeaV ri fa v, .string ⟨s.toArray⟩] w fun e w' => e = .returned (.tuple #[.bool (upO ri fa L s).1, .bool (upO ri fa L s).2]) ∧ Below w.heap.size w w' := by
  have HG : Hid (∀ W, Below w.heap.size w W → Calls Tryd.prog 22 #[HeaV ri fa v] W fun e w' => e = .returned (.bool (goodH ri fa L)) ∧ Below W.heap.size W w') := fun W hW => iGoodHealth_any ri fa v L W (hr.kept hW) (hE.below hW)
  have HN : Hid (∀ W, Below w.heap.size w W → Calls Tryd.prog 58 #[HeaV ri fa v, .string ⟨s.toArray⟩] W fun e w' => (∃ i : Int, e = .returned (.int .i64 i) ∧ FirstI (fun x => x.1 == s) L i) ∧ Below W.heap.size W w') := fun W hW => firstNamed_any ri fa v L s W (hr.kept hW)
  obtain ⟨ans, hans⟩ : ∃ ans, ans = upO ri fa L s := ⟨_, rfl⟩
  rw [← hans]
  have HOFF : Hid (goodH ri fa L = false → ans = (false, false)) := fun h => by rw [hans]; unfold upO; rw [h]; rfl
  have HNO : Hid (goodH ri fa L = true → upV L s = none → ans = (false, false)) := fun h e => by rw [hans]; unfold upO; rw [h, e]; rfl
  have HYES : Hid (∀ x, goodH ri fa L = true → upV L s = some x → ans = (x.2.1, true)) := fun x h e => by rw [hans]; unfold upO; rw [h, e]; rfl
  unfold HeaV at HG HN ⊢
  obtain ⟨a, cap, rfl, hcap, hmax, HROW⟩ := hst_value hr
  have hb0 : Below w.heap.size w (w.alloc (.cells #[.int .i64 ri, .int .i64 fa, .slice a L.length cap] 26)) := (Below.refl w.heap.size w).alloc (Nat.le_refl _) _
  clear hr hans
  cases hg : goodH ri fa L with
  | false =>
    have HR : Hid (ans = (false, false)) := HOFF.out hg
    rw [hg] at HG
    go_enter Tryd.func36, Tryd.ntmps36
    go_wp2_with fail
    refine (HG.out _ hb0).mono ?_
    rintro e w1 ⟨rfl, hb1⟩
    have hbw := (hea_cells hb1).2
    go_wp2_with fail
    go_ret2
    exact ⟨ret_two (by rw [HR.out]; first | done | rfl) (by rw [HR.out]; first | done | rfl), hbw⟩
  | true =>
    rw [hg] at HG
    go_enter Tryd.func36, Tryd.ntmps36
    go_wp2_with fail
    refine (HG.out _ hb0).mono ?_
    rintro e w1 ⟨rfl, hb1⟩
    obtain ⟨⟨d0, d1, d2⟩, hbw⟩ := hea_cells hb1
    go_wp2_with fail
    refine (HN.out _ hbw).mono ?_
    rintro e w2 ⟨⟨i, rfl, hi⟩, hb2⟩
    have hbw2 := hbw.trans (hb2.mono hbw.size)
    have hb12 := hb1.trans (hb2.mono hb1.size)
    clear d0 d1 d2
    rcases up_first hi with ⟨rfl, hu⟩ | ⟨k, hk, rfl, hu⟩
    · have HR : Hid (ans = (false, false)) := HNO.out hg hu
      clear hi hu
      go_wp2_with fail
      go_ret2
      exact ⟨ret_two (by rw [HR.out]; first | done | rfl) (by rw [HR.out]; first | done | rfl), hbw2⟩
    · have HR : Hid (ans = (L[k].2.1, true)) := HYES.out _ hg hu
      obtain ⟨b, o, ha, hbl, hcel⟩ := HROW.out (by omega)
      have c1 := ((hcel k hk).kept hbw2).2.1
      obtain ⟨u, hue⟩ : ∃ u, u = L[k].2.1 := ⟨_, rfl⟩
      rw [← hue] at HR c1
      obtain ⟨⟨d0, d1, d2⟩, _⟩ := hea_cells hb12
      subst ha
      clear hi hu hcel hue
      go_wp2_with fail
      go_ret2
      exact ⟨ret_two (by rw [HR.out]; first | done | rfl) (by rw [HR.out]; first | done | rfl), hbw2⟩

theorem find_none {L : List HosT} {s : List UInt8} (h : ∀ j, (hj : j < L.length) → j < L.length → L[j].1 ≠ s) : upV L s = none := by
  unfold upV
  rw [List.find?_eq_none]
  intro x hx
  obtain ⟨j, hj, rfl⟩ := List.getElem_of_mem hx
  have := h j hj hj
  simpa using this
theorem find_hit {L : List HosT} {s : List UInt8} {k : Nat} (hk : k < L.length) (h : ∀ j, (hj : j < L.length) → j < k → L[j].1 ≠ s) (e : L[k].1 = s) : upV L s = some L[k] := by
  unfold upV
  rw [List.find?_eq_some_iff_getElem]
  exact ⟨by simpa using e, k, hk, rfl, fun j hj => by have := h j (by omega) hj; simpa using this⟩

set_option maxRecDepth 20000 in
set_option maxHeartbeats 1000000 in
theorem sIsUp_any (ri fa : Int) (s : List UInt8) (v : Value) (L : List HosT) (w : World) (hr : HstRow w v L) (hl : L.length ≤ 1048576) (hx : Hid (∀ x ∈ L, x.1.length ≤ 1048576)) :
    Calls Tryd.prog 35 #[HeaV ri fa v, .string ⟨s.toArray⟩] w fun e w' => e = .returned (.tuple #[.bool (upO ri fa L s).1, .bool (upO ri fa L s).2]) ∧ Below w.heap.size w w' := by
  have HG : Hid (∀ W, Below w.heap.size w W → Calls Tryd.prog 20 #[HeaV ri fa v] W fun e w' => e = .returned (.bool (goodH ri fa L)) ∧ Below W.heap.size W w') := fun W hW => sGoodHealth_any ri fa v L W (hr.kept hW) hl hx
  obtain ⟨ans, hans⟩ : ∃ ans, ans = upO ri fa L s := ⟨_, rfl⟩
  rw [← hans]
  have HOFF : Hid (goodH ri fa L = false → ans = (false, false)) := fun h => by rw [hans]; unfold upO; rw [h]; rfl
  have HNO : Hid (goodH ri fa L = true → upV L s = none → ans = (false, false)) := fun h e => by rw [hans]; unfold upO; rw [h, e]; rfl
  have HYES : Hid (∀ x, goodH ri fa L = true → upV L s = some x → ans = (x.2.1, true)) := fun x h e => by rw [hans]; unfold upO; rw [h, e]; rfl
  unfold HeaV at HG ⊢
  obtain ⟨a, cap, rfl, hcap, hmax, HROW⟩ := hst_value hr
  have hb0 : Below w.heap.size w (w.alloc (.cells #[.int .i64 ri, .int .i64 fa, .slice a L.length cap] 26)) := (Below.refl w.heap.size w).alloc (Nat.le_refl _) _
  clear hr hans
  cases hg : goodH ri fa L with
  | false =>
    have HR : Hid (ans = (false, false)) := HOFF.out hg
    rw [hg] at HG
    go_enter Tryd.func35, Tryd.ntmps35
    go_wp2_with fail
    refine (HG.out _ hb0).mono ?_
    rintro e w1 ⟨rfl, hb1⟩
    have hbw := (hea_cells hb1).2
    go_wp2_with fail
    go_ret2
    exact ⟨ret_two (by rw [HR.out]; first | done | rfl) (by rw [HR.out]; first | done | rfl), hbw⟩
  | true =>
    rw [hg] at HG
    go_enter Tryd.func35, Tryd.ntmps35
    go_wp2_with fail
    refine (HG.out _ hb0).mono ?_
    rintro e w1 ⟨rfl, hb1⟩
    obtain ⟨⟨d0, d1, d2⟩, hbw⟩ := hea_cells hb1
    clear hb1 HG HOFF
    go_wp2_with fail
    go_loopw [14] (fun i wr => ∃ k : Nat, k ≤ L.length ∧ i = .int .i64 (k : Int) ∧ Hid (∀ j, (hj : j < L.length) → j < k → L[j].1 ≠ s) ∧ Below w.heap.size w wr) (fun i _ => L.length - (intOf i).toNat)
    case atStart => exact ⟨0, Nat.zero_le _, rfl, fun j _ h => absurd h (Nat.not_lt_zero _), hbw⟩
    case round =>
      obtain ⟨k, hk, rfl, HK, hb⟩ := hrel
      by_cases hlt : k < L.length
      · obtain ⟨b, o, ha, hbl, hcel⟩ := HROW.out (by omega)
        have hcx := (hcel k hlt).kept hb
        unfold HstAt at hcx
        obtain ⟨c0, c1, c2⟩ := hcx
        have HY : Hid ((L[k]'hlt).1 = s → ans = ((L[k]'hlt).2.1, true)) := fun e => HYES.out _ hg (find_hit hlt HK.out e)
        have HUP : Hid ((L[k]'hlt).1 ≠ s → ∀ j, (hj : j < L.length) → j < k + 1 → L[j].1 ≠ s) := fun h j hj h1 => by
          rcases Nat.lt_or_ge j k with h' | h'
          · exact HK.out j hj h'
          · obtain rfl : j = k := by omega
            exact h
        obtain ⟨x, hxe⟩ : ∃ x, x = L[k]'hlt := ⟨_, rfl⟩
        rw [← hxe] at c0 c1 c2 HY HUP
        obtain ⟨xn, u, r⟩ := x
        simp only at c0 c1 c2 HY HUP
        have hbk := hb.alloc hb.size (.cells #[.string ⟨xn.toArray⟩, .bool u, .int .i64 r] 68)
        rw [ha]
        clear hcel hxe
        by_cases he : xn = s
        · have HR : Hid (ans = (u, true)) := HY.out he
          have e2 : (xn == s) = true := by simpa using he
          clear HY HUP he
          go_wp2_with fail
          go_ret2
          exact ⟨ret_two (by rw [HR.out]; first | done | rfl) (by rw [HR.out]; first | done | rfl), hbk⟩
        · have HN : Hid (∀ j, (hj : j < L.length) → j < k + 1 → L[j].1 ≠ s) := HUP.out he
          have e2 : (xn == s) = false := by simpa using he
          clear HY HUP he
          go_wp2_with fail
          go_roundw
          case rel => exact ⟨k + 1, by omega, by go_num, HN, hbk⟩
          case measure => simp [intOf]; omega
      · have HR : Hid (ans = (false, false)) := HNO.out hg (find_none (fun j hj _ => HK.out j hj (by omega)))
        go_wp2_with fail
        go_ret2
        exact ⟨ret_two (by rw [HR.out]; first | done | rfl) (by rw [HR.out]; first | done | rfl), hb⟩
end Go.Proofs.YtoopfmebpjojiaaDoor
