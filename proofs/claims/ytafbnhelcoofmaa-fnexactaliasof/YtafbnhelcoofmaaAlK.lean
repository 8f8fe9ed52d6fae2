import Derived.Test.YtafbnhelcoofmaaAlS
namespace Go.Proofs.Ytafbnhelcoofmaa
open Go.RowKit

theorem OwnC.kept {w w' : World} {base : Nat} {v : Value} {O : List ColT} (h : OwnC w base v O) (hb : Below w.heap.size w w') : OwnC w' base v O := by
  rcases h with h | ⟨g, cap, rfl, h1, h2, hg, hs⟩
  · exact .inl h
  · exact .inr ⟨g, cap, rfl, h1, h2, hg, hs.kept hb⟩
theorem OwnC.kpt {w w' : World} {S : Nat → Prop} {base : Nat} {v : Value} {O : List ColT} (h : OwnC w base v O) (hk : Kpt w w' S) (hn : ∀ g, v.ownBlock = some g → ¬ S g) : OwnC w' base v O := by
  rcases h with h | ⟨g, cap, rfl, h1, h2, hg, hs⟩
  · exact .inl h
  · exact .inr ⟨g, cap, rfl, h1, h2, hg, hs.apart hk (hn g rfl)⟩
theorem OwnC.lt2 {w : World} {base : Nat} {v : Value} {O : List ColT} (h : OwnC w base v O) : ∀ g, v.ownBlock = some g → base ≤ g ∧ g < w.heap.size := fun g hg => by
  rcases h with ⟨rfl, _⟩ | ⟨g', cap, rfl, _, _, hb, hs⟩
  · cases hg
  · have e : g' = g := Option.some.inj hg
    rw [← e]; exact ⟨hb, hs.1⟩
theorem OwnC.row {w : World} {base : Nat} {v : Value} {O : List ColT} (h : OwnC w base v O) : ColRow w v O := by
  rcases h with ⟨rfl, rfl⟩ | ⟨g, cap, rfl, h1, h2, _, hs⟩
  · exact ⟨none, 0, rfl, Nat.le_refl _, Nat.zero_le _, .inl rfl⟩
  · exact hs.row h1 h2
def mkcV (i : Nat) : ColT := (1 + 2 * (i : Int), 1 + 2 * (i : Int) + 1)
def mksC (n : Nat) : List ColT := (List.range n).map mkcV
theorem mksC_length (n : Nat) : (mksC n).length = n := by simp [mksC]
theorem mksC_get (n k : Nat) (h : k < n) : (mksC n)[k]'(by rw [mksC_length]; exact h) = mkcV k := by simp [mksC]
/-- Columns of which the first k are marked. -/
def MkC (w : World) (g n k : Nat) : Prop := ∃ L : List ColT, L.length = n ∧ (∀ i, (h : i < L.length) → i < k → L[i] = mkcV i) ∧ CoRow w g L
theorem MkC.get {w : World} {g n k : Nat} (h : MkC w g n k) (hk : k < n) : ∃ y : Int × Int, (w.cell? ⟨g, k * 2, none⟩ = some (.int .i64 y.1) ∧ w.cell? ⟨g, k * 2 + 1, none⟩ = some (.int .i64 y.2)) ∧ w.frozen? ⟨g, k * 2, none⟩ = false ∧ w.frozen? ⟨g, k * 2 + 1, none⟩ = false := by
  obtain ⟨L, hl, _, hs⟩ := h
  have h1 := hs.2 k (by omega)
  exact ⟨_, h1.1, h1.2⟩
theorem MkC.put {w : World} {g n k : Nat} (h : MkC w g n k) (hk : k < n) : MkC (putC w g (k * 2) (mkcV k)) g n (k + 1) := by
  obtain ⟨L, hl, hm, hs⟩ := h
  refine ⟨L.set k (mkcV k), by simpa using hl, fun i hi hik => ?_, hs.set k (by omega) (mkcV k)⟩
  rw [List.getElem_set]
  by_cases e : k = i
  · rw [if_pos e, e]
  · rw [if_neg e]; exact hm i (by simpa using hi) (by omega)
theorem MkC.full {w : World} {g n : Nat} (h : MkC w g n n) : CoRow w g (mksC n) := by
  obtain ⟨L, hl, hm, hs⟩ := h
  have e : L = mksC n := by
    apply List.ext_getElem (by rw [mksC_length]; exact hl)
    intro i h1 h2
    rw [mksC_get n i (by omega)]; exact hm i h1 (by omega)
  rw [← e]; exact hs
set_option maxRecDepth 20000 in
set_option maxHeartbeats 1000000 in
theorem markColK_any (g n cap : Nat) (w : World) (hs : MkC w g n 0) (hL : n ≤ 1048576) (hcap : n ≤ cap) (hmax : cap ≤ 9223372036854775807) :
    Calls Try.prog 13 #[.slice (some ⟨g, 0, none⟩) n cap, .int .i64 1] w fun e w' => e = .returned (.int .i64 (1 + 2 * (n : Int))) ∧ CoRow w' g (mksC n) ∧ w.grownBy w' (some g) := by
  have HS : Hid (MkC w g n 0) := hs
  clear hs
  go_enter Try.func13, Try.ntmps13
  go_wp2_with fail
  go_loopw [1, 5] (fun q i wr => ∃ k : Nat, k ≤ n ∧ i = .int .i64 (k : Int) ∧ q = .int .i64 (1 + 2 * (k : Int)) ∧ Hid (MkC wr g n k) ∧ w.grownBy wr (some g)) (fun _ i _ => n - (intOf i).toNat)
  case atStart => exact ⟨0, Nat.zero_le _, rfl, by simp, HS, growz_refl _ _⟩
  case round =>
    obtain ⟨k, hk, rfl, rfl, HR, hgr⟩ := hrel
    by_cases hlt : k < n
    · obtain ⟨y, ⟨c0, c1⟩, f0, f1⟩ := HR.out.get hlt
      have HQ0 : MkC (putC wr g (k * 2) (mkcV k)) g n (k + 1) := HR.out.put hlt
      unfold mkcV putC at HQ0
      obtain ⟨m, hm⟩ : ∃ m : Int, m = 1 + 2 * (k : Int) := ⟨_, rfl⟩
      rw [← hm] at HQ0 ⊢
      have HM : Hid (m = 1 + 2 * (k : Int)) := hm
      have hm0 : 0 ≤ m := by omega
      have hm1 : m ≤ 4294967280 := by omega
      have HQ : Hid (MkC ((wr.setCell ⟨g, k * 2, none⟩ (.int .i64 m)).setCell ⟨g, k * 2 + 1, none⟩ (.int .i64 (m + 1))) g n (k + 1)) := HQ0
      have hgr2 : w.grownBy ((wr.setCell ⟨g, k * 2, none⟩ (.int .i64 m)).setCell ⟨g, k * 2 + 1, none⟩ (.int .i64 (m + 1))) (some g) := growz_set (growz_set hgr)
      have hki : (k : Int) < (n : Int) := by omega
      clear hm HR HQ0
      go_wp2_with fail
      go_roundw
      case rel => exact ⟨k + 1, by omega, by go_num, congrArg (Value.int .i64) (by have := HM.out; omega), HQ, hgr2⟩
      case measure => simp [intOf]; omega
    · have HE : Hid (k = n) := (show k = n by omega)
      have HF : Hid (CoRow wr g (mksC n)) := by have := HR.out; rw [HE.out] at this; exact this.full
      go_wp2_with fail
      go_ret
      exact ⟨ret_int (by rw [HE.out]), HF.out, hgr⟩
set_option maxRecDepth 20000 in
set_option maxHeartbeats 1000000 in
theorem heldColK_any (v : Value) (n : Nat) (w : World) (hr : ColRow w v (mksC n)) (hL : n ≤ 1048576) :
    Calls Try.prog 14 #[v, .int .i64 1] w fun e w' => e = .returned (.int .i64 (1 + 2 * (n : Int))) ∧ w' = w := by
  obtain ⟨a, cap, rfl, hcap, hmax, HROW⟩ := col_value hr
  rw [mksC_length] at hcap ⊢
  clear hr
  go_enter Try.func14, Try.ntmps14
  go_wp2_with fail
  go_loop [1, 5] (fun q i => ∃ k : Nat, k ≤ n ∧ i = .int .i64 (k : Int) ∧ q = .int .i64 (1 + 2 * (k : Int))) (fun _ i => n - (intOf i).toNat)
  case atStart => exact ⟨0, Nat.zero_le _, rfl, by simp⟩
  case round =>
    obtain ⟨k, hk, rfl, rfl⟩ := hrel
    by_cases hlt : k < n
    · obtain ⟨b, o, ha, hbl, hc⟩ := HROW.out (by rw [mksC_length]; omega)
      rw [ha]
      have hcx := hc k (by rw [mksC_length]; exact hlt)
      rw [mksC_get n k hlt] at hcx
      unfold mkcV ColAt at hcx
      obtain ⟨m, hm⟩ : ∃ m : Int, m = 1 + 2 * (k : Int) := ⟨_, rfl⟩
      rw [← hm] at hcx ⊢
      obtain ⟨c0, c1⟩ := hcx
      simp only at c0 c1
      have HM : Hid (m = 1 + 2 * (k : Int)) := hm
      have hm0 : 0 ≤ m := by omega
      have hm1 : m ≤ 4294967280 := by omega
      have e1 : (m != m) = false := by simp
      have e2 : (m + 1 != m + 1) = false := by simp
      have hki : (k : Int) < (n : Int) := by omega
      clear hc hm
      go_wp2_with fail
      go_round
      case rel => exact ⟨k + 1, by omega, by go_num, congrArg (Value.int .i64) (by have := HM.out; omega)⟩
      case measure => simp [intOf]; omega
    · have HE : Hid (k = n) := (show k = n by omega)
      go_wp2_with fail
      go_ret
      exact ⟨ret_int (by rw [HE.out]), rfl⟩
theorem markOwnC_any (v : Value) (O : List ColT) (base : Nat) (w : World) (h : OwnC w base v O) (hl : O.length ≤ 1048576) :
    Calls Try.prog 13 #[v, .int .i64 1] w fun e w' => e = .returned (.int .i64 (1 + 2 * (O.length : Int))) ∧ OwnC w' base v (mksC O.length) ∧ Kpt w w' (fun k => v.ownBlock = some k) := by
  rcases h with ⟨rfl, rfl⟩ | ⟨g, cap, rfl, h1, h2, hg, hs⟩
  · go_enter Try.func13, Try.ntmps13
    go_wp2_with fail
    go_rounds 1
    go_ret
    exact ⟨rfl, .inl ⟨rfl, rfl⟩, Kpt.refl _ _⟩
  · refine (markColK_any g O.length cap w ⟨O, rfl, fun i _ h => absurd h (Nat.not_lt_zero _), hs⟩ hl h1 (by unfold maxLen at h2; omega)).mono ?_
    rintro e w' ⟨rfl, h3, h4⟩
    exact ⟨rfl, .inr ⟨g, cap, by rw [mksC_length], by rw [mksC_length]; exact h1, h2, hg, h3⟩, grown_kpt h4⟩
theorem heldOwnC_any (v : Value) (n base : Nat) (w : World) (h : OwnC w base v (mksC n)) (hl : n ≤ 1048576) :
    Calls Try.prog 14 #[v, .int .i64 1] w fun e w' => e = .returned (.int .i64 (1 + 2 * (n : Int))) ∧ w' = w := heldColK_any v n w h.row hl
end Go.Proofs.Ytafbnhelcoofmaa
