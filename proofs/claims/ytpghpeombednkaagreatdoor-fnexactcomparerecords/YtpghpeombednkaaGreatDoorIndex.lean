import Derived.Test.YtpghpeombednkaaGreatDoorJoin
namespace Go.Proofs.YtpghpeombednkaaGreatDoor
open Go.RowKit

/-- The first place of a text in a list, -1 where there is none. -/
def idxI (T : List (List UInt8)) (x : List UInt8) : Int := if T.idxOf x < T.length then (T.idxOf x : Int) else -1
theorem idx_hit {T : List (List UInt8)} {x : List UInt8} {k : Nat} (hk : k < T.length) (h : T[k] = x) (hb : ∀ j, (hj : j < k) → T[j] ≠ x) : T.idxOf x = k := by
  unfold List.idxOf
  rw [List.findIdx_eq hk]
  refine ⟨by simpa using h, fun j hj => by simpa using hb j hj⟩
theorem idxI_hit {T : List (List UInt8)} {x : List UInt8} {k : Nat} (hk : k < T.length) (h : T[k] = x) (hb : ∀ j, (hj : j < k) → T[j] ≠ x) : idxI T x = k := by
  unfold idxI; rw [idx_hit hk h hb, if_pos hk]
theorem idxI_miss {T : List (List UInt8)} {x : List UInt8} (hb : ∀ j, (hj : j < T.length) → T[j] ≠ x) : idxI T x = -1 := by
  unfold idxI; rw [if_neg]
  intro h
  exact hb _ h (List.getElem_idxOf h)
theorem ret_intI {a b : Int} (h : a = b) : Ending.returned (.int .i64 a) = .returned (.int .i64 b) := by rw [h]

theorem row_valueI {w : World} {v : Value} {P : List (List UInt8)} (h : Row w v P) :
    ∃ a cap, v = .slice a P.length cap ∧ P.length ≤ cap ∧ cap ≤ 9223372036854775807 ∧ Hid (0 < P.length → ∃ b o, a = some ⟨b, o, none⟩ ∧ b < w.heap.size ∧ ∀ j, (hj : j < P.length) → w.cell? ⟨b, o + j, none⟩ = some (S P[j])) := by
  obtain ⟨a, cap, rfl, h1, h2, h3⟩ := h
  refine ⟨a, cap, rfl, h1, by unfold maxLen at h2; omega, fun hp => ?_⟩
  rcases h3 with h3 | h3
  · rw [h3] at hp; simp at hp
  · exact h3

set_option maxRecDepth 20000 in
set_option maxHeartbeats 1000000 in
theorem index_any (v : Value) (T : List (List UInt8)) (x : List UInt8) (w : World) (hr : Row w v T) :
    Calls Tryz.prog 117 #[v, .string ⟨x.toArray⟩] w fun e w' => e = .returned (.int .i64 (idxI T x)) ∧ w' = w := by
  obtain ⟨a, cap, rfl, hcap, hmax, HROW⟩ := row_valueI hr
  clear hr
  go_enter Tryz.func117, Tryz.ntmps117
  go_wp2_with fail
  go_loop [8] (fun i => ∃ k : Nat, k ≤ T.length ∧ i = .int .i64 k ∧ Hid (∀ j, (hj : j < T.length) → j < k → T[j] ≠ x)) (fun i => T.length - (intOf i).toNat)
  case atStart => exact ⟨0, Nat.zero_le _, rfl, fun j _ hj => absurd hj (Nat.not_lt_zero j)⟩
  case round =>
    obtain ⟨k, hk, rfl, HA⟩ := hrel
    by_cases hlt : k < T.length
    · obtain ⟨b, o, ha, hbl, hc⟩ := HROW.out (by omega)
      rw [ha]
      have hcx := hc k hlt
      clear hc
      obtain ⟨y, hy⟩ : ∃ y, y = T[k]'hlt := ⟨_, rfl⟩
      rw [← hy] at hcx
      unfold S at hcx
      by_cases hxy : y = x
      · have HR : Hid (idxI T x = k) := idxI_hit hlt (by rw [← hy]; exact hxy) (fun j hj => HA.out j (by omega) hj)
        subst hxy
        clear hy
        go_wp2_with fail
        go_ret
        exact ⟨ret_intI HR.out.symm, rfl⟩
      · have e1 : (x == y) = false := by simpa using fun h => hxy h.symm
        have HR : Hid (∀ j, (hj : j < T.length) → j < k + 1 → T[j] ≠ x) := fun j hj hjk => by
          by_cases e : j = k
          · subst e; rw [← hy]; exact hxy
          · exact HA.out j hj (by omega)
        clear hxy hy
        go_wp2_with fail
        go_round
        case rel => exact ⟨k + 1, by omega, by go_num, HR⟩
        case measure => simp [intOf]; omega
    · have HR : Hid (idxI T x = -1) := idxI_miss (fun j hj => HA.out j hj (by omega))
      go_wp2_with fail
      go_ret
      exact ⟨ret_intI HR.out.symm, rfl⟩
end Go.Proofs.YtpghpeombednkaaGreatDoor
