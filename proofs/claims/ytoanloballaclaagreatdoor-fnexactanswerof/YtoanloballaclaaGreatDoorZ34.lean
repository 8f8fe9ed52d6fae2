import Derived.Test.YtoanloballaclaaGreatDoorZ33
import Derived.Test.YtoanloballaclaaGreatDoorZ09
namespace Go.Proofs.YtoanloballaclaaGreatDoor
open Go.RowKit

/-- Numbers from one on. -/
def mksZ (K n : Nat) : List Int := (List.range n).map (fun i : Nat => (K : Int) + (i : Int))
theorem mksZ_length (K n : Nat) : (mksZ K n).length = n := by simp [mksZ]
theorem mksZ_get (K n k : Nat) (h : k < n) : (mksZ K n)[k]'(by rw [mksZ_length]; exact h) = (K : Int) + (k : Int) := by simp [mksZ]
def halfZ (P : List Int) (K k : Nat) : List Int := mksZ K k ++ P.drop k
theorem halfZ_length (P : List Int) (K k : Nat) (h : k ≤ P.length) : (halfZ P K k).length = P.length := by simp [halfZ, mksZ]; omega
theorem halfZ_zero (P : List Int) (K : Nat) : halfZ P K 0 = P := by simp [halfZ, mksZ]
theorem halfZ_end (P : List Int) (K : Nat) : halfZ P K P.length = mksZ K P.length := by simp [halfZ]
theorem halfZ_next (P : List Int) (K k : Nat) (h : k < P.length) : halfZ P K (k + 1) = (halfZ P K k).set k ((K : Int) + (k : Int)) := by
  unfold halfZ
  have hm : (mksZ K k).length = k := mksZ_length K k
  rw [List.set_append_right _ _ (by omega), hm, Nat.sub_self, List.drop_eq_getElem_cons h]
  simp only [mksZ, List.range_succ, List.map_append, List.map_cons, List.map_nil, List.set_cons_zero, List.append_assoc, List.singleton_append]
theorem growz_refl (w : World) (row : Option Nat) : w.grownBy w row := ⟨rfl, rfl, rfl, Nat.le_refl _, fun _ _ _ => rfl⟩
theorem growz_set {w a : World} {g k : Nat} {u : Value} (h : w.grownBy a (some g)) : w.grownBy (a.setCell ⟨g, k, none⟩ u) (some g) :=
  ⟨h.os, h.tape, h.output, by simpa using h.size, fun i hi hne => (Below.heap_setCell a ⟨g, k, none⟩ u i (fun e => hne (by rw [e]))).trans (h.block i hi hne)⟩

set_option maxRecDepth 20000 in
set_option maxHeartbeats 1000000 in
theorem markIntZ_any (g cap K : Nat) (P : List Int) (w : World) (hs : ZSRow w g P) (hL : P.length ≤ 1048576) (hcap : P.length ≤ cap) (hmax : cap ≤ 9223372036854775807) (hK : K ≤ 1073741824) :
    Calls Tryz.prog 22 #[.slice (some ⟨g, 0, none⟩) P.length cap, .int .i64 (K : Int)] w fun e w' => e = .returned (.int .i64 ((K : Int) + (P.length : Int))) ∧ ZSRow w' g (mksZ K P.length) ∧ w.grownBy w' (some g) := by
  have HS : Hid (ZSRow w g P) := hs
  clear hs
  go_enter Tryz.func22, Tryz.ntmps22
  go_wp2_with fail
  go_loopw [1, 5] (fun q i wr => ∃ k : Nat, k ≤ P.length ∧ i = .int .i64 (k : Int) ∧ q = .int .i64 ((K : Int) + (k : Int)) ∧ Hid (ZSRow wr g (halfZ P K k)) ∧ w.grownBy wr (some g)) (fun _ i _ => P.length - (intOf i).toNat)
  case atStart => exact ⟨0, Nat.zero_le _, rfl, by simp, by rw [halfZ_zero]; exact HS, growz_refl _ _⟩
  case round =>
    obtain ⟨k, hk, rfl, rfl, HR, hgr⟩ := hrel
    by_cases hlt : k < P.length
    · have hs1 := HR.out
      have hpk := hs1.2 k (by rw [halfZ_length P K k hk]; exact hlt)
      have hcg := hpk.1
      have hfg := hpk.2
      have hset := hs1.set k (by rw [halfZ_length P K k hk]; exact hlt) ((K : Int) + (k : Int))
      rw [← halfZ_next P K k hlt] at hset
      obtain ⟨m, hm⟩ : ∃ m : Int, m = (K : Int) + (k : Int) := ⟨_, rfl⟩
      rw [← hm] at hset ⊢
      have HSS : Hid (ZSRow (wr.setCell ⟨g, k, none⟩ (.int .i64 m)) g (halfZ P K (k + 1))) := hset
      have HM : Hid (m = (K : Int) + (k : Int)) := hm
      have hm0 : 0 ≤ m := by omega
      have hm1 : m ≤ 4294967280 := by omega
      obtain ⟨y, hy⟩ : ∃ y, y = (halfZ P K k)[k]'(by rw [halfZ_length P K k hk]; exact hlt) := ⟨_, rfl⟩
      rw [← hy] at hcg
      clear hset hpk hs1 hm hy
      go_wp2_with fail
      go_roundw
      case rel => exact ⟨k + 1, by omega, by go_num, congrArg (Value.int .i64) (by have := HM.out; omega), HSS, growz_set hgr⟩
      case measure => simp [intOf]; omega
    · have HE : Hid (k = P.length) := (show k = P.length by omega)
      have HF : Hid (ZSRow wr g (mksZ K P.length)) := by have := HR.out; rw [HE.out, halfZ_end] at this; exact this
      go_wp2_with fail
      go_ret
      exact ⟨ret_intY (by rw [HE.out]), HF.out, hgr⟩

set_option maxRecDepth 20000 in
set_option maxHeartbeats 1000000 in
theorem heldIntZ_any (v : Value) (n K : Nat) (w : World) (hr : ZRow .i64 w v (mksZ K n)) (hL : n ≤ 1048576) (hK : K ≤ 1073741824) :
    Calls Tryz.prog 23 #[v, .int .i64 (K : Int)] w fun e w' => e = .returned (.int .i64 ((K : Int) + (n : Int))) ∧ w' = w := by
  obtain ⟨a, cap, rfl, hcap, hmax, HROW⟩ := zrow_value hr
  rw [mksZ_length] at hcap ⊢
  clear hr
  go_enter Tryz.func23, Tryz.ntmps23
  go_wp2_with fail
  go_loop [1, 5] (fun q i => ∃ k : Nat, k ≤ n ∧ i = .int .i64 (k : Int) ∧ q = .int .i64 ((K : Int) + (k : Int))) (fun _ i => n - (intOf i).toNat)
  case atStart => exact ⟨0, Nat.zero_le _, rfl, by simp⟩
  case round =>
    obtain ⟨k, hk, rfl, rfl⟩ := hrel
    by_cases hlt : k < n
    · obtain ⟨b, o, ha, hbl, hc⟩ := HROW.out (by rw [mksZ_length]; omega)
      rw [ha]
      have hcx := hc k (by rw [mksZ_length]; exact hlt)
      rw [mksZ_get K n k hlt] at hcx
      obtain ⟨m, hm⟩ : ∃ m : Int, m = (K : Int) + (k : Int) := ⟨_, rfl⟩
      rw [← hm] at hcx ⊢
      have HM : Hid (m = (K : Int) + (k : Int)) := hm
      have hm0 : 0 ≤ m := by omega
      have hm1 : m ≤ 4294967280 := by omega
      have e1 : (m != m) = false := by simp
      have hki : (k : Int) < (n : Int) := by omega
      clear hc hm
      go_wp2_with fail
      go_round
      case rel => exact ⟨k + 1, by omega, by go_num, congrArg (Value.int .i64) (by have := HM.out; omega)⟩
      case measure => simp [intOf]; omega
    · have HE : Hid (k = n) := (show k = n by omega)
      go_wp2_with fail
      go_ret
      exact ⟨ret_intY (by rw [HE.out]), rfl⟩
end Go.Proofs.YtoanloballaclaaGreatDoor
