import Derived.Test.YtoopfmebpjojiaaDoorMark
import Derived.Deep.RegionWith
namespace Go.Proofs.YtoopfmebpjojiaaDoor
open Go.RowKit

theorem grown_refl (w : World) (row : Option Nat) : w.grownBy w row := ⟨rfl, rfl, rfl, Nat.le_refl _, fun _ _ _ => rfl⟩
theorem grown_below {w a b : World} {row : Option Nat} (h : w.grownBy a row) (k : Below a.heap.size a b) : w.grownBy b row :=
  ⟨k.os.trans h.os, k.tape.trans h.tape, k.output.trans h.output, Nat.le_trans h.size k.size, fun i hi hne => (k.block i (Nat.lt_of_lt_of_le hi h.size)).trans (h.block i hi hne)⟩
theorem grown_set {w a : World} {g k : Nat} {u : Value} (h : w.grownBy a (some g)) : w.grownBy (a.setCell ⟨g, k, none⟩ u) (some g) :=
  ⟨h.os, h.tape, h.output, by simpa using h.size, fun i hi hne => (Below.heap_setCell a ⟨g, k, none⟩ u i (fun e => hne (by rw [e]))).trans (h.block i hi hne)⟩
theorem grown_row {w a : World} {g : Nat} {v : Value} {P : List (List UInt8)} (h : w.grownBy a (some g)) (hr : Row w v P) (hne : ∀ b o n c, v = .slice (some ⟨b, o, none⟩) n c → P ≠ [] → b ≠ g) : Row a v P := by
  obtain ⟨x, cap, rfl, h1, h2, h3⟩ := hr
  refine ⟨x, cap, rfl, h1, h2, ?_⟩
  rcases h3 with h3 | ⟨b, o, rfl, hb1, hc⟩
  · exact .inl h3
  · by_cases hp : P = []
    · exact .inl hp
    · exact .inr ⟨b, o, rfl, Nat.lt_of_lt_of_le hb1 h.size, fun j hj => h.cell (hc j hj) (fun e => hne b o _ _ rfl hp (Option.some.inj e))⟩

/-- A list of texts that the call owns, or nil. -/
def OwnS (w : World) (base : Nat) (v : Value) (L : List (List UInt8)) : Prop :=
  (v = .slice none 0 0 ∧ L = []) ∨ ∃ g cap, v = .slice (some ⟨g, 0, none⟩) L.length cap ∧ L.length ≤ cap ∧ cap ≤ maxLen ∧ base ≤ g ∧ SRow w g L
theorem OwnS.row {w : World} {base : Nat} {v : Value} {L : List (List UInt8)} (h : OwnS w base v L) : Row w v L := by
  rcases h with ⟨rfl, rfl⟩ | ⟨g, cap, rfl, h1, h2, _, hs⟩
  · exact row_nil w
  · exact hs.row h1 h2
theorem OwnS.kept {w w' : World} {base : Nat} {v : Value} {L : List (List UInt8)} (h : OwnS w base v L) (hb : Below w.heap.size w w') : OwnS w' base v L := by
  rcases h with h | ⟨g, cap, rfl, h1, h2, h3, hs⟩
  · exact .inl h
  · exact .inr ⟨g, cap, rfl, h1, h2, h3, hs.kept hb⟩

def marks (n : Nat) : List (List UInt8) := (List.range n).map (fun i => mark (i + 1))
theorem marks_length (n : Nat) : (marks n).length = n := by simp [marks]
theorem marks_get (n k : Nat) (h : k < n) : (marks n)[k]'(by rw [marks_length]; exact h) = mark (k + 1) := by simp [marks]
/-- Behind k rounds. -/
def half (L : List (List UInt8)) (k : Nat) : List (List UInt8) := marks k ++ L.drop k
theorem half_length (L : List (List UInt8)) (k : Nat) (h : k ≤ L.length) : (half L k).length = L.length := by simp [half, marks]; omega
theorem half_zero (L : List (List UInt8)) : half L 0 = L := by simp [half, marks]
theorem half_end (L : List (List UInt8)) : half L L.length = marks L.length := by simp [half]
theorem half_next (L : List (List UInt8)) (k : Nat) (h : k < L.length) : half L (k + 1) = (half L k).set k (mark (k + 1)) := by
  unfold half
  have hm : (marks k).length = k := marks_length k
  rw [List.set_append_right _ _ (by omega), hm, Nat.sub_self, List.drop_eq_getElem_cons h]
  simp only [marks, List.range_succ, List.map_append, List.map_cons, List.map_nil, List.set_cons_zero, List.append_assoc, List.singleton_append]

set_option maxRecDepth 20000 in
set_option maxHeartbeats 1000000 in
theorem markStringS_any (v : Value) (L : List (List UInt8)) (base : Nat) (w : World) (h : OwnS w base v L) (hL : L.length ≤ 1048576) :
    Calls Tryd.prog 16 #[v, .int .i64 1] w fun e w' => e = .returned (.int .i64 ((L.length : Int) + 1)) ∧ OwnS w' base v (marks L.length) ∧ w.grownBy w' v.ownBlock := by
  rcases h with ⟨rfl, rfl⟩ | ⟨g, cap, rfl, hcap, hmax, hbase, hs⟩
  · go_enter Tryd.func16, Tryd.ntmps16
    go_wp2_with fail
    go_rounds 1
    go_ret
    exact ⟨rfl, .inl ⟨rfl, rfl⟩, grown_refl _ _⟩
  · have HS : Hid (SRow w g L) := hs
    unfold maxLen at hmax
    clear hs
    go_enter Tryd.func16, Tryd.ntmps16
    go_wp2_with fail
    go_loopw [1, 5] (fun q i wr => ∃ k : Nat, k ≤ L.length ∧ i = .int .i64 k ∧ q = .int .i64 ((k : Int) + 1) ∧ Hid (SRow wr g (half L k)) ∧ w.grownBy wr (some g)) (fun _ i _ => L.length - (intOf i).toNat)
    case atStart => exact ⟨0, Nat.zero_le _, rfl, rfl, by rw [half_zero]; exact HS, grown_refl _ _⟩
    case round =>
      obtain ⟨k, hk, rfl, rfl, HR, hgr⟩ := hrel
      by_cases hlt : k < L.length
      · go_wp2_with fail
        refine (markText_any _ (k + 1) _ (by exact (by omega : (k : Int) + 1 = ((k + 1 : Nat) : Int))) (by omega) (by omega)).mono ?_
        rintro e w1 ⟨rfl, hb1⟩
        have hs1 := HR.out.kept hb1
        have hpk := hs1.2 k (by rw [half_length L k hk]; exact hlt)
        have hcg := hpk.1
        have hfg := hpk.2
        have hset := hs1.set k (by rw [half_length L k hk]; exact hlt) (mark (k + 1))
        rw [← half_next L k hlt] at hset
        obtain ⟨y, hy⟩ : ∃ y, y = mark (k + 1) := ⟨_, rfl⟩
        rw [← hy] at hset ⊢
        have HSS : Hid (SRow (w1.setCell ⟨g, k, none⟩ (.string ⟨y.toArray⟩)) g (half L (k + 1))) := hset
        have hgr1 := grown_below hgr hb1
        unfold S at hcg
        clear hset hpk hy hs1 hb1 hgr
        go_wp2_with fail
        go_roundw
        case rel => exact ⟨k + 1, by omega, by go_num, by go_num, HSS, grown_set hgr1⟩
        case measure => simp [intOf]; omega
      · have hkk : k = L.length := by omega
        have HF : Hid (SRow wr g (marks L.length)) := by have := HR.out; rw [hkk, half_end] at this; exact this
        have HK : Hid (k = L.length) := hkk
        clear hkk
        go_wp2_with fail
        go_ret
        exact ⟨ret_int (by rw [HK.out]), .inr ⟨g, cap, by rw [marks_length], by rw [marks_length]; exact hcap, by unfold maxLen; omega, hbase, HF.out⟩, hgr⟩
theorem below_any {w wr w1 : World} (hb : Below w.heap.size w wr) (hb1 : Below wr.drew.heap.size wr.drew w1) : Below w.heap.size w w1 := hb.drew.trans (hb1.mono hb.size)

set_option maxRecDepth 20000 in
set_option maxHeartbeats 1000000 in
theorem heldStringS_any (v : Value) (n : Nat) (w : World) (hr : Row w v (marks n)) (hL : n ≤ 1048576) :
    Calls Tryd.prog 34 #[v, .int .i64 1] w fun e w' => e = .returned (.int .i64 ((n : Int) + 1)) ∧ Below w.heap.size w w' := by
  obtain ⟨a, cap, rfl, hcap, hmax, HROW⟩ := row_value hr
  rw [marks_length] at hcap ⊢
  clear hr
  go_enter Tryd.func34, Tryd.ntmps34
  go_wp2_with fail
  go_loopw [1, 5] (fun q i wr => ∃ k : Nat, k ≤ n ∧ i = .int .i64 k ∧ q = .int .i64 ((k : Int) + 1) ∧ Below w.heap.size w wr) (fun _ i _ => n - (intOf i).toNat)
  case atStart => exact ⟨0, Nat.zero_le _, rfl, rfl, Below.refl _ _⟩
  case round =>
    obtain ⟨k, hk, rfl, rfl, hb⟩ := hrel
    by_cases hlt : k < n
    · obtain ⟨b, o, ha, hbl, hc⟩ := HROW.out (by rw [marks_length]; omega)
      rw [ha]
      have hcx := hc k (by rw [marks_length]; exact hlt)
      rw [marks_get n k hlt] at hcx
      have HC : Hid (∀ W, Below w.heap.size w W → W.cell? ⟨b, o + k, none⟩ = some (.string ⟨(mark (k + 1)).toArray⟩)) := fun W hW => by rw [hW.cell (p := ⟨b, o + k, none⟩) hbl]; exact hcx
      have hcr := HC.out wr hb
      clear hc hcx
      go_wp2_with fail
      go_region_with (go_at_call 43; refine (markText_any _ (k + 1) _ (by exact (by omega : (k : Int) + 1 = ((k + 1 : Nat) : Int))) (by omega) (by omega)).mono ?_; rintro e w1 ⟨rfl, hb1⟩; have hbw := (below_any hb hb1); have hcw := HC.out w1 hbw)
      all_goals
        go_wp2_with fail
        go_roundw
        case rel => exact ⟨k + 1, by omega, by go_num, by go_num, by first | assumption | exact Below.drew (by assumption)⟩
        case measure => simp [intOf]; omega
    · have HK : Hid (k = n) := (show k = n by omega)
      go_wp2_with fail
      go_ret
      exact ⟨ret_int (by rw [HK.out]), hb⟩
end Go.Proofs.YtoopfmebpjojiaaDoor
