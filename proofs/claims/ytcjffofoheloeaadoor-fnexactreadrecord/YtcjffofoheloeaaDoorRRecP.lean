import Derived.Test.YtcjffofoheloeaaDoorRText
import Derived.Test.YtcjffofoheloeaaDoorRTarg
import Derived.Deep.RegionHeld3
import Derived.Laws.ResultCell
namespace Go.Proofs.YtcjffofoheloeaaDoor
open Go.RowKit

/-- The name of a record's first word. -/
def nmOf (p : List UInt8) : List UInt8 := if p = [46] then [] else p
/-- What ReadRecord tells. -/
def rrO (l : List UInt8) : Option (List UInt8 × Int × Int × List UInt8) := match cut 32 l with
  | p :: q :: t :: _ :: _ => if recB (nmOf p) (intV t) (intV q) (l.drop (p.length + q.length + t.length + 3)) = true ∧ recT (nmOf p) (intV t).toNat (intV q).toNat (l.drop (p.length + q.length + t.length + 3)) = l then some (nmOf p, intV t, intV q, l.drop (p.length + q.length + t.length + 3)) else none
  | _ => none
def rrVal : Option (List UInt8 × Int × Int × List UInt8) → Value
  | some (nm, ty, ttl, d) => .tuple #[RecV ⟨nm.toArray⟩ ty ttl ⟨d.toArray⟩, .bool true]
  | none => .tuple #[RecV ⟨#[]⟩ 0 0 ⟨#[]⟩, .bool false]
theorem rr_short {l : List UInt8} (h : (cut 32 l).length < 4) : rrO l = none := by
  unfold rrO
  split
  · rename_i p q t c cs e; rw [e] at h; simp at h; omega
  · rfl
theorem rr_split {l p q t r : List UInt8} (hl : l = p ++ 32 :: (q ++ 32 :: (t ++ 32 :: r))) (hc : cut 32 l = p :: q :: t :: cut 32 r) :
    rrO l = if recB (nmOf p) (intV t) (intV q) r = true ∧ recT (nmOf p) (intV t).toNat (intV q).toNat r = l then some (nmOf p, intV t, intV q, r) else none := by
  have hd : l.drop (p.length + q.length + t.length + 3) = r := by
    rw [hl]
    have : p ++ 32 :: (q ++ 32 :: (t ++ 32 :: r)) = (p ++ 32 :: (q ++ 32 :: (t ++ [32]))) ++ r := by simp
    rw [this, List.drop_left']
    simp; omega
  unfold rrO
  rw [hc]
  cases hr : cut 32 r with
  | nil => exact absurd hr (cut_ne 32 r)
  | cons c cs => simp only [hd]
theorem num_noblank (n : Nat) : (32 : UInt8) ∉ numL n := by
  intro h
  have := List.all_eq_true.1 (numL_dig n) 32 h
  revert this; decide
theorem recB_parts {nm d : List UInt8} {ty ttl : Int} (h : recB nm ty ttl d = true) : nameB nm = true := by
  unfold recB at h; simp only [Bool.and_eq_true] at h; exact h.2.1
theorem recT_cut {nm d : List UInt8} {ty ttl : Nat} (h : nameB nm = true) : cut 32 (recT nm ty ttl d) = (if nm = [] then [46] else nm) :: numL ttl :: numL ty :: cut 32 d := by
  have h1 : (32 : UInt8) ∉ (if nm = [] then [46] else nm) := by
    split
    · decide
    · exact name_noblank h
  unfold recT
  rw [cut_at h1, cut_at (num_noblank ttl), cut_at (num_noblank ty)]
/-- Both readings of the numbers tell the same record. -/
theorem rr_same {l p q t r : List UInt8} (hc : cut 32 l = p :: q :: t :: cut 32 r) :
    (recB (nmOf p) (rdNum t 16) (rdNum q 100000) r = true ∧ recT (nmOf p) (rdNum t 16).toNat (rdNum q 100000).toNat r = l) ↔ (recB (nmOf p) (intV t) (intV q) r = true ∧ recT (nmOf p) (intV t).toNat (intV q).toNat r = l) := by
  have key : ∀ ty ttl : Int, recB (nmOf p) ty ttl r = true → recT (nmOf p) ty.toNat ttl.toNat r = l → intV t = ty ∧ intV q = ttl := by
    intro ty ttl hB hT
    obtain ⟨f1, f2, f3, f4⟩ := recB_facts hB
    have h2 := recT_cut (ty := ty.toNat) (ttl := ttl.toNat) (d := r) (recB_parts hB)
    rw [hT, hc] at h2
    simp only [List.cons.injEq] at h2
    rw [h2.2.2.1, h2.2.1, intV_numL (by omega), intV_numL (by omega)]
    omega
  constructor
  · rintro ⟨hB, hT⟩
    obtain ⟨e1, e2⟩ := key _ _ hB hT
    rw [e1, e2]; exact ⟨hB, hT⟩
  · rintro ⟨hB, hT⟩
    obtain ⟨f1, f2, f3, f4⟩ := recB_facts hB
    have n1 : rdNum t 16 = intV t := if_pos (by unfold numIn; rw [decide_eq_true (by omega), decide_eq_true (by omega)]; rfl)
    have n2 : rdNum q 100000 = intV q := if_pos (by unfold numIn; rw [decide_eq_true (by omega), decide_eq_true (by omega)]; rfl)
    rw [n1, n2]; exact ⟨hB, hT⟩
theorem rr_eq {t q : List UInt8} {p r l : List UInt8} (hc : cut 32 l = p :: q :: t :: cut 32 r) (h : recB (nmOf p) (rdNum t 16) (rdNum q 100000) r = true ∧ recT (nmOf p) (rdNum t 16).toNat (rdNum q 100000).toNat r = l) : rdNum t 16 = intV t ∧ rdNum q 100000 = intV q := by
  have h2 := (rr_same hc).1 h
  obtain ⟨f1, f2, f3, f4⟩ := recB_facts h2.1
  exact ⟨if_pos (by unfold numIn; rw [decide_eq_true (by omega), decide_eq_true (by omega)]; rfl), if_pos (by unfold numIn; rw [decide_eq_true (by omega), decide_eq_true (by omega)]; rfl)⟩
/-- The result's cells, and that they may be written. -/
theorem box4f {w W : World} {a b c d : Value} {t : TypeId} (hb : Below (w.alloc (.cells #[a, b, c, d] t)).heap.size (w.alloc (.cells #[a, b, c, d] t)) W) :
    W.frozen? ⟨w.heap.size, 0, none⟩ = false ∧ W.frozen? ⟨w.heap.size, 1, none⟩ = false ∧ W.frozen? ⟨w.heap.size, 2, none⟩ = false ∧ W.frozen? ⟨w.heap.size, 3, none⟩ = false := by
  have hz : w.heap.size < (w.alloc (.cells #[a, b, c, d] t)).heap.size := by simp
  refine ⟨?_, ?_, ?_, ?_⟩
  · rw [hb.frozen (p := ⟨w.heap.size, 0, none⟩) hz]; simp
  · rw [hb.frozen (p := ⟨w.heap.size, 1, none⟩) hz]; simp
  · rw [hb.frozen (p := ⟨w.heap.size, 2, none⟩) hz]; simp
  · rw [hb.frozen (p := ⟨w.heap.size, 3, none⟩) hz]; simp
set_option maxRecDepth 20000 in
set_option maxHeartbeats 1000000 in
theorem sRead_short (s : ByteArray) (w : World) (hs : s.size ≤ 1048576) (h4 : Hid ((cut 32 s.data.toList).length < 4)) :
    Calls Tryd.prog 4 #[.string s] w fun e w' => e = .returned (rrVal (rrO s.data.toList)) ∧ Below w.heap.size w w' := by
  have HR : Hid (rrO s.data.toList = none) := rr_short h4.out
  obtain ⟨W0, hW0⟩ : ∃ W0, W0 = w.alloc (.cells #[.string ⟨#[]⟩, .int .i64 0, .int .i64 0, .string ⟨#[]⟩] 23) := ⟨_, rfl⟩
  have HX : Hid (∀ W, Below W0.heap.size W0 W → (W.cell? ⟨w.heap.size, 0, none⟩ = some (.string ⟨#[]⟩) ∧ W.cell? ⟨w.heap.size, 1, none⟩ = some (.int .i64 0) ∧ W.cell? ⟨w.heap.size, 2, none⟩ = some (.int .i64 0) ∧ W.cell? ⟨w.heap.size, 3, none⟩ = some (.string ⟨#[]⟩) ∧ Below w.heap.size w W) ∧ (W.frozen? ⟨w.heap.size, 0, none⟩ = false ∧ W.frozen? ⟨w.heap.size, 1, none⟩ = false ∧ W.frozen? ⟨w.heap.size, 2, none⟩ = false ∧ W.frozen? ⟨w.heap.size, 3, none⟩ = false)) := fun W h => by rw [hW0] at h; exact ⟨box4 h, box4f h⟩
  have HW0 : Hid (w.alloc (.cells #[.string ⟨#[]⟩, .int .i64 0, .int .i64 0, .string ⟨#[]⟩] 23) = W0) := hW0.symm
  clear hW0
  go_enter Tryd.func4, Tryd.ntmps4
  go_wp2_with fail
  rw [HW0.out]
  refine (l1Split_any s 32 _ W0 (by omega) rfl).mono ?_
  rintro e w1 ⟨v, rfl, hown, hb⟩
  obtain ⟨a, cap, hv, hcap, hmax, HROW⟩ := row_value (row_own hown)
  rw [hv]
  obtain ⟨⟨c0, c1, c2, c3, hbw⟩, ⟨f0, f1, f2, f3⟩⟩ := HX.out w1 hb
  have hl4 : ((cut 32 s.data.toList).length : Int) < 4 := by have := h4.out; omega
  obtain ⟨n, hn⟩ : ∃ n, n = (cut 32 s.data.toList).length := ⟨_, rfl⟩
  rw [← hn] at hcap hl4 ⊢
  clear hown hv hb HROW hn
  go_wp2_with fail
  (try simp only [Exit.inBlock, Exit.then])
  refine bodyPost_ret (v := .tuple #[.agg #[.string ⟨#[]⟩, .int .i64 0, .int .i64 0, .string ⟨#[]⟩], .bool false]) ?_ rfl ⟨?_, ?_⟩
  · rw [results_cell_tmp rfl]; go_simp
  · rw [HR.out]; rfl
  · exact (((hbw.setCell (p := ⟨w.heap.size, 0, none⟩) (Nat.le_refl _) _).setCell (p := ⟨w.heap.size, 1, none⟩) (Nat.le_refl _) _).setCell (p := ⟨w.heap.size, 2, none⟩) (Nat.le_refl _) _).setCell (p := ⟨w.heap.size, 3, none⟩) (Nat.le_refl _) _
end Go.Proofs.YtcjffofoheloeaaDoor
