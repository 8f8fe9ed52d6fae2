import Derived.Test.YtdmellmmhipncaaGreatDoorZ25
import Derived.Test.YtdmellmmhipncaaGreatDoorZ13
import Derived.Test.YtdmellmmhipncaaGreatDoorZ05
import Derived.Deep.RegionHeld3
import Derived.Laws.ResultCell
namespace Go.Proofs.YtdmellmmhipncaaGreatDoor
open Go.RowKit

theorem taH_yes (v : Value) (w : World) : Sem.run Tryz.prog (Instr.typeAssert (.iface 70 v) 43 70 true) w = .ok (.tuple #[v, .bool true]) w := by kernel_rfl
theorem taX_yes (v : Value) (w : World) : Sem.run Tryz.prog (Instr.typeAssert (.iface 78 v) 43 78 true) w = .ok (.tuple #[v, .bool true]) w := by kernel_rfl
theorem taH_x (v : Value) (w : World) : Sem.run Tryz.prog (Instr.typeAssert (.iface 78 v) 43 70 true) w = .ok (.tuple #[.agg #[.string ⟨#[]⟩], .bool false]) w := by kernel_rfl
theorem taH_s (v : Value) (w : World) : Sem.run Tryz.prog (Instr.typeAssert (.iface 72 v) 43 70 true) w = .ok (.tuple #[.agg #[.string ⟨#[]⟩], .bool false]) w := by kernel_rfl
theorem taX_s (v : Value) (w : World) : Sem.run Tryz.prog (Instr.typeAssert (.iface 72 v) 43 78 true) w = .ok (.tuple #[.agg #[.int .i64 0, .string ⟨#[]⟩], .bool false]) w := by kernel_rfl
theorem taH_n (v : Value) (w : World) : Sem.run Tryz.prog (Instr.typeAssert (.iface 74 v) 43 70 true) w = .ok (.tuple #[.agg #[.string ⟨#[]⟩], .bool false]) w := by kernel_rfl
theorem taX_n (v : Value) (w : World) : Sem.run Tryz.prog (Instr.typeAssert (.iface 74 v) 43 78 true) w = .ok (.tuple #[.agg #[.int .i64 0, .string ⟨#[]⟩], .bool false]) w := by kernel_rfl
theorem taH_a (v : Value) (w : World) : Sem.run Tryz.prog (Instr.typeAssert (.iface 100 v) 43 70 true) w = .ok (.tuple #[.agg #[.string ⟨#[]⟩], .bool false]) w := by kernel_rfl
theorem taX_a (v : Value) (w : World) : Sem.run Tryz.prog (Instr.typeAssert (.iface 100 v) 43 78 true) w = .ok (.tuple #[.agg #[.int .i64 0, .string ⟨#[]⟩], .bool false]) w := by kernel_rfl
set_option maxRecDepth 20000 in
set_option maxHeartbeats 400000 in
theorem targetIn_host (s : ByteArray) (w : World) (hs : s.size ≤ 281474976710656) :
    Calls Tryz.prog 30 #[hostV s] w fun e w' => e = .returned (.tuple #[.string s, .bool true]) ∧ Below w.heap.size w w' := by
  unfold hostV
  have a1 := taH_yes
  go_enter Tryz.func30, Tryz.ntmps30
  go_wp2_with fail
  refine (cloneR_any s _ hs).mono ?_
  rintro e w1 ⟨rfl, hb1⟩
  have hbw : Below w.heap.size w w1 := ((Below.refl w.heap.size w).alloc (Nat.le_refl _) _).trans (hb1.mono (by simp))
  clear hb1
  go_wp2_with fail
  go_ret2
  exact ⟨rfl, hbw⟩
set_option maxRecDepth 20000 in
set_option maxHeartbeats 400000 in
theorem targetIn_exchange (n : Int) (s : ByteArray) (w : World) (hs : s.size ≤ 281474976710656) :
    Calls Tryz.prog 30 #[exV n s] w fun e w' => e = .returned (.tuple #[.string s, .bool true]) ∧ Below w.heap.size w w' := by
  unfold exV
  have a1 := taH_x
  have a2 := taX_yes
  go_enter Tryz.func30, Tryz.ntmps30
  go_wp2_with fail
  refine (cloneR_any s _ hs).mono ?_
  rintro e w1 ⟨rfl, hb1⟩
  have hbw : Below w.heap.size w w1 := ((Below.refl w.heap.size w).alloc (Nat.le_refl _) _).trans (hb1.mono (by simp))
  clear hb1
  go_wp2_with fail
  go_ret2
  exact ⟨rfl, hbw⟩
set_option maxRecDepth 20000 in
set_option maxHeartbeats 400000 in
theorem targetIn_serial (n : Int) (w : World) :
    Calls Tryz.prog 30 #[serV n] w fun e w' => e = .returned (.tuple #[.string ⟨#[]⟩, .bool false]) ∧ Below w.heap.size w w' := by
  unfold serV
  have a1 := taH_s
  have a2 := taX_s
  go_enter Tryz.func30, Tryz.ntmps30
  go_wp2_with fail
  go_ret2
  exact ⟨rfl, Below.refl _ _⟩
set_option maxRecDepth 20000 in
set_option maxHeartbeats 400000 in
theorem targetIn_note (s : ByteArray) (w : World) :
    Calls Tryz.prog 30 #[noteV s] w fun e w' => e = .returned (.tuple #[.string ⟨#[]⟩, .bool false]) ∧ Below w.heap.size w w' := by
  unfold noteV
  have a1 := taH_n
  have a2 := taX_n
  go_enter Tryz.func30, Tryz.ntmps30
  go_wp2_with fail
  go_ret2
  exact ⟨rfl, Below.refl _ _⟩
set_option maxRecDepth 20000 in
set_option maxHeartbeats 400000 in
theorem targetIn_address (a b c d : UInt8) (w : World) :
    Calls Tryz.prog 30 #[addrV [a, b, c, d]] w fun e w' => e = .returned (.tuple #[.string ⟨#[]⟩, .bool false]) ∧ Below w.heap.size w w' := by
  unfold addrV
  simp only [List.map_cons, List.map_nil]
  have a1 := taH_a
  have a2 := taX_a
  go_enter Tryz.func30, Tryz.ntmps30
  go_wp2_with fail
  go_ret2
  exact ⟨rfl, Below.refl _ _⟩
theorem targetIn_any {k : Int} {l : List UInt8} {v : Value} (hv : IsV k l v) (hl : l.length ≤ 1048576) (w : World) :
    Calls Tryz.prog 30 #[v] w fun e w' => e = .returned (.tuple #[.string ⟨(toT k l).toArray⟩, .bool (!(toT k l).isEmpty)]) ∧ Below w.heap.size w w' := by
  have hne : ∀ {l : List UInt8}, targB l = true → l.isEmpty = false := fun {l} h => by
    cases l with
    | nil => rw [targ_nil] at h; cases h
    | cons a r => rfl
  rcases hv with ⟨rfl, z, hz, rfl⟩ | ⟨hk, ht, rfl⟩ | ⟨rfl, hn, rfl⟩ | ⟨rfl, a, r, rfl, ha, hn, ht, rfl⟩ | ⟨rfl, hn, rfl⟩
  · obtain ⟨a, b, c, d, rfl⟩ := four_of (y := z) (by
      unfold dataA at hz; split at hz
      · rename_i hc; rw [← Option.some.inj hz, List.length_map]; exact hc.2
      · cases hz)
    rw [show toT 1 l = [] by unfold toT; rw [if_neg (by omega), if_neg (by omega)]]
    exact targetIn_address a b c d w
  · rw [show toT k l = l from if_pos hk, hne ht]
    exact targetIn_host _ w (by rw [size_list]; omega)
  · rw [show toT 6 l = [] by unfold toT; rw [if_neg (by omega), if_neg (by omega)]]
    exact targetIn_serial _ w
  · have hr : (32 : UInt8) ∉ r := targ_noblank ht
    rw [show toT 15 (a ++ 32 :: r) = r by unfold toT; rw [if_neg (by omega), if_pos rfl, cut_at ha, cut_plain 32 r hr]; rfl, hne ht]
    rw [List.length_append, List.length_cons] at hl
    exact targetIn_exchange _ _ w (by rw [size_list]; omega)
  · rw [show toT 16 l = [] by unfold toT; rw [if_neg (by omega), if_neg (by omega)]]
    exact targetIn_note _ w

set_option maxRecDepth 20000 in
set_option maxHeartbeats 1000000 in
theorem iTargetOf_any (nm d : ByteArray) (ty ttl : Int) (w : World) (hd : d.size ≤ 1048576) (hE : EnvR w) :
    Calls Tryz.prog 11 #[RecV nm ty ttl d] w fun e w' => e = .returned (.tuple #[.string ⟨(targX nm.data.toList ty ttl d.data.toList).toArray⟩, .bool (targO nm.data.toList ty ttl d.data.toList)]) ∧ Below w.heap.size w w' := by
  have HT : Hid (∀ W, EnvR W → Calls Tryz.prog 23 #[RecV nm ty ttl d] W fun e w' => TakeRes W nm.data.toList ty ttl d.data.toList e w') := fun W hW => takeApart_any nm d ty ttl W hd hW
  have hdl : d.data.toList.length ≤ 1048576 := by have : d.data.toList.length = d.size := by simp
                                                  omega
  cases hB : recB nm.data.toList ty ttl d.data.toList with
  | false =>
    have HB : Hid (recB nm.data.toList ty ttl d.data.toList = false) := hB
    have ho : targO nm.data.toList ty ttl d.data.toList = false := by unfold targO; rw [hB]; rfl
    have HO : Hid (targO nm.data.toList ty ttl d.data.toList = false) := ho
    have HX : Hid (targX nm.data.toList ty ttl d.data.toList = []) := if_neg (by rw [ho]; simp)
    clear hB ho
    unfold RecV at HT ⊢
    go_enter Tryz.func11, Tryz.ntmps11
    go_wp2_with fail
    refine (HT.out _ (hE.below ((Below.refl _ _).alloc (Nat.le_refl _) _))).mono ?_
    rintro e w1 ⟨v, rfl, _, hb1⟩
    rw [HB.out]
    have hbw := (box4 hb1).2.2.2.2
    clear hb1
    go_wp2_with fail
    go_ret2
    exact ⟨ret_two (by rw [HX.out]; rfl) (val_bool HO.out.symm), hbw⟩
  | true =>
    have HB : Hid (recB nm.data.toList ty ttl d.data.toList = true) := hB
    have ho : targO nm.data.toList ty ttl d.data.toList = !(toT ty d.data.toList).isEmpty := by unfold targO; rw [hB, Bool.true_and]
    have HO : Hid (targO nm.data.toList ty ttl d.data.toList = !(toT ty d.data.toList).isEmpty) := ho
    have HX : Hid (targX nm.data.toList ty ttl d.data.toList = toT ty d.data.toList) := by
      unfold targX; rw [ho]
      cases toT ty d.data.toList with
      | nil => exact rfl
      | cons x r => exact rfl
    clear hB ho
    unfold RecV at HT ⊢
    go_enter Tryz.func11, Tryz.ntmps11
    go_wp2_with fail
    refine (HT.out _ (hE.below ((Below.refl _ _).alloc (Nat.le_refl _) _))).mono ?_
    rintro e w1 ⟨v, rfl, hv, hb1⟩
    have HV : Hid (IsV ty d.data.toList v) := hv HB.out
    rw [HB.out]
    have hbw := (box4 hb1).2.2.2.2
    clear hb1 hv
    go_wp2_with fail
    refine (targetIn_any HV.out hdl w1).mono ?_
    rintro e w2 ⟨rfl, hb2⟩
    rw [← HO.out, ← HX.out]
    go_wp2_with fail
    go_ret2
    exact ⟨rfl, hbw.trans (hb2.mono hbw.size)⟩
end Go.Proofs.YtdmellmmhipncaaGreatDoor

namespace Go.Proofs.YtdmellmmhipncaaGreatDoor
open Go.RowKit

/-- The name of a record's first word. -/
def nmOf (p : List UInt8) : List UInt8 := if p = [46] then [] else p
/-- What ReadRecord tells. -/
def rrO (l : List UInt8) : Option (List UInt8 × Int × Int × List UInt8) := match cut 32 l with
  | p :: q :: t :: _ :: _ => if recB (nmOf p) (intV t) (intV q) (l.drop (p.length + q.length + t.length + 3)) = true ∧ recT (nmOf p) (intV t).toNat (intV q).toNat (l.drop (p.length + q.length + t.length + 3)) = l then some (nmOf p, intV t, intV q, l.drop (p.length + q.length + t.length + 3)) else none
  | _ => none
def rrVal : Option (List UInt8 × Int × Int × List UInt8) → Value
  | some (nm, ty, ttl, d) => .tuple #[RecV ⟨nm.toArray⟩ ty ttl ⟨d.toArray⟩, .bool true]
  | none => .tuple #[RecV ⟨#[]⟩ 0 0 ⟨#[]⟩, .bool false]
theorem rr_short {l : List UInt8} (h : (cut 32 l).length < 4) : rrO l = none := by
  unfold rrO
  split
  · rename_i p q t c cs e; rw [e] at h; simp at h; omega
  · rfl
theorem rr_split {l p q t r : List UInt8} (hl : l = p ++ 32 :: (q ++ 32 :: (t ++ 32 :: r))) (hc : cut 32 l = p :: q :: t :: cut 32 r) :
    rrO l = if recB (nmOf p) (intV t) (intV q) r = true ∧ recT (nmOf p) (intV t).toNat (intV q).toNat r = l then some (nmOf p, intV t, intV q, r) else none := by
  have hd : l.drop (p.length + q.length + t.length + 3) = r := by
    rw [hl]
    have : p ++ 32 :: (q ++ 32 :: (t ++ 32 :: r)) = (p ++ 32 :: (q ++ 32 :: (t ++ [32]))) ++ r := by simp
    rw [this, List.drop_left']
    simp; omega
  unfold rrO
  rw [hc]
  cases hr : cut 32 r with
  | nil => exact absurd hr (cut_ne 32 r)
  | cons c cs => simp only [hd]
theorem num_noblank (n : Nat) : (32 : UInt8) ∉ numL n := by
  intro h
  have := List.all_eq_true.1 (numL_dig n) 32 h
  revert this; decide
theorem recB_parts {nm d : List UInt8} {ty ttl : Int} (h : recB nm ty ttl d = true) : nameB nm = true := by
  unfold recB at h; simp only [Bool.and_eq_true] at h; exact h.2.1
theorem recT_cut {nm d : List UInt8} {ty ttl : Nat} (h : nameB nm = true) : cut 32 (recT nm ty ttl d) = (if nm = [] then [46] else nm) :: numL ttl :: numL ty :: cut 32 d := by
  have h1 : (32 : UInt8) ∉ (if nm = [] then [46] else nm) := by
    split
    · decide
    · exact name_noblank h
  unfold recT
  rw [cut_at h1, cut_at (num_noblank ttl), cut_at (num_noblank ty)]
/-- Both readings of the numbers tell the same record. -/
theorem rr_same {l p q t r : List UInt8} (hc : cut 32 l = p :: q :: t :: cut 32 r) :
    (recB (nmOf p) (rdNum t 16) (rdNum q 100000) r = true ∧ recT (nmOf p) (rdNum t 16).toNat (rdNum q 100000).toNat r = l) ↔ (recB (nmOf p) (intV t) (intV q) r = true ∧ recT (nmOf p) (intV t).toNat (intV q).toNat r = l) := by
  have key : ∀ ty ttl : Int, recB (nmOf p) ty ttl r = true → recT (nmOf p) ty.toNat ttl.toNat r = l → intV t = ty ∧ intV q = ttl := by
    intro ty ttl hB hT
    obtain ⟨f1, f2, f3, f4⟩ := recB_facts hB
    have h2 := recT_cut (ty := ty.toNat) (ttl := ttl.toNat) (d := r) (recB_parts hB)
    rw [hT, hc] at h2
    simp only [List.cons.injEq] at h2
    rw [h2.2.2.1, h2.2.1, intV_numL (by omega), intV_numL (by omega)]
    omega
  constructor
  · rintro ⟨hB, hT⟩
    obtain ⟨e1, e2⟩ := key _ _ hB hT
    rw [e1, e2]; exact ⟨hB, hT⟩
  · rintro ⟨hB, hT⟩
    obtain ⟨f1, f2, f3, f4⟩ := recB_facts hB
    have n1 : rdNum t 16 = intV t := if_pos (by unfold numIn; rw [decide_eq_true (by omega), decide_eq_true (by omega)]; rfl)
    have n2 : rdNum q 100000 = intV q := if_pos (by unfold numIn; rw [decide_eq_true (by omega), decide_eq_true (by omega)]; rfl)
    rw [n1, n2]; exact ⟨hB, hT⟩
theorem rr_eq {t q : List UInt8} {p r l : List UInt8} (hc : cut 32 l = p :: q :: t :: cut 32 r) (h : recB (nmOf p) (rdNum t 16) (rdNum q 100000) r = true ∧ recT (nmOf p) (rdNum t 16).toNat (rdNum q 100000).toNat r = l) : rdNum t 16 = intV t ∧ rdNum q 100000 = intV q := by
  have h2 := (rr_same hc).1 h
  obtain ⟨f1, f2, f3, f4⟩ := recB_facts h2.1
  exact ⟨if_pos (by unfold numIn; rw [decide_eq_true (by omega), decide_eq_true (by omega)]; rfl), if_pos (by unfold numIn; rw [decide_eq_true (by omega), decide_eq_true (by omega)]; rfl)⟩
/-- The result's cells, and that they may be written. -/
theorem box4f {w W : World} {a b c d : Value} {t : TypeId} (hb : Below (w.alloc (.cells #[a, b, c, d] t)).heap.size (w.alloc (.cells #[a, b, c, d] t)) W) :
    W.frozen? ⟨w.heap.size, 0, none⟩ = false ∧ W.frozen? ⟨w.heap.size, 1, none⟩ = false ∧ W.frozen? ⟨w.heap.size, 2, none⟩ = false ∧ W.frozen? ⟨w.heap.size, 3, none⟩ = false := by
  have hz : w.heap.size < (w.alloc (.cells #[a, b, c, d] t)).heap.size := by simp
  refine ⟨?_, ?_, ?_, ?_⟩
  · rw [hb.frozen (p := ⟨w.heap.size, 0, none⟩) hz]; simp
  · rw [hb.frozen (p := ⟨w.heap.size, 1, none⟩) hz]; simp
  · rw [hb.frozen (p := ⟨w.heap.size, 2, none⟩) hz]; simp
  · rw [hb.frozen (p := ⟨w.heap.size, 3, none⟩) hz]; simp
end Go.Proofs.YtdmellmmhipncaaGreatDoor

namespace Go.Proofs.YtdmellmmhipncaaGreatDoor
open Go.RowKit

theorem cells_at {w : World} {a b c d : Value} {t : TypeId} : (w.alloc (.cells #[a, b, c, d] t)).drew.cell? ⟨w.heap.size, 0, none⟩ = some a ∧ (w.alloc (.cells #[a, b, c, d] t)).drew.cell? ⟨w.heap.size, 1, none⟩ = some b ∧ (w.alloc (.cells #[a, b, c, d] t)).drew.cell? ⟨w.heap.size, 2, none⟩ = some c ∧ (w.alloc (.cells #[a, b, c, d] t)).drew.cell? ⟨w.heap.size, 3, none⟩ = some d ∧ (w.alloc (.cells #[a, b, c, d] t)).drew.frozen? ⟨w.heap.size, 0, none⟩ = false := by
  refine ⟨?_, ?_, ?_, ?_, ?_⟩ <;> simp


end Go.Proofs.YtdmellmmhipncaaGreatDoor

namespace Go.Proofs.YtdmellmmhipncaaGreatDoor
open Go.RowKit

end Go.Proofs.YtdmellmmhipncaaGreatDoor

namespace Go.Proofs.YtdmellmmhipncaaGreatDoor
open Go.RowKit

end Go.Proofs.YtdmellmmhipncaaGreatDoor

namespace Go.Proofs.YtdmellmmhipncaaGreatDoor
open Go.RowKit

end Go.Proofs.YtdmellmmhipncaaGreatDoor

namespace Go.Proofs.YtdmellmmhipncaaGreatDoor
open Go.RowKit

set_option maxRecDepth 20000 in
set_option maxHeartbeats 400000 in
theorem nameFrom_any (p : List UInt8) (w : World) (hl : p.length ≤ 1048576) : Calls Tryz.prog 26 #[.string ⟨p.toArray⟩] w fun e w' => e = .returned (.string ⟨(nmOf p).toArray⟩) ∧ Below w.heap.size w w' := by
  by_cases hp : p = [46]
  · subst hp
    go_enter Tryz.func26, Tryz.ntmps26
    go_wp2_with fail
    go_ret
    exact ⟨rfl, Below.refl _ _⟩
  · have e46 : (p == [46]) = false := by simpa using hp
    have HN : Hid (nmOf p = p) := if_neg hp
    go_enter Tryz.func26, Tryz.ntmps26
    go_wp2_with fail
    refine (cloneR_any ⟨p.toArray⟩ w (by rw [size_list]; omega)).mono ?_
    rintro e w1 ⟨rfl, hb⟩
    go_wp2_with fail
    go_ret
    exact ⟨by rw [HN.out]; rfl, hb⟩
theorem r4_heap {w : World} {g : Nat} {t : TypeId} {v0 v1 v2 v3 u0 u1 u2 u3 : Value} (h : w.heap[g]? = some (.cells #[u0, u1, u2, u3] t)) :
    ((((w.setCell ⟨g, 0, none⟩ v0).setCell ⟨g, 1, none⟩ v1).setCell ⟨g, 2, none⟩ v2).setCell ⟨g, 3, none⟩ v3).heap[g]? = some (.cells #[v0, v1, v2, v3] t) := by
  have e0 := heap_setCell_same _ _ 0 _ _ v0 h
  have e1 := heap_setCell_same _ _ 1 _ _ v1 e0
  have e2 := heap_setCell_same _ _ 2 _ _ v2 e1
  have e3 := heap_setCell_same _ _ 3 _ _ v3 e2
  simpa using e3
theorem r4_below {B : Nat} {a w : World} (h : Below B a w) {g : Nat} (hg : B ≤ g) (v0 v1 v2 v3 : Value) : Below B a ((((w.setCell ⟨g, 0, none⟩ v0).setCell ⟨g, 1, none⟩ v1).setCell ⟨g, 2, none⟩ v2).setCell ⟨g, 3, none⟩ v3) :=
  (((h.setCell (p := ⟨g, 0, none⟩) hg _).setCell (p := ⟨g, 1, none⟩) hg _).setCell (p := ⟨g, 2, none⟩) hg _).setCell (p := ⟨g, 3, none⟩) hg _
theorem r4_cells {W : World} {b : Nat} {v0 v1 v2 v3 : Value} {t : TypeId} (h : W.heap[b]? = some (.cells #[v0, v1, v2, v3] t)) :
    (W.cell? ⟨b, 0, none⟩ = some v0 ∧ W.cell? ⟨b, 1, none⟩ = some v1 ∧ W.cell? ⟨b, 2, none⟩ = some v2 ∧ W.cell? ⟨b, 3, none⟩ = some v3) ∧
    (W.frozen? ⟨b, 0, none⟩ = false ∧ W.frozen? ⟨b, 1, none⟩ = false ∧ W.frozen? ⟨b, 2, none⟩ = false ∧ W.frozen? ⟨b, 3, none⟩ = false) := by
  refine ⟨⟨?_, ?_, ?_, ?_⟩, ⟨?_, ?_, ?_, ?_⟩⟩
  all_goals first
    | (unfold World.cell?; rw [h]; rfl)
    | (unfold World.frozen?; rw [h]; simp)
theorem r4_new (w : World) (o : Obj) : (w.alloc o).heap[w.heap.size]? = some o := by unfold World.alloc; simp

theorem splitQ_short {l : List UInt8} (h : (cut 32 l).length < 4) : ¬ (Lib.splitK [32] 0 (min 4 (l.length + 1) - 1) l).length = 4 := by
  have hc := cut_length_le 32 l
  rw [splitK_cut _ l (by omega)]; omega
theorem splitQ_long {l p q t r : List UInt8} (hc : cut 32 l = p :: q :: t :: cut 32 r) (hk : Lib.splitK [32] 0 3 l = [p, q, t, r]) : Lib.splitK [32] 0 (min 4 (l.length + 1) - 1) l = [p, q, t, r] := by
  have h1 := cut_length_le 32 l
  rw [hc] at h1
  have h2 := List.length_pos_iff.2 (cut_ne 32 r)
  simp only [List.length_cons] at h1
  rw [show min 4 (l.length + 1) - 1 = 3 by omega]; exact hk


set_option maxRecDepth 20000 in
set_option maxHeartbeats 1000000 in
theorem iRead_short (s : ByteArray) (w : World) (hs : s.size ≤ 1048576) (hE : EnvR w) (h4 : Hid ((cut 32 s.data.toList).length < 4)) :
    Calls Tryz.prog 8 #[.string s] w fun e w' => e = .returned (.tuple #[RecV ⟨#[]⟩ 0 0 ⟨#[]⟩, .bool false]) ∧ Below w.heap.size w w' := by
  obtain ⟨W0, hW0⟩ : ∃ W0, W0 = w.alloc (.cells #[.string ⟨#[]⟩, .int .i64 0, .int .i64 0, .string ⟨#[]⟩] 24) := ⟨_, rfl⟩
  have HX : Hid (∀ W, Below W0.heap.size W0 W → (W.cell? ⟨w.heap.size, 0, none⟩ = some (.string ⟨#[]⟩) ∧ W.cell? ⟨w.heap.size, 1, none⟩ = some (.int .i64 0) ∧ W.cell? ⟨w.heap.size, 2, none⟩ = some (.int .i64 0) ∧ W.cell? ⟨w.heap.size, 3, none⟩ = some (.string ⟨#[]⟩) ∧ Below w.heap.size w W) ∧ (W.frozen? ⟨w.heap.size, 0, none⟩ = false ∧ W.frozen? ⟨w.heap.size, 1, none⟩ = false ∧ W.frozen? ⟨w.heap.size, 2, none⟩ = false ∧ W.frozen? ⟨w.heap.size, 3, none⟩ = false)) := fun W h => by rw [hW0] at h; exact ⟨box4 h, box4f h⟩
  have HW0 : Hid (w.alloc (.cells #[.string ⟨#[]⟩, .int .i64 0, .int .i64 0, .string ⟨#[]⟩] 24) = W0) := hW0.symm
  have hb00 : Below w.heap.size w W0 := by rw [hW0]; exact (Below.refl _ _).alloc (Nat.le_refl _) _
  have HTR : Hid (∀ W W', Below W0.heap.size W0 W → Below W.heap.size W W' → Below W0.heap.size W0 W') := fun W W' h1 h2 => h1.trans (h2.mono h1.size)
  have HENV : Hid (∀ W, Below W0.heap.size W0 W → EnvR W) := fun W h => hE.below (HX.out W h).1.2.2.2.2
  have hsn : Calls Tryz.prog 24 #[.string s, .string ⟨#[32]⟩, .int .i64 4] W0 fun e w' => ∃ (Q : List (List UInt8)) (cap : Nat), e = .returned (.slice (some ⟨W0.heap.size, 0, none⟩) Q.length cap) ∧ Q.length ≤ cap ∧ cap ≤ 1000 ∧ Q = Lib.splitK [32] 0 (min 4 (s.data.toList.length + 1) - 1) s.data.toList ∧ (∀ j, (hj : j < Q.length) → w'.cell? ⟨W0.heap.size, j, none⟩ = some (S Q[j])) ∧ W0.heap.size < w'.heap.size ∧ Below W0.heap.size W0 w' := splitN_row s 32 4 W0 hs (hE.1.below hb00) (by omega) (by omega)
  have HSN : Hid (Calls Tryz.prog 24 #[.string s, .string ⟨#[32]⟩, .int .i64 4] W0 fun e w' => ∃ (n cap : Nat), e = .returned (.slice (some ⟨W0.heap.size, 0, none⟩) n cap) ∧ n ≤ cap ∧ cap ≤ 1000 ∧ ¬ n = 4 ∧ Below W0.heap.size W0 w') := hsn.mono fun e w' h => by
    obtain ⟨Q, cap, rfl, h1, h2, hQ, _, _, h3⟩ := h
    exact ⟨Q.length, cap, rfl, h1, h2, by rw [hQ]; exact splitQ_short h4.out, h3⟩
  clear hW0 hsn
  unfold RecV
  go_enter Tryz.func8, Tryz.ntmps8
  go_wp2_with fail
  rw [HW0.out]
  refine HSN.out.mono ?_
  rintro e w1 ⟨n, cap, rfl, hcap, hcap2, hn4, hb⟩
  obtain ⟨⟨c0, c1, c2, c3, hbw⟩, ⟨f0, f1, f2, f3⟩⟩ := HX.out w1 hb
  have e4 : ((n : Int) != 4) = true := by simp; omega
  clear hb hn4
  go_wp2_with fail
  (try simp only [Exit.inBlock, Exit.then])
  refine bodyPost_ret (v := .tuple #[.agg #[.string ⟨#[]⟩, .int .i64 0, .int .i64 0, .string ⟨#[]⟩], .bool false]) ?_ rfl ⟨rfl, ?_⟩
  · rw [results_cell_tmp rfl]; go_simp
  · exact (((hbw.setCell (p := ⟨w.heap.size, 0, none⟩) (Nat.le_refl _) _).setCell (p := ⟨w.heap.size, 1, none⟩) (Nat.le_refl _) _).setCell (p := ⟨w.heap.size, 2, none⟩) (Nat.le_refl _) _).setCell (p := ⟨w.heap.size, 3, none⟩) (Nat.le_refl _) _

set_option maxRecDepth 20000 in
set_option maxHeartbeats 4000000 in
theorem iRead_bad (s : ByteArray) (p q t r nm : List UInt8) (w : World) (hs : s.size ≤ 1048576) (hE : EnvR w) (hl : Hid (s.data.toList = p ++ 32 :: (q ++ 32 :: (t ++ 32 :: r)))) (hQ4 : Hid (Lib.splitK [32] 0 (min 4 (s.data.toList.length + 1) - 1) s.data.toList = [p, q, t, r])) (hnm : Hid (nm = nmOf p)) (hG : Hid (recB nm (rdNum t 16) (rdNum q 100000) r = false)) :
    Calls Tryz.prog 8 #[.string s] w fun e w' => e = .returned (.tuple #[RecV ⟨#[]⟩ 0 0 ⟨#[]⟩, .bool false]) ∧ Below w.heap.size w w' := by
  obtain ⟨W0, hW0⟩ : ∃ W0, W0 = w.alloc (.cells #[.string ⟨#[]⟩, .int .i64 0, .int .i64 0, .string ⟨#[]⟩] 24) := ⟨_, rfl⟩
  have HX : Hid (∀ W, Below W0.heap.size W0 W → (W.cell? ⟨w.heap.size, 0, none⟩ = some (.string ⟨#[]⟩) ∧ W.cell? ⟨w.heap.size, 1, none⟩ = some (.int .i64 0) ∧ W.cell? ⟨w.heap.size, 2, none⟩ = some (.int .i64 0) ∧ W.cell? ⟨w.heap.size, 3, none⟩ = some (.string ⟨#[]⟩) ∧ Below w.heap.size w W) ∧ (W.frozen? ⟨w.heap.size, 0, none⟩ = false ∧ W.frozen? ⟨w.heap.size, 1, none⟩ = false ∧ W.frozen? ⟨w.heap.size, 2, none⟩ = false ∧ W.frozen? ⟨w.heap.size, 3, none⟩ = false)) := fun W h => by rw [hW0] at h; exact ⟨box4 h, box4f h⟩
  have HW0 : Hid (w.alloc (.cells #[.string ⟨#[]⟩, .int .i64 0, .int .i64 0, .string ⟨#[]⟩] 24) = W0) := hW0.symm
  have hzw0 : w.heap.size < W0.heap.size := by rw [hW0]; simp
  have hb00 : Below w.heap.size w W0 := by rw [hW0]; exact (Below.refl _ _).alloc (Nat.le_refl _) _
  have HTR : Hid (∀ W W', Below W0.heap.size W0 W → Below W.heap.size W W' → Below W0.heap.size W0 W') := fun W W' h1 h2 => h1.trans (h2.mono h1.size)
  have HENV : Hid (∀ W, Below W0.heap.size W0 W → EnvR W) := fun W h => hE.below (HX.out W h).1.2.2.2.2
  have hsn : Calls Tryz.prog 24 #[.string s, .string ⟨#[32]⟩, .int .i64 4] W0 fun e w' => ∃ (Q : List (List UInt8)) (cap : Nat), e = .returned (.slice (some ⟨W0.heap.size, 0, none⟩) Q.length cap) ∧ Q.length ≤ cap ∧ cap ≤ 1000 ∧ Q = Lib.splitK [32] 0 (min 4 (s.data.toList.length + 1) - 1) s.data.toList ∧ (∀ j, (hj : j < Q.length) → w'.cell? ⟨W0.heap.size, j, none⟩ = some (S Q[j])) ∧ W0.heap.size < w'.heap.size ∧ Below W0.heap.size W0 w' := splitN_row s 32 4 W0 hs (hE.1.below hb00) (by omega) (by omega)
  have hsz : s.data.toList.length = s.size := by simp
  have hlen : p.length + q.length + t.length + 3 + r.length = s.size := by
    rw [← hsz, hl.out]; simp; omega
  have hnl : nm.length ≤ 1048576 := by
    rw [hnm.out]
    unfold nmOf
    split
    · simp
    · omega
  have HSN : Hid (Calls Tryz.prog 24 #[.string s, .string ⟨#[32]⟩, .int .i64 4] W0 fun e w' => ∃ cap : Nat, e = .returned (.slice (some ⟨W0.heap.size, 0, none⟩) 4 cap) ∧ 4 ≤ cap ∧ cap ≤ 1000 ∧ w'.cell? ⟨W0.heap.size, 0, none⟩ = some (.string ⟨p.toArray⟩) ∧ w'.cell? ⟨W0.heap.size, 1, none⟩ = some (.string ⟨q.toArray⟩) ∧ w'.cell? ⟨W0.heap.size, 2, none⟩ = some (.string ⟨t.toArray⟩) ∧ w'.cell? ⟨W0.heap.size, 3, none⟩ = some (.string ⟨r.toArray⟩) ∧ W0.heap.size < w'.heap.size ∧ Below W0.heap.size W0 w') := hsn.mono fun e w' h => by
    obtain ⟨Q, cap, rfl, h1, h2, hQ, hcell, hlt, h3⟩ := h
    rw [hQ4.out] at hQ
    subst hQ
    exact ⟨cap, rfl, h1, h2, hcell 0 (by simp), hcell 1 (by simp), hcell 2 (by simp), hcell 3 (by simp), hlt, h3⟩
  have HR1 : Hid (∀ W, EnvR W → Calls Tryz.prog 25 #[.string ⟨q.toArray⟩, .int .i64 100000] W fun e w' => e = .returned (.tuple #[.int .i64 (rdNum q 100000), .bool (numIn q 100000)]) ∧ Below W.heap.size W w') := fun W hW => readNumber_any ⟨q.toArray⟩ 100000 W (by rw [size_list]; omega) (by omega) (by omega) hW
  have HR2 : Hid (∀ W, EnvR W → Calls Tryz.prog 25 #[.string ⟨t.toArray⟩, .int .i64 16] W fun e w' => e = .returned (.tuple #[.int .i64 (rdNum t 16), .bool (numIn t 16)]) ∧ Below W.heap.size W w') := fun W hW => readNumber_any ⟨t.toArray⟩ 16 W (by rw [size_list]; omega) (by omega) (by omega) hW
  have HC1 : Hid (∀ W, Calls Tryz.prog 26 #[.string ⟨p.toArray⟩] W fun e w' => e = .returned (.string ⟨nm.toArray⟩) ∧ Below W.heap.size W w') := fun W => by rw [hnm.out]; exact nameFrom_any p W (by omega)
  have HC2 : Hid (∀ W, Calls Tryz.prog 27 #[.string ⟨r.toArray⟩] W fun e w' => e = .returned (.string ⟨r.toArray⟩) ∧ Below W.heap.size W w') := fun W => cloneR_any ⟨r.toArray⟩ W (by rw [size_list]; omega)
  have HTX : Hid (∀ W, EnvR W → Calls Tryz.prog 5 #[RecV ⟨nm.toArray⟩ (rdNum t 16) (rdNum q 100000) ⟨r.toArray⟩] W fun e w' => e = .returned (.tuple #[.string ⟨#[]⟩, .bool false]) ∧ Below W.heap.size W w') := fun W hW => by
    have h := iRecordText_any ⟨nm.toArray⟩ ⟨r.toArray⟩ (rdNum t 16) (rdNum q 100000) W (by rw [size_list]; omega) (by rw [size_list]; omega) hW
    rw [show recB (⟨nm.toArray⟩ : ByteArray).data.toList (rdNum t 16) (rdNum q 100000) (⟨r.toArray⟩ : ByteArray).data.toList = false from hG.out, show recX (⟨nm.toArray⟩ : ByteArray).data.toList (rdNum t 16) (rdNum q 100000) (⟨r.toArray⟩ : ByteArray).data.toList = [] from if_neg (by rw [show recB (⟨nm.toArray⟩ : ByteArray).data.toList (rdNum t 16) (rdNum q 100000) (⟨r.toArray⟩ : ByteArray).data.toList = false from hG.out]; simp)] at h
    exact h
  obtain ⟨ty, hty⟩ : ∃ ty, ty = rdNum t 16 := ⟨_, rfl⟩
  obtain ⟨ttl, httl⟩ : ∃ ttl, ttl = rdNum q 100000 := ⟨_, rfl⟩
  rw [← hty, ← httl] at HTX
  rw [← httl] at HR1
  rw [← hty] at HR2
  clear hW0 hsn hsz hlen hty httl hG hnl
  unfold RecV at HTX ⊢
  go_enter Tryz.func8, Tryz.ntmps8
  go_wp2_with fail
  rw [HW0.out]
  refine HSN.out.mono ?_
  rintro e w1 ⟨cap, rfl, hcap, hcap2, d0, d1, d2, d3, hlt, hb⟩
  obtain ⟨g, hg⟩ : ∃ g, g = W0.heap.size := ⟨_, rfl⟩
  rw [← hg] at d0 d1 d2 d3 hlt ⊢
  have HD : Hid (∀ W, Below w1.heap.size w1 W → W.cell? ⟨g, 0, none⟩ = some (.string ⟨p.toArray⟩) ∧ W.cell? ⟨g, 1, none⟩ = some (.string ⟨q.toArray⟩) ∧ W.cell? ⟨g, 2, none⟩ = some (.string ⟨t.toArray⟩) ∧ W.cell? ⟨g, 3, none⟩ = some (.string ⟨r.toArray⟩)) := fun W h => by
    rw [h.cell (p := ⟨g, 0, none⟩) hlt, h.cell (p := ⟨g, 1, none⟩) hlt, h.cell (p := ⟨g, 2, none⟩) hlt, h.cell (p := ⟨g, 3, none⟩) hlt]; exact ⟨d0, d1, d2, d3⟩
  have HT1 : Hid (∀ W W', Below w1.heap.size w1 W → Below W.heap.size W W' → Below w1.heap.size w1 W') := fun W W' h1 h2 => h1.trans (h2.mono h1.size)
  have HB1 : Hid (Below W0.heap.size W0 w1) := hb
  have hz01 : W0.heap.size ≤ w1.heap.size := hb.size
  have HE1 : Hid (∀ W, Below w1.heap.size w1 W → EnvR W) := fun W h => HENV.out W (HTR.out _ _ hb h)
  have HX1 : Hid (∀ W, Below w1.heap.size w1 W → (W.cell? ⟨w.heap.size, 0, none⟩ = some (.string ⟨#[]⟩) ∧ W.cell? ⟨w.heap.size, 1, none⟩ = some (.int .i64 0) ∧ W.cell? ⟨w.heap.size, 2, none⟩ = some (.int .i64 0) ∧ W.cell? ⟨w.heap.size, 3, none⟩ = some (.string ⟨#[]⟩) ∧ Below w.heap.size w W) ∧ (W.frozen? ⟨w.heap.size, 0, none⟩ = false ∧ W.frozen? ⟨w.heap.size, 1, none⟩ = false ∧ W.frozen? ⟨w.heap.size, 2, none⟩ = false ∧ W.frozen? ⟨w.heap.size, 3, none⟩ = false)) := fun W h => HX.out W (HTR.out _ _ hb h)
  have hbz : Below w1.heap.size w1 w1 := Below.refl _ _
  clear hg hb hlt
  go_wp2_with fail
  refine (HR1.out _ (HE1.out _ hbz)).mono ?_
  rintro e w2 ⟨rfl, hb2⟩
  have hb12 := HT1.out _ _ hbz hb2
  clear d0 d1 d2 d3 hbz hb2
  obtain ⟨d0, d1, d2, d3⟩ := HD.out w2 hb12
  go_wp2_with fail
  refine (HR2.out _ (HE1.out _ hb12)).mono ?_
  rintro e w3 ⟨rfl, hb3⟩
  have hb13 := HT1.out _ _ hb12 hb3
  clear d0 d1 d2 d3 hb12 hb3
  have hS0 : (fun W : World => Below w1.heap.size w1 W) w3.drew := hb13.drew
  have hz13 : w1.heap.size ≤ w3.heap.size := hb13.size
  have h4c : ¬ (cap : Int) ≤ 0 := by omega
  go_wp2_with fail
  refine wp_region_noPanic ?_
  refine wp_region_held_drew (S := fun W => Below w1.heap.size w1 W) (by kernel_rfl) hS0 (fun hHeld => ?_)
  refine wpAnyH_take (i := 0) (v := .slice (some ⟨g, 0, none⟩) 4 cap) rfl (by kernel_rfl) (by kernel_rfl) (by kernel_rfl) (fun _ _ _ h => h) (Or.inl ⟨by rfl, ?_⟩) (by assumption) ?_
  · intro W hSW
    go_simp
    all_goals (try omega)
  simp only [Act.put, List.setIfInBounds_toArray]
  refine wpAnyH_take (i := 1) (v := .pointer (some ⟨g, 0, none⟩)) rfl (by kernel_rfl) (by kernel_rfl) (by kernel_rfl) (fun _ _ _ h => h) (Or.inl ⟨by rfl, ?_⟩) (by assumption) ?_
  · intro W hSW
    go_simp
    all_goals (try omega)
  simp only [Act.put]
  refine wpAnyH_take (i := 2) (v := .string ⟨p.toArray⟩) rfl (by kernel_rfl) (by kernel_rfl) (by kernel_rfl) (fun _ _ _ h => h) (Or.inl ⟨by rfl, ?_⟩) (by assumption) ?_
  · intro W hSW
    obtain ⟨d0, d1, d2, d3⟩ := HD.out W hSW
    go_simp
    all_goals (try omega)
  simp only [Act.put]
  refine wpAnyH_take (i := 4) (v := .int .i64 ty) rfl (by kernel_rfl) (by kernel_rfl) (by kernel_rfl) (fun _ _ _ h => h) (Or.inl ⟨by rfl, ?_⟩) (by assumption) ?_
  · intro W hSW
    go_simp
    all_goals (try omega)
  simp only [Act.put]
  refine wpAnyH_take (i := 5) (v := .int .i64 ttl) rfl (by kernel_rfl) (by kernel_rfl) (by kernel_rfl) (fun _ _ _ h => h) (Or.inl ⟨by rfl, ?_⟩) (by assumption) ?_
  · intro W hSW
    go_simp
    all_goals (try omega)
  simp only [Act.put]
  refine wpAnyH_take (i := 6) (v := .slice (some ⟨g, 0, none⟩) 4 cap) rfl (by kernel_rfl) (by kernel_rfl) (by kernel_rfl) (fun _ _ _ h => h) (Or.inl ⟨by rfl, ?_⟩) (by assumption) ?_
  · intro W hSW
    go_simp
    all_goals (try omega)
  simp only [Act.put]
  refine wpAnyH_take (i := 7) (v := .pointer (some ⟨g, 3, none⟩)) rfl (by kernel_rfl) (by kernel_rfl) (by kernel_rfl) (fun _ _ _ h => h) (Or.inl ⟨by rfl, ?_⟩) (by assumption) ?_
  · intro W hSW
    go_simp
    all_goals (try omega)
  simp only [Act.put]
  refine wpAnyH_take (i := 8) (v := .string ⟨r.toArray⟩) rfl (by kernel_rfl) (by kernel_rfl) (by kernel_rfl) (fun _ _ _ h => h) (Or.inl ⟨by rfl, ?_⟩) (by assumption) ?_
  · intro W hSW
    obtain ⟨d0, d1, d2, d3⟩ := HD.out W hSW
    go_simp
    all_goals (try omega)
  simp only [Act.put]
  refine wpAnyH_ready (rs := [3, 11]) (by kernel_rfl) (by simp) ?_
  refine AllReadyH.cons rfl (fun K hK => ?_) (AllReadyH.cons rfl (fun K hK => ?_) AllReadyH.nil)
  · rw [if_pos (by rfl)]
    go_simp
    refine (HC1.out _).mono ?_
    rintro e w4 ⟨rfl, hb14'⟩
    go_simp
    have hb14 := HT1.out _ _ hS0 hb14'
    refine hK.out _ _ hb14 (fun hS4 => ?_)
    clear hK
    refine wpAnyH_ready (rs := [9, 11]) (by kernel_rfl) (by simp) ?_
    refine AllReadyH.cons rfl (fun K hK => ?_) (AllReadyH.cons rfl (fun K hK => ?_) AllReadyH.nil)
    · rw [if_pos (by rfl)]
      go_simp
      refine (HC2.out _).mono ?_
      rintro e w5 ⟨rfl, hb15'⟩
      go_simp
      have hb15 := HT1.out _ _ hS4 hb15'
      refine hK.out _ _ hb15 (fun hS5 => ?_)
      clear hK
      refine wpAnyH_take (i := 10) (v := (.agg #[.string ⟨nm.toArray⟩, .int .i64 ty, .int .i64 ttl, .string ⟨r.toArray⟩])) rfl (by kernel_rfl) (by kernel_rfl) (by kernel_rfl) (fun _ _ _ h => h) (Or.inl ⟨by rfl, ?_⟩) (by assumption) ?_
      · intro W hSW
        go_simp
        all_goals (try omega)
      simp only [Act.put, List.setIfInBounds_toArray]
      refine wpAnyH_ready (rs := [11]) (by kernel_rfl) (by simp) ?_
      refine AllReadyH.cons rfl (fun K hK => ?_) AllReadyH.nil
      rw [if_pos (by rfl)]
      go_simp
      refine hK.out _ _ (hb15.alloc hb15.size _) (fun hS6 => ?_)
      clear hK
      obtain ⟨gb, hgb⟩ : ∃ gb, gb = w5.heap.size := ⟨_, rfl⟩
      have HBP : Hid ((w5.alloc (.cells #[.string ⟨#[]⟩, .int .i64 0, .int .i64 0, .string ⟨#[]⟩] 24)).heap[gb]? = some (.cells #[.string ⟨#[]⟩, .int .i64 0, .int .i64 0, .string ⟨#[]⟩] 24)) := by rw [hgb]; exact r4_new _ _
      have hbP : Below w1.heap.size w1 (w5.alloc (.cells #[.string ⟨#[]⟩, .int .i64 0, .int .i64 0, .string ⟨#[]⟩] 24)) := hS6
      have hgP : w1.heap.size ≤ gb ∧ gb < ((w5.alloc (.cells #[.string ⟨#[]⟩, .int .i64 0, .int .i64 0, .string ⟨#[]⟩] 24))).heap.size := ⟨by rw [hgb]; exact hb15.size, by rw [hgb]; simp⟩
      rw [← hgb]
      clear hgb
      obtain ⟨⟨u0, u1, u2, u3⟩, ⟨v0, v1, v2, v3⟩⟩ := r4_cells HBP.out
      refine wpAnyH_ready (rs := [12]) (by kernel_rfl) (by simp) ?_
      refine AllReadyH.cons rfl (fun K hK => ?_) AllReadyH.nil
      rw [if_pos (by rfl)]
      go_simp
      refine hK.out _ _ (r4_below hbP hgP.1 _ _ _ _) (fun hS9 => ?_)
      have hbF := hS9
      have HBX : Hid ((((((w5.alloc (.cells #[.string ⟨#[]⟩, .int .i64 0, .int .i64 0, .string ⟨#[]⟩] 24)).setCell ⟨gb, 0, none⟩ (.string ⟨nm.toArray⟩)).setCell ⟨gb, 1, none⟩ (.int .i64 ty)).setCell ⟨gb, 2, none⟩ (.int .i64 ttl)).setCell ⟨gb, 3, none⟩ (.string ⟨r.toArray⟩)).heap[gb]? = some (.cells #[.string ⟨nm.toArray⟩, .int .i64 ty, .int .i64 ttl, .string ⟨r.toArray⟩] 24)) := r4_heap HBP.out
      have hgF : gb < (w5.alloc (.cells #[.string ⟨#[]⟩, .int .i64 0, .int .i64 0, .string ⟨#[]⟩] 24)).heap.size := hgP.2
      clear u0 u1 u2 u3 v0 v1 v2 v3
      clear hK
      refine wpAnyH_done (by kernel_rfl) ?_ _
      refine NoPanic.normal ?_
      clear hS0 hHeld
      obtain ⟨⟨m0, m1, m2, m3⟩, _⟩ := r4_cells HBX.out
      go_wp2_with fail
      refine (HTX.out _ (HE1.out _ hbF)).mono ?_
      rintro e w6 ⟨rfl, hb6⟩
      have hb16 := HT1.out _ _ hbF hb6
      have HBX6 : Hid (w6.heap[gb]? = some (.cells #[.string ⟨nm.toArray⟩, .int .i64 ty, .int .i64 ttl, .string ⟨r.toArray⟩] 24)) := (hb6.block gb (by simpa using hgF)).trans HBX.out
      obtain ⟨⟨c0, c1, c2, c3, hbw⟩, ⟨f0, f1, f2, f3⟩⟩ := HX1.out w6 hb16
      clear m0 m1 m2 m3
      obtain ⟨⟨m0, m1, m2, m3⟩, _⟩ := r4_cells HBX6.out
      have hng : gb ≠ w.heap.size := by omega
      have hng2 : w.heap.size ≠ gb := by omega
      clear hb6 hb16
      go_wp2_with fail
      (try simp only [Exit.inBlock, Exit.then])
      refine bodyPost_ret (v := .tuple #[(.agg #[.string ⟨#[]⟩, .int .i64 0, .int .i64 0, .string ⟨#[]⟩]), .bool false]) ?_ rfl ⟨rfl, ?_⟩
      · rw [results_cell_tmp rfl]; go_simp
      · exact r4_below hbw (Nat.le_refl _) _ _ _ _
    · rw [if_pos (by rfl)]
      go_simp
      refine hK.out _ _ (hb14.alloc hb14.size _) (fun hS5 => ?_)
      clear hK
      refine wpAnyH_ready (rs := [9]) (by kernel_rfl) (by simp) ?_
      refine AllReadyH.cons rfl (fun K hK => ?_) AllReadyH.nil
      rw [if_pos (by rfl)]
      go_simp
      refine (HC2.out _).mono ?_
      rintro e w5 ⟨rfl, hb15'⟩
      go_simp
      have hb15 := HT1.out _ _ hS5 hb15'
      refine hK.out _ _ hb15 (fun hS6 => ?_)
      clear hK
      refine wpAnyH_take (i := 10) (v := (.agg #[.string ⟨nm.toArray⟩, .int .i64 ty, .int .i64 ttl, .string ⟨r.toArray⟩])) rfl (by kernel_rfl) (by kernel_rfl) (by kernel_rfl) (fun _ _ _ h => h) (Or.inl ⟨by rfl, ?_⟩) (by assumption) ?_
      · intro W hSW
        go_simp
        all_goals (try omega)
      simp only [Act.put, List.setIfInBounds_toArray]
      obtain ⟨gb, hgb⟩ : ∃ gb, gb = w4.heap.size := ⟨_, rfl⟩
      have HBP : Hid (w5.heap[gb]? = some (.cells #[.string ⟨#[]⟩, .int .i64 0, .int .i64 0, .string ⟨#[]⟩] 24)) := by rw [hgb]; exact (hb15'.block w4.heap.size (by simp)).trans (r4_new _ _)
      have hbP : Below w1.heap.size w1 w5 := hb15
      have hgP : w1.heap.size ≤ gb ∧ gb < (w5).heap.size := ⟨by rw [hgb]; exact hb14.size, by rw [hgb]; exact Nat.lt_of_lt_of_le (by simp) hb15'.size⟩
      rw [← hgb]
      clear hgb
      obtain ⟨⟨u0, u1, u2, u3⟩, ⟨v0, v1, v2, v3⟩⟩ := r4_cells HBP.out
      refine wpAnyH_ready (rs := [12]) (by kernel_rfl) (by simp) ?_
      refine AllReadyH.cons rfl (fun K hK => ?_) AllReadyH.nil
      rw [if_pos (by rfl)]
      go_simp
      refine hK.out _ _ (r4_below hbP hgP.1 _ _ _ _) (fun hS9 => ?_)
      have hbF := hS9
      have HBX : Hid (((((w5.setCell ⟨gb, 0, none⟩ (.string ⟨nm.toArray⟩)).setCell ⟨gb, 1, none⟩ (.int .i64 ty)).setCell ⟨gb, 2, none⟩ (.int .i64 ttl)).setCell ⟨gb, 3, none⟩ (.string ⟨r.toArray⟩)).heap[gb]? = some (.cells #[.string ⟨nm.toArray⟩, .int .i64 ty, .int .i64 ttl, .string ⟨r.toArray⟩] 24)) := r4_heap HBP.out
      have hgF : gb < w5.heap.size := hgP.2
      clear u0 u1 u2 u3 v0 v1 v2 v3
      clear hK
      refine wpAnyH_done (by kernel_rfl) ?_ _
      refine NoPanic.normal ?_
      clear hS0 hHeld
      obtain ⟨⟨m0, m1, m2, m3⟩, _⟩ := r4_cells HBX.out
      go_wp2_with fail
      refine (HTX.out _ (HE1.out _ hbF)).mono ?_
      rintro e w6 ⟨rfl, hb6⟩
      have hb16 := HT1.out _ _ hbF hb6
      have HBX6 : Hid (w6.heap[gb]? = some (.cells #[.string ⟨nm.toArray⟩, .int .i64 ty, .int .i64 ttl, .string ⟨r.toArray⟩] 24)) := (hb6.block gb (by simpa using hgF)).trans HBX.out
      obtain ⟨⟨c0, c1, c2, c3, hbw⟩, ⟨f0, f1, f2, f3⟩⟩ := HX1.out w6 hb16
      clear m0 m1 m2 m3
      obtain ⟨⟨m0, m1, m2, m3⟩, _⟩ := r4_cells HBX6.out
      have hng : gb ≠ w.heap.size := by omega
      have hng2 : w.heap.size ≠ gb := by omega
      clear hb6 hb16
      go_wp2_with fail
      (try simp only [Exit.inBlock, Exit.then])
      refine bodyPost_ret (v := .tuple #[(.agg #[.string ⟨#[]⟩, .int .i64 0, .int .i64 0, .string ⟨#[]⟩]), .bool false]) ?_ rfl ⟨rfl, ?_⟩
      · rw [results_cell_tmp rfl]; go_simp
      · exact r4_below hbw (Nat.le_refl _) _ _ _ _
  · rw [if_pos (by rfl)]
    go_simp
    refine hK.out _ _ (hS0.alloc hS0.size _) (fun hS4 => ?_)
    clear hK
    refine wpAnyH_ready (rs := [3]) (by kernel_rfl) (by simp) ?_
    refine AllReadyH.cons rfl (fun K hK => ?_) AllReadyH.nil
    rw [if_pos (by rfl)]
    go_simp
    refine (HC1.out _).mono ?_
    rintro e w4 ⟨rfl, hb14'⟩
    go_simp
    have hb14 := HT1.out _ _ hS4 hb14'
    refine hK.out _ _ hb14 (fun hS5 => ?_)
    clear hK
    refine wpAnyH_ready (rs := [9]) (by kernel_rfl) (by simp) ?_
    refine AllReadyH.cons rfl (fun K hK => ?_) AllReadyH.nil
    rw [if_pos (by rfl)]
    go_simp
    refine (HC2.out _).mono ?_
    rintro e w5 ⟨rfl, hb15'⟩
    go_simp
    have hb15 := HT1.out _ _ hS5 hb15'
    refine hK.out _ _ hb15 (fun hS6 => ?_)
    clear hK
    refine wpAnyH_take (i := 10) (v := (.agg #[.string ⟨nm.toArray⟩, .int .i64 ty, .int .i64 ttl, .string ⟨r.toArray⟩])) rfl (by kernel_rfl) (by kernel_rfl) (by kernel_rfl) (fun _ _ _ h => h) (Or.inl ⟨by rfl, ?_⟩) (by assumption) ?_
    · intro W hSW
      go_simp
      all_goals (try omega)
    simp only [Act.put, List.setIfInBounds_toArray]
    obtain ⟨gb, hgb⟩ : ∃ gb, gb = w3.heap.size := ⟨_, rfl⟩
    have HBP : Hid (w5.heap[gb]? = some (.cells #[.string ⟨#[]⟩, .int .i64 0, .int .i64 0, .string ⟨#[]⟩] 24)) := by rw [hgb]; exact (hb15'.block w3.heap.size (Nat.lt_of_lt_of_le (by simp) hb14'.size)).trans ((hb14'.block w3.heap.size (by simp)).trans (r4_new w3.drew _))
    have hbP : Below w1.heap.size w1 w5 := hb15
    have hgP : w1.heap.size ≤ gb ∧ gb < (w5).heap.size := ⟨by rw [hgb]; exact hS0.size, by rw [hgb]; exact Nat.lt_of_lt_of_le (Nat.lt_of_lt_of_le (by simp) hb14'.size) hb15'.size⟩
    rw [← hgb]
    clear hgb
    obtain ⟨⟨u0, u1, u2, u3⟩, ⟨v0, v1, v2, v3⟩⟩ := r4_cells HBP.out
    refine wpAnyH_ready (rs := [12]) (by kernel_rfl) (by simp) ?_
    refine AllReadyH.cons rfl (fun K hK => ?_) AllReadyH.nil
    rw [if_pos (by rfl)]
    go_simp
    refine hK.out _ _ (r4_below hbP hgP.1 _ _ _ _) (fun hS9 => ?_)
    have hbF := hS9
    have HBX : Hid (((((w5.setCell ⟨gb, 0, none⟩ (.string ⟨nm.toArray⟩)).setCell ⟨gb, 1, none⟩ (.int .i64 ty)).setCell ⟨gb, 2, none⟩ (.int .i64 ttl)).setCell ⟨gb, 3, none⟩ (.string ⟨r.toArray⟩)).heap[gb]? = some (.cells #[.string ⟨nm.toArray⟩, .int .i64 ty, .int .i64 ttl, .string ⟨r.toArray⟩] 24)) := r4_heap HBP.out
    have hgF : gb < w5.heap.size := hgP.2
    clear u0 u1 u2 u3 v0 v1 v2 v3
    clear hK
    refine wpAnyH_done (by kernel_rfl) ?_ _
    refine NoPanic.normal ?_
    clear hS0 hHeld
    obtain ⟨⟨m0, m1, m2, m3⟩, _⟩ := r4_cells HBX.out
    go_wp2_with fail
    refine (HTX.out _ (HE1.out _ hbF)).mono ?_
    rintro e w6 ⟨rfl, hb6⟩
    have hb16 := HT1.out _ _ hbF hb6
    have HBX6 : Hid (w6.heap[gb]? = some (.cells #[.string ⟨nm.toArray⟩, .int .i64 ty, .int .i64 ttl, .string ⟨r.toArray⟩] 24)) := (hb6.block gb (by simpa using hgF)).trans HBX.out
    obtain ⟨⟨c0, c1, c2, c3, hbw⟩, ⟨f0, f1, f2, f3⟩⟩ := HX1.out w6 hb16
    clear m0 m1 m2 m3
    obtain ⟨⟨m0, m1, m2, m3⟩, _⟩ := r4_cells HBX6.out
    have hng : gb ≠ w.heap.size := by omega
    have hng2 : w.heap.size ≠ gb := by omega
    clear hb6 hb16
    go_wp2_with fail
    (try simp only [Exit.inBlock, Exit.then])
    refine bodyPost_ret (v := .tuple #[(.agg #[.string ⟨#[]⟩, .int .i64 0, .int .i64 0, .string ⟨#[]⟩]), .bool false]) ?_ rfl ⟨rfl, ?_⟩
    · rw [results_cell_tmp rfl]; go_simp
    · exact r4_below hbw (Nat.le_refl _) _ _ _ _

set_option maxRecDepth 20000 in
set_option maxHeartbeats 4000000 in
theorem iRead_other (s : ByteArray) (p q t r nm : List UInt8) (w : World) (hs : s.size ≤ 1048576) (hE : EnvR w) (hl : Hid (s.data.toList = p ++ 32 :: (q ++ 32 :: (t ++ 32 :: r)))) (hQ4 : Hid (Lib.splitK [32] 0 (min 4 (s.data.toList.length + 1) - 1) s.data.toList = [p, q, t, r])) (hnm : Hid (nm = nmOf p)) (hG : Hid (recB nm (rdNum t 16) (rdNum q 100000) r = true)) (hD : Hid (¬ recT nm (rdNum t 16).toNat (rdNum q 100000).toNat r = s.data.toList)) :
    Calls Tryz.prog 8 #[.string s] w fun e w' => e = .returned (.tuple #[RecV ⟨#[]⟩ 0 0 ⟨#[]⟩, .bool false]) ∧ Below w.heap.size w w' := by
  obtain ⟨W0, hW0⟩ : ∃ W0, W0 = w.alloc (.cells #[.string ⟨#[]⟩, .int .i64 0, .int .i64 0, .string ⟨#[]⟩] 24) := ⟨_, rfl⟩
  have HX : Hid (∀ W, Below W0.heap.size W0 W → (W.cell? ⟨w.heap.size, 0, none⟩ = some (.string ⟨#[]⟩) ∧ W.cell? ⟨w.heap.size, 1, none⟩ = some (.int .i64 0) ∧ W.cell? ⟨w.heap.size, 2, none⟩ = some (.int .i64 0) ∧ W.cell? ⟨w.heap.size, 3, none⟩ = some (.string ⟨#[]⟩) ∧ Below w.heap.size w W) ∧ (W.frozen? ⟨w.heap.size, 0, none⟩ = false ∧ W.frozen? ⟨w.heap.size, 1, none⟩ = false ∧ W.frozen? ⟨w.heap.size, 2, none⟩ = false ∧ W.frozen? ⟨w.heap.size, 3, none⟩ = false)) := fun W h => by rw [hW0] at h; exact ⟨box4 h, box4f h⟩
  have HW0 : Hid (w.alloc (.cells #[.string ⟨#[]⟩, .int .i64 0, .int .i64 0, .string ⟨#[]⟩] 24) = W0) := hW0.symm
  have hzw0 : w.heap.size < W0.heap.size := by rw [hW0]; simp
  have hb00 : Below w.heap.size w W0 := by rw [hW0]; exact (Below.refl _ _).alloc (Nat.le_refl _) _
  have HTR : Hid (∀ W W', Below W0.heap.size W0 W → Below W.heap.size W W' → Below W0.heap.size W0 W') := fun W W' h1 h2 => h1.trans (h2.mono h1.size)
  have HENV : Hid (∀ W, Below W0.heap.size W0 W → EnvR W) := fun W h => hE.below (HX.out W h).1.2.2.2.2
  have hsn : Calls Tryz.prog 24 #[.string s, .string ⟨#[32]⟩, .int .i64 4] W0 fun e w' => ∃ (Q : List (List UInt8)) (cap : Nat), e = .returned (.slice (some ⟨W0.heap.size, 0, none⟩) Q.length cap) ∧ Q.length ≤ cap ∧ cap ≤ 1000 ∧ Q = Lib.splitK [32] 0 (min 4 (s.data.toList.length + 1) - 1) s.data.toList ∧ (∀ j, (hj : j < Q.length) → w'.cell? ⟨W0.heap.size, j, none⟩ = some (S Q[j])) ∧ W0.heap.size < w'.heap.size ∧ Below W0.heap.size W0 w' := splitN_row s 32 4 W0 hs (hE.1.below hb00) (by omega) (by omega)
  have hsz : s.data.toList.length = s.size := by simp
  have hlen : p.length + q.length + t.length + 3 + r.length = s.size := by
    rw [← hsz, hl.out]; simp; omega
  have hnl : nm.length ≤ 1048576 := by
    rw [hnm.out]
    unfold nmOf
    split
    · simp
    · omega
  have HSN : Hid (Calls Tryz.prog 24 #[.string s, .string ⟨#[32]⟩, .int .i64 4] W0 fun e w' => ∃ cap : Nat, e = .returned (.slice (some ⟨W0.heap.size, 0, none⟩) 4 cap) ∧ 4 ≤ cap ∧ cap ≤ 1000 ∧ w'.cell? ⟨W0.heap.size, 0, none⟩ = some (.string ⟨p.toArray⟩) ∧ w'.cell? ⟨W0.heap.size, 1, none⟩ = some (.string ⟨q.toArray⟩) ∧ w'.cell? ⟨W0.heap.size, 2, none⟩ = some (.string ⟨t.toArray⟩) ∧ w'.cell? ⟨W0.heap.size, 3, none⟩ = some (.string ⟨r.toArray⟩) ∧ W0.heap.size < w'.heap.size ∧ Below W0.heap.size W0 w') := hsn.mono fun e w' h => by
    obtain ⟨Q, cap, rfl, h1, h2, hQ, hcell, hlt, h3⟩ := h
    rw [hQ4.out] at hQ
    subst hQ
    exact ⟨cap, rfl, h1, h2, hcell 0 (by simp), hcell 1 (by simp), hcell 2 (by simp), hcell 3 (by simp), hlt, h3⟩
  have HR1 : Hid (∀ W, EnvR W → Calls Tryz.prog 25 #[.string ⟨q.toArray⟩, .int .i64 100000] W fun e w' => e = .returned (.tuple #[.int .i64 (rdNum q 100000), .bool (numIn q 100000)]) ∧ Below W.heap.size W w') := fun W hW => readNumber_any ⟨q.toArray⟩ 100000 W (by rw [size_list]; omega) (by omega) (by omega) hW
  have HR2 : Hid (∀ W, EnvR W → Calls Tryz.prog 25 #[.string ⟨t.toArray⟩, .int .i64 16] W fun e w' => e = .returned (.tuple #[.int .i64 (rdNum t 16), .bool (numIn t 16)]) ∧ Below W.heap.size W w') := fun W hW => readNumber_any ⟨t.toArray⟩ 16 W (by rw [size_list]; omega) (by omega) (by omega) hW
  have HC1 : Hid (∀ W, Calls Tryz.prog 26 #[.string ⟨p.toArray⟩] W fun e w' => e = .returned (.string ⟨nm.toArray⟩) ∧ Below W.heap.size W w') := fun W => by rw [hnm.out]; exact nameFrom_any p W (by omega)
  have HC2 : Hid (∀ W, Calls Tryz.prog 27 #[.string ⟨r.toArray⟩] W fun e w' => e = .returned (.string ⟨r.toArray⟩) ∧ Below W.heap.size W w') := fun W => cloneR_any ⟨r.toArray⟩ W (by rw [size_list]; omega)
  obtain ⟨tx, htx⟩ : ∃ tx, tx = recT nm (rdNum t 16).toNat (rdNum q 100000).toNat r := ⟨_, rfl⟩
  have HTX : Hid (∀ W, EnvR W → Calls Tryz.prog 5 #[RecV ⟨nm.toArray⟩ (rdNum t 16) (rdNum q 100000) ⟨r.toArray⟩] W fun e w' => e = .returned (.tuple #[.string ⟨tx.toArray⟩, .bool true]) ∧ Below W.heap.size W w') := fun W hW => by
    have h := iRecordText_any ⟨nm.toArray⟩ ⟨r.toArray⟩ (rdNum t 16) (rdNum q 100000) W (by rw [size_list]; omega) (by rw [size_list]; omega) hW
    rw [show recB (⟨nm.toArray⟩ : ByteArray).data.toList (rdNum t 16) (rdNum q 100000) (⟨r.toArray⟩ : ByteArray).data.toList = true from hG.out, show recX (⟨nm.toArray⟩ : ByteArray).data.toList (rdNum t 16) (rdNum q 100000) (⟨r.toArray⟩ : ByteArray).data.toList = tx from (if_pos hG.out).trans htx.symm] at h
    exact h
  rw [← htx] at hD
  have HTS : Hid (¬ tx = s.data.toList) := hD.out
  have es : (tx == s.toList) = false := by rw [ByteArray.toList_eq]; simpa using hD.out
  clear htx hD
  obtain ⟨ty, hty⟩ : ∃ ty, ty = rdNum t 16 := ⟨_, rfl⟩
  obtain ⟨ttl, httl⟩ : ∃ ttl, ttl = rdNum q 100000 := ⟨_, rfl⟩
  rw [← hty, ← httl] at HTX
  rw [← httl] at HR1
  rw [← hty] at HR2
  clear hW0 hsn hsz hlen hty httl hG hnl
  unfold RecV at HTX ⊢
  go_enter Tryz.func8, Tryz.ntmps8
  go_wp2_with fail
  rw [HW0.out]
  refine HSN.out.mono ?_
  rintro e w1 ⟨cap, rfl, hcap, hcap2, d0, d1, d2, d3, hlt, hb⟩
  obtain ⟨g, hg⟩ : ∃ g, g = W0.heap.size := ⟨_, rfl⟩
  rw [← hg] at d0 d1 d2 d3 hlt ⊢
  have HD : Hid (∀ W, Below w1.heap.size w1 W → W.cell? ⟨g, 0, none⟩ = some (.string ⟨p.toArray⟩) ∧ W.cell? ⟨g, 1, none⟩ = some (.string ⟨q.toArray⟩) ∧ W.cell? ⟨g, 2, none⟩ = some (.string ⟨t.toArray⟩) ∧ W.cell? ⟨g, 3, none⟩ = some (.string ⟨r.toArray⟩)) := fun W h => by
    rw [h.cell (p := ⟨g, 0, none⟩) hlt, h.cell (p := ⟨g, 1, none⟩) hlt, h.cell (p := ⟨g, 2, none⟩) hlt, h.cell (p := ⟨g, 3, none⟩) hlt]; exact ⟨d0, d1, d2, d3⟩
  have HT1 : Hid (∀ W W', Below w1.heap.size w1 W → Below W.heap.size W W' → Below w1.heap.size w1 W') := fun W W' h1 h2 => h1.trans (h2.mono h1.size)
  have HB1 : Hid (Below W0.heap.size W0 w1) := hb
  have hz01 : W0.heap.size ≤ w1.heap.size := hb.size
  have HE1 : Hid (∀ W, Below w1.heap.size w1 W → EnvR W) := fun W h => HENV.out W (HTR.out _ _ hb h)
  have HX1 : Hid (∀ W, Below w1.heap.size w1 W → (W.cell? ⟨w.heap.size, 0, none⟩ = some (.string ⟨#[]⟩) ∧ W.cell? ⟨w.heap.size, 1, none⟩ = some (.int .i64 0) ∧ W.cell? ⟨w.heap.size, 2, none⟩ = some (.int .i64 0) ∧ W.cell? ⟨w.heap.size, 3, none⟩ = some (.string ⟨#[]⟩) ∧ Below w.heap.size w W) ∧ (W.frozen? ⟨w.heap.size, 0, none⟩ = false ∧ W.frozen? ⟨w.heap.size, 1, none⟩ = false ∧ W.frozen? ⟨w.heap.size, 2, none⟩ = false ∧ W.frozen? ⟨w.heap.size, 3, none⟩ = false)) := fun W h => HX.out W (HTR.out _ _ hb h)
  have hbz : Below w1.heap.size w1 w1 := Below.refl _ _
  clear hg hb hlt
  go_wp2_with fail
  refine (HR1.out _ (HE1.out _ hbz)).mono ?_
  rintro e w2 ⟨rfl, hb2⟩
  have hb12 := HT1.out _ _ hbz hb2
  clear d0 d1 d2 d3 hbz hb2
  obtain ⟨d0, d1, d2, d3⟩ := HD.out w2 hb12
  go_wp2_with fail
  refine (HR2.out _ (HE1.out _ hb12)).mono ?_
  rintro e w3 ⟨rfl, hb3⟩
  have hb13 := HT1.out _ _ hb12 hb3
  clear d0 d1 d2 d3 hb12 hb3
  have hS0 : (fun W : World => Below w1.heap.size w1 W) w3.drew := hb13.drew
  have hz13 : w1.heap.size ≤ w3.heap.size := hb13.size
  have h4c : ¬ (cap : Int) ≤ 0 := by omega
  go_wp2_with fail
  refine wp_region_noPanic ?_
  refine wp_region_held_drew (S := fun W => Below w1.heap.size w1 W) (by kernel_rfl) hS0 (fun hHeld => ?_)
  refine wpAnyH_take (i := 0) (v := .slice (some ⟨g, 0, none⟩) 4 cap) rfl (by kernel_rfl) (by kernel_rfl) (by kernel_rfl) (fun _ _ _ h => h) (Or.inl ⟨by rfl, ?_⟩) (by assumption) ?_
  · intro W hSW
    go_simp
    all_goals (try omega)
  simp only [Act.put, List.setIfInBounds_toArray]
  refine wpAnyH_take (i := 1) (v := .pointer (some ⟨g, 0, none⟩)) rfl (by kernel_rfl) (by kernel_rfl) (by kernel_rfl) (fun _ _ _ h => h) (Or.inl ⟨by rfl, ?_⟩) (by assumption) ?_
  · intro W hSW
    go_simp
    all_goals (try omega)
  simp only [Act.put]
  refine wpAnyH_take (i := 2) (v := .string ⟨p.toArray⟩) rfl (by kernel_rfl) (by kernel_rfl) (by kernel_rfl) (fun _ _ _ h => h) (Or.inl ⟨by rfl, ?_⟩) (by assumption) ?_
  · intro W hSW
    obtain ⟨d0, d1, d2, d3⟩ := HD.out W hSW
    go_simp
    all_goals (try omega)
  simp only [Act.put]
  refine wpAnyH_take (i := 4) (v := .int .i64 ty) rfl (by kernel_rfl) (by kernel_rfl) (by kernel_rfl) (fun _ _ _ h => h) (Or.inl ⟨by rfl, ?_⟩) (by assumption) ?_
  · intro W hSW
    go_simp
    all_goals (try omega)
  simp only [Act.put]
  refine wpAnyH_take (i := 5) (v := .int .i64 ttl) rfl (by kernel_rfl) (by kernel_rfl) (by kernel_rfl) (fun _ _ _ h => h) (Or.inl ⟨by rfl, ?_⟩) (by assumption) ?_
  · intro W hSW
    go_simp
    all_goals (try omega)
  simp only [Act.put]
  refine wpAnyH_take (i := 6) (v := .slice (some ⟨g, 0, none⟩) 4 cap) rfl (by kernel_rfl) (by kernel_rfl) (by kernel_rfl) (fun _ _ _ h => h) (Or.inl ⟨by rfl, ?_⟩) (by assumption) ?_
  · intro W hSW
    go_simp
    all_goals (try omega)
  simp only [Act.put]
  refine wpAnyH_take (i := 7) (v := .pointer (some ⟨g, 3, none⟩)) rfl (by kernel_rfl) (by kernel_rfl) (by kernel_rfl) (fun _ _ _ h => h) (Or.inl ⟨by rfl, ?_⟩) (by assumption) ?_
  · intro W hSW
    go_simp
    all_goals (try omega)
  simp only [Act.put]
  refine wpAnyH_take (i := 8) (v := .string ⟨r.toArray⟩) rfl (by kernel_rfl) (by kernel_rfl) (by kernel_rfl) (fun _ _ _ h => h) (Or.inl ⟨by rfl, ?_⟩) (by assumption) ?_
  · intro W hSW
    obtain ⟨d0, d1, d2, d3⟩ := HD.out W hSW
    go_simp
    all_goals (try omega)
  simp only [Act.put]
  refine wpAnyH_ready (rs := [3, 11]) (by kernel_rfl) (by simp) ?_
  refine AllReadyH.cons rfl (fun K hK => ?_) (AllReadyH.cons rfl (fun K hK => ?_) AllReadyH.nil)
  · rw [if_pos (by rfl)]
    go_simp
    refine (HC1.out _).mono ?_
    rintro e w4 ⟨rfl, hb14'⟩
    go_simp
    have hb14 := HT1.out _ _ hS0 hb14'
    refine hK.out _ _ hb14 (fun hS4 => ?_)
    clear hK
    refine wpAnyH_ready (rs := [9, 11]) (by kernel_rfl) (by simp) ?_
    refine AllReadyH.cons rfl (fun K hK => ?_) (AllReadyH.cons rfl (fun K hK => ?_) AllReadyH.nil)
    · rw [if_pos (by rfl)]
      go_simp
      refine (HC2.out _).mono ?_
      rintro e w5 ⟨rfl, hb15'⟩
      go_simp
      have hb15 := HT1.out _ _ hS4 hb15'
      refine hK.out _ _ hb15 (fun hS5 => ?_)
      clear hK
      refine wpAnyH_take (i := 10) (v := (.agg #[.string ⟨nm.toArray⟩, .int .i64 ty, .int .i64 ttl, .string ⟨r.toArray⟩])) rfl (by kernel_rfl) (by kernel_rfl) (by kernel_rfl) (fun _ _ _ h => h) (Or.inl ⟨by rfl, ?_⟩) (by assumption) ?_
      · intro W hSW
        go_simp
        all_goals (try omega)
      simp only [Act.put, List.setIfInBounds_toArray]
      refine wpAnyH_ready (rs := [11]) (by kernel_rfl) (by simp) ?_
      refine AllReadyH.cons rfl (fun K hK => ?_) AllReadyH.nil
      rw [if_pos (by rfl)]
      go_simp
      refine hK.out _ _ (hb15.alloc hb15.size _) (fun hS6 => ?_)
      clear hK
      obtain ⟨gb, hgb⟩ : ∃ gb, gb = w5.heap.size := ⟨_, rfl⟩
      have HBP : Hid ((w5.alloc (.cells #[.string ⟨#[]⟩, .int .i64 0, .int .i64 0, .string ⟨#[]⟩] 24)).heap[gb]? = some (.cells #[.string ⟨#[]⟩, .int .i64 0, .int .i64 0, .string ⟨#[]⟩] 24)) := by rw [hgb]; exact r4_new _ _
      have hbP : Below w1.heap.size w1 (w5.alloc (.cells #[.string ⟨#[]⟩, .int .i64 0, .int .i64 0, .string ⟨#[]⟩] 24)) := hS6
      have hgP : w1.heap.size ≤ gb ∧ gb < ((w5.alloc (.cells #[.string ⟨#[]⟩, .int .i64 0, .int .i64 0, .string ⟨#[]⟩] 24))).heap.size := ⟨by rw [hgb]; exact hb15.size, by rw [hgb]; simp⟩
      rw [← hgb]
      clear hgb
      obtain ⟨⟨u0, u1, u2, u3⟩, ⟨v0, v1, v2, v3⟩⟩ := r4_cells HBP.out
      refine wpAnyH_ready (rs := [12]) (by kernel_rfl) (by simp) ?_
      refine AllReadyH.cons rfl (fun K hK => ?_) AllReadyH.nil
      rw [if_pos (by rfl)]
      go_simp
      refine hK.out _ _ (r4_below hbP hgP.1 _ _ _ _) (fun hS9 => ?_)
      have hbF := hS9
      have HBX : Hid ((((((w5.alloc (.cells #[.string ⟨#[]⟩, .int .i64 0, .int .i64 0, .string ⟨#[]⟩] 24)).setCell ⟨gb, 0, none⟩ (.string ⟨nm.toArray⟩)).setCell ⟨gb, 1, none⟩ (.int .i64 ty)).setCell ⟨gb, 2, none⟩ (.int .i64 ttl)).setCell ⟨gb, 3, none⟩ (.string ⟨r.toArray⟩)).heap[gb]? = some (.cells #[.string ⟨nm.toArray⟩, .int .i64 ty, .int .i64 ttl, .string ⟨r.toArray⟩] 24)) := r4_heap HBP.out
      have hgF : gb < (w5.alloc (.cells #[.string ⟨#[]⟩, .int .i64 0, .int .i64 0, .string ⟨#[]⟩] 24)).heap.size := hgP.2
      clear u0 u1 u2 u3 v0 v1 v2 v3
      clear hK
      refine wpAnyH_done (by kernel_rfl) ?_ _
      refine NoPanic.normal ?_
      clear hS0 hHeld
      obtain ⟨⟨m0, m1, m2, m3⟩, _⟩ := r4_cells HBX.out
      go_wp2_with fail
      refine (HTX.out _ (HE1.out _ hbF)).mono ?_
      rintro e w6 ⟨rfl, hb6⟩
      have hb16 := HT1.out _ _ hbF hb6
      have HBX6 : Hid (w6.heap[gb]? = some (.cells #[.string ⟨nm.toArray⟩, .int .i64 ty, .int .i64 ttl, .string ⟨r.toArray⟩] 24)) := (hb6.block gb (by simpa using hgF)).trans HBX.out
      obtain ⟨⟨c0, c1, c2, c3, hbw⟩, ⟨f0, f1, f2, f3⟩⟩ := HX1.out w6 hb16
      clear m0 m1 m2 m3
      obtain ⟨⟨m0, m1, m2, m3⟩, _⟩ := r4_cells HBX6.out
      have hng : gb ≠ w.heap.size := by omega
      have hng2 : w.heap.size ≠ gb := by omega
      clear hb6 hb16
      go_wp2_with fail
      (try simp only [Exit.inBlock, Exit.then])
      refine bodyPost_ret (v := .tuple #[(.agg #[.string ⟨#[]⟩, .int .i64 0, .int .i64 0, .string ⟨#[]⟩]), .bool false]) ?_ rfl ⟨rfl, ?_⟩
      · rw [results_cell_tmp rfl]; go_simp
      · exact r4_below hbw (Nat.le_refl _) _ _ _ _
    · rw [if_pos (by rfl)]
      go_simp
      refine hK.out _ _ (hb14.alloc hb14.size _) (fun hS5 => ?_)
      clear hK
      refine wpAnyH_ready (rs := [9]) (by kernel_rfl) (by simp) ?_
      refine AllReadyH.cons rfl (fun K hK => ?_) AllReadyH.nil
      rw [if_pos (by rfl)]
      go_simp
      refine (HC2.out _).mono ?_
      rintro e w5 ⟨rfl, hb15'⟩
      go_simp
      have hb15 := HT1.out _ _ hS5 hb15'
      refine hK.out _ _ hb15 (fun hS6 => ?_)
      clear hK
      refine wpAnyH_take (i := 10) (v := (.agg #[.string ⟨nm.toArray⟩, .int .i64 ty, .int .i64 ttl, .string ⟨r.toArray⟩])) rfl (by kernel_rfl) (by kernel_rfl) (by kernel_rfl) (fun _ _ _ h => h) (Or.inl ⟨by rfl, ?_⟩) (by assumption) ?_
      · intro W hSW
        go_simp
        all_goals (try omega)
      simp only [Act.put, List.setIfInBounds_toArray]
      obtain ⟨gb, hgb⟩ : ∃ gb, gb = w4.heap.size := ⟨_, rfl⟩
      have HBP : Hid (w5.heap[gb]? = some (.cells #[.string ⟨#[]⟩, .int .i64 0, .int .i64 0, .string ⟨#[]⟩] 24)) := by rw [hgb]; exact (hb15'.block w4.heap.size (by simp)).trans (r4_new _ _)
      have hbP : Below w1.heap.size w1 w5 := hb15
      have hgP : w1.heap.size ≤ gb ∧ gb < (w5).heap.size := ⟨by rw [hgb]; exact hb14.size, by rw [hgb]; exact Nat.lt_of_lt_of_le (by simp) hb15'.size⟩
      rw [← hgb]
      clear hgb
      obtain ⟨⟨u0, u1, u2, u3⟩, ⟨v0, v1, v2, v3⟩⟩ := r4_cells HBP.out
      refine wpAnyH_ready (rs := [12]) (by kernel_rfl) (by simp) ?_
      refine AllReadyH.cons rfl (fun K hK => ?_) AllReadyH.nil
      rw [if_pos (by rfl)]
      go_simp
      refine hK.out _ _ (r4_below hbP hgP.1 _ _ _ _) (fun hS9 => ?_)
      have hbF := hS9
      have HBX : Hid (((((w5.setCell ⟨gb, 0, none⟩ (.string ⟨nm.toArray⟩)).setCell ⟨gb, 1, none⟩ (.int .i64 ty)).setCell ⟨gb, 2, none⟩ (.int .i64 ttl)).setCell ⟨gb, 3, none⟩ (.string ⟨r.toArray⟩)).heap[gb]? = some (.cells #[.string ⟨nm.toArray⟩, .int .i64 ty, .int .i64 ttl, .string ⟨r.toArray⟩] 24)) := r4_heap HBP.out
      have hgF : gb < w5.heap.size := hgP.2
      clear u0 u1 u2 u3 v0 v1 v2 v3
      clear hK
      refine wpAnyH_done (by kernel_rfl) ?_ _
      refine NoPanic.normal ?_
      clear hS0 hHeld
      obtain ⟨⟨m0, m1, m2, m3⟩, _⟩ := r4_cells HBX.out
      go_wp2_with fail
      refine (HTX.out _ (HE1.out _ hbF)).mono ?_
      rintro e w6 ⟨rfl, hb6⟩
      have hb16 := HT1.out _ _ hbF hb6
      have HBX6 : Hid (w6.heap[gb]? = some (.cells #[.string ⟨nm.toArray⟩, .int .i64 ty, .int .i64 ttl, .string ⟨r.toArray⟩] 24)) := (hb6.block gb (by simpa using hgF)).trans HBX.out
      obtain ⟨⟨c0, c1, c2, c3, hbw⟩, ⟨f0, f1, f2, f3⟩⟩ := HX1.out w6 hb16
      clear m0 m1 m2 m3
      obtain ⟨⟨m0, m1, m2, m3⟩, _⟩ := r4_cells HBX6.out
      have hng : gb ≠ w.heap.size := by omega
      have hng2 : w.heap.size ≠ gb := by omega
      clear hb6 hb16
      go_wp2_with fail
      (try simp only [Exit.inBlock, Exit.then])
      refine bodyPost_ret (v := .tuple #[(.agg #[.string ⟨#[]⟩, .int .i64 0, .int .i64 0, .string ⟨#[]⟩]), .bool false]) ?_ rfl ⟨rfl, ?_⟩
      · rw [results_cell_tmp rfl]; go_simp
      · exact r4_below hbw (Nat.le_refl _) _ _ _ _
  · rw [if_pos (by rfl)]
    go_simp
    refine hK.out _ _ (hS0.alloc hS0.size _) (fun hS4 => ?_)
    clear hK
    refine wpAnyH_ready (rs := [3]) (by kernel_rfl) (by simp) ?_
    refine AllReadyH.cons rfl (fun K hK => ?_) AllReadyH.nil
    rw [if_pos (by rfl)]
    go_simp
    refine (HC1.out _).mono ?_
    rintro e w4 ⟨rfl, hb14'⟩
    go_simp
    have hb14 := HT1.out _ _ hS4 hb14'
    refine hK.out _ _ hb14 (fun hS5 => ?_)
    clear hK
    refine wpAnyH_ready (rs := [9]) (by kernel_rfl) (by simp) ?_
    refine AllReadyH.cons rfl (fun K hK => ?_) AllReadyH.nil
    rw [if_pos (by rfl)]
    go_simp
    refine (HC2.out _).mono ?_
    rintro e w5 ⟨rfl, hb15'⟩
    go_simp
    have hb15 := HT1.out _ _ hS5 hb15'
    refine hK.out _ _ hb15 (fun hS6 => ?_)
    clear hK
    refine wpAnyH_take (i := 10) (v := (.agg #[.string ⟨nm.toArray⟩, .int .i64 ty, .int .i64 ttl, .string ⟨r.toArray⟩])) rfl (by kernel_rfl) (by kernel_rfl) (by kernel_rfl) (fun _ _ _ h => h) (Or.inl ⟨by rfl, ?_⟩) (by assumption) ?_
    · intro W hSW
      go_simp
      all_goals (try omega)
    simp only [Act.put, List.setIfInBounds_toArray]
    obtain ⟨gb, hgb⟩ : ∃ gb, gb = w3.heap.size := ⟨_, rfl⟩
    have HBP : Hid (w5.heap[gb]? = some (.cells #[.string ⟨#[]⟩, .int .i64 0, .int .i64 0, .string ⟨#[]⟩] 24)) := by rw [hgb]; exact (hb15'.block w3.heap.size (Nat.lt_of_lt_of_le (by simp) hb14'.size)).trans ((hb14'.block w3.heap.size (by simp)).trans (r4_new w3.drew _))
    have hbP : Below w1.heap.size w1 w5 := hb15
    have hgP : w1.heap.size ≤ gb ∧ gb < (w5).heap.size := ⟨by rw [hgb]; exact hS0.size, by rw [hgb]; exact Nat.lt_of_lt_of_le (Nat.lt_of_lt_of_le (by simp) hb14'.size) hb15'.size⟩
    rw [← hgb]
    clear hgb
    obtain ⟨⟨u0, u1, u2, u3⟩, ⟨v0, v1, v2, v3⟩⟩ := r4_cells HBP.out
    refine wpAnyH_ready (rs := [12]) (by kernel_rfl) (by simp) ?_
    refine AllReadyH.cons rfl (fun K hK => ?_) AllReadyH.nil
    rw [if_pos (by rfl)]
    go_simp
    refine hK.out _ _ (r4_below hbP hgP.1 _ _ _ _) (fun hS9 => ?_)
    have hbF := hS9
    have HBX : Hid (((((w5.setCell ⟨gb, 0, none⟩ (.string ⟨nm.toArray⟩)).setCell ⟨gb, 1, none⟩ (.int .i64 ty)).setCell ⟨gb, 2, none⟩ (.int .i64 ttl)).setCell ⟨gb, 3, none⟩ (.string ⟨r.toArray⟩)).heap[gb]? = some (.cells #[.string ⟨nm.toArray⟩, .int .i64 ty, .int .i64 ttl, .string ⟨r.toArray⟩] 24)) := r4_heap HBP.out
    have hgF : gb < w5.heap.size := hgP.2
    clear u0 u1 u2 u3 v0 v1 v2 v3
    clear hK
    refine wpAnyH_done (by kernel_rfl) ?_ _
    refine NoPanic.normal ?_
    clear hS0 hHeld
    obtain ⟨⟨m0, m1, m2, m3⟩, _⟩ := r4_cells HBX.out
    go_wp2_with fail
    refine (HTX.out _ (HE1.out _ hbF)).mono ?_
    rintro e w6 ⟨rfl, hb6⟩
    have hb16 := HT1.out _ _ hbF hb6
    have HBX6 : Hid (w6.heap[gb]? = some (.cells #[.string ⟨nm.toArray⟩, .int .i64 ty, .int .i64 ttl, .string ⟨r.toArray⟩] 24)) := (hb6.block gb (by simpa using hgF)).trans HBX.out
    obtain ⟨⟨c0, c1, c2, c3, hbw⟩, ⟨f0, f1, f2, f3⟩⟩ := HX1.out w6 hb16
    clear m0 m1 m2 m3
    obtain ⟨⟨m0, m1, m2, m3⟩, _⟩ := r4_cells HBX6.out
    have hng : gb ≠ w.heap.size := by omega
    have hng2 : w.heap.size ≠ gb := by omega
    clear hb6 hb16
    go_wp2_with fail
    (try simp only [Exit.inBlock, Exit.then])
    refine bodyPost_ret (v := .tuple #[(.agg #[.string ⟨#[]⟩, .int .i64 0, .int .i64 0, .string ⟨#[]⟩]), .bool false]) ?_ rfl ⟨rfl, ?_⟩
    · rw [results_cell_tmp rfl]; go_simp
    · exact r4_below hbw (Nat.le_refl _) _ _ _ _

set_option maxRecDepth 20000 in
set_option maxHeartbeats 4000000 in
theorem iRead_same (s : ByteArray) (p q t r nm : List UInt8) (w : World) (hs : s.size ≤ 1048576) (hE : EnvR w) (hl : Hid (s.data.toList = p ++ 32 :: (q ++ 32 :: (t ++ 32 :: r)))) (hQ4 : Hid (Lib.splitK [32] 0 (min 4 (s.data.toList.length + 1) - 1) s.data.toList = [p, q, t, r])) (hnm : Hid (nm = nmOf p)) (hG : Hid (recB nm (rdNum t 16) (rdNum q 100000) r = true)) (hD : Hid (recT nm (rdNum t 16).toNat (rdNum q 100000).toNat r = s.data.toList)) :
    Calls Tryz.prog 8 #[.string s] w fun e w' => e = .returned (.tuple #[RecV ⟨nm.toArray⟩ (rdNum t 16) (rdNum q 100000) ⟨r.toArray⟩, .bool true]) ∧ Below w.heap.size w w' := by
  obtain ⟨W0, hW0⟩ : ∃ W0, W0 = w.alloc (.cells #[.string ⟨#[]⟩, .int .i64 0, .int .i64 0, .string ⟨#[]⟩] 24) := ⟨_, rfl⟩
  have HX : Hid (∀ W, Below W0.heap.size W0 W → (W.cell? ⟨w.heap.size, 0, none⟩ = some (.string ⟨#[]⟩) ∧ W.cell? ⟨w.heap.size, 1, none⟩ = some (.int .i64 0) ∧ W.cell? ⟨w.heap.size, 2, none⟩ = some (.int .i64 0) ∧ W.cell? ⟨w.heap.size, 3, none⟩ = some (.string ⟨#[]⟩) ∧ Below w.heap.size w W) ∧ (W.frozen? ⟨w.heap.size, 0, none⟩ = false ∧ W.frozen? ⟨w.heap.size, 1, none⟩ = false ∧ W.frozen? ⟨w.heap.size, 2, none⟩ = false ∧ W.frozen? ⟨w.heap.size, 3, none⟩ = false)) := fun W h => by rw [hW0] at h; exact ⟨box4 h, box4f h⟩
  have HW0 : Hid (w.alloc (.cells #[.string ⟨#[]⟩, .int .i64 0, .int .i64 0, .string ⟨#[]⟩] 24) = W0) := hW0.symm
  have hzw0 : w.heap.size < W0.heap.size := by rw [hW0]; simp
  have hb00 : Below w.heap.size w W0 := by rw [hW0]; exact (Below.refl _ _).alloc (Nat.le_refl _) _
  have HTR : Hid (∀ W W', Below W0.heap.size W0 W → Below W.heap.size W W' → Below W0.heap.size W0 W') := fun W W' h1 h2 => h1.trans (h2.mono h1.size)
  have HENV : Hid (∀ W, Below W0.heap.size W0 W → EnvR W) := fun W h => hE.below (HX.out W h).1.2.2.2.2
  have hsn : Calls Tryz.prog 24 #[.string s, .string ⟨#[32]⟩, .int .i64 4] W0 fun e w' => ∃ (Q : List (List UInt8)) (cap : Nat), e = .returned (.slice (some ⟨W0.heap.size, 0, none⟩) Q.length cap) ∧ Q.length ≤ cap ∧ cap ≤ 1000 ∧ Q = Lib.splitK [32] 0 (min 4 (s.data.toList.length + 1) - 1) s.data.toList ∧ (∀ j, (hj : j < Q.length) → w'.cell? ⟨W0.heap.size, j, none⟩ = some (S Q[j])) ∧ W0.heap.size < w'.heap.size ∧ Below W0.heap.size W0 w' := splitN_row s 32 4 W0 hs (hE.1.below hb00) (by omega) (by omega)
  have hsz : s.data.toList.length = s.size := by simp
  have hlen : p.length + q.length + t.length + 3 + r.length = s.size := by
    rw [← hsz, hl.out]; simp; omega
  have hnl : nm.length ≤ 1048576 := by
    rw [hnm.out]
    unfold nmOf
    split
    · simp
    · omega
  have HSN : Hid (Calls Tryz.prog 24 #[.string s, .string ⟨#[32]⟩, .int .i64 4] W0 fun e w' => ∃ cap : Nat, e = .returned (.slice (some ⟨W0.heap.size, 0, none⟩) 4 cap) ∧ 4 ≤ cap ∧ cap ≤ 1000 ∧ w'.cell? ⟨W0.heap.size, 0, none⟩ = some (.string ⟨p.toArray⟩) ∧ w'.cell? ⟨W0.heap.size, 1, none⟩ = some (.string ⟨q.toArray⟩) ∧ w'.cell? ⟨W0.heap.size, 2, none⟩ = some (.string ⟨t.toArray⟩) ∧ w'.cell? ⟨W0.heap.size, 3, none⟩ = some (.string ⟨r.toArray⟩) ∧ W0.heap.size < w'.heap.size ∧ Below W0.heap.size W0 w') := hsn.mono fun e w' h => by
    obtain ⟨Q, cap, rfl, h1, h2, hQ, hcell, hlt, h3⟩ := h
    rw [hQ4.out] at hQ
    subst hQ
    exact ⟨cap, rfl, h1, h2, hcell 0 (by simp), hcell 1 (by simp), hcell 2 (by simp), hcell 3 (by simp), hlt, h3⟩
  have HR1 : Hid (∀ W, EnvR W → Calls Tryz.prog 25 #[.string ⟨q.toArray⟩, .int .i64 100000] W fun e w' => e = .returned (.tuple #[.int .i64 (rdNum q 100000), .bool (numIn q 100000)]) ∧ Below W.heap.size W w') := fun W hW => readNumber_any ⟨q.toArray⟩ 100000 W (by rw [size_list]; omega) (by omega) (by omega) hW
  have HR2 : Hid (∀ W, EnvR W → Calls Tryz.prog 25 #[.string ⟨t.toArray⟩, .int .i64 16] W fun e w' => e = .returned (.tuple #[.int .i64 (rdNum t 16), .bool (numIn t 16)]) ∧ Below W.heap.size W w') := fun W hW => readNumber_any ⟨t.toArray⟩ 16 W (by rw [size_list]; omega) (by omega) (by omega) hW
  have HC1 : Hid (∀ W, Calls Tryz.prog 26 #[.string ⟨p.toArray⟩] W fun e w' => e = .returned (.string ⟨nm.toArray⟩) ∧ Below W.heap.size W w') := fun W => by rw [hnm.out]; exact nameFrom_any p W (by omega)
  have HC2 : Hid (∀ W, Calls Tryz.prog 27 #[.string ⟨r.toArray⟩] W fun e w' => e = .returned (.string ⟨r.toArray⟩) ∧ Below W.heap.size W w') := fun W => cloneR_any ⟨r.toArray⟩ W (by rw [size_list]; omega)
  obtain ⟨tx, htx⟩ : ∃ tx, tx = recT nm (rdNum t 16).toNat (rdNum q 100000).toNat r := ⟨_, rfl⟩
  have HTX : Hid (∀ W, EnvR W → Calls Tryz.prog 5 #[RecV ⟨nm.toArray⟩ (rdNum t 16) (rdNum q 100000) ⟨r.toArray⟩] W fun e w' => e = .returned (.tuple #[.string ⟨tx.toArray⟩, .bool true]) ∧ Below W.heap.size W w') := fun W hW => by
    have h := iRecordText_any ⟨nm.toArray⟩ ⟨r.toArray⟩ (rdNum t 16) (rdNum q 100000) W (by rw [size_list]; omega) (by rw [size_list]; omega) hW
    rw [show recB (⟨nm.toArray⟩ : ByteArray).data.toList (rdNum t 16) (rdNum q 100000) (⟨r.toArray⟩ : ByteArray).data.toList = true from hG.out, show recX (⟨nm.toArray⟩ : ByteArray).data.toList (rdNum t 16) (rdNum q 100000) (⟨r.toArray⟩ : ByteArray).data.toList = tx from (if_pos hG.out).trans htx.symm] at h
    exact h
  rw [← htx] at hD
  have es : (tx == s.toList) = true := by rw [ByteArray.toList_eq]; simpa using hD.out
  clear htx hD
  obtain ⟨ty, hty⟩ : ∃ ty, ty = rdNum t 16 := ⟨_, rfl⟩
  obtain ⟨ttl, httl⟩ : ∃ ttl, ttl = rdNum q 100000 := ⟨_, rfl⟩
  rw [← hty, ← httl] at HTX
  rw [← httl] at HR1
  rw [← hty] at HR2
  rw [← hty, ← httl]
  clear hW0 hsn hsz hlen hty httl hG hnl
  unfold RecV at HTX ⊢
  go_enter Tryz.func8, Tryz.ntmps8
  go_wp2_with fail
  rw [HW0.out]
  refine HSN.out.mono ?_
  rintro e w1 ⟨cap, rfl, hcap, hcap2, d0, d1, d2, d3, hlt, hb⟩
  obtain ⟨g, hg⟩ : ∃ g, g = W0.heap.size := ⟨_, rfl⟩
  rw [← hg] at d0 d1 d2 d3 hlt ⊢
  have HD : Hid (∀ W, Below w1.heap.size w1 W → W.cell? ⟨g, 0, none⟩ = some (.string ⟨p.toArray⟩) ∧ W.cell? ⟨g, 1, none⟩ = some (.string ⟨q.toArray⟩) ∧ W.cell? ⟨g, 2, none⟩ = some (.string ⟨t.toArray⟩) ∧ W.cell? ⟨g, 3, none⟩ = some (.string ⟨r.toArray⟩)) := fun W h => by
    rw [h.cell (p := ⟨g, 0, none⟩) hlt, h.cell (p := ⟨g, 1, none⟩) hlt, h.cell (p := ⟨g, 2, none⟩) hlt, h.cell (p := ⟨g, 3, none⟩) hlt]; exact ⟨d0, d1, d2, d3⟩
  have HT1 : Hid (∀ W W', Below w1.heap.size w1 W → Below W.heap.size W W' → Below w1.heap.size w1 W') := fun W W' h1 h2 => h1.trans (h2.mono h1.size)
  have HB1 : Hid (Below W0.heap.size W0 w1) := hb
  have hz01 : W0.heap.size ≤ w1.heap.size := hb.size
  have HE1 : Hid (∀ W, Below w1.heap.size w1 W → EnvR W) := fun W h => HENV.out W (HTR.out _ _ hb h)
  have HX1 : Hid (∀ W, Below w1.heap.size w1 W → (W.cell? ⟨w.heap.size, 0, none⟩ = some (.string ⟨#[]⟩) ∧ W.cell? ⟨w.heap.size, 1, none⟩ = some (.int .i64 0) ∧ W.cell? ⟨w.heap.size, 2, none⟩ = some (.int .i64 0) ∧ W.cell? ⟨w.heap.size, 3, none⟩ = some (.string ⟨#[]⟩) ∧ Below w.heap.size w W) ∧ (W.frozen? ⟨w.heap.size, 0, none⟩ = false ∧ W.frozen? ⟨w.heap.size, 1, none⟩ = false ∧ W.frozen? ⟨w.heap.size, 2, none⟩ = false ∧ W.frozen? ⟨w.heap.size, 3, none⟩ = false)) := fun W h => HX.out W (HTR.out _ _ hb h)
  have hbz : Below w1.heap.size w1 w1 := Below.refl _ _
  clear hg hb hlt
  go_wp2_with fail
  refine (HR1.out _ (HE1.out _ hbz)).mono ?_
  rintro e w2 ⟨rfl, hb2⟩
  have hb12 := HT1.out _ _ hbz hb2
  clear d0 d1 d2 d3 hbz hb2
  obtain ⟨d0, d1, d2, d3⟩ := HD.out w2 hb12
  go_wp2_with fail
  refine (HR2.out _ (HE1.out _ hb12)).mono ?_
  rintro e w3 ⟨rfl, hb3⟩
  have hb13 := HT1.out _ _ hb12 hb3
  clear d0 d1 d2 d3 hb12 hb3
  have hS0 : (fun W : World => Below w1.heap.size w1 W) w3.drew := hb13.drew
  have hz13 : w1.heap.size ≤ w3.heap.size := hb13.size
  have h4c : ¬ (cap : Int) ≤ 0 := by omega
  go_wp2_with fail
  refine wp_region_noPanic ?_
  refine wp_region_held_drew (S := fun W => Below w1.heap.size w1 W) (by kernel_rfl) hS0 (fun hHeld => ?_)
  refine wpAnyH_take (i := 0) (v := .slice (some ⟨g, 0, none⟩) 4 cap) rfl (by kernel_rfl) (by kernel_rfl) (by kernel_rfl) (fun _ _ _ h => h) (Or.inl ⟨by rfl, ?_⟩) (by assumption) ?_
  · intro W hSW
    go_simp
    all_goals (try omega)
  simp only [Act.put, List.setIfInBounds_toArray]
  refine wpAnyH_take (i := 1) (v := .pointer (some ⟨g, 0, none⟩)) rfl (by kernel_rfl) (by kernel_rfl) (by kernel_rfl) (fun _ _ _ h => h) (Or.inl ⟨by rfl, ?_⟩) (by assumption) ?_
  · intro W hSW
    go_simp
    all_goals (try omega)
  simp only [Act.put]
  refine wpAnyH_take (i := 2) (v := .string ⟨p.toArray⟩) rfl (by kernel_rfl) (by kernel_rfl) (by kernel_rfl) (fun _ _ _ h => h) (Or.inl ⟨by rfl, ?_⟩) (by assumption) ?_
  · intro W hSW
    obtain ⟨d0, d1, d2, d3⟩ := HD.out W hSW
    go_simp
    all_goals (try omega)
  simp only [Act.put]
  refine wpAnyH_take (i := 4) (v := .int .i64 ty) rfl (by kernel_rfl) (by kernel_rfl) (by kernel_rfl) (fun _ _ _ h => h) (Or.inl ⟨by rfl, ?_⟩) (by assumption) ?_
  · intro W hSW
    go_simp
    all_goals (try omega)
  simp only [Act.put]
  refine wpAnyH_take (i := 5) (v := .int .i64 ttl) rfl (by kernel_rfl) (by kernel_rfl) (by kernel_rfl) (fun _ _ _ h => h) (Or.inl ⟨by rfl, ?_⟩) (by assumption) ?_
  · intro W hSW
    go_simp
    all_goals (try omega)
  simp only [Act.put]
  refine wpAnyH_take (i := 6) (v := .slice (some ⟨g, 0, none⟩) 4 cap) rfl (by kernel_rfl) (by kernel_rfl) (by kernel_rfl) (fun _ _ _ h => h) (Or.inl ⟨by rfl, ?_⟩) (by assumption) ?_
  · intro W hSW
    go_simp
    all_goals (try omega)
  simp only [Act.put]
  refine wpAnyH_take (i := 7) (v := .pointer (some ⟨g, 3, none⟩)) rfl (by kernel_rfl) (by kernel_rfl) (by kernel_rfl) (fun _ _ _ h => h) (Or.inl ⟨by rfl, ?_⟩) (by assumption) ?_
  · intro W hSW
    go_simp
    all_goals (try omega)
  simp only [Act.put]
  refine wpAnyH_take (i := 8) (v := .string ⟨r.toArray⟩) rfl (by kernel_rfl) (by kernel_rfl) (by kernel_rfl) (fun _ _ _ h => h) (Or.inl ⟨by rfl, ?_⟩) (by assumption) ?_
  · intro W hSW
    obtain ⟨d0, d1, d2, d3⟩ := HD.out W hSW
    go_simp
    all_goals (try omega)
  simp only [Act.put]
  refine wpAnyH_ready (rs := [3, 11]) (by kernel_rfl) (by simp) ?_
  refine AllReadyH.cons rfl (fun K hK => ?_) (AllReadyH.cons rfl (fun K hK => ?_) AllReadyH.nil)
  · rw [if_pos (by rfl)]
    go_simp
    refine (HC1.out _).mono ?_
    rintro e w4 ⟨rfl, hb14'⟩
    go_simp
    have hb14 := HT1.out _ _ hS0 hb14'
    refine hK.out _ _ hb14 (fun hS4 => ?_)
    clear hK
    refine wpAnyH_ready (rs := [9, 11]) (by kernel_rfl) (by simp) ?_
    refine AllReadyH.cons rfl (fun K hK => ?_) (AllReadyH.cons rfl (fun K hK => ?_) AllReadyH.nil)
    · rw [if_pos (by rfl)]
      go_simp
      refine (HC2.out _).mono ?_
      rintro e w5 ⟨rfl, hb15'⟩
      go_simp
      have hb15 := HT1.out _ _ hS4 hb15'
      refine hK.out _ _ hb15 (fun hS5 => ?_)
      clear hK
      refine wpAnyH_take (i := 10) (v := (.agg #[.string ⟨nm.toArray⟩, .int .i64 ty, .int .i64 ttl, .string ⟨r.toArray⟩])) rfl (by kernel_rfl) (by kernel_rfl) (by kernel_rfl) (fun _ _ _ h => h) (Or.inl ⟨by rfl, ?_⟩) (by assumption) ?_
      · intro W hSW
        go_simp
        all_goals (try omega)
      simp only [Act.put, List.setIfInBounds_toArray]
      refine wpAnyH_ready (rs := [11]) (by kernel_rfl) (by simp) ?_
      refine AllReadyH.cons rfl (fun K hK => ?_) AllReadyH.nil
      rw [if_pos (by rfl)]
      go_simp
      refine hK.out _ _ (hb15.alloc hb15.size _) (fun hS6 => ?_)
      clear hK
      obtain ⟨gb, hgb⟩ : ∃ gb, gb = w5.heap.size := ⟨_, rfl⟩
      have HBP : Hid ((w5.alloc (.cells #[.string ⟨#[]⟩, .int .i64 0, .int .i64 0, .string ⟨#[]⟩] 24)).heap[gb]? = some (.cells #[.string ⟨#[]⟩, .int .i64 0, .int .i64 0, .string ⟨#[]⟩] 24)) := by rw [hgb]; exact r4_new _ _
      have hbP : Below w1.heap.size w1 (w5.alloc (.cells #[.string ⟨#[]⟩, .int .i64 0, .int .i64 0, .string ⟨#[]⟩] 24)) := hS6
      have hgP : w1.heap.size ≤ gb ∧ gb < ((w5.alloc (.cells #[.string ⟨#[]⟩, .int .i64 0, .int .i64 0, .string ⟨#[]⟩] 24))).heap.size := ⟨by rw [hgb]; exact hb15.size, by rw [hgb]; simp⟩
      rw [← hgb]
      clear hgb
      obtain ⟨⟨u0, u1, u2, u3⟩, ⟨v0, v1, v2, v3⟩⟩ := r4_cells HBP.out
      refine wpAnyH_ready (rs := [12]) (by kernel_rfl) (by simp) ?_
      refine AllReadyH.cons rfl (fun K hK => ?_) AllReadyH.nil
      rw [if_pos (by rfl)]
      go_simp
      refine hK.out _ _ (r4_below hbP hgP.1 _ _ _ _) (fun hS9 => ?_)
      have hbF := hS9
      have HBX : Hid ((((((w5.alloc (.cells #[.string ⟨#[]⟩, .int .i64 0, .int .i64 0, .string ⟨#[]⟩] 24)).setCell ⟨gb, 0, none⟩ (.string ⟨nm.toArray⟩)).setCell ⟨gb, 1, none⟩ (.int .i64 ty)).setCell ⟨gb, 2, none⟩ (.int .i64 ttl)).setCell ⟨gb, 3, none⟩ (.string ⟨r.toArray⟩)).heap[gb]? = some (.cells #[.string ⟨nm.toArray⟩, .int .i64 ty, .int .i64 ttl, .string ⟨r.toArray⟩] 24)) := r4_heap HBP.out
      have hgF : gb < (w5.alloc (.cells #[.string ⟨#[]⟩, .int .i64 0, .int .i64 0, .string ⟨#[]⟩] 24)).heap.size := hgP.2
      clear u0 u1 u2 u3 v0 v1 v2 v3
      clear hK
      refine wpAnyH_done (by kernel_rfl) ?_ _
      refine NoPanic.normal ?_
      clear hS0 hHeld
      obtain ⟨⟨m0, m1, m2, m3⟩, _⟩ := r4_cells HBX.out
      go_wp2_with fail
      refine (HTX.out _ (HE1.out _ hbF)).mono ?_
      rintro e w6 ⟨rfl, hb6⟩
      have hb16 := HT1.out _ _ hbF hb6
      have HBX6 : Hid (w6.heap[gb]? = some (.cells #[.string ⟨nm.toArray⟩, .int .i64 ty, .int .i64 ttl, .string ⟨r.toArray⟩] 24)) := (hb6.block gb (by simpa using hgF)).trans HBX.out
      obtain ⟨⟨c0, c1, c2, c3, hbw⟩, ⟨f0, f1, f2, f3⟩⟩ := HX1.out w6 hb16
      clear m0 m1 m2 m3
      obtain ⟨⟨m0, m1, m2, m3⟩, _⟩ := r4_cells HBX6.out
      have hng : gb ≠ w.heap.size := by omega
      have hng2 : w.heap.size ≠ gb := by omega
      clear hb6 hb16
      go_wp2_with fail
      (try simp only [Exit.inBlock, Exit.then])
      refine bodyPost_ret (v := .tuple #[(.agg #[.string ⟨nm.toArray⟩, .int .i64 ty, .int .i64 ttl, .string ⟨r.toArray⟩]), .bool true]) ?_ rfl ⟨rfl, ?_⟩
      · rw [results_cell_tmp rfl]; go_simp
      · exact r4_below hbw (Nat.le_refl _) _ _ _ _
    · rw [if_pos (by rfl)]
      go_simp
      refine hK.out _ _ (hb14.alloc hb14.size _) (fun hS5 => ?_)
      clear hK
      refine wpAnyH_ready (rs := [9]) (by kernel_rfl) (by simp) ?_
      refine AllReadyH.cons rfl (fun K hK => ?_) AllReadyH.nil
      rw [if_pos (by rfl)]
      go_simp
      refine (HC2.out _).mono ?_
      rintro e w5 ⟨rfl, hb15'⟩
      go_simp
      have hb15 := HT1.out _ _ hS5 hb15'
      refine hK.out _ _ hb15 (fun hS6 => ?_)
      clear hK
      refine wpAnyH_take (i := 10) (v := (.agg #[.string ⟨nm.toArray⟩, .int .i64 ty, .int .i64 ttl, .string ⟨r.toArray⟩])) rfl (by kernel_rfl) (by kernel_rfl) (by kernel_rfl) (fun _ _ _ h => h) (Or.inl ⟨by rfl, ?_⟩) (by assumption) ?_
      · intro W hSW
        go_simp
        all_goals (try omega)
      simp only [Act.put, List.setIfInBounds_toArray]
      obtain ⟨gb, hgb⟩ : ∃ gb, gb = w4.heap.size := ⟨_, rfl⟩
      have HBP : Hid (w5.heap[gb]? = some (.cells #[.string ⟨#[]⟩, .int .i64 0, .int .i64 0, .string ⟨#[]⟩] 24)) := by rw [hgb]; exact (hb15'.block w4.heap.size (by simp)).trans (r4_new _ _)
      have hbP : Below w1.heap.size w1 w5 := hb15
      have hgP : w1.heap.size ≤ gb ∧ gb < (w5).heap.size := ⟨by rw [hgb]; exact hb14.size, by rw [hgb]; exact Nat.lt_of_lt_of_le (by simp) hb15'.size⟩
      rw [← hgb]
      clear hgb
      obtain ⟨⟨u0, u1, u2, u3⟩, ⟨v0, v1, v2, v3⟩⟩ := r4_cells HBP.out
      refine wpAnyH_ready (rs := [12]) (by kernel_rfl) (by simp) ?_
      refine AllReadyH.cons rfl (fun K hK => ?_) AllReadyH.nil
      rw [if_pos (by rfl)]
      go_simp
      refine hK.out _ _ (r4_below hbP hgP.1 _ _ _ _) (fun hS9 => ?_)
      have hbF := hS9
      have HBX : Hid (((((w5.setCell ⟨gb, 0, none⟩ (.string ⟨nm.toArray⟩)).setCell ⟨gb, 1, none⟩ (.int .i64 ty)).setCell ⟨gb, 2, none⟩ (.int .i64 ttl)).setCell ⟨gb, 3, none⟩ (.string ⟨r.toArray⟩)).heap[gb]? = some (.cells #[.string ⟨nm.toArray⟩, .int .i64 ty, .int .i64 ttl, .string ⟨r.toArray⟩] 24)) := r4_heap HBP.out
      have hgF : gb < w5.heap.size := hgP.2
      clear u0 u1 u2 u3 v0 v1 v2 v3
      clear hK
      refine wpAnyH_done (by kernel_rfl) ?_ _
      refine NoPanic.normal ?_
      clear hS0 hHeld
      obtain ⟨⟨m0, m1, m2, m3⟩, _⟩ := r4_cells HBX.out
      go_wp2_with fail
      refine (HTX.out _ (HE1.out _ hbF)).mono ?_
      rintro e w6 ⟨rfl, hb6⟩
      have hb16 := HT1.out _ _ hbF hb6
      have HBX6 : Hid (w6.heap[gb]? = some (.cells #[.string ⟨nm.toArray⟩, .int .i64 ty, .int .i64 ttl, .string ⟨r.toArray⟩] 24)) := (hb6.block gb (by simpa using hgF)).trans HBX.out
      obtain ⟨⟨c0, c1, c2, c3, hbw⟩, ⟨f0, f1, f2, f3⟩⟩ := HX1.out w6 hb16
      clear m0 m1 m2 m3
      obtain ⟨⟨m0, m1, m2, m3⟩, _⟩ := r4_cells HBX6.out
      have hng : gb ≠ w.heap.size := by omega
      have hng2 : w.heap.size ≠ gb := by omega
      clear hb6 hb16
      go_wp2_with fail
      (try simp only [Exit.inBlock, Exit.then])
      refine bodyPost_ret (v := .tuple #[(.agg #[.string ⟨nm.toArray⟩, .int .i64 ty, .int .i64 ttl, .string ⟨r.toArray⟩]), .bool true]) ?_ rfl ⟨rfl, ?_⟩
      · rw [results_cell_tmp rfl]; go_simp
      · exact r4_below hbw (Nat.le_refl _) _ _ _ _
  · rw [if_pos (by rfl)]
    go_simp
    refine hK.out _ _ (hS0.alloc hS0.size _) (fun hS4 => ?_)
    clear hK
    refine wpAnyH_ready (rs := [3]) (by kernel_rfl) (by simp) ?_
    refine AllReadyH.cons rfl (fun K hK => ?_) AllReadyH.nil
    rw [if_pos (by rfl)]
    go_simp
    refine (HC1.out _).mono ?_
    rintro e w4 ⟨rfl, hb14'⟩
    go_simp
    have hb14 := HT1.out _ _ hS4 hb14'
    refine hK.out _ _ hb14 (fun hS5 => ?_)
    clear hK
    refine wpAnyH_ready (rs := [9]) (by kernel_rfl) (by simp) ?_
    refine AllReadyH.cons rfl (fun K hK => ?_) AllReadyH.nil
    rw [if_pos (by rfl)]
    go_simp
    refine (HC2.out _).mono ?_
    rintro e w5 ⟨rfl, hb15'⟩
    go_simp
    have hb15 := HT1.out _ _ hS5 hb15'
    refine hK.out _ _ hb15 (fun hS6 => ?_)
    clear hK
    refine wpAnyH_take (i := 10) (v := (.agg #[.string ⟨nm.toArray⟩, .int .i64 ty, .int .i64 ttl, .string ⟨r.toArray⟩])) rfl (by kernel_rfl) (by kernel_rfl) (by kernel_rfl) (fun _ _ _ h => h) (Or.inl ⟨by rfl, ?_⟩) (by assumption) ?_
    · intro W hSW
      go_simp
      all_goals (try omega)
    simp only [Act.put, List.setIfInBounds_toArray]
    obtain ⟨gb, hgb⟩ : ∃ gb, gb = w3.heap.size := ⟨_, rfl⟩
    have HBP : Hid (w5.heap[gb]? = some (.cells #[.string ⟨#[]⟩, .int .i64 0, .int .i64 0, .string ⟨#[]⟩] 24)) := by rw [hgb]; exact (hb15'.block w3.heap.size (Nat.lt_of_lt_of_le (by simp) hb14'.size)).trans ((hb14'.block w3.heap.size (by simp)).trans (r4_new w3.drew _))
    have hbP : Below w1.heap.size w1 w5 := hb15
    have hgP : w1.heap.size ≤ gb ∧ gb < (w5).heap.size := ⟨by rw [hgb]; exact hS0.size, by rw [hgb]; exact Nat.lt_of_lt_of_le (Nat.lt_of_lt_of_le (by simp) hb14'.size) hb15'.size⟩
    rw [← hgb]
    clear hgb
    obtain ⟨⟨u0, u1, u2, u3⟩, ⟨v0, v1, v2, v3⟩⟩ := r4_cells HBP.out
    refine wpAnyH_ready (rs := [12]) (by kernel_rfl) (by simp) ?_
    refine AllReadyH.cons rfl (fun K hK => ?_) AllReadyH.nil
    rw [if_pos (by rfl)]
    go_simp
    refine hK.out _ _ (r4_below hbP hgP.1 _ _ _ _) (fun hS9 => ?_)
    have hbF := hS9
    have HBX : Hid (((((w5.setCell ⟨gb, 0, none⟩ (.string ⟨nm.toArray⟩)).setCell ⟨gb, 1, none⟩ (.int .i64 ty)).setCell ⟨gb, 2, none⟩ (.int .i64 ttl)).setCell ⟨gb, 3, none⟩ (.string ⟨r.toArray⟩)).heap[gb]? = some (.cells #[.string ⟨nm.toArray⟩, .int .i64 ty, .int .i64 ttl, .string ⟨r.toArray⟩] 24)) := r4_heap HBP.out
    have hgF : gb < w5.heap.size := hgP.2
    clear u0 u1 u2 u3 v0 v1 v2 v3
    clear hK
    refine wpAnyH_done (by kernel_rfl) ?_ _
    refine NoPanic.normal ?_
    clear hS0 hHeld
    obtain ⟨⟨m0, m1, m2, m3⟩, _⟩ := r4_cells HBX.out
    go_wp2_with fail
    refine (HTX.out _ (HE1.out _ hbF)).mono ?_
    rintro e w6 ⟨rfl, hb6⟩
    have hb16 := HT1.out _ _ hbF hb6
    have HBX6 : Hid (w6.heap[gb]? = some (.cells #[.string ⟨nm.toArray⟩, .int .i64 ty, .int .i64 ttl, .string ⟨r.toArray⟩] 24)) := (hb6.block gb (by simpa using hgF)).trans HBX.out
    obtain ⟨⟨c0, c1, c2, c3, hbw⟩, ⟨f0, f1, f2, f3⟩⟩ := HX1.out w6 hb16
    clear m0 m1 m2 m3
    obtain ⟨⟨m0, m1, m2, m3⟩, _⟩ := r4_cells HBX6.out
    have hng : gb ≠ w.heap.size := by omega
    have hng2 : w.heap.size ≠ gb := by omega
    clear hb6 hb16
    go_wp2_with fail
    (try simp only [Exit.inBlock, Exit.then])
    refine bodyPost_ret (v := .tuple #[(.agg #[.string ⟨nm.toArray⟩, .int .i64 ty, .int .i64 ttl, .string ⟨r.toArray⟩]), .bool true]) ?_ rfl ⟨rfl, ?_⟩
    · rw [results_cell_tmp rfl]; go_simp
    · exact r4_below hbw (Nat.le_refl _) _ _ _ _

theorem iReadRecord_any (s : ByteArray) (w : World) (hs : s.size ≤ 1048576) (hE : EnvR w) :
    Calls Tryz.prog 8 #[.string s] w fun e w' => e = .returned (rrVal (rrO s.data.toList)) ∧ Below w.heap.size w w' := by
  by_cases h4 : (cut 32 s.data.toList).length < 4
  · rw [rr_short h4]; exact iRead_short s w hs hE h4
  · obtain ⟨p, q, t, r, hl, hc, hk⟩ := split_three (b := 32) (l := s.data.toList) (by omega)
    have hQ := splitQ_long hc hk
    have hrr := rr_split hl hc
    have hsame := rr_same hc
    by_cases hok : recB (nmOf p) (rdNum t 16) (rdNum q 100000) r = true ∧ recT (nmOf p) (rdNum t 16).toNat (rdNum q 100000).toNat r = s.data.toList
    · obtain ⟨e1, e2⟩ := rr_eq hc hok
      rw [hrr, if_pos (hsame.1 hok), ← e1, ← e2]
      exact iRead_same s p q t r _ w hs hE hl hQ rfl hok.1 hok.2
    · rw [hrr, if_neg (fun h => hok (hsame.2 h))]
      cases hG : recB (nmOf p) (rdNum t 16) (rdNum q 100000) r with
      | false => exact iRead_bad s p q t r _ w hs hE hl hQ rfl hG
      | true => exact iRead_other s p q t r _ w hs hE hl hQ rfl hG (fun h => hok ⟨hG, h⟩)
end Go.Proofs.YtdmellmmhipncaaGreatDoor
