import Derived.Test.YtcjffofoheloeaaDoorSGood
import Derived.BigRegion
import Derived.Deep.QuietTactic
namespace Go.Proofs.YtcjffofoheloeaaDoor
open Go.RowKit

theorem quiet_ok {P : Program} {o : Oper} {a : Act} {C : World → Prop} {w : World} {v : Value} (h : (execOp a.eval o).run P w = .ok (.value v) w) : o.quietAt P a C w v := by
  unfold Oper.quietAt; rw [h]; exact ⟨rfl, rfl⟩
theorem quiet_call {P : Program} {o : Oper} {a : Act} {C : World → Prop} {w : World} {v : Value} {f : FuncId} {args : Array Value} (h : (execOp a.eval o).run P w = .ok (.enter f args) w) (hc : Calls P f args w (fun e w'' => e = .returned v ∧ C w'')) : o.quietAt P a C w v := by
  unfold Oper.quietAt; rw [h]; exact ⟨rfl, hc⟩

set_option maxRecDepth 20000 in
set_option maxHeartbeats 4000000 in
theorem l3Text_any (nm d : ByteArray) (ty ttl : Nat) (w : World) (hn : nm.size ≤ 1048576) (hd : d.size ≤ 1048576) (hty : ty < 10000000000) (httl : ttl < 10000000000) :
    Calls Tryd.prog 10 #[RecV nm (ty : Int) (ttl : Int) d] w fun e w' => e = .returned (.string ⟨(recT nm.data.toList ty ttl d.data.toList).toArray⟩) ∧ Below w.heap.size w w' := by
  unfold RecV
  have hl1 := numL_length 10 ty (by omega)
  have hl2 := numL_length 10 ttl (by omega)
  have HN : Hid (∀ (n : Nat) (W : World), n < 10000000000 → Calls Tryd.prog 19 #[.int .i64 (n : Int)] W fun e w' => e = .returned (.string ⟨(numL n).toArray⟩) ∧ Below W.heap.size W w') := fun n W hn => l1Num_any n n W (Nat.le_refl _) (by omega)
  have HRT : Hid (recT nm.data.toList ty ttl d.data.toList = (if nm.data.toList = [] then [46] else nm.data.toList) ++ (32 :: (numL ttl ++ (32 :: (numL ty ++ (32 :: d.data.toList)))))) := rfl
  obtain ⟨W0, hW0⟩ : ∃ W0, W0 = w.alloc (.cells #[.string nm, .int .i64 (ty : Int), .int .i64 (ttl : Int), .string d] 23) := ⟨_, rfl⟩
  have HTR : Hid (∀ W W', Below W0.heap.size W0 W → Below W.heap.size W W' → Below W0.heap.size W0 W' ∧ W'.cell? ⟨w.heap.size, 1, none⟩ = some (.int .i64 (ty : Int)) ∧ W'.cell? ⟨w.heap.size, 2, none⟩ = some (.int .i64 (ttl : Int)) ∧ W'.cell? ⟨w.heap.size, 3, none⟩ = some (.string d)) := fun W W' h1 h2 => by
    have h3 := h1.trans (h2.mono h1.size)
    have h4 := h3
    rw [hW0] at h4
    exact ⟨h3, (box4 h4).2.1, (box4 h4).2.2.1, (box4 h4).2.2.2.1⟩
  have HBW : Hid (∀ W, Below W0.heap.size W0 W → Below w.heap.size w W) := fun W h => by rw [hW0] at h; exact (box4 h).2.2.2.2
  have hbd : Below W0.heap.size W0 W0.drew := (Below.refl _ _).drew
  rw [hW0] at HTR HBW hbd
  clear hW0
  by_cases h0 : nm.data.toList = []
  · rw [if_pos h0] at HRT
    obtain rfl : nm = ⟨#[]⟩ := data_eq h0
    clear h0
    go_enter Tryd.func10, Tryd.ntmps10
    go_wp2_with fail
    refine wp_region_quiet (C := fun W => Below (w.alloc (.cells #[.string ⟨#[]⟩, .int .i64 (ty : Int), .int .i64 (ttl : Int), .string d] 23)).heap.size (w.alloc (.cells #[.string ⟨#[]⟩, .int .i64 (ty : Int), .int .i64 (ttl : Int), .string d] 23)) W) (by kernel_rfl) (by kernel_rfl) hbd ?_
    refine wpQuiet_step (fun K hK => ?_)
    rw [if_pos (by rfl)]
    refine ⟨.string ⟨#[46]⟩, fun W hW => quiet_ok ?_, hK _ ?_⟩
    · have q := (HTR.out W W hW (Below.refl _ _)).2
      have q1 := q.1
      have q2 := q.2.1
      have q3 := q.2.2
      go_simp
      all_goals (try omega)
    clear hK K
    simp only [Act.put, List.setIfInBounds_toArray, List.set_cons_succ, List.set_cons_zero]
    refine wpQuiet_step (fun K hK => ?_)
    rw [if_pos (by rfl)]
    refine ⟨.string (⟨#[46]⟩ ++ ⟨#[32]⟩), fun W hW => quiet_ok ?_, hK _ ?_⟩
    · have q := (HTR.out W W hW (Below.refl _ _)).2
      have q1 := q.1
      have q2 := q.2.1
      have q3 := q.2.2
      go_simp
      all_goals (try omega)
    clear hK K
    simp only [Act.put, List.setIfInBounds_toArray, List.set_cons_succ, List.set_cons_zero]
    refine wpQuiet_step (fun K hK => ?_)
    rw [if_pos (by rfl)]
    refine ⟨.pointer (some ⟨w.heap.size, 2, none⟩), fun W hW => quiet_ok ?_, hK _ ?_⟩
    · have q := (HTR.out W W hW (Below.refl _ _)).2
      have q1 := q.1
      have q2 := q.2.1
      have q3 := q.2.2
      go_simp
      all_goals (try omega)
    clear hK K
    simp only [Act.put, List.setIfInBounds_toArray, List.set_cons_succ, List.set_cons_zero]
    refine wpQuiet_step (fun K hK => ?_)
    rw [if_pos (by rfl)]
    refine ⟨.int .i64 (ttl : Int), fun W hW => quiet_ok ?_, hK _ ?_⟩
    · have q := (HTR.out W W hW (Below.refl _ _)).2
      have q1 := q.1
      have q2 := q.2.1
      have q3 := q.2.2
      go_simp
      all_goals (try omega)
    clear hK K
    simp only [Act.put, List.setIfInBounds_toArray, List.set_cons_succ, List.set_cons_zero]
    refine wpQuiet_step (fun K hK => ?_)
    rw [if_pos (by rfl)]
    refine ⟨.string ⟨(numL ttl).toArray⟩, fun W hW => quiet_call (f := 19) (args := #[.int .i64 (ttl : Int)]) ?_ ?_, hK _ ?_⟩
    · go_simp
    · exact (HN.out _ _ (by assumption)).mono fun e w'' h => ⟨h.1, (HTR.out _ _ hW h.2).1⟩
    clear hK K
    simp only [Act.put, List.setIfInBounds_toArray, List.set_cons_succ, List.set_cons_zero]
    refine wpQuiet_step (fun K hK => ?_)
    rw [if_pos (by rfl)]
    refine ⟨.string (⟨#[46]⟩ ++ ⟨#[32]⟩ ++ ⟨(numL ttl).toArray⟩), fun W hW => quiet_ok ?_, hK _ ?_⟩
    · have q := (HTR.out W W hW (Below.refl _ _)).2
      have q1 := q.1
      have q2 := q.2.1
      have q3 := q.2.2
      go_simp
      all_goals (try omega)
    clear hK K
    simp only [Act.put, List.setIfInBounds_toArray, List.set_cons_succ, List.set_cons_zero]
    refine wpQuiet_step (fun K hK => ?_)
    rw [if_pos (by rfl)]
    refine ⟨.string (⟨#[46]⟩ ++ ⟨#[32]⟩ ++ ⟨(numL ttl).toArray⟩ ++ ⟨#[32]⟩), fun W hW => quiet_ok ?_, hK _ ?_⟩
    · have q := (HTR.out W W hW (Below.refl _ _)).2
      have q1 := q.1
      have q2 := q.2.1
      have q3 := q.2.2
      go_simp
      all_goals (try omega)
    clear hK K
    simp only [Act.put, List.setIfInBounds_toArray, List.set_cons_succ, List.set_cons_zero]
    refine wpQuiet_step (fun K hK => ?_)
    rw [if_pos (by rfl)]
    refine ⟨.pointer (some ⟨w.heap.size, 1, none⟩), fun W hW => quiet_ok ?_, hK _ ?_⟩
    · have q := (HTR.out W W hW (Below.refl _ _)).2
      have q1 := q.1
      have q2 := q.2.1
      have q3 := q.2.2
      go_simp
      all_goals (try omega)
    clear hK K
    simp only [Act.put, List.setIfInBounds_toArray, List.set_cons_succ, List.set_cons_zero]
    refine wpQuiet_step (fun K hK => ?_)
    rw [if_pos (by rfl)]
    refine ⟨.int .i64 (ty : Int), fun W hW => quiet_ok ?_, hK _ ?_⟩
    · have q := (HTR.out W W hW (Below.refl _ _)).2
      have q1 := q.1
      have q2 := q.2.1
      have q3 := q.2.2
      go_simp
      all_goals (try omega)
    clear hK K
    simp only [Act.put, List.setIfInBounds_toArray, List.set_cons_succ, List.set_cons_zero]
    refine wpQuiet_step (fun K hK => ?_)
    rw [if_pos (by rfl)]
    refine ⟨.string ⟨(numL ty).toArray⟩, fun W hW => quiet_call (f := 19) (args := #[.int .i64 (ty : Int)]) ?_ ?_, hK _ ?_⟩
    · go_simp
    · exact (HN.out _ _ (by assumption)).mono fun e w'' h => ⟨h.1, (HTR.out _ _ hW h.2).1⟩
    clear hK K
    simp only [Act.put, List.setIfInBounds_toArray, List.set_cons_succ, List.set_cons_zero]
    refine wpQuiet_step (fun K hK => ?_)
    rw [if_pos (by rfl)]
    refine ⟨.string (⟨#[46]⟩ ++ ⟨#[32]⟩ ++ ⟨(numL ttl).toArray⟩ ++ ⟨#[32]⟩ ++ ⟨(numL ty).toArray⟩), fun W hW => quiet_ok ?_, hK _ ?_⟩
    · have q := (HTR.out W W hW (Below.refl _ _)).2
      have q1 := q.1
      have q2 := q.2.1
      have q3 := q.2.2
      go_simp
      all_goals (try omega)
    clear hK K
    simp only [Act.put, List.setIfInBounds_toArray, List.set_cons_succ, List.set_cons_zero]
    refine wpQuiet_step (fun K hK => ?_)
    rw [if_pos (by rfl)]
    refine ⟨.string (⟨#[46]⟩ ++ ⟨#[32]⟩ ++ ⟨(numL ttl).toArray⟩ ++ ⟨#[32]⟩ ++ ⟨(numL ty).toArray⟩ ++ ⟨#[32]⟩), fun W hW => quiet_ok ?_, hK _ ?_⟩
    · have q := (HTR.out W W hW (Below.refl _ _)).2
      have q1 := q.1
      have q2 := q.2.1
      have q3 := q.2.2
      go_simp
      all_goals (try omega)
    clear hK K
    simp only [Act.put, List.setIfInBounds_toArray, List.set_cons_succ, List.set_cons_zero]
    refine wpQuiet_step (fun K hK => ?_)
    rw [if_pos (by rfl)]
    refine ⟨.pointer (some ⟨w.heap.size, 3, none⟩), fun W hW => quiet_ok ?_, hK _ ?_⟩
    · have q := (HTR.out W W hW (Below.refl _ _)).2
      have q1 := q.1
      have q2 := q.2.1
      have q3 := q.2.2
      go_simp
      all_goals (try omega)
    clear hK K
    simp only [Act.put, List.setIfInBounds_toArray, List.set_cons_succ, List.set_cons_zero]
    refine wpQuiet_step (fun K hK => ?_)
    rw [if_pos (by rfl)]
    refine ⟨.string d, fun W hW => quiet_ok ?_, hK _ ?_⟩
    · have q := (HTR.out W W hW (Below.refl _ _)).2
      have q1 := q.1
      have q2 := q.2.1
      have q3 := q.2.2
      go_simp
      all_goals (try omega)
    clear hK K
    simp only [Act.put, List.setIfInBounds_toArray, List.set_cons_succ, List.set_cons_zero]
    refine wpQuiet_step (fun K hK => ?_)
    rw [if_pos (by rfl)]
    refine ⟨.string (⟨#[46]⟩ ++ ⟨#[32]⟩ ++ ⟨(numL ttl).toArray⟩ ++ ⟨#[32]⟩ ++ ⟨(numL ty).toArray⟩ ++ ⟨#[32]⟩ ++ d), fun W hW => quiet_ok ?_, hK _ ?_⟩
    · have q := (HTR.out W W hW (Below.refl _ _)).2
      have q1 := q.1
      have q2 := q.2.1
      have q3 := q.2.2
      go_simp
      all_goals (try omega)
    clear hK K
    simp only [Act.put, List.setIfInBounds_toArray, List.set_cons_succ, List.set_cons_zero]
    refine wpQuiet_step (fun K hK => ?_)
    rw [if_pos (by rfl)]
    refine ⟨.string (⟨#[46]⟩ ++ ⟨#[32]⟩ ++ ⟨(numL ttl).toArray⟩ ++ ⟨#[32]⟩ ++ ⟨(numL ty).toArray⟩ ++ ⟨#[32]⟩ ++ d), fun W hW => quiet_ok ?_, hK _ ?_⟩
    · have q := (HTR.out W W hW (Below.refl _ _)).2
      have q1 := q.1
      have q2 := q.2.1
      have q3 := q.2.2
      go_simp
      all_goals (try omega)
    clear hK K
    simp only [Act.put, List.setIfInBounds_toArray, List.set_cons_succ, List.set_cons_zero]
    refine wpQuiet_nil ?_
    intro W hW
    go_wp2_with fail
    go_ret
    exact ⟨congrArg Ending.returned (val_strM (by rw [HRT.out]; simp)), HBW.out W hW⟩
  · have e0 : nm.toList.isEmpty = false := by rw [ByteArray.toList_eq]; simpa using h0
    have e1 : (nm.toList == []) = false := by rw [ByteArray.toList_eq]; simpa using h0
    rw [if_neg h0] at HRT
    clear h0
    go_enter Tryd.func10, Tryd.ntmps10
    go_wp2_with fail
    refine wp_region_quiet (C := fun W => Below (w.alloc (.cells #[.string nm, .int .i64 (ty : Int), .int .i64 (ttl : Int), .string d] 23)).heap.size (w.alloc (.cells #[.string nm, .int .i64 (ty : Int), .int .i64 (ttl : Int), .string d] 23)) W) (by kernel_rfl) (by kernel_rfl) hbd ?_
    refine wpQuiet_step (fun K hK => ?_)
    rw [if_pos (by rfl)]
    refine ⟨.string nm, fun W hW => quiet_ok ?_, hK _ ?_⟩
    · have q := (HTR.out W W hW (Below.refl _ _)).2
      have q1 := q.1
      have q2 := q.2.1
      have q3 := q.2.2
      go_simp
      all_goals (try omega)
    clear hK K
    simp only [Act.put, List.setIfInBounds_toArray, List.set_cons_succ, List.set_cons_zero]
    refine wpQuiet_step (fun K hK => ?_)
    rw [if_pos (by rfl)]
    refine ⟨.string (nm ++ ⟨#[32]⟩), fun W hW => quiet_ok ?_, hK _ ?_⟩
    · have q := (HTR.out W W hW (Below.refl _ _)).2
      have q1 := q.1
      have q2 := q.2.1
      have q3 := q.2.2
      go_simp
      all_goals (try omega)
    clear hK K
    simp only [Act.put, List.setIfInBounds_toArray, List.set_cons_succ, List.set_cons_zero]
    refine wpQuiet_step (fun K hK => ?_)
    rw [if_pos (by rfl)]
    refine ⟨.pointer (some ⟨w.heap.size, 2, none⟩), fun W hW => quiet_ok ?_, hK _ ?_⟩
    · have q := (HTR.out W W hW (Below.refl _ _)).2
      have q1 := q.1
      have q2 := q.2.1
      have q3 := q.2.2
      go_simp
      all_goals (try omega)
    clear hK K
    simp only [Act.put, List.setIfInBounds_toArray, List.set_cons_succ, List.set_cons_zero]
    refine wpQuiet_step (fun K hK => ?_)
    rw [if_pos (by rfl)]
    refine ⟨.int .i64 (ttl : Int), fun W hW => quiet_ok ?_, hK _ ?_⟩
    · have q := (HTR.out W W hW (Below.refl _ _)).2
      have q1 := q.1
      have q2 := q.2.1
      have q3 := q.2.2
      go_simp
      all_goals (try omega)
    clear hK K
    simp only [Act.put, List.setIfInBounds_toArray, List.set_cons_succ, List.set_cons_zero]
    refine wpQuiet_step (fun K hK => ?_)
    rw [if_pos (by rfl)]
    refine ⟨.string ⟨(numL ttl).toArray⟩, fun W hW => quiet_call (f := 19) (args := #[.int .i64 (ttl : Int)]) ?_ ?_, hK _ ?_⟩
    · go_simp
    · exact (HN.out _ _ (by assumption)).mono fun e w'' h => ⟨h.1, (HTR.out _ _ hW h.2).1⟩
    clear hK K
    simp only [Act.put, List.setIfInBounds_toArray, List.set_cons_succ, List.set_cons_zero]
    refine wpQuiet_step (fun K hK => ?_)
    rw [if_pos (by rfl)]
    refine ⟨.string (nm ++ ⟨#[32]⟩ ++ ⟨(numL ttl).toArray⟩), fun W hW => quiet_ok ?_, hK _ ?_⟩
    · have q := (HTR.out W W hW (Below.refl _ _)).2
      have q1 := q.1
      have q2 := q.2.1
      have q3 := q.2.2
      go_simp
      all_goals (try omega)
    clear hK K
    simp only [Act.put, List.setIfInBounds_toArray, List.set_cons_succ, List.set_cons_zero]
    refine wpQuiet_step (fun K hK => ?_)
    rw [if_pos (by rfl)]
    refine ⟨.string (nm ++ ⟨#[32]⟩ ++ ⟨(numL ttl).toArray⟩ ++ ⟨#[32]⟩), fun W hW => quiet_ok ?_, hK _ ?_⟩
    · have q := (HTR.out W W hW (Below.refl _ _)).2
      have q1 := q.1
      have q2 := q.2.1
      have q3 := q.2.2
      go_simp
      all_goals (try omega)
    clear hK K
    simp only [Act.put, List.setIfInBounds_toArray, List.set_cons_succ, List.set_cons_zero]
    refine wpQuiet_step (fun K hK => ?_)
    rw [if_pos (by rfl)]
    refine ⟨.pointer (some ⟨w.heap.size, 1, none⟩), fun W hW => quiet_ok ?_, hK _ ?_⟩
    · have q := (HTR.out W W hW (Below.refl _ _)).2
      have q1 := q.1
      have q2 := q.2.1
      have q3 := q.2.2
      go_simp
      all_goals (try omega)
    clear hK K
    simp only [Act.put, List.setIfInBounds_toArray, List.set_cons_succ, List.set_cons_zero]
    refine wpQuiet_step (fun K hK => ?_)
    rw [if_pos (by rfl)]
    refine ⟨.int .i64 (ty : Int), fun W hW => quiet_ok ?_, hK _ ?_⟩
    · have q := (HTR.out W W hW (Below.refl _ _)).2
      have q1 := q.1
      have q2 := q.2.1
      have q3 := q.2.2
      go_simp
      all_goals (try omega)
    clear hK K
    simp only [Act.put, List.setIfInBounds_toArray, List.set_cons_succ, List.set_cons_zero]
    refine wpQuiet_step (fun K hK => ?_)
    rw [if_pos (by rfl)]
    refine ⟨.string ⟨(numL ty).toArray⟩, fun W hW => quiet_call (f := 19) (args := #[.int .i64 (ty : Int)]) ?_ ?_, hK _ ?_⟩
    · go_simp
    · exact (HN.out _ _ (by assumption)).mono fun e w'' h => ⟨h.1, (HTR.out _ _ hW h.2).1⟩
    clear hK K
    simp only [Act.put, List.setIfInBounds_toArray, List.set_cons_succ, List.set_cons_zero]
    refine wpQuiet_step (fun K hK => ?_)
    rw [if_pos (by rfl)]
    refine ⟨.string (nm ++ ⟨#[32]⟩ ++ ⟨(numL ttl).toArray⟩ ++ ⟨#[32]⟩ ++ ⟨(numL ty).toArray⟩), fun W hW => quiet_ok ?_, hK _ ?_⟩
    · have q := (HTR.out W W hW (Below.refl _ _)).2
      have q1 := q.1
      have q2 := q.2.1
      have q3 := q.2.2
      go_simp
      all_goals (try omega)
    clear hK K
    simp only [Act.put, List.setIfInBounds_toArray, List.set_cons_succ, List.set_cons_zero]
    refine wpQuiet_step (fun K hK => ?_)
    rw [if_pos (by rfl)]
    refine ⟨.string (nm ++ ⟨#[32]⟩ ++ ⟨(numL ttl).toArray⟩ ++ ⟨#[32]⟩ ++ ⟨(numL ty).toArray⟩ ++ ⟨#[32]⟩), fun W hW => quiet_ok ?_, hK _ ?_⟩
    · have q := (HTR.out W W hW (Below.refl _ _)).2
      have q1 := q.1
      have q2 := q.2.1
      have q3 := q.2.2
      go_simp
      all_goals (try omega)
    clear hK K
    simp only [Act.put, List.setIfInBounds_toArray, List.set_cons_succ, List.set_cons_zero]
    refine wpQuiet_step (fun K hK => ?_)
    rw [if_pos (by rfl)]
    refine ⟨.pointer (some ⟨w.heap.size, 3, none⟩), fun W hW => quiet_ok ?_, hK _ ?_⟩
    · have q := (HTR.out W W hW (Below.refl _ _)).2
      have q1 := q.1
      have q2 := q.2.1
      have q3 := q.2.2
      go_simp
      all_goals (try omega)
    clear hK K
    simp only [Act.put, List.setIfInBounds_toArray, List.set_cons_succ, List.set_cons_zero]
    refine wpQuiet_step (fun K hK => ?_)
    rw [if_pos (by rfl)]
    refine ⟨.string d, fun W hW => quiet_ok ?_, hK _ ?_⟩
    · have q := (HTR.out W W hW (Below.refl _ _)).2
      have q1 := q.1
      have q2 := q.2.1
      have q3 := q.2.2
      go_simp
      all_goals (try omega)
    clear hK K
    simp only [Act.put, List.setIfInBounds_toArray, List.set_cons_succ, List.set_cons_zero]
    refine wpQuiet_step (fun K hK => ?_)
    rw [if_pos (by rfl)]
    refine ⟨.string (nm ++ ⟨#[32]⟩ ++ ⟨(numL ttl).toArray⟩ ++ ⟨#[32]⟩ ++ ⟨(numL ty).toArray⟩ ++ ⟨#[32]⟩ ++ d), fun W hW => quiet_ok ?_, hK _ ?_⟩
    · have q := (HTR.out W W hW (Below.refl _ _)).2
      have q1 := q.1
      have q2 := q.2.1
      have q3 := q.2.2
      go_simp
      all_goals (try omega)
    clear hK K
    simp only [Act.put, List.setIfInBounds_toArray, List.set_cons_succ, List.set_cons_zero]
    refine wpQuiet_step (fun K hK => ?_)
    rw [if_pos (by rfl)]
    refine ⟨.string (nm ++ ⟨#[32]⟩ ++ ⟨(numL ttl).toArray⟩ ++ ⟨#[32]⟩ ++ ⟨(numL ty).toArray⟩ ++ ⟨#[32]⟩ ++ d), fun W hW => quiet_ok ?_, hK _ ?_⟩
    · have q := (HTR.out W W hW (Below.refl _ _)).2
      have q1 := q.1
      have q2 := q.2.1
      have q3 := q.2.2
      go_simp
      all_goals (try omega)
    clear hK K
    simp only [Act.put, List.setIfInBounds_toArray, List.set_cons_succ, List.set_cons_zero]
    refine wpQuiet_nil ?_
    intro W hW
    go_wp2_with fail
    go_ret
    exact ⟨congrArg Ending.returned (val_strM (by rw [HRT.out]; simp)), HBW.out W hW⟩
end Go.Proofs.YtcjffofoheloeaaDoor
