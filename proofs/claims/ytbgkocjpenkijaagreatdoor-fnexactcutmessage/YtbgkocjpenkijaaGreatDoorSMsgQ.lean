import Derived.Test.YtbgkocjpenkijaaGreatDoorLMsgM
import Derived.Laws.ResultCell
namespace Go.Proofs.YtbgkocjpenkijaaGreatDoor
open Go.RowKit

theorem msg_cells {W : World} {b : Nat} {v0 v1 v2 v3 v4 v5 v6 v7 : Value} {t : TypeId} (h : W.heap[b]? = some (.cells #[v0, v1, v2, v3, v4, v5, v6, v7] t)) :
    W.cell? ⟨b, 0, none⟩ = some v0 ∧ W.cell? ⟨b, 1, none⟩ = some v1 ∧ W.cell? ⟨b, 2, none⟩ = some v2 ∧ W.cell? ⟨b, 3, none⟩ = some v3 ∧ W.cell? ⟨b, 4, none⟩ = some v4 ∧ W.cell? ⟨b, 5, none⟩ = some v5 ∧ W.cell? ⟨b, 6, none⟩ = some v6 ∧ W.cell? ⟨b, 7, none⟩ = some v7 := by
  refine ⟨?_, ?_, ?_, ?_, ?_, ?_, ?_, ?_⟩ <;> (unfold World.cell?; rw [h]; rfl)
theorem msg_frozen {W : World} {b : Nat} {cs : Array Value} {t : TypeId} (h : W.heap[b]? = some (.cells cs t)) :
    W.frozen? ⟨b, 0, none⟩ = false ∧ W.frozen? ⟨b, 1, none⟩ = false ∧ W.frozen? ⟨b, 2, none⟩ = false ∧ W.frozen? ⟨b, 3, none⟩ = false ∧ W.frozen? ⟨b, 4, none⟩ = false ∧ W.frozen? ⟨b, 5, none⟩ = false ∧ W.frozen? ⟨b, 6, none⟩ = false ∧ W.frozen? ⟨b, 7, none⟩ = false := by
  refine ⟨?_, ?_, ?_, ?_, ?_, ?_, ?_, ?_⟩ <;> (unfold World.frozen?; rw [h]; simp)
theorem heaps2 {w W : World} {a b : Array Value} {t1 t2 : TypeId} (hb : Below ((w.alloc (.cells a t1)).alloc (.cells b t2)).heap.size ((w.alloc (.cells a t1)).alloc (.cells b t2)) W) :
    W.heap[w.heap.size]? = some (.cells a t1) ∧ W.heap[w.heap.size + 1]? = some (.cells b t2) ∧ Below w.heap.size w W := by
  have hA : Below (w.alloc (.cells a t1)).heap.size (w.alloc (.cells a t1)) W := ((Below.refl _ _).alloc (Nat.le_refl _) _).trans (hb.mono (by simp))
  have h2 : ((w.alloc (.cells a t1)).alloc (.cells b t2)).heap[w.heap.size + 1]? = some (.cells b t2) := by
    have h := blk_new (w.alloc (.cells a t1)) (.cells b t2)
    simpa using h
  refine ⟨?_, ?_, ((Below.refl w.heap.size w).alloc (Nat.le_refl _) _).trans (hA.mono (by simp))⟩
  · rw [hA.block _ (by simp)]; exact blk_new _ _
  · rw [hb.block _ (by simp)]; exact h2
/-- A struct and a bool, told. -/
theorem results_row_tmp {P : Program} {fn : Func} {p u : Tmp} {ty : TypeId} (h : fn.results = #[.cell p ty, .tmp u]) (tmps : Array Value) (w : World) (g : Nat) (t : TypeId) (cs : Array Value) (fr : Nat × Nat) (d : TypeDesc) (x : Value)
    (hp : tmps.getD p undef = .pointer (some ⟨g, 0, none⟩)) (hu : tmps.getD u undef = x) (hg : w.heap[g]? = some (.cells cs t fr))
    (hd0 : P.underlying ty = some d) (hd : (match d with | .struct _ | .array _ _ => true | _ => false) = true) (hi : (P.info? ty).map (·.size) = some cs.size) :
    (results fn tmps).run P w = .ok (.tuple #[.agg cs, x]) w := by
  have hp' : tmps[p]?.getD undef = .pointer (some ⟨g, 0, none⟩) := by simpa using hp
  have hu' : tmps[u]?.getD undef = x := by simpa using hu
  rw [results_cell_tmp h]
  simp [hp', hu', asAddr, run_loadVar_row w g t ty cs fr d hg hd0 hd hi, Result.andThen]
/-- No message. -/
def noMsg : Value := MsgV 0 false false 0 ⟨#[]⟩ 0 (.slice none 0 0) (.slice none 0 0)
/-- What QuestionFor tells. -/
def qVal (ok : Bool) (mi : Int) (nm : ByteArray) (ty : Int) : Value := .tuple #[if ok = true then MsgV mi false false 0 nm ty (.slice none 0 0) (.slice none 0 0) else noMsg, .bool ok]

set_option maxRecDepth 20000 in
set_option maxHeartbeats 2000000 in
theorem sQuestionFor_any (mi : Int) (nm : ByteArray) (ty : Int) (w : World) (hn : nm.size ≤ 1048576) :
    Calls Tryz.prog 26 #[.int .i64 mi, .string nm, .int .i64 ty] w fun e w' => e = .returned (qVal (msgB mi false false 0 nm.data.toList ty [] []) mi nm ty) ∧ Below w.heap.size w w' := by
  have HG : Hid (∀ W, Calls Tryz.prog 17 #[MsgV mi false false 0 nm ty (.slice none 0 0) (.slice none 0 0)] W fun e w' => e = .returned (.bool (msgB mi false false 0 nm.data.toList ty [] [])) ∧ Below W.heap.size W w') := fun W => sGoodMessage_any mi false false 0 nm ty _ _ [] [] W hn (rrow_nil _) (rrow_nil _) (fun x hx => by cases hx) (fun x hx => by cases hx)
  obtain ⟨ok, hok⟩ : ∃ ok, ok = msgB mi false false 0 nm.data.toList ty [] [] := ⟨_, rfl⟩
  rw [← hok] at HG ⊢
  clear hok
  unfold MsgV at HG
  go_enter Tryz.func26, Tryz.ntmps26
  go_wp2_with fail
  refine (HG.out _).mono ?_
  rintro e w1 ⟨rfl, hb1⟩
  obtain ⟨hr, hm, hbw⟩ := heaps2 hb1
  obtain ⟨c0, c1, c2, c3, c4, c5, c6, c7⟩ := msg_cells hr
  obtain ⟨d0, d1, d2, d3, d4, d5, d6, d7⟩ := msg_cells hm
  obtain ⟨f0, f1, f2, f3, f4, f5, f6, f7⟩ := msg_frozen hr
  have HR : Hid (w1.heap[w.heap.size]? = some (.cells #[.int .i64 0, .bool false, .bool false, .int .i64 0, .string ⟨#[]⟩, .int .i64 0, .slice none 0 0, .slice none 0 0] 25)) := hr
  clear hr hm hb1
  cases ok with
  | false =>
    go_wp2_with fail
    (try simp only [Exit.inBlock, Exit.then])
    refine bodyPost_ret (results_row_tmp rfl _ _ w.heap.size 25 #[.int .i64 0, .bool false, .bool false, .int .i64 0, .string ⟨#[]⟩, .int .i64 0, .slice none 0 0, .slice none 0 0] (0, 0) _ (.bool false) rfl rfl ?_ Tryz.underlying25 rfl (by kernel_rfl)) rfl ⟨rfl, ?_⟩
    · exact put8_heap HR.out
    · exact put8_below hbw (Nat.le_refl _) _ _ _ _ _ _ _ _
  | true =>
    go_wp2_with fail
    (try simp only [Exit.inBlock, Exit.then])
    refine bodyPost_ret (results_row_tmp rfl _ _ w.heap.size 25 #[.int .i64 mi, .bool false, .bool false, .int .i64 0, .string nm, .int .i64 ty, .slice none 0 0, .slice none 0 0] (0, 0) _ (.bool true) rfl rfl ?_ Tryz.underlying25 rfl (by kernel_rfl)) rfl ⟨rfl, ?_⟩
    · exact put8_heap HR.out
    · exact put8_below hbw (Nat.le_refl _) _ _ _ _ _ _ _ _
end Go.Proofs.YtbgkocjpenkijaaGreatDoor
