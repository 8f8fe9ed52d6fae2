import Derived.Test.YtacmipcjhbkdcaaZ08
import Derived.Test.YtacmipcjhbkdcaaZ10
namespace Go.Proofs.Ytacmipcjhbkdcaa
open Go.RowKit

/-- A chain and a bool told, in memory of its own. -/
def ChAns (w' : World) (base : Nat) (ok : Bool) (L : List LkT) (e : Ending) : Prop := ∃ v D, e = .returned (.tuple #[ChV v, .bool ok]) ∧ D.map (fun x : LkT × Value => x.1) = L ∧ LBld w' base v D
theorem ChAns.no (w' : World) (base : Nat) : ChAns w' base false [] (.returned (.tuple #[.agg #[.slice none 0 0], .bool false])) := ⟨_, [], rfl, rfl, LBld.nil _ _⟩
/-- What NewChain tells. -/
def newB (n : Int) : Bool := decide (1 ≤ n) && decide (n ≤ 6)
def newL (n : Int) : List LkT := if newB n then List.replicate n.toNat ([], 0, 0) else []
theorem newL_no {n : Int} (h : newB n = false) : newL n = [] := by unfold newL; rw [h]; rfl
theorem newL_yes {k : Nat} (h : newB (k : Int) = true) : newL (k : Int) = List.replicate k ([], 0, 0) := by unfold newL; rw [h]; simp
theorem put1_heap {w : World} {g : Nat} {t : TypeId} {v0 u0 : Value} (h : w.heap[g]? = some (.cells #[u0] t)) : (w.setCell ⟨g, 0, none⟩ v0).heap[g]? = some (.cells #[v0] t) := by
  have e0 := heap_setCell_same _ _ 0 _ _ v0 h
  simpa using e0

set_option maxRecDepth 20000 in
set_option maxHeartbeats 1000000 in
theorem iNewChain_any (n : Int) (w : World) :
    Calls Try.prog 36 #[.int .i64 n] w fun e w' => ChAns w' w.heap.size (newB n) (newL n) e ∧ Below w.heap.size w w' := by
  have HW : Hid (∀ W, Calls Try.prog 44 #[.int .i64 n, .int .i64 1, .int .i64 6] W fun e w' => e = .returned (.bool (newB n)) ∧ w' = W) := fun W => iWithin_anyC _ _ _ W
  obtain ⟨W0, hW0⟩ : ∃ W0, W0 = w.alloc (.cells #[.slice none 0 0] 31) := ⟨_, rfl⟩
  have hb0 : Below w.heap.size w W0 := by rw [hW0]; exact (Below.refl w.heap.size w).alloc (Nat.le_refl _) _
  have hB0 : W0.heap[w.heap.size]? = some (.cells #[.slice none 0 0] 31) := by rw [hW0]; exact blk_new _ _
  have HB0 : Hid (W0.heap[w.heap.size]? = some (.cells #[.slice none 0 0] 31)) := hB0
  have hz0 : w.heap.size < W0.heap.size := by rw [hW0]; simp
  have HW0 : Hid (w.alloc (.cells #[.slice none 0 0] 31) = W0) := hW0.symm
  have r0 := cells_at hB0 0
  have f0 : W0.frozen? ⟨w.heap.size, 0, none⟩ = false := by unfold World.frozen?; rw [hB0]; simp
  simp only [List.getElem?_toArray, List.getElem?_cons_zero] at r0
  cases hg : newB n with
  | false =>
    rw [hg] at HW
    rw [newL_no hg]
    clear hW0 hB0 hg
    go_enter Try.func36, Try.ntmps36
    go_wp2_with fail
    rw [HW0.out]
    refine (HW.out _).mono ?_
    rintro e w1 ⟨rfl, rfl⟩
    go_wp2_with fail
    (try simp only [Exit.inBlock, Exit.then])
    refine bodyPost_ret (results_row_tmp rfl _ _ w.heap.size 31 #[.slice none 0 0] (0, 0) _ (.bool false) rfl rfl ?_ Try.underlying31 rfl (by kernel_rfl)) rfl ⟨ChAns.no _ _, ?_⟩
    · exact put1_heap HB0.out
    · exact hb0.setCell (p := ⟨w.heap.size, 0, none⟩) (Nat.le_refl _) _
  | true =>
    rw [hg] at HW
    have hn : 1 ≤ n ∧ n ≤ 6 := by unfold newB at hg; simp only [Bool.and_eq_true, decide_eq_true_eq] at hg; exact hg
    obtain ⟨k, rfl⟩ : ∃ k : Nat, n = (k : Int) := ⟨n.toNat, by omega⟩
    rw [newL_yes hg]
    obtain ⟨i0, hi, hi0, hi1, hi2⟩ := info_parts info_link
    have hk6 : k ≤ 6 := by omega
    clear hW0 hB0 hg hn
    go_enter Try.func36, Try.ntmps36
    go_wp2_with fail
    rw [HW0.out]
    refine (HW.out _).mono ?_
    rintro e w1 ⟨rfl, rfl⟩
    go_wp2_with (at_make; refine wpList_make_full _ rfl _ _ 29 rfl w1.heap.size 71 i0 (.agg #[.slice none 0 0, .int .i64 0, .int .i64 0]) 3 Try.underlying29 hi hi0 hi1 _ _ _ _ k rfl rfl rfl rfl ?b2 ?b3 ?b4 ?_)
    case b2 => rw [hi2]; omega
    case b3 => unfold maxLen; omega
    case b4 => exact Nat.le_refl _
    intro w2 hown hgrow
    have hb2 : Below w1.heap.size w1 w2 := (Below.refl _ _).grown hgrow (Nat.le_refl _) (fun k h => by cases h)
    have HL : Hid (LBld w2 w1.heap.size (.slice (some ⟨w1.heap.size, 0, none⟩) k k) (List.replicate k (([], 0, 0), .slice none 0 0))) := made_links hown
    have HB2 : Hid (w2.heap[w.heap.size]? = some (.cells #[.slice none 0 0] 31)) := (hb2.block _ hz0).trans HB0.out
    have r2 : w2.cell? ⟨w.heap.size, 0, none⟩ = some (.slice none 0 0) := by rw [hb2.cell (p := ⟨w.heap.size, 0, none⟩) hz0]; exact r0
    have f2 : w2.frozen? ⟨w.heap.size, 0, none⟩ = false := by rw [hb2.frozen (p := ⟨w.heap.size, 0, none⟩) hz0]; exact f0
    have hbw := hb0.trans (hb2.mono hb0.size)
    clear hown hgrow hb2 r0 f0 HB0
    go_wp2_with fail
    (try simp only [Exit.inBlock, Exit.then])
    refine bodyPost_ret (results_row_tmp rfl _ _ w.heap.size 31 #[.slice (some ⟨w1.heap.size, 0, none⟩) k k] (0, 0) _ (.bool true) rfl rfl ?_ Try.underlying31 rfl (by kernel_rfl)) rfl ⟨⟨_, _, rfl, ?_, (HL.out.far (g := w.heap.size) hz0 _).mono (Nat.le_of_lt hz0)⟩, ?_⟩
    · exact put1_heap HB2.out
    · simp
    · exact hbw.setCell (p := ⟨w.heap.size, 0, none⟩) (Nat.le_refl _) _

set_option maxRecDepth 20000 in
set_option maxHeartbeats 1000000 in
theorem sNewChain_any (n : Int) (w : World) :
    Calls Try.prog 35 #[.int .i64 n] w fun e w' => ChAns w' w.heap.size (newB n) (newL n) e ∧ Below w.heap.size w w' := by
  have HW : Hid (∀ W, Calls Try.prog 40 #[.int .i64 n, .int .i64 1, .int .i64 6] W fun e w' => e = .returned (.bool (newB n)) ∧ w' = W) := fun W => l1In_any _ _ _ W
  obtain ⟨W0, hW0⟩ : ∃ W0, W0 = w.alloc (.cells #[.slice none 0 0] 31) := ⟨_, rfl⟩
  have hb0 : Below w.heap.size w W0 := by rw [hW0]; exact (Below.refl w.heap.size w).alloc (Nat.le_refl _) _
  have hB0 : W0.heap[w.heap.size]? = some (.cells #[.slice none 0 0] 31) := by rw [hW0]; exact blk_new _ _
  have HB0 : Hid (W0.heap[w.heap.size]? = some (.cells #[.slice none 0 0] 31)) := hB0
  have hz0 : w.heap.size < W0.heap.size := by rw [hW0]; simp
  have HW0 : Hid (w.alloc (.cells #[.slice none 0 0] 31) = W0) := hW0.symm
  have r0 := cells_at hB0 0
  have f0 : W0.frozen? ⟨w.heap.size, 0, none⟩ = false := by unfold World.frozen?; rw [hB0]; simp
  simp only [List.getElem?_toArray, List.getElem?_cons_zero] at r0
  cases hg : newB n with
  | false =>
    rw [hg] at HW
    rw [newL_no hg]
    clear hW0 hB0 hg
    go_enter Try.func35, Try.ntmps35
    go_wp2_with fail
    rw [HW0.out]
    refine (HW.out _).mono ?_
    rintro e w1 ⟨rfl, rfl⟩
    go_wp2_with fail
    (try simp only [Exit.inBlock, Exit.then])
    refine bodyPost_ret (results_row_tmp rfl _ _ w.heap.size 31 #[.slice none 0 0] (0, 0) _ (.bool false) rfl rfl ?_ Try.underlying31 rfl (by kernel_rfl)) rfl ⟨ChAns.no _ _, ?_⟩
    · exact put1_heap HB0.out
    · exact hb0.setCell (p := ⟨w.heap.size, 0, none⟩) (Nat.le_refl _) _
  | true =>
    rw [hg] at HW
    have hn : 1 ≤ n ∧ n ≤ 6 := by unfold newB at hg; simp only [Bool.and_eq_true, decide_eq_true_eq] at hg; exact hg
    obtain ⟨k, rfl⟩ : ∃ k : Nat, n = (k : Int) := ⟨n.toNat, by omega⟩
    rw [newL_yes hg]
    obtain ⟨i0, hi, hi0, hi1, hi2⟩ := info_parts info_link
    have hk6 : k ≤ 6 := by omega
    clear hW0 hB0 hg hn
    go_enter Try.func35, Try.ntmps35
    go_wp2_with fail
    rw [HW0.out]
    refine (HW.out _).mono ?_
    rintro e w1 ⟨rfl, rfl⟩
    go_wp2_with (at_make; refine wpList_make_full _ rfl _ _ 29 rfl w1.heap.size 71 i0 (.agg #[.slice none 0 0, .int .i64 0, .int .i64 0]) 3 Try.underlying29 hi hi0 hi1 _ _ _ _ k rfl rfl rfl rfl ?b2 ?b3 ?b4 ?_)
    case b2 => rw [hi2]; omega
    case b3 => unfold maxLen; omega
    case b4 => exact Nat.le_refl _
    intro w2 hown hgrow
    have hb2 : Below w1.heap.size w1 w2 := (Below.refl _ _).grown hgrow (Nat.le_refl _) (fun k h => by cases h)
    have HL : Hid (LBld w2 w1.heap.size (.slice (some ⟨w1.heap.size, 0, none⟩) k k) (List.replicate k (([], 0, 0), .slice none 0 0))) := made_links hown
    have HB2 : Hid (w2.heap[w.heap.size]? = some (.cells #[.slice none 0 0] 31)) := (hb2.block _ hz0).trans HB0.out
    have r2 : w2.cell? ⟨w.heap.size, 0, none⟩ = some (.slice none 0 0) := by rw [hb2.cell (p := ⟨w.heap.size, 0, none⟩) hz0]; exact r0
    have f2 : w2.frozen? ⟨w.heap.size, 0, none⟩ = false := by rw [hb2.frozen (p := ⟨w.heap.size, 0, none⟩) hz0]; exact f0
    have hbw := hb0.trans (hb2.mono hb0.size)
    clear hown hgrow hb2 r0 f0 HB0
    go_wp2_with fail
    (try simp only [Exit.inBlock, Exit.then])
    refine bodyPost_ret (results_row_tmp rfl _ _ w.heap.size 31 #[.slice (some ⟨w1.heap.size, 0, none⟩) k k] (0, 0) _ (.bool true) rfl rfl ?_ Try.underlying31 rfl (by kernel_rfl)) rfl ⟨⟨_, _, rfl, ?_, (HL.out.far (g := w.heap.size) hz0 _).mono (Nat.le_of_lt hz0)⟩, ?_⟩
    · exact put1_heap HB2.out
    · simp
    · exact hbw.setCell (p := ⟨w.heap.size, 0, none⟩) (Nat.le_refl _) _
end Go.Proofs.Ytacmipcjhbkdcaa

namespace Go.Proofs.Ytacmipcjhbkdcaa
open Go.RowKit

/-- How many marks a chain takes. -/
def totL (L : List LkT) : Nat := (L.map (fun x => x.1.length + 2)).sum
theorem totD_L : ∀ D : List (LkT × Value), totD D = totL (D.map (fun x => x.1))
  | [] => rfl
  | x :: r => by rw [totD_cons, totD_L r]; simp [totL]
theorem totL_wt {L : List LkT} : totL L ≤ 2 * L.length + wtK L := by
  induction L with
  | nil => simp [totL]
  | cons x r ih =>
    have e1 : totL (x :: r) = x.1.length + 2 + totL r := by simp [totL]
    have e2 : wtK (x :: r) = wtK1 x + wtK r := by simp [wtK]
    rw [e1, e2, List.length_cons]
    unfold wtK1
    omega
theorem LBld.kpt1 {W W' : World} {S : Nat → Prop} {base : Nat} {v : Value} {D : List (LkT × Value)} (h : LBld W base v D) (hk : Kpt W W' S) (hn : ∀ k, inK v D k → ¬ S k) : LBld W' base v D :=
  LBld.kpt (S := S) h hk (fun k hk => hn k (.inl hk)) (fun x hx k hk => hn k (.inr ⟨x, hx, hk⟩))
theorem chain_small {D : List (LkT × Value)} {L : List LkT} (e : D.map (fun x => x.1) = L) (hL : L.length ≤ 1048576 ∧ (∀ x ∈ L, x.1.length ≤ 1048576) ∧ L.length + wtK L ≤ 4000000) : D.length ≤ 1048576 ∧ (∀ x ∈ D, x.1.1.length ≤ 1048576) ∧ totD D ≤ 200000000 := by
  have e1 : D.length = L.length := by rw [← e, List.length_map]
  refine ⟨by omega, fun x hx => hL.2.1 x.1 (by rw [← e]; exact List.mem_map_of_mem hx), ?_⟩
  have h1 := totL_wt (L := L)
  rw [totD_L, e]
  omega
theorem markCh_any (v : Value) (D : List (LkT × Value)) (base : Nat) (L : List LkT) (w : World) (h : LBld w base v D) (e : D.map (fun x => x.1) = L) (hL : L.length ≤ 1048576 ∧ (∀ x ∈ L, x.1.length ≤ 1048576) ∧ L.length + wtK L ≤ 4000000) :
    Calls Try.prog 12 #[.agg #[v], .int .i64 1] w fun e w' => e = .returned (.int .i64 (((1 + totL L : Nat)) : Int)) ∧ LBld w' base v (markD 1 D) ∧ Kpt w w' (inK v D) := by
  obtain ⟨h1, h2, h3⟩ := chain_small e hL
  have h4 := markChain_any v D base w h h1 h2 h3
  rw [totD_L, e] at h4
  exact h4
theorem heldCh_any (v : Value) (D : List (LkT × Value)) (base : Nat) (L : List LkT) (w : World) (h : LBld w base v (markD 1 D)) (e : D.map (fun x => x.1) = L) (hL : L.length ≤ 1048576 ∧ (∀ x ∈ L, x.1.length ≤ 1048576) ∧ L.length + wtK L ≤ 4000000) :
    Calls Try.prog 13 #[.agg #[v], .int .i64 1] w fun e w' => e = .returned (.int .i64 (((1 + totL L : Nat)) : Int)) ∧ Below w.heap.size w w' := by
  obtain ⟨h1, h2, h3⟩ := chain_small e hL
  have h4 := heldChain_any v D base w h h1 h2 h3
  rw [totD_L, e] at h4
  exact h4
theorem newL_small (n : Int) : (newL n).length ≤ 1048576 ∧ (∀ x ∈ newL n, x.1.length ≤ 1048576) ∧ (newL n).length + wtK (newL n) ≤ 4000000 := by
  cases h : newB n with
  | false => rw [newL_no h]; simp [wtK]
  | true =>
    have hn : 1 ≤ n ∧ n ≤ 6 := by unfold newB at h; simp only [Bool.and_eq_true, decide_eq_true_eq] at h; exact h
    obtain ⟨k, rfl⟩ : ∃ k : Nat, n = (k : Int) := ⟨n.toNat, by omega⟩
    rw [newL_yes h]
    refine ⟨by simp; omega, fun x hx => ?_, ?_⟩
    · obtain rfl := List.eq_of_mem_replicate hx; simp
    · have e : wtK (List.replicate k (([], 0, 0) : LkT)) = 0 := by
        unfold wtK
        rw [List.map_replicate, List.sum_replicate_nat]
        simp [wtK1, wtP]
      rw [e, List.length_replicate]; omega
end Go.Proofs.Ytacmipcjhbkdcaa
