import Derived.Test.YtkalkedgoejoeaaZ08
import Derived.Test.YtkalkedgoejoeaaZ09
namespace Go.Proofs.Ytkalkedgoejoeaa
open Go.RowKit

/-- A chain and a bool told, in memory of its own. -/
def ChAns (w' : World) (base : Nat) (ok : Bool) (L : List LkT) (e : Ending) : Prop := ∃ v D, e = .returned (.tuple #[ChV v, .bool ok]) ∧ D.map (fun x : LkT × Value => x.1) = L ∧ LBld w' base v D
theorem ChAns.no (w' : World) (base : Nat) : ChAns w' base false [] (.returned (.tuple #[.agg #[.slice none 0 0], .bool false])) := ⟨_, [], rfl, rfl, LBld.nil _ _⟩
/-- What NewChain tells. -/
def newB (n : Int) : Bool := decide (1 ≤ n) && decide (n ≤ 6)
def newL (n : Int) : List LkT := if newB n then List.replicate n.toNat ([], 0, 0) else []
theorem newL_no {n : Int} (h : newB n = false) : newL n = [] := by unfold newL; rw [h]; rfl
theorem newL_yes {k : Nat} (h : newB (k : Int) = true) : newL (k : Int) = List.replicate k ([], 0, 0) := by unfold newL; rw [h]; simp
theorem put1_heap {w : World} {g : Nat} {t : TypeId} {v0 u0 : Value} (h : w.heap[g]? = some (.cells #[u0] t)) : (w.setCell ⟨g, 0, none⟩ v0).heap[g]? = some (.cells #[v0] t) := by
  have e0 := heap_setCell_same _ _ 0 _ _ v0 h
  simpa using e0

set_option maxRecDepth 20000 in
set_option maxHeartbeats 1000000 in
theorem iNewChain_any (n : Int) (w : World) :
    Calls Try.prog 10 #[.int .i64 n] w fun e w' => ChAns w' w.heap.size (newB n) (newL n) e ∧ Below w.heap.size w w' := by
  have HW : Hid (∀ W, Calls Try.prog 39 #[.int .i64 n, .int .i64 1, .int .i64 6] W fun e w' => e = .returned (.bool (newB n)) ∧ w' = W) := fun W => iWithin_anyC _ _ _ W
  obtain ⟨W0, hW0⟩ : ∃ W0, W0 = w.alloc (.cells #[.slice none 0 0] 24) := ⟨_, rfl⟩
  have hb0 : Below w.heap.size w W0 := by rw [hW0]; exact (Below.refl w.heap.size w).alloc (Nat.le_refl _) _
  have hB0 : W0.heap[w.heap.size]? = some (.cells #[.slice none 0 0] 24) := by rw [hW0]; exact blk_new _ _
  have HB0 : Hid (W0.heap[w.heap.size]? = some (.cells #[.slice none 0 0] 24)) := hB0
  have hz0 : w.heap.size < W0.heap.size := by rw [hW0]; simp
  have HW0 : Hid (w.alloc (.cells #[.slice none 0 0] 24) = W0) := hW0.symm
  have r0 := cells_at hB0 0
  have f0 : W0.frozen? ⟨w.heap.size, 0, none⟩ = false := by unfold World.frozen?; rw [hB0]; simp
  simp only [List.getElem?_toArray, List.getElem?_cons_zero] at r0
  cases hg : newB n with
  | false =>
    rw [hg] at HW
    rw [newL_no hg]
    clear hW0 hB0 hg
    go_enter Try.func10, Try.ntmps10
    go_wp2_with fail
    rw [HW0.out]
    refine (HW.out _).mono ?_
    rintro e w1 ⟨rfl, rfl⟩
    go_wp2_with fail
    (try simp only [Exit.inBlock, Exit.then])
    refine bodyPost_ret (results_row_tmp rfl _ _ w.heap.size 24 #[.slice none 0 0] (0, 0) _ (.bool false) rfl rfl ?_ Try.underlying24 rfl (by kernel_rfl)) rfl ⟨ChAns.no _ _, ?_⟩
    · exact put1_heap HB0.out
    · exact hb0.setCell (p := ⟨w.heap.size, 0, none⟩) (Nat.le_refl _) _
  | true =>
    rw [hg] at HW
    have hn : 1 ≤ n ∧ n ≤ 6 := by unfold newB at hg; simp only [Bool.and_eq_true, decide_eq_true_eq] at hg; exact hg
    obtain ⟨k, rfl⟩ : ∃ k : Nat, n = (k : Int) := ⟨n.toNat, by omega⟩
    rw [newL_yes hg]
    obtain ⟨i0, hi, hi0, hi1, hi2⟩ := info_parts info_link
    have hk6 : k ≤ 6 := by omega
    clear hW0 hB0 hg hn
    go_enter Try.func10, Try.ntmps10
    go_wp2_with fail
    rw [HW0.out]
    refine (HW.out _).mono ?_
    rintro e w1 ⟨rfl, rfl⟩
    go_wp2_with (at_make; refine wpList_make_full _ rfl _ _ 22 rfl w1.heap.size 66 i0 (.agg #[.slice none 0 0, .int .i64 0, .int .i64 0]) 3 Try.underlying22 hi hi0 hi1 _ _ _ _ k rfl rfl rfl rfl ?b2 ?b3 ?b4 ?_)
    case b2 => rw [hi2]; omega
    case b3 => unfold maxLen; omega
    case b4 => exact Nat.le_refl _
    intro w2 hown hgrow
    have hb2 : Below w1.heap.size w1 w2 := (Below.refl _ _).grown hgrow (Nat.le_refl _) (fun k h => by cases h)
    have HL : Hid (LBld w2 w1.heap.size (.slice (some ⟨w1.heap.size, 0, none⟩) k k) (List.replicate k (([], 0, 0), .slice none 0 0))) := made_links hown
    have HB2 : Hid (w2.heap[w.heap.size]? = some (.cells #[.slice none 0 0] 24)) := (hb2.block _ hz0).trans HB0.out
    have r2 : w2.cell? ⟨w.heap.size, 0, none⟩ = some (.slice none 0 0) := by rw [hb2.cell (p := ⟨w.heap.size, 0, none⟩) hz0]; exact r0
    have f2 : w2.frozen? ⟨w.heap.size, 0, none⟩ = false := by rw [hb2.frozen (p := ⟨w.heap.size, 0, none⟩) hz0]; exact f0
    have hbw := hb0.trans (hb2.mono hb0.size)
    clear hown hgrow hb2 r0 f0 HB0
    go_wp2_with fail
    (try simp only [Exit.inBlock, Exit.then])
    refine bodyPost_ret (results_row_tmp rfl _ _ w.heap.size 24 #[.slice (some ⟨w1.heap.size, 0, none⟩) k k] (0, 0) _ (.bool true) rfl rfl ?_ Try.underlying24 rfl (by kernel_rfl)) rfl ⟨⟨_, _, rfl, ?_, (HL.out.far (g := w.heap.size) hz0 _).mono (Nat.le_of_lt hz0)⟩, ?_⟩
    · exact put1_heap HB2.out
    · simp
    · exact hbw.setCell (p := ⟨w.heap.size, 0, none⟩) (Nat.le_refl _) _

set_option maxRecDepth 20000 in
set_option maxHeartbeats 1000000 in
theorem sNewChain_any (n : Int) (w : World) :
    Calls Try.prog 9 #[.int .i64 n] w fun e w' => ChAns w' w.heap.size (newB n) (newL n) e ∧ Below w.heap.size w w' := by
  have HW : Hid (∀ W, Calls Try.prog 38 #[.int .i64 n, .int .i64 1, .int .i64 6] W fun e w' => e = .returned (.bool (newB n)) ∧ w' = W) := fun W => l1In_any _ _ _ W
  obtain ⟨W0, hW0⟩ : ∃ W0, W0 = w.alloc (.cells #[.slice none 0 0] 24) := ⟨_, rfl⟩
  have hb0 : Below w.heap.size w W0 := by rw [hW0]; exact (Below.refl w.heap.size w).alloc (Nat.le_refl _) _
  have hB0 : W0.heap[w.heap.size]? = some (.cells #[.slice none 0 0] 24) := by rw [hW0]; exact blk_new _ _
  have HB0 : Hid (W0.heap[w.heap.size]? = some (.cells #[.slice none 0 0] 24)) := hB0
  have hz0 : w.heap.size < W0.heap.size := by rw [hW0]; simp
  have HW0 : Hid (w.alloc (.cells #[.slice none 0 0] 24) = W0) := hW0.symm
  have r0 := cells_at hB0 0
  have f0 : W0.frozen? ⟨w.heap.size, 0, none⟩ = false := by unfold World.frozen?; rw [hB0]; simp
  simp only [List.getElem?_toArray, List.getElem?_cons_zero] at r0
  cases hg : newB n with
  | false =>
    rw [hg] at HW
    rw [newL_no hg]
    clear hW0 hB0 hg
    go_enter Try.func9, Try.ntmps9
    go_wp2_with fail
    rw [HW0.out]
    refine (HW.out _).mono ?_
    rintro e w1 ⟨rfl, rfl⟩
    go_wp2_with fail
    (try simp only [Exit.inBlock, Exit.then])
    refine bodyPost_ret (results_row_tmp rfl _ _ w.heap.size 24 #[.slice none 0 0] (0, 0) _ (.bool false) rfl rfl ?_ Try.underlying24 rfl (by kernel_rfl)) rfl ⟨ChAns.no _ _, ?_⟩
    · exact put1_heap HB0.out
    · exact hb0.setCell (p := ⟨w.heap.size, 0, none⟩) (Nat.le_refl _) _
  | true =>
    rw [hg] at HW
    have hn : 1 ≤ n ∧ n ≤ 6 := by unfold newB at hg; simp only [Bool.and_eq_true, decide_eq_true_eq] at hg; exact hg
    obtain ⟨k, rfl⟩ : ∃ k : Nat, n = (k : Int) := ⟨n.toNat, by omega⟩
    rw [newL_yes hg]
    obtain ⟨i0, hi, hi0, hi1, hi2⟩ := info_parts info_link
    have hk6 : k ≤ 6 := by omega
    clear hW0 hB0 hg hn
    go_enter Try.func9, Try.ntmps9
    go_wp2_with fail
    rw [HW0.out]
    refine (HW.out _).mono ?_
    rintro e w1 ⟨rfl, rfl⟩
    go_wp2_with (at_make; refine wpList_make_full _ rfl _ _ 22 rfl w1.heap.size 66 i0 (.agg #[.slice none 0 0, .int .i64 0, .int .i64 0]) 3 Try.underlying22 hi hi0 hi1 _ _ _ _ k rfl rfl rfl rfl ?b2 ?b3 ?b4 ?_)
    case b2 => rw [hi2]; omega
    case b3 => unfold maxLen; omega
    case b4 => exact Nat.le_refl _
    intro w2 hown hgrow
    have hb2 : Below w1.heap.size w1 w2 := (Below.refl _ _).grown hgrow (Nat.le_refl _) (fun k h => by cases h)
    have HL : Hid (LBld w2 w1.heap.size (.slice (some ⟨w1.heap.size, 0, none⟩) k k) (List.replicate k (([], 0, 0), .slice none 0 0))) := made_links hown
    have HB2 : Hid (w2.heap[w.heap.size]? = some (.cells #[.slice none 0 0] 24)) := (hb2.block _ hz0).trans HB0.out
    have r2 : w2.cell? ⟨w.heap.size, 0, none⟩ = some (.slice none 0 0) := by rw [hb2.cell (p := ⟨w.heap.size, 0, none⟩) hz0]; exact r0
    have f2 : w2.frozen? ⟨w.heap.size, 0, none⟩ = false := by rw [hb2.frozen (p := ⟨w.heap.size, 0, none⟩) hz0]; exact f0
    have hbw := hb0.trans (hb2.mono hb0.size)
    clear hown hgrow hb2 r0 f0 HB0
    go_wp2_with fail
    (try simp only [Exit.inBlock, Exit.then])
    refine bodyPost_ret (results_row_tmp rfl _ _ w.heap.size 24 #[.slice (some ⟨w1.heap.size, 0, none⟩) k k] (0, 0) _ (.bool true) rfl rfl ?_ Try.underlying24 rfl (by kernel_rfl)) rfl ⟨⟨_, _, rfl, ?_, (HL.out.far (g := w.heap.size) hz0 _).mono (Nat.le_of_lt hz0)⟩, ?_⟩
    · exact put1_heap HB2.out
    · simp
    · exact hbw.setCell (p := ⟨w.heap.size, 0, none⟩) (Nat.le_refl _) _
end Go.Proofs.Ytkalkedgoejoeaa

namespace Go.Proofs.Ytkalkedgoejoeaa
open Go.RowKit

/-- How many marks a chain takes. -/
def totL (L : List LkT) : Nat := (L.map (fun x => x.1.length + 2)).sum
theorem totD_L : ∀ D : List (LkT × Value), totD D = totL (D.map (fun x => x.1))
  | [] => rfl
  | x :: r => by rw [totD_cons, totD_L r]; simp [totL]
theorem totL_wt {L : List LkT} : totL L ≤ 2 * L.length + wtK L := by
  induction L with
  | nil => simp [totL]
  | cons x r ih =>
    have e1 : totL (x :: r) = x.1.length + 2 + totL r := by simp [totL]
    have e2 : wtK (x :: r) = wtK1 x + wtK r := by simp [wtK]
    rw [e1, e2, List.length_cons]
    unfold wtK1
    omega
theorem LBld.kpt1 {W W' : World} {S : Nat → Prop} {base : Nat} {v : Value} {D : List (LkT × Value)} (h : LBld W base v D) (hk : Kpt W W' S) (hn : ∀ k, inK v D k → ¬ S k) : LBld W' base v D :=
  LBld.kpt (S := S) h hk (fun k hk => hn k (.inl hk)) (fun x hx k hk => hn k (.inr ⟨x, hx, hk⟩))
theorem chain_small {D : List (LkT × Value)} {L : List LkT} (e : D.map (fun x => x.1) = L) (hL : L.length ≤ 1048576 ∧ (∀ x ∈ L, x.1.length ≤ 1048576) ∧ L.length + wtK L ≤ 4000000) : D.length ≤ 1048576 ∧ (∀ x ∈ D, x.1.1.length ≤ 1048576) ∧ totD D ≤ 200000000 := by
  have e1 : D.length = L.length := by rw [← e, List.length_map]
  refine ⟨by omega, fun x hx => hL.2.1 x.1 (by rw [← e]; exact List.mem_map_of_mem hx), ?_⟩
  have h1 := totL_wt (L := L)
  rw [totD_L, e]
  omega
theorem markCh_any (v : Value) (D : List (LkT × Value)) (base : Nat) (L : List LkT) (w : World) (h : LBld w base v D) (e : D.map (fun x => x.1) = L) (hL : L.length ≤ 1048576 ∧ (∀ x ∈ L, x.1.length ≤ 1048576) ∧ L.length + wtK L ≤ 4000000) :
    Calls Try.prog 12 #[.agg #[v], .int .i64 1] w fun e w' => e = .returned (.int .i64 (((1 + totL L : Nat)) : Int)) ∧ LBld w' base v (markD 1 D) ∧ Kpt w w' (inK v D) := by
  obtain ⟨h1, h2, h3⟩ := chain_small e hL
  have h4 := markChain_any v D base w h h1 h2 h3
  rw [totD_L, e] at h4
  exact h4
theorem heldCh_any (v : Value) (D : List (LkT × Value)) (base : Nat) (L : List LkT) (w : World) (h : LBld w base v (markD 1 D)) (e : D.map (fun x => x.1) = L) (hL : L.length ≤ 1048576 ∧ (∀ x ∈ L, x.1.length ≤ 1048576) ∧ L.length + wtK L ≤ 4000000) :
    Calls Try.prog 13 #[.agg #[v], .int .i64 1] w fun e w' => e = .returned (.int .i64 (((1 + totL L : Nat)) : Int)) ∧ Below w.heap.size w w' := by
  obtain ⟨h1, h2, h3⟩ := chain_small e hL
  have h4 := heldChain_any v D base w h h1 h2 h3
  rw [totD_L, e] at h4
  exact h4
theorem newL_small (n : Int) : (newL n).length ≤ 1048576 ∧ (∀ x ∈ newL n, x.1.length ≤ 1048576) ∧ (newL n).length + wtK (newL n) ≤ 4000000 := by
  cases h : newB n with
  | false => rw [newL_no h]; simp [wtK]
  | true =>
    have hn : 1 ≤ n ∧ n ≤ 6 := by unfold newB at h; simp only [Bool.and_eq_true, decide_eq_true_eq] at h; exact h
    obtain ⟨k, rfl⟩ : ∃ k : Nat, n = (k : Int) := ⟨n.toNat, by omega⟩
    rw [newL_yes h]
    refine ⟨by simp; omega, fun x hx => ?_, ?_⟩
    · obtain rfl := List.eq_of_mem_replicate hx; simp
    · have e : wtK (List.replicate k (([], 0, 0) : LkT)) = 0 := by
        unfold wtK
        rw [List.map_replicate, List.sum_replicate_nat]
        simp [wtK1, wtP]
      rw [e, List.length_replicate]; omega
end Go.Proofs.Ytkalkedgoejoeaa

namespace Go.Proofs.Ytkalkedgoejoeaa.newChain
open Go.RowKit

set_option maxRecDepth 20000 in
set_option maxHeartbeats 8000000 in
theorem core (n : Int) (L : List LkT) (ok : Bool) (w0 : World) (hL : L.length ≤ 1048576 ∧ (∀ x ∈ L, x.1.length ≤ 1048576) ∧ L.length + wtK L ≤ 4000000)
    (HS : Hid (∀ W, Calls Try.prog 9 #[.int .i64 n] W fun e w' => ChAns w' W.heap.size ok L e ∧ Below W.heap.size W w'))
    (HI : Hid (∀ W, Calls Try.prog 10 #[.int .i64 n] W fun e w' => ChAns w' W.heap.size ok L e ∧ Below W.heap.size W w')) :
    Calls Try.prog 3 #[.int .i64 n] w0 fun e w' => e = .returned (.bool true) ∧ Below w0.heap.size w0 w' := by
  have HEQ : Hid (∀ va vb D1 D2 b1 b2 W, LBld W b1 va D1 → LBld W b2 vb D2 → D1.map (fun x => x.1) = L → D2.map (fun x => x.1) = L → Calls Try.prog 11 #[.agg #[va], .agg #[vb]] W fun e w' => e = .returned (.bool true) ∧ Below W.heap.size W w') := fun va vb D1 D2 b1 b2 W h1 h2 e1 e2 => eqChain_same va vb L W (by rw [← e1]; exact h1.row) (by rw [← e2]; exact h2.row)
  have HMK : Hid (∀ v D base W, LBld W base v D → D.map (fun x => x.1) = L → Calls Try.prog 12 #[.agg #[v], .int .i64 1] W fun e w' => e = .returned (.int .i64 (((1 + totL L : Nat)) : Int)) ∧ LBld w' base v (markD 1 D) ∧ Kpt W w' (inK v D)) := fun v D base W h e => markCh_any v D base L W h e hL
  have HHD : Hid (∀ v D base W, LBld W base v (markD 1 D) → D.map (fun x => x.1) = L → Calls Try.prog 13 #[.agg #[v], .int .i64 1] W fun e w' => e = .returned (.int .i64 (((1 + totL L : Nat)) : Int)) ∧ Below W.heap.size W w') := fun v D base W h e => heldCh_any v D base L W h e hL
  obtain ⟨m, hm⟩ : ∃ m : Int, m = (((1 + totL L : Nat)) : Int) := ⟨_, rfl⟩
  rw [← hm] at HMK HHD
  have hm0 : ¬ m < 0 := by omega
  have em : (m != m) = false := by simp
  have e2 : (ok != ok) = false := by simp
  have hbw_w0 : Below w0.heap.size w0 w0 := Below.refl _ _
  unfold ChAns ChV at HS HI
  clear hm
  go_enter Try.func3, Try.ntmps3
  go_wp2_with fail
  refine (HS.out _).mono ?_
  rintro e w1 ⟨⟨v1, D1, rfl, hd1, ho1⟩, hb1⟩
  obtain ⟨a1, c1, rfl, _, _⟩ := ho1.shape
  have HD1 : Hid (D1.map (fun x : LkT × Value => x.1) = L) := hd1
  have HL1 : Hid (∀ k, inK (.slice a1 D1.length c1) D1 k → w0.heap.size ≤ k ∧ k < w1.heap.size) := fun k h => ho1.inlt k h
  have hbw_w1 : Below w0.heap.size w0 w1 := hbw_w0.trans (hb1.mono hbw_w0.size)
  have hz_w1 : w0.heap.size ≤ w1.heap.size := hb1.size
  clear hb1 hd1
  have OA_w1 : Hid (LBld w1 w0.heap.size (.slice a1 D1.length c1) D1) := ho1
  clear ho1
  have hbA : Below w1.heap.size w1 (w1.alloc (.cells #[.slice a1 D1.length c1] 24)) := (Below.refl _ _).alloc (Nat.le_refl _) _
  have hsz : (w1.alloc (.cells #[.slice a1 D1.length c1] 24)).heap.size = w1.heap.size + 1 := by simp
  go_wp2_with fail
  refine (HI.out _).mono ?_
  rintro e w2 ⟨⟨v2, D2, rfl, hd2, ho2⟩, hb2⟩
  obtain ⟨a2, c2, rfl, _, _⟩ := ho2.shape
  have HD2 : Hid (D2.map (fun x : LkT × Value => x.1) = L) := hd2
  rw [hsz] at ho2 hb2
  have hb12 : Below w1.heap.size w1 w2 := hbA.trans (hb2.mono (by simp))
  have hx2 : w2.heap[w1.heap.size]? = some (.cells #[.slice a1 D1.length c1] 24) := (hb2.block w1.heap.size (by omega)).trans (blk_new _ _)
  have HL2 : Hid (∀ k, inK (.slice a2 D2.length c2) D2 k → w1.heap.size + 1 ≤ k ∧ k < w2.heap.size) := fun k h => ho2.inlt k h
  clear hbA hsz hd2 hb2
  have hbw_w2 : Below w0.heap.size w0 w2 := hbw_w1.trans (hb12.mono hbw_w1.size)
  have hz_w2 : w1.heap.size ≤ w2.heap.size := hb12.size
  have OA_w2 : Hid (LBld w2 w0.heap.size (.slice a1 D1.length c1) D1) := OA_w1.out.kept hb12
  clear OA_w1 hb12 hbw_w1 
  have HO_w2 : Hid (LBld w2 (w1.heap.size + 1) (.slice a2 D2.length c2) D2) := ho2
  have B3_w2 : Hid (w2.heap[w1.heap.size]? = some (.cells #[.slice a1 D1.length c1] 24)) := hx2
  have hlt2 : w1.heap.size < w2.heap.size := (Array.getElem?_eq_some_iff.1 hx2).1
  clear ho2 hx2
  have hbA : Below w2.heap.size w2 (w2.alloc (.cells #[.slice a2 D2.length c2] 24)) := (Below.refl _ _).alloc (Nat.le_refl _) _
  have d0 := cells_at B3_w2.out 0
  simp only [List.getElem?_toArray, List.getElem?_cons_zero] at d0
  go_wp2_with fail
  refine (HEQ.out _ _ _ _ _ _ _ (HO_w2.out.kept hbA) (OA_w2.out.kept hbA) HD2.out HD1.out).mono ?_
  rintro e w3 ⟨rfl, hb3⟩
  clear d0
  have hb23 : Below w2.heap.size w2 w3 := hbA.trans (hb3.mono (by simp))
  have hx3 : w3.heap[w2.heap.size]? = some (.cells #[.slice a2 D2.length c2] 24) := (hb3.block w2.heap.size (by simp)).trans (blk_new _ _)
  have hz23 : w2.heap.size < w3.heap.size := Nat.lt_of_lt_of_le (by simp) hb3.size
  clear hb3 hbA
  have hbw_w3 : Below w0.heap.size w0 w3 := hbw_w2.trans (hb23.mono hbw_w2.size)
  have hz_w3 : w2.heap.size ≤ w3.heap.size := hb23.size
  have OA_w3 : Hid (LBld w3 w0.heap.size (.slice a1 D1.length c1) D1) := OA_w2.out.kept hb23
  have HO_w3 : Hid (LBld w3 (w1.heap.size + 1) (.slice a2 D2.length c2) D2) := HO_w2.out.kept hb23
  have B3_w3 : Hid (w3.heap[w1.heap.size]? = some (.cells #[.slice a1 D1.length c1] 24)) := (hb23.block w1.heap.size (by omega)).trans B3_w2.out
  clear OA_w2 HO_w2 B3_w2 hb23 hbw_w2 
  have B5_w3 : Hid (w3.heap[w2.heap.size]? = some (.cells #[.slice a2 D2.length c2] 24)) := hx3
  clear hx3
  have f0 := cells_at B5_w3.out 0
  simp only [List.getElem?_toArray, List.getElem?_cons_zero] at f0
  go_wp2_with fail
  refine (HMK.out _ _ _ _ HO_w3.out HD2.out).mono ?_
  rintro e w4 ⟨rfl, ho4, hk4⟩
  clear f0
  have HM_w4 : Hid (LBld w4 (w1.heap.size + 1) (.slice a2 D2.length c2) (markD 1 D2)) := ho4
  clear ho4
  have hbw_w4 : Below w0.heap.size w0 w4 := hbw_w3.trans (hk4.below hbw_w3.size (fun k hk0 h => by have q2 := HL2.out _ h; omega))
  have hz_w4 : w3.heap.size ≤ w4.heap.size := hk4.size
  have OA_w4 : Hid (LBld w4 w0.heap.size (.slice a1 D1.length c1) D1) := OA_w3.out.kpt1 hk4 (fun g hg h => by have q := HL1.out g hg; have q2 := HL2.out _ h; omega)
  have B3_w4 : Hid (w4.heap[w1.heap.size]? = some (.cells #[.slice a1 D1.length c1] 24)) := (hk4.block w1.heap.size (by omega) (fun h => by have q2 := HL2.out _ h; omega)).trans B3_w3.out
  have B5_w4 : Hid (w4.heap[w2.heap.size]? = some (.cells #[.slice a2 D2.length c2] 24)) := (hk4.block w2.heap.size (by omega) (fun h => by have q2 := HL2.out _ h; omega)).trans B5_w3.out
  clear OA_w3 HO_w3 B3_w3 B5_w3 hk4 hbw_w3 
  have f0 := cells_at B5_w4.out 0
  simp only [List.getElem?_toArray, List.getElem?_cons_zero] at f0
  go_wp2_with fail
  refine (HHD.out _ _ _ _ HM_w4.out HD2.out).mono ?_
  rintro e w5 ⟨rfl, hb5⟩
  clear f0
  have hbw_w5 : Below w0.heap.size w0 w5 := hbw_w4.trans (hb5.mono hbw_w4.size)
  have hz_w5 : w4.heap.size ≤ w5.heap.size := hb5.size
  have OA_w5 : Hid (LBld w5 w0.heap.size (.slice a1 D1.length c1) D1) := OA_w4.out.kept hb5
  have B3_w5 : Hid (w5.heap[w1.heap.size]? = some (.cells #[.slice a1 D1.length c1] 24)) := (hb5.block w1.heap.size (by omega)).trans B3_w4.out
  have B5_w5 : Hid (w5.heap[w2.heap.size]? = some (.cells #[.slice a2 D2.length c2] 24)) := (hb5.block w2.heap.size (by omega)).trans B5_w4.out
  have HM_w5 : Hid (LBld w5 (w1.heap.size + 1) (.slice a2 D2.length c2) (markD 1 D2)) := HM_w4.out.kept hb5
  clear OA_w4 B3_w4 B5_w4 HM_w4 hb5 hbw_w4 
  go_wp2_with fail
  refine (HI.out _).mono ?_
  rintro e w6 ⟨⟨v3, D3, rfl, hd3, ho3⟩, hb6⟩
  obtain ⟨a3, c3, rfl, _, _⟩ := ho3.shape
  have HD3 : Hid (D3.map (fun x : LkT × Value => x.1) = L) := hd3
  have HR_w6 : Hid (LBld w6 w5.heap.size (.slice a3 D3.length c3) D3) := ho3
  clear ho3 hd3
  have hbw_w6 : Below w0.heap.size w0 w6 := hbw_w5.trans (hb6.mono hbw_w5.size)
  have hz_w6 : w5.heap.size ≤ w6.heap.size := hb6.size
  have OA_w6 : Hid (LBld w6 w0.heap.size (.slice a1 D1.length c1) D1) := OA_w5.out.kept hb6
  have B3_w6 : Hid (w6.heap[w1.heap.size]? = some (.cells #[.slice a1 D1.length c1] 24)) := (hb6.block w1.heap.size (by omega)).trans B3_w5.out
  have B5_w6 : Hid (w6.heap[w2.heap.size]? = some (.cells #[.slice a2 D2.length c2] 24)) := (hb6.block w2.heap.size (by omega)).trans B5_w5.out
  have HM_w6 : Hid (LBld w6 (w1.heap.size + 1) (.slice a2 D2.length c2) (markD 1 D2)) := HM_w5.out.kept hb6
  clear OA_w5 B3_w5 B5_w5 HM_w5 hb6 hbw_w5 
  have hbA : Below w6.heap.size w6 (w6.alloc (.cells #[.slice a3 D3.length c3] 24)) := (Below.refl _ _).alloc (Nat.le_refl _) _
  have hlt6 : w1.heap.size < w6.heap.size := by omega
  have d0 := cells_at B3_w6.out 0
  simp only [List.getElem?_toArray, List.getElem?_cons_zero] at d0
  go_wp2_with fail
  refine (HEQ.out _ _ _ _ _ _ _ (HR_w6.out.kept hbA) (OA_w6.out.kept hbA) HD3.out HD1.out).mono ?_
  rintro e w7 ⟨rfl, hb7⟩
  clear d0
  have hb67 : Below w6.heap.size w6 w7 := hbA.trans (hb7.mono (by simp))
  clear hb7 hbA HR_w6
  have hbw_w7 : Below w0.heap.size w0 w7 := hbw_w6.trans (hb67.mono hbw_w6.size)
  have hz_w7 : w6.heap.size ≤ w7.heap.size := hb67.size
  have OA_w7 : Hid (LBld w7 w0.heap.size (.slice a1 D1.length c1) D1) := OA_w6.out.kept hb67
  have B3_w7 : Hid (w7.heap[w1.heap.size]? = some (.cells #[.slice a1 D1.length c1] 24)) := (hb67.block w1.heap.size (by omega)).trans B3_w6.out
  have B5_w7 : Hid (w7.heap[w2.heap.size]? = some (.cells #[.slice a2 D2.length c2] 24)) := (hb67.block w2.heap.size (by omega)).trans B5_w6.out
  have HM_w7 : Hid (LBld w7 (w1.heap.size + 1) (.slice a2 D2.length c2) (markD 1 D2)) := HM_w6.out.kept hb67
  clear OA_w6 B3_w6 B5_w6 HM_w6 hb67 hbw_w6 
  have f0 := cells_at B5_w7.out 0
  simp only [List.getElem?_toArray, List.getElem?_cons_zero] at f0
  go_wp2_with fail
  refine (HHD.out _ _ _ _ HM_w7.out HD2.out).mono ?_
  rintro e w8 ⟨rfl, hb8⟩
  clear f0
  have hbw_w8 : Below w0.heap.size w0 w8 := hbw_w7.trans (hb8.mono hbw_w7.size)
  have hz_w8 : w7.heap.size ≤ w8.heap.size := hb8.size
  have OA_w8 : Hid (LBld w8 w0.heap.size (.slice a1 D1.length c1) D1) := OA_w7.out.kept hb8
  have B3_w8 : Hid (w8.heap[w1.heap.size]? = some (.cells #[.slice a1 D1.length c1] 24)) := (hb8.block w1.heap.size (by omega)).trans B3_w7.out
  have B5_w8 : Hid (w8.heap[w2.heap.size]? = some (.cells #[.slice a2 D2.length c2] 24)) := (hb8.block w2.heap.size (by omega)).trans B5_w7.out
  have HM_w8 : Hid (LBld w8 (w1.heap.size + 1) (.slice a2 D2.length c2) (markD 1 D2)) := HM_w7.out.kept hb8
  clear OA_w7 B3_w7 B5_w7 HM_w7 hb8 hbw_w7 
  go_wp2_with fail
  go_ret
  exact ⟨rfl, hbw_w8⟩
theorem walk (n : Int) (w : World) (_ : -9223372036854775808 ≤ n ∧ n ≤ 9223372036854775807) :
    Calls Try.prog 3 #[.int .i64 n] w fun e w' => e = .returned (.bool true) ∧ Below w.heap.size w w' :=
  core n (newL n) (newB n) w (newL_small n) (fun W => sNewChain_any n W) (fun W => iNewChain_any n W)
end Go.Proofs.Ytkalkedgoejoeaa.newChain
