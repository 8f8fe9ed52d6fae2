import Derived.Test.YtkalkedgoejoeaaZ17
import Derived.Test.YtkalkedgoejoeaaZ10
import Derived.Deep.RegionHeld3
namespace Go.Proofs.Ytkalkedgoejoeaa.readTail
open Go.RowKit

/-- Texts in a row of the call's own. -/
def TxO (w : World) (base : Nat) (v : Value) (R : List (List UInt8)) : Prop := w.ownsRow base 9 1 v R.length (R.map S)
theorem TxO.kept {w w' : World} {base : Nat} {v : Value} {R : List (List UInt8)} (h : TxO w base v R) (hb : Below w.heap.size w w') : TxO w' base v R := own_below h hb
theorem TxO.kpt {w w' : World} {T : Nat → Prop} {base : Nat} {v : Value} {R : List (List UInt8)} (h : TxO w base v R) (hk : Kpt w w' T) (hn : ∀ k, v.ownBlock = some k → ¬ T k) : TxO w' base v R := by
  have hlt := World.ownsRow.lt h
  refine ⟨h.1, ?_⟩
  rcases h.2 with h0 | ⟨g, cap, cur, rfl, h1, h2, h3⟩
  · exact .inl h0
  · exact .inr ⟨g, cap, cur, rfl, h1, (hk.block g (hlt g rfl).2 (hn g rfl)).trans h2, h3⟩
theorem TxO.row {w : World} {base : Nat} {v : Value} {R : List (List UInt8)} (h : TxO w base v R) : Row w v R := row_own h
theorem TxO.shape {w : World} {base : Nat} {v : Value} {R : List (List UInt8)} (h : TxO w base v R) : ∃ a cap, v = .slice a R.length cap := by
  obtain ⟨a, cap, h1, _⟩ := own_sliceC h
  exact ⟨a, cap, h1⟩
theorem chn_cell {W : World} {b : Nat} {v0 : Value} {t : TypeId} (h : W.heap[b]? = some (.cells #[v0] t)) : W.cell? ⟨b, 0, none⟩ = some v0 := by unfold World.cell?; rw [h]; rfl

set_option maxRecDepth 20000 in
set_option maxHeartbeats 16000000 in
theorem core (va : Value) (L : List LkT) (ok : Bool) (R : List (List UInt8)) (w0 : World) (ha : LkRow w0 va L) (hxa : Hid (∀ x ∈ L, KFit x)) (hR : R.length ≤ 1048576)
    (HS0 : Hid (∀ v W, LkRow W v L → Calls Try.prog 36 #[.agg #[v]] W fun e w' => TxAns w' W.heap.size ok R e ∧ Below W.heap.size W w'))
    (HI0 : Hid (∀ v W, LkRow W v L → Calls Try.prog 37 #[.agg #[v]] W fun e w' => TxAns w' W.heap.size ok R e ∧ Below W.heap.size W w')) :
    Calls Try.prog 8 #[ChV va] w0 fun e w' => e = .returned (.bool true) ∧ Below w0.heap.size w0 w' := by
  obtain ⟨aa, ca, hva, _, hca, _⟩ := id ha
  have HSZ : Hid (∀ W, Below w0.heap.size w0 W → Calls Try.prog 14 #[ChV va, .int .i64 1048576] W fun e w' => (∃ q : Int, e = .returned (.int .i64 q) ∧ (q = -1 ∨ (0 ≤ q ∧ q = 1048576 - (L.length : Int) - (wtK L : Int)))) ∧ Below W.heap.size W w') := fun W hW => szChain_any va L 1048576 W (ha.kept hW) hxa (by omega) (by omega)
  have HTO : Hid (L.length ≤ 1048576 → Hid (∀ x ∈ L, KBig x) → ∀ W, Below w0.heap.size w0 W → Calls Try.prog 16 #[ChV va] W fun e w' => (∃ g D, e = .returned (ChV (.slice (some ⟨g, 0, none⟩) L.length L.length)) ∧ W.heap.size ≤ g ∧ D.map (fun x : LkT × Value => x.1) = L ∧ LBld w' W.heap.size (.slice (some ⟨g, 0, none⟩) L.length L.length) D) ∧ Below W.heap.size W w') := fun h1 h2 W hW => toChain_any va L W (ha.kept hW) h1 h2
  subst hva
  clear ha
  unfold ChV at HSZ HTO ⊢
  go_enter Try.func8, Try.ntmps8
  go_wp2_with fail
  refine (HSZ.out _ ((Below.refl w0.heap.size w0).alloc (Nat.le_refl _) _)).mono ?_
  rintro e w1 ⟨⟨q, rfl, hq⟩, hb1⟩
  have hbw_w1 : Below w0.heap.size w0 w1 := ((Below.refl w0.heap.size w0).alloc (Nat.le_refl _) _).trans (hb1.mono (by simp))
  have PX_w1 : Hid (w1.heap[w0.heap.size]? = some (.cells #[.slice aa L.length ca] 32)) := (hb1.block w0.heap.size (by simp)).trans (blk_new _ _)
  have hz1 : w0.heap.size < w1.heap.size := Nat.lt_of_lt_of_le (by simp) hb1.size
  clear hb1
  rcases hq with rfl | ⟨hq0, hqe⟩
  · go_wp2_with fail
    go_ret
    exact ⟨rfl, hbw_w1⟩
  · have hsz := sz_chain hq0 hqe
    have HL2 : Hid (∀ x ∈ L, KBig x) := hsz.2
    have hLW := hsz.1
    have hL : L.length ≤ 1048576 := by omega
    have HSM : Hid (L.length ≤ 1048576 ∧ (∀ x ∈ L, x.1.length ≤ 1048576) ∧ L.length + wtK L ≤ 4000000) := ⟨hL, fun x hx => (HL2.out x hx).1, by omega⟩
    have HT : Hid (∀ W, Below w0.heap.size w0 W → Calls Try.prog 16 #[.agg #[.slice aa L.length ca]] W fun e w' => (∃ g D, e = .returned (.agg #[.slice (some ⟨g, 0, none⟩) L.length L.length]) ∧ W.heap.size ≤ g ∧ D.map (fun x : LkT × Value => x.1) = L ∧ LBld w' W.heap.size (.slice (some ⟨g, 0, none⟩) L.length L.length) D) ∧ Below W.heap.size W w') := HTO.out hL HL2
    have HRW : Hid (∀ W base v D, LBld W base v D → D.map (fun x : LkT × Value => x.1) = L → LkRow W v L) := fun W base v D h e => by have h1 := h.row; rw [e] at h1; exact h1
    have HSP : Hid (∀ v base D W, LBld W base v D → D.map (fun x : LkT × Value => x.1) = L → Calls Try.prog 36 #[.agg #[v]] W fun e w' => TxAns w' W.heap.size ok R e ∧ Below W.heap.size W w') := fun v base D W h e => HS0.out v W (HRW.out _ _ _ _ h e)
    have HI : Hid (∀ v base D W, LBld W base v D → D.map (fun x : LkT × Value => x.1) = L → Calls Try.prog 37 #[.agg #[v]] W fun e w' => TxAns w' W.heap.size ok R e ∧ Below W.heap.size W w') := fun v base D W h e => HI0.out v W (HRW.out _ _ _ _ h e)
    have HEQ : Hid (∀ v1 v2 b1 b2 D1 D2 W, LBld W b1 v1 D1 → LBld W b2 v2 D2 → D1.map (fun x : LkT × Value => x.1) = L → D2.map (fun x : LkT × Value => x.1) = L → Calls Try.prog 11 #[.agg #[v1], .agg #[v2]] W fun e w' => e = .returned (.bool true) ∧ Below W.heap.size W w') := fun v1 v2 b1 b2 D1 D2 W h1 h2 e1 e2 => eqChain_same v1 v2 L W (HRW.out _ _ _ _ h1 e1) (HRW.out _ _ _ _ h2 e2)
    have HMX : Hid (∀ v D base W, LBld W base v D → D.map (fun x : LkT × Value => x.1) = L → Calls Try.prog 12 #[.agg #[v], .int .i64 1] W fun e w' => (∃ pz : Int, e = .returned (.int .i64 pz) ∧ 0 ≤ pz) ∧ Kpt W w' (inK v D)) := fun v D base W h e => (markCh_any v D base L W h e HSM.out).mono fun e w' h2 => ⟨⟨_, h2.1, by omega⟩, h2.2.2⟩
    have HES : Hid (∀ v1 v2 b1 b2 W, TxO W b1 v1 R → TxO W b2 v2 R → Calls Try.prog 33 #[v1, v2] W fun e w' => e = .returned (.bool true) ∧ Below W.heap.size W w') := fun v1 v2 b1 b2 W h1 h2 => by
      have h := eqStringS_any v1 v2 R R W h1.row h2.row
      rw [show (R == R) = true by simp] at h
      exact h
    have HMR : Hid (∀ v base W, TxO W base v R → Calls Try.prog 34 #[v, .int .i64 1] W fun e w' => e = .returned (.int .i64 (((1 : Nat) : Int) + (R.length : Int))) ∧ TxO w' base v (marksK 1 R.length) ∧ Kpt W w' (fun k => v.ownBlock = some k)) := fun v base W h => (markStrK_any v R 1 base W h hR (by omega) (by omega)).mono fun e w' h2 => ⟨h2.1, by unfold TxO; rw [marksK_length]; exact h2.2.1, (grown_kpt h2.2.2).mono (fun k _ hk => hk)⟩
    have HHD : Hid (∀ v base W, TxO W base v (marksK 1 R.length) → Calls Try.prog 35 #[v, .int .i64 1] W fun e w' => e = .returned (.int .i64 (((1 : Nat) : Int) + (R.length : Int))) ∧ Below W.heap.size W w') := fun v base W h => heldStrK_any v R.length 1 W h.row hR (by omega) (by omega)
    obtain ⟨p, hp⟩ : ∃ p : Int, p = ((1 : Nat) : Int) + (R.length : Int) := ⟨_, rfl⟩
    rw [← hp] at HMR HHD
    have hp0 : ¬ p < 0 := by omega
    have hpp : (p != p) = false := by simp
    have e2 : (ok != ok) = false := by simp
    unfold TxAns at HSP HI
    clear hp hqe HTO HI0 HS0 HSZ hsz
    have p0 := chn_cell PX_w1.out
    go_wp2_with fail
    refine (HT.out _ hbw_w1).mono ?_
    rintro e w2 ⟨⟨g1, D1, rfl, _, hd1, hq1⟩, hb2⟩
    clear p0
    have HQ1 : Hid (LBld w2 w1.heap.size (.slice (some ⟨g1, 0, none⟩) L.length L.length) D1) := hq1
    have HD1 : Hid (D1.map (fun x : LkT × Value => x.1) = L) := hd1
    clear hq1 hd1
    have hbw_w2 : Below w0.heap.size w0 w2 := hbw_w1.trans (hb2.mono hbw_w1.size)
    have hz_w2 : w1.heap.size ≤ w2.heap.size := hb2.size
    have PX_w2 : Hid (w2.heap[w0.heap.size]? = some (.cells #[.slice aa L.length ca] 32)) := (hb2.block w0.heap.size (by omega)).trans PX_w1.out
    clear PX_w1 hb2 hbw_w1 
    go_wp2_with fail
    refine (HSP.out _ _ _ _ HQ1.out HD1.out).mono ?_
    rintro e w3 ⟨⟨u0, rfl, ho0⟩, hb3⟩
    obtain ⟨a0, k0, rfl⟩ := TxO.shape ho0
    have HL0 : Hid (∀ k, (Value.slice a0 R.length k0).ownBlock = some k → k < w3.heap.size) := fun k hk => (World.ownsRow.lt ho0 k hk).2
    have HO0_w3 : Hid (TxO w3 w2.heap.size (.slice a0 R.length k0) R) := ho0
    clear ho0 HQ1 HD1
    have hbw_w3 : Below w0.heap.size w0 w3 := hbw_w2.trans (hb3.mono hbw_w2.size)
    have hz_w3 : w2.heap.size ≤ w3.heap.size := hb3.size
    have PX_w3 : Hid (w3.heap[w0.heap.size]? = some (.cells #[.slice aa L.length ca] 32)) := (hb3.block w0.heap.size (by omega)).trans PX_w2.out
    clear PX_w2 hb3 hbw_w2 
    have p0 := chn_cell PX_w3.out
    go_wp2_with fail
    refine (HT.out _ hbw_w3).mono ?_
    rintro e w4 ⟨⟨g3, D3, rfl, hg3, hd3, hq3⟩, hb4⟩
    clear p0
    have HD3 : Hid (D3.map (fun x : LkT × Value => x.1) = L) := hd3
    have HLX : Hid (∀ k, inK (.slice (some ⟨g3, 0, none⟩) L.length L.length) D3 k → w3.heap.size ≤ k ∧ k < w4.heap.size) := fun k h => hq3.inlt k h
    have QX_w4 : Hid (LBld w4 w3.heap.size (.slice (some ⟨g3, 0, none⟩) L.length L.length) D3) := hq3
    clear hd3 hq3
    have hbw_w4 : Below w0.heap.size w0 w4 := hbw_w3.trans (hb4.mono hbw_w3.size)
    have hz_w4 : w3.heap.size ≤ w4.heap.size := hb4.size
    have PX_w4 : Hid (w4.heap[w0.heap.size]? = some (.cells #[.slice aa L.length ca] 32)) := (hb4.block w0.heap.size (by omega)).trans PX_w3.out
    have HO0_w4 : Hid (TxO w4 w2.heap.size (.slice a0 R.length k0) R) := HO0_w3.out.kept hb4
    clear PX_w3 HO0_w3 hb4 hbw_w3 
    have hbA : Below w4.heap.size w4 (w4.alloc (.cells #[.slice (some ⟨g3, 0, none⟩) L.length L.length] 24)) := (Below.refl _ _).alloc (Nat.le_refl _) _
    have hszA : (w4.alloc (.cells #[.slice (some ⟨g3, 0, none⟩) L.length L.length] 24)).heap.size = w4.heap.size + 1 := by simp
    go_wp2_with fail
    refine (HI.out _ _ _ _ (QX_w4.out.kept hbA) HD3.out).mono ?_
    rintro e w5 ⟨⟨u1, rfl, ho1⟩, hb5⟩
    rw [hszA] at ho1
    obtain ⟨a1, k1, rfl⟩ := TxO.shape ho1
    have HL1 : Hid (∀ k, (Value.slice a1 R.length k1).ownBlock = some k → w4.heap.size + 1 ≤ k ∧ k < w5.heap.size) := fun k hk => World.ownsRow.lt ho1 k hk
    have hx5 : w5.heap[w4.heap.size]? = some (.cells #[.slice (some ⟨g3, 0, none⟩) L.length L.length] 24) := (hb5.block w4.heap.size (by simp)).trans (blk_new _ _)
    have hb45 : Below w4.heap.size w4 w5 := hbA.trans (hb5.mono (by simp))
    have hz45 : w4.heap.size < w5.heap.size := Nat.lt_of_lt_of_le (by simp) hb5.size
    clear hbA hszA hb5
    have hbw_w5 : Below w0.heap.size w0 w5 := hbw_w4.trans (hb45.mono hbw_w4.size)
    have hz_w5 : w4.heap.size ≤ w5.heap.size := hb45.size
    have PX_w5 : Hid (w5.heap[w0.heap.size]? = some (.cells #[.slice aa L.length ca] 32)) := (hb45.block w0.heap.size (by omega)).trans PX_w4.out
    have HO0_w5 : Hid (TxO w5 w2.heap.size (.slice a0 R.length k0) R) := HO0_w4.out.kept hb45
    have QX_w5 : Hid (LBld w5 w3.heap.size (.slice (some ⟨g3, 0, none⟩) L.length L.length) D3) := QX_w4.out.kept hb45
    clear PX_w4 HO0_w4 QX_w4 hb45 hbw_w4 
    have HO_w5 : Hid (TxO w5 (w4.heap.size + 1) (.slice a1 R.length k1) R) := ho1
    have BX_w5 : Hid (w5.heap[w4.heap.size]? = some (.cells #[.slice (some ⟨g3, 0, none⟩) L.length L.length] 24)) := hx5
    clear ho1 hx5
    go_wp2_with fail
    refine (HES.out _ _ _ _ _ HO_w5.out HO0_w5.out).mono ?_
    rintro e w6 ⟨rfl, hb6⟩
    have hbw_w6 : Below w0.heap.size w0 w6 := hbw_w5.trans (hb6.mono hbw_w5.size)
    have hz_w6 : w5.heap.size ≤ w6.heap.size := hb6.size
    have PX_w6 : Hid (w6.heap[w0.heap.size]? = some (.cells #[.slice aa L.length ca] 32)) := (hb6.block w0.heap.size (by omega)).trans PX_w5.out
    have HO0_w6 : Hid (TxO w6 w2.heap.size (.slice a0 R.length k0) R) := HO0_w5.out.kept hb6
    have QX_w6 : Hid (LBld w6 w3.heap.size (.slice (some ⟨g3, 0, none⟩) L.length L.length) D3) := QX_w5.out.kept hb6
    have HO_w6 : Hid (TxO w6 (w4.heap.size + 1) (.slice a1 R.length k1) R) := HO_w5.out.kept hb6
    have BX_w6 : Hid (w6.heap[w4.heap.size]? = some (.cells #[.slice (some ⟨g3, 0, none⟩) L.length L.length] 24)) := (hb6.block w4.heap.size (by omega)).trans BX_w5.out
    clear PX_w5 HO0_w5 QX_w5 HO_w5 BX_w5 hb6 hbw_w5 
    have HC : Hid (∀ W, Below w6.heap.size w6 W → (W.cell? ⟨w0.heap.size, 0, none⟩ = some (.slice aa L.length ca)) ∧ (W.cell? ⟨w4.heap.size, 0, none⟩ = some (.slice (some ⟨g3, 0, none⟩) L.length L.length)) ∧ Below w6.heap.size w6 W) := fun W hW =>
      ⟨chn_cell ((hW.block w0.heap.size (by omega)).trans PX_w6.out), chn_cell ((hW.block w4.heap.size (by omega)).trans BX_w6.out), hW⟩
    have HT6 : Hid (∀ W, Below w6.heap.size w6 W → Calls Try.prog 16 #[.agg #[.slice aa L.length ca]] W fun e w' => (∃ g D, e = .returned (.agg #[.slice (some ⟨g, 0, none⟩) L.length L.length]) ∧ W.heap.size ≤ g ∧ D.map (fun x : LkT × Value => x.1) = L ∧ LBld w' W.heap.size (.slice (some ⟨g, 0, none⟩) L.length L.length) D) ∧ Below W.heap.size W w') := fun W hW => HT.out W (hbw_w6.trans (hW.mono hbw_w6.size))
    have HEQ6 : Hid (∀ g base D W, Below w6.heap.size w6 W → LBld W base (.slice (some ⟨g, 0, none⟩) L.length L.length) D → D.map (fun x : LkT × Value => x.1) = L → Calls Try.prog 11 #[.agg #[.slice (some ⟨g3, 0, none⟩) L.length L.length], .agg #[.slice (some ⟨g, 0, none⟩) L.length L.length]] W fun e w' => e = .returned (.bool true) ∧ Below W.heap.size W w') := fun g base D W hW h1 e1 => HEQ.out _ _ _ _ _ _ W (QX_w6.out.kept hW) h1 HD3.out e1
    have HTRN : Hid (∀ W W', Below w6.heap.size w6 W → Below W.heap.size W W' → Below w6.heap.size w6 W') := fun W W' h1 h2 => h1.trans (h2.mono h1.size)
    have hbz : Below w6.heap.size w6 w6 := Below.refl _ _
    have hbd : Below w6.heap.size w6 w6.drew := (Below.refl _ _).drew
    go_wp2_with fail
    go_region_held3 (fun W => (W.cell? ⟨w0.heap.size, 0, none⟩ = some (.slice aa L.length ca)) ∧ (W.cell? ⟨w4.heap.size, 0, none⟩ = some (.slice (some ⟨g3, 0, none⟩) L.length L.length)) ∧ Below w6.heap.size w6 W) (first | exact HC.out _ (by assumption) | exact HC.out _ (Below.drew (by assumption)))
      (first
      | (go_at_call 16; refine (HT6.out _ (by assumption)).mono ?_; rintro e w7 ⟨⟨g5, D5, rfl, _, hd5, hq5⟩, hb7⟩; have hb67 := HTRN.out _ _ (by assumption) hb7)
      | (go_at_call 11; refine (HEQ6.out _ _ _ _ (by assumption) (by assumption) (by assumption)).mono ?_; rintro e w8 ⟨rfl, hb8⟩; have hb68 := HTRN.out _ _ (by assumption) hb8))
    clear hb8 HC HT6 HEQ6 HTRN hbz hbd
    (try clear hb7 hb67 hd5 hq5)
    have hbw_w8 : Below w0.heap.size w0 w8 := hbw_w6.trans (hb68.mono hbw_w6.size)
    have hz_w8 : w6.heap.size ≤ w8.heap.size := hb68.size
    have PX_w8 : Hid (w8.heap[w0.heap.size]? = some (.cells #[.slice aa L.length ca] 32)) := (hb68.block w0.heap.size (by omega)).trans PX_w6.out
    have HO0_w8 : Hid (TxO w8 w2.heap.size (.slice a0 R.length k0) R) := HO0_w6.out.kept hb68
    have QX_w8 : Hid (LBld w8 w3.heap.size (.slice (some ⟨g3, 0, none⟩) L.length L.length) D3) := QX_w6.out.kept hb68
    have HO_w8 : Hid (TxO w8 (w4.heap.size + 1) (.slice a1 R.length k1) R) := HO_w6.out.kept hb68
    have BX_w8 : Hid (w8.heap[w4.heap.size]? = some (.cells #[.slice (some ⟨g3, 0, none⟩) L.length L.length] 24)) := (hb68.block w4.heap.size (by omega)).trans BX_w6.out
    clear PX_w6 HO0_w6 QX_w6 HO_w6 BX_w6 hb68 hbw_w6 
    have x0 := chn_cell BX_w8.out
    go_wp2_with fail
    refine (HMX.out _ _ _ _ QX_w8.out HD3.out).mono ?_
    rintro e w9 ⟨⟨pz, rfl, hpz⟩, hk9'⟩
    clear x0
    have hk9 : Kpt w8 w9 (fun k => w3.heap.size ≤ k ∧ k < w4.heap.size) := hk9'.mono (fun k _ hk => HLX.out k hk)
    have hpz0 : decide (pz < 0) = false := by simp; omega
    clear hk9'
    have hbw_w9 : Below w0.heap.size w0 w9 := hbw_w8.trans (hk9.below hbw_w8.size (fun k hk0 h => by (first | omega | (have q2 := HL0.out _ hg; omega) | (have q2 := HL1.out _ hg; omega))))
    have hz_w9 : w8.heap.size ≤ w9.heap.size := hk9.size
    have PX_w9 : Hid (w9.heap[w0.heap.size]? = some (.cells #[.slice aa L.length ca] 32)) := (hk9.block w0.heap.size (by omega) (fun h => by (first | omega | (have q2 := HL0.out _ hg; omega) | (have q2 := HL1.out _ hg; omega)))).trans PX_w8.out
    have HO0_w9 : Hid (TxO w9 w2.heap.size (.slice a0 R.length k0) R) := HO0_w8.out.kpt hk9 (fun g hg h => by (first | omega | (have q2 := HL0.out _ hg; omega) | (have q2 := HL1.out _ hg; omega)))
    have HO_w9 : Hid (TxO w9 (w4.heap.size + 1) (.slice a1 R.length k1) R) := HO_w8.out.kpt hk9 (fun g hg h => by (first | omega | (have q2 := HL0.out _ hg; omega) | (have q2 := HL1.out _ hg; omega)))
    have BX_w9 : Hid (w9.heap[w4.heap.size]? = some (.cells #[.slice (some ⟨g3, 0, none⟩) L.length L.length] 24)) := (hk9.block w4.heap.size (by omega) (fun h => by (first | omega | (have q2 := HL0.out _ hg; omega) | (have q2 := HL1.out _ hg; omega)))).trans BX_w8.out
    clear PX_w8 HO0_w8 QX_w8 HO_w8 BX_w8 hk9 hbw_w8 
    go_wp2_with fail
    refine (HES.out _ _ _ _ _ HO_w9.out HO0_w9.out).mono ?_
    rintro e w10 ⟨rfl, hb10⟩
    have hbw_w10 : Below w0.heap.size w0 w10 := hbw_w9.trans (hb10.mono hbw_w9.size)
    have hz_w10 : w9.heap.size ≤ w10.heap.size := hb10.size
    have PX_w10 : Hid (w10.heap[w0.heap.size]? = some (.cells #[.slice aa L.length ca] 32)) := (hb10.block w0.heap.size (by omega)).trans PX_w9.out
    have HO0_w10 : Hid (TxO w10 w2.heap.size (.slice a0 R.length k0) R) := HO0_w9.out.kept hb10
    have HO_w10 : Hid (TxO w10 (w4.heap.size + 1) (.slice a1 R.length k1) R) := HO_w9.out.kept hb10
    have BX_w10 : Hid (w10.heap[w4.heap.size]? = some (.cells #[.slice (some ⟨g3, 0, none⟩) L.length L.length] 24)) := (hb10.block w4.heap.size (by omega)).trans BX_w9.out
    clear PX_w9 HO0_w9 HO_w9 BX_w9 hb10 hbw_w9 
    go_wp2_with fail
    refine (HMR.out _ _ _ HO_w10.out).mono ?_
    rintro e w11 ⟨rfl, ho11, hk11⟩
    have HM_w11 : Hid (TxO w11 (w4.heap.size + 1) (.slice a1 R.length k1) (marksK 1 R.length)) := ho11
    clear ho11
    have hbw_w11 : Below w0.heap.size w0 w11 := hbw_w10.trans (hk11.below hbw_w10.size (fun k hk0 h => by (first | (have q1 := HL1.out _ h; omega) | (have q1 := HL1.out _ h; have q2 := HL0.out _ hg; omega))))
    have hz_w11 : w10.heap.size ≤ w11.heap.size := hk11.size
    have PX_w11 : Hid (w11.heap[w0.heap.size]? = some (.cells #[.slice aa L.length ca] 32)) := (hk11.block w0.heap.size (by omega) (fun h => by (first | (have q1 := HL1.out _ h; omega) | (have q1 := HL1.out _ h; have q2 := HL0.out _ hg; omega)))).trans PX_w10.out
    have HO0_w11 : Hid (TxO w11 w2.heap.size (.slice a0 R.length k0) R) := HO0_w10.out.kpt hk11 (fun g hg h => by (first | (have q1 := HL1.out _ h; omega) | (have q1 := HL1.out _ h; have q2 := HL0.out _ hg; omega)))
    have BX_w11 : Hid (w11.heap[w4.heap.size]? = some (.cells #[.slice (some ⟨g3, 0, none⟩) L.length L.length] 24)) := (hk11.block w4.heap.size (by omega) (fun h => by (first | (have q1 := HL1.out _ h; omega) | (have q1 := HL1.out _ h; have q2 := HL0.out _ hg; omega)))).trans BX_w10.out
    clear PX_w10 HO0_w10 HO_w10 BX_w10 hk11 hbw_w10 
    go_wp2_with fail
    refine (HHD.out _ _ _ HM_w11.out).mono ?_
    rintro e w12 ⟨rfl, hb12⟩
    have hbw_w12 : Below w0.heap.size w0 w12 := hbw_w11.trans (hb12.mono hbw_w11.size)
    have hz_w12 : w11.heap.size ≤ w12.heap.size := hb12.size
    have PX_w12 : Hid (w12.heap[w0.heap.size]? = some (.cells #[.slice aa L.length ca] 32)) := (hb12.block w0.heap.size (by omega)).trans PX_w11.out
    have HO0_w12 : Hid (TxO w12 w2.heap.size (.slice a0 R.length k0) R) := HO0_w11.out.kept hb12
    have BX_w12 : Hid (w12.heap[w4.heap.size]? = some (.cells #[.slice (some ⟨g3, 0, none⟩) L.length L.length] 24)) := (hb12.block w4.heap.size (by omega)).trans BX_w11.out
    have HM_w12 : Hid (TxO w12 (w4.heap.size + 1) (.slice a1 R.length k1) (marksK 1 R.length)) := HM_w11.out.kept hb12
    clear PX_w11 HO0_w11 BX_w11 HM_w11 hb12 hbw_w11 
    have p0 := chn_cell PX_w12.out
    go_wp2_with fail
    refine (HT.out _ hbw_w12).mono ?_
    rintro e w13 ⟨⟨g7, D7, rfl, _, hd7, hq7⟩, hb13⟩
    clear p0
    have HQ7 : Hid (LBld w13 w12.heap.size (.slice (some ⟨g7, 0, none⟩) L.length L.length) D7) := hq7
    have HD7 : Hid (D7.map (fun x : LkT × Value => x.1) = L) := hd7
    clear hq7 hd7
    have hbw_w13 : Below w0.heap.size w0 w13 := hbw_w12.trans (hb13.mono hbw_w12.size)
    have hz_w13 : w12.heap.size ≤ w13.heap.size := hb13.size
    have PX_w13 : Hid (w13.heap[w0.heap.size]? = some (.cells #[.slice aa L.length ca] 32)) := (hb13.block w0.heap.size (by omega)).trans PX_w12.out
    have HO0_w13 : Hid (TxO w13 w2.heap.size (.slice a0 R.length k0) R) := HO0_w12.out.kept hb13
    have BX_w13 : Hid (w13.heap[w4.heap.size]? = some (.cells #[.slice (some ⟨g3, 0, none⟩) L.length L.length] 24)) := (hb13.block w4.heap.size (by omega)).trans BX_w12.out
    have HM_w13 : Hid (TxO w13 (w4.heap.size + 1) (.slice a1 R.length k1) (marksK 1 R.length)) := HM_w12.out.kept hb13
    clear PX_w12 HO0_w12 BX_w12 HM_w12 hb13 hbw_w12 
    go_wp2_with fail
    refine (HI.out _ _ _ _ HQ7.out HD7.out).mono ?_
    rintro e w14 ⟨⟨u2, rfl, ho2⟩, hb14⟩
    obtain ⟨a2, k2, rfl⟩ := TxO.shape ho2
    have HO2 : Hid (TxO w14 w13.heap.size (.slice a2 R.length k2) R) := ho2
    clear ho2 HQ7 HD7
    have hbw_w14 : Below w0.heap.size w0 w14 := hbw_w13.trans (hb14.mono hbw_w13.size)
    have hz_w14 : w13.heap.size ≤ w14.heap.size := hb14.size
    have PX_w14 : Hid (w14.heap[w0.heap.size]? = some (.cells #[.slice aa L.length ca] 32)) := (hb14.block w0.heap.size (by omega)).trans PX_w13.out
    have HO0_w14 : Hid (TxO w14 w2.heap.size (.slice a0 R.length k0) R) := HO0_w13.out.kept hb14
    have BX_w14 : Hid (w14.heap[w4.heap.size]? = some (.cells #[.slice (some ⟨g3, 0, none⟩) L.length L.length] 24)) := (hb14.block w4.heap.size (by omega)).trans BX_w13.out
    have HM_w14 : Hid (TxO w14 (w4.heap.size + 1) (.slice a1 R.length k1) (marksK 1 R.length)) := HM_w13.out.kept hb14
    clear PX_w13 HO0_w13 BX_w13 HM_w13 hb14 hbw_w13 
    go_wp2_with fail
    refine (HES.out _ _ _ _ _ HO2.out HO0_w14.out).mono ?_
    rintro e w15 ⟨rfl, hb15⟩
    clear HO2
    have hbw_w15 : Below w0.heap.size w0 w15 := hbw_w14.trans (hb15.mono hbw_w14.size)
    have hz_w15 : w14.heap.size ≤ w15.heap.size := hb15.size
    have PX_w15 : Hid (w15.heap[w0.heap.size]? = some (.cells #[.slice aa L.length ca] 32)) := (hb15.block w0.heap.size (by omega)).trans PX_w14.out
    have HO0_w15 : Hid (TxO w15 w2.heap.size (.slice a0 R.length k0) R) := HO0_w14.out.kept hb15
    have BX_w15 : Hid (w15.heap[w4.heap.size]? = some (.cells #[.slice (some ⟨g3, 0, none⟩) L.length L.length] 24)) := (hb15.block w4.heap.size (by omega)).trans BX_w14.out
    have HM_w15 : Hid (TxO w15 (w4.heap.size + 1) (.slice a1 R.length k1) (marksK 1 R.length)) := HM_w14.out.kept hb15
    clear PX_w14 HO0_w14 BX_w14 HM_w14 hb15 hbw_w14 
    go_wp2_with fail
    refine (HHD.out _ _ _ HM_w15.out).mono ?_
    rintro e w16 ⟨rfl, hb16⟩
    have hbw_w16 : Below w0.heap.size w0 w16 := hbw_w15.trans (hb16.mono hbw_w15.size)
    have hz_w16 : w15.heap.size ≤ w16.heap.size := hb16.size
    have PX_w16 : Hid (w16.heap[w0.heap.size]? = some (.cells #[.slice aa L.length ca] 32)) := (hb16.block w0.heap.size (by omega)).trans PX_w15.out
    have HO0_w16 : Hid (TxO w16 w2.heap.size (.slice a0 R.length k0) R) := HO0_w15.out.kept hb16
    have BX_w16 : Hid (w16.heap[w4.heap.size]? = some (.cells #[.slice (some ⟨g3, 0, none⟩) L.length L.length] 24)) := (hb16.block w4.heap.size (by omega)).trans BX_w15.out
    have HM_w16 : Hid (TxO w16 (w4.heap.size + 1) (.slice a1 R.length k1) (marksK 1 R.length)) := HM_w15.out.kept hb16
    clear PX_w15 HO0_w15 BX_w15 HM_w15 hb16 hbw_w15 
    go_wp2_with fail
    go_ret
    exact ⟨rfl, hbw_w16⟩

theorem walk (va : Value) (L : List LkT) (w : World) (ha : LkRow w va L) (hxa : Hid (∀ x ∈ L, KFit x)) :
    Calls Try.prog 8 #[ChV va] w fun e w' => e = .returned (.bool true) ∧ Below w.heap.size w w' :=
  core va L (chB L) (tailL L) w ha hxa (by
    unfold tailL
    split
    · rename_i h
      have h1 := chB_len h
      have h2 := logB_len (chB_log h (show 0 < L.length by omega))
      have h3 := logB_len (chB_log h (show L.length - 1 < L.length by omega))
      rw [getD_z (by omega)]
      first
        | omega
        | (rw [List.length_take]; omega)
    · simp) (fun v W h => sReadTail_any v L W h) (fun v W h => iReadTail_any v L W h)
end Go.Proofs.Ytkalkedgoejoeaa.readTail
