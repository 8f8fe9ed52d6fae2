import Derived.Test.YtoobaaklklommaaGreatDoorZ23
import Derived.Test.YtoobaaklklommaaGreatDoorZ25
import Derived.Test.YtoobaaklklommaaGreatDoorZ11
import Derived.Deep.RegionWith
import Derived.Deep.RegionHeld3
namespace Go.Proofs.YtoobaaklklommaaGreatDoor
open Go.RowKit

def orI (x y : Int) : Int := if x ≠ 0 then x else y
set_option maxRecDepth 20000 in
set_option maxHeartbeats 1000000 in
theorem or_two (x y : Int) (w : World) (g : Nat) (h0 : w.cell? ⟨g, 0, none⟩ = some (.int .i64 x)) (h1 : w.cell? ⟨g, 1, none⟩ = some (.int .i64 y)) :
    Calls Tryz.prog 218 #[.slice (some ⟨g, 0, none⟩) 2 2] w fun e w' => e = .returned (.int .i64 (orI x y)) ∧ w' = w := by
  by_cases hx : x = 0
  · have HR : Hid (orI x y = y) := if_neg (by rw [hx]; simp)
    subst hx
    go_enter Tryz.func218, Tryz.ntmps218
    go_wp2_with fail
    go_loop [8] (fun i => ∃ k : Nat, k ≤ 2 ∧ i = .int .i64 (k : Int) ∧ Hid (k = 2 → y = 0)) (fun i => 2 - (intOf i).toNat)
    case atStart => exact ⟨0, by omega, rfl, fun h => by omega⟩
    case round =>
      obtain ⟨k, hk, rfl, HK⟩ := hrel
      rcases (show k = 0 ∨ k = 1 ∨ k = 2 by omega) with rfl | rfl | rfl
      · go_wp2_with fail
        go_round
        case rel => exact ⟨1, by omega, rfl, fun h => by omega⟩
        case measure => simp [intOf]
      · by_cases hy : y = 0
        · have HY : Hid (y = 0) := hy
          have ey : (y != 0) = false := by simpa using hy
          clear hy
          go_wp2_with fail
          go_round
          case rel => exact ⟨2, by omega, rfl, fun _ => HY.out⟩
          case measure => simp [intOf]
        · have ey : (y != 0) = true := by simpa using hy
          have ey2 : (y == 0) = false := by simpa using hy
          clear hy
          go_wp2_with fail
          go_ret
          exact ⟨ret_int HR.out.symm, rfl⟩
      · have HY : Hid (y = 0) := HK.out rfl
        go_wp2_with fail
        go_ret
        exact ⟨ret_int (by rw [HR.out, HY.out]), rfl⟩
  · have HR : Hid (orI x y = x) := if_pos hx
    have ex : (x != 0) = true := by simpa using hx
    have ex2 : (x == 0) = false := by simpa using hx
    clear hx
    go_enter Tryz.func218, Tryz.ntmps218
    go_wp2_with fail
    go_loop [8] (fun i => i = .int .i64 0) (fun _ => 0)
    case atStart => rfl
    case round =>
      obtain rfl := hrel
      go_wp2_with fail
      go_ret
      exact ⟨ret_int HR.out.symm, rfl⟩

set_option maxRecDepth 20000 in
set_option maxHeartbeats 400000 in
theorem orderOfNames_any (a b : ByteArray) (w : World) (hE : Env w) :
    Calls Tryz.prog 219 #[.string a, .string b] w fun e w' => e = .returned (.int .i64 (cmpT a.data.toList b.data.toList)) ∧ Below w.heap.size w w' := by
  go_enter Tryz.func219, Tryz.ntmps219
  go_wp2_with fail
  refine (iCompareNames_any a b w hE).mono ?_
  rintro e w1 ⟨rfl, hb⟩
  go_wp2_with fail
  go_ret
  exact ⟨rfl, hb⟩
set_option maxRecDepth 20000 in
set_option maxHeartbeats 400000 in
theorem orderOfData_any (k : Int) (a b : ByteArray) (w : World) (ha : a.size ≤ 1048576) (hb : b.size ≤ 1048576) (hE : EnvR w) :
    Calls Tryz.prog 220 #[.int .i64 k, .string a, .string b] w fun e w' => e = .returned (.int .i64 (Lib.compareBytes ((dataP k a.data.toList).getD []) ((dataP k b.data.toList).getD []))) ∧ Below w.heap.size w w' := by
  have HA : Hid (∀ W, EnvR W → Calls Tryz.prog 246 #[.int .i64 k, .string a] W fun e w' => e = bytesVal (dataP k a.data.toList) ∧ Below W.heap.size W w') := fun W hW => iDataBytes_any k a W ha hW
  have HB : Hid (∀ W, EnvR W → Calls Tryz.prog 246 #[.int .i64 k, .string b] W fun e w' => e = bytesVal (dataP k b.data.toList) ∧ Below W.heap.size W w') := fun W hW => iDataBytes_any k b W hb hW
  unfold bytesVal at HA HB
  obtain ⟨x, hx⟩ : ∃ x, x = (dataP k a.data.toList).getD [] := ⟨_, rfl⟩
  obtain ⟨y, hy⟩ : ∃ y, y = (dataP k b.data.toList).getD [] := ⟨_, rfl⟩
  rw [← hx] at HA
  rw [← hy] at HB
  rw [← hx, ← hy]
  clear hx hy
  go_enter Tryz.func220, Tryz.ntmps220
  go_wp2_with fail
  refine (HA.out w hE).mono ?_
  rintro e w1 ⟨rfl, hb1⟩
  go_wp2_with fail
  refine (HB.out w1 (hE.below hb1)).mono ?_
  rintro e w2 ⟨rfl, hb2⟩
  go_wp2_with fail
  refine (Tryz.strings_Compare _ _ _).mono ?_
  rintro e w3 ⟨rfl, rfl⟩
  rw [show (⟨x.toArray⟩ : ByteArray).data.toList = x from rfl, show (⟨y.toArray⟩ : ByteArray).data.toList = y from rfl]
  go_wp2_with fail
  go_ret
  exact ⟨rfl, hb1.trans (hb2.mono hb1.size)⟩
end Go.Proofs.YtoobaaklklommaaGreatDoor

namespace Go.Proofs.YtoobaaklklommaaGreatDoor
open Go.RowKit

/-- Two boxed records. -/
def boxRR (w : World) (n1 d1 : ByteArray) (t1 l1 : Int) (n2 d2 : ByteArray) (t2 l2 : Int) : World :=
  (w.alloc (.cells #[.string n1, .int .i64 t1, .int .i64 l1, .string d1] 108)).alloc (.cells #[.string n2, .int .i64 t2, .int .i64 l2, .string d2] 108)
/-- What the two boxes read as in every world behind. -/
def In8 (w W : World) (n1 d1 : ByteArray) (t1 l1 : Int) (n2 d2 : ByteArray) (t2 l2 : Int) : Prop :=
  (W.cell? ⟨w.heap.size, 0, none⟩ = some (.string n1) ∧ W.cell? ⟨w.heap.size, 1, none⟩ = some (.int .i64 t1) ∧ W.cell? ⟨w.heap.size, 2, none⟩ = some (.int .i64 l1) ∧ W.cell? ⟨w.heap.size, 3, none⟩ = some (.string d1)) ∧
  (W.cell? ⟨w.heap.size + 1, 0, none⟩ = some (.string n2) ∧ W.cell? ⟨w.heap.size + 1, 1, none⟩ = some (.int .i64 t2) ∧ W.cell? ⟨w.heap.size + 1, 2, none⟩ = some (.int .i64 l2) ∧ W.cell? ⟨w.heap.size + 1, 3, none⟩ = some (.string d2)) ∧ Below w.heap.size w W
theorem in8 {w W : World} {n1 d1 : ByteArray} {t1 l1 : Int} {n2 d2 : ByteArray} {t2 l2 : Int} (h : Below (boxRR w n1 d1 t1 l1 n2 d2 t2 l2).heap.size (boxRR w n1 d1 t1 l1 n2 d2 t2 l2) W) : In8 w W n1 d1 t1 l1 n2 d2 t2 l2 := by
  unfold boxRR at h
  have h2 := box4 h
  have hs : (w.alloc (.cells #[.string n1, .int .i64 t1, .int .i64 l1, .string d1] 108)).heap.size = w.heap.size + 1 := by simp
  have h1 := box4 (w := w) h2.2.2.2.2
  rw [hs] at h2
  exact ⟨⟨h1.1, h1.2.1, h1.2.2.1, h1.2.2.2.1⟩, ⟨h2.1, h2.2.1, h2.2.2.1, h2.2.2.2.1⟩, h1.2.2.2.2⟩

theorem cmpT_good {a b : List UInt8} (h : nameB a = true ∧ nameB b = true) : cmpT a b = cmpR (labelsOf a).reverse (labelsOf b).reverse := by
  unfold cmpT; rw [if_pos]; first | (unfold cmpB; rw [h.1, h.2]; rfl) | (rw [h.1, h.2]; rfl)
theorem cb_zero : ∀ x y : List UInt8, Lib.compareBytes x y = 0 ↔ x = y
  | [], [] => by simp [Lib.compareBytes]
  | [], _ :: _ => by simp [Lib.compareBytes]
  | _ :: _, [] => by simp [Lib.compareBytes]
  | a :: x, b :: y => by
    have ih := cb_zero x y
    unfold Lib.compareBytes
    by_cases h1 : a < b
    · rw [if_pos h1]
      constructor
      · intro h; omega
      · intro h; simp only [List.cons.injEq] at h; rw [h.1] at h1; exact absurd h1 (UInt8.lt_irrefl b)
    · rw [if_neg h1]
      by_cases h2 : b < a
      · rw [if_pos h2]
        constructor
        · intro h; omega
        · intro h; simp only [List.cons.injEq] at h; rw [h.1] at h2; exact absurd h2 (UInt8.lt_irrefl b)
      · rw [if_neg h2, ih]
        have hab : a = b := by
          apply UInt8.toNat_inj.1
          rw [UInt8.lt_iff_toNat_lt] at h1 h2; omega
        simp [hab]
theorem cb_three (x y : List UInt8) : Lib.compareBytes x y = -1 ∨ Lib.compareBytes x y = 0 ∨ Lib.compareBytes x y = 1 := by
  induction x generalizing y with
  | nil => cases y <;> simp [Lib.compareBytes]
  | cons a x ih =>
    cases y with
    | nil => simp [Lib.compareBytes]
    | cons b y =>
      unfold Lib.compareBytes
      split
      · exact .inl rfl
      · split
        · exact .inr (.inr rfl)
        · exact ih y
theorem cb_less {x y : List UInt8} (h : x ≠ y) : lessI (Op.bytesLess x y) = Lib.compareBytes x y := by
  rw [less_cmp]
  have h0 : Lib.compareBytes x y ≠ 0 := fun e => h ((cb_zero x y).1 e)
  unfold lessI
  rcases cb_three x y with e | e | e
  · rw [e]; rfl
  · exact absurd e h0
  · rw [e]; rfl
theorem ci_less {x y : Int} (h : x ≠ y) : lessI (decide (x < y)) = Lib.compareInt x y := by
  unfold lessI Lib.compareInt
  by_cases h1 : x < y
  · rw [if_pos h1, decide_eq_true h1]; rfl
  · rw [decide_eq_false h1, if_neg h1, if_pos (show x > y by omega)]; rfl
theorem ci_zero (x y : Int) : Lib.compareInt x y = 0 ↔ x = y := by
  unfold Lib.compareInt; split
  · constructor <;> intro h <;> omega
  · split
    · constructor <;> intro h <;> omega
    · constructor
      · intro _; omega
      · intro _; rfl
/-- What orderOfRecords reckons. -/
def ordA (n1 : List UInt8) (t1 : Int) (n2 : List UInt8) (t2 : Int) : Int := orI (cmpT n1 n2) (Lib.compareInt t1 t2)
def ordB (t1 l1 : Int) (d1 : List UInt8) (l2 : Int) (d2 : List UInt8) : Int := orI (Lib.compareBytes ((dataP t1 d1).getD []) ((dataP t1 d2).getD [])) (Lib.compareInt l1 l2)
def ordR (n1 : List UInt8) (t1 l1 : Int) (d1 : List UInt8) (n2 : List UInt8) (t2 l2 : Int) (d2 : List UInt8) : Int :=
  if ordA n1 t1 n2 t2 ≠ 0 then ordA n1 t1 n2 t2 else ordB t1 l1 d1 l2 d2
theorem ord_cmp {n1 n2 d1 d2 : List UInt8} {t1 l1 t2 l2 : Int} (h : nameB n1 = true ∧ nameB n2 = true) : ordR n1 t1 l1 d1 n2 t2 l2 d2 = cmpRec n1 t1 l1 d1 n2 t2 l2 d2 := by
  unfold ordR cmpRec ordA ordB orI
  rw [cmpT_good h]
  by_cases hc : cmpR (labelsOf n1).reverse (labelsOf n2).reverse = 0
  · rw [hc]
    simp only [ne_eq, not_true_eq_false, if_false]
    by_cases ht : t1 = t2
    · subst ht
      rw [show Lib.compareInt t1 t1 = 0 from (ci_zero t1 t1).2 rfl]
      simp only [not_true_eq_false, if_false]
      by_cases hd : (dataP t1 d1).getD [] = (dataP t1 d2).getD []
      · rw [(cb_zero _ _).2 hd]
        simp only [not_true_eq_false, if_false, hd]
        by_cases hl : l1 = l2
        · subst hl; rw [(ci_zero l1 l1).2 rfl]; simp
        · simp only [hl, not_false_eq_true, if_true]; exact (ci_less hl).symm
      · rw [if_pos (fun e => hd ((cb_zero _ _).1 e)), if_pos hd, cb_less hd]
    · rw [if_pos (fun e => ht ((ci_zero _ _).1 e)), if_pos ht, ci_less ht]
  · simp only [ne_eq, hc, not_false_eq_true, if_true]

end Go.Proofs.YtoobaaklklommaaGreatDoor

namespace Go.Proofs.YtoobaaklklommaaGreatDoor
open Go.RowKit

set_option maxRecDepth 20000 in
set_option maxHeartbeats 4000000 in
theorem orderOfRecords_any (n1 d1 : ByteArray) (t1 l1 : Int) (n2 d2 : ByteArray) (t2 l2 : Int) (w : World) (h1 : d1.size ≤ 1048576) (h2 : d2.size ≤ 1048576) (hE : EnvR w) :
    Calls Tryz.prog 189 #[RecV n1 t1 l1 d1, RecV n2 t2 l2 d2] w fun e w' => e = .returned (.int .i64 (ordR n1.data.toList t1 l1 d1.data.toList n2.data.toList t2 l2 d2.data.toList)) ∧ Below w.heap.size w w' := by
  unfold RecV
  have HN : Hid (∀ W, EnvR W → Calls Tryz.prog 219 #[.string n1, .string n2] W fun e w' => e = .returned (.int .i64 (cmpT n1.data.toList n2.data.toList)) ∧ Below W.heap.size W w') := fun W hW => orderOfNames_any n1 n2 W hW.1
  have HD : Hid (∀ W, EnvR W → Calls Tryz.prog 220 #[.int .i64 t1, .string d1, .string d2] W fun e w' => e = .returned (.int .i64 (Lib.compareBytes ((dataP t1 d1.data.toList).getD []) ((dataP t1 d2.data.toList).getD []))) ∧ Below W.heap.size W w') := fun W hW => orderOfData_any t1 d1 d2 W h1 h2 hW
  have HCT : Hid (∀ W, Calls Tryz.prog 134 #[.int .i64 t1, .int .i64 t2] W fun e w' => e = .returned (.int .i64 (Lib.compareInt t1 t2)) ∧ w' = W) := fun W => Tryz.cmp_Compare_int t1 t2 W
  have HCL : Hid (∀ W, Calls Tryz.prog 134 #[.int .i64 l1, .int .i64 l2] W fun e w' => e = .returned (.int .i64 (Lib.compareInt l1 l2)) ∧ w' = W) := fun W => Tryz.cmp_Compare_int l1 l2 W
  have HRR : Hid (ordR n1.data.toList t1 l1 d1.data.toList n2.data.toList t2 l2 d2.data.toList = if orI (cmpT n1.data.toList n2.data.toList) (Lib.compareInt t1 t2) ≠ 0 then orI (cmpT n1.data.toList n2.data.toList) (Lib.compareInt t1 t2) else orI (Lib.compareBytes ((dataP t1 d1.data.toList).getD []) ((dataP t1 d2.data.toList).getD [])) (Lib.compareInt l1 l2)) := rfl
  obtain ⟨a, ha⟩ : ∃ a, a = cmpT n1.data.toList n2.data.toList := ⟨_, rfl⟩
  obtain ⟨b, hb⟩ : ∃ b, b = Lib.compareInt t1 t2 := ⟨_, rfl⟩
  obtain ⟨c, hc⟩ : ∃ c, c = Lib.compareBytes ((dataP t1 d1.data.toList).getD []) ((dataP t1 d2.data.toList).getD []) := ⟨_, rfl⟩
  obtain ⟨d, hd⟩ : ∃ d, d = Lib.compareInt l1 l2 := ⟨_, rfl⟩
  rw [← ha, ← hb, ← hc, ← hd] at HRR
  rw [← ha] at HN
  rw [← hb] at HCT
  rw [← hc] at HD
  rw [← hd] at HCL
  obtain ⟨W0, hW0⟩ : ∃ W0, W0 = boxRR w n1 d1 t1 l1 n2 d2 t2 l2 := ⟨_, rfl⟩
  have HX : Hid (∀ W, Below W0.heap.size W0 W → In8 w W n1 d1 t1 l1 n2 d2 t2 l2) := fun W h => by rw [hW0] at h; exact in8 h
  have HW0 : Hid ((w.alloc (.cells #[.string n1, .int .i64 t1, .int .i64 l1, .string d1] 108)).alloc (.cells #[.string n2, .int .i64 t2, .int .i64 l2, .string d2] 108) = W0) := hW0.symm
  have HTR : Hid (∀ W W', Below W0.heap.size W0 W → Below W.heap.size W W' → Below W0.heap.size W0 W') := fun W W' h1 h2 => h1.trans (h2.mono h1.size)
  have HOR : ∀ (x y : Int) (W : World), Calls Tryz.prog 218 #[.slice (some ⟨W.heap.size, 0, none⟩) 2 2] (W.alloc (.cells #[.int .i64 x, .int .i64 y] 3)) fun e w' => e = .returned (.int .i64 (orI x y)) ∧ w' = W.alloc (.cells #[.int .i64 x, .int .i64 y] 3) := fun x y W => or_two x y _ W.heap.size (by simp) (by simp)
  have HOA0 := HOR a b
  have HOB0 := HOR c d
  obtain ⟨o, ho⟩ : ∃ o, o = orI a b := ⟨_, rfl⟩
  obtain ⟨p, hp⟩ : ∃ p, p = orI c d := ⟨_, rfl⟩
  rw [← ho, ← hp] at HRR
  rw [← ho] at HOA0
  rw [← hp] at HOB0
  have HOA : Hid (∀ W : World, Calls Tryz.prog 218 #[.slice (some ⟨W.heap.size, 0, none⟩) 2 2] (W.alloc (.cells #[.int .i64 a, .int .i64 b] 3)) fun e w' => e = .returned (.int .i64 o) ∧ w' = W.alloc (.cells #[.int .i64 a, .int .i64 b] 3)) := HOA0
  have HOB : Hid (∀ W : World, Calls Tryz.prog 218 #[.slice (some ⟨W.heap.size, 0, none⟩) 2 2] (W.alloc (.cells #[.int .i64 c, .int .i64 d] 3)) fun e w' => e = .returned (.int .i64 p) ∧ w' = W.alloc (.cells #[.int .i64 c, .int .i64 d] 3)) := HOB0
  have HS2 : Hid (∀ W, Below W0.heap.size W0 W → Below W0.heap.size W0 W ∧ W.cell? ⟨w.heap.size, 1, none⟩ = some (.int .i64 t1) ∧ W.cell? ⟨w.heap.size, 3, none⟩ = some (.string d1) ∧ W.cell? ⟨w.heap.size + 1, 3, none⟩ = some (.string d2) ∧ W.cell? ⟨w.heap.size, 2, none⟩ = some (.int .i64 l1) ∧ W.cell? ⟨w.heap.size + 1, 2, none⟩ = some (.int .i64 l2)) := fun W h => by
    have c8 := HX.out W h
    unfold In8 at c8
    exact ⟨h, c8.1.2.1, c8.1.2.2.2, c8.2.1.2.2.2, c8.1.2.2.1, c8.2.1.2.2.1⟩
  have HBA : Hid (∀ W (x y : Int), Below W0.heap.size W0 W → Below W0.heap.size W0 (W.alloc (.cells #[.int .i64 x, .int .i64 y] 3))) := fun W x y h => h.alloc h.size _
  have HBW : Hid (∀ W, Below W0.heap.size W0 W → Below w.heap.size w W) := fun W h => by
    have c8 := HX.out W h
    unfold In8 at c8
    exact c8.2.2
  have HS : Hid (∀ W, Below W0.heap.size W0 W → Below W0.heap.size W0 W ∧ W.cell? ⟨w.heap.size, 0, none⟩ = some (.string n1) ∧ W.cell? ⟨w.heap.size, 1, none⟩ = some (.int .i64 t1) ∧ W.cell? ⟨w.heap.size + 1, 0, none⟩ = some (.string n2) ∧ W.cell? ⟨w.heap.size + 1, 1, none⟩ = some (.int .i64 t2)) := fun W h => by
    have c8 := HX.out W h
    unfold In8 at c8
    exact ⟨h, c8.1.1, c8.1.2.1, c8.2.1.1, c8.2.1.2.1⟩
  have hbz : Below W0.heap.size W0 W0 := Below.refl _ _
  have hb0 : Below W0.heap.size W0 W0.drew := (Below.refl _ _).drew
  clear HOR HOA0 HOB0 ho hp
  clear ha hb hc hd hW0
  by_cases hz : o = 0
  · have HR : Hid (ordR n1.data.toList t1 l1 d1.data.toList n2.data.toList t2 l2 d2.data.toList = p) := by rw [HRR.out]; exact if_neg (by rw [hz]; simp)
    have eo : (o != 0) = false := by simpa using hz
    have eo2 : (o == 0) = true := by simpa using hz
    clear hz HRR
    go_enter Tryz.func189, Tryz.ntmps189
    go_wp2_with fail
    rw [HW0.out]
    go_region_held3 (fun W => Below W0.heap.size W0 W ∧ W.cell? ⟨w.heap.size, 0, none⟩ = some (.string n1) ∧ W.cell? ⟨w.heap.size, 1, none⟩ = some (.int .i64 t1) ∧ W.cell? ⟨w.heap.size + 1, 0, none⟩ = some (.string n2) ∧ W.cell? ⟨w.heap.size + 1, 1, none⟩ = some (.int .i64 t2)) (first | exact HS.out _ (by assumption) | exact HS.out _ (Below.drew (by assumption)) | exact HS.out _ (Below.alloc (by assumption) (Below.size (by assumption)) _))
      (first
      | (go_at_call 219; refine (HN.out _ (hE.below (HX.out _ (by assumption)).2.2)).mono ?_; rintro e w5 ⟨rfl, hb5⟩; have hb6 := HTR.out _ _ (by assumption) hb5)
      | (go_at_call 134; refine (HCT.out _).mono ?_; rintro e w6 ⟨rfl, rfl⟩)
      | (go_at_call 218; refine (HOA.out _).mono ?_; rintro e w7 ⟨rfl, rfl⟩))
    all_goals
      have hbA := HBA.out _ a b hb6
      obtain ⟨W1, hW1, hbW1⟩ : ∃ W1, W1 = _ ∧ Below W0.heap.size W0 W1 := ⟨_, rfl, hbA⟩
      rw [← hW1]
      clear hW1 hbA hb6 hb5
      have hbd1 := hbW1.drew
      go_wp2_with fail
      go_region_held3 (fun W => Below W0.heap.size W0 W ∧ W.cell? ⟨w.heap.size, 1, none⟩ = some (.int .i64 t1) ∧ W.cell? ⟨w.heap.size, 3, none⟩ = some (.string d1) ∧ W.cell? ⟨w.heap.size + 1, 3, none⟩ = some (.string d2) ∧ W.cell? ⟨w.heap.size, 2, none⟩ = some (.int .i64 l1) ∧ W.cell? ⟨w.heap.size + 1, 2, none⟩ = some (.int .i64 l2)) (first | exact HS2.out _ (by assumption) | exact HS2.out _ (Below.drew (by assumption)) | exact HS2.out _ (Below.alloc (by assumption) (Below.size (by assumption)) _))
        (first
        | (go_at_call 220; refine (HD.out _ (hE.below (HX.out _ (by assumption)).2.2)).mono ?_; rintro e w8 ⟨rfl, hb8⟩; have hb9 := HTR.out _ _ (by assumption) hb8)
        | (go_at_call 134; refine (HCL.out _).mono ?_; rintro e w9 ⟨rfl, rfl⟩)
        | (go_at_call 218; refine (HOB.out _).mono ?_; rintro e w10 ⟨rfl, rfl⟩))
      all_goals
        have hbB := HBA.out _ c d hb9
        go_wp2_with fail
        go_ret
        exact ⟨ret_int HR.out.symm, HBW.out _ hbB⟩
  · have HR : Hid (ordR n1.data.toList t1 l1 d1.data.toList n2.data.toList t2 l2 d2.data.toList = o) := by rw [HRR.out]; exact if_pos hz
    have eo : (o != 0) = true := by simpa using hz
    have eo2 : (o == 0) = false := by simpa using hz
    clear hz HRR
    go_enter Tryz.func189, Tryz.ntmps189
    go_wp2_with fail
    rw [HW0.out]
    go_region_held3 (fun W => Below W0.heap.size W0 W ∧ W.cell? ⟨w.heap.size, 0, none⟩ = some (.string n1) ∧ W.cell? ⟨w.heap.size, 1, none⟩ = some (.int .i64 t1) ∧ W.cell? ⟨w.heap.size + 1, 0, none⟩ = some (.string n2) ∧ W.cell? ⟨w.heap.size + 1, 1, none⟩ = some (.int .i64 t2)) (first | exact HS.out _ (by assumption) | exact HS.out _ (Below.drew (by assumption)) | exact HS.out _ (Below.alloc (by assumption) (Below.size (by assumption)) _))
      (first
      | (go_at_call 219; refine (HN.out _ (hE.below (HX.out _ (by assumption)).2.2)).mono ?_; rintro e w5 ⟨rfl, hb5⟩; have hb6 := HTR.out _ _ (by assumption) hb5)
      | (go_at_call 134; refine (HCT.out _).mono ?_; rintro e w6 ⟨rfl, rfl⟩)
      | (go_at_call 218; refine (HOA.out _).mono ?_; rintro e w7 ⟨rfl, rfl⟩))
    all_goals
      have hbA := HBA.out _ a b hb6
      go_wp2_with fail
      go_ret
      exact ⟨ret_int HR.out.symm, HBW.out _ hbA⟩
end Go.Proofs.YtoobaaklklommaaGreatDoor

namespace Go.Proofs.YtoobaaklklommaaGreatDoor
open Go.RowKit

set_option maxRecDepth 20000 in
set_option maxHeartbeats 4000000 in
theorem l3Compare_any (n1 d1 : ByteArray) (t1 l1 : Int) (n2 d2 : ByteArray) (t2 l2 : Int) (w : World) (hn1 : n1.size ≤ 1048576) (hn2 : n2.size ≤ 1048576) (h1 : d1.size ≤ 1048576) (h2 : d2.size ≤ 1048576)
    (hN : Hid (nameB n1.data.toList = true ∧ nameB n2.data.toList = true)) (hD : Hid ((dataP t1 d1.data.toList).isSome = true ∧ (dataP t2 d2.data.toList).isSome = true)) :
    Calls Tryz.prog 152 #[RecV n1 t1 l1 d1, RecV n2 t2 l2 d2] w fun e w' => e = .returned (.int .i64 (cmpRec n1.data.toList t1 l1 d1.data.toList n2.data.toList t2 l2 d2.data.toList)) ∧ Below w.heap.size w w' := by
  unfold RecV
  have HC : Hid (∀ W, Calls Tryz.prog 184 #[.string n1, .string n2] W fun e w' => e = .returned (.int .i64 (cmpR (labelsOf n1.data.toList).reverse (labelsOf n2.data.toList).reverse)) ∧ Below W.heap.size W w') := fun W => l1Compare_any n1 n2 W (by omega) (by omega) hN
  have HB1 : Hid (∀ W, Calls Tryz.prog 141 #[.int .i64 t1, .string d1] W fun e w' => e = .returned (.tuple #[.string ⟨((dataP t1 d1.data.toList).getD []).toArray⟩, .bool true]) ∧ Below W.heap.size W w') := fun W => (l3Bytes_any t1 d1 W h1).mono fun e w' h => by
    obtain ⟨⟨x, rfl, hx⟩, hb⟩ := h
    rw [hx _ (some_of hD.out.1), hD.out.1]; exact ⟨rfl, hb⟩
  have HB2 : Hid (∀ W, Calls Tryz.prog 141 #[.int .i64 t2, .string d2] W fun e w' => e = .returned (.tuple #[.string ⟨((dataP t2 d2.data.toList).getD []).toArray⟩, .bool true]) ∧ Below W.heap.size W w') := fun W => (l3Bytes_any t2 d2 W h2).mono fun e w' h => by
    obtain ⟨⟨x, rfl, hx⟩, hb⟩ := h
    rw [hx _ (some_of hD.out.2), hD.out.2]; exact ⟨rfl, hb⟩
  have HR : Hid (cmpRec n1.data.toList t1 l1 d1.data.toList n2.data.toList t2 l2 d2.data.toList = if cmpR (labelsOf n1.data.toList).reverse (labelsOf n2.data.toList).reverse ≠ 0 then cmpR (labelsOf n1.data.toList).reverse (labelsOf n2.data.toList).reverse else if t1 ≠ t2 then lessI (decide (t1 < t2)) else if (dataP t1 d1.data.toList).getD [] ≠ (dataP t2 d2.data.toList).getD [] then lessI (Op.bytesLess ((dataP t1 d1.data.toList).getD []) ((dataP t2 d2.data.toList).getD [])) else if l1 ≠ l2 then lessI (decide (l1 < l2)) else 0) := rfl
  obtain ⟨c, hc⟩ : ∃ c, c = cmpR (labelsOf n1.data.toList).reverse (labelsOf n2.data.toList).reverse := ⟨_, rfl⟩
  obtain ⟨x, hx⟩ : ∃ x, x = (dataP t1 d1.data.toList).getD [] := ⟨_, rfl⟩
  obtain ⟨y, hy⟩ : ∃ y, y = (dataP t2 d2.data.toList).getD [] := ⟨_, rfl⟩
  rw [← hc, ← hx, ← hy] at HR
  rw [← hc] at HC
  rw [← hx] at HB1
  rw [← hy] at HB2
  obtain ⟨W0, hW0⟩ : ∃ W0, W0 = boxRR w n1 d1 t1 l1 n2 d2 t2 l2 := ⟨_, rfl⟩
  have HX : Hid (∀ W, Below W0.heap.size W0 W → In8 w W n1 d1 t1 l1 n2 d2 t2 l2) := fun W h => by rw [hW0] at h; exact in8 h
  unfold In8 at HX
  have HW0 : Hid ((w.alloc (.cells #[.string n1, .int .i64 t1, .int .i64 l1, .string d1] 108)).alloc (.cells #[.string n2, .int .i64 t2, .int .i64 l2, .string d2] 108) = W0) := hW0.symm
  have HTR : Hid (∀ W W', Below W0.heap.size W0 W → Below W.heap.size W W' → Below W0.heap.size W0 W') := fun W W' h1 h2 => h1.trans (h2.mono h1.size)
  have hb0 : Below W0.heap.size W0 W0 := Below.refl _ _
  clear hc hx hy hW0 hN hD
  by_cases hz : c = 0
  · have ez : (c != 0) = false := by simpa using hz
    have ez2 : (c == 0) = true := by simpa using hz
    rw [if_neg (by rw [hz]; simp)] at HR
    clear hz
    by_cases ht : t1 = t2
    · have et : (t1 != t2) = false := by simpa using ht
      have et2 : (t1 == t2) = true := by simpa using ht
      rw [if_neg (by rw [ht]; simp)] at HR
      clear ht
      by_cases hx : x = y
      · have ex : (x != y) = false := by simpa using hx
        have ex2 : (x == y) = true := by simpa using hx
        rw [if_neg (by rw [hx]; simp)] at HR
        clear hx
        by_cases hl : l1 = l2
        · have el : (l1 != l2) = false := by simpa using hl
          have el2 : (l1 == l2) = true := by simpa using hl
          rw [if_neg (by rw [hl]; simp)] at HR
          clear hl
          go_enter Tryz.func152, Tryz.ntmps152
          go_wp2_with fail
          rw [HW0.out]
          refine (HC.out _).mono ?_
          rintro e w1 ⟨rfl, hb1⟩
          obtain ⟨⟨c0, c1, c2, c3⟩, ⟨e0, e1, e2, e3⟩, hbw⟩ := HX.out w1 hb1
          go_wp2_with fail
          refine (HB1.out _).mono ?_
          rintro e w2 ⟨rfl, hb2⟩
          have hb12 := HTR.out _ _ hb1 hb2
          clear c0 c1 c2 c3 e0 e1 e2 e3 hbw hb1 hb2
          obtain ⟨⟨c0, c1, c2, c3⟩, ⟨e0, e1, e2, e3⟩, hbw⟩ := HX.out w2 hb12
          go_wp2_with fail
          refine (HB2.out _).mono ?_
          rintro e w3 ⟨rfl, hb3⟩
          have hb13 := HTR.out _ _ hb12 hb3
          clear c0 c1 c2 c3 e0 e1 e2 e3 hbw hb12 hb3
          obtain ⟨⟨c0, c1, c2, c3⟩, ⟨e0, e1, e2, e3⟩, hbw⟩ := HX.out w3 hb13
          clear hb13
          go_wp2_with fail
          go_ret
          exact ⟨ret_int HR.out.symm, hbw⟩
        · have el : (l1 != l2) = true := by simpa using hl
          have el2 : (l1 == l2) = false := by simpa using hl
          rw [if_pos hl] at HR
          clear hl
          go_enter Tryz.func152, Tryz.ntmps152
          go_wp2_with fail
          rw [HW0.out]
          refine (HC.out _).mono ?_
          rintro e w1 ⟨rfl, hb1⟩
          obtain ⟨⟨c0, c1, c2, c3⟩, ⟨e0, e1, e2, e3⟩, hbw⟩ := HX.out w1 hb1
          go_wp2_with fail
          refine (HB1.out _).mono ?_
          rintro e w2 ⟨rfl, hb2⟩
          have hb12 := HTR.out _ _ hb1 hb2
          clear c0 c1 c2 c3 e0 e1 e2 e3 hbw hb1 hb2
          obtain ⟨⟨c0, c1, c2, c3⟩, ⟨e0, e1, e2, e3⟩, hbw⟩ := HX.out w2 hb12
          go_wp2_with fail
          refine (HB2.out _).mono ?_
          rintro e w3 ⟨rfl, hb3⟩
          have hb13 := HTR.out _ _ hb12 hb3
          clear c0 c1 c2 c3 e0 e1 e2 e3 hbw hb12 hb3
          obtain ⟨⟨c0, c1, c2, c3⟩, ⟨e0, e1, e2, e3⟩, hbw⟩ := HX.out w3 hb13
          clear hb13
          go_wp2_with fail
          refine (l3Less_any _ _).mono ?_
          rintro e w4 ⟨rfl, rfl⟩
          go_wp2_with fail
          go_ret
          exact ⟨ret_int HR.out.symm, hbw⟩
      · have ex : (x != y) = true := by simpa using hx
        have ex2 : (x == y) = false := by simpa using hx
        rw [if_pos hx] at HR
        clear hx
        go_enter Tryz.func152, Tryz.ntmps152
        go_wp2_with fail
        rw [HW0.out]
        refine (HC.out _).mono ?_
        rintro e w1 ⟨rfl, hb1⟩
        obtain ⟨⟨c0, c1, c2, c3⟩, ⟨e0, e1, e2, e3⟩, hbw⟩ := HX.out w1 hb1
        go_wp2_with fail
        refine (HB1.out _).mono ?_
        rintro e w2 ⟨rfl, hb2⟩
        have hb12 := HTR.out _ _ hb1 hb2
        clear c0 c1 c2 c3 e0 e1 e2 e3 hbw hb1 hb2
        obtain ⟨⟨c0, c1, c2, c3⟩, ⟨e0, e1, e2, e3⟩, hbw⟩ := HX.out w2 hb12
        go_wp2_with fail
        refine (HB2.out _).mono ?_
        rintro e w3 ⟨rfl, hb3⟩
        have hb13 := HTR.out _ _ hb12 hb3
        clear c0 c1 c2 c3 e0 e1 e2 e3 hbw hb12 hb3
        obtain ⟨⟨c0, c1, c2, c3⟩, ⟨e0, e1, e2, e3⟩, hbw⟩ := HX.out w3 hb13
        clear hb13
        go_wp2_with fail
        refine (l3Less_any _ _).mono ?_
        rintro e w4 ⟨rfl, rfl⟩
        go_wp2_with fail
        go_ret
        exact ⟨ret_int HR.out.symm, hbw⟩
    · have et : (t1 != t2) = true := by simpa using ht
      have et2 : (t1 == t2) = false := by simpa using ht
      rw [if_pos ht] at HR
      clear ht
      go_enter Tryz.func152, Tryz.ntmps152
      go_wp2_with fail
      rw [HW0.out]
      refine (HC.out _).mono ?_
      rintro e w1 ⟨rfl, hb1⟩
      obtain ⟨⟨c0, c1, c2, c3⟩, ⟨e0, e1, e2, e3⟩, hbw⟩ := HX.out w1 hb1
      go_wp2_with fail
      refine (HB1.out _).mono ?_
      rintro e w2 ⟨rfl, hb2⟩
      have hb12 := HTR.out _ _ hb1 hb2
      clear c0 c1 c2 c3 e0 e1 e2 e3 hbw hb1 hb2
      obtain ⟨⟨c0, c1, c2, c3⟩, ⟨e0, e1, e2, e3⟩, hbw⟩ := HX.out w2 hb12
      go_wp2_with fail
      refine (HB2.out _).mono ?_
      rintro e w3 ⟨rfl, hb3⟩
      have hb13 := HTR.out _ _ hb12 hb3
      clear c0 c1 c2 c3 e0 e1 e2 e3 hbw hb12 hb3
      obtain ⟨⟨c0, c1, c2, c3⟩, ⟨e0, e1, e2, e3⟩, hbw⟩ := HX.out w3 hb13
      clear hb13
      go_wp2_with fail
      refine (l3Less_any _ _).mono ?_
      rintro e w4 ⟨rfl, rfl⟩
      go_wp2_with fail
      go_ret
      exact ⟨ret_int HR.out.symm, hbw⟩
  · have ez : (c != 0) = true := by simpa using hz
    have ez2 : (c == 0) = false := by simpa using hz
    rw [if_pos hz] at HR
    clear hz
    go_enter Tryz.func152, Tryz.ntmps152
    go_wp2_with fail
    rw [HW0.out]
    refine (HC.out _).mono ?_
    rintro e w1 ⟨rfl, hb1⟩
    have hbw := (HX.out w1 hb1).2.2
    clear hb1
    go_wp2_with fail
    go_ret
    exact ⟨ret_int HR.out.symm, hbw⟩
end Go.Proofs.YtoobaaklklommaaGreatDoor
