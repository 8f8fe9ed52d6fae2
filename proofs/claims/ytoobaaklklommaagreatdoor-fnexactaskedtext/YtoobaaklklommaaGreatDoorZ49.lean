import Derived.Test.YtoobaaklklommaaGreatDoorZ18
import Derived.Test.YtoobaaklklommaaGreatDoorZ47
import Derived.Test.YtoobaaklklommaaGreatDoorZ48
import Derived.Test.YtoobaaklklommaaGreatDoorZ10
namespace Go.Proofs.YtoobaaklklommaaGreatDoor
open Go.RowKit

/-! Changes, what is asked, and its text, in plain words. -/
def chgB (x : ChgT) : Bool := inB x.1 1 4 && (!decide (x.2.2.1 = 6) && recB x.2.1 x.2.2.1 x.2.2.2.1 x.2.2.2.2)
theorem chgB_kind {x : ChgT} (h : inB x.1 1 4 = false) : chgB x = false := by unfold chgB; rw [h]; rfl
theorem chgB_six {x : ChgT} (h : x.2.2.1 = 6) : chgB x = false := by unfold chgB; simp [h]
theorem chgB_rec {x : ChgT} (hk : inB x.1 1 4 = true) (h : ¬ x.2.2.1 = 6) : chgB x = recB x.2.1 x.2.2.1 x.2.2.2.1 x.2.2.2.2 := by unfold chgB; rw [hk]; simp [h]
theorem chgB_facts {x : ChgT} (h : chgB x = true) : 1 ≤ x.1 ∧ x.1 ≤ 4 ∧ recB x.2.1 x.2.2.1 x.2.2.2.1 x.2.2.2.2 = true := by
  unfold chgB inB at h
  simp only [Bool.and_eq_true, decide_eq_true_eq] at h
  exact ⟨h.1.1, h.1.2, h.2.2⟩
def chgsB (L : List ChgT) : Bool := decide (L.length ≤ 12) && L.all chgB
theorem chgsB_len {L : List ChgT} (h : 12 < L.length) : chgsB L = false := by unfold chgsB; simp; intro h2; omega
theorem chgsB_bad {L : List ChgT} (k : Nat) (hk : k < L.length) (h : chgB (L[k]'hk) = false) : chgsB L = false := by
  unfold chgsB
  rw [show L.all chgB = false from List.all_eq_false.2 ⟨_, List.getElem_mem hk, by simpa using h⟩, Bool.and_false]
theorem chgsB_all {L : List ChgT} (hl : L.length ≤ 12) (h : ∀ j, (hj : j < L.length) → chgB (L[j]'hj) = true) : chgsB L = true := by
  unfold chgsB
  rw [show L.all chgB = true from List.all_eq_true.2 (fun x hx => by obtain ⟨j, hj, rfl⟩ := List.getElem_of_mem hx; exact h j hj)]
  simp [hl]
theorem chgsB_facts {L : List ChgT} (h : chgsB L = true) : L.length ≤ 12 ∧ ∀ x ∈ L, chgB x = true := by
  unfold chgsB at h
  simp only [Bool.and_eq_true, decide_eq_true_eq] at h
  exact ⟨h.1, List.all_eq_true.1 h.2⟩
/-- The text of a change, on a line of its own. -/
def lnT (x : ChgT) : List UInt8 := 10 :: (numL x.1.toNat ++ 32 :: recT x.2.1 x.2.2.1.toNat x.2.2.2.1.toNat x.2.2.2.2)
def hdT (c n : Int) : List UInt8 := numL c.toNat ++ 32 :: numL n.toNat
def askT (c n : Int) (L : List ChgT) : List UInt8 := hdT c n ++ (L.map lnT).flatten
def askB (c n : Int) (L : List ChgT) : Bool := whoB c n && chgsB L
def askX (c n : Int) (L : List ChgT) : List UInt8 := if askB c n L = true then askT c n L else []
theorem askT_zero (c n : Int) (L : List ChgT) : askT c n (L.take 0) = hdT c n := by unfold askT; simp
theorem askT_snoc (c n : Int) (L : List ChgT) (k : Nat) (h : k < L.length) : askT c n (L.take (k + 1)) = askT c n (L.take k) ++ lnT L[k] := by
  unfold askT
  rw [List.take_succ_eq_append_getElem h, List.map_append, List.flatten_append]; simp
theorem chg_line {x : ChgT} (h : chgB x = true) (hd : x.2.2.2.2.length ≤ 1048576) : (recT x.2.1 x.2.2.1.toNat x.2.2.2.1.toNat x.2.2.2.2).length ≤ 1048676 := by
  have h := (chgB_facts h).2.2
  obtain ⟨f1, f2, f3, f4⟩ := recB_facts h
  have hn := (name_parts (recB_name h).1).2.1
  have h1 := numL_length 5 x.2.2.2.1.toNat (by omega)
  have h2 := numL_length 1 x.2.2.1.toNat (by omega)
  unfold recT
  split <;> simp <;> omega
theorem whoB_facts {c n : Int} (h : whoB c n = true) : 0 ≤ c ∧ c ≤ 100 ∧ 1 ≤ n ∧ n ≤ 1000 := by
  unfold whoB inB at h
  simp only [Bool.and_eq_true, decide_eq_true_eq] at h
  exact ⟨h.1.1, h.1.2, h.2.1, h.2.2⟩
end Go.Proofs.YtoobaaklklommaaGreatDoor

namespace Go.Proofs.YtoobaaklklommaaGreatDoor
open Go.RowKit

theorem chgB_norec {x : ChgT} (h : recB x.2.1 x.2.2.1 x.2.2.2.1 x.2.2.2.2 = false) : chgB x = false := by unfold chgB; rw [h]; simp
theorem chgB_yes {x : ChgT} (h : inB x.1 1 4 = true) (h2 : recB x.2.1 x.2.2.1 x.2.2.2.1 x.2.2.2.2 = true) (h3 : ¬ x.2.2.1 = 6) : chgB x = true := by unfold chgB; rw [h, h2]; simp [h3]
set_option maxRecDepth 20000 in
set_option maxHeartbeats 8000000 in
theorem l6Batch_any (v : Value) (L : List ChgT) (w : World) (hr : ChgRow w v L) (hl : L.length ≤ 1048576) (hx : Hid (∀ x ∈ L, x.2.1.length ≤ 1048576 ∧ x.2.2.2.2.length ≤ 1048576)) :
    Calls Tryz.prog 69 #[v] w fun e w' => e = .returned (.bool (chgsB L)) ∧ Below w.heap.size w w' := by
  obtain ⟨a, cap, rfl, hcap, hmax, HROW⟩ := chg_value hr
  clear hr
  have HIN : Hid (∀ (m : Int) W, Calls Tryz.prog 42 #[.int .i64 m, .int .i64 1, .int .i64 4] W fun e w' => e = .returned (.bool (inB m 1 4)) ∧ w' = W) := fun m W => l1In_anyY _ _ _ W
  have HGR : Hid (∀ (x : ChgT) W, x.2.1.length ≤ 1048576 → x.2.2.2.2.length ≤ 1048576 → Calls Tryz.prog 106 #[.agg #[.string ⟨x.2.1.toArray⟩, .int .i64 x.2.2.1, .int .i64 x.2.2.2.1, .string ⟨x.2.2.2.2.toArray⟩]] W fun e w' => e = .returned (.bool (recB x.2.1 x.2.2.1 x.2.2.2.1 x.2.2.2.2)) ∧ Below W.heap.size W w') := fun x W g1 g2 =>
    sGoodRecord_any ⟨x.2.1.toArray⟩ ⟨x.2.2.2.2.toArray⟩ x.2.2.1 x.2.2.2.1 W (by rw [size_list]; exact g1) (by rw [size_list]; exact g2)
  have HL : Hid (L.length ≤ 1048576) := hl
  go_enter Tryz.func69, Tryz.ntmps69
  go_wp2_with fail
  go_loopw [7] (fun i wr => ∃ k : Nat, k ≤ L.length ∧ i = .int .i64 (k : Int) ∧ Hid (∀ j, (hj : j < L.length) → j < k → chgB (L[j]'hj) = true) ∧ Below w.heap.size w wr) (fun i _ => L.length - (intOf i).toNat)
  case atStart => exact ⟨0, Nat.zero_le _, rfl, fun j _ h => absurd h (Nat.not_lt_zero _), Below.refl _ _⟩
  case round =>
    obtain ⟨k, hk, rfl, HA, hb⟩ := hrel
    by_cases hlt : k < L.length
    · obtain ⟨b, o, ha, hbl, hcel⟩ := HROW.out (by omega)
      subst ha
      obtain ⟨c0, c1, c2, c3, c4⟩ := ((hcel k hlt).kept hb).cells
      have hxl := hx.out _ (List.getElem_mem hlt)
      have HBAD : Hid (chgB (L[k]'hlt) = false → chgsB L = false) := chgsB_bad k hlt
      have HOK : Hid (chgB (L[k]'hlt) = true → ∀ j, (hj : j < L.length) → j < k + 1 → chgB (L[j]'hj) = true) := fun h j hj h1 => by
        rcases Nat.lt_or_ge j k with h' | h'
        · exact HA.out j hj h'
        · obtain rfl : j = k := by omega
          exact h
      obtain ⟨x, hxe⟩ : ∃ x, x = L[k]'hlt := ⟨_, rfl⟩
      rw [← hxe] at c0 c1 c2 c3 c4 hxl HBAD HOK
      have HG : Hid (∀ W, Calls Tryz.prog 106 #[.agg #[.string ⟨x.2.1.toArray⟩, .int .i64 x.2.2.1, .int .i64 x.2.2.2.1, .string ⟨x.2.2.2.2.toArray⟩]] W fun e w' => e = .returned (.bool (recB x.2.1 x.2.2.1 x.2.2.2.1 x.2.2.2.2)) ∧ Below W.heap.size W w') := fun W => HGR.out x W hxl.1 hxl.2
      have HI : Hid (∀ W, Calls Tryz.prog 42 #[.int .i64 x.1, .int .i64 1, .int .i64 4] W fun e w' => e = .returned (.bool (inB x.1 1 4)) ∧ w' = W) := fun W => HIN.out x.1 W
      obtain ⟨W1, hW1⟩ : ∃ W1, W1 = wr.alloc (.cells #[.int .i64 x.1, .string ⟨x.2.1.toArray⟩, .int .i64 x.2.2.1, .int .i64 x.2.2.2.1, .string ⟨x.2.2.2.2.toArray⟩] 112) := ⟨_, rfl⟩
      have HW1 : Hid (wr.alloc (.cells #[.int .i64 x.1, .string ⟨x.2.1.toArray⟩, .int .i64 x.2.2.1, .int .i64 x.2.2.2.1, .string ⟨x.2.2.2.2.toArray⟩] 112) = W1) := hW1.symm
      have hb1 : Below wr.heap.size wr W1 := by rw [hW1]; exact (Below.refl _ _).alloc (Nat.le_refl _) _
      have hxb : W1.heap[wr.heap.size]? = some (.cells #[.int .i64 x.1, .string ⟨x.2.1.toArray⟩, .int .i64 x.2.2.1, .int .i64 x.2.2.2.1, .string ⟨x.2.2.2.2.toArray⟩] 112) := by rw [hW1]; exact blk_new _ _
      have hz1 : wr.heap.size < W1.heap.size := by rw [hW1]; simp
      obtain ⟨⟨d0, d1, d2, d3, d4⟩, _⟩ := cells5 hxb
      have hbk : Below w.heap.size w W1 := hb.trans (hb1.mono hb.size)
      have HD : Hid (∀ W, Below W1.heap.size W1 W → W.cell? ⟨wr.heap.size, 2, none⟩ = some (.int .i64 x.2.2.1) ∧ Below w.heap.size w W) := fun W hW => ⟨(cells5 ((hW.block _ hz1).trans hxb)).1.2.2.1, hbk.trans (hW.mono hbk.size)⟩
      have hki : (k : Int) < (L.length : Int) := by omega
      clear hcel hxe hxl hW1 hxb hz1 hb1 hb hbl
      cases hK : inB x.1 1 4 with
      | false =>
        have HR : Hid (chgsB L = false) := HBAD.out (chgB_kind hK)
        rw [hK] at HI
        clear hK HBAD HOK
        go_wp2_with (rw [HW1.out])
        refine (HI.out _).mono ?_
        rintro e w2 ⟨rfl, rfl⟩
        go_wp2_with fail
        go_ret
        exact ⟨ret_bool HR.out.symm, hbk⟩
      | true =>
        rw [hK] at HI
        cases hG : recB x.2.1 x.2.2.1 x.2.2.2.1 x.2.2.2.2 with
        | false =>
          have HR : Hid (chgsB L = false) := HBAD.out (chgB_norec hG)
          rw [hG] at HG
          clear hK hG HBAD HOK
          go_wp2_with (rw [HW1.out])
          refine (HI.out _).mono ?_
          rintro e w2 ⟨rfl, rfl⟩
          go_wp2_with fail
          refine (HG.out _).mono ?_
          rintro e w3 ⟨rfl, hb3⟩
          have hbw := (HD.out _ hb3).2
          clear c0 c1 c2 c3 c4 d0 d1 d2 d3 d4 hb3 hbk
          go_wp2_with fail
          go_ret
          exact ⟨ret_bool HR.out.symm, hbw⟩
        | true =>
          rw [hG] at HG
          by_cases h6 : x.2.2.1 = 6
          · have HR : Hid (chgsB L = false) := HBAD.out (chgB_six h6)
            have e6 : (x.2.2.1 == 6) = true := by simp [h6]
            clear hK hG HBAD HOK h6
            go_wp2_with (rw [HW1.out])
            refine (HI.out _).mono ?_
            rintro e w2 ⟨rfl, rfl⟩
            go_wp2_with fail
            refine (HG.out _).mono ?_
            rintro e w3 ⟨rfl, hb3⟩
            obtain ⟨dd, hbw⟩ := HD.out _ hb3
            clear c0 c1 c2 c3 c4 d0 d1 d2 d3 d4 hb3 hbk
            go_wp2_with fail
            go_ret
            exact ⟨ret_bool HR.out.symm, hbw⟩
          · have HR : Hid (∀ j, (hj : j < L.length) → j < k + 1 → chgB (L[j]'hj) = true) := HOK.out (chgB_yes hK hG h6)
            have e6 : (x.2.2.1 == 6) = false := by simp [h6]
            clear hK hG HBAD HOK h6
            go_wp2_with (rw [HW1.out])
            refine (HI.out _).mono ?_
            rintro e w2 ⟨rfl, rfl⟩
            go_wp2_with fail
            refine (HG.out _).mono ?_
            rintro e w3 ⟨rfl, hb3⟩
            obtain ⟨dd, hbw⟩ := HD.out _ hb3
            clear c0 c1 c2 c3 c4 d0 d1 d2 d3 d4 hb3 hbk
            go_wp2_with fail
            go_roundw
            case rel => exact ⟨k + 1, by omega, by go_num, HR, hbw⟩
            case measure => simp [intOf]; omega
    · by_cases h12 : L.length ≤ 12
      · have HR : Hid (chgsB L = true) := chgsB_all h12 (fun j hj => HA.out j hj (by omega))
        have hi12 : (L.length : Int) ≤ 12 := by omega
        clear h12
        go_wp2_with fail
        go_ret
        exact ⟨by rw [HR.out]; simp, hb⟩
      · have HR : Hid (chgsB L = false) := chgsB_len (by omega)
        have hi12 : ¬ (L.length : Int) ≤ 12 := by omega
        clear h12
        go_wp2_with fail
        go_ret
        exact ⟨by rw [HR.out]; simp, hb⟩
set_option maxRecDepth 20000 in
set_option maxHeartbeats 8000000 in
theorem l16Text_any (c n : Int) (v : Value) (L : List ChgT) (w : World) (hr : ChgRow w v L) (hx : Hid (∀ x ∈ L, x.2.1.length ≤ 1048576 ∧ x.2.2.2.2.length ≤ 1048576)) (hB : askB c n L = true) :
    Calls Tryz.prog 70 #[AskV c n v] w fun e w' => e = .returned (.string ⟨(askT c n L).toArray⟩) ∧ Below w.heap.size w w' := by
  unfold AskV
  have hB2 : whoB c n = true ∧ chgsB L = true := by unfold askB at hB; simpa using hB
  obtain ⟨hw, hch⟩ := hB2
  obtain ⟨hl12, hall⟩ := chgsB_facts hch
  obtain ⟨hc0, hc1, hn0, hn1⟩ := whoB_facts hw
  have HIT0 : ∀ (m : Int) W, 0 ≤ m → m ≤ 1000 → Calls Tryz.prog 107 #[.int .i64 m] W fun e w' => e = .returned (.string ⟨(numL m.toNat).toArray⟩) ∧ Below W.heap.size W w' := fun m W h0 h1 => by
    have h := l1Num_any m.toNat m.toNat W (Nat.le_refl _) (by omega)
    rw [show ((m.toNat : Nat) : Int) = m by omega] at h
    exact h
  have HHD : Hid (hdT c n = numL c.toNat ++ 32 :: numL n.toNat) := rfl
  have hq1 := numL_length 3 c.toNat (by omega)
  have hq2 := numL_length 3 n.toNat (by omega)
  have HIC0 : ∀ W, Calls Tryz.prog 107 #[.int .i64 c] W fun e w' => e = .returned (.string ⟨(numL c.toNat).toArray⟩) ∧ Below W.heap.size W w' := fun W => HIT0 c W hc0 (by omega)
  have HIN0 : ∀ W, Calls Tryz.prog 107 #[.int .i64 n] W fun e w' => e = .returned (.string ⟨(numL n.toNat).toArray⟩) ∧ Below W.heap.size W w' := fun W => HIT0 n W (by omega) hn1
  obtain ⟨q1, hq1e⟩ : ∃ q, q = numL c.toNat := ⟨_, rfl⟩
  obtain ⟨q2, hq2e⟩ : ∃ q, q = numL n.toNat := ⟨_, rfl⟩
  rw [← hq1e] at HIC0 HHD hq1
  rw [← hq2e] at HIN0 HHD hq2
  have HIC : Hid (∀ W, Calls Tryz.prog 107 #[.int .i64 c] W fun e w' => e = .returned (.string ⟨q1.toArray⟩) ∧ Below W.heap.size W w') := HIC0
  have HIN : Hid (∀ W, Calls Tryz.prog 107 #[.int .i64 n] W fun e w' => e = .returned (.string ⟨q2.toArray⟩) ∧ Below W.heap.size W w') := HIN0
  have HIK : Hid (∀ (x : ChgT) W, x ∈ L → Calls Tryz.prog 107 #[.int .i64 x.1] W fun e w' => e = .returned (.string ⟨(numL x.1.toNat).toArray⟩) ∧ Below W.heap.size W w') := fun x W hm => by
    have hf := chgB_facts (hall x hm)
    exact HIT0 x.1 W (by omega) (by omega)
  have HKL : Hid (∀ x ∈ L, (numL x.1.toNat).length ≤ 1) := fun x hm => by
    have hf := chgB_facts (hall x hm)
    exact numL_length 0 x.1.toNat (by omega)
  have HRT : Hid (∀ (x : ChgT) W, x ∈ L → Calls Tryz.prog 108 #[.agg #[.string ⟨x.2.1.toArray⟩, .int .i64 x.2.2.1, .int .i64 x.2.2.2.1, .string ⟨x.2.2.2.2.toArray⟩]] W fun e w' => e = .returned (.string ⟨(recT x.2.1 x.2.2.1.toNat x.2.2.2.1.toNat x.2.2.2.2).toArray⟩) ∧ Below W.heap.size W w') := fun x W hxm => by
    have hg : recB x.2.1 x.2.2.1 x.2.2.2.1 x.2.2.2.2 = true := (chgB_facts (hall x hxm)).2.2
    obtain ⟨f1, f2, f3, f4⟩ := recB_facts hg
    have h := l3Text_any ⟨x.2.1.toArray⟩ ⟨x.2.2.2.2.toArray⟩ x.2.2.1.toNat x.2.2.2.1.toNat W (by rw [size_list]; exact (hx.out x hxm).1) (by rw [size_list]; exact (hx.out x hxm).2) (by omega) (by omega)
    rw [show ((x.2.2.1.toNat : Nat) : Int) = x.2.2.1 by omega, show ((x.2.2.2.1.toNat : Nat) : Int) = x.2.2.2.1 by omega] at h
    exact h
  have HLN : Hid (∀ x ∈ L, (recT x.2.1 x.2.2.1.toNat x.2.2.2.1.toNat x.2.2.2.2).length ≤ 1048676) := fun x hxm => chg_line (hall x hxm) (hx.out x hxm).2
  obtain ⟨a, cap, rfl, hcap, hmax, HROW⟩ := chg_value hr
  have hb0 : Below w.heap.size w (w.alloc (.cells #[.int .i64 c, .int .i64 n, .slice a L.length cap] 49)) := (Below.refl _ _).alloc (Nat.le_refl _) _
  obtain ⟨⟨k0, k1, k2⟩, _⟩ := zon3_cells (blk_new w (.cells #[.int .i64 c, .int .i64 n, .slice a L.length cap] 49))
  obtain ⟨W0, hW0⟩ : ∃ W0, W0 = w.alloc (.cells #[.int .i64 c, .int .i64 n, .slice a L.length cap] 49) := ⟨_, rfl⟩
  have HW0 : Hid (w.alloc (.cells #[.int .i64 c, .int .i64 n, .slice a L.length cap] 49) = W0) := hW0.symm
  have hz0 : w.heap.size < W0.heap.size := by rw [hW0]; simp
  rw [← hW0] at hb0 k0 k1 k2
  have HC : Hid (∀ W, Below W0.heap.size W0 W → (W.cell? ⟨w.heap.size, 0, none⟩ = some (.int .i64 c) ∧ W.cell? ⟨w.heap.size, 1, none⟩ = some (.int .i64 n) ∧ W.cell? ⟨w.heap.size, 2, none⟩ = some (.slice a L.length cap)) ∧ Below w.heap.size w W) := fun W hW => ⟨⟨(hW.cell (p := ⟨w.heap.size, 0, none⟩) hz0).trans k0, (hW.cell (p := ⟨w.heap.size, 1, none⟩) hz0).trans k1, (hW.cell (p := ⟨w.heap.size, 2, none⟩) hz0).trans k2⟩, hb0.trans (hW.mono hb0.size)⟩
  have HTR : Hid (∀ W W', Below W0.heap.size W0 W → Below W.heap.size W W' → Below W0.heap.size W0 W') := fun W W' h1 h2 => h1.trans (h2.mono h1.size)
  have hbd : Below W0.heap.size W0 W0.drew := (Below.refl _ _).drew
  clear hr hx hB hw hch hall hc0 hc1 hn0 hn1 HIT0 HIC0 HIN0 hq1e hq2e hW0 hz0 hb0 k0 k1 k2
  go_enter Tryz.func70, Tryz.ntmps70
  go_wp2_with (rw [HW0.out])
  refine wp_region_quiet (C := fun W => Below W0.heap.size W0 W) (by kernel_rfl) (by kernel_rfl) hbd ?_
  refine wpQuiet_step (fun K hK => ?_)
  rw [if_pos (by rfl)]
  refine ⟨.pointer (some ⟨w.heap.size, 0, none⟩), fun W hW => quiet_ok ?_, hK _ ?_⟩
  · have qq := HC.out W hW
    obtain ⟨⟨m0, m1, m2⟩, _⟩ := qq
    go_simp
    all_goals (try omega)
  clear hK K
  simp only [Act.put, List.setIfInBounds_toArray, List.set_cons_succ, List.set_cons_zero]
  refine wpQuiet_step (fun K hK => ?_)
  rw [if_pos (by rfl)]
  refine ⟨.int .i64 c, fun W hW => quiet_ok ?_, hK _ ?_⟩
  · have qq := HC.out W hW
    obtain ⟨⟨m0, m1, m2⟩, _⟩ := qq
    go_simp
    all_goals (try omega)
  clear hK K
  simp only [Act.put, List.setIfInBounds_toArray, List.set_cons_succ, List.set_cons_zero]
  refine wpQuiet_step (fun K hK => ?_)
  rw [if_pos (by rfl)]
  refine ⟨.string ⟨q1.toArray⟩, fun W hW => quiet_call (f := 107) (args := #[.int .i64 c]) ?_ ?_, hK _ ?_⟩
  · go_simp
  · exact (HIC.out W).mono fun e w'' h => ⟨h.1, HTR.out _ _ hW h.2⟩
  clear hK K
  simp only [Act.put, List.setIfInBounds_toArray, List.set_cons_succ, List.set_cons_zero]
  refine wpQuiet_step (fun K hK => ?_)
  rw [if_pos (by rfl)]
  refine ⟨.string (⟨q1.toArray⟩ ++ ⟨#[32]⟩), fun W hW => quiet_ok ?_, hK _ ?_⟩
  · have qq := HC.out W hW
    obtain ⟨⟨m0, m1, m2⟩, _⟩ := qq
    go_simp
    all_goals (try omega)
  clear hK K
  simp only [Act.put, List.setIfInBounds_toArray, List.set_cons_succ, List.set_cons_zero]
  refine wpQuiet_step (fun K hK => ?_)
  rw [if_pos (by rfl)]
  refine ⟨.pointer (some ⟨w.heap.size, 1, none⟩), fun W hW => quiet_ok ?_, hK _ ?_⟩
  · have qq := HC.out W hW
    obtain ⟨⟨m0, m1, m2⟩, _⟩ := qq
    go_simp
    all_goals (try omega)
  clear hK K
  simp only [Act.put, List.setIfInBounds_toArray, List.set_cons_succ, List.set_cons_zero]
  refine wpQuiet_step (fun K hK => ?_)
  rw [if_pos (by rfl)]
  refine ⟨.int .i64 n, fun W hW => quiet_ok ?_, hK _ ?_⟩
  · have qq := HC.out W hW
    obtain ⟨⟨m0, m1, m2⟩, _⟩ := qq
    go_simp
    all_goals (try omega)
  clear hK K
  simp only [Act.put, List.setIfInBounds_toArray, List.set_cons_succ, List.set_cons_zero]
  refine wpQuiet_step (fun K hK => ?_)
  rw [if_pos (by rfl)]
  refine ⟨.string ⟨q2.toArray⟩, fun W hW => quiet_call (f := 107) (args := #[.int .i64 n]) ?_ ?_, hK _ ?_⟩
  · go_simp
  · exact (HIN.out W).mono fun e w'' h => ⟨h.1, HTR.out _ _ hW h.2⟩
  clear hK K
  simp only [Act.put, List.setIfInBounds_toArray, List.set_cons_succ, List.set_cons_zero]
  refine wpQuiet_step (fun K hK => ?_)
  rw [if_pos (by rfl)]
  refine ⟨.string (⟨q1.toArray⟩ ++ ⟨#[32]⟩ ++ ⟨q2.toArray⟩), fun W hW => quiet_ok ?_, hK _ ?_⟩
  · have qq := HC.out W hW
    obtain ⟨⟨m0, m1, m2⟩, _⟩ := qq
    go_simp
    all_goals (try omega)
  clear hK K
  simp only [Act.put, List.setIfInBounds_toArray, List.set_cons_succ, List.set_cons_zero]
  refine wpQuiet_step (fun K hK => ?_)
  rw [if_pos (by rfl)]
  refine ⟨.string (⟨q1.toArray⟩ ++ ⟨#[32]⟩ ++ ⟨q2.toArray⟩), fun W hW => quiet_ok ?_, hK _ ?_⟩
  · have qq := HC.out W hW
    obtain ⟨⟨m0, m1, m2⟩, _⟩ := qq
    go_simp
    all_goals (try omega)
  clear hK K
  simp only [Act.put, List.setIfInBounds_toArray, List.set_cons_succ, List.set_cons_zero]
  refine wpQuiet_nil ?_
  intro W2 hW2
  obtain ⟨⟨n0, n1, n2⟩, hbw2⟩ := HC.out W2 hW2
  have HT0 : Hid ((⟨q1.toArray⟩ ++ ⟨#[32]⟩ ++ ⟨q2.toArray⟩ : ByteArray).data.toList = askT c n (L.take 0) ∧ (⟨q1.toArray⟩ ++ ⟨#[32]⟩ ++ ⟨q2.toArray⟩ : ByteArray).size ≤ 1049000) := by
    constructor
    · rw [askT_zero, HHD.out]; simp
    · have e : (⟨q1.toArray⟩ ++ ⟨#[32]⟩ ++ ⟨q2.toArray⟩ : ByteArray).size = (⟨q1.toArray⟩ : ByteArray).size + 1 + (⟨q2.toArray⟩ : ByteArray).size := by simp; rfl
      rw [e, size_list, size_list]; omega
  obtain ⟨t0, ht0⟩ : ∃ t0, t0 = (⟨q1.toArray⟩ ++ ⟨#[32]⟩ ++ ⟨q2.toArray⟩ : ByteArray) := ⟨_, rfl⟩
  rw [← ht0] at HT0 ⊢
  clear ht0 hq1 hq2
  go_wp2_with fail
  go_loopw [3, 17] (fun t i wr => ∃ (k : Nat) (tx : ByteArray), k ≤ L.length ∧ i = .int .i64 (k : Int) ∧ t = .string tx ∧ Hid (tx.data.toList = askT c n (L.take k)) ∧ tx.size ≤ 1049000 + k * 1049000 ∧ Below W0.heap.size W0 wr) (fun _ i _ => L.length - (intOf i).toNat)
  case atStart => exact ⟨0, t0, Nat.zero_le _, rfl, rfl, HT0.out.1, by have := HT0.out.2; omega, hW2⟩
  case round =>
    obtain ⟨k, tx, hk, rfl, rfl, HT, htx, hb⟩ := hrel
    obtain ⟨_, hbwr⟩ := HC.out _ hb
    clear n0 n1 n2 hW2 hbw2
    by_cases hlt : k < L.length
    · obtain ⟨b, o, ha, hbl, hcel⟩ := HROW.out (by omega)
      subst ha
      obtain ⟨c0, c1, c2, c3, c4⟩ := ((hcel k hlt).kept hbwr).cells
      have HNX := askT_snoc c n L k hlt
      have hxm := List.getElem_mem hlt
      have HCC0 := fun W => HRT.out (L[k]'hlt) W hxm
      have HKK0 := fun W => HIK.out (L[k]'hlt) W hxm
      have hkl := HKL.out _ hxm
      have hll := HLN.out _ hxm
      obtain ⟨x, hxe⟩ : ∃ x, x = L[k]'hlt := ⟨_, rfl⟩
      rw [← hxe] at c0 c1 c2 c3 c4 HNX HCC0 HKK0 hll hkl
      have HLT : Hid (lnT x = 10 :: (numL x.1.toNat ++ 32 :: recT x.2.1 x.2.2.1.toNat x.2.2.2.1.toNat x.2.2.2.2)) := rfl
      obtain ⟨ln, hln⟩ : ∃ ln, ln = recT x.2.1 x.2.2.1.toNat x.2.2.2.1.toNat x.2.2.2.2 := ⟨_, rfl⟩
      obtain ⟨qk, hqk⟩ : ∃ qk, qk = numL x.1.toNat := ⟨_, rfl⟩
      rw [← hln] at HCC0 hll HLT
      rw [← hqk] at HKK0 hkl HLT
      have HCC : Hid (∀ W, Calls Tryz.prog 108 #[.agg #[.string ⟨x.2.1.toArray⟩, .int .i64 x.2.2.1, .int .i64 x.2.2.2.1, .string ⟨x.2.2.2.2.toArray⟩]] W fun e w' => e = .returned (.string ⟨ln.toArray⟩) ∧ Below W.heap.size W w') := HCC0
      have HKK : Hid (∀ W, Calls Tryz.prog 107 #[.int .i64 x.1] W fun e w' => e = .returned (.string ⟨qk.toArray⟩) ∧ Below W.heap.size W w') := HKK0
      have HNN : Hid ((tx ++ (⟨#[10]⟩ ++ ⟨qk.toArray⟩ ++ ⟨#[32]⟩ ++ ⟨ln.toArray⟩) : ByteArray).data.toList = askT c n (L.take (k + 1))) := by
        show (tx ++ (⟨#[10]⟩ ++ ⟨qk.toArray⟩ ++ ⟨#[32]⟩ ++ ⟨ln.toArray⟩) : ByteArray).data.toList = _
        rw [HNX, HLT.out, ← HT.out]; simp
      have hls : (⟨ln.toArray⟩ : ByteArray).size ≤ 1048676 := by rw [size_list]; exact hll
      have hks : (⟨qk.toArray⟩ : ByteArray).size ≤ 1 := by rw [size_list]; exact hkl
      have hns : (tx ++ (⟨#[10]⟩ ++ ⟨qk.toArray⟩ ++ ⟨#[32]⟩ ++ ⟨ln.toArray⟩) : ByteArray).size ≤ 1049000 + (k + 1) * 1049000 := by
        have e : (tx ++ (⟨#[10]⟩ ++ ⟨qk.toArray⟩ ++ ⟨#[32]⟩ ++ ⟨ln.toArray⟩) : ByteArray).size = tx.size + (1 + (⟨qk.toArray⟩ : ByteArray).size + 1 + (⟨ln.toArray⟩ : ByteArray).size) := by simp; rfl
        rw [e]; omega
      have htb : tx.size ≤ 50000000 := by omega
      have hki : (k : Int) < (L.length : Int) := by omega
      obtain ⟨W1, hW1⟩ : ∃ W1, W1 = wr.alloc (.cells #[.int .i64 x.1, .string ⟨x.2.1.toArray⟩, .int .i64 x.2.2.1, .int .i64 x.2.2.2.1, .string ⟨x.2.2.2.2.toArray⟩] 112) := ⟨_, rfl⟩
      have HW1 : Hid (wr.alloc (.cells #[.int .i64 x.1, .string ⟨x.2.1.toArray⟩, .int .i64 x.2.2.1, .int .i64 x.2.2.2.1, .string ⟨x.2.2.2.2.toArray⟩] 112) = W1) := hW1.symm
      have hb1 : Below wr.heap.size wr W1 := by rw [hW1]; exact (Below.refl _ _).alloc (Nat.le_refl _) _
      have hxb : W1.heap[wr.heap.size]? = some (.cells #[.int .i64 x.1, .string ⟨x.2.1.toArray⟩, .int .i64 x.2.2.1, .int .i64 x.2.2.2.1, .string ⟨x.2.2.2.2.toArray⟩] 112) := by rw [hW1]; exact blk_new _ _
      have hz1 : wr.heap.size < W1.heap.size := by rw [hW1]; simp
      have hbk : Below W0.heap.size W0 W1 := hb.trans (hb1.mono hb.size)
      have HD : Hid (∀ W, Below W1.heap.size W1 W → (W.cell? ⟨wr.heap.size, 0, none⟩ = some (.int .i64 x.1) ∧ W.cell? ⟨wr.heap.size, 1, none⟩ = some (.string ⟨x.2.1.toArray⟩) ∧ W.cell? ⟨wr.heap.size, 2, none⟩ = some (.int .i64 x.2.2.1) ∧ W.cell? ⟨wr.heap.size, 3, none⟩ = some (.int .i64 x.2.2.2.1) ∧ W.cell? ⟨wr.heap.size, 4, none⟩ = some (.string ⟨x.2.2.2.2.toArray⟩)) ∧ Below W0.heap.size W0 W) := fun W hW => ⟨(cells5 ((hW.block _ hz1).trans hxb)).1, hbk.trans (hW.mono hbk.size)⟩
      have HTW : Hid (∀ W W', Below W1.heap.size W1 W → Below W.heap.size W W' → Below W1.heap.size W1 W') := fun W W' h1 h2 => h1.trans (h2.mono h1.size)
      have hbd1 : Below W1.heap.size W1 W1.drew := (Below.refl _ _).drew
      clear hcel hxe hln hqk HNX HCC0 HKK0 HT hxm hW1 hxb hz1 hb1 hbl hb hbwr hbk
      go_wp2_with (rw [HW1.out])
      clear c0 c1 c2 c3 c4
      refine wp_region_quiet (C := fun W => Below W1.heap.size W1 W) (by kernel_rfl) (by kernel_rfl) hbd1 ?_
      refine wpQuiet_step (fun K hK => ?_)
      rw [if_pos (by rfl)]
      refine ⟨.string tx, fun W hW => quiet_ok ?_, hK _ ?_⟩
      · have qq := HD.out W hW
        obtain ⟨⟨m0, m1, m2, m3, m4⟩, _⟩ := qq
        go_simp
        all_goals (try omega)
      clear hK K
      simp only [Act.put, List.setIfInBounds_toArray, List.set_cons_succ, List.set_cons_zero]
      refine wpQuiet_step (fun K hK => ?_)
      rw [if_pos (by rfl)]
      refine ⟨.pointer (some ⟨wr.heap.size, 0, none⟩), fun W hW => quiet_ok ?_, hK _ ?_⟩
      · have qq := HD.out W hW
        obtain ⟨⟨m0, m1, m2, m3, m4⟩, _⟩ := qq
        go_simp
        all_goals (try omega)
      clear hK K
      simp only [Act.put, List.setIfInBounds_toArray, List.set_cons_succ, List.set_cons_zero]
      refine wpQuiet_step (fun K hK => ?_)
      rw [if_pos (by rfl)]
      refine ⟨.int .i64 x.1, fun W hW => quiet_ok ?_, hK _ ?_⟩
      · have qq := HD.out W hW
        obtain ⟨⟨m0, m1, m2, m3, m4⟩, _⟩ := qq
        go_simp
        all_goals (try omega)
      clear hK K
      simp only [Act.put, List.setIfInBounds_toArray, List.set_cons_succ, List.set_cons_zero]
      refine wpQuiet_step (fun K hK => ?_)
      rw [if_pos (by rfl)]
      refine ⟨.string ⟨qk.toArray⟩, fun W hW => quiet_call (f := 107) (args := #[.int .i64 x.1]) ?_ ?_, hK _ ?_⟩
      · go_simp
      · exact (HKK.out W).mono fun e w'' h => ⟨h.1, HTW.out _ _ hW h.2⟩
      clear hK K
      simp only [Act.put, List.setIfInBounds_toArray, List.set_cons_succ, List.set_cons_zero]
      refine wpQuiet_step (fun K hK => ?_)
      rw [if_pos (by rfl)]
      refine ⟨.string (⟨#[10]⟩ ++ ⟨qk.toArray⟩), fun W hW => quiet_ok ?_, hK _ ?_⟩
      · have qq := HD.out W hW
        obtain ⟨⟨m0, m1, m2, m3, m4⟩, _⟩ := qq
        go_simp
        all_goals (try omega)
      clear hK K
      simp only [Act.put, List.setIfInBounds_toArray, List.set_cons_succ, List.set_cons_zero]
      refine wpQuiet_step (fun K hK => ?_)
      rw [if_pos (by rfl)]
      refine ⟨.string (⟨#[10]⟩ ++ ⟨qk.toArray⟩ ++ ⟨#[32]⟩), fun W hW => quiet_ok ?_, hK _ ?_⟩
      · have qq := HD.out W hW
        obtain ⟨⟨m0, m1, m2, m3, m4⟩, _⟩ := qq
        go_simp
        all_goals (try omega)
      clear hK K
      simp only [Act.put, List.setIfInBounds_toArray, List.set_cons_succ, List.set_cons_zero]
      refine wpQuiet_step (fun K hK => ?_)
      rw [if_pos (by rfl)]
      refine ⟨.pointer (some ⟨wr.heap.size, 1, none⟩), fun W hW => quiet_ok ?_, hK _ ?_⟩
      · have qq := HD.out W hW
        obtain ⟨⟨m0, m1, m2, m3, m4⟩, _⟩ := qq
        go_simp
        all_goals (try omega)
      clear hK K
      simp only [Act.put, List.setIfInBounds_toArray, List.set_cons_succ, List.set_cons_zero]
      refine wpQuiet_step (fun K hK => ?_)
      rw [if_pos (by rfl)]
      refine ⟨.agg #[.string ⟨x.2.1.toArray⟩, .int .i64 x.2.2.1, .int .i64 x.2.2.2.1, .string ⟨x.2.2.2.2.toArray⟩], fun W hW => quiet_ok ?_, hK _ ?_⟩
      · have qq := HD.out W hW
        obtain ⟨⟨m0, m1, m2, m3, m4⟩, _⟩ := qq
        go_simp
        all_goals (try omega)
      clear hK K
      simp only [Act.put, List.setIfInBounds_toArray, List.set_cons_succ, List.set_cons_zero]
      refine wpQuiet_step (fun K hK => ?_)
      rw [if_pos (by rfl)]
      refine ⟨.string ⟨ln.toArray⟩, fun W hW => quiet_call (f := 108) (args := #[.agg #[.string ⟨x.2.1.toArray⟩, .int .i64 x.2.2.1, .int .i64 x.2.2.2.1, .string ⟨x.2.2.2.2.toArray⟩]]) ?_ ?_, hK _ ?_⟩
      · go_simp
      · exact (HCC.out W).mono fun e w'' h => ⟨h.1, HTW.out _ _ hW h.2⟩
      clear hK K
      simp only [Act.put, List.setIfInBounds_toArray, List.set_cons_succ, List.set_cons_zero]
      refine wpQuiet_step (fun K hK => ?_)
      rw [if_pos (by rfl)]
      refine ⟨.string (⟨#[10]⟩ ++ ⟨qk.toArray⟩ ++ ⟨#[32]⟩ ++ ⟨ln.toArray⟩), fun W hW => quiet_ok ?_, hK _ ?_⟩
      · have qq := HD.out W hW
        obtain ⟨⟨m0, m1, m2, m3, m4⟩, _⟩ := qq
        go_simp
        all_goals (try omega)
      clear hK K
      simp only [Act.put, List.setIfInBounds_toArray, List.set_cons_succ, List.set_cons_zero]
      refine wpQuiet_step (fun K hK => ?_)
      rw [if_pos (by rfl)]
      refine ⟨.string (tx ++ (⟨#[10]⟩ ++ ⟨qk.toArray⟩ ++ ⟨#[32]⟩ ++ ⟨ln.toArray⟩)), fun W hW => quiet_ok ?_, hK _ ?_⟩
      · have qq := HD.out W hW
        obtain ⟨⟨m0, m1, m2, m3, m4⟩, _⟩ := qq
        go_simp
        all_goals (try omega)
      clear hK K
      simp only [Act.put, List.setIfInBounds_toArray, List.set_cons_succ, List.set_cons_zero]
      refine wpQuiet_step (fun K hK => ?_)
      rw [if_pos (by rfl)]
      refine ⟨.string (tx ++ (⟨#[10]⟩ ++ ⟨qk.toArray⟩ ++ ⟨#[32]⟩ ++ ⟨ln.toArray⟩)), fun W hW => quiet_ok ?_, hK _ ?_⟩
      · have qq := HD.out W hW
        obtain ⟨⟨m0, m1, m2, m3, m4⟩, _⟩ := qq
        go_simp
        all_goals (try omega)
      clear hK K
      simp only [Act.put, List.setIfInBounds_toArray, List.set_cons_succ, List.set_cons_zero]
      refine wpQuiet_nil ?_
      intro W3 hW3
      obtain ⟨_, hbk5⟩ := HD.out W3 hW3
      clear hbd1 hW3
      go_wp2_with fail
      go_roundw
      case rel => exact ⟨k + 1, _, by omega, by go_num, rfl, HNN, hns, hbk5⟩
      case measure => simp [intOf]; omega
    · have HF : Hid (askT c n L = tx.data.toList) := by
        have h := HT.out
        rw [List.take_of_length_le (by omega)] at h
        exact h.symm
      go_wp2_with fail
      go_ret
      refine ⟨?_, hbwr⟩
      rw [HF.out]
      exact congrArg (fun b => Ending.returned (.string b)) (data_eq (s := tx) rfl)
set_option maxRecDepth 20000 in
set_option maxHeartbeats 4000000 in
theorem sAskedText_any (c n : Int) (v : Value) (L : List ChgT) (w : World) (hr : ChgRow w v L) (hl : L.length ≤ 1048576) (hx : Hid (∀ x ∈ L, x.2.1.length ≤ 1048576 ∧ x.2.2.2.2.length ≤ 1048576)) :
    Calls Tryz.prog 34 #[AskV c n v] w fun e w' => e = .returned (.tuple #[.string ⟨(askX c n L).toArray⟩, .bool (askB c n L)]) ∧ Below w.heap.size w w' := by
  have HT0 : askB c n L = true → ∀ W, Below w.heap.size w W → Calls Tryz.prog 70 #[AskV c n v] W fun e w' => e = .returned (.string ⟨(askT c n L).toArray⟩) ∧ Below W.heap.size W w' := fun hB W hW => l16Text_any c n v L W (hr.kept hW) hx hB
  unfold AskV at HT0 ⊢
  have HA : Hid (∀ W, Below w.heap.size w W → Calls Tryz.prog 69 #[v] W fun e w' => e = .returned (.bool (chgsB L)) ∧ Below W.heap.size W w') := fun W hW => l6Batch_any v L W (hr.kept hW) hl hx
  have HWH : Hid (∀ W, Calls Tryz.prog 41 #[.int .i64 c, .int .i64 n] W fun e w' => e = .returned (.bool (whoB c n)) ∧ w' = W) := fun W => l16Who_any c n W
  obtain ⟨a, cap, rfl, _⟩ := id hr
  have hb0 : Below w.heap.size w (w.alloc (.cells #[.int .i64 c, .int .i64 n, .slice a L.length cap] 49)) := (Below.refl _ _).alloc (Nat.le_refl _) _
  obtain ⟨⟨k0, k1, k2⟩, _⟩ := zon3_cells (blk_new w (.cells #[.int .i64 c, .int .i64 n, .slice a L.length cap] 49))
  obtain ⟨W0, hW0⟩ : ∃ W0, W0 = w.alloc (.cells #[.int .i64 c, .int .i64 n, .slice a L.length cap] 49) := ⟨_, rfl⟩
  have HW0 : Hid (w.alloc (.cells #[.int .i64 c, .int .i64 n, .slice a L.length cap] 49) = W0) := hW0.symm
  have hz0 : w.heap.size < W0.heap.size := by rw [hW0]; simp
  rw [← hW0] at hb0 k0 k1 k2
  have HC : Hid (∀ W, Below W0.heap.size W0 W → (W.cell? ⟨w.heap.size, 0, none⟩ = some (.int .i64 c) ∧ W.cell? ⟨w.heap.size, 1, none⟩ = some (.int .i64 n) ∧ W.cell? ⟨w.heap.size, 2, none⟩ = some (.slice a L.length cap)) ∧ Below w.heap.size w W) := fun W hW => ⟨⟨(hW.cell (p := ⟨w.heap.size, 0, none⟩) hz0).trans k0, (hW.cell (p := ⟨w.heap.size, 1, none⟩) hz0).trans k1, (hW.cell (p := ⟨w.heap.size, 2, none⟩) hz0).trans k2⟩, hb0.trans (hW.mono hb0.size)⟩
  have HAB : askB c n L = (whoB c n && chgsB L) := rfl
  have HXX : askX c n L = if askB c n L = true then askT c n L else [] := rfl
  obtain ⟨t, ht⟩ : ∃ t, t = askX c n L := ⟨_, rfl⟩
  rw [← ht] at HXX ⊢
  rw [HAB] at HXX HT0 ⊢
  clear ht HAB hr hl hx hW0 hz0
  cases h1 : whoB c n with
  | false =>
    rw [h1] at HWH HXX
    have HX2 : Hid (t = []) := by rw [HXX]; rfl
    rw [HX2.out]
    clear h1 HXX HT0
    go_enter Tryz.func34, Tryz.ntmps34
    go_wp2_with (rw [HW0.out])
    refine (HWH.out _).mono ?_
    rintro e w1 ⟨rfl, rfl⟩
    go_wp2_with fail
    go_ret2
    exact ⟨rfl, hb0⟩
  | true =>
    rw [h1] at HWH HXX HT0
    cases h2 : chgsB L with
    | false =>
      rw [h2] at HA HXX
      have HX2 : Hid (t = []) := by rw [HXX]; rfl
      rw [HX2.out]
      clear h1 h2 HXX HT0
      go_enter Tryz.func34, Tryz.ntmps34
      go_wp2_with (rw [HW0.out])
      refine (HWH.out _).mono ?_
      rintro e w1 ⟨rfl, rfl⟩
      go_wp2_with fail
      refine (HA.out _ hb0).mono ?_
      rintro e w2 ⟨rfl, hb2⟩
      have hbw := hb0.trans (hb2.mono hb0.size)
      clear k0 k1 k2 hb2
      go_wp2_with fail
      go_ret2
      exact ⟨rfl, hbw⟩
    | true =>
      rw [h2] at HA HXX HT0
      have HX2 : t = askT c n L := by rw [HXX]; rfl
      have HT : Hid (∀ W, Below w.heap.size w W → Calls Tryz.prog 70 #[.agg #[.int .i64 c, .int .i64 n, .slice a L.length cap]] W fun e w' => e = .returned (.string ⟨t.toArray⟩) ∧ Below W.heap.size W w') := by rw [HX2]; exact fun W hW => HT0 rfl W hW
      clear h1 h2 HXX HT0 HX2
      go_enter Tryz.func34, Tryz.ntmps34
      go_wp2_with (rw [HW0.out])
      refine (HWH.out _).mono ?_
      rintro e w1 ⟨rfl, rfl⟩
      go_wp2_with fail
      refine (HA.out _ hb0).mono ?_
      rintro e w2 ⟨rfl, hb2⟩
      obtain ⟨⟨m0, m1, m2⟩, hbw⟩ := HC.out w2 hb2
      clear k0 k1 k2 hb2
      go_wp2_with fail
      refine (HT.out _ hbw).mono ?_
      rintro e w3 ⟨rfl, hb3⟩
      have hbw3 := hbw.trans (hb3.mono hbw.size)
      clear m0 m1 m2 hb3
      go_wp2_with fail
      go_ret2
      exact ⟨rfl, hbw3⟩
end Go.Proofs.YtoobaaklklommaaGreatDoor
