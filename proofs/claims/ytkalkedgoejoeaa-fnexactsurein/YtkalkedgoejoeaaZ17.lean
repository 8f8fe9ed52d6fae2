import Derived.Test.YtkalkedgoejoeaaZ16
import Derived.Test.YtkalkedgoejoeaaZ09
import Derived.Test.YtkalkedgoejoeaaZ08
namespace Go.Proofs.Ytkalkedgoejoeaa
open Go.RowKit

/-- Texts and a bool told, in memory of the call's own. -/
def TxAns (w' : World) (base : Nat) (ok : Bool) (R : List (List UInt8)) (e : Ending) : Prop := ∃ u, e = .returned (.tuple #[u, .bool ok]) ∧ w'.ownsRow base 9 1 u R.length (R.map S)
theorem TxAns.no (w' : World) (base : Nat) : TxAns w' base false [] (.returned (.tuple #[.slice none 0 0, .bool false])) := ⟨_, rfl, World.ownsRow_nil _ _ _ _⟩
def tailL (L : List LkT) : List (List UInt8) := if chB L then (L.getD (L.length - 1) zLk).1 else []
def sureL (L : List LkT) : List (List UInt8) := if chB L then (L.getD 0 zLk).1.take (L.getD 0 zLk).2.2.toNat else []
theorem tailL_no {L : List LkT} (h : chB L = false) : tailL L = [] := by unfold tailL; rw [h]; rfl
theorem sureL_no {L : List LkT} (h : chB L = false) : sureL L = [] := by unfold sureL; rw [h]; rfl

set_option maxRecDepth 20000 in
set_option maxHeartbeats 1000000 in
theorem iReadTail_any (v : Value) (L : List LkT) (w : World) (hr : LkRow w v L) :
    Calls Try.prog 37 #[ChV v] w fun e w' => TxAns w' w.heap.size (chB L) (tailL L) e ∧ Below w.heap.size w w' := by
  have HG : Hid (∀ W, Below w.heap.size w W → Calls Try.prog 17 #[.agg #[v]] W fun e w' => e = .returned (.bool (chB L)) ∧ Below W.heap.size W w') := fun W hW => iGoodChain_any v L W (hr.kept hW)
  unfold ChV
  obtain ⟨a, cap, rfl, hcap, hmax, HROW⟩ := lkrow_value hr
  have hb0 : Below w.heap.size w (w.alloc (.cells #[.slice a L.length cap] 24)) := (Below.refl _ _).alloc (Nat.le_refl _) _
  cases hg : chB L with
  | false =>
    rw [hg] at HG
    rw [tailL_no hg]
    clear hr HROW hg
    go_enter Try.func37, Try.ntmps37
    go_wp2_with fail
    refine (HG.out _ hb0).mono ?_
    rintro e w1 ⟨rfl, hb1⟩
    obtain ⟨_, hbw⟩ := box1k hb1
    go_wp2_with fail
    go_ret2
    exact ⟨TxAns.no _ _, hbw⟩
  | true =>
    have hln := chB_len hg
    have hpos := hln.1
    have hlx := hln.2
    obtain ⟨b, o, ha, hbl, hcel⟩ := HROW.out (by omega)
    subst ha
    obtain ⟨n, hn⟩ : ∃ n, n + 1 = L.length := ⟨L.length - 1, by omega⟩
    have hlt : n < L.length := by omega
    obtain ⟨va, hx⟩ := hcel n hlt
    have hlog := chB_log hg hlt
    have HTL : Hid (tailL L = (L[n]'hlt).1) := by
      show _ = _
      unfold tailL
      rw [hg, if_pos rfl, getD_z (show L.length - 1 < L.length by omega)]
      simp only [← hn, Nat.add_sub_cancel]
    obtain ⟨x, hxe⟩ : ∃ x, x = L[n]'hlt := ⟨_, rfl⟩
    rw [← hxe] at hx HTL hlog
    have hl40 := logB_len hlog
    have HTX : Hid (∀ p ∈ x.1, p.length ≤ 1048576) := fun p hp => Nat.le_trans (logB_text hlog p hp) (by omega)
    have HX : Hid (∀ W, Below w.heap.size w W → LkAt W b (o + n * 3) x va) := fun W hW => hx.kept hW
    have HCT : Hid (∀ W, Below w.heap.size w W → Calls Try.prog 55 #[va] W fun e w' => ∃ u, e = .returned u ∧ w'.ownsRow W.heap.size 9 1 u x.1.length (x.1.map S) ∧ Below W.heap.size W w') := fun W hW => copyTexts_any va x.1 W (hx.kept hW).2 (by omega) HTX.out
    rw [hg] at HG
    rw [HTL.out]
    have wn : IntKind.i64.wrap ((L.length : Int) - 1) = (n : Int) := by rw [wrap_small _ (by omega) (by omega)]; omega
    have hnL : (n : Int) < (L.length : Int) := by omega
    have hni : ((L.length : Int) - 1) = (n : Int) := by omega
    clear hr HROW hg hcel hx hxe hlog hn
    go_enter Try.func37, Try.ntmps37
    go_wp2_with fail
    refine (HG.out _ hb0).mono ?_
    rintro e w1 ⟨rfl, hb1⟩
    obtain ⟨cc, hbw⟩ := box1k hb1
    have p0 := cc 0
    simp at p0
    have hxk := HX.out _ hbw
    unfold LkAt at hxk
    obtain ⟨⟨c0, c1, c2⟩, hzr⟩ := hxk
    obtain ⟨aa, ca, rfl, _, _, _⟩ := hzr
    clear cc hb1
    go_wp2_with fail
    refine (HCT.out _ hbw).mono ?_
    rintro e w2 ⟨u, rfl, ho, hb2⟩
    have HO : Hid (w2.ownsRow w.heap.size 9 1 u x.1.length (x.1.map S)) := own_mono ho hbw.size
    have hbw2 := hbw.trans (hb2.mono hbw.size)
    clear ho hb2 c0 c1 c2 p0
    go_wp2_with fail
    go_ret2
    exact ⟨⟨u, rfl, HO.out⟩, hbw2⟩

set_option maxRecDepth 20000 in
set_option maxHeartbeats 1000000 in
theorem sReadTail_any (v : Value) (L : List LkT) (w : World) (hr : LkRow w v L) :
    Calls Try.prog 36 #[ChV v] w fun e w' => TxAns w' w.heap.size (chB L) (tailL L) e ∧ Below w.heap.size w w' := by
  have HG : Hid (∀ W, Below w.heap.size w W → Calls Try.prog 15 #[.agg #[v]] W fun e w' => e = .returned (.bool (chB L)) ∧ Below W.heap.size W w') := fun W hW => sGoodChain_any v L W (hr.kept hW)
  unfold ChV
  obtain ⟨a, cap, rfl, hcap, hmax, HROW⟩ := lkrow_value hr
  have hb0 : Below w.heap.size w (w.alloc (.cells #[.slice a L.length cap] 24)) := (Below.refl _ _).alloc (Nat.le_refl _) _
  cases hg : chB L with
  | false =>
    rw [hg] at HG
    rw [tailL_no hg]
    clear hr HROW hg
    go_enter Try.func36, Try.ntmps36
    go_wp2_with fail
    refine (HG.out _ hb0).mono ?_
    rintro e w1 ⟨rfl, hb1⟩
    obtain ⟨_, hbw⟩ := box1k hb1
    go_wp2_with fail
    go_ret2
    exact ⟨TxAns.no _ _, hbw⟩
  | true =>
    have hln := chB_len hg
    have hpos := hln.1
    have hlx := hln.2
    obtain ⟨b, o, ha, hbl, hcel⟩ := HROW.out (by omega)
    subst ha
    obtain ⟨n, hn⟩ : ∃ n, n + 1 = L.length := ⟨L.length - 1, by omega⟩
    have hlt : n < L.length := by omega
    obtain ⟨va, hx⟩ := hcel n hlt
    have hlog := chB_log hg hlt
    have HTL : Hid (tailL L = (L[n]'hlt).1) := by
      show _ = _
      unfold tailL
      rw [hg, if_pos rfl, getD_z (show L.length - 1 < L.length by omega)]
      simp only [← hn, Nat.add_sub_cancel]
    obtain ⟨x, hxe⟩ : ∃ x, x = L[n]'hlt := ⟨_, rfl⟩
    rw [← hxe] at hx HTL hlog
    have hl40 := logB_len hlog
    have HX : Hid (∀ W, Below w.heap.size w W → LkAt W b (o + n * 3) x va) := fun W hW => hx.kept hW
    rw [hg] at HG
    rw [HTL.out]
    have wn : IntKind.i64.wrap ((L.length : Int) - 1) = (n : Int) := by rw [wrap_small _ (by omega) (by omega)]; omega
    have hnL : (n : Int) < (L.length : Int) := by omega
    have hni : ((L.length : Int) - 1) = (n : Int) := by omega
    clear hr HROW hg hcel hx hxe hlog hn
    go_enter Try.func36, Try.ntmps36
    go_wp2_with fail
    refine (HG.out _ hb0).mono ?_
    rintro e w1 ⟨rfl, hb1⟩
    obtain ⟨_, hbw⟩ := box1k hb1
    have hbA : Below w1.heap.size w1 (w1.alloc (.cells #[] 9)) := (Below.refl _ _).alloc (Nat.le_refl _) _
    have hbwA := hbw.trans (hbA.mono hbw.size)
    have hz1 : w.heap.size < w1.heap.size := Nat.lt_of_lt_of_le (by simp) hb1.size
    have p0 : (w1.alloc (.cells #[] 9)).cell? ⟨w.heap.size, 0, none⟩ = some (.slice (some ⟨b, o, none⟩) L.length cap) := by
      rw [hbA.cell (p := ⟨w.heap.size, 0, none⟩) hz1]; exact (box1k hb1).1 0
    have hxk := HX.out _ hbwA
    have HRW : Hid (Row (w1.alloc (.cells #[] 9)) va x.1) := (HX.out _ hbwA).2
    unfold LkAt at hxk
    obtain ⟨⟨c0, c1, c2⟩, hzr⟩ := hxk
    obtain ⟨aa, ca, rfl, _, _, _⟩ := hzr
    clear hb1
    go_wp2_with (at_builtin; refine wpList_append_row _ rfl (.tmp 7) (.tmp 16) rfl w1.heap.size _ 0 [] rfl (own_emptyC w1 9 1) _ rfl x.1 HRW.out ?d3 ?d5 ?_)
    case d3 => omega
    case d5 => simp
    intro v2 w2 hown2 hgrow2 _
    have hb2 : Below w1.heap.size w1 w2 := hbA.grown hgrow2 hbA.size (fun k e => by cases e; exact Nat.le_refl _)
    have HO : Hid (w2.ownsRow w.heap.size 9 1 v2 x.1.length (x.1.map S)) := by
      have h : w2.ownsRow w.heap.size 9 1 v2 x.1.length (x.1.map S) := own_mono (by simpa using hown2) hbw.size
      exact h
    have hbw2 := hbw.trans (hb2.mono hbw.size)
    clear hown2 hgrow2 hb2 c0 c1 c2 p0
    go_wp2_with fail
    go_ret2
    exact ⟨⟨v2, rfl, HO.out⟩, hbw2⟩
end Go.Proofs.Ytkalkedgoejoeaa

namespace Go.Proofs.Ytkalkedgoejoeaa
open Go.RowKit

set_option maxRecDepth 20000 in
set_option maxHeartbeats 4000000 in
theorem iSureIn_any (v : Value) (L : List LkT) (w : World) (hr : LkRow w v L) :
    Calls Try.prog 32 #[ChV v] w fun e w' => TxAns w' w.heap.size (chB L) (sureL L) e ∧ Below w.heap.size w w' := by
  have HG : Hid (∀ W, Below w.heap.size w W → Calls Try.prog 17 #[.agg #[v]] W fun e w' => e = .returned (.bool (chB L)) ∧ Below W.heap.size W w') := fun W hW => iGoodChain_any v L W (hr.kept hW)
  unfold ChV
  obtain ⟨a, cap, rfl, hcap, hmax, HROW⟩ := lkrow_value hr
  have hb0 : Below w.heap.size w (w.alloc (.cells #[.slice a L.length cap] 24)) := (Below.refl _ _).alloc (Nat.le_refl _) _
  cases hg : chB L with
  | false =>
    rw [hg] at HG
    rw [sureL_no hg]
    clear hr HROW hg
    go_enter Try.func32, Try.ntmps32
    go_wp2_with fail
    refine (HG.out _ hb0).mono ?_
    rintro e w1 ⟨rfl, hb1⟩
    obtain ⟨_, hbw⟩ := box1k hb1
    go_wp2_with fail
    go_ret2
    exact ⟨TxAns.no _ _, hbw⟩
  | true =>
    have hln := chB_len hg
    have hpos := hln.1
    have hlx := hln.2
    obtain ⟨b, o, ha, hbl, hcel⟩ := HROW.out (by omega)
    subst ha
    have hlt : 0 < L.length := by omega
    obtain ⟨va, hx⟩ := hcel 0 hlt
    have hlog := chB_log hg hlt
    have hsu := chB_sure hg (L.length - 1) 0 hlt (by omega)
    have HTL : Hid (sureL L = (L[0]'hlt).1.take (L[0]'hlt).2.2.toNat) := by
      show _ = _
      unfold sureL
      rw [hg, if_pos rfl, getD_z hlt]
    obtain ⟨x, hxe⟩ : ∃ x, x = L[0]'hlt := ⟨_, rfl⟩
    rw [← hxe] at hx HTL hlog hsu
    have hl40 := logB_len hlog
    have HTX : Hid (∀ p ∈ x.1, p.length ≤ 1048576) := fun p hp => Nat.le_trans (logB_text hlog p hp) (by omega)
    obtain ⟨m, hm⟩ : ∃ m : Nat, x.2.2 = (m : Int) := ⟨x.2.2.toNat, by omega⟩
    have hmle : m ≤ x.1.length := by omega
    rw [hm, show ((m : Int)).toNat = m by omega] at HTL
    rw [Nat.zero_mul, Nat.add_zero] at hx
    have HX : Hid (∀ W, Below w.heap.size w W → (W.cell? ⟨b, o, none⟩ = some va ∧ W.cell? ⟨b, o + 2, none⟩ = some (.int .i64 (m : Int))) ∧ Row W va x.1) := fun W hW => by
      have h := hx.kept hW
      unfold LkAt at h
      rw [hm] at h
      exact ⟨⟨h.1.1, h.1.2.2⟩, h.2⟩
    obtain ⟨aa, ca, hva, hca, hcm, _⟩ := row_value hx.2
    subst hva
    have HRT : Hid (∀ W, Below w.heap.size w W → Row W (.slice aa m ca) (x.1.take m)) := fun W hW => row_take (HX.out W hW).2 hmle
    have HLT : Hid ((x.1.take m).length = m) := by show _ = _; rw [List.length_take]; omega
    rw [hg] at HG
    rw [HTL.out]
    have hnL : (0 : Int) < (L.length : Int) := by omega
    have hm0 : (0 : Int) ≤ (m : Int) := by omega
    have hmca : (m : Int) ≤ (ca : Int) := by omega
    have hmc2 : m ≤ ca := by omega
    clear hr HROW hg hcel hx hxe hlog hsu hm
    have HCT : Hid (∀ W, Below w.heap.size w W → Calls Try.prog 55 #[.slice aa m ca] W fun e w' => ∃ u, e = .returned u ∧ w'.ownsRow W.heap.size 9 1 u (x.1.take m).length ((x.1.take m).map S) ∧ Below W.heap.size W w') := fun W hW => copyTexts_any _ (x.1.take m) W (HRT.out W hW) (by rw [HLT.out]; omega) (fun p hp => HTX.out p (List.mem_of_mem_take hp))
    go_enter Try.func32, Try.ntmps32
    go_wp2_with fail
    refine (HG.out _ hb0).mono ?_
    rintro e w1 ⟨rfl, hb1⟩
    obtain ⟨cc, hbw⟩ := box1k hb1
    have HP0 : Hid (w1.cell? ⟨w.heap.size, 0, none⟩ = some (.slice (some ⟨b, o, none⟩) L.length cap)) := cc 0
    have HC : Hid (∀ W, Below w1.heap.size w1 W → (W.cell? ⟨w.heap.size, 0, none⟩ = some (.slice (some ⟨b, o, none⟩) L.length cap)) ∧ (W.cell? ⟨b, o, none⟩ = some (.slice aa x.1.length ca)) ∧ (W.cell? ⟨b, o + 2, none⟩ = some (.int .i64 (m : Int))) ∧ Below w1.heap.size w1 W) := fun W hW => by
      have h := (HX.out W (hbw.trans (hW.mono hbw.size))).1
      exact ⟨by rw [hW.cell (p := ⟨w.heap.size, 0, none⟩) (World.block_lt_of_cell? _ _ HP0.out)]; exact HP0.out, h.1, h.2, hW⟩
    have HCQ : Hid (∀ W, Below w1.heap.size w1 W → Calls Try.prog 55 #[.slice aa m ca] W fun e w' => ∃ u, e = .returned u ∧ w'.ownsRow W.heap.size 9 1 u (x.1.take m).length ((x.1.take m).map S) ∧ Below W.heap.size W w') := fun W hW => HCT.out W (hbw.trans (hW.mono hbw.size))
    have HTR : Hid (∀ W W', Below w1.heap.size w1 W → Below W.heap.size W W' → Below w1.heap.size w1 W') := fun W W' h1 h2 => h1.trans (h2.mono h1.size)
    have HOW : Hid (∀ (W W' : World) (u : Value), Below w1.heap.size w1 W → W'.ownsRow W.heap.size 9 1 u (x.1.take m).length ((x.1.take m).map S) → W'.ownsRow w.heap.size 9 1 u (x.1.take m).length ((x.1.take m).map S)) := fun W W' u h1 h2 => own_mono h2 (Nat.le_trans hbw.size h1.size)
    have hbz : Below w1.heap.size w1 w1 := Below.refl _ _
    have hbd : Below w1.heap.size w1 w1.drew := (Below.refl _ _).drew
    clear cc hb1 HCT HX HRT
    go_wp2_with fail
    go_region_held3 (fun W => (W.cell? ⟨w.heap.size, 0, none⟩ = some (.slice (some ⟨b, o, none⟩) L.length cap)) ∧ (W.cell? ⟨b, o, none⟩ = some (.slice aa x.1.length ca)) ∧ (W.cell? ⟨b, o + 2, none⟩ = some (.int .i64 (m : Int))) ∧ Below w1.heap.size w1 W) (first | exact HC.out _ (by assumption) | exact HC.out _ (Below.drew (by assumption)))
      ((go_at_call 55; refine (HCQ.out _ (by assumption)).mono ?_; rintro e w2 ⟨u, rfl, ho2, hb2⟩; have hb12 := HTR.out _ _ (by assumption) hb2; have HO : Hid (w2.ownsRow w.heap.size 9 1 u (x.1.take m).length ((x.1.take m).map S)) := HOW.out _ _ _ (by assumption) ho2; clear ho2))
    have hbw2 := hbw.trans (hb12.mono hbw.size)
    go_wp2_with fail
    go_ret2
    exact ⟨⟨u, rfl, HO.out⟩, hbw2⟩

set_option maxRecDepth 20000 in
set_option maxHeartbeats 4000000 in
theorem sSureIn_any (v : Value) (L : List LkT) (w : World) (hr : LkRow w v L) :
    Calls Try.prog 31 #[ChV v] w fun e w' => TxAns w' w.heap.size (chB L) (sureL L) e ∧ Below w.heap.size w w' := by
  have HG : Hid (∀ W, Below w.heap.size w W → Calls Try.prog 15 #[.agg #[v]] W fun e w' => e = .returned (.bool (chB L)) ∧ Below W.heap.size W w') := fun W hW => sGoodChain_any v L W (hr.kept hW)
  unfold ChV
  obtain ⟨a, cap, rfl, hcap, hmax, HROW⟩ := lkrow_value hr
  have hb0 : Below w.heap.size w (w.alloc (.cells #[.slice a L.length cap] 24)) := (Below.refl _ _).alloc (Nat.le_refl _) _
  cases hg : chB L with
  | false =>
    rw [hg] at HG
    rw [sureL_no hg]
    clear hr HROW hg
    go_enter Try.func31, Try.ntmps31
    go_wp2_with fail
    refine (HG.out _ hb0).mono ?_
    rintro e w1 ⟨rfl, hb1⟩
    obtain ⟨_, hbw⟩ := box1k hb1
    go_wp2_with fail
    go_ret2
    exact ⟨TxAns.no _ _, hbw⟩
  | true =>
    have hln := chB_len hg
    have hpos := hln.1
    have hlx := hln.2
    obtain ⟨b, o, ha, hbl, hcel⟩ := HROW.out (by omega)
    subst ha
    have hlt : 0 < L.length := by omega
    obtain ⟨va, hx⟩ := hcel 0 hlt
    have hlog := chB_log hg hlt
    have hsu := chB_sure hg (L.length - 1) 0 hlt (by omega)
    have HTL : Hid (sureL L = (L[0]'hlt).1.take (L[0]'hlt).2.2.toNat) := by
      show _ = _
      unfold sureL
      rw [hg, if_pos rfl, getD_z hlt]
    obtain ⟨x, hxe⟩ : ∃ x, x = L[0]'hlt := ⟨_, rfl⟩
    rw [← hxe] at hx HTL hlog hsu
    have hl40 := logB_len hlog
    have HTX : Hid (∀ p ∈ x.1, p.length ≤ 1048576) := fun p hp => Nat.le_trans (logB_text hlog p hp) (by omega)
    obtain ⟨m, hm⟩ : ∃ m : Nat, x.2.2 = (m : Int) := ⟨x.2.2.toNat, by omega⟩
    have hmle : m ≤ x.1.length := by omega
    rw [hm, show ((m : Int)).toNat = m by omega] at HTL
    rw [Nat.zero_mul, Nat.add_zero] at hx
    have HX : Hid (∀ W, Below w.heap.size w W → (W.cell? ⟨b, o, none⟩ = some va ∧ W.cell? ⟨b, o + 2, none⟩ = some (.int .i64 (m : Int))) ∧ Row W va x.1) := fun W hW => by
      have h := hx.kept hW
      unfold LkAt at h
      rw [hm] at h
      exact ⟨⟨h.1.1, h.1.2.2⟩, h.2⟩
    obtain ⟨aa, ca, hva, hca, hcm, _⟩ := row_value hx.2
    subst hva
    have HRT : Hid (∀ W, Below w.heap.size w W → Row W (.slice aa m ca) (x.1.take m)) := fun W hW => row_take (HX.out W hW).2 hmle
    have HLT : Hid ((x.1.take m).length = m) := by show _ = _; rw [List.length_take]; omega
    rw [hg] at HG
    rw [HTL.out]
    have hnL : (0 : Int) < (L.length : Int) := by omega
    have hm0 : (0 : Int) ≤ (m : Int) := by omega
    have hmca : (m : Int) ≤ (ca : Int) := by omega
    have hmc2 : m ≤ ca := by omega
    clear hr HROW hg hcel hx hxe hlog hsu hm
    go_enter Try.func31, Try.ntmps31
    go_wp2_with fail
    refine (HG.out _ hb0).mono ?_
    rintro e w1 ⟨rfl, hb1⟩
    obtain ⟨cc, hbw⟩ := box1k hb1
    have HP0 : Hid (w1.cell? ⟨w.heap.size, 0, none⟩ = some (.slice (some ⟨b, o, none⟩) L.length cap)) := cc 0
    have HC : Hid (∀ W, Below w1.heap.size w1 W → (W.cell? ⟨w.heap.size, 0, none⟩ = some (.slice (some ⟨b, o, none⟩) L.length cap)) ∧ (W.cell? ⟨b, o, none⟩ = some (.slice aa x.1.length ca)) ∧ (W.cell? ⟨b, o + 2, none⟩ = some (.int .i64 (m : Int))) ∧ Below w1.heap.size w1 W) := fun W hW => by
      have h := (HX.out W (hbw.trans (hW.mono hbw.size))).1
      exact ⟨by rw [hW.cell (p := ⟨w.heap.size, 0, none⟩) (World.block_lt_of_cell? _ _ HP0.out)]; exact HP0.out, h.1, h.2, hW⟩
    have HRQ : Hid (∀ W, Below w1.heap.size w1 W → Row W (.slice aa m ca) (x.1.take m)) := fun W hW => HRT.out W (hbw.trans (hW.mono hbw.size))
    have hbd : Below w1.heap.size w1 w1.drew := (Below.refl _ _).drew
    clear cc hb1 HX HRT
    go_wp2_with fail
    refine wp_region_held_drew (S := fun W : World => Below w1.heap.size w1 W) (by kernel_rfl) hbd (fun hHeld => ?_)
    generalize w1.drew = wX at *
    refine wpAnyH_take (i := 1) (v := .pointer (some ⟨w.heap.size, 0, none⟩)) rfl (by kernel_rfl) (by kernel_rfl) (by kernel_rfl) (fun _ _ _ h => h) (Or.inl ⟨by rfl, ?_⟩) (by assumption) ?_
    · intro W hSW
      go_simp
      all_goals (try omega)
    simp only [Act.put, List.getElem_toArray, List.getElem_cons_succ, List.getElem_cons_zero, List.setIfInBounds_toArray, List.set_cons_succ, List.set_cons_zero]
    refine wpAnyH_take (i := 2) (v := .slice (some ⟨b, o, none⟩) L.length cap) rfl (by kernel_rfl) (by kernel_rfl) (by kernel_rfl) (fun _ _ _ h => h) (Or.inl ⟨by rfl, ?_⟩) (by assumption) ?_
    · intro W hSW
      obtain ⟨p0, c0, c2, _⟩ := HC.out W hSW
      go_simp
      all_goals (try omega)
    simp only [Act.put, List.getElem_toArray, List.getElem_cons_succ, List.getElem_cons_zero, List.setIfInBounds_toArray, List.set_cons_succ, List.set_cons_zero]
    refine wpAnyH_take (i := 3) (v := .pointer (some ⟨b, o, none⟩)) rfl (by kernel_rfl) (by kernel_rfl) (by kernel_rfl) (fun _ _ _ h => h) (Or.inl ⟨by rfl, ?_⟩) (by assumption) ?_
    · intro W hSW
      go_simp
      all_goals (try omega)
    simp only [Act.put, List.getElem_toArray, List.getElem_cons_succ, List.getElem_cons_zero, List.setIfInBounds_toArray, List.set_cons_succ, List.set_cons_zero]
    refine wpAnyH_take (i := 4) (v := .pointer (some ⟨b, o, none⟩)) rfl (by kernel_rfl) (by kernel_rfl) (by kernel_rfl) (fun _ _ _ h => h) (Or.inl ⟨by rfl, ?_⟩) (by assumption) ?_
    · intro W hSW
      go_simp
      all_goals (try omega)
    simp only [Act.put, List.getElem_toArray, List.getElem_cons_succ, List.getElem_cons_zero, List.setIfInBounds_toArray, List.set_cons_succ, List.set_cons_zero]
    refine wpAnyH_take (i := 5) (v := .slice aa x.1.length ca) rfl (by kernel_rfl) (by kernel_rfl) (by kernel_rfl) (fun _ _ _ h => h) (Or.inl ⟨by rfl, ?_⟩) (by assumption) ?_
    · intro W hSW
      obtain ⟨p0, c0, c2, _⟩ := HC.out W hSW
      go_simp
      all_goals (try omega)
    simp only [Act.put, List.getElem_toArray, List.getElem_cons_succ, List.getElem_cons_zero, List.setIfInBounds_toArray, List.set_cons_succ, List.set_cons_zero]
    refine wpAnyH_take (i := 6) (v := .pointer (some ⟨w.heap.size, 0, none⟩)) rfl (by kernel_rfl) (by kernel_rfl) (by kernel_rfl) (fun _ _ _ h => h) (Or.inl ⟨by rfl, ?_⟩) (by assumption) ?_
    · intro W hSW
      go_simp
      all_goals (try omega)
    simp only [Act.put, List.getElem_toArray, List.getElem_cons_succ, List.getElem_cons_zero, List.setIfInBounds_toArray, List.set_cons_succ, List.set_cons_zero]
    refine wpAnyH_take (i := 7) (v := .slice (some ⟨b, o, none⟩) L.length cap) rfl (by kernel_rfl) (by kernel_rfl) (by kernel_rfl) (fun _ _ _ h => h) (Or.inl ⟨by rfl, ?_⟩) (by assumption) ?_
    · intro W hSW
      obtain ⟨p0, c0, c2, _⟩ := HC.out W hSW
      go_simp
      all_goals (try omega)
    simp only [Act.put, List.getElem_toArray, List.getElem_cons_succ, List.getElem_cons_zero, List.setIfInBounds_toArray, List.set_cons_succ, List.set_cons_zero]
    refine wpAnyH_take (i := 8) (v := .pointer (some ⟨b, o, none⟩)) rfl (by kernel_rfl) (by kernel_rfl) (by kernel_rfl) (fun _ _ _ h => h) (Or.inl ⟨by rfl, ?_⟩) (by assumption) ?_
    · intro W hSW
      go_simp
      all_goals (try omega)
    simp only [Act.put, List.getElem_toArray, List.getElem_cons_succ, List.getElem_cons_zero, List.setIfInBounds_toArray, List.set_cons_succ, List.set_cons_zero]
    refine wpAnyH_take (i := 9) (v := .pointer (some ⟨b, o + 2, none⟩)) rfl (by kernel_rfl) (by kernel_rfl) (by kernel_rfl) (fun _ _ _ h => h) (Or.inl ⟨by rfl, ?_⟩) (by assumption) ?_
    · intro W hSW
      go_simp
      all_goals (try omega)
    simp only [Act.put, List.getElem_toArray, List.getElem_cons_succ, List.getElem_cons_zero, List.setIfInBounds_toArray, List.set_cons_succ, List.set_cons_zero]
    refine wpAnyH_take (i := 10) (v := .int .i64 (m : Int)) rfl (by kernel_rfl) (by kernel_rfl) (by kernel_rfl) (fun _ _ _ h => h) (Or.inl ⟨by rfl, ?_⟩) (by assumption) ?_
    · intro W hSW
      obtain ⟨p0, c0, c2, _⟩ := HC.out W hSW
      go_simp
      all_goals (try omega)
    simp only [Act.put, List.getElem_toArray, List.getElem_cons_succ, List.getElem_cons_zero, List.setIfInBounds_toArray, List.set_cons_succ, List.set_cons_zero]
    refine wpAnyH_take (i := 11) (v := .slice aa m ca) rfl (by kernel_rfl) (by kernel_rfl) (by kernel_rfl) (fun _ _ _ h => h) (Or.inl ⟨by rfl, ?_⟩) (by assumption) ?_
    · intro W hSW
      go_simp
      all_goals (try omega)
    simp only [Act.put, List.getElem_toArray, List.getElem_cons_succ, List.getElem_cons_zero, List.setIfInBounds_toArray, List.set_cons_succ, List.set_cons_zero]
    refine wpAnyH_ready (rs := [0]) (by kernel_rfl) (by simp) ?_
    refine AllReadyH.cons rfl (fun K hK => ?_) AllReadyH.nil
    rw [if_pos (by rfl)]
    have hbA : Below wX.heap.size wX (wX.alloc (.cells #[] 9)) := (Below.refl _ _).alloc (Nat.le_refl _) _
    have hb1A : Below w1.heap.size w1 (wX.alloc (.cells #[] 9)) := hbd.trans (hbA.mono hbd.size)
    go_simp
    refine hK.out _ _ hb1A (fun hSS => ?_)
    clear hK
    refine wpAnyH_ready (rs := [12]) (by kernel_rfl) (by simp) ?_
    refine AllReadyH.cons rfl (fun K hK => ?_) AllReadyH.nil
    refine step_append_row rfl (.tmp 7) (.tmp 18) rfl wX.heap.size _ 0 [] rfl (own_emptyC wX 9 1) _ rfl (x.1.take m) (HRQ.out _ hb1A) (by rw [HLT.out]; omega) (by simp) ?_
    intro v2 w2 hown2 hgrow2 _
    have hb2 : Below wX.heap.size wX w2 := hbA.grown hgrow2 hbA.size (fun k e => by cases e; exact Nat.le_refl _)
    have hb12 : Below w1.heap.size w1 w2 := hbd.trans (hb2.mono hbd.size)
    have HO : Hid (w2.ownsRow w.heap.size 9 1 v2 (x.1.take m).length ((x.1.take m).map S)) := by
      have h : w2.ownsRow w.heap.size 9 1 v2 (x.1.take m).length ((x.1.take m).map S) := own_mono (by simpa using hown2) (Nat.le_trans hbw.size hbd.size)
      exact h
    have hbw2 := hbw.trans (hb12.mono hbw.size)
    clear hown2 hgrow2 hb2
    simp only [Act.put, List.getElem_toArray, List.getElem_cons_succ, List.getElem_cons_zero, List.setIfInBounds_toArray, List.set_cons_succ, List.set_cons_zero]
    refine hK.out _ _ hb12 (fun hSS2 => ?_)
    clear hK
    refine wpAnyH_take (i := 13) (v := v2) rfl (by kernel_rfl) (by kernel_rfl) (by kernel_rfl) (fun _ _ _ h => h) (Or.inl ⟨by rfl, ?_⟩) (by assumption) ?_
    · intro W hSW
      go_simp
      all_goals (try omega)
    simp only [Act.put, List.getElem_toArray, List.getElem_cons_succ, List.getElem_cons_zero, List.setIfInBounds_toArray, List.set_cons_succ, List.set_cons_zero]
    refine wpAnyH_take (i := 14) (v := .bool true) rfl (by kernel_rfl) (by kernel_rfl) (by kernel_rfl) (fun _ _ _ h => h) (Or.inl ⟨by rfl, ?_⟩) (by assumption) ?_
    · intro W hSW
      go_simp
      all_goals (try omega)
    simp only [Act.put, List.getElem_toArray, List.getElem_cons_succ, List.getElem_cons_zero, List.setIfInBounds_toArray, List.set_cons_succ, List.set_cons_zero]
    refine wpAnyH_done (by kernel_rfl) ?_ _
    go_wp2_with fail
    go_ret2
    exact ⟨⟨v2, rfl, HO.out⟩, hbw2⟩
end Go.Proofs.Ytkalkedgoejoeaa
