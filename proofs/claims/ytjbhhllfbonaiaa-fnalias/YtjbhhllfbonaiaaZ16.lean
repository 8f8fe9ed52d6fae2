import Derived.Test.YtjbhhllfbonaiaaZ13
import Derived.Test.YtjbhhllfbonaiaaZ08
import Derived.RegionTactic
namespace Go.Proofs.Ytjbhhllfbonaiaa
open Go.RowKit

/-- How often each is picked: behind k columns. -/
def bump (a : List Int) (i : Nat) (x : Int) : List Int := a.set i (a.getD i 0 + x)
def oftS (t : Int) (a : List Int) (i : Nat) (x : Int × Int) : List Int := bump (bump a i x.1) x.2.toNat (t - x.1)
def oftK (L : List (Int × Int)) (t : Int) : Nat → List Int
  | 0 => List.replicate L.length 0
  | k + 1 => oftS t (oftK L t k) k (L.getD k (0, 0))
theorem bump_length (a : List Int) (i : Nat) (x : Int) : (bump a i x).length = a.length := by simp [bump]
theorem oftK_length (L : List (Int × Int)) (t : Int) : ∀ k, (oftK L t k).length = L.length
  | 0 => by simp [oftK]
  | k + 1 => by unfold oftK oftS; rw [bump_length, bump_length, oftK_length L t k]
theorem oftK_next {L : List (Int × Int)} {t : Int} {k : Nat} (hk : k < L.length) : oftK L t (k + 1) = bump (bump (oftK L t k) k (L[k]).1) (L[k]).2.toNat (t - (L[k]).1) := by
  have e : L.getD k (0, 0) = L[k] := by simp [hk]
  show oftS t (oftK L t k) k (L.getD k (0, 0)) = _
  rw [e]; rfl
def betw (n : Int) (a : List Int) : Prop := ∀ x ∈ a, 0 ≤ x ∧ x ≤ n
theorem bump_betw {n m : Int} {a : List Int} {i : Nat} {x : Int} (h : betw n a) (h0 : 0 ≤ n) (hx : 0 ≤ x ∧ x ≤ m) : betw (n + m) (bump a i x) := by
  intro y hy
  rcases List.mem_or_eq_of_mem_set hy with hy | rfl
  · have := h y hy; omega
  · by_cases hi : i < a.length
    · have h1 := h _ (List.getElem_mem hi)
      have e : a.getD i 0 = a[i] := by simp [hi]
      rw [e]; omega
    · have e : a.getD i 0 = 0 := by simp [List.getD_eq_getElem?_getD, List.getElem?_eq_none (by omega : a.length ≤ i)]
      rw [e]; omega
theorem fit_col {L : List (Int × Int)} {t : Int} {k : Nat} (h : fitA t L = true) (hk : k < L.length) : 0 ≤ (L[k]).1 ∧ (L[k]).1 ≤ t ∧ 0 ≤ (L[k]).2 ∧ (L[k]).2 ≤ (L.length : Int) - 1 := by
  unfold fitA goodA at h
  simp only [Bool.and_eq_true] at h
  have h1 := List.all_eq_true.1 h.1.1 _ (List.getElem_mem hk)
  have h2 := List.all_eq_true.1 h.1.2.2 _ (List.getElem_mem hk)
  unfold mostB at h1
  unfold colB inB at h2
  simp only [Bool.and_eq_true, decide_eq_true_eq] at h1 h2
  omega
theorem oftK_betw {L : List (Int × Int)} {t : Int} (h : fitA t L = true) : ∀ k, k ≤ L.length → betw (1200 * (k : Int)) (oftK L t k)
  | 0, _ => fun x hx => by have : x = 0 := List.eq_of_mem_replicate hx; omega
  | k + 1, hk => by
    have h1 := fit_col h (show k < L.length by omega)
    have h2 := fit_facts h
    rw [oftK_next (show k < L.length by omega)]
    have h3 := bump_betw (m := 600) (i := k) (oftK_betw h k (by omega)) (by omega) (show 0 ≤ (L[k]).1 ∧ (L[k]).1 ≤ 600 by omega)
    have h4 := bump_betw (m := 600) (i := (L[k]).2.toNat) h3 (by omega) (show 0 ≤ t - (L[k]).1 ∧ t - (L[k]).1 ≤ 600 by omega)
    rw [show 1200 * ((k + 1 : Nat) : Int) = 1200 * (k : Int) + 600 + 600 by omega]
    exact h4
theorem betw_get {n : Int} {a : List Int} (h : betw n a) {i : Nat} (hi : i < a.length) : 0 ≤ a[i] ∧ a[i] ≤ n := h _ (List.getElem_mem hi)
theorem bump_at {a : List Int} {i : Nat} {x : Int} (hi : i < a.length) : bump a i x = a.set i (a[i] + x) := by unfold bump; simp [hi]
theorem made_zeros {w w1 : World} {n : Nat} (h : w1.ownsRow w.heap.size 3 1 (.slice (some ⟨w.heap.size, 0, none⟩) n n) n (madeCells #[.int .i64 0] n).toList) : ZSRow w1 w.heap.size (List.replicate n 0) := by
  have e : (madeCells #[.int .i64 0] n).toList = (List.replicate n (0 : Int)).map (Value.int .i64) := by
    rw [List.map_replicate]
    refine List.ext_getElem (by simp [madeCells]) (fun i h1 h2 => ?_)
    simp [madeCells, Nat.mod_one]
  rw [e] at h
  have hl : (List.replicate n (0 : Int)).length = n := List.length_replicate
  generalize List.replicate n (0 : Int) = zs at h hl
  subst hl
  exact zs_own h
/-- What OftenIn tells. -/
def OfO (w' : World) (base : Nat) (L : List (Int × Int)) (t : Int) (e : Ending) : Prop :=
  (fitA t L = false ∧ e = .returned (.tuple #[.slice none 0 0, .bool false])) ∨ (fitA t L = true ∧ ∃ g, base ≤ g ∧ e = .returned (.tuple #[.slice (some ⟨g, 0, none⟩) L.length L.length, .bool true]) ∧ ZSRow w' g (oftK L t L.length))

set_option maxRecDepth 20000 in
set_option maxHeartbeats 2000000 in
theorem iOftenIn_any (v : Value) (t : Int) (L : List (Int × Int)) (w : World) (hr : ColRow w v L) :
    Calls Try.prog 8 #[v, .int .i64 t] w fun e w' => OfO w' w.heap.size L t e ∧ Below w.heap.size w w' := by
  obtain ⟨i0, hi, hz0, hz1, hz2⟩ := info_parts info_intY
  have HR0 : Hid (ColRow w v L) := hr
  obtain ⟨a, cap, rfl, hcap, hmax, HROW⟩ := col_value hr
  clear hr
  cases hf : fitA t L with
  | false =>
    have HP : Hid (fitA t L = false) := hf
    go_enter Try.func8, Try.ntmps8
    go_wp2_with fail
    refine (iFits_any _ _ L _ HR0.out).mono ?_
    rintro e w1 ⟨rfl, hb1⟩
    rw [hf]
    go_wp2_with fail
    go_ret2
    exact ⟨.inl ⟨HP.out, rfl⟩, hb1⟩
  | true =>
    have HP : Hid (fitA t L = true) := hf
    obtain ⟨ht1, ht2, hl12⟩ := fit_facts hf
    go_enter Try.func8, Try.ntmps8
    go_wp2_with fail
    refine (iFits_any _ _ L _ HR0.out).mono ?_
    rintro e w1 ⟨rfl, hb1⟩
    rw [hf]
    clear hf
    have hsz1 := hb1.size
    go_wp2_with (at_make; refine wpList_make_full _ rfl _ _ 23 rfl w1.heap.size 3 i0 (.int .i64 0) 1 Try.underlying23 hi hz0 hz1 _ _ _ _ L.length rfl rfl rfl rfl ?b2 ?b3 ?b4 ?_)
    case b2 => rw [hz2]; omega
    case b3 => unfold maxLen; omega
    case b4 => exact Nat.le_refl _
    intro w2 hown hgrow
    have hb2 : Below w.heap.size w w2 := hb1.grown hgrow hsz1 (fun k h => by cases h)
    have HS2 : Hid (ZSRow w2 w1.heap.size (oftK L t 0)) := made_zeros (w := w1) hown
    obtain ⟨g, hg⟩ : ∃ g, g = w1.heap.size := ⟨_, rfl⟩
    rw [← hg] at HS2 hsz1
    clear hown hgrow
    go_wp2_with fail
    rw [← hg]
    clear hg hb1
    go_loopw [18] (fun i wr => ∃ k : Nat, k ≤ L.length ∧ i = .int .i64 (k : Int) ∧ Hid (ZSRow wr g (oftK L t k)) ∧ Below w.heap.size w wr) (fun i _ => L.length - (intOf i).toNat)
    case atStart => exact ⟨0, Nat.zero_le _, rfl, HS2, hb2⟩
    case round =>
      obtain ⟨k, hk, rfl, HR, hb⟩ := hrel
      clear HS2 hb2
      by_cases hlt : k < L.length
      · obtain ⟨b, o, ha, hbl, hc⟩ := HROW.out (by omega)
        rw [ha]
        have hcx := hc k hlt
        unfold ColAt at hcx
        rw [← hb.cell (p := ⟨b, o + k * 2, none⟩) hbl, ← hb.cell (p := ⟨b, o + k * 2 + 1, none⟩) hbl] at hcx
        have hcol := fit_col HP.out hlt
        have hlk : k < (oftK L t k).length := by rw [oftK_length]; exact hlt
        have hbt := betw_get (oftK_betw HP.out k hk) hlk
        have hpk := HR.out.2 k hlk
        have hgz := HR.out.1
        have hst := HR.out.set k hlk ((oftK L t k)[k]'hlk + (L[k]'hlt).1)
        rw [← bump_at hlk] at hst
        have HN : Hid (oftK L t (k + 1) = bump (bump (oftK L t k) k (L[k]'hlt).1) (L[k]'hlt).2.toNat (t - (L[k]'hlt).1)) := oftK_next hlt
        obtain ⟨x, hx⟩ : ∃ x, x = L[k]'hlt := ⟨_, rfl⟩
        rw [← hx] at hcx HN hcol hst
        obtain ⟨x1, x2⟩ := x
        obtain ⟨c0, c1⟩ := hcx
        obtain ⟨y, hy⟩ : ∃ y, y = (oftK L t k)[k]'hlk := ⟨_, rfl⟩
        rw [← hy] at hpk hbt hst
        obtain ⟨hcg, hfg⟩ := hpk
        have HST : Hid (ZSRow (wr.setCell ⟨g, k, none⟩ (.int .i64 (y + x1))) g (bump (oftK L t k) k x1)) := hst
        have hki : (k : Int) < (L.length : Int) := by omega
        clear hc hx hy hst
        simp only at hcol
        go_wp2_with fail
        go_region
        all_goals (go_wp2_with fail)
        obtain ⟨j, hj⟩ : ∃ j : Nat, x2 = (j : Int) := ⟨x2.toNat, by omega⟩
        subst hj
        have hbs : Below w.heap.size w (wr.setCell ⟨g, k, none⟩ (.int .i64 (y + x1))) := hb.setCell (p := ⟨g, k, none⟩) hsz1 _
        have hse : wr.heap.size = (wr.setCell ⟨g, k, none⟩ (.int .i64 (y + x1))).heap.size := by simp
        generalize wr.setCell ⟨g, k, none⟩ (.int .i64 (y + x1)) = ws at HST hbs hse ⊢
        rw [hse]
        have hlj : j < (bump (oftK L t k) k x1).length := by rw [bump_length, oftK_length]; omega
        have hpj := HST.out.2 j hlj
        have hbz := betw_get (bump_betw (m := 600) (i := k) (oftK_betw HP.out k hk) (by omega) (show 0 ≤ x1 ∧ x1 ≤ 600 by omega)) hlj
        have hgs := HST.out.1
        have hst := HST.out.set j hlj ((bump (oftK L t k) k x1)[j]'hlj + (t - x1))
        have HN2 : oftK L t (k + 1) = bump (bump (oftK L t k) k x1) j (t - x1) := by rw [HN.out]; rfl
        rw [← bump_at hlj, ← HN2] at hst
        obtain ⟨z, hz⟩ : ∃ z, z = (bump (oftK L t k) k x1)[j]'hlj := ⟨_, rfl⟩
        rw [← hz] at hpj hbz hst
        obtain ⟨hcj, hfj⟩ := hpj
        have HS3 : Hid (ZSRow (ws.setCell ⟨g, j, none⟩ (.int .i64 (z + (t - x1)))) g (oftK L t (k + 1))) := hst
        have hb3 : Below w.heap.size w (ws.setCell ⟨g, j, none⟩ (.int .i64 (z + (t - x1)))) := hbs.setCell (p := ⟨g, j, none⟩) hsz1 _
        have hji : (j : Int) < (L.length : Int) := by omega
        clear hst hz hlj HN2 HST hcg hfg c0 c1 hse hbs hb HR hgz
        go_region
        all_goals (go_wp2_with fail)
        go_roundw
        case rel => exact ⟨k + 1, by omega, by go_num, HS3.out.kept (((Below.refl _ _).alloc (Nat.le_refl _) _).drew.drew), (hb3.alloc hb3.size _).drew.drew⟩
        case measure => simp [intOf]; omega
      · have HE : Hid (k = L.length) := (show k = L.length by omega)
        have HF : Hid (ZSRow wr g (oftK L t L.length)) := by have := HR.out; rw [HE.out] at this; exact this
        go_wp2_with fail
        go_ret2
        exact ⟨.inr ⟨HP.out, g, hsz1, rfl, HF.out⟩, hb⟩
/-- Numbers told: none at all, or in a block from base on. -/
def OwnZ (w : World) (base : Nat) (v : Value) (O : List Int) : Prop := (v = .slice none 0 0 ∧ O = []) ∨ ∃ g, base ≤ g ∧ v = .slice (some ⟨g, 0, none⟩) O.length O.length ∧ ZSRow w g O
def oftL (L : List (Int × Int)) (t : Int) : List Int := if fitA t L then oftK L t L.length else []
theorem oftL_len (L : List (Int × Int)) (t : Int) : (oftL L t).length ≤ L.length := by unfold oftL; split <;> simp [oftK_length]
theorem ofo_own {w : World} {base : Nat} {L : List (Int × Int)} {t : Int} {e : Ending} (h : OfO w base L t e) : ∃ v, e = .returned (.tuple #[v, .bool (fitA t L)]) ∧ OwnZ w base v (oftL L t) := by
  rcases h with ⟨h1, rfl⟩ | ⟨h1, g, hg, rfl, hs⟩
  · exact ⟨_, by rw [h1], .inl ⟨rfl, by unfold oftL; rw [h1]; rfl⟩⟩
  · have e : oftL L t = oftK L t L.length := by unfold oftL; rw [h1]; rfl
    exact ⟨_, by rw [h1], .inr ⟨g, hg, by rw [e, oftK_length], by rw [e]; exact hs⟩⟩
theorem OwnZ.kept {w w' : World} {base : Nat} {v : Value} {O : List Int} (h : OwnZ w base v O) (hb : Below w.heap.size w w') : OwnZ w' base v O := by
  rcases h with h | ⟨g, hg, rfl, hs⟩
  · exact .inl h
  · exact .inr ⟨g, hg, rfl, hs.kept hb⟩
theorem OwnZ.row {w : World} {base : Nat} {v : Value} {O : List Int} (h : OwnZ w base v O) (hl : O.length ≤ 1048576) : ZRow .i64 w v O := by
  rcases h with ⟨rfl, rfl⟩ | ⟨g, hg, rfl, hs⟩
  · exact zrow_nil .i64 w
  · exact hs.row hl
/-- What lies in other blocks is kept where one block is written to. -/
theorem OwnZ.grown {w w' : World} {base top : Nat} {v : Value} {O : List Int} (h : OwnZ w base v O) (hb : Below top w w') (ht : ∀ g, v.ownBlock = some g → g < top) : OwnZ w' base v O := by
  rcases h with h | ⟨g, hg, rfl, hs⟩
  · exact .inl h
  · have hlt : g < top := ht g rfl
    exact .inr ⟨g, hg, rfl, Nat.lt_of_lt_of_le hs.1 hb.size, fun j hj => by rw [hb.cell (p := ⟨g, j, none⟩) hlt, hb.frozen (p := ⟨g, j, none⟩) hlt]; exact hs.2 j hj⟩
theorem OwnZ.lt {w : World} {base : Nat} {v : Value} {O : List Int} (h : OwnZ w base v O) : ∀ g, v.ownBlock = some g → g < w.heap.size := by
  intro g hg
  rcases h with ⟨rfl, _⟩ | ⟨g', _, rfl, hs⟩
  · cases hg
  · have e : g' = g := Option.some.inj hg
    rw [← e]; exact hs.1
/-- Columns that are written to. -/
def AnyC (w : World) (g n : Nat) : Prop := ∃ L : List (Int × Int), L.length = n ∧ CoRow w g L
theorem AnyC.get {w : World} {g n k : Nat} (h : AnyC w g n) (hk : k < n) : ∃ y : Int × Int, (w.cell? ⟨g, k * 2, none⟩ = some (.int .i64 y.1) ∧ w.cell? ⟨g, k * 2 + 1, none⟩ = some (.int .i64 y.2)) ∧ w.frozen? ⟨g, k * 2, none⟩ = false ∧ w.frozen? ⟨g, k * 2 + 1, none⟩ = false := by
  obtain ⟨L, hl, hs⟩ := h
  have h1 := hs.2 k (by omega)
  exact ⟨_, h1.1, h1.2⟩
theorem AnyC.put {w : World} {g n k : Nat} (h : AnyC w g n) (hk : k < n) (x : Int × Int) : AnyC (putC w g (k * 2) x) g n := by
  obtain ⟨L, hl, hs⟩ := h
  exact ⟨L.set k x, by simpa using hl, hs.set k (by omega) x⟩
end Go.Proofs.Ytjbhhllfbonaiaa
