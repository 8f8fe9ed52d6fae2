import Derived.Test.YtjocegnhhhfbeaaGreatDoorZ24
import Derived.Test.YtjocegnhhhfbeaaGreatDoorZ14
import Derived.Test.YtjocegnhhhfbeaaGreatDoorZ26
import Derived.Test.YtjocegnhhhfbeaaGreatDoorZ25
import Derived.Test.YtjocegnhhhfbeaaGreatDoorZ28
import Derived.Test.YtjocegnhhhfbeaaGreatDoorZ29
import Derived.Test.YtjocegnhhhfbeaaGreatDoorZ20
import Derived.Deep.QuietTactic
import Derived.BigRegion
namespace Go.Proofs.YtjocegnhhhfbeaaGreatDoor
open Go.RowKit

/-- A good record, of a size that can be. -/
def GoodQ (x : List UInt8 × Int × Int × List UInt8) : Prop := nameB x.1 = true ∧ (dataP x.2.1 x.2.2.2).isSome = true ∧ x.1.length ≤ 1048576 ∧ x.2.2.2.length ≤ 1048576
/-- How many stand ahead of a record. -/
def posQ (L : List (List UInt8 × Int × Int × List UInt8)) (r : List UInt8 × Int × Int × List UInt8) : Nat := (L.takeWhile (fun x => decide (cmp4 x r < 0))).length
/-- A record put in its place, unless it stands there. -/
def putQ (L : List (List UInt8 × Int × Int × List UInt8)) (r : List UInt8 × Int × Int × List UInt8) : List (List UInt8 × Int × Int × List UInt8) := if L[posQ L r]? = some r then L else L.take (posQ L r) ++ [r] ++ L.drop (posQ L r)
theorem posQ_le (L : List (List UInt8 × Int × Int × List UInt8)) (r : List UInt8 × Int × Int × List UInt8) : posQ L r ≤ L.length := by
  unfold posQ
  induction L with
  | nil => simp
  | cons a l ih => rw [List.takeWhile_cons]; split <;> simp <;> omega
theorem posQ_eq {L : List (List UInt8 × Int × Int × List UInt8)} {r : List UInt8 × Int × Int × List UInt8} : ∀ (k : Nat), (hk : k ≤ L.length) → (∀ j, (hj : j < L.length) → j < k → cmp4 L[j] r < 0) → (∀ (h : k < L.length), ¬ cmp4 L[k] r < 0) → posQ L r = k := by
  induction L with
  | nil => intro k hk _ _; simp at hk; subst hk; rfl
  | cons a l ih =>
    intro k hk h1 h2
    unfold posQ
    rw [List.takeWhile_cons]
    cases k with
    | zero =>
      have h := h2 (by simp)
      simp only [List.getElem_cons_zero] at h
      rw [if_neg (by simpa using h)]
      rfl
    | succ k =>
      have h := h1 0 (by simp) (by omega)
      simp only [List.getElem_cons_zero] at h
      rw [if_pos (by simpa using h), List.length_cons]
      have e := ih k (by simpa using hk) (fun j hj hjk => by have := h1 (j + 1) (by simpa using hj) (by omega); simpa using this) (fun hk' => by have := h2 (by simpa using hk'); simpa using this)
      unfold posQ at e
      rw [e]
theorem rec_cmp {x y : List UInt8 × Int × Int × List UInt8} (hx : nameB x.1 = true) (hy : nameB y.1 = true) : cmpRec x.1 x.2.1 x.2.2.1 x.2.2.2 y.1 y.2.1 y.2.2.1 y.2.2.2 = cmp4 x y := (ord_cmp ⟨hx, hy⟩).symm

theorem take_row {W : World} {b o cap k : Nat} {L : List (List UInt8 × Int × Int × List UInt8)} (h : RRow W (.slice (some ⟨b, o, none⟩) L.length cap) L) (hk : k ≤ L.length) : RRow W (.slice (some ⟨b, o, none⟩) k cap) (L.take k) := by
  obtain ⟨a, c, e, h1, h2, h3⟩ := h
  injection e with e1 _ e2
  subst e2
  have hl : (L.take k).length = k := by rw [List.length_take]; exact Nat.min_eq_left hk
  refine ⟨_, cap, by rw [hl], by rw [hl]; omega, h2, ?_⟩
  rcases h3 with h3 | ⟨b', o', e3, h4, h5⟩
  · left; rw [h3]; simp
  · right
    refine ⟨b', o', by rw [e1, e3], h4, fun j hj => ?_⟩
    rw [List.getElem_take]
    exact h5 j (by rw [hl] at hj; omega)
theorem drop_row {W : World} {b o cap k : Nat} {L : List (List UInt8 × Int × Int × List UInt8)} (h : RRow W (.slice (some ⟨b, o, none⟩) L.length cap) L) (hk : k ≤ L.length) : RRow W (.slice (some ⟨b, o + k * 4, none⟩) (L.length - k) (cap - k)) (L.drop k) := by
  obtain ⟨a, c, e, h1, h2, h3⟩ := h
  injection e with e1 _ e2
  subst e2
  have hl : (L.drop k).length = L.length - k := List.length_drop
  refine ⟨_, cap - k, by rw [hl], by rw [hl]; omega, by omega, ?_⟩
  rcases h3 with h3 | ⟨b', o', e3, h4, h5⟩
  · left; rw [h3]; simp
  · right
    rw [e3] at e1
    injection e1 with e4
    injection e4 with e5 e6 _
    refine ⟨b, o + k * 4, rfl, by rw [e5]; exact h4, fun j hj => ?_⟩
    rw [List.getElem_drop, e5, e6, show o' + k * 4 + j * 4 = o' + (k + j) * 4 by omega]
    exact h5 (k + j) (by rw [hl] at hj; omega)
theorem rrow0 {W : World} {a : Option Addr} {n c : Nat} (hn : n = 0) (hc : c ≤ 9223372036854775807) : RRow W (.slice a n c) [] := ⟨a, c, by rw [hn]; rfl, Nat.zero_le _, by unfold maxLen; omega, .inl rfl⟩
theorem own_nil4 (w : World) (base : Nat) : w.ownsRow base 43 4 (.slice none 0 0) 0 (rcells []) := by
  simpa [rcells] using World.ownsRow_nil _ _ _ _
theorem own4n {w : World} {base n : Nat} {e : TypeId} {v : Value} {xs : List Value} (h : w.ownsRow base e 4 v n xs) : ∃ a cap, v = .slice a n cap ∧ cap ≤ maxLen ∧ ∀ m c, v = .slice none m c → c = 0 := by
  rcases h.2 with ⟨rfl, rfl⟩ | ⟨g, cap, cur, rfl, _, _, _, hm, _⟩
  · exact ⟨none, 0, rfl, by unfold maxLen; omega, fun m c e => by cases e; rfl⟩
  · exact ⟨_, cap, rfl, hm, fun m c e => by cases e⟩

set_option maxRecDepth 20000 in
set_option maxHeartbeats 8000000 in
theorem l3Put_any (v : Value) (L : List (List UInt8 × Int × Int × List UInt8)) (r : List UInt8 × Int × Int × List UInt8) (w : World) (hr : RRow w v L) (hnil : ∀ n c, v = .slice none n c → c = 0) (hG : Hid (∀ x ∈ L, GoodQ x)) (hg : Hid (GoodQ r)) (hl : L.length < 1048576) :
    Calls Tryz.prog 21 #[v, .agg #[.string ⟨r.1.toArray⟩, .int .i64 r.2.1, .int .i64 r.2.2.1, .string ⟨r.2.2.2.toArray⟩]] w fun e w' => (∃ u, e = .returned u ∧ RRow w' u (putQ L r) ∧ ∀ n c, u = .slice none n c → c = 0) ∧ Below w.heap.size w w' := by
  have HRR : Hid (∀ W, Below w.heap.size w W → RRow W v L) := fun W hW => hr.kept hW
  have HNIL : Hid (∀ n c, v = .slice none n c → c = 0) := hnil
  obtain ⟨a, cap, rfl, hcap, hmax, HROW⟩ := rrow_value hr
  clear hr hnil
  have HCM : Hid (∀ (x : List UInt8 × Int × Int × List UInt8) W, x ∈ L → Calls Tryz.prog 36 #[.agg #[.string ⟨x.1.toArray⟩, .int .i64 x.2.1, .int .i64 x.2.2.1, .string ⟨x.2.2.2.toArray⟩], .agg #[.string ⟨r.1.toArray⟩, .int .i64 r.2.1, .int .i64 r.2.2.1, .string ⟨r.2.2.2.toArray⟩]] W fun e w' => e = .returned (.int .i64 (cmp4 x r)) ∧ Below W.heap.size W w') := fun x W hx => by
    have h1 := hG.out x hx
    have h2 := hg.out
    have h := l3Compare_any ⟨x.1.toArray⟩ ⟨x.2.2.2.toArray⟩ x.2.1 x.2.2.1 ⟨r.1.toArray⟩ ⟨r.2.2.2.toArray⟩ r.2.1 r.2.2.1 W (by rw [size_list]; exact h1.2.2.1) (by rw [size_list]; exact h2.2.2.1) (by rw [size_list]; exact h1.2.2.2) (by rw [size_list]; exact h2.2.2.2) ⟨h1.1, h2.1⟩ ⟨h1.2.1, h2.2.1⟩
    rw [← rec_cmp h1.1 h2.1]
    exact h
  go_enter Tryz.func21, Tryz.ntmps21
  go_wp2_with fail
  have hk0 : (w.alloc (.cells #[.string ⟨r.1.toArray⟩, .int .i64 r.2.1, .int .i64 r.2.2.1, .string ⟨r.2.2.2.toArray⟩] 43)).heap[w.heap.size]? = some (.cells #[.string ⟨r.1.toArray⟩, .int .i64 r.2.1, .int .i64 r.2.2.1, .string ⟨r.2.2.2.toArray⟩] 43) := blk_new _ _
  have HB0 : Hid (Below w.heap.size w (w.alloc (.cells #[.string ⟨r.1.toArray⟩, .int .i64 r.2.1, .int .i64 r.2.2.1, .string ⟨r.2.2.2.toArray⟩] 43))) := (Below.refl _ _).alloc (Nat.le_refl _) _
  go_loopw [5] (fun i wr => ∃ k : Nat, k ≤ L.length ∧ i = .int .i64 (k : Int) ∧ Hid (∀ j, (hj : j < L.length) → j < k → cmp4 L[j] r < 0) ∧ Hid (wr.heap[w.heap.size]? = some (.cells #[.string ⟨r.1.toArray⟩, .int .i64 r.2.1, .int .i64 r.2.2.1, .string ⟨r.2.2.2.toArray⟩] 43)) ∧ Below w.heap.size w wr) (fun i _ => L.length - (intOf i).toNat)
  case atStart => exact ⟨0, Nat.zero_le _, rfl, fun j _ h => absurd h (Nat.not_lt_zero _), hk0, HB0.out⟩
  case round =>
    obtain ⟨k, hk, rfl, HA, HK, hb⟩ := hrel
    clear hk0 HB0
    have hz : w.heap.size < wr.heap.size := (Array.getElem?_eq_some_iff.1 HK.out).1
    by_cases hlt : k < L.length
    · obtain ⟨b, o, ha, hbl, hcel⟩ := HROW.out (by omega)
      subst ha
      have hcx := (hcel k hlt).kept hb
      have HUP : Hid (cmp4 (L[k]'hlt) r < 0 → ∀ j, (hj : j < L.length) → j < k + 1 → cmp4 L[j] r < 0) := fun h j hj hj2 => by
        rcases Nat.lt_or_ge j k with h' | h'
        · exact HA.out j hj h'
        · obtain rfl : j = k := by omega
          exact h
      have HSTOP : Hid (¬ cmp4 (L[k]'hlt) r < 0 → posQ L r = k) := fun h => posQ_eq k hk HA.out (fun _ => h)
      have HPUT : Hid (posQ L r = k → putQ L r = if (L[k]'hlt) = r then L else L.take k ++ [r] ++ L.drop k) := fun h => by
        unfold putQ
        rw [h, List.getElem?_eq_getElem hlt]
        simp only [Option.some.injEq]
      have hmem := List.getElem_mem hlt
      obtain ⟨x, hxe⟩ : ∃ x, x = L[k]'hlt := ⟨_, rfl⟩
      rw [← hxe] at hcx HUP HSTOP HPUT hmem
      clear hcel hxe
      have HX : Hid (∀ W, Below wr.heap.size wr W → (W.cell? ⟨b, o + k * 4, none⟩ = some (.string ⟨x.1.toArray⟩) ∧ W.cell? ⟨b, o + k * 4 + 1, none⟩ = some (.int .i64 x.2.1) ∧ W.cell? ⟨b, o + k * 4 + 2, none⟩ = some (.int .i64 x.2.2.1) ∧ W.cell? ⟨b, o + k * 4 + 3, none⟩ = some (.string ⟨x.2.2.2.toArray⟩)) ∧ (W.cell? ⟨w.heap.size, 0, none⟩ = some (.string ⟨r.1.toArray⟩) ∧ W.cell? ⟨w.heap.size, 1, none⟩ = some (.int .i64 r.2.1) ∧ W.cell? ⟨w.heap.size, 2, none⟩ = some (.int .i64 r.2.2.1) ∧ W.cell? ⟨w.heap.size, 3, none⟩ = some (.string ⟨r.2.2.2.toArray⟩))) := fun W hW => by
        have h1 := hcx.kept hW
        exact ⟨⟨h1.1, h1.2.1, h1.2.2.1, h1.2.2.2⟩, dif4 ((hW.block _ hz).trans HK.out)⟩
      have hbd : Below wr.heap.size wr wr.drew := (Below.refl _ _).drew
      have HW : Hid (∀ W, Below wr.heap.size wr W → Below w.heap.size w W ∧ W.heap[w.heap.size]? = some (.cells #[.string ⟨r.1.toArray⟩, .int .i64 r.2.1, .int .i64 r.2.2.1, .string ⟨r.2.2.2.toArray⟩] 43)) := fun W hW => ⟨hb.trans (hW.mono hb.size), (hW.block _ hz).trans HK.out⟩
      have HTR : Hid (∀ W W', Below wr.heap.size wr W → Below W.heap.size W W' → Below wr.heap.size wr W') := fun W W' h1 h2 => h1.trans (h2.mono h1.size)
      have HCX : Hid (∀ W, Calls Tryz.prog 36 #[.agg #[.string ⟨x.1.toArray⟩, .int .i64 x.2.1, .int .i64 x.2.2.1, .string ⟨x.2.2.2.toArray⟩], .agg #[.string ⟨r.1.toArray⟩, .int .i64 r.2.1, .int .i64 r.2.2.1, .string ⟨r.2.2.2.toArray⟩]] W fun e w' => e = .returned (.int .i64 (cmp4 x r)) ∧ Below W.heap.size W w') := fun W => HCM.out x W hmem
      have hG := guard_rec
      have hki : (k : Int) < (L.length : Int) := by omega
      obtain ⟨c, hc⟩ : ∃ c, c = cmp4 x r := ⟨_, rfl⟩
      rw [← hc] at HUP HSTOP HCX
      clear hc hcx HK
      by_cases hlow : c < 0
      · have HU : Hid (∀ j, (hj : j < L.length) → j < k + 1 → cmp4 L[j] r < 0) := HUP.out hlow
        clear HSTOP HUP HPUT
        go_wp2_with fail
        refine wp_region_quiet (C := fun W => Below wr.heap.size wr W) (by kernel_rfl) (by kernel_rfl) hbd ?_
        refine wpQuiet_step (fun K hK => ?_)
        rw [if_pos (by rfl)]
        refine ⟨.int .i64 (k : Int), fun W hW => quiet_ok ?_, hK _ ?_⟩
        · have q := HX.out W hW
          obtain ⟨⟨m0, m1, m2, m3⟩, ⟨z0, z1, z2, z3⟩⟩ := q
          go_simp
          all_goals (try omega)
        clear hK K
        simp only [Act.put, List.setIfInBounds_toArray, List.set_cons_succ, List.set_cons_zero]
        refine wpQuiet_step (fun K hK => ?_)
        rw [if_pos (by rfl)]
        refine ⟨.slice (some ⟨b, o, none⟩) L.length cap, fun W hW => quiet_ok ?_, hK _ ?_⟩
        · have q := HX.out W hW
          obtain ⟨⟨m0, m1, m2, m3⟩, ⟨z0, z1, z2, z3⟩⟩ := q
          go_simp
          all_goals (try omega)
        clear hK K
        simp only [Act.put, List.setIfInBounds_toArray, List.set_cons_succ, List.set_cons_zero]
        refine wpQuiet_step (fun K hK => ?_)
        rw [if_pos (by rfl)]
        refine ⟨.int .i64 (L.length : Int), fun W hW => quiet_ok ?_, hK _ ?_⟩
        · have q := HX.out W hW
          obtain ⟨⟨m0, m1, m2, m3⟩, ⟨z0, z1, z2, z3⟩⟩ := q
          go_simp
          all_goals (try omega)
        clear hK K
        simp only [Act.put, List.setIfInBounds_toArray, List.set_cons_succ, List.set_cons_zero]
        refine wpQuiet_step (fun K hK => ?_)
        rw [if_pos (by rfl)]
        refine ⟨.bool true, fun W hW => quiet_ok ?_, hK _ ?_⟩
        · have q := HX.out W hW
          obtain ⟨⟨m0, m1, m2, m3⟩, ⟨z0, z1, z2, z3⟩⟩ := q
          go_simp
          all_goals (try omega)
        clear hK K
        simp only [Act.put, List.setIfInBounds_toArray, List.set_cons_succ, List.set_cons_zero]
        refine wpQuiet_step (fun K hK => ?_)
        rw [if_pos (by rfl)]
        refine ⟨.bool true, fun W hW => quiet_ok ?_, hK _ ?_⟩
        · have q := HX.out W hW
          obtain ⟨⟨m0, m1, m2, m3⟩, ⟨z0, z1, z2, z3⟩⟩ := q
          go_simp
          all_goals (try omega)
        clear hK K
        simp only [Act.put, List.setIfInBounds_toArray, List.set_cons_succ, List.set_cons_zero]
        refine wpQuiet_step (fun K hK => ?_)
        rw [if_pos (by rfl)]
        refine ⟨.slice (some ⟨b, o, none⟩) L.length cap, fun W hW => quiet_ok ?_, hK _ ?_⟩
        · have q := HX.out W hW
          obtain ⟨⟨m0, m1, m2, m3⟩, ⟨z0, z1, z2, z3⟩⟩ := q
          go_simp
          all_goals (try omega)
        clear hK K
        simp only [Act.put, List.setIfInBounds_toArray, List.set_cons_succ, List.set_cons_zero]
        refine wpQuiet_step (fun K hK => ?_)
        rw [if_pos (by rfl)]
        refine ⟨.int .i64 (k : Int), fun W hW => quiet_ok ?_, hK _ ?_⟩
        · have q := HX.out W hW
          obtain ⟨⟨m0, m1, m2, m3⟩, ⟨z0, z1, z2, z3⟩⟩ := q
          go_simp
          all_goals (try omega)
        clear hK K
        simp only [Act.put, List.setIfInBounds_toArray, List.set_cons_succ, List.set_cons_zero]
        refine wpQuiet_step (fun K hK => ?_)
        rw [if_pos (by rfl)]
        refine ⟨.pointer (some ⟨b, o + k * 4, none⟩), fun W hW => quiet_ok ?_, hK _ ?_⟩
        · have q := HX.out W hW
          obtain ⟨⟨m0, m1, m2, m3⟩, ⟨z0, z1, z2, z3⟩⟩ := q
          go_simp
          all_goals (try omega)
        clear hK K
        simp only [Act.put, List.setIfInBounds_toArray, List.set_cons_succ, List.set_cons_zero]
        refine wpQuiet_step (fun K hK => ?_)
        rw [if_pos (by rfl)]
        refine ⟨.agg #[.string ⟨x.1.toArray⟩, .int .i64 x.2.1, .int .i64 x.2.2.1, .string ⟨x.2.2.2.toArray⟩], fun W hW => quiet_ok ?_, hK _ ?_⟩
        · have q := HX.out W hW
          obtain ⟨⟨m0, m1, m2, m3⟩, ⟨z0, z1, z2, z3⟩⟩ := q
          go_simp
          all_goals (try omega)
        clear hK K
        simp only [Act.put, List.setIfInBounds_toArray, List.set_cons_succ, List.set_cons_zero]
        refine wpQuiet_step (fun K hK => ?_)
        rw [if_pos (by rfl)]
        refine ⟨.agg #[.string ⟨r.1.toArray⟩, .int .i64 r.2.1, .int .i64 r.2.2.1, .string ⟨r.2.2.2.toArray⟩], fun W hW => quiet_ok ?_, hK _ ?_⟩
        · have q := HX.out W hW
          obtain ⟨⟨m0, m1, m2, m3⟩, ⟨z0, z1, z2, z3⟩⟩ := q
          go_simp
          all_goals (try omega)
        clear hK K
        simp only [Act.put, List.setIfInBounds_toArray, List.set_cons_succ, List.set_cons_zero]
        refine wpQuiet_step (fun K hK => ?_)
        rw [if_pos (by rfl)]
        refine ⟨.int .i64 c, fun W hW => quiet_call (f := 36) (args := #[.agg #[.string ⟨x.1.toArray⟩, .int .i64 x.2.1, .int .i64 x.2.2.1, .string ⟨x.2.2.2.toArray⟩], .agg #[.string ⟨r.1.toArray⟩, .int .i64 r.2.1, .int .i64 r.2.2.1, .string ⟨r.2.2.2.toArray⟩]]) ?_ ?_, hK _ ?_⟩
        · go_simp
        · exact (HCX.out W).mono fun e w'' h => ⟨h.1, HTR.out _ _ hW h.2⟩
        clear hK K
        simp only [Act.put, List.setIfInBounds_toArray, List.set_cons_succ, List.set_cons_zero]
        refine wpQuiet_step (fun K hK => ?_)
        rw [if_pos (by rfl)]
        refine ⟨.bool true, fun W hW => quiet_ok ?_, hK _ ?_⟩
        · have q := HX.out W hW
          obtain ⟨⟨m0, m1, m2, m3⟩, ⟨z0, z1, z2, z3⟩⟩ := q
          go_simp
          all_goals (try omega)
        clear hK K
        simp only [Act.put, List.setIfInBounds_toArray, List.set_cons_succ, List.set_cons_zero]
        refine wpQuiet_step (fun K hK => ?_)
        rw [if_pos (by rfl)]
        refine ⟨.bool true, fun W hW => quiet_ok ?_, hK _ ?_⟩
        · have q := HX.out W hW
          obtain ⟨⟨m0, m1, m2, m3⟩, ⟨z0, z1, z2, z3⟩⟩ := q
          go_simp
          all_goals (try omega)
        clear hK K
        simp only [Act.put, List.setIfInBounds_toArray, List.set_cons_succ, List.set_cons_zero]
        refine wpQuiet_nil ?_
        intro W hW
        obtain ⟨hbW, hkW⟩ := HW.out W hW
        have HKW : Hid (W.heap[w.heap.size]? = some (.cells #[.string ⟨r.1.toArray⟩, .int .i64 r.2.1, .int .i64 r.2.2.1, .string ⟨r.2.2.2.toArray⟩] 43)) := hkW
        clear hkW
        go_wp2_with fail
        go_roundw
        case rel => exact ⟨k + 1, by omega, by go_num, HU, HKW, hbW⟩
        case measure => simp [intOf]; omega
      · have HPOS : Hid (putQ L r = if x = r then L else L.take k ++ [r] ++ L.drop k) := HPUT.out (HSTOP.out hlow)
        clear HSTOP HUP HPUT
        go_wp2_with fail
        refine wp_region_quiet (C := fun W => Below wr.heap.size wr W) (by kernel_rfl) (by kernel_rfl) hbd ?_
        refine wpQuiet_step (fun K hK => ?_)
        rw [if_pos (by rfl)]
        refine ⟨.int .i64 (k : Int), fun W hW => quiet_ok ?_, hK _ ?_⟩
        · have q := HX.out W hW
          obtain ⟨⟨m0, m1, m2, m3⟩, ⟨z0, z1, z2, z3⟩⟩ := q
          go_simp
          all_goals (try omega)
        clear hK K
        simp only [Act.put, List.setIfInBounds_toArray, List.set_cons_succ, List.set_cons_zero]
        refine wpQuiet_step (fun K hK => ?_)
        rw [if_pos (by rfl)]
        refine ⟨.slice (some ⟨b, o, none⟩) L.length cap, fun W hW => quiet_ok ?_, hK _ ?_⟩
        · have q := HX.out W hW
          obtain ⟨⟨m0, m1, m2, m3⟩, ⟨z0, z1, z2, z3⟩⟩ := q
          go_simp
          all_goals (try omega)
        clear hK K
        simp only [Act.put, List.setIfInBounds_toArray, List.set_cons_succ, List.set_cons_zero]
        refine wpQuiet_step (fun K hK => ?_)
        rw [if_pos (by rfl)]
        refine ⟨.int .i64 (L.length : Int), fun W hW => quiet_ok ?_, hK _ ?_⟩
        · have q := HX.out W hW
          obtain ⟨⟨m0, m1, m2, m3⟩, ⟨z0, z1, z2, z3⟩⟩ := q
          go_simp
          all_goals (try omega)
        clear hK K
        simp only [Act.put, List.setIfInBounds_toArray, List.set_cons_succ, List.set_cons_zero]
        refine wpQuiet_step (fun K hK => ?_)
        rw [if_pos (by rfl)]
        refine ⟨.bool true, fun W hW => quiet_ok ?_, hK _ ?_⟩
        · have q := HX.out W hW
          obtain ⟨⟨m0, m1, m2, m3⟩, ⟨z0, z1, z2, z3⟩⟩ := q
          go_simp
          all_goals (try omega)
        clear hK K
        simp only [Act.put, List.setIfInBounds_toArray, List.set_cons_succ, List.set_cons_zero]
        refine wpQuiet_step (fun K hK => ?_)
        rw [if_pos (by rfl)]
        refine ⟨.bool true, fun W hW => quiet_ok ?_, hK _ ?_⟩
        · have q := HX.out W hW
          obtain ⟨⟨m0, m1, m2, m3⟩, ⟨z0, z1, z2, z3⟩⟩ := q
          go_simp
          all_goals (try omega)
        clear hK K
        simp only [Act.put, List.setIfInBounds_toArray, List.set_cons_succ, List.set_cons_zero]
        refine wpQuiet_step (fun K hK => ?_)
        rw [if_pos (by rfl)]
        refine ⟨.slice (some ⟨b, o, none⟩) L.length cap, fun W hW => quiet_ok ?_, hK _ ?_⟩
        · have q := HX.out W hW
          obtain ⟨⟨m0, m1, m2, m3⟩, ⟨z0, z1, z2, z3⟩⟩ := q
          go_simp
          all_goals (try omega)
        clear hK K
        simp only [Act.put, List.setIfInBounds_toArray, List.set_cons_succ, List.set_cons_zero]
        refine wpQuiet_step (fun K hK => ?_)
        rw [if_pos (by rfl)]
        refine ⟨.int .i64 (k : Int), fun W hW => quiet_ok ?_, hK _ ?_⟩
        · have q := HX.out W hW
          obtain ⟨⟨m0, m1, m2, m3⟩, ⟨z0, z1, z2, z3⟩⟩ := q
          go_simp
          all_goals (try omega)
        clear hK K
        simp only [Act.put, List.setIfInBounds_toArray, List.set_cons_succ, List.set_cons_zero]
        refine wpQuiet_step (fun K hK => ?_)
        rw [if_pos (by rfl)]
        refine ⟨.pointer (some ⟨b, o + k * 4, none⟩), fun W hW => quiet_ok ?_, hK _ ?_⟩
        · have q := HX.out W hW
          obtain ⟨⟨m0, m1, m2, m3⟩, ⟨z0, z1, z2, z3⟩⟩ := q
          go_simp
          all_goals (try omega)
        clear hK K
        simp only [Act.put, List.setIfInBounds_toArray, List.set_cons_succ, List.set_cons_zero]
        refine wpQuiet_step (fun K hK => ?_)
        rw [if_pos (by rfl)]
        refine ⟨.agg #[.string ⟨x.1.toArray⟩, .int .i64 x.2.1, .int .i64 x.2.2.1, .string ⟨x.2.2.2.toArray⟩], fun W hW => quiet_ok ?_, hK _ ?_⟩
        · have q := HX.out W hW
          obtain ⟨⟨m0, m1, m2, m3⟩, ⟨z0, z1, z2, z3⟩⟩ := q
          go_simp
          all_goals (try omega)
        clear hK K
        simp only [Act.put, List.setIfInBounds_toArray, List.set_cons_succ, List.set_cons_zero]
        refine wpQuiet_step (fun K hK => ?_)
        rw [if_pos (by rfl)]
        refine ⟨.agg #[.string ⟨r.1.toArray⟩, .int .i64 r.2.1, .int .i64 r.2.2.1, .string ⟨r.2.2.2.toArray⟩], fun W hW => quiet_ok ?_, hK _ ?_⟩
        · have q := HX.out W hW
          obtain ⟨⟨m0, m1, m2, m3⟩, ⟨z0, z1, z2, z3⟩⟩ := q
          go_simp
          all_goals (try omega)
        clear hK K
        simp only [Act.put, List.setIfInBounds_toArray, List.set_cons_succ, List.set_cons_zero]
        refine wpQuiet_step (fun K hK => ?_)
        rw [if_pos (by rfl)]
        refine ⟨.int .i64 c, fun W hW => quiet_call (f := 36) (args := #[.agg #[.string ⟨x.1.toArray⟩, .int .i64 x.2.1, .int .i64 x.2.2.1, .string ⟨x.2.2.2.toArray⟩], .agg #[.string ⟨r.1.toArray⟩, .int .i64 r.2.1, .int .i64 r.2.2.1, .string ⟨r.2.2.2.toArray⟩]]) ?_ ?_, hK _ ?_⟩
        · go_simp
        · exact (HCX.out W).mono fun e w'' h => ⟨h.1, HTR.out _ _ hW h.2⟩
        clear hK K
        simp only [Act.put, List.setIfInBounds_toArray, List.set_cons_succ, List.set_cons_zero]
        refine wpQuiet_step (fun K hK => ?_)
        rw [if_pos (by rfl)]
        refine ⟨.bool false, fun W hW => quiet_ok ?_, hK _ ?_⟩
        · have q := HX.out W hW
          obtain ⟨⟨m0, m1, m2, m3⟩, ⟨z0, z1, z2, z3⟩⟩ := q
          go_simp
          all_goals (try omega)
        clear hK K
        simp only [Act.put, List.setIfInBounds_toArray, List.set_cons_succ, List.set_cons_zero]
        refine wpQuiet_step (fun K hK => ?_)
        rw [if_pos (by rfl)]
        refine ⟨.bool false, fun W hW => quiet_ok ?_, hK _ ?_⟩
        · have q := HX.out W hW
          obtain ⟨⟨m0, m1, m2, m3⟩, ⟨z0, z1, z2, z3⟩⟩ := q
          go_simp
          all_goals (try omega)
        clear hK K
        simp only [Act.put, List.setIfInBounds_toArray, List.set_cons_succ, List.set_cons_zero]
        refine wpQuiet_nil ?_
        intro W hW
        obtain ⟨hbW, hkW⟩ := HW.out W hW
        have HKX : Hid (W.heap[w.heap.size]? = some (.cells #[.string ⟨r.1.toArray⟩, .int .i64 r.2.1, .int .i64 r.2.2.1, .string ⟨r.2.2.2.toArray⟩] 43)) := hkW
        clear hkW
        obtain ⟨same, hsame⟩ : ∃ same, same = decide (x = r) := ⟨_, rfl⟩
        have hE : ∀ W, (Op.equalIn 10000 43 (.agg #[.string ⟨x.1.toArray⟩, .int .i64 x.2.1, .int .i64 x.2.2.1, .string ⟨x.2.2.2.toArray⟩]) (.agg #[.string ⟨r.1.toArray⟩, .int .i64 r.2.1, .int .i64 r.2.2.1, .string ⟨r.2.2.2.toArray⟩])).run Tryz.prog W = .ok same W := fun W => by rw [eq_rec x r W, hsame]
        have HP1 : Hid (same = true → putQ L r = L) := fun h => by rw [HPOS.out, if_pos (by rw [hsame, decide_eq_true_eq] at h; exact h)]
        have HP0 : Hid (same = false → putQ L r = L.take k ++ [r] ++ L.drop k) := fun h => by rw [HPOS.out, if_neg (by rw [hsame, decide_eq_false_iff_not] at h; exact h)]
        have hbe : Below wr.heap.size wr W.drew := hW.drew
        clear hsame HPOS
        go_wp2_with fail
        refine wp_region_quiet (C := fun W => Below wr.heap.size wr W) (by kernel_rfl) (by kernel_rfl) hbe ?_
        refine wpQuiet_step (fun K hK => ?_)
        rw [if_pos (by rfl)]
        refine ⟨.int .i64 (k : Int), fun W hW => quiet_ok ?_, hK _ ?_⟩
        · have q := HX.out W hW
          obtain ⟨⟨m0, m1, m2, m3⟩, ⟨z0, z1, z2, z3⟩⟩ := q
          go_simp
          all_goals (try omega)
        clear hK K
        simp only [Act.put, List.setIfInBounds_toArray, List.set_cons_succ, List.set_cons_zero]
        refine wpQuiet_step (fun K hK => ?_)
        rw [if_pos (by rfl)]
        refine ⟨.slice (some ⟨b, o, none⟩) L.length cap, fun W hW => quiet_ok ?_, hK _ ?_⟩
        · have q := HX.out W hW
          obtain ⟨⟨m0, m1, m2, m3⟩, ⟨z0, z1, z2, z3⟩⟩ := q
          go_simp
          all_goals (try omega)
        clear hK K
        simp only [Act.put, List.setIfInBounds_toArray, List.set_cons_succ, List.set_cons_zero]
        refine wpQuiet_step (fun K hK => ?_)
        rw [if_pos (by rfl)]
        refine ⟨.int .i64 (L.length : Int), fun W hW => quiet_ok ?_, hK _ ?_⟩
        · have q := HX.out W hW
          obtain ⟨⟨m0, m1, m2, m3⟩, ⟨z0, z1, z2, z3⟩⟩ := q
          go_simp
          all_goals (try omega)
        clear hK K
        simp only [Act.put, List.setIfInBounds_toArray, List.set_cons_succ, List.set_cons_zero]
        refine wpQuiet_step (fun K hK => ?_)
        rw [if_pos (by rfl)]
        refine ⟨.bool true, fun W hW => quiet_ok ?_, hK _ ?_⟩
        · have q := HX.out W hW
          obtain ⟨⟨m0, m1, m2, m3⟩, ⟨z0, z1, z2, z3⟩⟩ := q
          go_simp
          all_goals (try omega)
        clear hK K
        simp only [Act.put, List.setIfInBounds_toArray, List.set_cons_succ, List.set_cons_zero]
        refine wpQuiet_step (fun K hK => ?_)
        rw [if_pos (by rfl)]
        refine ⟨.bool true, fun W hW => quiet_ok ?_, hK _ ?_⟩
        · have q := HX.out W hW
          obtain ⟨⟨m0, m1, m2, m3⟩, ⟨z0, z1, z2, z3⟩⟩ := q
          go_simp
          all_goals (try omega)
        clear hK K
        simp only [Act.put, List.setIfInBounds_toArray, List.set_cons_succ, List.set_cons_zero]
        refine wpQuiet_step (fun K hK => ?_)
        rw [if_pos (by rfl)]
        refine ⟨.slice (some ⟨b, o, none⟩) L.length cap, fun W hW => quiet_ok ?_, hK _ ?_⟩
        · have q := HX.out W hW
          obtain ⟨⟨m0, m1, m2, m3⟩, ⟨z0, z1, z2, z3⟩⟩ := q
          go_simp
          all_goals (try omega)
        clear hK K
        simp only [Act.put, List.setIfInBounds_toArray, List.set_cons_succ, List.set_cons_zero]
        refine wpQuiet_step (fun K hK => ?_)
        rw [if_pos (by rfl)]
        refine ⟨.int .i64 (k : Int), fun W hW => quiet_ok ?_, hK _ ?_⟩
        · have q := HX.out W hW
          obtain ⟨⟨m0, m1, m2, m3⟩, ⟨z0, z1, z2, z3⟩⟩ := q
          go_simp
          all_goals (try omega)
        clear hK K
        simp only [Act.put, List.setIfInBounds_toArray, List.set_cons_succ, List.set_cons_zero]
        refine wpQuiet_step (fun K hK => ?_)
        rw [if_pos (by rfl)]
        refine ⟨.pointer (some ⟨b, o + k * 4, none⟩), fun W hW => quiet_ok ?_, hK _ ?_⟩
        · have q := HX.out W hW
          obtain ⟨⟨m0, m1, m2, m3⟩, ⟨z0, z1, z2, z3⟩⟩ := q
          go_simp
          all_goals (try omega)
        clear hK K
        simp only [Act.put, List.setIfInBounds_toArray, List.set_cons_succ, List.set_cons_zero]
        refine wpQuiet_step (fun K hK => ?_)
        rw [if_pos (by rfl)]
        refine ⟨.agg #[.string ⟨x.1.toArray⟩, .int .i64 x.2.1, .int .i64 x.2.2.1, .string ⟨x.2.2.2.toArray⟩], fun W hW => quiet_ok ?_, hK _ ?_⟩
        · have q := HX.out W hW
          obtain ⟨⟨m0, m1, m2, m3⟩, ⟨z0, z1, z2, z3⟩⟩ := q
          go_simp
          all_goals (try omega)
        clear hK K
        simp only [Act.put, List.setIfInBounds_toArray, List.set_cons_succ, List.set_cons_zero]
        refine wpQuiet_step (fun K hK => ?_)
        rw [if_pos (by rfl)]
        refine ⟨.agg #[.string ⟨r.1.toArray⟩, .int .i64 r.2.1, .int .i64 r.2.2.1, .string ⟨r.2.2.2.toArray⟩], fun W hW => quiet_ok ?_, hK _ ?_⟩
        · have q := HX.out W hW
          obtain ⟨⟨m0, m1, m2, m3⟩, ⟨z0, z1, z2, z3⟩⟩ := q
          go_simp
          all_goals (try omega)
        clear hK K
        simp only [Act.put, List.setIfInBounds_toArray, List.set_cons_succ, List.set_cons_zero]
        refine wpQuiet_step (fun K hK => ?_)
        rw [if_pos (by rfl)]
        refine ⟨.bool same, fun W hW => quiet_ok ?_, hK _ ?_⟩
        · have q := HX.out W hW
          obtain ⟨⟨m0, m1, m2, m3⟩, ⟨z0, z1, z2, z3⟩⟩ := q
          go_simp
          all_goals (try omega)
        clear hK K
        simp only [Act.put, List.setIfInBounds_toArray, List.set_cons_succ, List.set_cons_zero]
        refine wpQuiet_step (fun K hK => ?_)
        rw [if_pos (by rfl)]
        refine ⟨.bool same, fun W hW => quiet_ok ?_, hK _ ?_⟩
        · have q := HX.out W hW
          obtain ⟨⟨m0, m1, m2, m3⟩, ⟨z0, z1, z2, z3⟩⟩ := q
          go_simp
          all_goals (try omega)
        clear hK K
        simp only [Act.put, List.setIfInBounds_toArray, List.set_cons_succ, List.set_cons_zero]
        refine wpQuiet_nil ?_
        intro W2 hW2
        obtain ⟨hbW2, hkW2⟩ := HW.out W2 hW2
        have HKX2 : Hid (W2.heap[w.heap.size]? = some (.cells #[.string ⟨r.1.toArray⟩, .int .i64 r.2.1, .int .i64 r.2.2.1, .string ⟨r.2.2.2.toArray⟩] 43)) := hkW2
        clear hkW2 HKX
        cases same with
        | true =>
          have HPE : Hid (putQ L r = L) := HP1.out rfl
          have HV := HRR.out W2 hbW2
          go_wp2_with fail
          go_ret
          exact ⟨⟨_, rfl, by rw [HPE.out]; exact HV, fun n c h => by cases h⟩, hbW2⟩
        | false =>
          have HPN : Hid (putQ L r = L.take k ++ [r] ++ L.drop k) := HP0.out rfl
          have HKX : Hid (W2.heap[w.heap.size]? = some (.cells #[.string ⟨r.1.toArray⟩, .int .i64 r.2.1, .int .i64 r.2.2.1, .string ⟨r.2.2.2.toArray⟩] 43)) := HKX2.out
          have HBX : Hid (Below w.heap.size w W2) := hbW2
          have HTK : Hid (∀ W, Below w.heap.size w W → RRow W (.slice (some ⟨b, o, none⟩) k cap) (L.take k)) := fun W hW => take_row (HRR.out W hW) (by omega)
          have HNK : Hid (∀ n c, Value.slice (some ⟨b, o, none⟩) k cap = .slice none n c → c = 0) := fun n c h => by cases h
          have HDK : Hid (∀ W, Below w.heap.size w W → RRow W (.slice (some ⟨b, o + k * 4, none⟩) (L.length - k) (cap - k)) (L.drop k)) := fun W hW => drop_row (HRR.out W hW) (by omega)
          have HND : Hid (∀ n c, Value.slice (some ⟨b, o + k * 4, none⟩) (L.length - k) (cap - k) = .slice none n c → c = 0) := fun n c h => by cases h
          clear HP0 HP1 hW hW2 hbe HX HW HTR HCX
          go_wp2_with (first | (at_builtin; refine wpList_append_rows rfl (.tmp 35) (.tmp 38) 27 rfl Tryz.underlying27 w.heap.size _ 0 [] rfl rfl ?a0 _ (L.take k) rfl ?a1 ?a2 ?a3 ?a4 ?_))
          case a0 => exact own_nil4 _ _
          case a1 => exact HTK.out _ HBX.out
          case a2 => exact HNK.out
          case a3 => simp; omega
          case a4 => exact HBX.out.size
          intro v1 w3 hown1 hgrow1
          have HO3 : Hid (w3.ownsRow w.heap.size 43 4 v1 (L.take k).length (rcells (L.take k))) := by
            have h : w3.ownsRow w.heap.size 43 4 v1 (L.take k).length (rcells (L.take k)) := by
              rw [List.length_take, Nat.min_eq_left (by omega)]
              exact hown1
            exact h
          have hb3 : Below w.heap.size w w3 := HBX.out.grown hgrow1 HBX.out.size (fun j hj => by cases hj)
          have HK3 : Hid (w3.heap[w.heap.size]? = some (.cells #[.string ⟨r.1.toArray⟩, .int .i64 r.2.1, .int .i64 r.2.2.1, .string ⟨r.2.2.2.toArray⟩] 43)) := ((grown_kpt hgrow1).block w.heap.size (Array.getElem?_eq_some_iff.1 HKX.out).1 (fun h => by cases h)).trans HKX.out
          obtain ⟨d0, d1, d2, d3⟩ := rec4_cells HK3.out
          have HLT : Hid ((L.take k).length = k) := by rw [List.length_take]; exact Nat.min_eq_left (by omega)
          clear hown1 hgrow1
          go_wp2_with (first | (at_builtin; refine wpList_append_rows rfl (.tmp 40) (.tmp 42) 27 rfl Tryz.underlying27 w.heap.size v1 _ (L.take k) rfl rfl ?c0 _ [r] rfl ?c1 ?c2 ?c3 ?c4 ?_))
          case c0 => exact HO3.out.alloc _
          case c1 => exact rrow_one _ r _ _ (by simp)
          case c2 => intro n c h; cases h
          case c3 => rw [HLT.out]; simp; omega
          case c4 => simp; have := hb3.size; omega
          intro v2 w4 hown2 hgrow2
          have HO4 : Hid (w4.ownsRow w.heap.size 43 4 v2 (L.take k ++ [r]).length (rcells (L.take k ++ [r]))) := by
            have h : w4.ownsRow w.heap.size 43 4 v2 (L.take k ++ [r]).length (rcells (L.take k ++ [r])) := by
              rw [List.length_append, HLT.out]
              exact hown2
            exact h
          have hb4 : Below w.heap.size w w4 := (hb3.alloc hb3.size _).grown hgrow2 (by simp; have := hb3.size; omega) (fun j hj => (HO3.out.lt j hj).1)
          clear hown2 hgrow2 d0 d1 d2 d3
          go_wp2_with (first | (at_builtin; refine wpList_append_rows rfl (.tmp 44) (.tmp 47) 27 rfl Tryz.underlying27 w.heap.size v2 _ (L.take k ++ [r]) rfl rfl ?e0 _ (L.drop k) rfl ?e1 ?e2 ?e3 ?e4 ?_))
          case e0 => exact HO4.out
          case e1 => exact HDK.out _ hb4
          case e2 => exact HND.out
          case e3 => rw [List.length_append, HLT.out, List.length_drop]; simp; omega
          case e4 => exact hb4.size
          intro v3 w5 hown3 hgrow3
          have hown4 : w5.ownsRow w.heap.size 43 4 v3 (L.take k ++ [r] ++ L.drop k).length (rcells (L.take k ++ [r] ++ L.drop k)) := by
            have e1 : (L.take k ++ [r] ++ L.drop k).length = k + (L.length - k + 1) := by simp; omega
            have e2 : L.take k ++ [r] ++ L.drop k = L.take k ++ r :: L.drop k := by simp
            rw [e1, e2]
            exact hown3
          have HO5 : Hid (OwnQ w5 w.heap.size v3 (L.take k ++ [r] ++ L.drop k)) := own_q hown4
          have hb5 : Below w.heap.size w w5 := hb4.grown hgrow3 hb4.size (fun j hj => (HO4.out.lt j hj).1)
          obtain ⟨a5, k5, hv5, hk5, hn5⟩ := own4n hown4
          clear hown3 hown4 hgrow3
          subst hv5
          go_wp2_with fail
          go_ret
          exact ⟨⟨_, rfl, by rw [HPN.out]; exact HO5.out.row, hn5⟩, hb5⟩
    · have hkk : k = L.length := by omega
      subst hkk
      have HPN : Hid (putQ L r = L ++ [r]) := by
        have h : putQ L r = L ++ [r] := by
          unfold putQ
          rw [posQ_eq L.length (Nat.le_refl _) HA.out (fun h => absurd h (Nat.lt_irrefl _)), List.getElem?_eq_none (Nat.le_refl _)]
          simp
        exact h
      have hki : ¬ (L.length : Int) < (L.length : Int) := by omega
      rcases Nat.eq_zero_or_pos L.length with hl0 | hpos
      · have hL : L = [] := List.eq_nil_of_length_eq_zero hl0
        subst hL
        clear hl0
        cases a with
        | none =>
          have hc0 : cap = 0 := HNIL.out _ _ rfl
          subst hc0
          have HTK : Hid (∀ W, Below w.heap.size w W → RRow W (.slice none 0 0) []) := fun W _ => rrow_nil W
          have HNK : Hid (∀ n c, Value.slice none 0 0 = .slice none n c → c = 0) := fun n c h => by cases h; rfl
          clear HA HROW HCM HNIL hcap hmax
          go_wp2_with fail
          go_region
          all_goals
            go_wp2_with fail
            go_region
          all_goals
            obtain ⟨WX, hWX⟩ : ∃ WX, WX = wr.drew.drew := ⟨_, rfl⟩
            have HKX : Hid (WX.heap[w.heap.size]? = some (.cells #[.string ⟨r.1.toArray⟩, .int .i64 r.2.1, .int .i64 r.2.2.1, .string ⟨r.2.2.2.toArray⟩] 43)) := by rw [hWX]; exact HK.out
            have HBX : Hid (Below w.heap.size w WX) := by rw [hWX]; exact hb.drew.drew
            rw [← hWX]
            clear hWX
            go_wp2_with (first | (at_builtin; refine wpList_append_rows rfl (.tmp 35) (.tmp 38) 27 rfl Tryz.underlying27 w.heap.size _ 0 [] rfl rfl ?a0 _ [] rfl ?a1 ?a2 ?a3 ?a4 ?_))
            case a0 => exact own_nil4 _ _
            case a1 => first | exact HTK.out _ HBX.out | (simpa using HTK.out _ HBX.out)
            case a2 => first | exact HNK.out | (intro n c h; cases h; done) | (intro n c h; simpa using HNK.out n c h)
            case a3 => simp <;> omega
            case a4 => exact HBX.out.size
            intro v1 w3 hown1 hgrow1
            have HO3 : Hid (w3.ownsRow w.heap.size 43 4 v1 0 (rcells [])) := hown1
            have hb3 : Below w.heap.size w w3 := HBX.out.grown hgrow1 HBX.out.size (fun j hj => by cases hj)
            have HK3 : Hid (w3.heap[w.heap.size]? = some (.cells #[.string ⟨r.1.toArray⟩, .int .i64 r.2.1, .int .i64 r.2.2.1, .string ⟨r.2.2.2.toArray⟩] 43)) := ((grown_kpt hgrow1).block w.heap.size (Array.getElem?_eq_some_iff.1 HKX.out).1 (fun h => by cases h)).trans HKX.out
            obtain ⟨d0, d1, d2, d3⟩ := rec4_cells HK3.out
            clear hown1 hgrow1
            go_wp2_with (first | (at_builtin; refine wpList_append_rows rfl (.tmp 40) (.tmp 42) 27 rfl Tryz.underlying27 w.heap.size v1 _ [] rfl rfl ?c0 _ [r] rfl ?c1 ?c2 ?c3 ?c4 ?_))
            case c0 => exact HO3.out.alloc _
            case c1 => exact rrow_one _ r _ _ (by simp)
            case c2 => intro n c h; cases h
            case c3 => simp <;> omega
            case c4 => simp; have := hb3.size; omega
            intro v2 w4 hown2 hgrow2
            have HO4 : Hid (w4.ownsRow w.heap.size 43 4 v2 ([] ++ [r]).length (rcells ([] ++ [r]))) := by
              have h : w4.ownsRow w.heap.size 43 4 v2 ([] ++ [r]).length (rcells ([] ++ [r])) := by simpa using hown2
              exact h
            have hb4 : Below w.heap.size w w4 := (hb3.alloc hb3.size _).grown hgrow2 (by simp; have := hb3.size; omega) (fun j hj => (HO3.out.lt j hj).1)
            clear hown2 hgrow2 d0 d1 d2 d3
            go_wp2_with (first | (at_builtin; refine wpList_append_rows rfl (.tmp 44) (.tmp 47) 27 rfl Tryz.underlying27 w.heap.size v2 _ ([] ++ [r]) rfl rfl ?e0 _ [] rfl ?e1 ?e2 ?e3 ?e4 ?_))
            case e0 => exact HO4.out
            case e1 => exact rrow0 (by first | rfl | omega) (by omega)
            case e2 => intro n c h; first | (cases h; done) | (cases h; rfl)
            case e3 => simp <;> omega
            case e4 => exact hb4.size
            intro v3 w5 hown3 hgrow3
            have hown4 : w5.ownsRow w.heap.size 43 4 v3 ([] ++ [r]).length (rcells ([] ++ [r])) := by simpa using hown3
            have HO5 : Hid (OwnQ w5 w.heap.size v3 ([] ++ [r])) := own_q hown4
            have hb5 : Below w.heap.size w w5 := hb4.grown hgrow3 hb4.size (fun j hj => (HO4.out.lt j hj).1)
            obtain ⟨a5, k5, hv5, hk5, hn5⟩ := own4n hown4
            clear hown3 hown4 hgrow3
            subst hv5
            go_wp2_with fail
            go_ret
            exact ⟨⟨_, rfl, by rw [HPN.out]; exact HO5.out.row, hn5⟩, hb5⟩
        | some p =>
          have HTK : Hid (∀ W, Below w.heap.size w W → RRow W (.slice (some p) 0 cap) []) := fun W _ => rrow0 rfl (by omega)
          have HNK : Hid (∀ n c, Value.slice (some p) 0 cap = .slice none n c → c = 0) := fun n c h => by cases h
          by_cases hcl : cap = 0
          · subst hcl
            clear HA HROW HCM HNIL hcap hmax
            go_wp2_with fail
            go_region
            all_goals
              go_wp2_with fail
              go_region
            all_goals
              obtain ⟨WX, hWX⟩ : ∃ WX, WX = wr.drew.drew := ⟨_, rfl⟩
              have HKX : Hid (WX.heap[w.heap.size]? = some (.cells #[.string ⟨r.1.toArray⟩, .int .i64 r.2.1, .int .i64 r.2.2.1, .string ⟨r.2.2.2.toArray⟩] 43)) := by rw [hWX]; exact HK.out
              have HBX : Hid (Below w.heap.size w WX) := by rw [hWX]; exact hb.drew.drew
              rw [← hWX]
              clear hWX
              go_wp2_with (first | (at_builtin; refine wpList_append_rows rfl (.tmp 35) (.tmp 38) 27 rfl Tryz.underlying27 w.heap.size _ 0 [] rfl rfl ?a0 _ [] rfl ?a1 ?a2 ?a3 ?a4 ?_))
              case a0 => exact own_nil4 _ _
              case a1 => first | exact HTK.out _ HBX.out | (simpa using HTK.out _ HBX.out)
              case a2 => first | exact HNK.out | (intro n c h; cases h; done) | (intro n c h; simpa using HNK.out n c h)
              case a3 => simp <;> omega
              case a4 => exact HBX.out.size
              intro v1 w3 hown1 hgrow1
              have HO3 : Hid (w3.ownsRow w.heap.size 43 4 v1 0 (rcells [])) := hown1
              have hb3 : Below w.heap.size w w3 := HBX.out.grown hgrow1 HBX.out.size (fun j hj => by cases hj)
              have HK3 : Hid (w3.heap[w.heap.size]? = some (.cells #[.string ⟨r.1.toArray⟩, .int .i64 r.2.1, .int .i64 r.2.2.1, .string ⟨r.2.2.2.toArray⟩] 43)) := ((grown_kpt hgrow1).block w.heap.size (Array.getElem?_eq_some_iff.1 HKX.out).1 (fun h => by cases h)).trans HKX.out
              obtain ⟨d0, d1, d2, d3⟩ := rec4_cells HK3.out
              clear hown1 hgrow1
              go_wp2_with (first | (at_builtin; refine wpList_append_rows rfl (.tmp 40) (.tmp 42) 27 rfl Tryz.underlying27 w.heap.size v1 _ [] rfl rfl ?c0 _ [r] rfl ?c1 ?c2 ?c3 ?c4 ?_))
              case c0 => exact HO3.out.alloc _
              case c1 => exact rrow_one _ r _ _ (by simp)
              case c2 => intro n c h; cases h
              case c3 => simp <;> omega
              case c4 => simp; have := hb3.size; omega
              intro v2 w4 hown2 hgrow2
              have HO4 : Hid (w4.ownsRow w.heap.size 43 4 v2 ([] ++ [r]).length (rcells ([] ++ [r]))) := by
                have h : w4.ownsRow w.heap.size 43 4 v2 ([] ++ [r]).length (rcells ([] ++ [r])) := by simpa using hown2
                exact h
              have hb4 : Below w.heap.size w w4 := (hb3.alloc hb3.size _).grown hgrow2 (by simp; have := hb3.size; omega) (fun j hj => (HO3.out.lt j hj).1)
              clear hown2 hgrow2 d0 d1 d2 d3
              go_wp2_with (first | (at_builtin; refine wpList_append_rows rfl (.tmp 44) (.tmp 47) 27 rfl Tryz.underlying27 w.heap.size v2 _ ([] ++ [r]) rfl rfl ?e0 _ [] rfl ?e1 ?e2 ?e3 ?e4 ?_))
              case e0 => exact HO4.out
              case e1 => exact rrow0 (by first | rfl | omega) (by omega)
              case e2 => intro n c h; first | (cases h; done) | (cases h; rfl)
              case e3 => simp <;> omega
              case e4 => exact hb4.size
              intro v3 w5 hown3 hgrow3
              have hown4 : w5.ownsRow w.heap.size 43 4 v3 ([] ++ [r]).length (rcells ([] ++ [r])) := by simpa using hown3
              have HO5 : Hid (OwnQ w5 w.heap.size v3 ([] ++ [r])) := own_q hown4
              have hb5 : Below w.heap.size w w5 := hb4.grown hgrow3 hb4.size (fun j hj => (HO4.out.lt j hj).1)
              obtain ⟨a5, k5, hv5, hk5, hn5⟩ := own4n hown4
              clear hown3 hown4 hgrow3
              subst hv5
              go_wp2_with fail
              go_ret
              exact ⟨⟨_, rfl, by rw [HPN.out]; exact HO5.out.row, hn5⟩, hb5⟩
          · have hcl2 : 0 < cap := by omega
            clear HA HROW HCM HNIL
            go_wp2_with fail
            go_region
            all_goals
              go_wp2_with fail
              go_region
            all_goals
              obtain ⟨WX, hWX⟩ : ∃ WX, WX = wr.drew.drew := ⟨_, rfl⟩
              have HKX : Hid (WX.heap[w.heap.size]? = some (.cells #[.string ⟨r.1.toArray⟩, .int .i64 r.2.1, .int .i64 r.2.2.1, .string ⟨r.2.2.2.toArray⟩] 43)) := by rw [hWX]; exact HK.out
              have HBX : Hid (Below w.heap.size w WX) := by rw [hWX]; exact hb.drew.drew
              rw [← hWX]
              clear hWX
              go_wp2_with (first | (at_builtin; refine wpList_append_rows rfl (.tmp 35) (.tmp 38) 27 rfl Tryz.underlying27 w.heap.size _ 0 [] rfl rfl ?a0 _ [] rfl ?a1 ?a2 ?a3 ?a4 ?_))
              case a0 => exact own_nil4 _ _
              case a1 => first | exact HTK.out _ HBX.out | (simpa using HTK.out _ HBX.out)
              case a2 => first | exact HNK.out | (intro n c h; cases h; done) | (intro n c h; simpa using HNK.out n c h)
              case a3 => simp <;> omega
              case a4 => exact HBX.out.size
              intro v1 w3 hown1 hgrow1
              have HO3 : Hid (w3.ownsRow w.heap.size 43 4 v1 0 (rcells [])) := hown1
              have hb3 : Below w.heap.size w w3 := HBX.out.grown hgrow1 HBX.out.size (fun j hj => by cases hj)
              have HK3 : Hid (w3.heap[w.heap.size]? = some (.cells #[.string ⟨r.1.toArray⟩, .int .i64 r.2.1, .int .i64 r.2.2.1, .string ⟨r.2.2.2.toArray⟩] 43)) := ((grown_kpt hgrow1).block w.heap.size (Array.getElem?_eq_some_iff.1 HKX.out).1 (fun h => by cases h)).trans HKX.out
              obtain ⟨d0, d1, d2, d3⟩ := rec4_cells HK3.out
              clear hown1 hgrow1
              go_wp2_with (first | (at_builtin; refine wpList_append_rows rfl (.tmp 40) (.tmp 42) 27 rfl Tryz.underlying27 w.heap.size v1 _ [] rfl rfl ?c0 _ [r] rfl ?c1 ?c2 ?c3 ?c4 ?_))
              case c0 => exact HO3.out.alloc _
              case c1 => exact rrow_one _ r _ _ (by simp)
              case c2 => intro n c h; cases h
              case c3 => simp <;> omega
              case c4 => simp; have := hb3.size; omega
              intro v2 w4 hown2 hgrow2
              have HO4 : Hid (w4.ownsRow w.heap.size 43 4 v2 ([] ++ [r]).length (rcells ([] ++ [r]))) := by
                have h : w4.ownsRow w.heap.size 43 4 v2 ([] ++ [r]).length (rcells ([] ++ [r])) := by simpa using hown2
                exact h
              have hb4 : Below w.heap.size w w4 := (hb3.alloc hb3.size _).grown hgrow2 (by simp; have := hb3.size; omega) (fun j hj => (HO3.out.lt j hj).1)
              clear hown2 hgrow2 d0 d1 d2 d3
              go_wp2_with (first | (at_builtin; refine wpList_append_rows rfl (.tmp 44) (.tmp 47) 27 rfl Tryz.underlying27 w.heap.size v2 _ ([] ++ [r]) rfl rfl ?e0 _ [] rfl ?e1 ?e2 ?e3 ?e4 ?_))
              case e0 => exact HO4.out
              case e1 => exact rrow0 (by first | rfl | omega) (by omega)
              case e2 => intro n c h; first | (cases h; done) | (cases h; rfl)
              case e3 => simp <;> omega
              case e4 => exact hb4.size
              intro v3 w5 hown3 hgrow3
              have hown4 : w5.ownsRow w.heap.size 43 4 v3 ([] ++ [r]).length (rcells ([] ++ [r])) := by simpa using hown3
              have HO5 : Hid (OwnQ w5 w.heap.size v3 ([] ++ [r])) := own_q hown4
              have hb5 : Below w.heap.size w w5 := hb4.grown hgrow3 hb4.size (fun j hj => (HO4.out.lt j hj).1)
              obtain ⟨a5, k5, hv5, hk5, hn5⟩ := own4n hown4
              clear hown3 hown4 hgrow3
              subst hv5
              go_wp2_with fail
              go_ret
              exact ⟨⟨_, rfl, by rw [HPN.out]; exact HO5.out.row, hn5⟩, hb5⟩
      · obtain ⟨b, o, ha, hbl, hcel⟩ := HROW.out hpos
        subst ha
        have HTK : Hid (∀ W, Below w.heap.size w W → RRow W (.slice (some ⟨b, o, none⟩) L.length cap) L) := fun W hW => HRR.out W hW
        have HNK : Hid (∀ n c, Value.slice (some ⟨b, o, none⟩) L.length cap = .slice none n c → c = 0) := fun n c h => by cases h
        clear hcel
        by_cases hcl : cap = L.length
        · subst hcl
          clear HA HROW HCM
          go_wp2_with fail
          go_region
          all_goals
            go_wp2_with fail
            go_region
          all_goals
            obtain ⟨WX, hWX⟩ : ∃ WX, WX = wr.drew.drew := ⟨_, rfl⟩
            have HKX : Hid (WX.heap[w.heap.size]? = some (.cells #[.string ⟨r.1.toArray⟩, .int .i64 r.2.1, .int .i64 r.2.2.1, .string ⟨r.2.2.2.toArray⟩] 43)) := by rw [hWX]; exact HK.out
            have HBX : Hid (Below w.heap.size w WX) := by rw [hWX]; exact hb.drew.drew
            rw [← hWX]
            clear hWX
            go_wp2_with (first | (at_builtin; refine wpList_append_rows rfl (.tmp 35) (.tmp 38) 27 rfl Tryz.underlying27 w.heap.size _ 0 [] rfl rfl ?a0 _ L rfl ?a1 ?a2 ?a3 ?a4 ?_))
            case a0 => exact own_nil4 _ _
            case a1 => first | exact HTK.out _ HBX.out | (simpa using HTK.out _ HBX.out)
            case a2 => first | exact HNK.out | (intro n c h; cases h; done) | (intro n c h; simpa using HNK.out n c h)
            case a3 => simp; omega
            case a4 => exact HBX.out.size
            intro v1 w3 hown1 hgrow1
            have HO3 : Hid (w3.ownsRow w.heap.size 43 4 v1 L.length (rcells L)) := hown1
            have hb3 : Below w.heap.size w w3 := HBX.out.grown hgrow1 HBX.out.size (fun j hj => by cases hj)
            have HK3 : Hid (w3.heap[w.heap.size]? = some (.cells #[.string ⟨r.1.toArray⟩, .int .i64 r.2.1, .int .i64 r.2.2.1, .string ⟨r.2.2.2.toArray⟩] 43)) := ((grown_kpt hgrow1).block w.heap.size (Array.getElem?_eq_some_iff.1 HKX.out).1 (fun h => by cases h)).trans HKX.out
            obtain ⟨d0, d1, d2, d3⟩ := rec4_cells HK3.out
            clear hown1 hgrow1
            go_wp2_with (first | (at_builtin; refine wpList_append_rows rfl (.tmp 40) (.tmp 42) 27 rfl Tryz.underlying27 w.heap.size v1 _ L rfl rfl ?c0 _ [r] rfl ?c1 ?c2 ?c3 ?c4 ?_))
            case c0 => exact HO3.out.alloc _
            case c1 => exact rrow_one _ r _ _ (by simp)
            case c2 => intro n c h; cases h
            case c3 => simp; omega
            case c4 => simp; have := hb3.size; omega
            intro v2 w4 hown2 hgrow2
            have HO4 : Hid (w4.ownsRow w.heap.size 43 4 v2 (L ++ [r]).length (rcells (L ++ [r]))) := by
              have h : w4.ownsRow w.heap.size 43 4 v2 (L ++ [r]).length (rcells (L ++ [r])) := by simpa using hown2
              exact h
            have hb4 : Below w.heap.size w w4 := (hb3.alloc hb3.size _).grown hgrow2 (by simp; have := hb3.size; omega) (fun j hj => (HO3.out.lt j hj).1)
            clear hown2 hgrow2 d0 d1 d2 d3
            go_wp2_with (first | (at_builtin; refine wpList_append_rows rfl (.tmp 44) (.tmp 47) 27 rfl Tryz.underlying27 w.heap.size v2 _ (L ++ [r]) rfl rfl ?e0 _ [] rfl ?e1 ?e2 ?e3 ?e4 ?_))
            case e0 => exact HO4.out
            case e1 => exact rrow0 (by first | rfl | omega) (by omega)
            case e2 => intro n c h; first | (cases h; done) | (cases h; rfl)
            case e3 => simp; omega
            case e4 => exact hb4.size
            intro v3 w5 hown3 hgrow3
            have hown4 : w5.ownsRow w.heap.size 43 4 v3 (L ++ [r]).length (rcells (L ++ [r])) := by simpa using hown3
            have HO5 : Hid (OwnQ w5 w.heap.size v3 (L ++ [r])) := own_q hown4
            have hb5 : Below w.heap.size w w5 := hb4.grown hgrow3 hb4.size (fun j hj => (HO4.out.lt j hj).1)
            obtain ⟨a5, k5, hv5, hk5, hn5⟩ := own4n hown4
            clear hown3 hown4 hgrow3
            subst hv5
            go_wp2_with fail
            go_ret
            exact ⟨⟨_, rfl, by rw [HPN.out]; exact HO5.out.row, hn5⟩, hb5⟩
        · have hcl2 : L.length < cap := by omega
          have hcl3 : ¬ cap - L.length = 0 := by omega
          clear HA HROW HCM
          go_wp2_with fail
          go_region
          all_goals
            go_wp2_with fail
            go_region
          all_goals
            obtain ⟨WX, hWX⟩ : ∃ WX, WX = wr.drew.drew := ⟨_, rfl⟩
            have HKX : Hid (WX.heap[w.heap.size]? = some (.cells #[.string ⟨r.1.toArray⟩, .int .i64 r.2.1, .int .i64 r.2.2.1, .string ⟨r.2.2.2.toArray⟩] 43)) := by rw [hWX]; exact HK.out
            have HBX : Hid (Below w.heap.size w WX) := by rw [hWX]; exact hb.drew.drew
            rw [← hWX]
            clear hWX
            go_wp2_with (first | (at_builtin; refine wpList_append_rows rfl (.tmp 35) (.tmp 38) 27 rfl Tryz.underlying27 w.heap.size _ 0 [] rfl rfl ?a0 _ L rfl ?a1 ?a2 ?a3 ?a4 ?_))
            case a0 => exact own_nil4 _ _
            case a1 => first | exact HTK.out _ HBX.out | (simpa using HTK.out _ HBX.out)
            case a2 => first | exact HNK.out | (intro n c h; cases h; done) | (intro n c h; simpa using HNK.out n c h)
            case a3 => simp; omega
            case a4 => exact HBX.out.size
            intro v1 w3 hown1 hgrow1
            have HO3 : Hid (w3.ownsRow w.heap.size 43 4 v1 L.length (rcells L)) := hown1
            have hb3 : Below w.heap.size w w3 := HBX.out.grown hgrow1 HBX.out.size (fun j hj => by cases hj)
            have HK3 : Hid (w3.heap[w.heap.size]? = some (.cells #[.string ⟨r.1.toArray⟩, .int .i64 r.2.1, .int .i64 r.2.2.1, .string ⟨r.2.2.2.toArray⟩] 43)) := ((grown_kpt hgrow1).block w.heap.size (Array.getElem?_eq_some_iff.1 HKX.out).1 (fun h => by cases h)).trans HKX.out
            obtain ⟨d0, d1, d2, d3⟩ := rec4_cells HK3.out
            clear hown1 hgrow1
            go_wp2_with (first | (at_builtin; refine wpList_append_rows rfl (.tmp 40) (.tmp 42) 27 rfl Tryz.underlying27 w.heap.size v1 _ L rfl rfl ?c0 _ [r] rfl ?c1 ?c2 ?c3 ?c4 ?_))
            case c0 => exact HO3.out.alloc _
            case c1 => exact rrow_one _ r _ _ (by simp)
            case c2 => intro n c h; cases h
            case c3 => simp; omega
            case c4 => simp; have := hb3.size; omega
            intro v2 w4 hown2 hgrow2
            have HO4 : Hid (w4.ownsRow w.heap.size 43 4 v2 (L ++ [r]).length (rcells (L ++ [r]))) := by
              have h : w4.ownsRow w.heap.size 43 4 v2 (L ++ [r]).length (rcells (L ++ [r])) := by simpa using hown2
              exact h
            have hb4 : Below w.heap.size w w4 := (hb3.alloc hb3.size _).grown hgrow2 (by simp; have := hb3.size; omega) (fun j hj => (HO3.out.lt j hj).1)
            clear hown2 hgrow2 d0 d1 d2 d3
            go_wp2_with (first | (at_builtin; refine wpList_append_rows rfl (.tmp 44) (.tmp 47) 27 rfl Tryz.underlying27 w.heap.size v2 _ (L ++ [r]) rfl rfl ?e0 _ [] rfl ?e1 ?e2 ?e3 ?e4 ?_))
            case e0 => exact HO4.out
            case e1 => exact rrow0 (by first | rfl | omega) (by omega)
            case e2 => intro n c h; first | (cases h; done) | (cases h; rfl)
            case e3 => simp; omega
            case e4 => exact hb4.size
            intro v3 w5 hown3 hgrow3
            have hown4 : w5.ownsRow w.heap.size 43 4 v3 (L ++ [r]).length (rcells (L ++ [r])) := by simpa using hown3
            have HO5 : Hid (OwnQ w5 w.heap.size v3 (L ++ [r])) := own_q hown4
            have hb5 : Below w.heap.size w w5 := hb4.grown hgrow3 hb4.size (fun j hj => (HO4.out.lt j hj).1)
            obtain ⟨a5, k5, hv5, hk5, hn5⟩ := own4n hown4
            clear hown3 hown4 hgrow3
            subst hv5
            go_wp2_with fail
            go_ret
            exact ⟨⟨_, rfl, by rw [HPN.out]; exact HO5.out.row, hn5⟩, hb5⟩
end Go.Proofs.YtjocegnhhhfbeaaGreatDoor

namespace Go.Proofs.YtjocegnhhhfbeaaGreatDoor
open Go.RowKit

/-- Records with others, each put in its place. -/
def andQ (L M : List (List UInt8 × Int × Int × List UInt8)) : List (List UInt8 × Int × Int × List UInt8) := M.foldl putQ L
theorem putQ_mem {L : List (List UInt8 × Int × Int × List UInt8)} {r x : List UInt8 × Int × Int × List UInt8} (h : x ∈ putQ L r) : x ∈ L ∨ x = r := by
  unfold putQ at h
  split at h
  · exact .inl h
  · rw [List.append_assoc, List.mem_append, List.mem_append] at h
    rcases h with h | h | h
    · exact .inl (List.mem_of_mem_take h)
    · right; simpa using h
    · exact .inl (List.mem_of_mem_drop h)
theorem putQ_len (L : List (List UInt8 × Int × Int × List UInt8)) (r : List UInt8 × Int × Int × List UInt8) : (putQ L r).length ≤ L.length + 1 := by
  unfold putQ
  split
  · omega
  · have h := posQ_le L r
    simp
    omega
theorem andQ_snoc (L M : List (List UInt8 × Int × Int × List UInt8)) (k : Nat) (hk : k < M.length) : andQ L (M.take (k + 1)) = putQ (andQ L (M.take k)) M[k] := by
  unfold andQ
  rw [List.take_succ_eq_append_getElem hk, List.foldl_append]
  rfl
theorem andQ_mem {L M : List (List UInt8 × Int × Int × List UInt8)} {x : List UInt8 × Int × Int × List UInt8} (h : x ∈ andQ L M) : x ∈ L ∨ x ∈ M := by
  unfold andQ at h
  induction M generalizing L with
  | nil => exact .inl h
  | cons r M ih =>
    rcases ih (L := putQ L r) h with h1 | h1
    · rcases putQ_mem h1 with h2 | h2
      · exact .inl h2
      · exact .inr (by rw [h2]; simp)
    · exact .inr (by simp [h1])
theorem andQ_len (L M : List (List UInt8 × Int × Int × List UInt8)) : (andQ L M).length ≤ L.length + M.length := by
  unfold andQ
  induction M generalizing L with
  | nil => simp
  | cons r M ih =>
    have h1 := ih (putQ L r)
    have h2 := putQ_len L r
    simp only [List.foldl_cons, List.length_cons] at *
    omega

end Go.Proofs.YtjocegnhhhfbeaaGreatDoor
