import Derived.Test.YtgfldenhhogpbaaGreatDoorZ38
import Derived.Test.YtgfldenhhogpbaaGreatDoorZ32
import Derived.Test.YtgfldenhhogpbaaGreatDoorZ04
namespace Go.Proofs.YtgfldenhhogpbaaGreatDoor
open Go.RowKit

/-- A name is there: it has a record, or one below it has. -/
def thereB (L : List (List UInt8 × Int × Int × List UInt8)) (n : List UInt8) : Bool := L.any (fun x => belowB x.1 n)
/-- The least number below J that is so, or J. -/
def leastN (p : Nat → Bool) : Nat → Nat
  | 0 => 0
  | J + 1 => if leastN p J < J then leastN p J else if p J = true then J else J + 1
theorem least_facts (p : Nat → Bool) : ∀ J, leastN p J ≤ J ∧ (∀ i, i < leastN p J → p i = false) ∧ (leastN p J < J → p (leastN p J) = true)
  | 0 => ⟨Nat.le_refl _, fun i h => absurd h (Nat.not_lt_zero _), fun h => absurd h (Nat.not_lt_zero _)⟩
  | J + 1 => by
    obtain ⟨h1, h2, h3⟩ := least_facts p J
    rw [leastN]
    by_cases h : leastN p J < J
    · rw [if_pos h]; exact ⟨by omega, h2, fun _ => h3 h⟩
    · have hJ : leastN p J = J := by omega
      rw [if_neg h]
      rw [hJ] at h2
      by_cases hp : p J = true
      · rw [if_pos hp]; exact ⟨by omega, h2, fun _ => hp⟩
      · rw [if_neg hp]
        refine ⟨Nat.le_refl _, fun i hi => ?_, fun h' => absurd h' (Nat.lt_irrefl _)⟩
        rcases Nat.lt_or_ge i J with h' | h'
        · exact h2 i h'
        · obtain rfl : i = J := by omega
          simpa using hp
theorem least_is {p : Nat → Bool} {J j : Nat} (hj : j ≤ J) (h : ∀ i, i < j → p i = false) (ht : j = J ∨ p j = true) : leastN p J = j := by
  obtain ⟨h1, h2, h3⟩ := least_facts p J
  rcases Nat.lt_trichotomy (leastN p J) j with hl | hl | hl
  · have := h _ hl; rw [h3 (by omega)] at this; cases this
  · exact hl
  · rcases ht with rfl | ht
    · omega
    · have := h2 _ hl; rw [ht] at this; cases this
/-- The longest name that is there, at or above a name. -/
def enclN (ap : List UInt8) (L : List (List UInt8 × Int × Int × List UInt8)) (nm : List UInt8) : Nat := leastN (fun j => thereB L (upAt nm j)) (upN ap nm)
def encl (ap : List UInt8) (L : List (List UInt8 × Int × Int × List UInt8)) (nm : List UInt8) : List UInt8 := upAt nm (enclN ap L nm)

theorem zone_facts {ap : List UInt8} {ct : Int} {L : List (List UInt8 × Int × Int × List UInt8)} (h : zoneB ap ct L = true) : nameB ap = true ∧ aresB L = true ∧ risesB L = true ∧ allB ap L = true ∧ soaB ap L = true ∧ L.length ≤ 40 := by
  unfold zoneB at h
  simp only [Bool.and_eq_true, decide_eq_true_eq] at h
  obtain ⟨_, h, _⟩ := h
  unfold ruleB at h
  by_cases hc : (apexB ap && listB L) = true
  · rw [if_pos hc] at h
    rw [Bool.and_eq_true] at hc
    have h2 := hc.2
    unfold listB at h2
    simp only [Bool.and_eq_true, decide_eq_true_eq] at h2
    refine ⟨apex_name hc.1, h2.2.1, h2.2.2, ?_, ?_, h2.1⟩
    · cases ha : allB ap L with
      | true => rfl
      | false => unfold ruleI at h; rw [if_pos ha] at h; cases h
    · cases ha : soaB ap L with
      | true => rfl
      | false =>
        unfold ruleI at h
        by_cases hb : allB ap L = false
        · rw [if_pos hb] at h; cases h
        · rw [if_neg hb, if_pos ha] at h; cases h
  · rw [if_neg hc] at h; cases h
theorem below_self (a : List UInt8) : belowB a a = true := by unfold belowB; simp
theorem there_apex {ap : List UInt8} {L : List (List UInt8 × Int × Int × List UInt8)} (h : soaB ap L = true) : thereB L ap = true := by
  unfold soaB at h
  simp only [Bool.and_eq_true, decide_eq_true_eq] at h
  have h2 := h.2
  unfold nAt at h2
  obtain ⟨x, hx⟩ : ∃ x, x ∈ L.filter (fun x => x.2.1 == 6 && x.1 == ap) := by
    cases e : L.filter (fun x => x.2.1 == 6 && x.1 == ap) with
    | nil => rw [e] at h2; cases h2
    | cons x r => exact ⟨x, by simp⟩
  obtain ⟨hm, hp⟩ := List.mem_filter.1 hx
  simp only [Bool.and_eq_true, beq_iff_eq] at hp
  unfold thereB
  rw [List.any_eq_true]
  exact ⟨x, hm, by rw [hp.2]; exact below_self ap⟩

/-- The first record of type 2, not at the apex, that a name is below. -/
def cutP (ap nm : List UInt8) (x : (List UInt8 × Int × Int × List UInt8)) : Bool := (x.2.1 == 2 && !(x.1 == ap)) && belowB nm x.1
def cutF (ap : List UInt8) (L : List (List UInt8 × Int × Int × List UInt8)) (nm : List UInt8) : Option (List UInt8) := (L.find? (cutP ap nm)).map (fun x => x.1)
theorem below_le {a b : List UInt8} (ha : nameB a = true) (hb : nameB b = true) (h : belowB a b = true) : cmpN b a ≠ 1 := by
  have h1 := (below_iff ha hb).1 h
  exact pre_le _ _ h1
theorem up_lt {ap nm c : List UInt8} (hap : nameB ap = true) (hnm : nameB nm = true) (hc : nameB c = true) (h1 : belowB nm c = true) (h2 : belowB c ap = true) (hne : c ≠ ap) : ∃ j, j < upN ap nm ∧ upAt nm j = c := by
  obtain ⟨e, hl⟩ := up_of hnm hc h1
  obtain ⟨e2, hl2⟩ := up_of hc hap h2
  refine ⟨_, ?_, e⟩
  have hlt : (labelsOf ap).length < (labelsOf c).length := by
    rcases Nat.lt_or_ge (labelsOf ap).length (labelsOf c).length with h' | h'
    · exact h'
    · exfalso
      have : (labelsOf c).length - (labelsOf ap).length = 0 := by omega
      rw [this] at e2
      unfold upAt at e2
      rw [List.drop_zero, joinD_labels] at e2
      exact hne e2
  unfold upN
  omega
theorem up_up {nm : List UInt8} (h : nameB nm = true) {i j : Nat} (hij : i ≤ j) : belowB (upAt nm i) (upAt nm j) = true := by
  obtain ⟨_, a2, _⟩ := up_below h i
  obtain ⟨_, b2, _⟩ := up_below h j
  have hi : labelsOf (upAt nm i) = (labelsOf nm).drop i := labels_join ((name_plain h).drop i)
  have hj : labelsOf (upAt nm j) = (labelsOf nm).drop j := labels_join ((name_plain h).drop j)
  rw [below_iff a2 b2, List.reverse_prefix, hi, hj]
  have e : (labelsOf nm).drop j = ((labelsOf nm).drop i).drop (j - i) := by rw [List.drop_drop]; congr 1; omega
  rw [e]
  exact List.drop_suffix _ _
theorem find_first {p : (List UInt8 × Int × Int × List UInt8) → Bool} : ∀ {L : List (List UInt8 × Int × Int × List UInt8)} {x : (List UInt8 × Int × Int × List UInt8)}, L.find? p = some x → ∃ i, ∃ h : i < L.length, L[i] = x ∧ p x = true ∧ ∀ j, (hj : j < L.length) → p L[j] = true → i ≤ j
  | [], x, h => by simp at h
  | y :: r, x, h => by
    rw [List.find?_cons] at h
    cases hp : p y with
    | true =>
      rw [hp] at h
      simp only [Option.some.injEq] at h
      subst h
      exact ⟨0, by simp, rfl, hp, fun j _ _ => Nat.zero_le _⟩
    | false =>
      rw [hp] at h
      obtain ⟨i, hi, e, hx, hf⟩ := find_first h
      refine ⟨i + 1, by simpa using hi, by simpa using e, hx, fun j hj hpj => ?_⟩
      cases j with
      | zero => rw [show (y :: r)[0] = y from rfl, hp] at hpj; cases hpj
      | succ j => have := hf j (by simpa using hj) (by simpa using hpj); omega
theorem cut7_same {ap : List UInt8} {L : List (List UInt8 × Int × Int × List UInt8)} {nm : List UInt8} (hap : nameB ap = true) (hnm : nameB nm = true) (hg : aresB L = true) (hr : risesB L = true) (ha : allB ap L = true) : (zcutJ L nm (upN ap nm)).map (upAt nm) = cutF ap L nm := by
  have HB : ∀ x ∈ L, belowB x.1 ap = true := fun x hx => List.all_eq_true.1 ha x hx
  have HN : ∀ x ∈ L, nameB x.1 = true := fun x hx => ares_name hg hx
  unfold cutF
  cases hF : L.find? (cutP ap nm) with
  | none =>
    cases hj : zcutJ L nm (upN ap nm) with
    | none => rfl
    | some j =>
      exfalso
      obtain ⟨h1, h2, _⟩ := last_some hj
      obtain ⟨k, hk, e1, e2⟩ := held_iff.1 h2
      obtain ⟨u1, _, _⟩ := up_below hnm j
      have hne := (up_ne hnm h1).1
      have := List.find?_eq_none.1 hF k hk
      unfold cutP at this
      rw [e1, e2, u1] at this
      simp [hne] at this
  | some x =>
    obtain ⟨i, hi, ei, hx, hf⟩ := find_first hF
    have hxm : x ∈ L := ei ▸ List.getElem_mem hi
    have hx' := hx
    unfold cutP at hx'
    simp only [Bool.and_eq_true, beq_iff_eq, Bool.not_eq_true', beq_eq_false_iff_ne] at hx'
    obtain ⟨⟨x2, xne⟩, xb⟩ := hx'
    obtain ⟨j0, hj0, ej0⟩ := up_lt hap hnm (HN x hxm) xb (HB x hxm) xne
    have hheld : heldB L (upAt nm j0) 2 = true := held_iff.2 ⟨x, hxm, ej0.symm, x2⟩
    cases hj : zcutJ L nm (upN ap nm) with
    | none => have := last_none hj j0 hj0; rw [hheld] at this; cases this
    | some j =>
      obtain ⟨h1, h2, h3⟩ := last_some hj
      have hle := h3 j0 hj0 hheld
      obtain ⟨k, hk, e1, e2⟩ := held_iff.1 h2
      obtain ⟨u1, u2, _⟩ := up_below hnm j
      have hne := (up_ne hnm h1).1
      obtain ⟨m, hm, em⟩ := List.getElem_of_mem hk
      have hpm : cutP ap nm L[m] = true := by
        rw [em]; unfold cutP; rw [e1, e2, u1]; simp [hne]
      have him := hf m hm hpm
      have c1 := rise_mono hg hr i m him hm
      rw [ei, em, e1] at c1
      have hb := up_up hnm hle
      rw [ej0] at hb
      have c2 := below_le (HN x hxm) u2 hb
      show some (upAt nm j) = some x.1
      rw [le_anti c1 c2]
/-- What CutAbove tells. -/
def cutT (ap : List UInt8) (L : List (List UInt8 × Int × Int × List UInt8)) (nm : List UInt8) : List UInt8 × Bool := ((cutF ap L nm).getD [], (cutF ap L nm).isSome)
theorem cutT_same {ap : List UInt8} {L : List (List UInt8 × Int × Int × List UInt8)} {nm : List UInt8} (hap : nameB ap = true) (hnm : nameB nm = true) (hg : aresB L = true) (hr : risesB L = true) (ha : allB ap L = true) : cutV nm (zcutJ L nm (upN ap nm)) = cutT ap L nm := by
  unfold cutT cutV
  rw [← cut7_same hap hnm hg hr ha]
  cases zcutJ L nm (upN ap nm) <;> rfl
/-- A name that lies in a good zone. -/
def inZ (ap : List UInt8) (ct : Int) (L : List (List UInt8 × Int × Int × List UInt8)) (nm : List UInt8) : Bool := zoneB ap ct L && (nameB nm && belowB nm ap)
/-- What EncloserOf and CutAbove tell. -/
def encT (ap : List UInt8) (ct : Int) (L : List (List UInt8 × Int × Int × List UInt8)) (nm : List UInt8) : List UInt8 × Bool := if inZ ap ct L nm = true then (encl ap L nm, true) else ([], false)
def cutZ (ap : List UInt8) (ct : Int) (L : List (List UInt8 × Int × Int × List UInt8)) (nm : List UInt8) : List UInt8 × Bool := if inZ ap ct L nm = true then cutT ap L nm else ([], false)
theorem inZ_facts {ap : List UInt8} {ct : Int} {L : List (List UInt8 × Int × Int × List UInt8)} {nm : List UInt8} (h : inZ ap ct L nm = true) : zoneB ap ct L = true ∧ nameB nm = true ∧ belowB nm ap = true := by
  unfold inZ at h; simp only [Bool.and_eq_true] at h; exact h
end Go.Proofs.YtgfldenhhogpbaaGreatDoor

namespace Go.Proofs.YtgfldenhhogpbaaGreatDoor
open Go.RowKit

theorem up_par {n0 p0 : List UInt8} (h : nameB n0 = true) {j : Nat} (hj : j < upN p0 n0) : parentT (upAt n0 j) = upAt n0 (j + 1) := by
  unfold parentT
  rw [if_pos ⟨(up_below h j).2.1, (up_ne h hj).2⟩]
  exact up_next h (by unfold upN at hj; omega)

theorem find_hit {p : (List UInt8 × Int × Int × List UInt8) → Bool} : ∀ {L : List (List UInt8 × Int × Int × List UInt8)} {k : Nat} (hk : k < L.length), (∀ j, (hj : j < L.length) → j < k → p L[j] = false) → p L[k] = true → L.find? p = some L[k]
  | [], k, hk, _, _ => by simp at hk
  | y :: r, 0, _, _, h => by rw [List.find?_cons]; rw [show (y :: r)[0] = y from rfl] at h; rw [h]; rfl
  | y :: r, k + 1, hk, ha, h => by
    have h0 := ha 0 (by simp) (by omega)
    rw [show (y :: r)[0] = y from rfl] at h0
    rw [List.find?_cons, h0]
    exact find_hit (by simpa using hk) (fun j hj hjk => by have := ha (j + 1) (by simpa using hj) (by omega); simpa using this) (by simpa using h)
theorem find_no {p : (List UInt8 × Int × Int × List UInt8) → Bool} {L : List (List UInt8 × Int × Int × List UInt8)} (h : ∀ j, (hj : j < L.length) → p L[j] = false) : L.find? p = none := by
  rw [List.find?_eq_none]
  intro x hx
  obtain ⟨j, hj, rfl⟩ := List.getElem_of_mem hx
  rw [h j hj]; simp

set_option maxRecDepth 20000 in
set_option maxHeartbeats 2000000 in
theorem cutIn_any (nm : ByteArray) (ct : Int) (v : Value) (L : List (List UInt8 × Int × Int × List UInt8)) (n : ByteArray) (w : World) (hr : RRow w v L) (hn : n.size ≤ 1048576) (hx : Hid (∀ x ∈ L, x.1.length ≤ 1048576 ∧ x.2.2.2.length ≤ 1048576)) :
    Calls Tryz.prog 68 #[ZonV nm ct v, .string n] w fun e w' => e = .returned (.tuple #[.string ⟨(cutT nm.data.toList L n.data.toList).1.toArray⟩, .bool (cutT nm.data.toList L n.data.toList).2]) ∧ Below w.heap.size w w' := by
  obtain ⟨a, cap, rfl, hcap, hmax, hrow⟩ := hr
  have HROW : Hid (L = [] ∨ ∃ b o, a = some ⟨b, o, none⟩ ∧ b < w.heap.size ∧ ∀ j, (hj : j < L.length) → RecAt w b (o + j * 4) L[j]) := hrow
  unfold maxLen at hmax
  clear hrow
  obtain ⟨nl, hnl⟩ : ∃ nl, nl = n.data.toList := ⟨_, rfl⟩
  obtain rfl : n = ⟨nl.toArray⟩ := data_eq hnl.symm
  obtain ⟨ap, hal⟩ : ∃ ap, ap = nm.data.toList := ⟨_, rfl⟩
  obtain rfl : nm = ⟨ap.toArray⟩ := data_eq hal.symm
  clear hnl hal
  rw [size_list] at hn
  have HNO : Hid ((∀ j, (hj : j < L.length) → cutP ap nl L[j] = false) → cutT ap L nl = ([], false)) := fun h => by
    unfold cutT cutF; rw [find_no h]; rfl
  have HHIT : Hid (∀ k, (hk : k < L.length) → (∀ j, (hj : j < L.length) → j < k → cutP ap nl L[j] = false) → cutP ap nl L[k] = true → cutT ap L nl = (L[k].1, true)) := fun k hk h1 h2 => by
    unfold cutT cutF; rw [find_hit hk h1 h2]; rfl
  show Calls Tryz.prog 68 _ w fun e w' => e = .returned (.tuple #[.string ⟨(cutT ap L nl).1.toArray⟩, .bool (cutT ap L nl).2]) ∧ Below w.heap.size w w'
  obtain ⟨T, hT⟩ : ∃ T, T = cutT ap L nl := ⟨_, rfl⟩
  rw [← hT] at HNO HHIT ⊢
  clear hT
  obtain ⟨W0, hW0⟩ : ∃ W0, W0 = w.alloc (.cells #[.string ⟨ap.toArray⟩, .int .i64 ct, .slice a L.length cap] 52) := ⟨_, rfl⟩
  have HW0 : Hid (w.alloc (.cells #[.string ⟨ap.toArray⟩, .int .i64 ct, .slice a L.length cap] 52) = W0) := hW0.symm
  have HC0 : Hid (∀ W, Below W0.heap.size W0 W → (W.cell? ⟨w.heap.size, 0, none⟩ = some (.string ⟨ap.toArray⟩) ∧ W.cell? ⟨w.heap.size, 1, none⟩ = some (.int .i64 ct) ∧ W.cell? ⟨w.heap.size, 2, none⟩ = some (.slice a L.length cap)) ∧ Below w.heap.size w W) := fun W hW => by
    rw [hW0] at hW
    obtain ⟨c0, c1, c2, h⟩ := box3c hW
    exact ⟨⟨c0, c1, c2⟩, h⟩
  have hb0 : Below W0.heap.size W0 W0 := Below.refl _ _
  have hz0 : w.heap.size < W0.heap.size := by rw [hW0]; simp
  obtain ⟨⟨z0, z1, z2⟩, _⟩ := HC0.out W0 hb0
  clear hW0
  unfold ZonV
  go_enter Tryz.func68, Tryz.ntmps68
  go_wp2_with fail
  rw [HW0.out]
  clear z0 z1 z2
  go_loopw [11] (fun i wr => ∃ k : Nat, k ≤ L.length ∧ i = .int .i64 (k : Int) ∧ Hid (∀ j, (hj : j < L.length) → j < k → cutP ap nl L[j] = false) ∧ Below W0.heap.size W0 wr) (fun i _ => L.length - (intOf i).toNat)
  case atStart => exact ⟨0, Nat.zero_le _, rfl, fun j _ h => absurd h (Nat.not_lt_zero _), hb0⟩
  case round =>
    obtain ⟨k, hk, rfl, HA, hb⟩ := hrel
    obtain ⟨⟨z0, z1, z2⟩, hbw⟩ := HC0.out _ hb
    have hzw : w.heap.size < wr.heap.size := Nat.lt_of_lt_of_le hz0 hb.size
    have hzn : ¬ w.heap.size = wr.heap.size := by omega
    by_cases hlt : k < L.length
    · rcases HROW.out with hr | ⟨b, o, ha, hbl, hcel⟩
      · rw [hr] at hlt; simp at hlt
      · rw [ha]
        have hcx := (hcel k hlt).kept hbw
        unfold RecAt at hcx
        obtain ⟨c0, c1, c2, c3⟩ := hcx
        have hxl := (hx.out _ (List.getElem_mem hlt)).1
        have HOK : Hid (cutP ap nl (L[k]'hlt) = false → ∀ j, (hj : j < L.length) → j < k + 1 → cutP ap nl L[j] = false) := fun h j hj h1 => by
          rcases Nat.lt_or_ge j k with h' | h'
          · exact HA.out j hj h'
          · obtain rfl : j = k := by omega
            exact h
        have HYES : Hid (cutP ap nl (L[k]'hlt) = true → T = ((L[k]'hlt).1, true)) := fun h => HHIT.out k hlt HA.out h
        obtain ⟨x, hxe⟩ : ∃ x, x = L[k]'hlt := ⟨_, rfl⟩
        rw [← hxe] at c0 c1 c2 c3 hxl HOK HYES
        obtain ⟨xn, xt, xl, xd⟩ := x
        simp only at c0 c1 c2 c3 hxl HYES
        have HP : Hid (cutP ap nl (xn, xt, xl, xd) = ((xt == 2 && !(xn == ap)) && belowB nl xn)) := rfl
        have hbk := hb.alloc hb.size (.cells #[.string ⟨xn.toArray⟩, .int .i64 xt, .int .i64 xl, .string ⟨xd.toArray⟩] 83)
        have hbwk := hbw.alloc hbw.size (.cells #[.string ⟨xn.toArray⟩, .int .i64 xt, .int .i64 xl, .string ⟨xd.toArray⟩] 83)
        have HLB : Hid (∀ W, Calls Tryz.prog 42 #[.string ⟨nl.toArray⟩, .string ⟨xn.toArray⟩] W fun e w' => e = .returned (.bool (belowB nl xn)) ∧ w' = W) := fun W => liesBelow_any ⟨nl.toArray⟩ ⟨xn.toArray⟩ W (by rw [size_list]; omega) (by rw [size_list]; omega)
        clear hcel hxe
        by_cases h2 : xt = 2
        · have e2 : (xt == 2) = true := by simpa using h2
          rw [e2] at HP
          by_cases h3 : xn = ap
          · have e3 : (xn == ap) = true := by simpa using h3
            have HR := HOK.out (by rw [HP.out, e3]; rfl)
            clear HOK HYES HP h3
            subst h2
            go_wp2_with fail
            go_roundw
            case rel => exact ⟨k + 1, by omega, by go_num, HR, hbk⟩
            case measure => simp [intOf]; omega
          · have e3 : (xn == ap) = false := by simpa using h3
            rw [e3] at HP
            subst h2
            cases hB : belowB nl xn with
            | false =>
              have HR := HOK.out (by rw [HP.out, hB]; rfl)
              rw [hB] at HLB
              clear HOK HYES HP hB
              go_wp2_with fail
              refine (HLB.out _).mono ?_
              rintro e w1 ⟨rfl, rfl⟩
              go_wp2_with fail
              go_roundw
              case rel => exact ⟨k + 1, by omega, by go_num, HR, hbk⟩
              case measure => simp [intOf]; omega
            | true =>
              have HR : Hid (T = (xn, true)) := HYES.out (by rw [HP.out, hB]; rfl)
              rw [hB] at HLB
              clear HOK HYES HP hB
              go_wp2_with fail
              refine (HLB.out _).mono ?_
              rintro e w1 ⟨rfl, rfl⟩
              go_wp2_with fail
              refine (cloneR_any ⟨xn.toArray⟩ _ (by rw [size_list]; omega)).mono ?_
              rintro e w2 ⟨rfl, hb2⟩
              go_wp2_with fail
              go_ret2
              exact ⟨by rw [HR.out]; rfl, hbwk.trans (hb2.mono hbwk.size)⟩
        · have e2 : (xt == 2) = false := by simpa using h2
          have HR := HOK.out (by rw [HP.out, e2]; rfl)
          clear HOK HYES HP
          go_wp2_with fail
          go_roundw
          case rel => exact ⟨k + 1, by omega, by go_num, HR, hbk⟩
          case measure => simp [intOf]; omega
    · have HR : Hid (T = ([], false)) := HNO.out (fun j hj => HA.out j hj (by omega))
      go_wp2_with fail
      go_ret2
      exact ⟨by rw [HR.out]; rfl, hbw⟩
end Go.Proofs.YtgfldenhhogpbaaGreatDoor
