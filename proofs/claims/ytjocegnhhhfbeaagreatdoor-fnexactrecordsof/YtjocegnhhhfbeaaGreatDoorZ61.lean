import Derived.Test.YtjocegnhhhfbeaaGreatDoorZ36
import Derived.Test.YtjocegnhhhfbeaaGreatDoorZ35
import Derived.Test.YtjocegnhhhfbeaaGreatDoorZ60
namespace Go.Proofs.YtjocegnhhhfbeaaGreatDoor
open Go.RowKit

/-- The records of sets. -/
def recsOf (s : SetT) : List (List UInt8 × Int × Int × List UInt8) := s.2.2.2.map (fun d => (s.1, s.2.1, s.2.2.1, d))
def flatS (l : List SetT) : List (List UInt8 × Int × Int × List UInt8) := l.flatMap recsOf
theorem flatS_cons (s : SetT) (l : List SetT) : flatS (s :: l) = recsOf s ++ flatS l := rfl
theorem flatS_app (a b : List SetT) : flatS (a ++ b) = flatS a ++ flatS b := by unfold flatS; rw [List.flatMap_append]
theorem flatS_one (s : SetT) : flatS [s] = recsOf s := by rw [flatS_cons]; show recsOf s ++ [] = _; rw [List.append_nil]
/-- Records gathered behind sets. -/
def grpL (T : List SetT) : List (List UInt8 × Int × Int × List UInt8) → Option (List SetT)
  | [] => some T
  | r :: R => (grp T r).bind (fun T' => grpL T' R)
theorem grpL_app (A B : List (List UInt8 × Int × Int × List UInt8)) : ∀ T, grpL T (A ++ B) = (grpL T A).bind (fun T' => grpL T' B) := by
  induction A with
  | nil => intro T; rfl
  | cons r A ih =>
    intro T
    show (grp T r).bind (fun T' => grpL T' (A ++ B)) = ((grp T r).bind (fun T' => grpL T' A)).bind (fun T' => grpL T' B)
    cases grp T r with
    | none => rfl
    | some T' => exact ih T'
theorem grpN_L (R : List (List UInt8 × Int × Int × List UInt8)) : ∀ k, k ≤ R.length → grpN R k = grpL [] (R.take k)
  | 0, _ => rfl
  | k + 1, hk => by
    have ih := grpN_L R k (by omega)
    rw [List.take_succ_eq_append_getElem (show k < R.length by omega), grpL_app, ← ih]
    cases h : grpN R k with
    | none => exact grpN_none h 1
    | some S =>
      rw [grpN_next h (by omega)]
      show grp S R[k] = (grp S R[k]).bind (fun T' => some T')
      cases grp S R[k] <;> rfl
theorem grpN_all (R : List (List UInt8 × Int × Int × List UInt8)) : grpN R R.length = grpL [] R := by
  rw [grpN_L R R.length (Nat.le_refl _), List.take_length]
theorem grp_flat {T T' : List SetT} {r : List UInt8 × Int × Int × List UInt8} (h : grp T r = some T') : flatS T' = flatS T ++ [r] ∧ ((∀ s ∈ T, s.2.2.2 ≠ []) → ∀ s ∈ T', s.2.2.2 ≠ []) := by
  have new : recsOf (newT r) = [r] := rfl
  rcases List.eq_nil_or_concat T with rfl | ⟨A, s, hA⟩
  · rw [grp_nil] at h
    cases h
    refine ⟨by rw [flatS_one, new]; rfl, fun _ s hs => ?_⟩
    obtain rfl : s = newT r := by simpa using hs
    simp [newT]
  · rw [List.concat_eq_append] at hA
    subst hA
    by_cases h1 : s.1 = r.1 ∧ s.2.1 = r.2.1
    · by_cases h2 : s.2.2.1 = r.2.2.1
      · rw [grp_add h1 h2] at h
        cases h
        refine ⟨?_, fun hn q hq => ?_⟩
        · rw [flatS_app, flatS_app, flatS_one, flatS_one, List.append_assoc]
          congr 1
          unfold recsOf addT
          simp only [List.map_append, List.map_cons, List.map_nil]
          congr 1
          rw [h1.1, h1.2, h2]
        · rcases List.mem_append.1 hq with hq | hq
          · exact hn q (by simp [hq])
          · obtain rfl : q = addT s r := by simpa using hq
            simp [addT]
      · rw [grp_off h1 h2] at h; cases h
    · rw [grp_new h1] at h
      cases h
      refine ⟨by rw [flatS_app, flatS_one, new], fun hn q hq => ?_⟩
      rcases List.mem_append.1 hq with hq | hq
      · exact hn q hq
      · obtain rfl : q = newT r := by simpa using hq
        simp [newT]
theorem grpL_flat : ∀ {R : List (List UInt8 × Int × Int × List UInt8)} {T S : List SetT}, grpL T R = some S → flatS S = flatS T ++ R ∧ ((∀ s ∈ T, s.2.2.2 ≠ []) → ∀ s ∈ S, s.2.2.2 ≠ [])
  | [], T, S, h => by cases h; exact ⟨by rw [List.append_nil], fun h => h⟩
  | r :: R, T, S, h => by
    cases hg : grp T r with
    | none => rw [grpL, hg] at h; cases h
    | some T' =>
      rw [grpL, hg] at h
      have h1 := grp_flat hg
      have h2 := grpL_flat (show grpL T' R = some S from h)
      exact ⟨by rw [h2.1, h1.1, List.append_assoc]; rfl, fun hn => h2.2 (h1.2 hn)⟩
theorem grpL_same (n : List UInt8) (t l : Int) (A : List SetT) : ∀ (ds D : List (List UInt8)), grpL (A ++ [(n, t, l, D)]) (ds.map (fun d => (n, t, l, d))) = some (A ++ [(n, t, l, D ++ ds)])
  | [], D => by rw [List.append_nil]; rfl
  | d :: ds, D => by
    have h : grp (A ++ [(n, t, l, D)]) (n, t, l, d) = some (A ++ [(n, t, l, D ++ [d])]) := grp_add ⟨rfl, rfl⟩ rfl
    show (grp (A ++ [(n, t, l, D)]) (n, t, l, d)).bind (fun T' => grpL T' (ds.map (fun d => (n, t, l, d)))) = _
    rw [h]
    show grpL (A ++ [(n, t, l, D ++ [d])]) _ = _
    rw [grpL_same n t l A ds (D ++ [d]), List.append_assoc]; rfl
theorem grpL_set {T S : List SetT} {s : SetT} (hs : s.2.2.2 ≠ []) (h : grpL T (recsOf s) = some S) : S.length ≤ T.length + 1 ∧ (S.length = T.length + 1 → S = T ++ [s]) := by
  obtain ⟨n, t, l, D⟩ := s
  cases D with
  | nil => exact absurd rfl hs
  | cons d ds =>
    have h' : (grp T (n, t, l, d)).bind (fun T' => grpL T' (ds.map (fun d => (n, t, l, d)))) = some S := h
    have key : ∀ A, grpL (A ++ [newT (n, t, l, d)]) (ds.map (fun d => (n, t, l, d))) = some (A ++ [(n, t, l, d :: ds)]) := fun A => grpL_same n t l A ds [d]
    rcases List.eq_nil_or_concat T with rfl | ⟨A, s', hA⟩
    · rw [grp_nil] at h'
      have h2 : grpL ([] ++ [newT (n, t, l, d)]) (ds.map (fun d => (n, t, l, d))) = some S := h'
      rw [key []] at h2
      cases h2
      exact ⟨by simp, fun _ => rfl⟩
    · rw [List.concat_eq_append] at hA
      subst hA
      by_cases h1 : s'.1 = n ∧ s'.2.1 = t
      · by_cases h2 : s'.2.2.1 = l
        · rw [grp_add (r := (n, t, l, d)) h1 h2] at h'
          have e : addT s' (n, t, l, d) = (n, t, l, s'.2.2.2 ++ [d]) := by unfold addT; rw [h1.1, h1.2, h2]
          have h3 : grpL (A ++ [addT s' (n, t, l, d)]) (ds.map (fun d => (n, t, l, d))) = some S := h'
          rw [e, grpL_same] at h3
          cases h3
          refine ⟨by simp, fun hl => ?_⟩
          simp at hl
        · rw [grp_off (r := (n, t, l, d)) h1 h2] at h'; cases h'
      · rw [grp_new (r := (n, t, l, d)) h1] at h'
        have h3 : grpL (A ++ [s'] ++ [newT (n, t, l, d)]) (ds.map (fun d => (n, t, l, d))) = some S := h'
        rw [key (A ++ [s'])] at h3
        cases h3
        exact ⟨by simp, fun _ => rfl⟩
theorem grpL_sets : ∀ {l T S : List SetT}, (∀ s ∈ l, s.2.2.2 ≠ []) → grpL T (flatS l) = some S → S.length ≤ T.length + l.length ∧ (S.length = T.length + l.length → S = T ++ l)
  | [], T, S, _, h => by cases h; exact ⟨by simp, fun _ => by rw [List.append_nil]⟩
  | s :: l, T, S, hn, h => by
    rw [flatS_cons, grpL_app] at h
    cases hg : grpL T (recsOf s) with
    | none => rw [hg] at h; cases h
    | some T' =>
      rw [hg] at h
      have h1 := grpL_set (hn s (by simp)) hg
      have h2 := grpL_sets (fun q hq => hn q (by simp [hq])) (show grpL T' (flatS l) = some S from h)
      rw [List.length_cons]
      refine ⟨by omega, fun he => ?_⟩
      have e1 := h1.2 (by omega)
      have e2 := h2.2 (by omega)
      rw [e2, e1, List.append_assoc]; rfl
theorem ris_of {L : List (List UInt8 × Int × Int × List UInt8)} (h : risesB L = true) (hG : ∀ x ∈ L, GoodQ x) : risQ L := by
  unfold risesB at h
  rw [adj_iff] at h
  unfold risQ
  rw [List.pairwise_iff_getElem]
  intro i j hi hj hij
  have g : ∀ j, (hj : j < L.length) → GoodQ L[j] := fun j hj => hG _ (List.getElem_mem hj)
  induction j with
  | zero => omega
  | succ j ih =>
    have h1 : cmp4 (L[j]'(by omega)) L[j + 1] < 0 := by simpa using h j hj
    by_cases e : i = j
    · subst e; exact h1
    · exact c4_ltr (g i hi) (g j (by omega)) (g (j + 1) hj) (ih (by omega) (by omega)) (by omega)
theorem rises_of {L : List (List UInt8 × Int × Int × List UInt8)} (h : risQ L) : risesB L = true := by
  unfold risesB
  rw [adj_iff]
  intro j hj
  unfold risQ at h
  rw [List.pairwise_iff_getElem] at h
  simpa using h j (j + 1) (by omega) hj (by omega)
/-- What RecordsOf asks of sets, as the specification asks it. -/
def recC (l : List SetT) : Prop := (∀ s ∈ l, s.2.2.2 ≠ []) ∧ aresB (flatS l) = true ∧ risesB (flatS l) = true ∧ (flatS l).length ≤ 60 ∧ ∃ S, grpN (flatS l) (flatS l).length = some S ∧ S.length ≤ 40 ∧ S.length = l.length
theorem rec_same {l : List SetT} (hx : ∀ x ∈ flatS l, x.1.length ≤ 1048576 ∧ x.2.2.2.length ≤ 1048576) : recC l ↔ (flatS l).length ≤ 60 ∧ setsO (flatS l) = some l := by
  have good : aresB (flatS l) = true → ∀ x ∈ flatS l, GoodQ x := fun h x hm => by
    obtain ⟨j, hj, rfl⟩ := List.getElem_of_mem hm
    have h1 := recB_name (ares_get h j hj)
    have h2 := hx _ (List.getElem_mem hj)
    exact ⟨h1.1, h1.2, h2.1, h2.2⟩
  constructor
  · rintro ⟨h1, h2, h3, h4, S, h5, h6, h7⟩
    refine ⟨h4, ?_⟩
    have hG := good h2
    have hr := ris_of h3 hG
    have ha := andQ_set (U := flatS l) (L := []) (fun x hx => by cases hx) hG List.Pairwise.nil
    have he : flatS l = andQ [] (flatS l) := ris_one hG hr ha.1 (fun x => by rw [ha.2]; simp)
    have hS : S = l := by
      rw [grpN_all] at h5
      have h8 := grpL_sets (T := []) h1 h5
      exact h8.2 (by simpa using h7)
    subst hS
    exact setsO_some h4 h2 (by rw [← he]; exact h5) h6
  · rintro ⟨h1, h2⟩
    unfold setsO at h2
    split at h2
    · rename_i hc
      cases hG : grpN (andQ [] (flatS l)) (andQ [] (flatS l)).length with
      | none => rw [hG] at h2; cases h2
      | some T =>
        rw [hG] at h2
        simp only at h2
        split at h2
        · rename_i h40
          cases h2
          have hgood := good hc.2
          have ha := andQ_set (U := flatS l) (L := []) (fun x hx => by cases hx) hgood List.Pairwise.nil
          have hfl := grpL_flat (T := []) (by rw [← grpN_all]; exact hG)
          have he : flatS l = andQ [] (flatS l) := hfl.1
          have hr : risQ (flatS l) := by rw [he]; exact ha.1
          refine ⟨hfl.2 (fun s hs => by cases hs), hc.2, rises_of hr, h1, l, ?_, h40, rfl⟩
          rw [← he] at hG
          exact hG
        · cases h2
    · cases h2
end Go.Proofs.YtjocegnhhhfbeaaGreatDoor

namespace Go.Proofs.YtjocegnhhhfbeaaGreatDoor
open Go.RowKit

/-- RecordsOf's answers. -/
def rcoB (l : List SetT) : Bool := decide ((flatS l).length ≤ 60 ∧ setsO (flatS l) = some l)
def rcoX (l : List SetT) : List (List UInt8 × Int × Int × List UInt8) := if rcoB l = true then flatS l else []
theorem rcoX_len (l : List SetT) : (rcoX l).length ≤ 60 := by
  unfold rcoX
  split
  · rename_i h
    unfold rcoB at h
    exact (of_decide_eq_true h).1
  · simp
theorem flat_fit {l : List SetT} (hx : ∀ x ∈ l, SBig x) : ∀ x ∈ flatS l, x.1.length ≤ 1048576 ∧ x.2.2.2.length ≤ 1048576 := by
  intro x h
  unfold flatS recsOf at h
  rw [List.mem_flatMap] at h
  obtain ⟨s, hs, h⟩ := h
  rw [List.mem_map] at h
  obtain ⟨d, hd, rfl⟩ := h
  exact ⟨(hx s hs).1, (hx s hs).2.2 d hd⟩
theorem flat_len (l : List SetT) : (flatS l).length ≤ wtS l := by
  induction l with
  | nil => exact Nat.le_refl _
  | cons s l ih =>
    rw [flatS_cons, List.length_append]
    have e : wtS (s :: l) = wtS1 s + wtS l := by unfold wtS; rw [List.map_cons, List.sum_cons]
    rw [e]
    unfold wtS1 recsOf
    rw [List.length_map]
    omega
theorem rcoB_iff {l : List SetT} (hx : ∀ x ∈ l, SBig x) : rcoB l = true ↔ recC l := by
  rw [rec_same (flat_fit hx)]
  unfold rcoB
  exact decide_eq_true_iff
theorem rcoB_not {l : List SetT} (hx : ∀ x ∈ l, SBig x) (h : ¬ recC l) : rcoB l = false := by
  cases hq : rcoB l with
  | false => rfl
  | true => exact absurd ((rcoB_iff hx).1 hq) h
/-- The records ahead of a datum. -/
def mkR (s : SetT) (d : List UInt8) : List UInt8 × Int × Int × List UInt8 := (s.1, s.2.1, s.2.2.1, d)
theorem flat_snoc (l : List SetT) (k : Nat) (h : k < l.length) : flatS (l.take (k + 1)) = flatS (l.take k) ++ (l[k].2.2.2).map (mkR l[k]) := by
  rw [List.take_succ_eq_append_getElem h, flatS_app, flatS_one]; rfl
theorem flat_at (l : List SetT) (k : Nat) (h : k < l.length) (j : Nat) (hj : j < l[k].2.2.2.length) : ∃ R, flatS l = flatS (l.take k) ++ (l[k].2.2.2.take j).map (mkR l[k]) ++ mkR l[k] l[k].2.2.2[j] :: R := by
  refine ⟨(l[k].2.2.2.drop (j + 1)).map (mkR l[k]) ++ flatS (l.drop (k + 1)), ?_⟩
  have e : flatS l = flatS (l.take (k + 1)) ++ flatS (l.drop (k + 1)) := by rw [← flatS_app, List.take_append_drop]
  have e2 : (l[k].2.2.2).map (mkR l[k]) = (l[k].2.2.2.take j).map (mkR l[k]) ++ mkR l[k] l[k].2.2.2[j] :: (l[k].2.2.2.drop (j + 1)).map (mkR l[k]) := by
    rw [← List.map_cons, ← List.drop_eq_getElem_cons hj, ← List.map_append, List.take_append_drop]
  rw [e, flat_snoc l k h, e2]
  simp only [List.append_assoc, List.cons_append]
def POk (F : List (List UInt8 × Int × Int × List UInt8)) : Prop := aresB F = true ∧ risesB F = true
theorem pok_nil : POk [] := ⟨rfl, rfl⟩
theorem rcf_ares (A B : List (List UInt8 × Int × Int × List UInt8)) : aresB (A ++ B) = (aresB A && aresB B) := by unfold aresB; rw [List.all_append]
theorem rcf_ares1 (x : List UInt8 × Int × Int × List UInt8) : aresB [x] = recB x.1 x.2.1 x.2.2.1 x.2.2.2 := by unfold aresB; simp
theorem rcf_bad {A R : List (List UInt8 × Int × Int × List UInt8)} {y x : List UInt8 × Int × Int × List UInt8} (h : 0 ≤ cmp4 y x) : risesB (A ++ [y] ++ x :: R) = false := by
  have hl : A.length + 1 < (A ++ [y] ++ x :: R).length := by simp
  refine adj_bad A.length hl ?_
  have e1 : (A ++ [y] ++ x :: R)[A.length]'(by omega) = y := by simp
  have e2 : (A ++ [y] ++ x :: R)[A.length + 1] = x := by rw [List.getElem_append_right (by simp)]; simp
  rw [e1, e2]
  simp; omega
theorem rcf_snoc {A : List (List UInt8 × Int × Int × List UInt8)} {y x : List UInt8 × Int × Int × List UInt8} (h : risesB (A ++ [y]) = true) (hc : cmp4 y x < 0) : risesB (A ++ [y] ++ [x]) = true := by
  unfold risesB at h ⊢
  rw [adj_iff] at h ⊢
  intro j hj
  by_cases hlt : j + 1 < (A ++ [y]).length
  · have := h j hlt
    rw [List.getElem_append_left (by omega), List.getElem_append_left hlt]
    exact this
  · have hl : (A ++ [y] ++ [x]).length = A.length + 2 := by simp
    have hl2 : (A ++ [y]).length = A.length + 1 := by simp
    obtain rfl : j = A.length := by omega
    have e1 : (A ++ [y] ++ [x])[A.length]'(by omega) = y := by simp
    have e2 : (A ++ [y] ++ [x])[A.length + 1] = x := by rw [List.getElem_append_right (by simp)]; simp
    rw [e1, e2]
    simpa using hc
theorem pok_first {x : List UInt8 × Int × Int × List UInt8} (h : recB x.1 x.2.1 x.2.2.1 x.2.2.2 = true) : POk ([] ++ [x]) := ⟨by rw [List.nil_append, rcf_ares1]; exact h, rfl⟩
theorem pok_next {A : List (List UInt8 × Int × Int × List UInt8)} {y x : List UInt8 × Int × Int × List UInt8} (h : POk (A ++ [y])) (hx : recB x.1 x.2.1 x.2.2.1 x.2.2.2 = true) (hc : cmp4 y x < 0) : POk (A ++ [y] ++ [x]) :=
  ⟨by rw [rcf_ares, h.1, rcf_ares1, hx]; rfl, rcf_snoc h.2 hc⟩
theorem recC_bad1 {l : List SetT} {A R : List (List UInt8 × Int × Int × List UInt8)} {x : List UInt8 × Int × Int × List UInt8} (e : flatS l = A ++ x :: R) (h : recB x.1 x.2.1 x.2.2.1 x.2.2.2 = false) : ¬ recC l := fun hc => by
  have h1 := hc.2.1
  rw [e, rcf_ares] at h1
  have h2 : aresB (x :: R) = false := by unfold aresB; rw [List.all_cons, h]; rfl
  rw [h2, Bool.and_false] at h1
  cases h1
theorem recC_bad2 {l : List SetT} {A R : List (List UInt8 × Int × Int × List UInt8)} {y x : List UInt8 × Int × Int × List UInt8} (e : flatS l = A ++ [y] ++ x :: R) (h : 0 ≤ cmp4 y x) : ¬ recC l := fun hc => by
  have h1 := hc.2.2.1
  rw [e, rcf_bad h] at h1
  cases h1
theorem rcf_off {w : World} {base m n g : Nat} {e t : TypeId} {v : Value} {xs : List Value} {c : Array Value} (h : w.ownsRow base e m v n xs) (hk : w.heap[g]? = some (.cells c t)) (hne : e ≠ t) : ∀ j, v.ownBlock = some j → j ≠ g := by
  intro j hj hg
  subst hg
  rcases h.2 with ⟨rfl, _⟩ | ⟨g, cap, cur, rfl, hb, hg, _⟩
  · simp [Value.ownBlock] at hj
  · simp [Value.ownBlock] at hj
    subst hj
    rw [hg] at hk
    injection hk with hk
    injection hk with h1 h2
    exact hne h2
end Go.Proofs.YtjocegnhhhfbeaaGreatDoor
