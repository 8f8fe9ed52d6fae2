import Derived.Test.YtgfldenhhogpbaaGreatDoorZ35
import Derived.Test.YtgfldenhhogpbaaGreatDoorZ23
import Derived.Test.YtgfldenhhogpbaaGreatDoorZ25
import Derived.Test.YtgfldenhhogpbaaGreatDoorZ27
namespace Go.Proofs.YtgfldenhhogpbaaGreatDoor
open Go.RowKit

/-- A zone as a value in memory. -/
structure ZV where
  nm : ByteArray
  ct : Int
  a : Option Addr
  n : Nat
  c : Nat
abbrev RecZ : Type := List (List UInt8 × Int × Int × List UInt8)
def ZV.sl (e : ZV) : Value := .slice e.a e.n e.c
def Zon3 (w : World) (b o : Nat) (e : ZV) : Prop :=
  w.cell? ⟨b, o, none⟩ = some (.string e.nm) ∧ w.cell? ⟨b, o + 1, none⟩ = some (.int .i64 e.ct) ∧ w.cell? ⟨b, o + 2, none⟩ = some (.slice e.a e.n e.c)
theorem Zon3.kept {w w' : World} {b o : Nat} {e : ZV} (h : Zon3 w b o e) {B : Nat} (hb : Below B w w') (hB : b < B) : Zon3 w' b o e := by
  unfold Zon3
  rw [hb.cell (p := ⟨b, o, none⟩) hB, hb.cell (p := ⟨b, o + 1, none⟩) hB, hb.cell (p := ⟨b, o + 2, none⟩) hB]
  exact h
def ZQRow (w : World) (g : Nat) (P : List ZV) : Prop :=
  g < w.heap.size ∧ ∀ j, (hj : j < P.length) → Zon3 w g (j * 3) P[j] ∧ ∀ r, r < 3 → w.frozen? ⟨g, j * 3 + r, none⟩ = false
/-- What a zone in memory tells. -/
def conZ (p : ZV × RecZ) : ZonT := (p.1.nm.data.toList, p.1.ct, p.2)
/-- Zones that may be written to: their cells in one block, the records of each in a row of their own, apart. -/
structure ZRel (w : World) (base g : Nat) (M : List (ZV × RecZ)) : Prop where
  row : ZQRow w g (M.map (·.1))
  recs : ∀ p ∈ M, OwnQ w base p.1.sl p.2
  apart : M.Pairwise (fun p q => ∀ g, p.1.sl.ownBlock = some g → q.1.sl.ownBlock ≠ some g)
  off : ∀ p ∈ M, p.1.sl.ownBlock ≠ some g
/-- The zones of a copy that the law made. -/
def zvT (x : ZonT) (t : Nat) : ZV × RecZ := (⟨⟨x.1.toArray⟩, x.2.1, some ⟨t, 0, none⟩, x.2.2.length, x.2.2.length⟩, x.2.2)
def zvL (T : Nat → Nat) (L : List ZonT) : List (ZV × RecZ) := L.mapIdx (fun j x => zvT x (T j))
theorem con_zvL (T : Nat → Nat) (L : List ZonT) : (zvL T L).map conZ = L := by
  apply List.ext_getElem (by simp [zvL])
  intro j h1 h2
  simp [zvL, zvT, conZ]
theorem znown_rel {w : World} {g : Nat} {T : Nat → Nat} {L : List ZonT} (h : ZnOwn w g T L) (hx : ∀ x ∈ L, ZBig x) : ZRel w g g (zvL T L) := by
  obtain ⟨hg, hc, he, ht⟩ := h
  have hlen : (zvL T L).length = L.length := by simp [zvL]
  have hat : ∀ j (hj : j < L.length), (zvL T L)[j]'(by rw [hlen]; exact hj) = zvT L[j] (T j) := fun j hj => by simp [zvL]
  refine ⟨⟨hg, fun j hj => ?_⟩, fun p hp => ?_, ?_, fun p hp hgg => ?_⟩
  · have hj' : j < L.length := by simpa [zvL] using hj
    rw [List.getElem_map, hat j hj']
    exact ⟨⟨(he j hj').2.1, (he j hj').2.2.1, (he j hj').2.2.2.1⟩, fun r hr => (hc (j * 3 + r) (by omega)).2⟩
  · obtain ⟨j, hj, rfl⟩ := List.mem_iff_getElem.1 hp
    rw [hlen] at hj
    rw [hat j hj]
    have hb := (hx _ (List.getElem_mem hj)).2.1
    exact .inr ⟨T j, L[j].2.2.length, rfl, Nat.le_refl _, by unfold maxLen; omega, Nat.le_of_lt (he j hj).1, (he j hj).2.2.2.2⟩
  · rw [List.pairwise_iff_getElem]
    intro i j hi hj hij k hk hk2
    rw [hlen] at hi hj
    rw [hat i hi] at hk
    rw [hat j hj] at hk2
    have e1 : T i = k := Option.some.inj hk
    have e2 : T j = k := Option.some.inj hk2
    have := ht i j hij hj
    omega
  · obtain ⟨j, hj, rfl⟩ := List.mem_iff_getElem.1 hp
    rw [hlen] at hj
    rw [hat j hj] at hgg
    have e1 : T j = g := Option.some.inj hgg
    have := (he j hj).1
    omega
theorem ZRel.kept {w w' : World} {base g : Nat} {M : List (ZV × RecZ)} (h : ZRel w base g M) (hb : Below w.heap.size w w') : ZRel w' base g M :=
  ⟨⟨Nat.lt_of_lt_of_le h.row.1 hb.size, fun j hj => ⟨(h.row.2 j hj).1.kept hb h.row.1, fun r hr => by rw [hb.frozen (p := ⟨g, j * 3 + r, none⟩) h.row.1]; exact (h.row.2 j hj).2 r hr⟩⟩, fun p hp => (h.recs p hp).kept hb, h.apart, h.off⟩
/-- The cells of one zone among others. -/
theorem ZRel.at {w : World} {base g : Nat} {A B : List (ZV × RecZ)} {x : ZV × RecZ} (h : ZRel w base g (A ++ x :: B)) : Zon3 w g (A.length * 3) x.1 ∧ ∀ r, r < 3 → w.frozen? ⟨g, A.length * 3 + r, none⟩ = false := by
  have h1 := h.row.2 A.length (by simp)
  have e : ((A ++ x :: B).map (·.1))[A.length]'(by simp) = x.1 := by simp
  rw [e] at h1
  exact h1
/-- One zone written anew, its records left where they are. -/
theorem ZRel.put {w w' : World} {base g : Nat} {A B : List (ZV × RecZ)} {x : ZV × RecZ} {y : ZV} (h : ZRel w base g (A ++ x :: B)) (hsl : y.sl = x.1.sl) (hk : Kpt w w' (· = g))
    (hy : Zon3 w' g (A.length * 3) y) (hc : ∀ c, (c < A.length * 3 ∨ A.length * 3 + 3 ≤ c) → w'.cell? ⟨g, c, none⟩ = w.cell? ⟨g, c, none⟩) (hf : ∀ c, w'.frozen? ⟨g, c, none⟩ = w.frozen? ⟨g, c, none⟩) : ZRel w' base g (A ++ (y, x.2) :: B) := by
  refine ⟨⟨Nat.lt_of_lt_of_le h.row.1 hk.size, fun j hj => ?_⟩, fun p hp => ?_, ?_, fun p hp => ?_⟩
  · have hj' : j < ((A ++ x :: B).map (·.1)).length := by simpa using hj
    have h1 := h.row.2 j hj'
    refine ⟨?_, fun r hr => by rw [hf]; exact h1.2 r hr⟩
    by_cases hja : j = A.length
    · subst hja
      have e : ((A ++ (y, x.2) :: B).map (·.1))[A.length]'hj = y := by simp
      rw [e]
      exact hy
    · have e : ((A ++ (y, x.2) :: B).map (·.1))[j]'hj = ((A ++ x :: B).map (·.1))[j]'hj' := by
        rw [List.getElem_map, List.getElem_map]
        by_cases hlt : j < A.length
        · rw [List.getElem_append_left hlt, List.getElem_append_left hlt]
        · rw [List.getElem_append_right (by omega), List.getElem_append_right (by omega)]
          obtain ⟨d, hd⟩ : ∃ d, j - A.length = d + 1 := ⟨j - A.length - 1, by omega⟩
          simp only [hd, List.getElem_cons_succ]
      rw [e]
      obtain ⟨c0, c1, c2⟩ := h1.1
      unfold Zon3
      rw [hc (j * 3) (by omega), hc (j * 3 + 1) (by omega), hc (j * 3 + 2) (by omega)]
      exact ⟨c0, c1, c2⟩
  · have hq : ∃ q ∈ A ++ x :: B, q.1.sl = p.1.sl ∧ q.2 = p.2 := by
      rcases List.mem_append.1 hp with h1 | h1
      · exact ⟨p, List.mem_append_left _ h1, rfl, rfl⟩
      · rcases List.mem_cons.1 h1 with h2 | h2
        · subst h2; exact ⟨x, by simp, hsl.symm, rfl⟩
        · exact ⟨p, by simp [h2], rfl, rfl⟩
    obtain ⟨q, hq1, hq2, hq3⟩ := hq
    rw [← hq2, ← hq3]
    exact (h.recs q hq1).kpt hk (fun k hk2 e => h.off q hq1 (by rw [hk2, e]))
  · have h1 := h.apart
    rw [List.pairwise_append, List.pairwise_cons] at h1 ⊢
    refine ⟨h1.1, ⟨fun q hq k hk2 => h1.2.1.1 q hq k (by rw [← hsl]; exact hk2), h1.2.1.2⟩, fun p hp q hq => ?_⟩
    rcases List.mem_cons.1 hq with h2 | h2
    · subst h2
      intro k hk2
      show y.sl.ownBlock ≠ some k
      rw [hsl]
      exact h1.2.2 p hp x (by simp) k hk2
    · exact h1.2.2 p hp q (by simp [h2])
  · rcases List.mem_append.1 hp with h1 | h1
    · exact h.off p (by simp [h1])
    · rcases List.mem_cons.1 h1 with h2 | h2
      · subst h2
        show y.sl.ownBlock ≠ some g
        rw [hsl]
        exact h.off x (by simp)
      · exact h.off p (by simp [h2])
/-- The records of one zone written anew. -/
theorem ZRel.over {w w' : World} {base g : Nat} {A B : List (ZV × RecZ)} {x : ZV} {R R' : RecZ} (h : ZRel w base g (A ++ (x, R) :: B)) (ho : OwnQ w' base x.sl R') (hk : Kpt w w' (fun k => x.sl.ownBlock = some k)) : ZRel w' base g (A ++ (x, R') :: B) := by
  have hg : ¬ x.sl.ownBlock = some g := h.off (x, R) (by simp)
  have hap := h.apart
  rw [List.pairwise_append, List.pairwise_cons] at hap
  refine ⟨⟨Nat.lt_of_lt_of_le h.row.1 hk.size, fun j hj => ?_⟩, fun p hp => ?_, ?_, fun p hp => ?_⟩
  · have e : (A ++ (x, R') :: B).map (·.1) = (A ++ (x, R) :: B).map (·.1) := by simp
    have h1 := h.row.2 j (by rw [← e]; exact hj)
    simp only [e]
    have hbl := hk.block g h.row.1 hg
    obtain ⟨⟨c0, c1, c2⟩, hf⟩ := h1
    have hcell : ∀ c, w'.cell? ⟨g, c, none⟩ = w.cell? ⟨g, c, none⟩ := fun c => by simp only [World.cell?, hbl]
    have hfro : ∀ c, w'.frozen? ⟨g, c, none⟩ = w.frozen? ⟨g, c, none⟩ := fun c => by simp only [World.frozen?, hbl]
    refine ⟨?_, fun r hr => by rw [hfro]; exact hf r hr⟩
    unfold Zon3
    simp only [hcell]
    exact ⟨c0, c1, c2⟩
  · rcases List.mem_append.1 hp with h1 | h1
    · exact (h.recs p (by simp [h1])).kpt hk (fun k hk2 e => hap.2.2 p h1 (x, R) (by simp) k hk2 e)
    · rcases List.mem_cons.1 h1 with h2 | h2
      · subst h2; exact ho
      · exact (h.recs p (by simp [h2])).kpt hk (fun k hk2 e => hap.2.1.1 p h2 k e hk2)
  · rw [List.pairwise_append, List.pairwise_cons]
    refine ⟨hap.1, ⟨fun q hq => hap.2.1.1 q hq, hap.2.1.2⟩, fun p hp q hq => ?_⟩
    rcases List.mem_cons.1 hq with h2 | h2
    · subst h2; exact hap.2.2 p hp (x, R) (by simp)
    · exact hap.2.2 p hp q (by simp [h2])
  · rcases List.mem_append.1 hp with h1 | h1
    · exact h.off p (by simp [h1])
    · rcases List.mem_cons.1 h1 with h2 | h2
      · subst h2; exact hg
      · exact h.off p (by simp [h2])
/-- Zones with marks in them, from a number on. -/
def mkZ (K : Nat) (p : ZV × RecZ) : ZV × RecZ := (⟨⟨(mark K).toArray⟩, (K : Int) + 1, p.1.a, p.1.n, p.1.c⟩, mrks (K + 2) p.2.length)
def markZ : Nat → List (ZV × RecZ) → List (ZV × RecZ)
  | _, [] => []
  | K, x :: r => mkZ K x :: markZ (K + 2 + 4 * x.2.length) r
def totZ : List (ZV × RecZ) → Nat
  | [] => 0
  | x :: r => 2 + 4 * x.2.length + totZ r
theorem totZ_cons (x : ZV × RecZ) (r : List (ZV × RecZ)) : totZ (x :: r) = 2 + 4 * x.2.length + totZ r := rfl
theorem markZ_cons (K : Nat) (x : ZV × RecZ) (r : List (ZV × RecZ)) : markZ K (x :: r) = mkZ K x :: markZ (K + 2 + 4 * x.2.length) r := rfl
def cellsV3 (e : ZV) : List Value := [.string e.nm, .int .i64 e.ct, .slice e.a e.n e.c]
theorem zon3_iff {w : World} {b o : Nat} {e : ZV} : Zon3 w b o e ↔ ∀ s, s < 3 → w.cell? ⟨b, o + s, none⟩ = (cellsV3 e)[s]? := by
  constructor
  · rintro ⟨c0, c1, c2⟩ s hs
    obtain rfl | rfl | rfl : s = 0 ∨ s = 1 ∨ s = 2 := by omega
    · exact c0
    · exact c1
    · exact c2
  · intro h
    exact ⟨h 0 (by omega), h 1 (by omega), h 2 (by omega)⟩
/-- One cell of one zone written anew. -/
theorem ZRel.put1 {w : World} {base g : Nat} {A B : List (ZV × RecZ)} {x : ZV × RecZ} {y : ZV} (h : ZRel w base g (A ++ x :: B)) (r : Nat) (u : Value) (hr : r < 3) (hset : cellsV3 y = (cellsV3 x.1).set r u) (hsl : y.sl = x.1.sl) : ZRel (w.setCell ⟨g, A.length * 3 + r, none⟩ u) base g (A ++ (y, x.2) :: B) := by
  have hx := zon3_iff.1 h.at.1
  refine h.put hsl (kpt_set w g _ u rfl) (zon3_iff.2 fun s hs => ?_) (fun c hc => ?_) (fun c => ?_)
  · rw [hset]
    by_cases e : s = r
    · subst e
      have hl : s < (cellsV3 x.1).length := hs
      have h1 : w.cell? ⟨g, A.length * 3 + s, none⟩ = some ((cellsV3 x.1)[s]'hl) := (hx s hs).trans (List.getElem?_eq_getElem hl)
      rw [World.cell?_setCell_same' w _ u (by rw [h1]; rfl), List.getElem?_set_self hl]
    · rw [World.cell?_setCell_other w ⟨g, A.length * 3 + r, none⟩ ⟨g, A.length * 3 + s, none⟩ u (by intro k; injection k; omega), hx s hs, List.getElem?_set_ne (by omega)]
  · exact World.cell?_setCell_other _ _ _ _ (by intro k; injection k; omega)
  · simp
/-- The blocks of zones that may be written to. -/
def inZn (g : Nat) (M : List (ZV × RecZ)) (k : Nat) : Prop := k = g ∨ ∃ p ∈ M, p.1.sl.ownBlock = some k
theorem ZRel.kpt {w w' : World} {base g : Nat} {M : List (ZV × RecZ)} {S : Nat → Prop} (h : ZRel w base g M) (hk : Kpt w w' S) (hn : ∀ k, inZn g M k → ¬ S k) : ZRel w' base g M := by
  have hbl := hk.block g h.row.1 (hn g (.inl rfl))
  have hcell : ∀ c, w'.cell? ⟨g, c, none⟩ = w.cell? ⟨g, c, none⟩ := fun c => by simp only [World.cell?, hbl]
  have hfro : ∀ c, w'.frozen? ⟨g, c, none⟩ = w.frozen? ⟨g, c, none⟩ := fun c => by simp only [World.frozen?, hbl]
  refine ⟨⟨Nat.lt_of_lt_of_le h.row.1 hk.size, fun j hj => ?_⟩, fun p hp => (h.recs p hp).kpt hk (fun k hk2 => hn k (.inr ⟨p, hp, hk2⟩)), h.apart, h.off⟩
  obtain ⟨⟨c0, c1, c2⟩, hf⟩ := h.row.2 j hj
  refine ⟨?_, fun r hr => by rw [hfro]; exact hf r hr⟩
  unfold Zon3
  simp only [hcell]
  exact ⟨c0, c1, c2⟩
/-- The zones of a world that may be written to, or none. -/
def WRel (w : World) (base : Nat) (v : Value) (M : List (ZV × RecZ)) : Prop := (v = .slice none 0 0 ∧ M = []) ∨ ∃ g cap, v = .slice (some ⟨g, 0, none⟩) M.length cap ∧ M.length ≤ cap ∧ cap ≤ maxLen ∧ base ≤ g ∧ ZRel w base g M
/-- Their blocks. -/
def inW (v : Value) (M : List (ZV × RecZ)) (k : Nat) : Prop := v.ownBlock = some k ∨ ∃ p ∈ M, p.1.sl.ownBlock = some k
theorem WRel.kept {w w' : World} {base : Nat} {v : Value} {M : List (ZV × RecZ)} (h : WRel w base v M) (hb : Below w.heap.size w w') : WRel w' base v M := by
  rcases h with h | ⟨g, cap, h1, h2, h3, h4, h5⟩
  · exact .inl h
  · exact .inr ⟨g, cap, h1, h2, h3, h4, h5.kept hb⟩
theorem WRel.kpt {w w' : World} {base : Nat} {v : Value} {M : List (ZV × RecZ)} {S : Nat → Prop} (h : WRel w base v M) (hk : Kpt w w' S) (hn : ∀ k, inW v M k → ¬ S k) : WRel w' base v M := by
  rcases h with h | ⟨g, cap, h1, h2, h3, h4, h5⟩
  · exact .inl h
  · refine .inr ⟨g, cap, h1, h2, h3, h4, h5.kpt hk (fun k hk2 => hn k ?_)⟩
    rcases hk2 with h6 | h6
    · subst h6; exact .inl (by rw [h1]; rfl)
    · exact .inr h6
theorem WRel.lt {w : World} {base : Nat} {v : Value} {M : List (ZV × RecZ)} (h : WRel w base v M) : ∀ k, inW v M k → base ≤ k ∧ k < w.heap.size := by
  intro k hk
  rcases h with ⟨h1, h2⟩ | ⟨g, cap, h1, h2, h3, h4, h5⟩
  · subst h1 h2
    rcases hk with h | ⟨p, hp, _⟩
    · cases h
    · cases hp
  · rcases hk with h | ⟨p, hp, h⟩
    · rw [h1] at h
      have e : g = k := Option.some.inj h
      subst e
      exact ⟨h4, h5.row.1⟩
    · exact (h5.recs p hp).lt k h
theorem WRel.row {w : World} {base : Nat} {v : Value} {M : List (ZV × RecZ)} (h : WRel w base v M) : ZnRow w v (M.map conZ) := by
  rcases h with ⟨h1, h2⟩ | ⟨g, cap, h1, h2, h3, h4, h5⟩
  · subst h1 h2
    exact ⟨none, 0, rfl, Nat.le_refl _, by unfold maxLen; omega, .inl rfl⟩
  · refine ⟨some ⟨g, 0, none⟩, cap, by rw [List.length_map]; exact h1, by rw [List.length_map]; exact h2, h3, .inr ⟨g, 0, rfl, h5.row.1, fun j hj => ?_⟩⟩
    have hj' : j < M.length := by simpa using hj
    have hq := (h5.row.2 j (by simpa using hj')).1
    rw [List.getElem_map] at hq
    rw [List.getElem_map, Nat.zero_add]
    obtain ⟨c0, c1, c2⟩ := hq
    exact ⟨M[j].1.sl, c0, c1, c2, (h5.recs M[j] (List.getElem_mem hj')).row⟩
theorem WRel.shape {w : World} {base : Nat} {v : Value} {M : List (ZV × RecZ)} (h : WRel w base v M) : ∃ a n c, v = .slice a n c := by
  rcases h with ⟨h1, _⟩ | ⟨g, cap, h1, _⟩
  · exact ⟨_, _, _, h1⟩
  · exact ⟨_, _, _, h1⟩
theorem zvL_len (T : Nat → Nat) (L : List ZonT) : (zvL T L).length = L.length := by simp [zvL]
theorem znown_wrel {w : World} {g : Nat} {T : Nat → Nat} {L : List ZonT} (h : ZnOwn w g T L) (hx : ∀ x ∈ L, ZBig x) (hl : L.length ≤ 1048576) : WRel w g (.slice (some ⟨g, 0, none⟩) L.length L.length) (zvL T L) :=
  .inr ⟨g, L.length, by rw [zvL_len], by rw [zvL_len]; exact Nat.le_refl _, by unfold maxLen; omega, Nat.le_refl _, znown_rel h hx⟩
theorem markZ_len : ∀ (K : Nat) (M : List (ZV × RecZ)), (markZ K M).length = M.length
  | _, [] => rfl
  | K, x :: r => by rw [markZ_cons, List.length_cons, List.length_cons, markZ_len (K + 2 + 4 * x.2.length) r]
/-- As many marks as two for each zone, four for each record. -/
theorem totZ_le : ∀ M : List (ZV × RecZ), totZ M ≤ 5 * (M.length + wtZ (M.map conZ))
  | [] => by simp [totZ]
  | x :: r => by
    have ih := totZ_le r
    rw [totZ_cons]
    have e : wtZ ((x :: r).map conZ) = ((conZ x).1.length + (conZ x).2.2.length + wtR (conZ x).2.2) + wtZ (r.map conZ) := by simp [wtZ]
    rw [e]
    have e2 : x.2.length = (conZ x).2.2.length := rfl
    simp only [List.length_cons]
    omega
theorem zcon_small {M : List (ZV × RecZ)} {K : List ZonT} (h : M.map conZ = K) (hK : K.length + wtZ K ≤ 4000000 ∧ ∀ x ∈ K, x.2.2.length ≤ 1048576 ∧ K.length ≤ 1048576) : M.length ≤ 1048576 ∧ (∀ x ∈ M, x.2.length ≤ 1048576) ∧ totZ M ≤ 200000000 := by
  have h1 : M.length = K.length := by rw [← h, List.length_map]
  have h2 := totZ_le M
  rw [h] at h2
  refine ⟨?_, fun x hx => ?_, by omega⟩
  · cases K with
    | nil => rw [h1]; simp
    | cons k K => rw [h1]; exact (hK.2 k (by simp)).2
  · have h3 := (hK.2 (conZ x) (by rw [← h]; exact List.mem_map.2 ⟨x, hx, rfl⟩)).1
    exact h3
end Go.Proofs.YtgfldenhhogpbaaGreatDoor

namespace Go.Proofs.YtgfldenhhogpbaaGreatDoor
open Go.RowKit

set_option maxRecDepth 20000 in
set_option maxHeartbeats 4000000 in
theorem markZoneG_any (g n cap base : Nat) (M : List (ZV × RecZ)) (w : World) (h : ZRel w base g M) (hn : n = M.length) (_hcap : n ≤ cap) (_hmax : cap ≤ maxLen) (hl : M.length ≤ 1048576) (hd : Hid (∀ x ∈ M, x.2.length ≤ 1048576)) (HTOT : Hid (totZ M ≤ 200000000)) :
    Calls Tryz.prog 45 #[.slice (some ⟨g, 0, none⟩) n cap, .int .i64 1] w fun e w' => e = .returned (.int .i64 (1 + (totZ M : Int))) ∧ ZRel w' base g (markZ 1 M) ∧ Kpt w w' (inZn g M) := by
  have HB0 : Hid (ZRel w base g M) := h
  have HNL : Hid (n = M.length) := hn
  have hn100 : n ≤ 1048576 := by omega
  clear h hn hl
  go_enter Tryz.func45, Tryz.ntmps45
  go_wp2_with fail
  go_loopw [1, 5] (fun q i wr => ∃ (KK : Nat) (A B : List (ZV × RecZ)), (A.length ≤ n ∧ n ≤ A.length + B.length ∧ A.length + B.length ≤ n) ∧ 0 < KK ∧ i = .int .i64 (A.length : Int) ∧ q = .int .i64 (KK : Int) ∧ Hid (markZ 1 M = A ++ markZ KK B) ∧ Hid (KK + totZ B = 1 + totZ M) ∧ Hid (∀ x ∈ B, x ∈ M) ∧ Hid (ZRel wr base g (A ++ B)) ∧ Hid (Kpt w wr (inZn g M))) (fun _ i _ => n - (intOf i).toNat)
  case atStart => exact ⟨1, [], M, ⟨Nat.zero_le _, by rw [HNL.out]; simp, by rw [HNL.out]; simp⟩, Nat.one_pos, rfl, rfl, rfl, rfl, fun _ h => h, HB0, Kpt.refl _ _⟩
  case round =>
    obtain ⟨KK, A, B, ⟨hA1, hA2, hA3⟩, hK0, rfl, rfl, HM, HT, HDB, HB, HKW⟩ := hrel
    clear HB0
    cases B with
    | cons x B =>
      simp only [List.length_cons] at hA2 hA3
      have hKt : KK ≤ 300000000 := by
        have h1 := HT.out
        have h2 := HTOT.out
        rw [totZ_cons] at h1
        omega
      obtain ⟨m, hm⟩ : ∃ m, m = A.length := ⟨_, rfl⟩
      have HMA : Hid (m = A.length) := hm
      rw [← hm] at hA1 hA2 hA3 ⊢
      have hmn : m < n := by omega
      have hmi : (m : Int) < (n : Int) := by omega
      have HMK : Hid (∀ W, Calls Tryz.prog 46 #[.int .i64 (KK : Int)] W fun e w' => e = .returned (.string ⟨(mark KK).toArray⟩) ∧ Below W.heap.size W w') := fun W => markText_any (KK : Int) KK W rfl (by omega) (by omega)
      have HXM : Hid (x ∈ M) := HDB.out x (by simp)
      have HXD : Hid (x.2.length ≤ 1048576) := hd.out x HXM.out
      obtain ⟨x, R⟩ := x
      obtain ⟨y, hy⟩ : ∃ y, y = mark KK := ⟨_, rfl⟩
      have HY : Hid (y = mark KK) := hy
      rw [← hy] at HMK
      clear hm hy
      go_wp2_with fail
      refine (HMK.out _).mono ?_
      rintro e w1 ⟨rfl, hb1⟩
      have HK1 : Hid (Kpt w w1 (inZn g M)) := HKW.out.trans (below_kpt0 hb1 _)
      have hB1 := HB.out.kept hb1
      obtain ⟨⟨c0, c1, c2⟩, hfz⟩ := hB1.at
      rw [← HMA.out] at c0 c1 c2
      have f0 := hfz 0 (by omega)
      have f1 := hfz 1 (by omega)
      rw [← HMA.out] at f0 f1
      rw [Nat.add_zero] at f0
      have wk1 : IntKind.i64.wrap ((KK : Int) + 1) = (KK : Int) + 1 := wrap_small _ (by omega) (by omega)
      have wk2 : IntKind.i64.wrap ((KK : Int) + 1 + 1) = (KK : Int) + 1 + 1 := wrap_small _ (by omega) (by omega)
      clear hfz hb1
      have hP1 := hB1.put1 (y := ⟨⟨y.toArray⟩, x.ct, x.a, x.n, x.c⟩) 0 (.string ⟨y.toArray⟩) (by omega) rfl rfl
      have hP2 := hP1.put1 (y := ⟨⟨y.toArray⟩, (KK : Int) + 1, x.a, x.n, x.c⟩) 1 (.int .i64 ((KK : Int) + 1)) (by omega) rfl rfl
      rw [← HMA.out, Nat.add_zero] at hP2
      obtain ⟨W3, hW3⟩ : ∃ W3, W3 = (w1.setCell ⟨g, m * 3, none⟩ (.string ⟨y.toArray⟩)).setCell ⟨g, m * 3 + 1, none⟩ (.int .i64 ((KK : Int) + 1)) := ⟨_, rfl⟩
      have HW3 : Hid ((w1.setCell ⟨g, m * 3, none⟩ (.string ⟨y.toArray⟩)).setCell ⟨g, m * 3 + 1, none⟩ (.int .i64 ((KK : Int) + 1)) = W3) := hW3.symm
      have HK3 : Hid (Kpt w W3 (inZn g M)) := HK1.out.trans (by rw [hW3]; exact (kpt_set _ g _ _ (.inl rfl)).trans (kpt_set _ g _ _ (.inl rfl)))
      rw [← hW3] at hP2
      have hRl : R.length ≤ 1048576 := HXD.out
      have HMS : Hid (Calls Tryz.prog 56 #[.slice x.a x.n x.c, .int .i64 ((KK : Int) + 1 + 1)] W3 fun e w' => e = .returned (.int .i64 ((KK : Int) + 1 + 1 + 4 * (R.length : Int))) ∧ OwnQ w' base (.slice x.a x.n x.c) (mrks (KK + 2) R.length) ∧ W3.grownBy w' (Value.slice x.a x.n x.c).ownBlock) := by
        have h := markRecordS_any (.slice x.a x.n x.c) R base (KK + 2) W3 (hP2.recs _ (List.mem_append_right _ List.mem_cons_self)) hRl (by omega) (by omega)
        have e : ((KK + 2 : Nat) : Int) = (KK : Int) + 1 + 1 := by omega
        rw [e] at h
        exact h
      have HP2 : Hid (ZRel W3 base g (A ++ ((⟨⟨y.toArray⟩, (KK : Int) + 1, x.a, x.n, x.c⟩ : ZV), R) :: B)) := hP2
      clear hP1 hP2 hB1 hW3
      go_wp2_with fail
      rw [HW3.out]
      clear c0 c1 c2 f0 f1 wk1 wk2
      refine HMS.out.mono ?_
      rintro e w5 ⟨rfl, ho5, hg5⟩
      have hP5 := HP2.out.over ho5 (grown_kpt hg5)
      have HK5 : Hid (Kpt w w5 (inZn g M)) := HK3.out.trans ((grown_kpt hg5).mono (fun k _ hk => .inr ⟨_, HXM.out, hk⟩))
      have HE : Hid (mkZ KK (x, R) = ((⟨⟨y.toArray⟩, (KK : Int) + 1, x.a, x.n, x.c⟩ : ZV), mrks (KK + 2) R.length)) := by
        show _ = _
        unfold mkZ
        rw [← HY.out]
      have HB7 : Hid (ZRel w5 base g (A ++ [mkZ KK (x, R)] ++ B)) := by
        rw [List.append_assoc, HE.out]
        exact hP5
      have HM5 : Hid (markZ 1 M = A ++ [mkZ KK (x, R)] ++ markZ (KK + 2 + 4 * R.length) B) := by rw [HM.out, List.append_assoc]; exact rfl
      have HT5 : Hid (KK + 2 + 4 * R.length + totZ B = 1 + totZ M) := by have h := HT.out; rw [totZ_cons] at h; simp only at h; show _ = _; omega
      have HA5 : Hid ((A ++ [mkZ KK (x, R)]).length = m + 1) := by show _ = _; rw [List.length_append, ← HMA.out]; rfl
      have HDB5 : Hid (∀ x ∈ B, x ∈ M) := fun z hz => HDB.out z (by simp [hz])
      have HKK : Hid ((KK : Int) + 1 + 1 + 4 * (R.length : Int) = ((KK + 2 + 4 * R.length : Nat) : Int)) := by show _ = _; omega
      clear hP5 ho5 hg5 HMS HP2
      go_wp2_with fail
      go_roundw
      case rel => exact ⟨KK + 2 + 4 * R.length, _, B, ⟨by rw [HA5.out]; omega, by rw [HA5.out]; omega, by rw [HA5.out]; omega⟩, by omega, by rw [HA5.out]; go_num, by rw [HKK.out], HM5, HT5, HDB5, HB7, HK5⟩
      case measure => simp [intOf]; omega
    | nil =>
      simp only [List.length_nil, Nat.add_zero] at hA2 hA3
      have HF : Hid (ZRel wr base g (markZ 1 M)) := by have h := HB.out; rw [List.append_nil] at h; have e := HM.out; rw [show markZ KK [] = [] from rfl, List.append_nil] at e; have h2 : ZRel wr base g (markZ 1 M) := (by rw [e]; exact h); exact h2
      have HQ : Hid ((KK : Int) = 1 + (totZ M : Int)) := by have h := HT.out; rw [show totZ [] = 0 from rfl] at h; show _ = _; omega
      have hAn : ¬ (A.length : Int) < (n : Int) := by omega
      clear HM HT HB
      go_wp2_with fail
      go_ret
      exact ⟨ret_int HQ.out, HF.out, HKW.out⟩
end Go.Proofs.YtgfldenhhogpbaaGreatDoor

namespace Go.Proofs.YtgfldenhhogpbaaGreatDoor
open Go.RowKit

set_option maxRecDepth 20000 in
set_option maxHeartbeats 4000000 in
theorem heldZoneG_any (g n cap base : Nat) (M : List (ZV × RecZ)) (w : World) (h : ZRel w base g (markZ 1 M)) (hn : n = M.length) (hl : M.length ≤ 1048576) (hd : Hid (∀ x ∈ M, x.2.length ≤ 1048576)) (HTOT : Hid (totZ M ≤ 200000000)) :
    Calls Tryz.prog 57 #[.slice (some ⟨g, 0, none⟩) n cap, .int .i64 1] w fun e w' => e = .returned (.int .i64 (1 + (totZ M : Int))) ∧ Below w.heap.size w w' := by
  have HB0 : Hid (ZRel w base g (markZ 1 M)) := h
  have HNL : Hid (n = M.length) := hn
  have hn100 : n ≤ 1048576 := by omega
  clear h hn hl
  go_enter Tryz.func57, Tryz.ntmps57
  go_wp2_with fail
  go_loopw [1, 5] (fun q i wr => ∃ (KK : Nat) (A B : List (ZV × RecZ)), (A.length ≤ n ∧ n ≤ A.length + B.length ∧ A.length + B.length ≤ n) ∧ 0 < KK ∧ i = .int .i64 (A.length : Int) ∧ q = .int .i64 (KK : Int) ∧ Hid (markZ 1 M = A ++ markZ KK B) ∧ Hid (KK + totZ B = 1 + totZ M) ∧ Hid (∀ x ∈ B, x ∈ M) ∧ Below w.heap.size w wr) (fun _ i _ => n - (intOf i).toNat)
  case atStart => exact ⟨1, [], M, ⟨Nat.zero_le _, by rw [HNL.out]; simp, by rw [HNL.out]; simp⟩, Nat.one_pos, rfl, rfl, rfl, rfl, fun _ h => h, Below.refl _ _⟩
  case round =>
    obtain ⟨KK, A, B, ⟨hA1, hA2, hA3⟩, hK0, rfl, rfl, HM, HT, HDB, hb⟩ := hrel
    cases B with
    | cons x B =>
      simp only [List.length_cons] at hA2 hA3
      have hKt : KK ≤ 300000000 := by
        have h1 := HT.out
        have h2 := HTOT.out
        rw [totZ_cons] at h1
        omega
      obtain ⟨m, hm⟩ : ∃ m, m = A.length := ⟨_, rfl⟩
      have HMA : Hid (m = A.length) := hm
      rw [← hm] at hA1 hA2 hA3 ⊢
      have hmn : m < n := by omega
      have hmi : (m : Int) < (n : Int) := by omega
      have HMK : Hid (∀ W, Calls Tryz.prog 46 #[.int .i64 (KK : Int)] W fun e w' => e = .returned (.string ⟨(mark KK).toArray⟩) ∧ Below W.heap.size W w') := fun W => markText_any (KK : Int) KK W rfl (by omega) (by omega)
      have HXM : Hid (x ∈ M) := HDB.out x (by simp)
      have hRl : x.2.length ≤ 1048576 := hd.out x HXM.out
      obtain ⟨x, R⟩ := x
      simp only at hRl
      have HCE : Hid (∀ W, Below w.heap.size w W → (W.cell? ⟨g, m * 3, none⟩ = some (.string ⟨(mark KK).toArray⟩) ∧ W.cell? ⟨g, m * 3 + 1, none⟩ = some (.int .i64 ((KK : Int) + 1)) ∧ W.cell? ⟨g, m * 3 + 2, none⟩ = some (.slice x.a x.n x.c)) ∧ RRow W (.slice x.a x.n x.c) (mrks (KK + 2) R.length)) := fun W hW => by
        have h1 := HB0.out.kept hW
        rw [HM.out] at h1
        rw [markZ_cons] at h1
        have h2 := h1.at.1
        rw [← HMA.out] at h2
        exact ⟨h2, (h1.recs (mkZ KK (x, R)) (by simp)).row⟩
      obtain ⟨y, hy⟩ : ∃ y, y = mark KK := ⟨_, rfl⟩
      rw [← hy] at HMK HCE
      have HHS : Hid (∀ W, Below w.heap.size w W → Calls Tryz.prog 75 #[.slice x.a x.n x.c, .int .i64 ((KK : Int) + 1 + 1)] W fun e w' => e = .returned (.int .i64 ((KK : Int) + 1 + 1 + 4 * (R.length : Int))) ∧ Below W.heap.size W w') := fun W hW => by
        have h := heldRecordS_any (.slice x.a x.n x.c) R.length (KK + 2) W (HCE.out W hW).2 hRl (by omega) (by omega)
        have e : ((KK + 2 : Nat) : Int) = (KK : Int) + 1 + 1 := by omega
        rw [e] at h
        exact h
      have HTR : Hid (∀ W W', Below w.heap.size w W → Below W.heap.size W W' → Below w.heap.size w W') := fun W W' h1 h2 => h1.trans (h2.mono h1.size)
      have hbd : Below w.heap.size w wr.drew := hb.drew
      have wk1 : IntKind.i64.wrap ((KK : Int) + 1) = (KK : Int) + 1 := wrap_small _ (by omega) (by omega)
      have wk2 : IntKind.i64.wrap ((KK : Int) + 1 + 1) = (KK : Int) + 1 + 1 := wrap_small _ (by omega) (by omega)
      have HKK : Hid ((KK : Int) + 1 + 1 + 4 * (R.length : Int) = ((KK + 2 + 4 * R.length : Nat) : Int)) := by show _ = _; omega
      have HM5 : Hid (markZ 1 M = A ++ [mkZ KK (x, R)] ++ markZ (KK + 2 + 4 * R.length) B) := by rw [HM.out, List.append_assoc]; exact rfl
      have HT5 : Hid (KK + 2 + 4 * R.length + totZ B = 1 + totZ M) := by have h := HT.out; rw [totZ_cons] at h; simp only at h; show _ = _; omega
      have HA5 : Hid ((A ++ [mkZ KK (x, R)]).length = m + 1) := by show _ = _; rw [List.length_append, ← HMA.out]; rfl
      have HDB5 : Hid (∀ x ∈ B, x ∈ M) := fun z hz => HDB.out z (by simp [hz])
      clear hm hy HDB HM HT
      go_wp2_with fail
      refine wp_region_quiet (C := fun W => Below w.heap.size w W) (by kernel_rfl) (by kernel_rfl) hbd ?_
      refine wpQuiet_step (fun K hK => ?_)
      rw [if_pos (by rfl)]
      refine ⟨.slice (some ⟨g, 0, none⟩) n cap, fun W hW => quiet_ok ?_, hK _ ?_⟩
      · have f := (HCE.out W hW).1
        obtain ⟨c0, c1, c2⟩ := f
        go_simp
        all_goals (try omega)
      clear hK K
      simp only [Act.put, List.setIfInBounds_toArray, List.set_cons_succ, List.set_cons_zero]
      refine wpQuiet_step (fun K hK => ?_)
      rw [if_pos (by rfl)]
      refine ⟨.int .i64 (m : Int), fun W hW => quiet_ok ?_, hK _ ?_⟩
      · have f := (HCE.out W hW).1
        obtain ⟨c0, c1, c2⟩ := f
        go_simp
        all_goals (try omega)
      clear hK K
      simp only [Act.put, List.setIfInBounds_toArray, List.set_cons_succ, List.set_cons_zero]
      refine wpQuiet_step (fun K hK => ?_)
      rw [if_pos (by rfl)]
      refine ⟨.pointer (some ⟨g, m * 3, none⟩), fun W hW => quiet_ok ?_, hK _ ?_⟩
      · have f := (HCE.out W hW).1
        obtain ⟨c0, c1, c2⟩ := f
        go_simp
        all_goals (try omega)
      clear hK K
      simp only [Act.put, List.setIfInBounds_toArray, List.set_cons_succ, List.set_cons_zero]
      refine wpQuiet_step (fun K hK => ?_)
      rw [if_pos (by rfl)]
      refine ⟨.pointer (some ⟨g, m * 3, none⟩), fun W hW => quiet_ok ?_, hK _ ?_⟩
      · have f := (HCE.out W hW).1
        obtain ⟨c0, c1, c2⟩ := f
        go_simp
        all_goals (try omega)
      clear hK K
      simp only [Act.put, List.setIfInBounds_toArray, List.set_cons_succ, List.set_cons_zero]
      refine wpQuiet_step (fun K hK => ?_)
      rw [if_pos (by rfl)]
      refine ⟨.string ⟨y.toArray⟩, fun W hW => quiet_ok ?_, hK _ ?_⟩
      · have f := (HCE.out W hW).1
        obtain ⟨c0, c1, c2⟩ := f
        go_simp
        all_goals (try omega)
      clear hK K
      simp only [Act.put, List.setIfInBounds_toArray, List.set_cons_succ, List.set_cons_zero]
      refine wpQuiet_step (fun K hK => ?_)
      rw [if_pos (by rfl)]
      refine ⟨.int .i64 (KK : Int), fun W hW => quiet_ok ?_, hK _ ?_⟩
      · have f := (HCE.out W hW).1
        obtain ⟨c0, c1, c2⟩ := f
        go_simp
        all_goals (try omega)
      clear hK K
      simp only [Act.put, List.setIfInBounds_toArray, List.set_cons_succ, List.set_cons_zero]
      refine wpQuiet_step (fun K hK => ?_)
      rw [if_pos (by rfl)]
      refine ⟨.string ⟨y.toArray⟩, fun W hW => quiet_call (f := 46) (args := #[.int .i64 (KK : Int)]) ?_ ?_, hK _ ?_⟩
      · go_simp
      · exact (HMK.out W).mono fun e w'' h => ⟨h.1, HTR.out _ _ hW h.2⟩
      clear hK K
      simp only [Act.put, List.setIfInBounds_toArray, List.set_cons_succ, List.set_cons_zero]
      refine wpQuiet_step (fun K hK => ?_)
      rw [if_pos (by rfl)]
      refine ⟨.bool false, fun W hW => quiet_ok ?_, hK _ ?_⟩
      · have f := (HCE.out W hW).1
        obtain ⟨c0, c1, c2⟩ := f
        go_simp
        all_goals (try omega)
      clear hK K
      simp only [Act.put, List.setIfInBounds_toArray, List.set_cons_succ, List.set_cons_zero]
      refine wpQuiet_nil ?_
      intro W hW
      obtain ⟨⟨c0, c1, c2⟩, _⟩ := HCE.out W hW
      go_wp2_with fail
      refine (HHS.out W hW).mono ?_
      rintro e w5 ⟨rfl, hb5⟩
      have hbw5 := HTR.out _ _ hW hb5
      have hpos : ¬ (KK : Int) + 1 + 1 + 4 * (R.length : Int) < 0 := by omega
      clear c0 c1 c2 HCE HHS HMK
      go_wp2_with fail
      go_roundw
      case rel => exact ⟨KK + 2 + 4 * R.length, _, B, ⟨by rw [HA5.out]; omega, by rw [HA5.out]; omega, by rw [HA5.out]; omega⟩, by omega, by rw [HA5.out]; go_num, by rw [HKK.out], HM5, HT5, HDB5, hbw5⟩
      case measure => simp [intOf]; omega
    | nil =>
      simp only [List.length_nil, Nat.add_zero] at hA2 hA3
      have HQ : Hid ((KK : Int) = 1 + (totZ M : Int)) := by have h := HT.out; rw [show totZ [] = 0 from rfl] at h; show _ = _; omega
      have hAn : ¬ (A.length : Int) < (n : Int) := by omega
      clear HM HT
      go_wp2_with fail
      go_ret
      exact ⟨ret_int HQ.out, hb⟩

set_option maxRecDepth 20000 in
set_option maxHeartbeats 1000000 in
theorem markWorldG_any (g n cap base : Nat) (M : List (ZV × RecZ)) (w : World) (h : ZRel w base g M) (hn : n = M.length) (hcap : n ≤ cap) (hmax : cap ≤ maxLen) (hl : M.length ≤ 1048576) (hd : Hid (∀ x ∈ M, x.2.length ≤ 1048576)) (HTOT : Hid (totZ M ≤ 200000000)) :
    Calls Tryz.prog 18 #[WldV (.slice (some ⟨g, 0, none⟩) n cap), .int .i64 1] w fun e w' => e = .returned (.int .i64 (1 + (totZ M : Int))) ∧ ZRel w' base g (markZ 1 M) ∧ Kpt w w' (inZn g M) := by
  unfold WldV
  have HN : Hid (n = M.length) := hn
  clear hn
  obtain ⟨W0, hW0⟩ : ∃ W0, W0 = w.alloc (.cells #[.slice (some ⟨g, 0, none⟩) n cap] 29) := ⟨_, rfl⟩
  have HW0 : Hid (w.alloc (.cells #[.slice (some ⟨g, 0, none⟩) n cap] 29) = W0) := hW0.symm
  have HR : Hid (ZRel W0 base g M) := by rw [hW0]; exact h.kept ((Below.refl _ _).alloc (Nat.le_refl _) _)
  have HK : Hid (Kpt w W0 (inZn g M)) := by rw [hW0]; exact kpt_alloc _ _ _
  clear hW0 h
  go_enter Tryz.func18, Tryz.ntmps18
  go_wp2_with fail
  rw [HW0.out]
  refine (markZoneG_any g n cap base M W0 HR.out HN.out hcap hmax hl hd HTOT).mono ?_
  rintro e w1 ⟨rfl, h1, h2⟩
  have H1 : Hid (ZRel w1 base g (markZ 1 M)) := h1
  have H2 : Hid (Kpt w w1 (inZn g M)) := HK.out.trans h2
  clear h1 h2
  go_wp2_with fail
  go_ret
  exact ⟨rfl, H1.out, H2.out⟩

set_option maxRecDepth 20000 in
set_option maxHeartbeats 1000000 in
theorem heldWorldG_any (g n cap base : Nat) (M : List (ZV × RecZ)) (w : World) (h : ZRel w base g (markZ 1 M)) (hn : n = M.length) (hl : M.length ≤ 1048576) (hd : Hid (∀ x ∈ M, x.2.length ≤ 1048576)) (HTOT : Hid (totZ M ≤ 200000000)) :
    Calls Tryz.prog 29 #[WldV (.slice (some ⟨g, 0, none⟩) n cap), .int .i64 1] w fun e w' => e = .returned (.int .i64 (1 + (totZ M : Int))) ∧ Below w.heap.size w w' := by
  unfold WldV
  have HN : Hid (n = M.length) := hn
  clear hn
  obtain ⟨W0, hW0⟩ : ∃ W0, W0 = w.alloc (.cells #[.slice (some ⟨g, 0, none⟩) n cap] 29) := ⟨_, rfl⟩
  have HW0 : Hid (w.alloc (.cells #[.slice (some ⟨g, 0, none⟩) n cap] 29) = W0) := hW0.symm
  have hb0 : Below w.heap.size w W0 := by rw [hW0]; exact (Below.refl _ _).alloc (Nat.le_refl _) _
  have HR : Hid (ZRel W0 base g (markZ 1 M)) := h.kept hb0
  have HB : Hid (Below w.heap.size w W0) := hb0
  have hpos : ¬ 1 + (totZ M : Int) < 0 := by omega
  clear hW0 h hb0
  go_enter Tryz.func29, Tryz.ntmps29
  go_wp2_with fail
  rw [HW0.out]
  refine (heldZoneG_any g n cap base M W0 HR.out HN.out hl hd HTOT).mono ?_
  rintro e w1 ⟨rfl, h1⟩
  have H1 : Hid (Below w.heap.size w w1) := HB.out.trans (h1.mono HB.out.size)
  clear h1
  go_wp2_with fail
  go_ret
  exact ⟨rfl, H1.out⟩

set_option maxRecDepth 20000 in
set_option maxHeartbeats 1000000 in
theorem markZoneN_any (w : World) : Calls Tryz.prog 45 #[.slice none 0 0, .int .i64 1] w fun e w' => e = .returned (.int .i64 1) ∧ Below w.heap.size w w' := by
  go_enter Tryz.func45, Tryz.ntmps45
  go_wp2_with fail
  go_loopw [1, 5] (fun q i wr => i = .int .i64 0 ∧ q = .int .i64 1 ∧ Below w.heap.size w wr) (fun _ _ _ => 0)
  case atStart => exact ⟨rfl, rfl, Below.refl _ _⟩
  case round =>
    obtain ⟨rfl, rfl, hb⟩ := hrel
    go_wp2_with fail
    go_ret
    exact ⟨rfl, hb⟩
set_option maxRecDepth 20000 in
set_option maxHeartbeats 1000000 in
theorem heldZoneN_any (w : World) : Calls Tryz.prog 57 #[.slice none 0 0, .int .i64 1] w fun e w' => e = .returned (.int .i64 1) ∧ Below w.heap.size w w' := by
  go_enter Tryz.func57, Tryz.ntmps57
  go_wp2_with fail
  go_loopw [1, 5] (fun q i wr => i = .int .i64 0 ∧ q = .int .i64 1 ∧ Below w.heap.size w wr) (fun _ _ _ => 0)
  case atStart => exact ⟨rfl, rfl, Below.refl _ _⟩
  case round =>
    obtain ⟨rfl, rfl, hb⟩ := hrel
    go_wp2_with fail
    go_ret
    exact ⟨rfl, hb⟩
set_option maxRecDepth 20000 in
set_option maxHeartbeats 1000000 in
theorem markWorldN_any (w : World) : Calls Tryz.prog 18 #[.agg #[.slice none 0 0], .int .i64 1] w fun e w' => e = .returned (.int .i64 1) ∧ Below w.heap.size w w' := by
  go_enter Tryz.func18, Tryz.ntmps18
  go_wp2_with fail
  refine (markZoneN_any _).mono ?_
  rintro e w1 ⟨rfl, hb1⟩
  obtain ⟨_, hbw⟩ := box1w hb1
  go_wp2_with fail
  go_ret
  exact ⟨rfl, hbw⟩
theorem markWorld_any (v : Value) (base : Nat) (M : List (ZV × RecZ)) (w : World) (h : WRel w base v M) (hM : M.length ≤ 1048576 ∧ (∀ x ∈ M, x.2.length ≤ 1048576) ∧ totZ M ≤ 200000000) :
    Calls Tryz.prog 18 #[.agg #[v], .int .i64 1] w fun e w' => e = .returned (.int .i64 (1 + (totZ M : Int))) ∧ WRel w' base v (markZ 1 M) ∧ Kpt w w' (inW v M) := by
  rcases h with ⟨h1, h2⟩ | ⟨g, cap, h1, h2, h3, h4, h5⟩
  · subst h1 h2
    exact (markWorldN_any w).mono fun e w' h => ⟨h.1, .inl ⟨rfl, rfl⟩, below_kpt0 h.2 _⟩
  · subst h1
    refine (markWorldG_any g M.length cap base M w h5 rfl h2 h3 hM.1 hM.2.1 hM.2.2).mono fun e w' h => ⟨h.1, .inr ⟨g, cap, ?_, ?_, h3, h4, h.2.1⟩, h.2.2.mono (fun k _ hk => ?_)⟩
    · rw [markZ_len]
    · rw [markZ_len]; exact h2
    · rcases hk with hk | hk
      · subst hk; exact .inl rfl
      · exact .inr hk
set_option maxRecDepth 20000 in
set_option maxHeartbeats 1000000 in
theorem heldWorldN_any (w : World) : Calls Tryz.prog 29 #[.agg #[.slice none 0 0], .int .i64 1] w fun e w' => e = .returned (.int .i64 1) ∧ Below w.heap.size w w' := by
  go_enter Tryz.func29, Tryz.ntmps29
  go_wp2_with fail
  refine (heldZoneN_any _).mono ?_
  rintro e w1 ⟨rfl, hb1⟩
  obtain ⟨_, hbw⟩ := box1w hb1
  go_wp2_with fail
  go_ret
  exact ⟨rfl, hbw⟩
theorem heldWorld_any (v : Value) (base : Nat) (M : List (ZV × RecZ)) (w : World) (h : WRel w base v (markZ 1 M)) (hM : M.length ≤ 1048576 ∧ (∀ x ∈ M, x.2.length ≤ 1048576) ∧ totZ M ≤ 200000000) :
    Calls Tryz.prog 29 #[.agg #[v], .int .i64 1] w fun e w' => e = .returned (.int .i64 (1 + (totZ M : Int))) ∧ Below w.heap.size w w' := by
  rcases h with ⟨h1, h2⟩ | ⟨g, cap, h1, h2, h3, h4, h5⟩
  · have h2' : M = [] := by
      have h3 := markZ_len 1 M
      rw [h2] at h3
      exact List.length_eq_zero_iff.1 h3.symm
    subst h1 h2'
    exact heldWorldN_any w
  · subst h1
    rw [markZ_len] at h2
    have h := heldWorldG_any g M.length cap base M w h5 rfl hM.1 hM.2.1 hM.2.2
    rw [markZ_len]
    exact h
end Go.Proofs.YtgfldenhhogpbaaGreatDoor
