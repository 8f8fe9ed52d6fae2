import Derived.Test.YtgfiahfoghnpkaaGreatDoorZ45
import Derived.Test.YtgfiahfoghnpkaaGreatDoorZ17
namespace Go.Proofs.YtgfiahfoghnpkaaGreatDoor
open Go.RowKit Go.Maps

end Go.Proofs.YtgfiahfoghnpkaaGreatDoor

namespace Go.Proofs.YtgfiahfoghnpkaaGreatDoor
open Go.RowKit Go.Maps

/-- Entries that may be written to: their cells in one block, the records of each in a row of their own, apart. -/
structure ERel (w : World) (base g : Nat) (M : List (EV × RecL)) : Prop where
  row : EQRow w g (M.map (·.1))
  recs : ∀ p ∈ M, OwnQ w base p.1.sl p.2
  apart : M.Pairwise (fun p q => ∀ g, p.1.sl.ownBlock = some g → q.1.sl.ownBlock ≠ some g)
  off : ∀ p ∈ M, p.1.sl.ownBlock ≠ some g
theorem ebld_rel {w : World} {base : Nat} {v : Value} {M : List (EV × RecL)} (h : EBld w base v M) : (v = .slice none 0 0 ∧ M = []) ∨ ∃ g cap, v = .slice (some ⟨g, 0, none⟩) M.length cap ∧ M.length ≤ cap ∧ cap ≤ maxLen ∧ base ≤ g ∧ ERel w base g M := by
  have h' : w.ownsRow base 44 6 v (M.map (·.1)).length (ecells (M.map (·.1))) := by rw [List.length_map]; exact h.row
  rcases own_e h' with ⟨h1, h2⟩ | ⟨g, cap, h1, h2, h3, h4, h5⟩
  · exact .inl ⟨h1, List.map_eq_nil_iff.1 h2⟩
  · rw [List.length_map] at h1 h2
    subst h1
    exact .inr ⟨g, cap, rfl, h2, h3, h4, ⟨h5, h.recs, h.apart, fun p hp hg => h.off p hp g hg rfl⟩⟩
/-- The entries of a copy that the law made. -/
def evT (x : EntT) (t : Nat) : EV × RecL := (⟨⟨x.1.toArray⟩, x.2.1, x.2.2.1, some ⟨t, 0, none⟩, x.2.2.2.1.length, x.2.2.2.1.length, x.2.2.2.2.1, x.2.2.2.2.2⟩, x.2.2.2.1)
def evL (T : Nat → Nat) (L : List EntT) : List (EV × RecL) := L.mapIdx (fun j x => evT x (T j))
theorem con_evL (T : Nat → Nat) (L : List EntT) : (evL T L).map conT = L := by
  apply List.ext_getElem (by simp [evL])
  intro j h1 h2
  simp [evL, evT, conT]
theorem eown_rel {w : World} {g : Nat} {T : Nat → Nat} {L : List EntT} (h : EOwn w g T L) (hx : ∀ x ∈ L, EBig x) : ERel w g g (evL T L) := by
  obtain ⟨hg, hc, he, ht⟩ := h
  have hlen : (evL T L).length = L.length := by simp [evL]
  have hat : ∀ j (hj : j < L.length), (evL T L)[j]'(by rw [hlen]; exact hj) = evT L[j] (T j) := fun j hj => by simp [evL]
  refine ⟨⟨hg, fun j hj => ?_⟩, fun p hp => ?_, ?_, fun p hp hgg => ?_⟩
  · have hj' : j < L.length := by simpa [evL] using hj
    rw [List.getElem_map, hat j hj']
    exact ⟨(he j hj').2.1, fun r hr => (hc (j * 6 + r) (by omega)).2⟩
  · obtain ⟨j, hj, rfl⟩ := List.mem_iff_getElem.1 hp
    rw [hlen] at hj
    rw [hat j hj]
    have hb := (hx _ (List.getElem_mem hj)).2.1
    exact .inr ⟨T j, L[j].2.2.2.1.length, rfl, Nat.le_refl _, by unfold maxLen; omega, Nat.le_of_lt (he j hj).1, (he j hj).2.2⟩
  · rw [List.pairwise_iff_getElem]
    intro i j hi hj hij k hk hk2
    rw [hlen] at hi hj
    rw [hat i hi] at hk
    rw [hat j hj] at hk2
    have e1 : T i = k := Option.some.inj hk
    have e2 : T j = k := Option.some.inj hk2
    have := ht i j hij hj
    omega
  · obtain ⟨j, hj, rfl⟩ := List.mem_iff_getElem.1 hp
    rw [hlen] at hj
    rw [hat j hj] at hgg
    have e1 : T j = g := Option.some.inj hgg
    have := (he j hj).1
    omega
/-- In such a copy no slice of records is nil. -/
theorem eown_nil {w : World} {g cap : Nat} {T : Nat → Nat} {L : List EntT} (h : EOwn w g T L) : ∀ E : List EV, EVRow w (.slice (some ⟨g, 0, none⟩) L.length cap) E → ∀ e ∈ E, ∀ n c, e.sl = .slice none n c → c = 0 := by
  rintro E ⟨a, cp, hv, _, _, hE⟩ e he n c hs
  obtain ⟨j, hj, rfl⟩ := List.mem_iff_getElem.1 he
  obtain ⟨b, o, ha, _, hcel⟩ := hE (by omega)
  injection hv with e1 e2 e3
  rw [ha] at e1
  have e4 := Option.some.inj e1
  injection e4 with e5 e6 e7
  have h1 := (hcel j hj).2.2.2.1
  have h2 := (h.2.2.1 j (by omega)).2.1.2.2.2.1
  rw [← e5, ← e6, Nat.zero_add, h2] at h1
  unfold EV.sl at hs
  have h3 := Option.some.inj h1
  rw [hs] at h3
  cases h3
end Go.Proofs.YtgfiahfoghnpkaaGreatDoor

namespace Go.Proofs.YtgfiahfoghnpkaaGreatDoor
open Go.RowKit Go.Maps

theorem ERel.kept {w w' : World} {base g : Nat} {M : List (EV × RecL)} (h : ERel w base g M) (hb : Below w.heap.size w w') : ERel w' base g M :=
  ⟨⟨Nat.lt_of_lt_of_le h.row.1 hb.size, fun j hj => ⟨(h.row.2 j hj).1.kept hb h.row.1, fun r hr => by rw [hb.frozen (p := ⟨g, j * 6 + r, none⟩) h.row.1]; exact (h.row.2 j hj).2 r hr⟩⟩, fun p hp => (h.recs p hp).kept hb, h.apart, h.off⟩
/-- The cells of one entry among others. -/
theorem ERel.at {w : World} {base g : Nat} {A B : List (EV × RecL)} {x : EV × RecL} (h : ERel w base g (A ++ x :: B)) : Ent6 w g (A.length * 6) x.1 ∧ ∀ r, r < 6 → w.frozen? ⟨g, A.length * 6 + r, none⟩ = false := by
  have h1 := h.row.2 A.length (by simp)
  have e : ((A ++ x :: B).map (·.1))[A.length]'(by simp) = x.1 := by simp
  rw [e] at h1
  exact h1
/-- One entry written anew, its records left where they are. -/
theorem ERel.put {w w' : World} {base g : Nat} {A B : List (EV × RecL)} {x : EV × RecL} {y : EV} (h : ERel w base g (A ++ x :: B)) (hsl : y.sl = x.1.sl) (hk : Kpt w w' (· = g))
    (hy : Ent6 w' g (A.length * 6) y) (hc : ∀ c, (c < A.length * 6 ∨ A.length * 6 + 6 ≤ c) → w'.cell? ⟨g, c, none⟩ = w.cell? ⟨g, c, none⟩) (hf : ∀ c, w'.frozen? ⟨g, c, none⟩ = w.frozen? ⟨g, c, none⟩) : ERel w' base g (A ++ (y, x.2) :: B) := by
  refine ⟨⟨Nat.lt_of_lt_of_le h.row.1 hk.size, fun j hj => ?_⟩, fun p hp => ?_, ?_, fun p hp => ?_⟩
  · have hj' : j < ((A ++ x :: B).map (·.1)).length := by simpa using hj
    have h1 := h.row.2 j hj'
    refine ⟨?_, fun r hr => by rw [hf]; exact h1.2 r hr⟩
    by_cases hja : j = A.length
    · subst hja
      have e : ((A ++ (y, x.2) :: B).map (·.1))[A.length]'hj = y := by simp
      rw [e]
      exact hy
    · have e : ((A ++ (y, x.2) :: B).map (·.1))[j]'hj = ((A ++ x :: B).map (·.1))[j]'hj' := by
        rw [List.getElem_map, List.getElem_map]
        by_cases hlt : j < A.length
        · rw [List.getElem_append_left hlt, List.getElem_append_left hlt]
        · rw [List.getElem_append_right (by omega), List.getElem_append_right (by omega)]
          obtain ⟨d, hd⟩ : ∃ d, j - A.length = d + 1 := ⟨j - A.length - 1, by omega⟩
          simp only [hd, List.getElem_cons_succ]
      rw [e]
      obtain ⟨c0, c1, c2, c3, c4, c5⟩ := h1.1
      unfold Ent6
      rw [hc (j * 6) (by omega), hc (j * 6 + 1) (by omega), hc (j * 6 + 2) (by omega), hc (j * 6 + 3) (by omega), hc (j * 6 + 4) (by omega), hc (j * 6 + 5) (by omega)]
      exact ⟨c0, c1, c2, c3, c4, c5⟩
  · have hq : ∃ q ∈ A ++ x :: B, q.1.sl = p.1.sl ∧ q.2 = p.2 := by
      rcases List.mem_append.1 hp with h1 | h1
      · exact ⟨p, List.mem_append_left _ h1, rfl, rfl⟩
      · rcases List.mem_cons.1 h1 with h2 | h2
        · subst h2; exact ⟨x, by simp, hsl.symm, rfl⟩
        · exact ⟨p, by simp [h2], rfl, rfl⟩
    obtain ⟨q, hq1, hq2, hq3⟩ := hq
    rw [← hq2, ← hq3]
    exact (h.recs q hq1).kpt hk (fun k hk2 e => h.off q hq1 (by rw [hk2, e]))
  · have h1 := h.apart
    rw [List.pairwise_append, List.pairwise_cons] at h1 ⊢
    refine ⟨h1.1, ⟨fun q hq k hk2 => h1.2.1.1 q hq k (by rw [← hsl]; exact hk2), h1.2.1.2⟩, fun p hp q hq => ?_⟩
    rcases List.mem_cons.1 hq with h2 | h2
    · subst h2
      intro k hk2
      show y.sl.ownBlock ≠ some k
      rw [hsl]
      exact h1.2.2 p hp x (by simp) k hk2
    · exact h1.2.2 p hp q (by simp [h2])
  · rcases List.mem_append.1 hp with h1 | h1
    · exact h.off p (by simp [h1])
    · rcases List.mem_cons.1 h1 with h2 | h2
      · subst h2
        show y.sl.ownBlock ≠ some g
        rw [hsl]
        exact h.off x (by simp)
      · exact h.off p (by simp [h2])
/-- The records of one entry written anew. -/
theorem ERel.over {w w' : World} {base g : Nat} {A B : List (EV × RecL)} {x : EV} {R R' : RecL} (h : ERel w base g (A ++ (x, R) :: B)) (ho : OwnQ w' base x.sl R') (hk : Kpt w w' (fun k => x.sl.ownBlock = some k)) : ERel w' base g (A ++ (x, R') :: B) := by
  have hg : ¬ x.sl.ownBlock = some g := h.off (x, R) (by simp)
  have hap := h.apart
  rw [List.pairwise_append, List.pairwise_cons] at hap
  refine ⟨⟨Nat.lt_of_lt_of_le h.row.1 hk.size, fun j hj => ?_⟩, fun p hp => ?_, ?_, fun p hp => ?_⟩
  · have e : (A ++ (x, R') :: B).map (·.1) = (A ++ (x, R) :: B).map (·.1) := by simp
    have h1 := h.row.2 j (by rw [← e]; exact hj)
    simp only [e]
    have hbl := hk.block g h.row.1 hg
    obtain ⟨⟨c0, c1, c2, c3, c4, c5⟩, hf⟩ := h1
    have hcell : ∀ c, w'.cell? ⟨g, c, none⟩ = w.cell? ⟨g, c, none⟩ := fun c => by simp only [World.cell?, hbl]
    have hfro : ∀ c, w'.frozen? ⟨g, c, none⟩ = w.frozen? ⟨g, c, none⟩ := fun c => by simp only [World.frozen?, hbl]
    refine ⟨?_, fun r hr => by rw [hfro]; exact hf r hr⟩
    unfold Ent6
    simp only [hcell]
    exact ⟨c0, c1, c2, c3, c4, c5⟩
  · rcases List.mem_append.1 hp with h1 | h1
    · exact (h.recs p (by simp [h1])).kpt hk (fun k hk2 e => hap.2.2 p h1 (x, R) (by simp) k hk2 e)
    · rcases List.mem_cons.1 h1 with h2 | h2
      · subst h2; exact ho
      · exact (h.recs p (by simp [h2])).kpt hk (fun k hk2 e => hap.2.1.1 p h2 k e hk2)
  · rw [List.pairwise_append, List.pairwise_cons]
    refine ⟨hap.1, ⟨fun q hq => hap.2.1.1 q hq, hap.2.1.2⟩, fun p hp q hq => ?_⟩
    rcases List.mem_cons.1 hq with h2 | h2
    · subst h2; exact hap.2.2 p hp (x, R) (by simp)
    · exact hap.2.2 p hp q (by simp [h2])
  · rcases List.mem_append.1 hp with h1 | h1
    · exact h.off p (by simp [h1])
    · rcases List.mem_cons.1 h1 with h2 | h2
      · subst h2; exact hg
      · exact h.off p (by simp [h2])
/-- Entries with marks in them, from a number on. -/
def mkE (K : Nat) (p : EV × RecL) : EV × RecL := (⟨⟨(mark K).toArray⟩, (K : Int) + 1, decide (((K : Int) + 2) % 3 = 0), p.1.a, p.1.n, p.1.c, (K : Int) + 3 + 4 * (p.2.length : Int), (K : Int) + 4 + 4 * (p.2.length : Int)⟩, mrks (K + 3) p.2.length)
def markE : Nat → List (EV × RecL) → List (EV × RecL)
  | _, [] => []
  | K, x :: r => mkE K x :: markE (K + 5 + 4 * x.2.length) r
def totE : List (EV × RecL) → Nat
  | [] => 0
  | x :: r => 5 + 4 * x.2.length + totE r
theorem totE_cons (x : EV × RecL) (r : List (EV × RecL)) : totE (x :: r) = 5 + 4 * x.2.length + totE r := rfl
theorem markE_cons (K : Nat) (x : EV × RecL) (r : List (EV × RecL)) : markE K (x :: r) = mkE K x :: markE (K + 5 + 4 * x.2.length) r := rfl
end Go.Proofs.YtgfiahfoghnpkaaGreatDoor

namespace Go.Proofs.YtgfiahfoghnpkaaGreatDoor
open Go.RowKit Go.Maps

def cellsV6 (e : EV) : List Value := [.string e.nm, .int .i64 e.ty, .bool e.no, .slice e.a e.n e.c, .int .i64 e.un, .int .i64 e.us]
theorem ent6_iff {w : World} {b o : Nat} {e : EV} : Ent6 w b o e ↔ ∀ s, s < 6 → w.cell? ⟨b, o + s, none⟩ = (cellsV6 e)[s]? := by
  constructor
  · rintro ⟨c0, c1, c2, c3, c4, c5⟩ s hs
    obtain rfl | rfl | rfl | rfl | rfl | rfl : s = 0 ∨ s = 1 ∨ s = 2 ∨ s = 3 ∨ s = 4 ∨ s = 5 := by omega
    · exact c0
    · exact c1
    · exact c2
    · exact c3
    · exact c4
    · exact c5
  · intro h
    exact ⟨h 0 (by omega), h 1 (by omega), h 2 (by omega), h 3 (by omega), h 4 (by omega), h 5 (by omega)⟩
/-- One cell of one entry written anew. -/
theorem ERel.put1 {w : World} {base g : Nat} {A B : List (EV × RecL)} {x : EV × RecL} {y : EV} (h : ERel w base g (A ++ x :: B)) (r : Nat) (u : Value) (hr : r < 6) (hset : cellsV6 y = (cellsV6 x.1).set r u) (hsl : y.sl = x.1.sl) : ERel (w.setCell ⟨g, A.length * 6 + r, none⟩ u) base g (A ++ (y, x.2) :: B) := by
  have hx := ent6_iff.1 h.at.1
  refine h.put hsl (kpt_set w g _ u rfl) (ent6_iff.2 fun s hs => ?_) (fun c hc => ?_) (fun c => ?_)
  · rw [hset]
    by_cases e : s = r
    · subst e
      have hl : s < (cellsV6 x.1).length := hs
      have h1 : w.cell? ⟨g, A.length * 6 + s, none⟩ = some ((cellsV6 x.1)[s]'hl) := (hx s hs).trans (List.getElem?_eq_getElem hl)
      rw [World.cell?_setCell_same' w _ u (by rw [h1]; rfl), List.getElem?_set_self hl]
    · rw [World.cell?_setCell_other w ⟨g, A.length * 6 + r, none⟩ ⟨g, A.length * 6 + s, none⟩ u (by intro k; injection k; omega), hx s hs, List.getElem?_set_ne (by omega)]
  · exact World.cell?_setCell_other _ _ _ _ (by intro k; injection k; omega)
  · simp
end Go.Proofs.YtgfiahfoghnpkaaGreatDoor

namespace Go.Proofs.YtgfiahfoghnpkaaGreatDoor
open Go.RowKit Go.Maps

/-- The blocks of entries that may be written to. -/
def inE (g : Nat) (M : List (EV × RecL)) (k : Nat) : Prop := k = g ∨ ∃ p ∈ M, p.1.sl.ownBlock = some k
set_option maxRecDepth 20000 in
set_option maxHeartbeats 4000000 in
theorem markEntryG_any (g n cap base : Nat) (M : List (EV × RecL)) (w : World) (h : ERel w base g M) (hn : n = M.length) (_hcap : n ≤ cap) (_hmax : cap ≤ maxLen) (hl : M.length ≤ 1048576) (hd : Hid (∀ x ∈ M, x.2.length ≤ 1048576)) (HTOT : Hid (totE M ≤ 200000000)) :
    Calls Tryz.prog 44 #[.slice (some ⟨g, 0, none⟩) n cap, .int .i64 1] w fun e w' => e = .returned (.int .i64 (1 + (totE M : Int))) ∧ ERel w' base g (markE 1 M) ∧ Kpt w w' (inE g M) := by
  have HB0 : Hid (ERel w base g M) := h
  have HNL : Hid (n = M.length) := hn
  have hn100 : n ≤ 1048576 := by omega
  clear h hn hl
  go_enter Tryz.func44, Tryz.ntmps44
  go_wp2_with fail
  go_loopw [1, 5] (fun q i wr => ∃ (KK : Nat) (A B : List (EV × RecL)), (A.length ≤ n ∧ n ≤ A.length + B.length ∧ A.length + B.length ≤ n) ∧ 0 < KK ∧ i = .int .i64 (A.length : Int) ∧ q = .int .i64 (KK : Int) ∧ Hid (markE 1 M = A ++ markE KK B) ∧ Hid (KK + totE B = 1 + totE M) ∧ Hid (∀ x ∈ B, x ∈ M) ∧ Hid (ERel wr base g (A ++ B)) ∧ Hid (Kpt w wr (inE g M))) (fun _ i _ => n - (intOf i).toNat)
  case atStart => exact ⟨1, [], M, ⟨Nat.zero_le _, by rw [HNL.out]; simp, by rw [HNL.out]; simp⟩, Nat.one_pos, rfl, rfl, rfl, rfl, fun _ h => h, HB0, Kpt.refl _ _⟩
  case round =>
    obtain ⟨KK, A, B, ⟨hA1, hA2, hA3⟩, hK0, rfl, rfl, HM, HT, HDB, HB, HKW⟩ := hrel
    clear HB0
    cases B with
    | cons x B =>
      simp only [List.length_cons] at hA2 hA3
      have hKt : KK ≤ 300000000 := by
        have h1 := HT.out
        have h2 := HTOT.out
        rw [totE_cons] at h1
        omega
      obtain ⟨m, hm⟩ : ∃ m, m = A.length := ⟨_, rfl⟩
      have HMA : Hid (m = A.length) := hm
      rw [← hm] at hA1 hA2 hA3 ⊢
      have hmn : m < n := by omega
      have hmi : (m : Int) < (n : Int) := by omega
      have HMK : Hid (∀ W, Calls Tryz.prog 45 #[.int .i64 (KK : Int)] W fun e w' => e = .returned (.string ⟨(mark KK).toArray⟩) ∧ Below W.heap.size W w') := fun W => markText_any (KK : Int) KK W rfl (by omega) (by omega)
      have HXM : Hid (x ∈ M) := HDB.out x (by simp)
      have HXD : Hid (x.2.length ≤ 1048576) := hd.out x HXM.out
      obtain ⟨x, R⟩ := x
      obtain ⟨y, hy⟩ : ∃ y, y = mark KK := ⟨_, rfl⟩
      have HY : Hid (y = mark KK) := hy
      rw [← hy] at HMK
      clear hm hy
      go_wp2_with fail
      refine (HMK.out _).mono ?_
      rintro e w1 ⟨rfl, hb1⟩
      have HK1 : Hid (Kpt w w1 (inE g M)) := HKW.out.trans (below_kpt0 hb1 _)
      have hB1 := HB.out.kept hb1
      obtain ⟨⟨c0, c1, c2, c3, c4, c5⟩, hfz⟩ := hB1.at
      rw [← HMA.out] at c0 c1 c2 c3 c4 c5
      have f0 := hfz 0 (by omega)
      have f1 := hfz 1 (by omega)
      have f2 := hfz 2 (by omega)
      rw [← HMA.out] at f0 f1 f2
      rw [Nat.add_zero] at f0
      have wk1 : IntKind.i64.wrap ((KK : Int) + 1) = (KK : Int) + 1 := wrap_small _ (by omega) (by omega)
      have wk2 : IntKind.i64.wrap ((KK : Int) + 1 + 1) = (KK : Int) + 1 + 1 := wrap_small _ (by omega) (by omega)
      have wk3 : IntKind.i64.wrap ((KK : Int) + 1 + 1 + 1) = (KK : Int) + 1 + 1 + 1 := wrap_small _ (by omega) (by omega)
      clear hfz hb1
      go_wp2_with fail
      obtain ⟨bb, hbb⟩ : ∃ bb, bb = (((KK : Int) + 1 + 1) % 3 == 0) := ⟨_, rfl⟩
      rw [← hbb]
      have HBB : Hid (bb = (((KK : Int) + 1 + 1) % 3 == 0)) := hbb
      have hP1 := hB1.put1 (y := ⟨⟨y.toArray⟩, x.ty, x.no, x.a, x.n, x.c, x.un, x.us⟩) 0 (.string ⟨y.toArray⟩) (by omega) rfl rfl
      have hP2 := hP1.put1 (y := ⟨⟨y.toArray⟩, (KK : Int) + 1, x.no, x.a, x.n, x.c, x.un, x.us⟩) 1 (.int .i64 ((KK : Int) + 1)) (by omega) rfl rfl
      have hP3 := hP2.put1 (y := ⟨⟨y.toArray⟩, (KK : Int) + 1, bb, x.a, x.n, x.c, x.un, x.us⟩) 2 (.bool bb) (by omega) rfl rfl
      rw [← HMA.out, Nat.add_zero] at hP3
      obtain ⟨W3, hW3⟩ : ∃ W3, W3 = ((w1.setCell ⟨g, m * 6, none⟩ (.string ⟨y.toArray⟩)).setCell ⟨g, m * 6 + 1, none⟩ (.int .i64 ((KK : Int) + 1))).setCell ⟨g, m * 6 + 2, none⟩ (.bool bb) := ⟨_, rfl⟩
      have HK3 : Hid (Kpt w W3 (inE g M)) := HK1.out.trans (by rw [hW3]; exact ((kpt_set _ g _ _ (.inl rfl)).trans (kpt_set _ g _ _ (.inl rfl))).trans (kpt_set _ g _ _ (.inl rfl)))
      rw [← hW3] at hP3 ⊢
      have hRl : R.length ≤ 1048576 := HXD.out
      have HMS : Hid (Calls Tryz.prog 17 #[.slice x.a x.n x.c, .int .i64 ((KK : Int) + 1 + 1 + 1)] W3 fun e w' => e = .returned (.int .i64 ((KK : Int) + 1 + 1 + 1 + 4 * (R.length : Int))) ∧ OwnQ w' base (.slice x.a x.n x.c) (mrks (KK + 3) R.length) ∧ W3.grownBy w' (Value.slice x.a x.n x.c).ownBlock) := by
        have h := markRecordS_any (.slice x.a x.n x.c) R base (KK + 3) W3 (hP3.recs _ (List.mem_append_right _ List.mem_cons_self)) hRl (by omega) (by omega)
        have e : ((KK + 3 : Nat) : Int) = (KK : Int) + 1 + 1 + 1 := by omega
        rw [e] at h
        exact h
      have HP3 : Hid (ERel W3 base g (A ++ ((⟨⟨y.toArray⟩, (KK : Int) + 1, bb, x.a, x.n, x.c, x.un, x.us⟩ : EV), R) :: B)) := hP3
      clear hP1 hP2 hP3 hB1 hW3 hbb c0 c1 c2 c3 c4 c5 f0 f1 f2 wk1 wk2 wk3
      refine HMS.out.mono ?_
      rintro e w5 ⟨rfl, ho5, hg5⟩
      have hP5 := HP3.out.over ho5 (grown_kpt hg5)
      have HK5 : Hid (Kpt w w5 (inE g M)) := HK3.out.trans ((grown_kpt hg5).mono (fun k _ hk => .inr ⟨_, HXM.out, hk⟩))
      obtain ⟨⟨c0, c1, c2, c3, c4, c5⟩, hfz⟩ := hP5.at
      rw [← HMA.out] at c0 c1 c2 c3 c4 c5
      have f4 := hfz 4 (by omega)
      have f5 := hfz 5 (by omega)
      rw [← HMA.out] at f4 f5
      have hP6 := hP5.put1 (y := ⟨⟨y.toArray⟩, (KK : Int) + 1, bb, x.a, x.n, x.c, (KK : Int) + 1 + 1 + 1 + 4 * (R.length : Int), x.us⟩) 4 (.int .i64 ((KK : Int) + 1 + 1 + 1 + 4 * (R.length : Int))) (by omega) rfl rfl
      have hP7 := hP6.put1 (y := ⟨⟨y.toArray⟩, (KK : Int) + 1, bb, x.a, x.n, x.c, (KK : Int) + 1 + 1 + 1 + 4 * (R.length : Int), (KK : Int) + 1 + 1 + 1 + 4 * (R.length : Int) + 1⟩) 5 (.int .i64 ((KK : Int) + 1 + 1 + 1 + 4 * (R.length : Int) + 1)) (by omega) rfl rfl
      rw [← HMA.out] at hP7
      have HE : Hid (mkE KK (x, R) = ((⟨⟨y.toArray⟩, (KK : Int) + 1, bb, x.a, x.n, x.c, (KK : Int) + 1 + 1 + 1 + 4 * (R.length : Int), (KK : Int) + 1 + 1 + 1 + 4 * (R.length : Int) + 1⟩ : EV), mrks (KK + 3) R.length)) := by
        have e1 : (KK : Int) + 2 = (KK : Int) + 1 + 1 := by omega
        have e2 : (KK : Int) + 3 + 4 * (R.length : Int) = (KK : Int) + 1 + 1 + 1 + 4 * (R.length : Int) := by omega
        have e3 : (KK : Int) + 4 + 4 * (R.length : Int) = (KK : Int) + 1 + 1 + 1 + 4 * (R.length : Int) + 1 := by omega
        show _ = _
        unfold mkE
        rw [← HY.out, HBB.out, e1, e2, e3]
        rfl
      have HB7 : Hid (ERel ((w5.setCell ⟨g, m * 6 + 4, none⟩ (.int .i64 ((KK : Int) + 1 + 1 + 1 + 4 * (R.length : Int)))).setCell ⟨g, m * 6 + 5, none⟩ (.int .i64 ((KK : Int) + 1 + 1 + 1 + 4 * (R.length : Int) + 1))) base g (A ++ [mkE KK (x, R)] ++ B)) := by
        rw [List.append_assoc, HE.out]
        exact hP7
      have HK7 : Hid (Kpt w ((w5.setCell ⟨g, m * 6 + 4, none⟩ (.int .i64 ((KK : Int) + 1 + 1 + 1 + 4 * (R.length : Int)))).setCell ⟨g, m * 6 + 5, none⟩ (.int .i64 ((KK : Int) + 1 + 1 + 1 + 4 * (R.length : Int) + 1))) (inE g M)) := HK5.out.trans ((kpt_set _ g _ _ (.inl rfl)).trans (kpt_set _ g _ _ (.inl rfl)))
      have HM5 : Hid (markE 1 M = A ++ [mkE KK (x, R)] ++ markE (KK + 5 + 4 * R.length) B) := by rw [HM.out, List.append_assoc]; exact rfl
      have HT5 : Hid (KK + 5 + 4 * R.length + totE B = 1 + totE M) := by have h := HT.out; rw [totE_cons] at h; simp only at h; show _ = _; omega
      have HA5 : Hid ((A ++ [mkE KK (x, R)]).length = m + 1) := by show _ = _; rw [List.length_append, ← HMA.out]; rfl
      have HDB5 : Hid (∀ x ∈ B, x ∈ M) := fun z hz => HDB.out z (by simp [hz])
      have HKK : Hid ((KK : Int) + 1 + 1 + 1 + 4 * (R.length : Int) + 1 + 1 = ((KK + 5 + 4 * R.length : Nat) : Int)) := by show _ = _; omega
      have wk4 : IntKind.i64.wrap ((KK : Int) + 1 + 1 + 1 + 4 * (R.length : Int) + 1) = (KK : Int) + 1 + 1 + 1 + 4 * (R.length : Int) + 1 := wrap_small _ (by omega) (by omega)
      have wk5 : IntKind.i64.wrap ((KK : Int) + 1 + 1 + 1 + 4 * (R.length : Int) + 1 + 1) = (KK : Int) + 1 + 1 + 1 + 4 * (R.length : Int) + 1 + 1 := wrap_small _ (by omega) (by omega)
      clear hP5 hP6 hP7 ho5 hg5 hfz HMS HP3 c0 c1 c2 c3
      go_wp2_with fail
      go_roundw
      case rel => exact ⟨KK + 5 + 4 * R.length, _, B, ⟨by rw [HA5.out]; omega, by rw [HA5.out]; omega, by rw [HA5.out]; omega⟩, by omega, by rw [HA5.out]; go_num, by rw [HKK.out], HM5, HT5, HDB5, HB7, HK7⟩
      case measure => simp [intOf]; omega
    | nil =>
      simp only [List.length_nil, Nat.add_zero] at hA2 hA3
      have HF : Hid (ERel wr base g (markE 1 M)) := by have h := HB.out; rw [List.append_nil] at h; have e := HM.out; rw [show markE KK [] = [] from rfl, List.append_nil] at e; have h2 : ERel wr base g (markE 1 M) := (by rw [e]; exact h); exact h2
      have HQ : Hid ((KK : Int) = 1 + (totE M : Int)) := by have h := HT.out; rw [show totE [] = 0 from rfl] at h; show _ = _; omega
      have hAn : ¬ (A.length : Int) < (n : Int) := by omega
      clear HM HT HB
      go_wp2_with fail
      go_ret
      exact ⟨ret_int HQ.out, HF.out, HKW.out⟩
end Go.Proofs.YtgfiahfoghnpkaaGreatDoor

namespace Go.Proofs.YtgfiahfoghnpkaaGreatDoor
open Go.RowKit Go.Maps

set_option maxRecDepth 20000 in
set_option maxHeartbeats 4000000 in
theorem heldEntryG_any (g n cap base : Nat) (M : List (EV × RecL)) (w : World) (h : ERel w base g (markE 1 M)) (hn : n = M.length) (hl : M.length ≤ 1048576) (hd : Hid (∀ x ∈ M, x.2.length ≤ 1048576)) (HTOT : Hid (totE M ≤ 200000000)) :
    Calls Tryz.prog 46 #[.slice (some ⟨g, 0, none⟩) n cap, .int .i64 1] w fun e w' => e = .returned (.int .i64 (1 + (totE M : Int))) ∧ Below w.heap.size w w' := by
  have HB0 : Hid (ERel w base g (markE 1 M)) := h
  have HNL : Hid (n = M.length) := hn
  have hn100 : n ≤ 1048576 := by omega
  clear h hn hl
  go_enter Tryz.func46, Tryz.ntmps46
  go_wp2_with fail
  go_loopw [1, 5] (fun q i wr => ∃ (KK : Nat) (A B : List (EV × RecL)), (A.length ≤ n ∧ n ≤ A.length + B.length ∧ A.length + B.length ≤ n) ∧ 0 < KK ∧ i = .int .i64 (A.length : Int) ∧ q = .int .i64 (KK : Int) ∧ Hid (markE 1 M = A ++ markE KK B) ∧ Hid (KK + totE B = 1 + totE M) ∧ Hid (∀ x ∈ B, x ∈ M) ∧ Below w.heap.size w wr) (fun _ i _ => n - (intOf i).toNat)
  case atStart => exact ⟨1, [], M, ⟨Nat.zero_le _, by rw [HNL.out]; simp, by rw [HNL.out]; simp⟩, Nat.one_pos, rfl, rfl, rfl, rfl, fun _ h => h, Below.refl _ _⟩
  case round =>
    obtain ⟨KK, A, B, ⟨hA1, hA2, hA3⟩, hK0, rfl, rfl, HM, HT, HDB, hb⟩ := hrel
    cases B with
    | cons x B =>
      simp only [List.length_cons] at hA2 hA3
      have hKt : KK ≤ 300000000 := by
        have h1 := HT.out
        have h2 := HTOT.out
        rw [totE_cons] at h1
        omega
      obtain ⟨m, hm⟩ : ∃ m, m = A.length := ⟨_, rfl⟩
      have HMA : Hid (m = A.length) := hm
      rw [← hm] at hA1 hA2 hA3 ⊢
      have hmn : m < n := by omega
      have hmi : (m : Int) < (n : Int) := by omega
      have HMK : Hid (∀ W, Calls Tryz.prog 45 #[.int .i64 (KK : Int)] W fun e w' => e = .returned (.string ⟨(mark KK).toArray⟩) ∧ Below W.heap.size W w') := fun W => markText_any (KK : Int) KK W rfl (by omega) (by omega)
      have HXM : Hid (x ∈ M) := HDB.out x (by simp)
      have hRl : x.2.length ≤ 1048576 := hd.out x HXM.out
      obtain ⟨x, R⟩ := x
      simp only at hRl
      have HCE : Hid (∀ W, Below w.heap.size w W → (W.cell? ⟨g, m * 6, none⟩ = some (.string ⟨(mark KK).toArray⟩) ∧ W.cell? ⟨g, m * 6 + 1, none⟩ = some (.int .i64 ((KK : Int) + 1)) ∧ W.cell? ⟨g, m * 6 + 2, none⟩ = some (.bool (((KK : Int) + 1 + 1) % 3 == 0)) ∧ W.cell? ⟨g, m * 6 + 3, none⟩ = some (.slice x.a x.n x.c) ∧ W.cell? ⟨g, m * 6 + 4, none⟩ = some (.int .i64 ((KK : Int) + 1 + 1 + 1 + 4 * (R.length : Int))) ∧ W.cell? ⟨g, m * 6 + 5, none⟩ = some (.int .i64 ((KK : Int) + 1 + 1 + 1 + 4 * (R.length : Int) + 1))) ∧ RRow W (.slice x.a x.n x.c) (mrks (KK + 3) R.length)) := fun W hW => by
        have h1 := HB0.out.kept hW
        rw [HM.out] at h1
        rw [markE_cons] at h1
        have h2 := h1.at.1
        rw [← HMA.out] at h2
        have e1 : (KK : Int) + 2 = (KK : Int) + 1 + 1 := by omega
        have e2 : (KK : Int) + 3 + 4 * (R.length : Int) = (KK : Int) + 1 + 1 + 1 + 4 * (R.length : Int) := by omega
        have e3 : (KK : Int) + 4 + 4 * (R.length : Int) = (KK : Int) + 1 + 1 + 1 + 4 * (R.length : Int) + 1 := by omega
        refine ⟨?_, (h1.recs (mkE KK (x, R)) (by simp)).row⟩
        unfold mkE at h2
        rw [e1, e2, e3] at h2
        exact h2
      obtain ⟨y, hy⟩ : ∃ y, y = mark KK := ⟨_, rfl⟩
      rw [← hy] at HMK HCE
      have HHS : Hid (∀ W, Below w.heap.size w W → Calls Tryz.prog 55 #[.slice x.a x.n x.c, .int .i64 ((KK : Int) + 1 + 1 + 1)] W fun e w' => e = .returned (.int .i64 ((KK : Int) + 1 + 1 + 1 + 4 * (R.length : Int))) ∧ Below W.heap.size W w') := fun W hW => by
        have h := heldRecordS_any (.slice x.a x.n x.c) R.length (KK + 3) W (HCE.out W hW).2 hRl (by omega) (by omega)
        have e : ((KK + 3 : Nat) : Int) = (KK : Int) + 1 + 1 + 1 := by omega
        rw [e] at h
        exact h
      have HTR : Hid (∀ W W', Below w.heap.size w W → Below W.heap.size W W' → Below w.heap.size w W') := fun W W' h1 h2 => h1.trans (h2.mono h1.size)
      have hbd : Below w.heap.size w wr.drew := hb.drew
      have wk1 : IntKind.i64.wrap ((KK : Int) + 1) = (KK : Int) + 1 := wrap_small _ (by omega) (by omega)
      have wk2 : IntKind.i64.wrap ((KK : Int) + 1 + 1) = (KK : Int) + 1 + 1 := wrap_small _ (by omega) (by omega)
      have wk3 : IntKind.i64.wrap ((KK : Int) + 1 + 1 + 1) = (KK : Int) + 1 + 1 + 1 := wrap_small _ (by omega) (by omega)
      have wk4 : IntKind.i64.wrap ((KK : Int) + 1 + 1 + 1 + 4 * (R.length : Int) + 1) = (KK : Int) + 1 + 1 + 1 + 4 * (R.length : Int) + 1 := wrap_small _ (by omega) (by omega)
      have wk5 : IntKind.i64.wrap ((KK : Int) + 1 + 1 + 1 + 4 * (R.length : Int) + 1 + 1) = (KK : Int) + 1 + 1 + 1 + 4 * (R.length : Int) + 1 + 1 := wrap_small _ (by omega) (by omega)
      have HKK : Hid ((KK : Int) + 1 + 1 + 1 + 4 * (R.length : Int) + 1 + 1 = ((KK + 5 + 4 * R.length : Nat) : Int)) := by show _ = _; omega
      have HM5 : Hid (markE 1 M = A ++ [mkE KK (x, R)] ++ markE (KK + 5 + 4 * R.length) B) := by rw [HM.out, List.append_assoc]; exact rfl
      have HT5 : Hid (KK + 5 + 4 * R.length + totE B = 1 + totE M) := by have h := HT.out; rw [totE_cons] at h; simp only at h; show _ = _; omega
      have HA5 : Hid ((A ++ [mkE KK (x, R)]).length = m + 1) := by show _ = _; rw [List.length_append, ← HMA.out]; rfl
      have HDB5 : Hid (∀ x ∈ B, x ∈ M) := fun z hz => HDB.out z (by simp [hz])
      clear hm hy HDB HM HT
      go_wp2_with fail
      refine wp_region_quiet (C := fun W => Below w.heap.size w W) (by kernel_rfl) (by kernel_rfl) hbd ?_
      refine wpQuiet_step (fun K hK => ?_)
      rw [if_pos (by rfl)]
      refine ⟨.slice (some ⟨g, 0, none⟩) n cap, fun W hW => quiet_ok ?_, hK _ ?_⟩
      · have f := (HCE.out W hW).1
        obtain ⟨c0, c1, c2, c3, c4, c5⟩ := f
        go_simp
        all_goals (try omega)
      clear hK K
      simp only [Act.put, List.setIfInBounds_toArray, List.set_cons_succ, List.set_cons_zero]
      refine wpQuiet_step (fun K hK => ?_)
      rw [if_pos (by rfl)]
      refine ⟨.int .i64 (m : Int), fun W hW => quiet_ok ?_, hK _ ?_⟩
      · have f := (HCE.out W hW).1
        obtain ⟨c0, c1, c2, c3, c4, c5⟩ := f
        go_simp
        all_goals (try omega)
      clear hK K
      simp only [Act.put, List.setIfInBounds_toArray, List.set_cons_succ, List.set_cons_zero]
      refine wpQuiet_step (fun K hK => ?_)
      rw [if_pos (by rfl)]
      refine ⟨.pointer (some ⟨g, m * 6, none⟩), fun W hW => quiet_ok ?_, hK _ ?_⟩
      · have f := (HCE.out W hW).1
        obtain ⟨c0, c1, c2, c3, c4, c5⟩ := f
        go_simp
        all_goals (try omega)
      clear hK K
      simp only [Act.put, List.setIfInBounds_toArray, List.set_cons_succ, List.set_cons_zero]
      refine wpQuiet_step (fun K hK => ?_)
      rw [if_pos (by rfl)]
      refine ⟨.pointer (some ⟨g, m * 6, none⟩), fun W hW => quiet_ok ?_, hK _ ?_⟩
      · have f := (HCE.out W hW).1
        obtain ⟨c0, c1, c2, c3, c4, c5⟩ := f
        go_simp
        all_goals (try omega)
      clear hK K
      simp only [Act.put, List.setIfInBounds_toArray, List.set_cons_succ, List.set_cons_zero]
      refine wpQuiet_step (fun K hK => ?_)
      rw [if_pos (by rfl)]
      refine ⟨.string ⟨y.toArray⟩, fun W hW => quiet_ok ?_, hK _ ?_⟩
      · have f := (HCE.out W hW).1
        obtain ⟨c0, c1, c2, c3, c4, c5⟩ := f
        go_simp
        all_goals (try omega)
      clear hK K
      simp only [Act.put, List.setIfInBounds_toArray, List.set_cons_succ, List.set_cons_zero]
      refine wpQuiet_step (fun K hK => ?_)
      rw [if_pos (by rfl)]
      refine ⟨.int .i64 (KK : Int), fun W hW => quiet_ok ?_, hK _ ?_⟩
      · have f := (HCE.out W hW).1
        obtain ⟨c0, c1, c2, c3, c4, c5⟩ := f
        go_simp
        all_goals (try omega)
      clear hK K
      simp only [Act.put, List.setIfInBounds_toArray, List.set_cons_succ, List.set_cons_zero]
      refine wpQuiet_step (fun K hK => ?_)
      rw [if_pos (by rfl)]
      refine ⟨.string ⟨y.toArray⟩, fun W hW => quiet_call (f := 45) (args := #[.int .i64 (KK : Int)]) ?_ ?_, hK _ ?_⟩
      · go_simp
      · exact (HMK.out W).mono fun e w'' h => ⟨h.1, HTR.out _ _ hW h.2⟩
      clear hK K
      simp only [Act.put, List.setIfInBounds_toArray, List.set_cons_succ, List.set_cons_zero]
      refine wpQuiet_step (fun K hK => ?_)
      rw [if_pos (by rfl)]
      refine ⟨.bool false, fun W hW => quiet_ok ?_, hK _ ?_⟩
      · have f := (HCE.out W hW).1
        obtain ⟨c0, c1, c2, c3, c4, c5⟩ := f
        go_simp
        all_goals (try omega)
      clear hK K
      simp only [Act.put, List.setIfInBounds_toArray, List.set_cons_succ, List.set_cons_zero]
      refine wpQuiet_nil ?_
      intro W hW
      obtain ⟨⟨c0, c1, c2, c3, c4, c5⟩, _⟩ := HCE.out W hW
      go_wp2_with fail
      refine (HHS.out W hW).mono ?_
      rintro e w5 ⟨rfl, hb5⟩
      have hbw5 := HTR.out _ _ hW hb5
      have hpos : ¬ (KK : Int) + 1 + 1 + 1 + 4 * (R.length : Int) < 0 := by omega
      clear c0 c1 c2 c3 c4 c5
      obtain ⟨⟨c0, c1, c2, c3, c4, c5⟩, _⟩ := HCE.out w5 hbw5
      clear HCE HHS HMK c0 c1 c2 c3
      go_wp2_with fail
      go_roundw
      case rel => exact ⟨KK + 5 + 4 * R.length, _, B, ⟨by rw [HA5.out]; omega, by rw [HA5.out]; omega, by rw [HA5.out]; omega⟩, by omega, by rw [HA5.out]; go_num, by rw [HKK.out], HM5, HT5, HDB5, hbw5⟩
      case measure => simp [intOf]; omega
    | nil =>
      simp only [List.length_nil, Nat.add_zero] at hA2 hA3
      have HQ : Hid ((KK : Int) = 1 + (totE M : Int)) := by have h := HT.out; rw [show totE [] = 0 from rfl] at h; show _ = _; omega
      have hAn : ¬ (A.length : Int) < (n : Int) := by omega
      clear HM HT
      go_wp2_with fail
      go_ret
      exact ⟨ret_int HQ.out, hb⟩
end Go.Proofs.YtgfiahfoghnpkaaGreatDoor

namespace Go.Proofs.YtgfiahfoghnpkaaGreatDoor
open Go.RowKit Go.Maps

set_option maxRecDepth 20000 in
set_option maxHeartbeats 1000000 in
theorem markCacheG_any (now : Int) (g n cap base : Nat) (M : List (EV × RecL)) (w : World) (h : ERel w base g M) (hn : n = M.length) (hcap : n ≤ cap) (hmax : cap ≤ maxLen) (hl : M.length ≤ 1048576) (hd : Hid (∀ x ∈ M, x.2.length ≤ 1048576)) (HTOT : Hid (totE M ≤ 200000000)) :
    Calls Tryz.prog 16 #[CchV now (.slice (some ⟨g, 0, none⟩) n cap), .int .i64 1] w fun e w' => e = .returned (.int .i64 (1 + (totE M : Int))) ∧ ERel w' base g (markE 1 M) ∧ Kpt w w' (inE g M) := by
  unfold CchV
  have HN : Hid (n = M.length) := hn
  clear hn
  obtain ⟨W0, hW0⟩ : ∃ W0, W0 = w.alloc (.cells #[.int .i64 now, .slice (some ⟨g, 0, none⟩) n cap] 30) := ⟨_, rfl⟩
  have HW0 : Hid (w.alloc (.cells #[.int .i64 now, .slice (some ⟨g, 0, none⟩) n cap] 30) = W0) := hW0.symm
  have HR : Hid (ERel W0 base g M) := by rw [hW0]; exact h.kept ((Below.refl _ _).alloc (Nat.le_refl _) _)
  have HK : Hid (Kpt w W0 (inE g M)) := by rw [hW0]; exact kpt_alloc _ _ _
  clear hW0 h
  go_enter Tryz.func16, Tryz.ntmps16
  go_wp2_with fail
  rw [HW0.out]
  refine (markEntryG_any g n cap base M W0 HR.out HN.out hcap hmax hl hd HTOT).mono ?_
  rintro e w1 ⟨rfl, h1, h2⟩
  have H1 : Hid (ERel w1 base g (markE 1 M)) := h1
  have H2 : Hid (Kpt w w1 (inE g M)) := HK.out.trans h2
  clear h1 h2
  go_wp2_with fail
  go_ret
  exact ⟨rfl, H1.out, H2.out⟩

set_option maxRecDepth 20000 in
set_option maxHeartbeats 1000000 in
theorem heldCacheG_any (now : Int) (g n cap base : Nat) (M : List (EV × RecL)) (w : World) (h : ERel w base g (markE 1 M)) (hn : n = M.length) (hl : M.length ≤ 1048576) (hd : Hid (∀ x ∈ M, x.2.length ≤ 1048576)) (HTOT : Hid (totE M ≤ 200000000)) :
    Calls Tryz.prog 18 #[CchV now (.slice (some ⟨g, 0, none⟩) n cap), .int .i64 1] w fun e w' => e = .returned (.int .i64 (1 + (totE M : Int))) ∧ Below w.heap.size w w' := by
  unfold CchV
  have HN : Hid (n = M.length) := hn
  clear hn
  obtain ⟨W0, hW0⟩ : ∃ W0, W0 = w.alloc (.cells #[.int .i64 now, .slice (some ⟨g, 0, none⟩) n cap] 30) := ⟨_, rfl⟩
  have HW0 : Hid (w.alloc (.cells #[.int .i64 now, .slice (some ⟨g, 0, none⟩) n cap] 30) = W0) := hW0.symm
  have hb0 : Below w.heap.size w W0 := by rw [hW0]; exact (Below.refl _ _).alloc (Nat.le_refl _) _
  have HR : Hid (ERel W0 base g (markE 1 M)) := h.kept hb0
  have HB : Hid (Below w.heap.size w W0) := hb0
  have hpos : ¬ 1 + (totE M : Int) < 0 := by omega
  clear hW0 h hb0
  go_enter Tryz.func18, Tryz.ntmps18
  go_wp2_with fail
  rw [HW0.out]
  refine (heldEntryG_any g n cap base M W0 HR.out HN.out hl hd HTOT).mono ?_
  rintro e w1 ⟨rfl, h1⟩
  have H1 : Hid (Below w.heap.size w w1) := HB.out.trans (h1.mono HB.out.size)
  clear h1
  go_wp2_with fail
  go_ret
  exact ⟨rfl, H1.out⟩
end Go.Proofs.YtgfiahfoghnpkaaGreatDoor
