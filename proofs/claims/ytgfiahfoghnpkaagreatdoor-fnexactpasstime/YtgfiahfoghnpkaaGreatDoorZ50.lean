import Derived.Test.YtgfiahfoghnpkaaGreatDoorZ49
import Derived.Test.YtgfiahfoghnpkaaGreatDoorZ18
import Derived.Test.YtgfiahfoghnpkaaGreatDoorZ44
import Derived.Deep.RegionHeld3
namespace Go.Proofs.YtgfiahfoghnpkaaGreatDoor
open Go.RowKit Go.Maps

theorem ERel.kpt {w w' : World} {base g : Nat} {M : List (EV × RecL)} {S : Nat → Prop} (h : ERel w base g M) (hk : Kpt w w' S) (hn : ∀ k, inE g M k → ¬ S k) : ERel w' base g M := by
  have hbl := hk.block g h.row.1 (hn g (.inl rfl))
  have hcell : ∀ c, w'.cell? ⟨g, c, none⟩ = w.cell? ⟨g, c, none⟩ := fun c => by simp only [World.cell?, hbl]
  have hfro : ∀ c, w'.frozen? ⟨g, c, none⟩ = w.frozen? ⟨g, c, none⟩ := fun c => by simp only [World.frozen?, hbl]
  refine ⟨⟨Nat.lt_of_lt_of_le h.row.1 hk.size, fun j hj => ?_⟩, fun p hp => (h.recs p hp).kpt hk (fun k hk2 => hn k (.inr ⟨p, hp, hk2⟩)), h.apart, h.off⟩
  obtain ⟨⟨c0, c1, c2, c3, c4, c5⟩, hf⟩ := h.row.2 j hj
  refine ⟨?_, fun r hr => by rw [hfro]; exact hf r hr⟩
  unfold Ent6
  simp only [hcell]
  exact ⟨c0, c1, c2, c3, c4, c5⟩
/-- The entries of a cache that may be written to, or none. -/
def CRel (w : World) (base : Nat) (v : Value) (M : List (EV × RecL)) : Prop := (v = .slice none 0 0 ∧ M = []) ∨ ∃ g cap, v = .slice (some ⟨g, 0, none⟩) M.length cap ∧ M.length ≤ cap ∧ cap ≤ maxLen ∧ base ≤ g ∧ ERel w base g M
/-- Their blocks. -/
def inC (v : Value) (M : List (EV × RecL)) (k : Nat) : Prop := v.ownBlock = some k ∨ ∃ p ∈ M, p.1.sl.ownBlock = some k
theorem CRel.kept {w w' : World} {base : Nat} {v : Value} {M : List (EV × RecL)} (h : CRel w base v M) (hb : Below w.heap.size w w') : CRel w' base v M := by
  rcases h with h | ⟨g, cap, h1, h2, h3, h4, h5⟩
  · exact .inl h
  · exact .inr ⟨g, cap, h1, h2, h3, h4, h5.kept hb⟩
theorem CRel.kpt {w w' : World} {base : Nat} {v : Value} {M : List (EV × RecL)} {S : Nat → Prop} (h : CRel w base v M) (hk : Kpt w w' S) (hn : ∀ k, inC v M k → ¬ S k) : CRel w' base v M := by
  rcases h with h | ⟨g, cap, h1, h2, h3, h4, h5⟩
  · exact .inl h
  · refine .inr ⟨g, cap, h1, h2, h3, h4, h5.kpt hk (fun k hk2 => hn k ?_)⟩
    rcases hk2 with h6 | h6
    · subst h6; exact .inl (by rw [h1]; rfl)
    · exact .inr h6
theorem CRel.lt {w : World} {base : Nat} {v : Value} {M : List (EV × RecL)} (h : CRel w base v M) : ∀ k, inC v M k → base ≤ k ∧ k < w.heap.size := by
  intro k hk
  rcases h with ⟨h1, h2⟩ | ⟨g, cap, h1, h2, h3, h4, h5⟩
  · subst h1 h2
    rcases hk with h | ⟨p, hp, _⟩
    · cases h
    · cases hp
  · rcases hk with h | ⟨p, hp, h⟩
    · rw [h1] at h
      have e : g = k := Option.some.inj h
      subst e
      exact ⟨h4, h5.row.1⟩
    · exact (h5.recs p hp).lt k h
theorem CRel.row {w : World} {base : Nat} {v : Value} {M : List (EV × RecL)} (h : CRel w base v M) : ERow w v (M.map conT) := by
  rcases h with ⟨h1, h2⟩ | ⟨g, cap, h1, h2, h3, h4, h5⟩
  · subst h1 h2
    exact ⟨none, 0, rfl, Nat.le_refl _, by unfold maxLen; omega, .inl rfl⟩
  · refine ⟨some ⟨g, 0, none⟩, cap, by rw [List.length_map]; exact h1, by rw [List.length_map]; exact h2, h3, .inr ⟨g, 0, rfl, h5.row.1, fun j hj => ?_⟩⟩
    have hj' : j < M.length := by simpa using hj
    have hq := (h5.row.2 j (by simpa using hj')).1
    rw [List.getElem_map] at hq
    rw [List.getElem_map, Nat.zero_add]
    obtain ⟨c0, c1, c2, c3, c4, c5⟩ := hq
    exact ⟨M[j].1.sl, ⟨c0, c1, c2, c3, c4, c5⟩, (h5.recs M[j] (List.getElem_mem hj')).row⟩
theorem CRel.shape {w : World} {base : Nat} {v : Value} {M : List (EV × RecL)} (h : CRel w base v M) : ∃ a n c, v = .slice a n c := by
  rcases h with ⟨h1, _⟩ | ⟨g, cap, h1, _⟩
  · exact ⟨_, _, _, h1⟩
  · exact ⟨_, _, _, h1⟩
theorem ebld_crel {w : World} {base : Nat} {v : Value} {M : List (EV × RecL)} (h : EBld w base v M) : CRel w base v M := ebld_rel h
theorem evL_len (T : Nat → Nat) (L : List EntT) : (evL T L).length = L.length := by simp [evL]
theorem eown_crel {w : World} {g : Nat} {T : Nat → Nat} {L : List EntT} (h : EOwn w g T L) (hx : ∀ x ∈ L, EBig x) (hl : L.length ≤ 1048576) : CRel w g (.slice (some ⟨g, 0, none⟩) L.length L.length) (evL T L) :=
  .inr ⟨g, L.length, by rw [evL_len], by rw [evL_len]; exact Nat.le_refl _, by unfold maxLen; omega, Nat.le_refl _, eown_rel h hx⟩
theorem markE_len : ∀ (K : Nat) (M : List (EV × RecL)), (markE K M).length = M.length
  | _, [] => rfl
  | K, x :: r => by rw [markE_cons, List.length_cons, List.length_cons, markE_len (K + 5 + 4 * x.2.length) r]
/-- As many marks as five for each entry, four for each record. -/
theorem totE_le : ∀ M : List (EV × RecL), totE M ≤ 5 * (M.length + wtE (M.map conT))
  | [] => by simp [totE]
  | x :: r => by
    have ih := totE_le r
    rw [totE_cons]
    have e : wtE ((x :: r).map conT) = wtE1 (conT x) + wtE (r.map conT) := by simp [wtE]
    rw [e]
    have e2 : x.2.length ≤ wtE1 (conT x) := by unfold wtE1 conT; simp only; omega
    simp only [List.length_cons]
    omega
theorem con_small {M : List (EV × RecL)} {K : List EntT} (h : M.map conT = K) (hK : K.length + wtE K ≤ 4000000 ∧ ∀ x ∈ K, x.2.2.2.1.length ≤ 1048576 ∧ K.length ≤ 1048576) : M.length ≤ 1048576 ∧ (∀ x ∈ M, x.2.length ≤ 1048576) ∧ totE M ≤ 200000000 := by
  have h1 : M.length = K.length := by rw [← h, List.length_map]
  have h2 := totE_le M
  rw [h] at h2
  refine ⟨?_, fun x hx => ?_, by omega⟩
  · cases K with
    | nil => rw [h1]; simp
    | cons k K => rw [h1]; exact (hK.2 k (by simp)).2
  · have h3 := (hK.2 (conT x) (by rw [← h]; exact List.mem_map.2 ⟨x, hx, rfl⟩)).1
    exact h3

set_option maxRecDepth 20000 in
set_option maxHeartbeats 1000000 in
theorem markEntryN_any (w : World) : Calls Tryz.prog 44 #[.slice none 0 0, .int .i64 1] w fun e w' => e = .returned (.int .i64 1) ∧ Below w.heap.size w w' := by
  go_enter Tryz.func44, Tryz.ntmps44
  go_wp2_with fail
  go_loopw [1, 5] (fun q i wr => i = .int .i64 0 ∧ q = .int .i64 1 ∧ Below w.heap.size w wr) (fun _ _ _ => 0)
  case atStart => exact ⟨rfl, rfl, Below.refl _ _⟩
  case round =>
    obtain ⟨rfl, rfl, hb⟩ := hrel
    go_wp2_with fail
    go_ret
    exact ⟨rfl, hb⟩
set_option maxRecDepth 20000 in
set_option maxHeartbeats 1000000 in
theorem heldEntryN_any (w : World) : Calls Tryz.prog 46 #[.slice none 0 0, .int .i64 1] w fun e w' => e = .returned (.int .i64 1) ∧ Below w.heap.size w w' := by
  go_enter Tryz.func46, Tryz.ntmps46
  go_wp2_with fail
  go_loopw [1, 5] (fun q i wr => i = .int .i64 0 ∧ q = .int .i64 1 ∧ Below w.heap.size w wr) (fun _ _ _ => 0)
  case atStart => exact ⟨rfl, rfl, Below.refl _ _⟩
  case round =>
    obtain ⟨rfl, rfl, hb⟩ := hrel
    go_wp2_with fail
    go_ret
    exact ⟨rfl, hb⟩
set_option maxRecDepth 20000 in
set_option maxHeartbeats 1000000 in
theorem markCacheN_any (now : Int) (w : World) : Calls Tryz.prog 16 #[.agg #[.int .i64 now, .slice none 0 0], .int .i64 1] w fun e w' => e = .returned (.int .i64 1) ∧ Below w.heap.size w w' := by
  go_enter Tryz.func16, Tryz.ntmps16
  go_wp2_with fail
  refine (markEntryN_any _).mono ?_
  rintro e w1 ⟨rfl, hb1⟩
  obtain ⟨_, hbw⟩ := box2c hb1
  go_wp2_with fail
  go_ret
  exact ⟨rfl, hbw⟩
theorem markCache_any (now : Int) (v : Value) (base : Nat) (M : List (EV × RecL)) (w : World) (h : CRel w base v M) (hM : M.length ≤ 1048576 ∧ (∀ x ∈ M, x.2.length ≤ 1048576) ∧ totE M ≤ 200000000) :
    Calls Tryz.prog 16 #[.agg #[.int .i64 now, v], .int .i64 1] w fun e w' => e = .returned (.int .i64 (1 + (totE M : Int))) ∧ CRel w' base v (markE 1 M) ∧ Kpt w w' (inC v M) := by
  rcases h with ⟨h1, h2⟩ | ⟨g, cap, h1, h2, h3, h4, h5⟩
  · subst h1 h2
    exact (markCacheN_any now w).mono fun e w' h => ⟨h.1, .inl ⟨rfl, rfl⟩, below_kpt0 h.2 _⟩
  · subst h1
    refine (markCacheG_any now g M.length cap base M w h5 rfl h2 h3 hM.1 hM.2.1 hM.2.2).mono fun e w' h => ⟨h.1, .inr ⟨g, cap, ?_, ?_, h3, h4, h.2.1⟩, h.2.2.mono (fun k _ hk => ?_)⟩
    · rw [markE_len]
    · rw [markE_len]; exact h2
    · rcases hk with hk | hk
      · subst hk; exact .inl rfl
      · exact .inr hk
set_option maxRecDepth 20000 in
set_option maxHeartbeats 1000000 in
theorem heldCacheN_any (now : Int) (w : World) : Calls Tryz.prog 18 #[.agg #[.int .i64 now, .slice none 0 0], .int .i64 1] w fun e w' => e = .returned (.int .i64 1) ∧ Below w.heap.size w w' := by
  go_enter Tryz.func18, Tryz.ntmps18
  go_wp2_with fail
  refine (heldEntryN_any _).mono ?_
  rintro e w1 ⟨rfl, hb1⟩
  obtain ⟨_, hbw⟩ := box2c hb1
  go_wp2_with fail
  go_ret
  exact ⟨rfl, hbw⟩
theorem heldCache_any (now : Int) (v : Value) (base : Nat) (M : List (EV × RecL)) (w : World) (h : CRel w base v (markE 1 M)) (hM : M.length ≤ 1048576 ∧ (∀ x ∈ M, x.2.length ≤ 1048576) ∧ totE M ≤ 200000000) :
    Calls Tryz.prog 18 #[.agg #[.int .i64 now, v], .int .i64 1] w fun e w' => e = .returned (.int .i64 (1 + (totE M : Int))) ∧ Below w.heap.size w w' := by
  rcases h with ⟨h1, h2⟩ | ⟨g, cap, h1, h2, h3, h4, h5⟩
  · have h2' : M = [] := by
      have h3 := markE_len 1 M
      rw [h2] at h3
      exact List.length_eq_zero_iff.1 h3.symm
    subst h1 h2'
    exact heldCacheN_any now w
  · subst h1
    rw [markE_len] at h2
    have h := heldCacheG_any now g M.length cap base M w h5 rfl hM.1 hM.2.1 hM.2.2
    rw [markE_len]
    exact h
end Go.Proofs.YtgfiahfoghnpkaaGreatDoor

namespace Go.Proofs.YtgfiahfoghnpkaaGreatDoor.passTime
open Go.RowKit Go.Maps

set_option maxRecDepth 20000 in
set_option maxHeartbeats 16000000 in
theorem core (now : Int) (va : Value) (L : List EntT) (n : Int) (nw : Int) (K : List EntT) (nn : Int) (ok : Bool) (w : World) (ha : ERow w va L) (hxa : Hid (∀ x ∈ L, EFit x)) (hE : EnvR w) 
    (HK : Hid (L.length + wtE L ≤ 1048576 → K.length + wtE K ≤ 4000000 ∧ ∀ x ∈ K, x.2.2.2.1.length ≤ 1048576 ∧ K.length ≤ 1048576))
    (HS0 : Hid (∀ g T W, L.length ≤ 1048576 → Hid (∀ x ∈ L, EBig x) → EOwn W g T L → Calls Tryz.prog 26 #[.agg #[.int .i64 now, .slice (some ⟨g, 0, none⟩) L.length L.length], .int .i64 n] W fun e w' => (∃ v M, e = .returned (.tuple #[.agg #[.int .i64 nw, v], .int .i64 nn, .bool ok]) ∧ EBld w' W.heap.size v M ∧ M.map conT = K) ∧ Below W.heap.size W w'))
    (HI0 : Hid (∀ g T W, EnvR W → L.length ≤ 1048576 → Hid (∀ x ∈ L, EBig x) → EOwn W g T L → Calls Tryz.prog 27 #[.agg #[.int .i64 now, .slice (some ⟨g, 0, none⟩) L.length L.length], .int .i64 n] W fun e w' => (∃ v M, e = .returned (.tuple #[.agg #[.int .i64 nw, v], .int .i64 nn, .bool ok]) ∧ EBld w' W.heap.size v M ∧ M.map conT = K) ∧ Below W.heap.size W w')) :
    Calls Tryz.prog 6 #[CchV now va, .int .i64 n] w fun e w' => e = .returned (.bool true) ∧ Below w.heap.size w w' := by
  obtain ⟨aa, ca, hva, _, hca, _⟩ := id ha
  have HSZ : Hid (∀ W, Below w.heap.size w W → Calls Tryz.prog 8 #[CchV now va, .int .i64 1048576] W fun e w' => (∃ q : Int, e = .returned (.int .i64 q) ∧ (q = -1 ∨ (0 ≤ q ∧ q = 1048576 - (L.length : Int) - (wtE L : Int)))) ∧ Below W.heap.size W w') := fun W hW => szCache_any now va L 1048576 W (ha.kept hW) hxa (by omega) (by omega)
  have HTO : Hid (L.length ≤ 1048576 → Hid (∀ x ∈ L, EBig x) → ∀ W, Below w.heap.size w W → Calls Tryz.prog 11 #[CchV now va] W fun e w' => (∃ g T, e = .returned (CchV now (.slice (some ⟨g, 0, none⟩) L.length L.length)) ∧ W.heap.size ≤ g ∧ EOwn w' g T L) ∧ Below W.heap.size W w') := fun h1 h2 W hW => toCache_any now va L W (ha.kept hW) h1 h2
  have e_nn : (nn != nn) = false := by simp
  have e_ok : (ok != ok) = false := by simp
  subst hva
  clear ha
  unfold CchV at HSZ HTO ⊢
  go_enter Tryz.func6, Tryz.ntmps6
  go_wp2_with fail
  refine (HSZ.out _ ((Below.refl w.heap.size w).alloc (Nat.le_refl _) _)).mono ?_
  rintro e w1 ⟨⟨q, rfl, hq⟩, hb1⟩
  have hbw1 : Below w.heap.size w w1 := ((Below.refl w.heap.size w).alloc (Nat.le_refl _) _).trans (hb1.mono (by simp))
  have HP1 : Hid (w1.heap[w.heap.size]? = some (.cells #[.int .i64 now, .slice aa L.length ca] 24)) := (hb1.block w.heap.size (by simp)).trans (blk_new _ _)
  have hz1 : w.heap.size < w1.heap.size := Nat.lt_of_lt_of_le (by simp) hb1.size
  clear hb1 HSZ
  by_cases hq1 : q = -1
  · subst hq1
    clear hq
    go_wp2_with fail
    go_ret
    exact ⟨rfl, hbw1⟩
  rcases hq with rfl | ⟨hq0, hqe⟩
  · exact absurd rfl hq1
  obtain ⟨hL, hL2⟩ := sz_cache hq0 hqe
  have HL2 : Hid (∀ x ∈ L, EBig x) := hL2
  have HKB := HK.out (by omega)
  have HKK : Hid (∀ M : List (EV × RecL), M.map conT = K → M.length ≤ 1048576 ∧ (∀ x ∈ M, x.2.length ≤ 1048576) ∧ totE M ≤ 200000000) := fun M h => con_small h HKB
  have HKX : Hid (∀ T, (evL T L).length ≤ 1048576 ∧ (∀ x ∈ evL T L, x.2.length ≤ 1048576) ∧ totE (evL T L) ≤ 200000000) := fun T => con_small (con_evL T L) ⟨by omega, fun x hx => ⟨(HL2.out x hx).2.1, hL⟩⟩
  have HT : Hid (∀ W, Below w.heap.size w W → Calls Tryz.prog 11 #[.agg #[.int .i64 now, .slice aa L.length ca]] W fun e w' => (∃ g T, e = .returned (.agg #[.int .i64 now, .slice (some ⟨g, 0, none⟩) L.length L.length]) ∧ W.heap.size ≤ g ∧ EOwn w' g T L) ∧ Below W.heap.size W w') := HTO.out hL HL2
  have HS : Hid (∀ g T W, EOwn W g T L → Calls Tryz.prog 26 #[.agg #[.int .i64 now, .slice (some ⟨g, 0, none⟩) L.length L.length], .int .i64 n] W fun e w' => (∃ v M, e = .returned (.tuple #[.agg #[.int .i64 nw, v], .int .i64 nn, .bool ok]) ∧ EBld w' W.heap.size v M ∧ M.map conT = K) ∧ Below W.heap.size W w') := fun g T W h => HS0.out g T W hL HL2 h
  have HI : Hid (∀ g T W, EnvR W → EOwn W g T L → Calls Tryz.prog 27 #[.agg #[.int .i64 now, .slice (some ⟨g, 0, none⟩) L.length L.length], .int .i64 n] W fun e w' => (∃ v M, e = .returned (.tuple #[.agg #[.int .i64 nw, v], .int .i64 nn, .bool ok]) ∧ EBld w' W.heap.size v M ∧ M.map conT = K) ∧ Below W.heap.size W w') := fun g T W hW h => HI0.out g T W hW hL HL2 h
  have HEX : Hid (∀ g1 g2 T1 T2 W, EOwn W g1 T1 L → EOwn W g2 T2 L → Calls Tryz.prog 14 #[.agg #[.int .i64 now, .slice (some ⟨g1, 0, none⟩) L.length L.length], .agg #[.int .i64 now, .slice (some ⟨g2, 0, none⟩) L.length L.length]] W fun e w' => e = .returned (.bool true) ∧ Below W.heap.size W w') := fun g1 g2 T1 T2 W h1 h2 => eqCache_same now _ _ L W (h1.row HL2.out (Nat.le_refl _) (by unfold maxLen; omega)) (h2.row HL2.out (Nat.le_refl _) (by unfold maxLen; omega))
  have HEG : Hid (∀ v v2 W, ERow W v K → ERow W v2 K → Calls Tryz.prog 14 #[.agg #[.int .i64 nw, v], .agg #[.int .i64 nw, v2]] W fun e w' => e = .returned (.bool true) ∧ Below W.heap.size W w') := fun v v2 W h1 h2 => eqCache_same nw v v2 K W h1 h2
  have HMX : Hid (∀ g T W, EOwn W g T L → Calls Tryz.prog 16 #[.agg #[.int .i64 now, .slice (some ⟨g, 0, none⟩) L.length L.length], .int .i64 1] W fun e w' => (∃ qx : Int, e = .returned (.int .i64 qx) ∧ 0 ≤ qx) ∧ Kpt W w' (inC (.slice (some ⟨g, 0, none⟩) L.length L.length) (evL T L))) := fun g T W h => (markCache_any now _ g (evL T L) W (eown_crel h HL2.out hL) (HKX.out T)).mono fun e w' h2 => ⟨⟨_, h2.1, by omega⟩, h2.2.2⟩
  clear hqe hL2 HS0 HI0 HTO HKX HKB HK
  obtain ⟨p0, p1⟩ := cch_cells HP1.out
  go_wp2_with fail
  refine (HT.out _ hbw1).mono ?_
  rintro e w2 ⟨⟨g1, T1, rfl, hg1, hq2⟩, hb2⟩
  clear p0 p1
  have hbw2 : Below w.heap.size w w2 := hbw1.trans (hb2.mono hbw1.size)
  have HP2 : Hid (w2.heap[w.heap.size]? = some (.cells #[.int .i64 now, .slice aa L.length ca] 24)) := (hb2.block w.heap.size hz1).trans HP1.out
  have hz2 : w.heap.size < w2.heap.size := Nat.lt_of_lt_of_le hz1 hb2.size
  have HQ2 : Hid (EOwn w2 g1 T1 L) := hq2
  clear hq2 hg1 hb2 HP1 hbw1
  go_wp2_with fail
  refine (HS.out g1 T1 _ HQ2.out).mono ?_
  rintro e w3 ⟨⟨v0, M0, rfl, hB0, hM0⟩, hb3⟩
  have hR0 := ebld_crel hB0
  have HR0 : Hid (CRel w3 w2.heap.size v0 M0) := hR0
  have HM0 : Hid (M0.map conT = K) := hM0
  obtain ⟨a0, n0, c0, hv0⟩ := hR0.shape
  subst hv0
  have hbw3 : Below w.heap.size w w3 := hbw2.trans (hb3.mono hbw2.size)
  have HP3 : Hid (w3.heap[w.heap.size]? = some (.cells #[.int .i64 now, .slice aa L.length ca] 24)) := (hb3.block w.heap.size hz2).trans HP2.out
  have hz3 : w.heap.size < w3.heap.size := Nat.lt_of_lt_of_le hz2 hb3.size
  have HRW : Hid (∀ W, Below w3.heap.size w3 W → ERow W (.slice a0 n0 c0) K) := fun W hW => by have h := (HR0.out.kept hW).row; rw [HM0.out] at h; exact h
  obtain ⟨p0, p1⟩ := cch_cells HP3.out
  clear hb3 HP2 hbw2 hB0 hM0 hR0 HS HQ2
  go_wp2_with fail
  refine (HT.out _ (hbw3.alloc hbw3.size _)).mono ?_
  rintro e w4 ⟨⟨g3, T3, rfl, hg3, hq4⟩, hb4⟩
  clear p0 p1
  have hb34 : Below w3.heap.size w3 w4 := ((Below.refl w3.heap.size w3).alloc (Nat.le_refl _) _).trans (hb4.mono (by simp))
  have hbw4 : Below w.heap.size w w4 := hbw3.trans (hb34.mono hbw3.size)
  have HP4 : Hid (w4.heap[w.heap.size]? = some (.cells #[.int .i64 now, .slice aa L.length ca] 24)) := (hb34.block w.heap.size hz3).trans HP3.out
  have HW4 : Hid (w4.heap[w3.heap.size]? = some (.cells #[.int .i64 nw, .slice a0 n0 c0] 30)) := (hb4.block w3.heap.size (by simp)).trans (blk_new _ _)
  have hz34 : w3.heap.size < w4.heap.size := Nat.lt_of_lt_of_le (by simp) hb4.size
  have hg3' : w3.heap.size + 1 ≤ g3 := by simpa using hg3
  have HQ4 : Hid (EOwn w4 g3 T3 L) := hq4
  have HLX : Hid (∀ k, inC (.slice (some ⟨g3, 0, none⟩) L.length L.length) (evL T3 L) k → g3 ≤ k ∧ k < w4.heap.size) := fun k hk => (eown_crel hq4 HL2.out hL).lt k hk
  clear hq4 hg3 hb4 HP3 hbw3
  go_wp2_with fail
  refine (HI.out g3 T3 _ (hE.below (hbw4.alloc hbw4.size _)) (HQ4.out.kept ((Below.refl w4.heap.size w4).alloc (Nat.le_refl _) _))).mono ?_
  rintro e w6 ⟨⟨v1, M1, rfl, hB1, hM1⟩, hb6⟩
  have hR1 : CRel w6 (w4.heap.size + 1) v1 M1 := by have h := ebld_crel hB1; have e : (w4.alloc (.cells #[.int .i64 now, .slice (some ⟨g3, 0, none⟩) L.length L.length] 30)).heap.size = w4.heap.size + 1 := (by simp); first | exact h | (rw [e] at h; exact h)
  have HM1 : Hid (M1.map conT = K) := hM1
  obtain ⟨a1, n1, c1, hv1⟩ := hR1.shape
  subst hv1
  have HR16 : Hid (CRel w6 (w4.heap.size + 1) (.slice a1 n1 c1) M1) := hR1
  have hb46 : Below w4.heap.size w4 w6 := ((Below.refl w4.heap.size w4).alloc (Nat.le_refl _) _).trans (hb6.mono (by simp))
  have hz46 : w4.heap.size < w6.heap.size := Nat.lt_of_lt_of_le (by simp) hb6.size
  have HP6 : Hid (w6.heap[w.heap.size]? = some (.cells #[.int .i64 now, .slice aa L.length ca] 24)) := (hb46.block w.heap.size (by omega)).trans HP4.out
  have HW6 : Hid (w6.heap[w3.heap.size]? = some (.cells #[.int .i64 nw, .slice a0 n0 c0] 30)) := (hb46.block w3.heap.size hz34).trans HW4.out
  have HX6 : Hid (w6.heap[w4.heap.size]? = some (.cells #[.int .i64 now, .slice (some ⟨g3, 0, none⟩) L.length L.length] 30)) := (hb6.block w4.heap.size (by simp)).trans (blk_new _ _)
  have HQ6 : Hid (EOwn w6 g3 T3 L) := HQ4.out.kept hb46
  have hb36 : Below w3.heap.size w3 w6 := hb34.trans (hb46.mono hb34.size)
  have hbw6 : Below w.heap.size w w6 := hbw4.trans (hb46.mono hbw4.size)
  obtain ⟨c0', c1'⟩ := cch_cells HW6.out
  have hlt36 : w3.heap.size < w6.heap.size := by omega
  have HRG : Hid (∀ W M, CRel W (w4.heap.size + 1) (.slice a1 n1 c1) M → M.map conT = K → ERow W (.slice a1 n1 c1) K) := fun W M h1 h2 => by have h := h1.row; rw [h2] at h; exact h
  have HMG : Hid (∀ W, CRel W (w4.heap.size + 1) (.slice a1 n1 c1) M1 → Calls Tryz.prog 16 #[.agg #[.int .i64 nw, .slice a1 n1 c1], .int .i64 1] W fun e w' => e = .returned (.int .i64 (1 + (totE M1 : Int))) ∧ CRel w' (w4.heap.size + 1) (.slice a1 n1 c1) (markE 1 M1) ∧ Kpt W w' (inC (.slice a1 n1 c1) M1)) := fun W h => markCache_any nw _ _ M1 W h (HKK.out M1 HM1.out)
  have HHG : Hid (∀ W, CRel W (w4.heap.size + 1) (.slice a1 n1 c1) (markE 1 M1) → Calls Tryz.prog 18 #[.agg #[.int .i64 nw, .slice a1 n1 c1], .int .i64 1] W fun e w' => e = .returned (.int .i64 (1 + (totE M1 : Int))) ∧ Below W.heap.size W w') := fun W h => heldCache_any nw _ _ M1 W h (HKK.out M1 HM1.out)
  obtain ⟨qg, hqg⟩ : ∃ q : Int, q = 1 + (totE M1 : Int) := ⟨_, rfl⟩
  rw [← hqg] at HMG HHG
  have hqg0 : decide (qg < 0) = false := by simp; omega
  have hqq : (qg != qg) = false := by simp
  have HLG : Hid (∀ k, inC (.slice a1 n1 c1) M1 k → w4.heap.size + 1 ≤ k ∧ k < w6.heap.size) := fun k h => HR16.out.lt k h
  clear hqg hB1 hM1 hR1 hb6 HQ4 HP4 HW4 hb34 hb46 hbw4 HKK
  go_wp2_with fail
  refine (HEG.out _ _ _ (HRG.out _ M1 (HR16.out.kept ((Below.refl w6.heap.size w6).alloc (Nat.le_refl _) _)) HM1.out) (HRW.out _ (hb36.alloc hb36.size _))).mono ?_
  rintro e w7 ⟨rfl, hb7⟩
  clear c0' c1'
  have hb67 : Below w6.heap.size w6 w7 := ((Below.refl w6.heap.size w6).alloc (Nat.le_refl _) _).trans (hb7.mono (by simp))
  have hz67 : w6.heap.size < w7.heap.size := Nat.lt_of_lt_of_le (by simp) hb7.size
  have HP7 : Hid (w7.heap[w.heap.size]? = some (.cells #[.int .i64 now, .slice aa L.length ca] 24)) := (hb67.block w.heap.size (by omega)).trans HP6.out
  have HW7 : Hid (w7.heap[w3.heap.size]? = some (.cells #[.int .i64 nw, .slice a0 n0 c0] 30)) := (hb67.block w3.heap.size (by omega)).trans HW6.out
  have HX7 : Hid (w7.heap[w4.heap.size]? = some (.cells #[.int .i64 now, .slice (some ⟨g3, 0, none⟩) L.length L.length] 30)) := (hb67.block w4.heap.size (by omega)).trans HX6.out
  have HG7 : Hid (w7.heap[w6.heap.size]? = some (.cells #[.int .i64 nw, .slice a1 n1 c1] 30)) := (hb7.block w6.heap.size (by simp)).trans (blk_new _ _)
  have hb37 : Below w3.heap.size w3 w7 := hb36.trans (hb67.mono hb36.size)
  have hbw7 : Below w.heap.size w w7 := hbw6.trans (hb67.mono hbw6.size)
  have HC : Hid (∀ W, Below w7.heap.size w7 W → (W.cell? ⟨w.heap.size, 0, none⟩ = some (.int .i64 now) ∧ W.cell? ⟨w.heap.size, 1, none⟩ = some (.slice aa L.length ca)) ∧ (W.cell? ⟨w4.heap.size, 0, none⟩ = some (.int .i64 now) ∧ W.cell? ⟨w4.heap.size, 1, none⟩ = some (.slice (some ⟨g3, 0, none⟩) L.length L.length)) ∧ Below w7.heap.size w7 W) := fun W hW =>
    ⟨cch_cells ((hW.block w.heap.size (by omega)).trans HP7.out), cch_cells ((hW.block w4.heap.size (by omega)).trans HX7.out), hW⟩
  have HT7 : Hid (∀ W, Below w7.heap.size w7 W → Calls Tryz.prog 11 #[.agg #[.int .i64 now, .slice aa L.length ca]] W fun e w' => (∃ g T, e = .returned (.agg #[.int .i64 now, .slice (some ⟨g, 0, none⟩) L.length L.length]) ∧ W.heap.size ≤ g ∧ EOwn w' g T L) ∧ Below W.heap.size W w') := fun W hW => HT.out W (hbw7.trans (hW.mono hbw7.size))
  have HEX7 : Hid (∀ g2 T2 W, Below w7.heap.size w7 W → EOwn W g2 T2 L → Calls Tryz.prog 14 #[.agg #[.int .i64 now, .slice (some ⟨g3, 0, none⟩) L.length L.length], .agg #[.int .i64 now, .slice (some ⟨g2, 0, none⟩) L.length L.length]] W fun e w' => e = .returned (.bool true) ∧ Below W.heap.size W w') := fun g2 T2 W hW h2 => HEX.out g3 g2 T3 T2 W ((HQ6.out.kept hb67).kept hW) h2
  have HTR : Hid (∀ W W', Below w7.heap.size w7 W → Below W.heap.size W W' → Below w7.heap.size w7 W') := fun W W' h1 h2 => h1.trans (h2.mono h1.size)
  have hbz : Below w7.heap.size w7 w7 := Below.refl _ _
  have hbd : Below w7.heap.size w7 w7.drew := (Below.refl _ _).drew
  have HQ7 : Hid (EOwn w7 g3 T3 L) := HQ6.out.kept hb67
  have HR17 : Hid (CRel w7 (w4.heap.size + 1) (.slice a1 n1 c1) M1) := HR16.out.kept hb67
  clear hb7 hb67 hb36 hbw6 HP6 HW6 HX6 HQ6 HR16
  go_wp2_with fail
  go_region_held3 (fun W => (W.cell? ⟨w.heap.size, 0, none⟩ = some (.int .i64 now) ∧ W.cell? ⟨w.heap.size, 1, none⟩ = some (.slice aa L.length ca)) ∧ (W.cell? ⟨w4.heap.size, 0, none⟩ = some (.int .i64 now) ∧ W.cell? ⟨w4.heap.size, 1, none⟩ = some (.slice (some ⟨g3, 0, none⟩) L.length L.length)) ∧ Below w7.heap.size w7 W) (first | exact HC.out _ (by assumption) | exact HC.out _ (Below.drew (by assumption)))
    (first
    | (go_at_call 11; refine (HT7.out _ (by assumption)).mono ?_; rintro e w8 ⟨⟨g5, T5, rfl, _, hq8⟩, hb8⟩; have hb78 := HTR.out _ _ (by assumption) hb8)
    | (go_at_call 14; refine (HEX7.out _ _ _ (by assumption) (by assumption)).mono ?_; rintro e w9 ⟨rfl, hb9⟩; have hb79 := HTR.out _ _ (by assumption) hb9))
  have HP9 : Hid (w9.heap[w.heap.size]? = some (.cells #[.int .i64 now, .slice aa L.length ca] 24)) := (hb79.block w.heap.size (by omega)).trans HP7.out
  have HW9 : Hid (w9.heap[w3.heap.size]? = some (.cells #[.int .i64 nw, .slice a0 n0 c0] 30)) := (hb79.block w3.heap.size (by omega)).trans HW7.out
  have HX9 : Hid (w9.heap[w4.heap.size]? = some (.cells #[.int .i64 now, .slice (some ⟨g3, 0, none⟩) L.length L.length] 30)) := (hb79.block w4.heap.size (by omega)).trans HX7.out
  have HG9 : Hid (w9.heap[w6.heap.size]? = some (.cells #[.int .i64 nw, .slice a1 n1 c1] 30)) := (hb79.block w6.heap.size (by omega)).trans HG7.out
  have HQ9 : Hid (EOwn w9 g3 T3 L) := HQ7.out.kept hb79
  have HR19 : Hid (CRel w9 (w4.heap.size + 1) (.slice a1 n1 c1) M1) := HR17.out.kept hb79
  have hb39 : Below w3.heap.size w3 w9 := hb37.trans (hb79.mono hb37.size)
  have hbw9 : Below w.heap.size w w9 := hbw7.trans (hb79.mono hbw7.size)
  have hz79 : w7.heap.size ≤ w9.heap.size := hb79.size
  obtain ⟨x0, x1⟩ := cch_cells HX9.out
  clear HP7 HW7 HX7 HG7 HQ7 HR17 HC HT7 HEX7 HTR hb79 hbw7 hb37 hbz hbd
  go_wp2_with fail
  refine (HMX.out g3 T3 _ HQ9.out).mono ?_
  rintro e w10 ⟨⟨qx, rfl, hqx⟩, hk10'⟩
  clear x0 x1
  have hk10 : Kpt w9 w10 (fun k => w3.heap.size + 1 ≤ k ∧ k < w4.heap.size) := hk10'.mono (fun k _ hk => ⟨Nat.le_trans hg3' (HLX.out k hk).1, (HLX.out k hk).2⟩)
  have hq10 : ¬ qx < 0 := by omega
  have hqx0 : decide (qx < 0) = false := by simp; omega
  have HW10 : Hid (w10.heap[w3.heap.size]? = some (.cells #[.int .i64 nw, .slice a0 n0 c0] 30)) := (hk10.block w3.heap.size (by omega) (fun h => by omega)).trans HW9.out
  have HP10 : Hid (w10.heap[w.heap.size]? = some (.cells #[.int .i64 now, .slice aa L.length ca] 24)) := (hk10.block w.heap.size (by omega) (fun h => by omega)).trans HP9.out
  have HG10 : Hid (w10.heap[w6.heap.size]? = some (.cells #[.int .i64 nw, .slice a1 n1 c1] 30)) := (hk10.block w6.heap.size (by omega) (fun h => by omega)).trans HG9.out
  have HR110 : Hid (CRel w10 (w4.heap.size + 1) (.slice a1 n1 c1) M1) := HR19.out.kpt hk10 (fun k hk h => by have h1 := HLG.out k hk; omega)
  have hb310 : Below w3.heap.size w3 w10 := hb39.trans (hk10.below hb39.size (fun k hk h => by omega))
  have hbw10 : Below w.heap.size w w10 := hbw9.trans (hk10.below hbw9.size (fun k hk h => by omega))
  have hz910 : w9.heap.size ≤ w10.heap.size := hk10.size
  obtain ⟨c0', c1'⟩ := cch_cells HW10.out
  obtain ⟨d0, d1⟩ := cch_cells HG10.out
  clear hk10 hk10' HP9 HW9 HX9 HG9 HQ9 HR19 hb39 hbw9
  go_wp2_with fail
  refine (HEG.out _ _ _ (HRG.out _ M1 HR110.out HM1.out) (HRW.out _ hb310)).mono ?_
  rintro e w11 ⟨rfl, hb11⟩
  clear c0' c1' d0 d1
  have HP11 : Hid (w11.heap[w.heap.size]? = some (.cells #[.int .i64 now, .slice aa L.length ca] 24)) := (hb11.block w.heap.size (by omega)).trans HP10.out
  have HW11 : Hid (w11.heap[w3.heap.size]? = some (.cells #[.int .i64 nw, .slice a0 n0 c0] 30)) := (hb11.block w3.heap.size (by omega)).trans HW10.out
  have HG11 : Hid (w11.heap[w6.heap.size]? = some (.cells #[.int .i64 nw, .slice a1 n1 c1] 30)) := (hb11.block w6.heap.size (by omega)).trans HG10.out
  have HR111 : Hid (CRel w11 (w4.heap.size + 1) (.slice a1 n1 c1) M1) := HR110.out.kept hb11
  have hb311 : Below w3.heap.size w3 w11 := hb310.trans (hb11.mono hb310.size)
  have hbw11 : Below w.heap.size w w11 := hbw10.trans (hb11.mono hbw10.size)
  have hz1011 : w10.heap.size ≤ w11.heap.size := hb11.size
  obtain ⟨d0, d1⟩ := cch_cells HG11.out
  clear hb11 HP10 HW10 HG10 HR110 hb310 hbw10
  go_wp2_with fail
  refine (HMG.out _ HR111.out).mono ?_
  rintro e w12 ⟨rfl, hr12, hk12⟩
  clear d0 d1
  have HP12 : Hid (w12.heap[w.heap.size]? = some (.cells #[.int .i64 now, .slice aa L.length ca] 24)) := (hk12.block w.heap.size (by omega) (fun h => by have h1 := HLG.out _ h; omega)).trans HP11.out
  have HW12 : Hid (w12.heap[w3.heap.size]? = some (.cells #[.int .i64 nw, .slice a0 n0 c0] 30)) := (hk12.block w3.heap.size (by omega) (fun h => by have h1 := HLG.out _ h; omega)).trans HW11.out
  have HG12 : Hid (w12.heap[w6.heap.size]? = some (.cells #[.int .i64 nw, .slice a1 n1 c1] 30)) := (hk12.block w6.heap.size (by omega) (fun h => by have h1 := HLG.out _ h; omega)).trans HG11.out
  have hb312 : Below w3.heap.size w3 w12 := hb311.trans (hk12.below hb311.size (fun k hk h => by have h1 := HLG.out _ h; omega))
  have hbw12 : Below w.heap.size w w12 := hbw11.trans (hk12.below hbw11.size (fun k hk h => by have h1 := HLG.out _ h; omega))
  have hz1112 : w11.heap.size ≤ w12.heap.size := hk12.size
  have HR12 : Hid (CRel w12 (w4.heap.size + 1) (.slice a1 n1 c1) (markE 1 M1)) := hr12
  obtain ⟨d0, d1⟩ := cch_cells HG12.out
  clear hr12 hk12 HP11 HW11 HG11 HR111 hb311 hbw11
  go_wp2_with fail
  refine (HHG.out _ HR12.out).mono ?_
  rintro e w13 ⟨rfl, hb13⟩
  clear d0 d1
  have HP13 : Hid (w13.heap[w.heap.size]? = some (.cells #[.int .i64 now, .slice aa L.length ca] 24)) := (hb13.block w.heap.size (by omega)).trans HP12.out
  have HW13 : Hid (w13.heap[w3.heap.size]? = some (.cells #[.int .i64 nw, .slice a0 n0 c0] 30)) := (hb13.block w3.heap.size (by omega)).trans HW12.out
  have HG13 : Hid (w13.heap[w6.heap.size]? = some (.cells #[.int .i64 nw, .slice a1 n1 c1] 30)) := (hb13.block w6.heap.size (by omega)).trans HG12.out
  have HR13 : Hid (CRel w13 (w4.heap.size + 1) (.slice a1 n1 c1) (markE 1 M1)) := HR12.out.kept hb13
  have hb313 : Below w3.heap.size w3 w13 := hb312.trans (hb13.mono hb312.size)
  have hbw13 : Below w.heap.size w w13 := hbw12.trans (hb13.mono hbw12.size)
  have hz1213 : w12.heap.size ≤ w13.heap.size := hb13.size
  obtain ⟨p0, p1⟩ := cch_cells HP13.out
  clear hb13 HP12 HW12 HG12 HR12 hb312 hbw12
  go_wp2_with fail
  refine (HT.out _ hbw13).mono ?_
  rintro e w14 ⟨⟨g7, T7, rfl, _, hq14⟩, hb14⟩
  clear p0 p1
  have hbw14 : Below w.heap.size w w14 := hbw13.trans (hb14.mono hbw13.size)
  have HK14 : Hid (Below w13.heap.size w13 w14) := hb14
  have HQ14 : Hid (EOwn w14 g7 T7 L) := hq14
  clear hq14 hb14
  go_wp2_with fail
  refine (HI.out g7 T7 _ (hE.below hbw14) HQ14.out).mono ?_
  rintro e w15 ⟨⟨v2, M2, rfl, hB2, hM2⟩, hb15⟩
  have hR2 := ebld_crel hB2
  obtain ⟨a2, n2, c2, hv2⟩ := hR2.shape
  subst hv2
  have HR2 : Hid (∀ W, Below w15.heap.size w15 W → ERow W (.slice a2 n2 c2) K) := fun W hW => by have h := (hR2.kept hW).row; rw [hM2] at h; exact h
  have hb1315 : Below w13.heap.size w13 w15 := HK14.out.trans (hb15.mono HK14.out.size)
  have HW15 : Hid (w15.heap[w3.heap.size]? = some (.cells #[.int .i64 nw, .slice a0 n0 c0] 30)) := (hb1315.block w3.heap.size (by omega)).trans HW13.out
  have HG15 : Hid (w15.heap[w6.heap.size]? = some (.cells #[.int .i64 nw, .slice a1 n1 c1] 30)) := (hb1315.block w6.heap.size (by omega)).trans HG13.out
  have HR15 : Hid (CRel w15 (w4.heap.size + 1) (.slice a1 n1 c1) (markE 1 M1)) := HR13.out.kept hb1315
  have hb315 : Below w3.heap.size w3 w15 := hb313.trans (hb1315.mono hb313.size)
  have hbw15 : Below w.heap.size w w15 := hbw13.trans (hb1315.mono hbw13.size)
  have hz1315 : w13.heap.size ≤ w15.heap.size := hb1315.size
  have hlt315 : w3.heap.size < w15.heap.size := by omega
  obtain ⟨c0', c1'⟩ := cch_cells HW15.out
  clear hB2 hM2 hR2 hb15 hb1315 HK14 HP13 HW13 HG13 HR13 hb313 hbw13 hbw14 HQ14
  go_wp2_with fail
  refine (HEG.out _ _ _ (HR2.out _ ((Below.refl w15.heap.size w15).alloc (Nat.le_refl _) _)) (HRW.out _ (hb315.alloc hb315.size _))).mono ?_
  rintro e w16 ⟨rfl, hb16⟩
  clear c0' c1'
  have hb1516 : Below w15.heap.size w15 w16 := ((Below.refl w15.heap.size w15).alloc (Nat.le_refl _) _).trans (hb16.mono (by simp))
  have HG16 : Hid (w16.heap[w6.heap.size]? = some (.cells #[.int .i64 nw, .slice a1 n1 c1] 30)) := (hb1516.block w6.heap.size (by omega)).trans HG15.out
  have HR16 : Hid (CRel w16 (w4.heap.size + 1) (.slice a1 n1 c1) (markE 1 M1)) := HR15.out.kept hb1516
  have hbw16 : Below w.heap.size w w16 := hbw15.trans (hb1516.mono hbw15.size)
  obtain ⟨d0, d1⟩ := cch_cells HG16.out
  clear hb16 hb1516 HW15 HG15 HR15 hb315 hbw15
  go_wp2_with fail
  refine (HHG.out _ HR16.out).mono ?_
  rintro e w17 ⟨rfl, hb17⟩
  have hbw17 : Below w.heap.size w w17 := hbw16.trans (hb17.mono hbw16.size)
  clear d0 d1 hb17 hbw16
  go_wp2_with fail
  go_ret
  exact ⟨rfl, hbw17⟩

theorem wt_filter (p : EntT → Bool) : ∀ L : List EntT, wtE (L.filter p) ≤ wtE L
  | [] => Nat.le_refl _
  | x :: r => by
    have ih := wt_filter p r
    have e : wtE (x :: r) = wtE1 x + wtE r := by simp [wtE]
    rw [e]
    by_cases hp : p x = true
    · rw [List.filter_cons_of_pos hp]
      have e2 : wtE (x :: r.filter p) = wtE1 x + wtE (r.filter p) := by simp [wtE]
      omega
    · rw [List.filter_cons_of_neg hp]
      omega
theorem small_filter (b : Bool) (p : EntT → Bool) (L : List EntT) (h : L.length + wtE L ≤ 1048576) : (if b = true then L.filter p else []).length + wtE (if b = true then L.filter p else []) ≤ 4000000 ∧ ∀ x ∈ (if b = true then L.filter p else []), x.2.2.2.1.length ≤ 1048576 ∧ (if b = true then L.filter p else []).length ≤ 1048576 := by
  cases b with
  | false => exact ⟨by simp [wtE], fun x hx => by simp at hx⟩
  | true =>
    have h1 := wt_filter p L
    have h2 := List.length_filter_le p L
    simp only [if_true]
    refine ⟨by omega, fun x hx => ⟨?_, by omega⟩⟩
    have h3 := wtE_one (List.mem_filter.1 hx).1
    unfold wtE1 at h3
    omega

theorem walk (now : Int) (va : Value) (L : List EntT) (n : Int) (w : World) (ha : ERow w va L) (hxa : Hid (∀ x ∈ L, EFit x)) (_hs : -9223372036854775808 ≤ n ∧ n ≤ 9223372036854775807) (hE : EnvR w) :
    Calls Tryz.prog 6 #[CchV now va, .int .i64 n] w fun e w' => e = .returned (.bool true) ∧ Below w.heap.size w w' :=
  core now va L n _ _ _ _ w ha hxa hE (fun h => small_filter _ _ L h)
    (fun g T W h1 h2 q => sPassTime_any now _ L n W (q.row h2.out (Nat.le_refl _) (by unfold maxLen; omega)) h2 (eown_nil q))
    (fun g T W hW h1 h2 q => iPassTime_any now _ L n W (q.row h2.out (Nat.le_refl _) (by unfold maxLen; omega)) h2 hW)
end Go.Proofs.YtgfiahfoghnpkaaGreatDoor.passTime
