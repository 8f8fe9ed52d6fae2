import Derived.Test.YtgfiahfoghnpkaaGreatDoorZ49
import Derived.Test.YtgfiahfoghnpkaaGreatDoorZ19
import Derived.Test.YtgfiahfoghnpkaaGreatDoorZ45
import Derived.Deep.RegionHeld3
namespace Go.Proofs.YtgfiahfoghnpkaaGreatDoor
open Go.RowKit Go.Maps

theorem ERel.kpt {w w' : World} {base g : Nat} {M : List (EV × RecL)} {S : Nat → Prop} (h : ERel w base g M) (hk : Kpt w w' S) (hn : ∀ k, inE g M k → ¬ S k) : ERel w' base g M := by
  have hbl := hk.block g h.row.1 (hn g (.inl rfl))
  have hcell : ∀ c, w'.cell? ⟨g, c, none⟩ = w.cell? ⟨g, c, none⟩ := fun c => by simp only [World.cell?, hbl]
  have hfro : ∀ c, w'.frozen? ⟨g, c, none⟩ = w.frozen? ⟨g, c, none⟩ := fun c => by simp only [World.frozen?, hbl]
  refine ⟨⟨Nat.lt_of_lt_of_le h.row.1 hk.size, fun j hj => ?_⟩, fun p hp => (h.recs p hp).kpt hk (fun k hk2 => hn k (.inr ⟨p, hp, hk2⟩)), h.apart, h.off⟩
  obtain ⟨⟨c0, c1, c2, c3, c4, c5⟩, hf⟩ := h.row.2 j hj
  refine ⟨?_, fun r hr => by rw [hfro]; exact hf r hr⟩
  unfold Ent6
  simp only [hcell]
  exact ⟨c0, c1, c2, c3, c4, c5⟩
/-- The entries of a cache that may be written to, or none. -/
def CRel (w : World) (base : Nat) (v : Value) (M : List (EV × RecL)) : Prop := (v = .slice none 0 0 ∧ M = []) ∨ ∃ g cap, v = .slice (some ⟨g, 0, none⟩) M.length cap ∧ M.length ≤ cap ∧ cap ≤ maxLen ∧ base ≤ g ∧ ERel w base g M
/-- Their blocks. -/
def inC (v : Value) (M : List (EV × RecL)) (k : Nat) : Prop := v.ownBlock = some k ∨ ∃ p ∈ M, p.1.sl.ownBlock = some k
theorem CRel.kept {w w' : World} {base : Nat} {v : Value} {M : List (EV × RecL)} (h : CRel w base v M) (hb : Below w.heap.size w w') : CRel w' base v M := by
  rcases h with h | ⟨g, cap, h1, h2, h3, h4, h5⟩
  · exact .inl h
  · exact .inr ⟨g, cap, h1, h2, h3, h4, h5.kept hb⟩
theorem CRel.kpt {w w' : World} {base : Nat} {v : Value} {M : List (EV × RecL)} {S : Nat → Prop} (h : CRel w base v M) (hk : Kpt w w' S) (hn : ∀ k, inC v M k → ¬ S k) : CRel w' base v M := by
  rcases h with h | ⟨g, cap, h1, h2, h3, h4, h5⟩
  · exact .inl h
  · refine .inr ⟨g, cap, h1, h2, h3, h4, h5.kpt hk (fun k hk2 => hn k ?_)⟩
    rcases hk2 with h6 | h6
    · subst h6; exact .inl (by rw [h1]; rfl)
    · exact .inr h6
theorem CRel.lt {w : World} {base : Nat} {v : Value} {M : List (EV × RecL)} (h : CRel w base v M) : ∀ k, inC v M k → base ≤ k ∧ k < w.heap.size := by
  intro k hk
  rcases h with ⟨h1, h2⟩ | ⟨g, cap, h1, h2, h3, h4, h5⟩
  · subst h1 h2
    rcases hk with h | ⟨p, hp, _⟩
    · cases h
    · cases hp
  · rcases hk with h | ⟨p, hp, h⟩
    · rw [h1] at h
      have e : g = k := Option.some.inj h
      subst e
      exact ⟨h4, h5.row.1⟩
    · exact (h5.recs p hp).lt k h
theorem CRel.row {w : World} {base : Nat} {v : Value} {M : List (EV × RecL)} (h : CRel w base v M) : ERow w v (M.map conT) := by
  rcases h with ⟨h1, h2⟩ | ⟨g, cap, h1, h2, h3, h4, h5⟩
  · subst h1 h2
    exact ⟨none, 0, rfl, Nat.le_refl _, by unfold maxLen; omega, .inl rfl⟩
  · refine ⟨some ⟨g, 0, none⟩, cap, by rw [List.length_map]; exact h1, by rw [List.length_map]; exact h2, h3, .inr ⟨g, 0, rfl, h5.row.1, fun j hj => ?_⟩⟩
    have hj' : j < M.length := by simpa using hj
    have hq := (h5.row.2 j (by simpa using hj')).1
    rw [List.getElem_map] at hq
    rw [List.getElem_map, Nat.zero_add]
    obtain ⟨c0, c1, c2, c3, c4, c5⟩ := hq
    exact ⟨M[j].1.sl, ⟨c0, c1, c2, c3, c4, c5⟩, (h5.recs M[j] (List.getElem_mem hj')).row⟩
theorem CRel.shape {w : World} {base : Nat} {v : Value} {M : List (EV × RecL)} (h : CRel w base v M) : ∃ a n c, v = .slice a n c := by
  rcases h with ⟨h1, _⟩ | ⟨g, cap, h1, _⟩
  · exact ⟨_, _, _, h1⟩
  · exact ⟨_, _, _, h1⟩
theorem ebld_crel {w : World} {base : Nat} {v : Value} {M : List (EV × RecL)} (h : EBld w base v M) : CRel w base v M := ebld_rel h
theorem evL_len (T : Nat → Nat) (L : List EntT) : (evL T L).length = L.length := by simp [evL]
theorem eown_crel {w : World} {g : Nat} {T : Nat → Nat} {L : List EntT} (h : EOwn w g T L) (hx : ∀ x ∈ L, EBig x) (hl : L.length ≤ 1048576) : CRel w g (.slice (some ⟨g, 0, none⟩) L.length L.length) (evL T L) :=
  .inr ⟨g, L.length, by rw [evL_len], by rw [evL_len]; exact Nat.le_refl _, by unfold maxLen; omega, Nat.le_refl _, eown_rel h hx⟩
theorem markE_len : ∀ (K : Nat) (M : List (EV × RecL)), (markE K M).length = M.length
  | _, [] => rfl
  | K, x :: r => by rw [markE_cons, List.length_cons, List.length_cons, markE_len (K + 5 + 4 * x.2.length) r]
/-- As many marks as five for each entry, four for each record. -/
theorem totE_le : ∀ M : List (EV × RecL), totE M ≤ 5 * (M.length + wtE (M.map conT))
  | [] => by simp [totE]
  | x :: r => by
    have ih := totE_le r
    rw [totE_cons]
    have e : wtE ((x :: r).map conT) = wtE1 (conT x) + wtE (r.map conT) := by simp [wtE]
    rw [e]
    have e2 : x.2.length ≤ wtE1 (conT x) := by unfold wtE1 conT; simp only; omega
    simp only [List.length_cons]
    omega
theorem con_small {M : List (EV × RecL)} {K : List EntT} (h : M.map conT = K) (hK : K.length + wtE K ≤ 4000000 ∧ ∀ x ∈ K, x.2.2.2.1.length ≤ 1048576 ∧ K.length ≤ 1048576) : M.length ≤ 1048576 ∧ (∀ x ∈ M, x.2.length ≤ 1048576) ∧ totE M ≤ 200000000 := by
  have h1 : M.length = K.length := by rw [← h, List.length_map]
  have h2 := totE_le M
  rw [h] at h2
  refine ⟨?_, fun x hx => ?_, by omega⟩
  · cases K with
    | nil => rw [h1]; simp
    | cons k K => rw [h1]; exact (hK.2 k (by simp)).2
  · have h3 := (hK.2 (conT x) (by rw [← h]; exact List.mem_map.2 ⟨x, hx, rfl⟩)).1
    exact h3

set_option maxRecDepth 20000 in
set_option maxHeartbeats 1000000 in
theorem markEntryN_any (w : World) : Calls Tryz.prog 44 #[.slice none 0 0, .int .i64 1] w fun e w' => e = .returned (.int .i64 1) ∧ Below w.heap.size w w' := by
  go_enter Tryz.func44, Tryz.ntmps44
  go_wp2_with fail
  go_loopw [1, 5] (fun q i wr => i = .int .i64 0 ∧ q = .int .i64 1 ∧ Below w.heap.size w wr) (fun _ _ _ => 0)
  case atStart => exact ⟨rfl, rfl, Below.refl _ _⟩
  case round =>
    obtain ⟨rfl, rfl, hb⟩ := hrel
    go_wp2_with fail
    go_ret
    exact ⟨rfl, hb⟩
set_option maxRecDepth 20000 in
set_option maxHeartbeats 1000000 in
theorem heldEntryN_any (w : World) : Calls Tryz.prog 46 #[.slice none 0 0, .int .i64 1] w fun e w' => e = .returned (.int .i64 1) ∧ Below w.heap.size w w' := by
  go_enter Tryz.func46, Tryz.ntmps46
  go_wp2_with fail
  go_loopw [1, 5] (fun q i wr => i = .int .i64 0 ∧ q = .int .i64 1 ∧ Below w.heap.size w wr) (fun _ _ _ => 0)
  case atStart => exact ⟨rfl, rfl, Below.refl _ _⟩
  case round =>
    obtain ⟨rfl, rfl, hb⟩ := hrel
    go_wp2_with fail
    go_ret
    exact ⟨rfl, hb⟩
set_option maxRecDepth 20000 in
set_option maxHeartbeats 1000000 in
theorem markCacheN_any (now : Int) (w : World) : Calls Tryz.prog 16 #[.agg #[.int .i64 now, .slice none 0 0], .int .i64 1] w fun e w' => e = .returned (.int .i64 1) ∧ Below w.heap.size w w' := by
  go_enter Tryz.func16, Tryz.ntmps16
  go_wp2_with fail
  refine (markEntryN_any _).mono ?_
  rintro e w1 ⟨rfl, hb1⟩
  obtain ⟨_, hbw⟩ := box2c hb1
  go_wp2_with fail
  go_ret
  exact ⟨rfl, hbw⟩
theorem markCache_any (now : Int) (v : Value) (base : Nat) (M : List (EV × RecL)) (w : World) (h : CRel w base v M) (hM : M.length ≤ 1048576 ∧ (∀ x ∈ M, x.2.length ≤ 1048576) ∧ totE M ≤ 200000000) :
    Calls Tryz.prog 16 #[.agg #[.int .i64 now, v], .int .i64 1] w fun e w' => e = .returned (.int .i64 (1 + (totE M : Int))) ∧ CRel w' base v (markE 1 M) ∧ Kpt w w' (inC v M) := by
  rcases h with ⟨h1, h2⟩ | ⟨g, cap, h1, h2, h3, h4, h5⟩
  · subst h1 h2
    exact (markCacheN_any now w).mono fun e w' h => ⟨h.1, .inl ⟨rfl, rfl⟩, below_kpt0 h.2 _⟩
  · subst h1
    refine (markCacheG_any now g M.length cap base M w h5 rfl h2 h3 hM.1 hM.2.1 hM.2.2).mono fun e w' h => ⟨h.1, .inr ⟨g, cap, ?_, ?_, h3, h4, h.2.1⟩, h.2.2.mono (fun k _ hk => ?_)⟩
    · rw [markE_len]
    · rw [markE_len]; exact h2
    · rcases hk with hk | hk
      · subst hk; exact .inl rfl
      · exact .inr hk
set_option maxRecDepth 20000 in
set_option maxHeartbeats 1000000 in
theorem heldCacheN_any (now : Int) (w : World) : Calls Tryz.prog 18 #[.agg #[.int .i64 now, .slice none 0 0], .int .i64 1] w fun e w' => e = .returned (.int .i64 1) ∧ Below w.heap.size w w' := by
  go_enter Tryz.func18, Tryz.ntmps18
  go_wp2_with fail
  refine (heldEntryN_any _).mono ?_
  rintro e w1 ⟨rfl, hb1⟩
  obtain ⟨_, hbw⟩ := box2c hb1
  go_wp2_with fail
  go_ret
  exact ⟨rfl, hbw⟩
theorem heldCache_any (now : Int) (v : Value) (base : Nat) (M : List (EV × RecL)) (w : World) (h : CRel w base v (markE 1 M)) (hM : M.length ≤ 1048576 ∧ (∀ x ∈ M, x.2.length ≤ 1048576) ∧ totE M ≤ 200000000) :
    Calls Tryz.prog 18 #[.agg #[.int .i64 now, v], .int .i64 1] w fun e w' => e = .returned (.int .i64 (1 + (totE M : Int))) ∧ Below w.heap.size w w' := by
  rcases h with ⟨h1, h2⟩ | ⟨g, cap, h1, h2, h3, h4, h5⟩
  · have h2' : M = [] := by
      have h3 := markE_len 1 M
      rw [h2] at h3
      exact List.length_eq_zero_iff.1 h3.symm
    subst h1 h2'
    exact heldCacheN_any now w
  · subst h1
    rw [markE_len] at h2
    have h := heldCacheG_any now g M.length cap base M w h5 rfl hM.1 hM.2.1 hM.2.2
    rw [markE_len]
    exact h
end Go.Proofs.YtgfiahfoghnpkaaGreatDoor

namespace Go.Proofs.YtgfiahfoghnpkaaGreatDoor
open Go.RowKit Go.Maps

/-- The entry of the same name and type made another. -/
def upE (e f : EV) : EV := if f.nm = e.nm ∧ f.ty = e.ty then e else f
theorem upE_yes {e f : EV} (h : f.nm = e.nm ∧ f.ty = e.ty) : upE e f = e := if_pos h
theorem upE_no {e f : EV} (h : ¬ (f.nm = e.nm ∧ f.ty = e.ty)) : upE e f = f := if_neg h
theorem upE_key (e f : EV) : (upE e f).key = f.key := by
  by_cases h : f.nm = e.nm ∧ f.ty = e.ty
  · rw [upE_yes h]; unfold EV.key; rw [h.1, h.2]
  · rw [upE_no h]
set_option maxRecDepth 100000 in
theorem MapOf.upd {D : DataW EV} {L : List EV} (h : MapOf D L) {e : EV} (he : e.ok) (hm : ∃ f ∈ L, f.nm = e.nm ∧ f.ty = e.ty) : MapOf (D.put e.key (.held e)) (L.map (upE e)) := by
  have hk : WideAt.IsKeyLit e.key := key_is he
  obtain ⟨f0, hf0, hfe⟩ := hm
  have hk0 : f0.key = e.key := by unfold EV.key; rw [hfe.1, hfe.2]
  have hyes : Maps.has D e.key = true := (h.has _).2 ⟨f0, hf0, hk0⟩
  have hiff : ∀ f ∈ L, f.key = e.key ↔ (f.nm = e.nm ∧ f.ty = e.ty) := fun f hf => ⟨fun hh => keyL_inj (h.ok f hf) he hh, fun hh => by unfold EV.key; rw [hh.1, hh.2]⟩
  refine ⟨h.tidy.put hk _, fun g hg => ?_, ?_, fun kl => ?_, fun g hg z => ?_, ?_⟩
  · obtain ⟨f, hf, rfl⟩ := List.mem_map.1 hg
    by_cases hh : f.nm = e.nm ∧ f.ty = e.ty
    · rw [upE_yes hh]; exact he
    · rw [upE_no hh]; exact h.ok f hf
  · rw [List.pairwise_map]
    exact h.one.imp (fun hab => by rw [upE_key, upE_key]; exact hab)
  · by_cases hke : kl = e.key
    · subst hke
      rw [has_put_same h.tidy.isMap hk]
      exact ⟨fun _ => ⟨upE e f0, List.mem_map.2 ⟨f0, hf0, rfl⟩, (upE_key e f0).trans hk0⟩, fun _ => rfl⟩
    · rw [has_put_other hke, h.has]
      constructor
      · rintro ⟨f, hf, hfk⟩; exact ⟨upE e f, List.mem_map.2 ⟨f, hf, rfl⟩, (upE_key e f).trans hfk⟩
      · rintro ⟨g, hg, hgk⟩
        obtain ⟨f, hf, rfl⟩ := List.mem_map.1 hg
        exact ⟨f, hf, (upE_key e f).symm.trans hgk⟩
  · obtain ⟨f, hf, rfl⟩ := List.mem_map.1 hg
    rw [upE_key]
    by_cases hh : f.nm = e.nm ∧ f.ty = e.ty
    · rw [upE_yes hh, (hiff f hf).2 hh]
      exact atKey_put_same h.tidy.isMap hk _ _
    · rw [upE_no hh, atKey_put_other (fun hke => hh ((hiff f hf).1 hke))]
      exact h.at' f hf z
  · rw [size_put h.tidy, hyes, h.size]; simp
/-- The entry that is asked for. -/
def askP (nm : List UInt8) (ty : Int) (x : EntT) : Bool := x.1 == nm && x.2.1 == ty
/-- Used now. -/
def useT (now : Int) (x : EntT) : EntT := (x.1, x.2.1, x.2.2.1, x.2.2.2.1, x.2.2.2.2.1, now)
def askK (now : Int) (nm : List UInt8) (ty : Int) (L : List EntT) : List EntT := L.map (fun x => if askP nm ty x = true then useT now x else x)
/-- Records with another ttl. -/
def ttlR (d : Int) (r : List UInt8 × Int × Int × List UInt8) : List UInt8 × Int × Int × List UInt8 := (r.1, r.2.1, d, r.2.2.2)
/-- What is told of an entry at a time. -/
def tellE (now : Int) (x : EntT) : EntT := (x.1, x.2.1, x.2.2.1, x.2.2.2.1.map (ttlR (x.2.2.2.2.1 - now)), x.2.2.2.2.1, now)
def askF (nm : List UInt8) (ty : Int) (L : List EntT) : Option EntT := L.find? (askP nm ty)
theorem ttl_half (d : Int) (R : RecL) (k : Nat) (hk : k < R.length) : ((R.take k).map (ttlR d) ++ R.drop k).set k (ttlR d (R[k]'hk)) = (R.take (k + 1)).map (ttlR d) ++ R.drop (k + 1) := by
  have e1 : ((R.take k).map (ttlR d)).length = k := by simp; omega
  rw [List.set_append_right _ _ (by omega), e1, Nat.sub_self, List.drop_eq_getElem_cons hk, List.set_cons_zero, List.take_succ_eq_append_getElem hk, List.map_append, List.append_assoc]
  rfl
theorem ttl_at (d : Int) (R : RecL) (k : Nat) (hk : k < R.length) (h : k < ((R.take k).map (ttlR d) ++ R.drop k).length) : ((R.take k).map (ttlR d) ++ R.drop k)[k]'h = R[k]'hk := by
  have e1 : ((R.take k).map (ttlR d)).length = k := by simp; omega
  rw [List.getElem_append_right (by omega)]
  simp only [e1, Nat.sub_self]
  rw [List.getElem_drop]
  rfl
theorem ttl_len (d : Int) (R : RecL) (k : Nat) : ((R.take k).map (ttlR d) ++ R.drop k).length = R.length := by
  simp only [List.length_append, List.length_map, List.length_take, List.length_drop]; omega
end Go.Proofs.YtgfiahfoghnpkaaGreatDoor

namespace Go.Proofs.YtgfiahfoghnpkaaGreatDoor
open Go.RowKit Go.Maps

theorem results_cct {fn : Func} {p q z : Tmp} {ty t2 : TypeId} (h : fn.results = #[.cell p ty, .cell q t2, .tmp z]) (tmps : Array Value) (P : Program) (w : World) :
    (results fn tmps).run P w =
      ((asAddr (tmps.getD p undef)).run P w).andThen fun a w₁ => ((loadVar ty a).run P w₁).andThen fun v w₂ => ((asAddr (tmps.getD q undef)).run P w₂).andThen fun b w₃ => ((loadVar t2 b).run P w₃).andThen fun u w₄ => .ok (.tuple #[v, u, tmps.getD z undef]) w₄ := by
  simp only [results, h]
  simp [Sem.run_bind, Result.andThen]
/-- Two structs and a plain value, told. -/
theorem results_rrt {P : Program} {fn : Func} {p q z : Tmp} {ty t2 : TypeId} (h : fn.results = #[.cell p ty, .cell q t2, .tmp z]) (tmps : Array Value) (w : World) (g k : Nat) (t u : TypeId) (cs ds : Array Value) (fr fs : Nat × Nat) (d d2 : TypeDesc) (x : Value)
    (hp : tmps.getD p undef = .pointer (some ⟨g, 0, none⟩)) (hq : tmps.getD q undef = .pointer (some ⟨k, 0, none⟩)) (hz : tmps.getD z undef = x) (hg : w.heap[g]? = some (.cells cs t fr)) (hk : w.heap[k]? = some (.cells ds u fs))
    (hd0 : P.underlying ty = some d) (hd : (match d with | .struct _ | .array _ _ => true | _ => false) = true) (hi : (P.info? ty).map (·.size) = some cs.size)
    (he0 : P.underlying t2 = some d2) (he : (match d2 with | .struct _ | .array _ _ => true | _ => false) = true) (hj : (P.info? t2).map (·.size) = some ds.size) :
    (results fn tmps).run P w = .ok (.tuple #[.agg cs, .agg ds, x]) w := by
  have hp' : tmps[p]?.getD undef = .pointer (some ⟨g, 0, none⟩) := by simpa using hp
  have hq' : tmps[q]?.getD undef = .pointer (some ⟨k, 0, none⟩) := by simpa using hq
  have hz' : tmps[z]?.getD undef = x := by simpa using hz
  rw [results_cct h]
  simp [hp', hq', hz', asAddr, run_loadVar_row w g t ty cs fr d hg hd0 hd hi, run_loadVar_row w k u t2 ds fs d2 hk he0 he hj, Result.andThen]
/-- A cache, an entry and a bool, told. -/
def KTold (w : World) (base : Nat) (e : Ending) (ok : Bool) (now : Int) (K : List EntT) (x : EntT) : Prop :=
  ∃ v M a n c, e = .returned (.tuple #[.agg #[.int .i64 now, v], .agg #[.string ⟨x.1.toArray⟩, .int .i64 x.2.1, .bool x.2.2.1, .slice a n c, .int .i64 x.2.2.2.2.1, .int .i64 x.2.2.2.2.2], .bool ok]) ∧ CRel w base v M ∧ M.map conT = K ∧ OwnQ w base (.slice a n c) x.2.2.2.1 ∧ ∀ k, inC v M k → (Value.slice a n c).ownBlock ≠ some k
def zeT : EntT := ([], 0, false, [], 0, 0)
def askO (now : Int) (nm : List UInt8) (ty : Int) (L : List EntT) : Bool := goodC now L && (askF nm ty L).isSome
/-- What AskCache tells. -/
def KAns (w : World) (base : Nat) (e : Ending) (now : Int) (nm : List UInt8) (ty : Int) (L : List EntT) : Prop :=
  KTold w base e (askO now nm ty L) (if askO now nm ty L = true then now else 0) (if askO now nm ty L = true then askK now nm ty L else []) (if askO now nm ty L = true then tellE now ((askF nm ty L).getD zeT) else zeT)
theorem kans_no {w : World} {base : Nat} {now : Int} {nm : List UInt8} {ty : Int} {L : List EntT} (h : askO now nm ty L = false) : KAns w base (.returned (.tuple #[.agg #[.int .i64 0, .slice none 0 0], .agg #[.string ⟨#[]⟩, .int .i64 0, .bool false, .slice none 0 0, .int .i64 0, .int .i64 0], .bool false])) now nm ty L := by
  unfold KAns
  rw [h]
  exact ⟨_, [], none, 0, 0, rfl, .inl ⟨rfl, rfl⟩, rfl, .inl ⟨rfl, rfl⟩, fun k _ h => by cases h⟩
theorem kans_yes {w : World} {base : Nat} {now : Int} {nm : List UInt8} {ty : Int} {L : List EntT} {x : EntT} {v : Value} {M : List (EV × RecL)} {a : Option Addr} {n c : Nat} (hg : goodC now L = true) (hf : askF nm ty L = some x) (hb : CRel w base v M) (hm : M.map conT = askK now nm ty L) (ho : OwnQ w base (.slice a n c) (x.2.2.2.1.map (ttlR (x.2.2.2.2.1 - now)))) (hap : ∀ k, inC v M k → (Value.slice a n c).ownBlock ≠ some k) :
    KAns w base (.returned (.tuple #[.agg #[.int .i64 now, v], .agg #[.string ⟨x.1.toArray⟩, .int .i64 x.2.1, .bool x.2.2.1, .slice a n c, .int .i64 x.2.2.2.2.1, .int .i64 now], .bool true])) now nm ty L := by
  have h : askO now nm ty L = true := by unfold askO; rw [hg, hf]; rfl
  unfold KAns
  rw [h, hf]
  exact ⟨v, M, a, n, c, rfl, hb, hm, ho, hap⟩
end Go.Proofs.YtgfiahfoghnpkaaGreatDoor

namespace Go.Proofs.YtgfiahfoghnpkaaGreatDoor
open Go.RowKit Go.Maps

theorem blk_kept {W W' : World} {b : Nat} {o : Obj} (h : W.heap[b]? = some o) (hb : Below W.heap.size W W') : W'.heap[b]? = some o := (hb.block b (Array.getElem?_eq_some_iff.1 h).1).trans h
theorem blk_kpt {W W' : World} {b : Nat} {o : Obj} {S : Nat → Prop} (h : W.heap[b]? = some o) (hk : Kpt W W' S) (hn : ¬ S b) : W'.heap[b]? = some o := (hk.block b (Array.getElem?_eq_some_iff.1 h).1 hn).trans h
set_option maxRecDepth 20000 in
set_option maxHeartbeats 1000000 in
theorem markEntry_any (x0 x1 x2 x4 x5 : Value) (a : Option Addr) (n c : Nat) (X : RecL) (base KK : Nat) (w : World) (h : OwnQ w base (.slice a n c) X) (hX : X.length ≤ 1048576) (hK0 : 0 < KK) (hK : KK ≤ 1073741824) :
    Calls Tryz.prog 24 #[.agg #[x0, x1, x2, .slice a n c, x4, x5], .int .i64 (KK : Int)] w fun e w' => e = .returned (.int .i64 ((KK : Int) + 4 * (X.length : Int))) ∧ OwnQ w' base (.slice a n c) (mrks KK X.length) ∧ Kpt w w' (fun k => (Value.slice a n c).ownBlock = some k) := by
  have HM : Hid (∀ W, Below w.heap.size w W → Calls Tryz.prog 17 #[.slice a n c, .int .i64 (KK : Int)] W fun e w' => e = .returned (.int .i64 ((KK : Int) + 4 * (X.length : Int))) ∧ OwnQ w' base (.slice a n c) (mrks KK X.length) ∧ W.grownBy w' (Value.slice a n c).ownBlock) := fun W hW => markRecordS_any _ X base KK W (h.kept hW) hX hK0 hK
  obtain ⟨q, hq⟩ : ∃ q : Int, q = (KK : Int) + 4 * (X.length : Int) := ⟨_, rfl⟩
  obtain ⟨k0, hk0⟩ : ∃ q : Int, q = (KK : Int) := ⟨_, rfl⟩
  rw [← hq] at HM ⊢
  rw [← hk0] at HM ⊢
  clear hq hk0
  go_enter Tryz.func24, Tryz.ntmps24
  go_wp2_with fail
  refine (HM.out _ ((Below.refl w.heap.size w).alloc (Nat.le_refl _) _)).mono ?_
  rintro e w1 ⟨rfl, ho1, hg1⟩
  have HO1 : Hid (OwnQ w1 base (.slice a n c) (mrks KK X.length)) := ho1
  have HK1 : Hid (Kpt w w1 (fun k => (Value.slice a n c).ownBlock = some k)) := (kpt_alloc w _ _).trans (grown_kpt hg1)
  clear ho1 hg1
  go_wp2_with fail
  go_ret
  exact ⟨rfl, HO1.out, HK1.out⟩
set_option maxRecDepth 20000 in
set_option maxHeartbeats 1000000 in
theorem heldEntry_any (x0 x1 x2 x4 x5 : Value) (a : Option Addr) (n c : Nat) (m KK : Nat) (w : World) (h : RRow w (.slice a n c) (mrks KK m)) (hX : m ≤ 1048576) (hK0 : 0 < KK) (hK : KK ≤ 1073741824) :
    Calls Tryz.prog 25 #[.agg #[x0, x1, x2, .slice a n c, x4, x5], .int .i64 (KK : Int)] w fun e w' => e = .returned (.int .i64 ((KK : Int) + 4 * (m : Int))) ∧ Below w.heap.size w w' := by
  have HM : Hid (∀ W, Below w.heap.size w W → Calls Tryz.prog 55 #[.slice a n c, .int .i64 (KK : Int)] W fun e w' => e = .returned (.int .i64 ((KK : Int) + 4 * (m : Int))) ∧ Below W.heap.size W w') := fun W hW => heldRecordS_any _ m KK W (h.kept hW) hX hK0 hK
  obtain ⟨q, hq⟩ : ∃ q : Int, q = (KK : Int) + 4 * (m : Int) := ⟨_, rfl⟩
  obtain ⟨k0, hk0⟩ : ∃ q : Int, q = (KK : Int) := ⟨_, rfl⟩
  have hq0 : decide (q < 0) = false := by simp; omega
  rw [← hq] at HM ⊢
  rw [← hk0] at HM ⊢
  clear hq hk0
  go_enter Tryz.func25, Tryz.ntmps25
  go_wp2_with fail
  refine (HM.out _ ((Below.refl w.heap.size w).alloc (Nat.le_refl _) _)).mono ?_
  rintro e w1 ⟨rfl, hb1⟩
  have hbw : Below w.heap.size w w1 := ((Below.refl w.heap.size w).alloc (Nat.le_refl _) _).trans (hb1.mono (by simp))
  clear hb1
  go_wp2_with fail
  go_ret
  exact ⟨rfl, hbw⟩
end Go.Proofs.YtgfiahfoghnpkaaGreatDoor

namespace Go.Proofs.YtgfiahfoghnpkaaGreatDoor
open Go.RowKit Go.Maps

set_option maxRecDepth 20000 in
set_option maxHeartbeats 4000000 in
theorem entryToldAt_any (now : Int) (x : EV) (R : RecL) (w : World) (hr : RRow w (.slice x.a x.n x.c) R) (hl : R.length ≤ 1048576) (hx : Hid (∀ r ∈ R, r.1.length ≤ 1048576 ∧ r.2.2.2.length ≤ 1048576)) (hnm : x.nm.size ≤ 1048576) (hd : 1 ≤ x.un - now ∧ x.un - now ≤ 100000) :
    Calls Tryz.prog 54 #[.int .i64 now, .agg #[.string x.nm, .int .i64 x.ty, .bool x.no, .slice x.a x.n x.c, .int .i64 x.un, .int .i64 x.us]] w fun e w' => ∃ a n c, e = .returned (.agg #[.string x.nm, .int .i64 x.ty, .bool x.no, .slice a n c, .int .i64 x.un, .int .i64 x.us]) ∧ OwnQ w' w.heap.size (.slice a n c) (R.map (ttlR (x.un - now))) ∧ Below w.heap.size w w' := by
  have wd : IntKind.i64.wrap (x.un - now) = x.un - now := wrap_small _ (by omega) (by omega)
  obtain ⟨d, hdd⟩ : ∃ d, d = x.un - now := ⟨_, rfl⟩
  have HD : Hid (x.un - now = d) := hdd.symm
  have HWD : Hid (IntKind.i64.wrap (x.un - now) = d) := by rw [wd]; exact hdd.symm
  rw [← hdd]
  clear hdd wd hd
  have HCE : Hid (∀ W, Below w.heap.size w W → Calls Tryz.prog 80 #[.agg #[.string x.nm, .int .i64 x.ty, .bool x.no, .slice x.a x.n x.c, .int .i64 x.un, .int .i64 x.us]] W fun e w' => ∃ a n c, e = .returned (.agg #[.string x.nm, .int .i64 x.ty, .bool x.no, .slice a n c, .int .i64 x.un, .int .i64 x.us]) ∧ OwnQ w' W.heap.size (.slice a n c) R ∧ Below W.heap.size W w') := fun W hW => copyEntry_any x R W (hr.kept hW) hl hx hnm
  obtain ⟨W0, hW0⟩ : ∃ W0, W0 = (w.alloc (.cells #[.string x.nm, .int .i64 x.ty, .bool x.no, .slice x.a x.n x.c, .int .i64 x.un, .int .i64 x.us] 44)).alloc (.cells #[.string ⟨#[]⟩, .int .i64 0, .bool false, .slice none 0 0, .int .i64 0, .int .i64 0] 44) := ⟨_, rfl⟩
  have HW0 : Hid ((w.alloc (.cells #[.string x.nm, .int .i64 x.ty, .bool x.no, .slice x.a x.n x.c, .int .i64 x.un, .int .i64 x.us] 44)).alloc (.cells #[.string ⟨#[]⟩, .int .i64 0, .bool false, .slice none 0 0, .int .i64 0, .int .i64 0] 44) = W0) := hW0.symm
  have hs1 : (w.alloc (.cells #[.string x.nm, .int .i64 x.ty, .bool x.no, .slice x.a x.n x.c, .int .i64 x.un, .int .i64 x.us] 44)).heap.size = w.heap.size + 1 := by simp
  have HP0 : Hid (EBox W0 w.heap.size (.string x.nm) (.int .i64 x.ty) (.bool x.no) (.slice x.a x.n x.c) (.int .i64 x.un) (.int .i64 x.us)) := by rw [hW0]; exact (ebox_new w).kpt (kpt_alloc _ _ (fun _ => False)) id
  have HQ0 : Hid (EBox W0 (w.heap.size + 1) (.string ⟨#[]⟩) (.int .i64 0) (.bool false) (.slice none 0 0) (.int .i64 0) (.int .i64 0)) := by
    rw [hW0]
    have h := ebox_new (w.alloc (.cells #[.string x.nm, .int .i64 x.ty, .bool x.no, .slice x.a x.n x.c, .int .i64 x.un, .int .i64 x.us] 44)) (v0 := .string ⟨#[]⟩) (v1 := .int .i64 0) (v2 := .bool false) (v3 := .slice none 0 0) (v4 := .int .i64 0) (v5 := .int .i64 0)
    rw [hs1] at h
    exact h
  have hb0 : Below w.heap.size w W0 := by rw [hW0]; exact ((Below.refl _ _).alloc (Nat.le_refl _) _).alloc (by simp) _
  have hz0 : w.heap.size + 1 < W0.heap.size := HQ0.out.lt
  clear hW0 hs1 hr
  go_enter Tryz.func54, Tryz.ntmps54
  obtain ⟨c0, c1, c2, c3, c4, c5⟩ := HP0.out.cells
  go_wp2_with fail
  rw [HW0.out]
  clear c0 c1 c2 c3 c4 c5
  refine (HCE.out _ hb0).mono ?_
  rintro e w1 ⟨a, n, c, rfl, ho1, hb1⟩
  have HP1 : Hid (EBox w1 w.heap.size (.string x.nm) (.int .i64 x.ty) (.bool x.no) (.slice x.a x.n x.c) (.int .i64 x.un) (.int .i64 x.us)) := HP0.out.kept hb1
  have HQ1 : Hid (EBox w1 (w.heap.size + 1) (.string ⟨#[]⟩) (.int .i64 0) (.bool false) (.slice none 0 0) (.int .i64 0) (.int .i64 0)) := HQ0.out.kept hb1
  have hbw1 : Below w.heap.size w w1 := hb0.trans (hb1.mono hb0.size)
  obtain ⟨W2, hW2⟩ : ∃ W2, W2 = w1.alloc (.cells #[.string x.nm, .int .i64 x.ty, .bool x.no, .slice a n c, .int .i64 x.un, .int .i64 x.us] 44) := ⟨_, rfl⟩
  have HW2 : Hid (w1.alloc (.cells #[.string x.nm, .int .i64 x.ty, .bool x.no, .slice a n c, .int .i64 x.un, .int .i64 x.us] 44) = W2) := hW2.symm
  obtain ⟨g5, hg5⟩ : ∃ g, g = w1.heap.size := ⟨_, rfl⟩
  have HG5 : Hid (w1.heap.size = g5) := hg5.symm
  have hgg : w.heap.size + 1 < g5 := by rw [hg5]; exact HQ1.out.lt
  have HT2 : Hid (EBox W2 g5 (.string x.nm) (.int .i64 x.ty) (.bool x.no) (.slice a n c) (.int .i64 x.un) (.int .i64 x.us)) := by rw [hW2, hg5]; exact ebox_new w1
  have hba : Below w1.heap.size w1 W2 := by rw [hW2]; exact (Below.refl _ _).alloc (Nat.le_refl _) _
  have HP2 : Hid (EBox W2 w.heap.size (.string x.nm) (.int .i64 x.ty) (.bool x.no) (.slice x.a x.n x.c) (.int .i64 x.un) (.int .i64 x.us)) := HP1.out.kept hba
  have HQ2 : Hid (EBox W2 (w.heap.size + 1) (.string ⟨#[]⟩) (.int .i64 0) (.bool false) (.slice none 0 0) (.int .i64 0) (.int .i64 0)) := HQ1.out.kept hba
  have hbw2 : Below w.heap.size w W2 := hbw1.trans (hba.mono hbw1.size)
  have HO2 : Hid (OwnQ W2 W0.heap.size (.slice a n c) R) := ho1.kept hba
  have HLT : Hid (∀ k, (Value.slice a n c).ownBlock = some k → W0.heap.size ≤ k ∧ k < g5) := fun k hk => by rw [hg5]; exact ho1.lt k hk
  obtain ⟨ar, cr, her, hcr⟩ := ho1.shape
  injection her with e1 e2 e3
  have hnR : n = R.length := e2
  have HNR : Hid (n = R.length) := hnR
  have hn1 : n ≤ 1048576 := by omega
  clear hW2 hg5 hba hbw1 ho1 hb1 HP0 HQ0 HP1 HQ1 e1 e2 e3 hnR HCE
  obtain ⟨c0, c1, c2, c3, c4, c5⟩ := HT2.out.cells
  go_wp2_with fail
  rw [HW2.out, HG5.out]
  clear c0 c1 c2 c3 c4 c5
  go_loopw [12] (fun i wr => ∃ k : Nat, k ≤ n ∧ i = .int .i64 (k : Int) ∧ Hid (OwnQ wr W0.heap.size (.slice a n c) ((R.take k).map (ttlR d) ++ R.drop k)) ∧ Hid (Kpt W2 wr (fun j => (Value.slice a n c).ownBlock = some j))) (fun i _ => n - (intOf i).toNat)
  case atStart => exact ⟨0, Nat.zero_le _, rfl, HO2.out, Kpt.refl _ _⟩
  case round =>
    obtain ⟨k, hk, rfl, HO, HK⟩ := hrel
    have HTr : Hid (EBox wr g5 (.string x.nm) (.int .i64 x.ty) (.bool x.no) (.slice a n c) (.int .i64 x.un) (.int .i64 x.us)) := HT2.out.kpt HK.out (fun h => by have := HLT.out _ h; omega)
    have HPr : Hid (EBox wr w.heap.size (.string x.nm) (.int .i64 x.ty) (.bool x.no) (.slice x.a x.n x.c) (.int .i64 x.un) (.int .i64 x.us)) := HP2.out.kpt HK.out (fun h => by have := HLT.out _ h; omega)
    by_cases hlt : k < n
    · have hkR : k < R.length := by rw [← HNR.out]; exact hlt
      rcases HO.out with ⟨_, hn0⟩ | ⟨g, cap, hs, hc1, hc2, hc3, hq⟩
      · exfalso
        have h1 := ttl_len d R k
        rw [hn0] at h1
        simp at h1
        omega
      · rw [ttl_len] at hs hc1
        injection hs with e1 e2 e3
        subst e1
        subst e3
        have hgl := HLT.out g rfl
        have hlen : k < ((R.take k).map (ttlR d) ++ R.drop k).length := by rw [ttl_len]; exact hkR
        have hat := hq.2 k hlen
        rw [ttl_at d R k hkR hlen] at hat
        obtain ⟨⟨r0, r1, r2, r3⟩, hfz⟩ := hat
        have hfz2 : wr.frozen? ⟨g, k * 4 + 2, none⟩ = false := hfz.2.2.1
        have HQ3 : Hid (OwnQ (wr.setCell ⟨g, k * 4 + 2, none⟩ (.int .i64 d)) W0.heap.size (.slice (some ⟨g, 0, none⟩) n c) ((R.take (k + 1)).map (ttlR d) ++ R.drop (k + 1))) := by
          have h1 := hq.set2 k hlen d
          rw [ttl_at d R k hkR hlen] at h1
          have h2 : QRow (wr.setCell ⟨g, k * 4 + 2, none⟩ (.int .i64 d)) g ((R.take (k + 1)).map (ttlR d) ++ R.drop (k + 1)) := by rw [← ttl_half d R k hkR]; exact h1
          exact .inr ⟨g, c, by rw [ttl_len, HNR.out], by rw [ttl_len]; exact hc1, hc2, hc3, h2⟩
        have HK3 : Hid (Kpt W2 (wr.setCell ⟨g, k * 4 + 2, none⟩ (.int .i64 d)) (fun j => (Value.slice (some ⟨g, 0, none⟩) n c).ownBlock = some j)) := HK.out.trans (kpt_set wr g _ _ rfl)
        have hki : (k : Int) < (n : Int) := by omega
        obtain ⟨c0, c1, c2, c3, c4, c5⟩ := HTr.out.cells
        obtain ⟨p0, p1, p2, p3, p4, p5⟩ := HPr.out.cells
        have hd1 := HD.out
        have hd2 := HWD.out
        have hd3 : IntKind.i64.wrap d = d := by rw [hd1] at hd2; exact hd2
        have hgw : g < wr.heap.size := hq.1
        clear hq hfz hlen r0 r1 r3 e2
        go_wp2_with fail
        go_roundw
        case rel => exact ⟨k + 1, by omega, by go_num, HQ3, HK3⟩
        case measure => simp [intOf]; omega
    · have HOF : Hid (OwnQ wr W0.heap.size (.slice a n c) (R.map (ttlR d))) := by
        have h := HO.out
        have hkn : ¬ k < R.length := by rw [← HNR.out]; exact hlt
        rw [List.take_of_length_le (by omega), List.drop_of_length_le (by omega), List.append_nil] at h
        exact h
      have HQr : Hid (EBox wr (w.heap.size + 1) (.string ⟨#[]⟩) (.int .i64 0) (.bool false) (.slice none 0 0) (.int .i64 0) (.int .i64 0)) := HQ2.out.kpt HK.out (fun h => by have := HLT.out _ h; omega)
      have hbr : Below w.heap.size w wr := hbw2.trans (HK.out.below hbw2.size (fun j hj h => by have := HLT.out _ h; omega))
      have HBR : Hid (Below w.heap.size w wr) := hbr
      obtain ⟨c0, c1, c2, c3, c4, c5⟩ := HTr.out.cells
      obtain ⟨q0, q1, q2, q3, q4, q5⟩ := HQr.out.cells
      obtain ⟨s0, s1, s2, s3, s4, s5⟩ := HQr.out.free
      clear hbr HO
      go_wp2_with fail
      (try simp only [Exit.inBlock, Exit.then])
      refine bodyPost_ret (results_cell_row rfl _ _ (w.heap.size + 1) 44 #[.string x.nm, .int .i64 x.ty, .bool x.no, .slice a n c, .int .i64 x.un, .int .i64 x.us] (0, 0) _ rfl (HQr.out.put _ _ _ _ _ _) Tryz.underlying44 rfl (by kernel_rfl)) rfl ⟨a, n, c, rfl, ?_, ?_⟩
      · exact (HOF.out.kpt (put6e_kpt wr (w.heap.size + 1) _ _ _ _ _ _) (fun k hk h => by have := HLT.out k hk; omega)).base (by omega)
      · exact HBR.out.trans ((put6e_kpt wr (w.heap.size + 1) _ _ _ _ _ _).below HBR.out.size (fun j hj h => by omega))
end Go.Proofs.YtgfiahfoghnpkaaGreatDoor

namespace Go.Proofs.YtgfiahfoghnpkaaGreatDoor
open Go.RowKit Go.Maps

/-- The entry asked for, among those of a good cache. -/
theorem ask_ev {now : Int} {L : List EntT} {E : List EV} {nm : ByteArray} {ty : Int} (hm : E.map (fun e => conT (e, rcOf L e)) = L) (hk : E.Pairwise (fun e f => e.key ≠ f.key)) {e : EV} (he : e ∈ E) (h1 : e.nm = nm) (h2 : e.ty = ty) :
    askF nm.data.toList ty L = some (conT (e, rcOf L e)) ∧ (E.map (upE { e with us := now })).map (fun f => conT (f, rcOf L f)) = askK now nm.data.toList ty L := by
  have hone : ∀ f ∈ E, f.nm = nm → f.ty = ty → f = e := fun f hf g1 g2 => by
    obtain ⟨i, hi, rfl⟩ := List.mem_iff_getElem.1 hf
    obtain ⟨j, hj, rfl⟩ := List.mem_iff_getElem.1 he
    have hkk : (E[i]).key = (E[j]).key := by unfold EV.key; rw [g1, g2, h1, h2]
    rcases Nat.lt_trichotomy i j with h | h | h
    · exact absurd hkk (List.pairwise_iff_getElem.1 hk i j hi hj h)
    · subst h; rfl
    · exact absurd hkk.symm (List.pairwise_iff_getElem.1 hk j i hj hi h)
  have hP : ∀ f : EV, askP nm.data.toList ty (conT (f, rcOf L f)) = true ↔ (f.nm = nm ∧ f.ty = ty) := fun f => by
    unfold askP conT
    simp only [Bool.and_eq_true, beq_iff_eq]
    constructor
    · rintro ⟨g1, g2⟩; exact ⟨data_eq g1, g2⟩
    · rintro ⟨g1, g2⟩; exact ⟨by rw [g1], g2⟩
  constructor
  · unfold askF
    rw [← hm]
    cases hF : (E.map (fun e => conT (e, rcOf L e))).find? (askP nm.data.toList ty) with
    | none =>
      have := List.find?_eq_none.1 hF (conT (e, rcOf L e)) (List.mem_map.2 ⟨e, he, rfl⟩)
      exact absurd ((hP e).2 ⟨h1, h2⟩) this
    | some y =>
      have hy := List.mem_of_find?_eq_some hF
      have hp := List.find?_some hF
      obtain ⟨f, hf, rfl⟩ := List.mem_map.1 hy
      have hq := (hP f).1 hp
      rw [hone f hf hq.1 hq.2]
      rw [hm]
  · unfold askK
    rw [show L.map (fun x => if askP nm.data.toList ty x = true then useT now x else x) = (E.map (fun e => conT (e, rcOf L e))).map (fun x => if askP nm.data.toList ty x = true then useT now x else x) by rw [hm], List.map_map, List.map_map]
    apply List.map_congr_left
    intro f hf
    show conT (upE { e with us := now } f, rcOf L (upE { e with us := now } f)) = if askP nm.data.toList ty (conT (f, rcOf L f)) = true then useT now (conT (f, rcOf L f)) else conT (f, rcOf L f)
    by_cases hh : f.nm = nm ∧ f.ty = ty
    · have hfe := hone f hf hh.1 hh.2
      subst hfe
      have hu : upE { f with us := now } f = { f with us := now } := upE_yes ⟨rfl, rfl⟩
      rw [if_pos ((hP f).2 hh), hu]
      rfl
    · have hu : upE { e with us := now } f = f := upE_no (fun h => hh ⟨h.1.trans h1, h.2.trans h2⟩)
      rw [if_neg (fun h => hh ((hP f).1 h)), hu]
theorem ask_none {L : List EntT} {E : List EV} {nm : ByteArray} {ty : Int} (hm : E.map (fun e => conT (e, rcOf L e)) = L) (h : ∀ e ∈ E, ¬ (e.nm = nm ∧ e.ty = ty)) : askF nm.data.toList ty L = none := by
  unfold askF
  rw [← hm, List.find?_eq_none]
  intro x hx
  obtain ⟨f, hf, rfl⟩ := List.mem_map.1 hx
  intro hp
  unfold askP conT at hp
  simp only [Bool.and_eq_true, beq_iff_eq] at hp
  exact h f hf ⟨data_eq hp.1, hp.2⟩
theorem zero_ent (w : World) : (zeroValue 44).run Tryz.prog w = .ok (entV ⟨ByteArray.empty, 0, false, none, 0, 0, 0, 0⟩) w := by
  kernel_rfl

set_option maxRecDepth 20000 in
set_option maxHeartbeats 16000000 in
theorem iAskCache_any (now : Int) (v : Value) (L : List EntT) (nm : ByteArray) (ty : Int) (w : World) (hr : ERow w v L) (hx : Hid (∀ x ∈ L, EBig x)) (hn : nm.size ≤ 1048576) (hty : -9223372036854775808 ≤ ty ∧ ty ≤ 9223372036854775807) (hE : EnvR w) :
    Calls Tryz.prog 22 #[CchV now v, .string nm, .int .i64 ty] w fun e w' => KAns w' w.heap.size e now nm.data.toList ty L ∧ Below w.heap.size w w' := by
  have HG : Hid (∀ W, Below w.heap.size w W → Calls Tryz.prog 38 #[CchV now v] W fun e w' => e = .returned (.bool (goodC now L)) ∧ Below W.heap.size W w') := fun W hW => iGoodCache_any now v L W (hr.kept hW) hx (hE.below hW)
  have HEV : Hid (goodC now L = true → ∃ E : List EV, EVRow w v E ∧ E.map (fun e => conT (e, rcOf L e)) = L ∧ (∀ e ∈ E, e.ok) ∧ E.Pairwise (fun e f => e.key ≠ f.key) ∧ (∀ e ∈ E, nameB e.nm.data.toList = true) ∧ E.Pairwise (fun x y => cmpE x y < 0) ∧ E.length ≤ 20 ∧ (∀ e ∈ E, RRow w e.sl (rcOf L e) ∧ (rcOf L e).length ≤ 1048576 ∧ (∀ r ∈ rcOf L e, r.1.length ≤ 1048576 ∧ r.2.2.2.length ≤ 1048576) ∧ e.nm.size ≤ 1048576)) := fun h => good_ev hr hx.out h
  have HNOG : Hid (goodC now L = false → ∀ W b, KAns W b (.returned (.tuple #[.agg #[.int .i64 0, .slice none 0 0], .agg #[.string ⟨#[]⟩, .int .i64 0, .bool false, .slice none 0 0, .int .i64 0, .int .i64 0], .bool false])) now nm.data.toList ty L) := fun h W b => kans_no (by unfold askO; rw [h]; rfl)
  have HNOF : Hid (askF nm.data.toList ty L = none → ∀ W b, KAns W b (.returned (.tuple #[.agg #[.int .i64 0, .slice none 0 0], .agg #[.string ⟨#[]⟩, .int .i64 0, .bool false, .slice none 0 0, .int .i64 0, .int .i64 0], .bool false])) now nm.data.toList ty L) := fun h W b => kans_no (by unfold askO; rw [h]; simp)
  obtain ⟨a, cap, rfl, hcap, hmax, _⟩ := erow_value hr
  unfold CchV at HG ⊢
  obtain ⟨W0, hW0⟩ : ∃ W0, W0 = ((w.alloc (.cells #[.int .i64 now, .slice a L.length cap] 30)).alloc (.cells #[.int .i64 0, .slice none 0 0] 30)).alloc (.cells #[.string ⟨#[]⟩, .int .i64 0, .bool false, .slice none 0 0, .int .i64 0, .int .i64 0] 44) := ⟨_, rfl⟩
  have HW0 : Hid (((w.alloc (.cells #[.int .i64 now, .slice a L.length cap] 30)).alloc (.cells #[.int .i64 0, .slice none 0 0] 30)).alloc (.cells #[.string ⟨#[]⟩, .int .i64 0, .bool false, .slice none 0 0, .int .i64 0, .int .i64 0] 44) = W0) := hW0.symm
  have hs1 : (w.alloc (.cells #[.int .i64 now, .slice a L.length cap] 30)).heap.size = w.heap.size + 1 := by simp
  have hs2 : ((w.alloc (.cells #[.int .i64 now, .slice a L.length cap] 30)).alloc (.cells #[.int .i64 0, .slice none 0 0] 30)).heap.size = w.heap.size + 1 + 1 := by simp
  have HC0 : Hid (CBox W0 w.heap.size (.int .i64 now) (.slice a L.length cap)) := by rw [hW0]; exact ((cbox_new w).kpt (kpt_alloc _ _ (fun _ => False)) id).kpt (kpt_alloc _ _ (fun _ => False)) id
  have HR0 : Hid (CBox W0 (w.heap.size + 1) (.int .i64 0) (.slice none 0 0)) := by
    rw [hW0]
    have h := cbox_new (w.alloc (.cells #[.int .i64 now, .slice a L.length cap] 30)) (v0 := .int .i64 0) (v1 := .slice none 0 0)
    rw [hs1] at h
    exact h.kpt (kpt_alloc _ _ (fun _ => False)) id
  have HT0 : Hid (EBox W0 (w.heap.size + 1 + 1) (.string ⟨#[]⟩) (.int .i64 0) (.bool false) (.slice none 0 0) (.int .i64 0) (.int .i64 0)) := by
    rw [hW0]
    have h := ebox_new ((w.alloc (.cells #[.int .i64 now, .slice a L.length cap] 30)).alloc (.cells #[.int .i64 0, .slice none 0 0] 30)) (v0 := .string ⟨#[]⟩) (v1 := .int .i64 0) (v2 := .bool false) (v3 := .slice none 0 0) (v4 := .int .i64 0) (v5 := .int .i64 0)
    rw [hs2] at h
    exact h
  have hb0 : Below w.heap.size w W0 := by rw [hW0]; exact (((Below.refl _ _).alloc (Nat.le_refl _) _).alloc (by simp) _).alloc (by simp; omega) _
  have hz0 : w.heap.size + 1 + 1 < W0.heap.size := HT0.out.lt
  clear hW0 hs1 hs2 hr
  obtain ⟨gb, hgb⟩ : ∃ gb, gb = goodC now L := ⟨_, rfl⟩
  have HGB : Hid (gb = goodC now L) := hgb
  rw [← hgb] at HG HEV HNOG
  clear hgb
  go_enter Tryz.func22, Tryz.ntmps22
  obtain ⟨c0, c1⟩ := HC0.out.cells
  go_wp2_with fail
  rw [HW0.out]
  clear c0 c1
  refine (HG.out _ hb0).mono ?_
  rintro e w1 ⟨rfl, hb1⟩
  have hbw1 : Below w.heap.size w w1 := hb0.trans (hb1.mono hb0.size)
  have HC1 : Hid (CBox w1 w.heap.size (.int .i64 now) (.slice a L.length cap)) := HC0.out.kept hb1
  have HR1 : Hid (CBox w1 (w.heap.size + 1) (.int .i64 0) (.slice none 0 0)) := HR0.out.kept hb1
  have HT1 : Hid (EBox w1 (w.heap.size + 1 + 1) (.string ⟨#[]⟩) (.int .i64 0) (.bool false) (.slice none 0 0) (.int .i64 0) (.int .i64 0)) := HT0.out.kept hb1
  have hz1 : W0.heap.size ≤ w1.heap.size := hb1.size
  clear hb1 HC0 HR0 HT0 HG
  cases gb with
  | false =>
    have HF := HNOG.out rfl
    clear HEV HNOF HNOG
    obtain ⟨d0, d1⟩ := HR1.out.cells
    obtain ⟨f0, f1⟩ := HR1.out.free
    obtain ⟨q0, q1, q2, q3, q4, q5⟩ := HT1.out.cells
    obtain ⟨s0, s1, s2, s3, s4, s5⟩ := HT1.out.free
    go_wp2_with fail
    (try simp only [Exit.inBlock, Exit.then])
    have hkc : Kpt w1 ((w1.setCell ⟨w.heap.size + 1, 0, none⟩ (.int .i64 0)).setCell ⟨w.heap.size + 1, 1, none⟩ (.slice none 0 0)) (· = w.heap.size + 1) := (kpt_set w1 (w.heap.size + 1) 0 _ (S := (· = w.heap.size + 1)) rfl).trans (kpt_set _ (w.heap.size + 1) 1 _ rfl)
    have hke := put6e_kpt ((w1.setCell ⟨w.heap.size + 1, 0, none⟩ (.int .i64 0)).setCell ⟨w.heap.size + 1, 1, none⟩ (.slice none 0 0)) (w.heap.size + 1 + 1) (.string ⟨#[]⟩) (.int .i64 0) (.bool false) (.slice none 0 0) (.int .i64 0) (.int .i64 0)
    have hz9 : ((w1.setCell ⟨w.heap.size + 1, 0, none⟩ (.int .i64 0)).setCell ⟨w.heap.size + 1, 1, none⟩ (.slice none 0 0)).heap.size = w1.heap.size := by simp
    refine bodyPost_ret (results_rrt rfl _ _ (w.heap.size + 1) (w.heap.size + 1 + 1) 30 44 #[.int .i64 0, .slice none 0 0] #[.string ⟨#[]⟩, .int .i64 0, .bool false, .slice none 0 0, .int .i64 0, .int .i64 0] (0, 0) (0, 0) _ _ (.bool false) rfl rfl rfl (((HR1.out.set0 _).set1 _).kpt hke (by omega)) ((HT1.out.kpt hkc (by omega)).put (.string ⟨#[]⟩) (.int .i64 0) (.bool false) (.slice none 0 0) (.int .i64 0) (.int .i64 0)) Tryz.underlying30 rfl (by kernel_rfl) Tryz.underlying44 rfl (by kernel_rfl)) rfl ⟨HF _ _, (hbw1.trans (hkc.below hbw1.size (fun j hj h => by omega))).trans (hke.below (by rw [hz9]; exact hbw1.size) (fun j hj h => by omega))⟩
  | true =>
    obtain ⟨E, hEr, hEm, hEok, hEk, hEn, hEs, hEl, hErc⟩ := HEV.out rfl
    have HGD : Hid (goodC now L = true) := HGB.out.symm
    have HEM : Hid (E.map (fun e => conT (e, rcOf L e)) = L) := hEm
    have HER : Hid (∀ W, Below w.heap.size w W → EVRow W (.slice a L.length cap) E) := fun W hW => by
      obtain ⟨a', cap', hv, q1, q2, q3⟩ := hEr
      refine ⟨a', cap', hv, q1, q2, fun h0 => ?_⟩
      obtain ⟨b, o, ha, hbl, hc⟩ := q3 h0
      exact ⟨b, o, ha, Nat.lt_of_lt_of_le hbl hW.size, fun j hj => (hc j hj).kept hW hbl⟩
    have HOK : Hid (∀ e ∈ E, e.ok) := hEok
    have HKY : Hid (E.Pairwise (fun e f => e.key ≠ f.key)) := hEk
    have HNA : Hid (∀ e ∈ E, nameB e.nm.data.toList = true) := hEn
    have HRS : Hid (E.Pairwise (fun x y => cmpE x y < 0)) := hEs
    have HRC : Hid (∀ e ∈ E, RRow w e.sl (rcOf L e) ∧ (rcOf L e).length ≤ 1048576 ∧ (∀ r ∈ rcOf L e, r.1.length ≤ 1048576 ∧ r.2.2.2.length ≤ 1048576) ∧ e.nm.size ≤ 1048576) := hErc
    clear hEr hEm hEok hEk hEn hEs hErc HEV HNOG HGB
    obtain ⟨W1, hW1⟩ : ∃ W1, W1 = w1.alloc (.cells #[.string nm, .int .i64 ty] 75) := ⟨_, rfl⟩
    have HW1 : Hid (w1.alloc (.cells #[.string nm, .int .i64 ty] 75) = W1) := hW1.symm
    obtain ⟨g9, hg9⟩ : ∃ g, g = w1.heap.size := ⟨_, rfl⟩
    have HG9 : Hid (w1.heap.size = g9) := hg9.symm
    have hg9' : w.heap.size + 1 + 1 < g9 := by omega
    have HO9 : Hid (W1.heap[g9]? = some (.cells #[.string nm, .int .i64 ty] 75) ∧ W1.heap.size = g9 + 1) := by rw [hW1, hg9]; exact ⟨blk_new _ _, by simp⟩
    have hba : Below w1.heap.size w1 W1 := by rw [hW1]; exact (Below.refl _ _).alloc (Nat.le_refl _) _
    have hbwA : Below w.heap.size w W1 := hbw1.trans (hba.mono hbw1.size)
    have HCA : Hid (CBox W1 w.heap.size (.int .i64 now) (.slice a L.length cap)) := HC1.out.kept hba
    have HRA : Hid (CBox W1 (w.heap.size + 1) (.int .i64 0) (.slice none 0 0)) := HR1.out.kept hba
    have HTA : Hid (EBox W1 (w.heap.size + 1 + 1) (.string ⟨#[]⟩) (.int .i64 0) (.bool false) (.slice none 0 0) (.int .i64 0) (.int .i64 0)) := HT1.out.kept hba
    obtain ⟨c0, c1⟩ := HC1.out.cells
    have hlw1 : w.heap.size < w1.heap.size := HC1.out.lt
    clear hW1 hg9 hba HC1 HR1 HT1
    go_wp2_with fail
    rw [HW1.out, HG9.out]
    clear c0 c1
    refine (entriesOf_any now _ E _ (HER.out _ hbwA) HOK HKY (by omega)).mono ?_
    rintro e w2 ⟨B, Dm, rfl, hB, ho2, hM2, hb2⟩
    have hbw2 : Below w.heap.size w w2 := hbwA.trans (hb2.mono hbwA.size)
    have HC2 : Hid (CBox w2 w.heap.size (.int .i64 now) (.slice a L.length cap)) := HCA.out.kept hb2
    have HR2 : Hid (CBox w2 (w.heap.size + 1) (.int .i64 0) (.slice none 0 0)) := HRA.out.kept hb2
    have HT2 : Hid (EBox w2 (w.heap.size + 1 + 1) (.string ⟨#[]⟩) (.int .i64 0) (.bool false) (.slice none 0 0) (.int .i64 0) (.int .i64 0)) := HTA.out.kept hb2
    have HO92 : Hid (w2.heap[g9]? = some (.cells #[.string nm, .int .i64 ty] 75)) := (hb2.block g9 (by have := HO9.out.2; omega)).trans HO9.out.1
    have hB9 : g9 < B := by have := HO9.out.2; omega
    have HO2 : Hid (w2.ownsMap Tryz.prog 75 elE B E.length Dm) := ho2
    have HM2 : Hid (MapOf Dm E) := hM2
    have hz2 : W1.heap.size ≤ w2.heap.size := hb2.size
    have hgw2 : g9 < w2.heap.size := by have := HO9.out.2; omega
    have hBw2 : B < w2.heap.size := ho2.lt
    have hown := ho2
    have hkey : keyOf Tryz.prog 75 (.agg #[.string nm, .int .i64 ty]) = some (keyL nm ty) := key_of (by unfold maxLen; omega) hty.1 hty.2
    obtain ⟨k0, k1⟩ := box2k HO92.out
    clear ho2 hM2 hb2 HCA HRA HTA HO9
    go_wp2_with (first | (at_lookup; refine wpList_lookup_own_ok _ rfl _ _ 79 rfl 75 44 keyed map_entry elE (zero_ent _) (.held ⟨ByteArray.empty, 0, false, none, 0, 0, 0, 0⟩) [] (elE_mk _) B E.length Dm rfl hown _ _ rfl hkey ?_))
    intro vv ps hv
    obtain ⟨e0, he0, hps⟩ := elE_inv _ _ hv
    have hat : Dm.atKey (keyL nm ty) (.held ⟨ByteArray.empty, 0, false, none, 0, 0, 0, 0⟩) = .held e0 := congrArg Prod.fst hps
    subst he0
    unfold entV
    clear k0 k1 hv hps hown
    by_cases hf : ∃ e ∈ E, e.nm = nm ∧ e.ty = ty
    case neg =>
      have hno : Maps.has Dm (keyL nm ty) = false := by
        cases hh : Maps.has Dm (keyL nm ty) with
        | false => rfl
        | true =>
          obtain ⟨f, hfm, hfk⟩ := (HM2.out.has _).1 hh
          have hfo := HOK.out f hfm
          have h1 := key_of hfo.1 hfo.2.1 hfo.2.2
          have h2 := hkey
          rw [show keyL f.nm f.ty = keyL nm ty from hfk] at h1
          exact absurd ⟨f, hfm, keyV_inj (keyed.inj h1 h2)⟩ hf
      have HF := HNOF.out (ask_none HEM.out (fun e he h => hf ⟨e, he, h⟩))
      rw [hno]
      obtain ⟨W3, hW3⟩ : ∃ W, W = w2.alloc (.cells #[.string e0.nm, .int .i64 e0.ty, .bool e0.no, .slice e0.a e0.n e0.c, .int .i64 e0.un, .int .i64 e0.us] 44) := ⟨_, rfl⟩
      have HW3 : Hid (w2.alloc (.cells #[.string e0.nm, .int .i64 e0.ty, .bool e0.no, .slice e0.a e0.n e0.c, .int .i64 e0.un, .int .i64 e0.us] 44) = W3) := hW3.symm
      have hba : Below w2.heap.size w2 W3 := by rw [hW3]; exact (Below.refl _ _).alloc (Nat.le_refl _) _
      have hbw3 : Below w.heap.size w W3 := hbw2.trans (hba.mono hbw2.size)
      have HR3 : Hid (CBox W3 (w.heap.size + 1) (.int .i64 0) (.slice none 0 0)) := HR2.out.kept hba
      have HT3 : Hid (EBox W3 (w.heap.size + 1 + 1) (.string ⟨#[]⟩) (.int .i64 0) (.bool false) (.slice none 0 0) (.int .i64 0) (.int .i64 0)) := HT2.out.kept hba
      clear hW3 hba HC2 HR2 HT2 HM2 HO2 hat hno hf HNOF
      obtain ⟨d0, d1⟩ := HR3.out.cells
      obtain ⟨f0, f1⟩ := HR3.out.free
      obtain ⟨q0, q1, q2, q3, q4, q5⟩ := HT3.out.cells
      obtain ⟨s0, s1, s2, s3, s4, s5⟩ := HT3.out.free
      have HZS : Hid (w.heap.size + 1 + 1 < W3.heap.size) := HT3.out.lt
      rw [← HW3.out] at d0 d1 f0 f1 q0 q1 q2 q3 q4 q5 s0 s1 s2 s3 s4 s5
      clear hz0 hz1 hz2 hgw2 hBw2 hB9 hg9' hlw1
      go_wp2_with fail
      rw [HW3.out]
      (try simp only [Exit.inBlock, Exit.then])
      have hkc : Kpt W3 ((W3.setCell ⟨w.heap.size + 1, 0, none⟩ (.int .i64 0)).setCell ⟨w.heap.size + 1, 1, none⟩ (.slice none 0 0)) (· = w.heap.size + 1) := (kpt_set W3 (w.heap.size + 1) 0 _ (S := (· = w.heap.size + 1)) rfl).trans (kpt_set _ (w.heap.size + 1) 1 _ rfl)
      have hke := put6e_kpt ((W3.setCell ⟨w.heap.size + 1, 0, none⟩ (.int .i64 0)).setCell ⟨w.heap.size + 1, 1, none⟩ (.slice none 0 0)) (w.heap.size + 1 + 1) (.string ⟨#[]⟩) (.int .i64 0) (.bool false) (.slice none 0 0) (.int .i64 0) (.int .i64 0)
      have hz9 : ((W3.setCell ⟨w.heap.size + 1, 0, none⟩ (.int .i64 0)).setCell ⟨w.heap.size + 1, 1, none⟩ (.slice none 0 0)).heap.size = W3.heap.size := by simp
      refine bodyPost_ret (results_rrt rfl _ _ (w.heap.size + 1) (w.heap.size + 1 + 1) 30 44 #[.int .i64 0, .slice none 0 0] #[.string ⟨#[]⟩, .int .i64 0, .bool false, .slice none 0 0, .int .i64 0, .int .i64 0] (0, 0) (0, 0) _ _ (.bool false) rfl rfl rfl (((HR3.out.set0 _).set1 _).kpt hke (by omega)) ((HT3.out.kpt hkc (by omega)).put (.string ⟨#[]⟩) (.int .i64 0) (.bool false) (.slice none 0 0) (.int .i64 0) (.int .i64 0)) Tryz.underlying30 rfl (by kernel_rfl) Tryz.underlying44 rfl (by kernel_rfl)) rfl ⟨HF _ _, (hbw3.trans (hkc.below hbw3.size (fun j hj h => by omega))).trans (hke.below (by rw [hz9]; exact hbw3.size) (fun j hj h => by omega))⟩
    case pos =>
      obtain ⟨ef, hef, hfn, hft⟩ := hf
      have hyes : Maps.has Dm (keyL nm ty) = true := (HM2.out.has _).2 ⟨ef, hef, by unfold EV.key; rw [hfn, hft]⟩
      have h0 := HM2.out.at' ef hef (.held ⟨ByteArray.empty, 0, false, none, 0, 0, 0, 0⟩)
      have hee : e0 = ef := by
        have h1 : Dm.atKey (keyL nm ty) (.held ⟨ByteArray.empty, 0, false, none, 0, 0, 0, 0⟩) = .held ef := by
          have e1 : ef.key = keyL nm ty := by unfold EV.key; rw [hfn, hft]
          rw [← e1]; exact h0
        rw [h1] at hat
        injection hat with h2
        exact h2.symm
      subst hee
      rw [hyes]
      have HASK := ask_ev (now := now) HEM.out HKY.out hef hfn hft
      have HFE : Hid (askF nm.data.toList ty L = some (conT (e0, rcOf L e0))) := HASK.1
      have HKE : Hid ((E.map (upE { e0 with us := now })).map (fun f => conT (f, rcOf L f)) = askK now nm.data.toList ty L) := HASK.2
      have HTIME : Hid (1 ≤ e0.un - now ∧ e0.un - now ≤ 100000) := by
        have hmem : conT (e0, rcOf L e0) ∈ L := by have h9 := (List.mem_map (f := fun e => conT (e, rcOf L e))).2 ⟨e0, hef, rfl⟩; rw [HEM.out] at h9; exact h9
        obtain ⟨j, hj, hje⟩ := List.getElem_of_mem hmem
        have h2 := (goodC_facts HGD.out).2.2 j hj
        rw [hje] at h2
        unfold entB timeB conT at h2
        simp only [Bool.and_eq_true, decide_eq_true_eq] at h2
        show _ ∧ _
        omega
      have hrc := HRC.out e0 hef
      obtain ⟨x, hxe⟩ : ∃ x : EV, x = { e0 with us := now } := ⟨_, rfl⟩
      have HXE : Hid (x = { e0 with us := now }) := hxe
      have hxo : x.ok := by rw [hxe]; exact HOK.out e0 hef
      have HUPD : Hid (MapOf (Dm.put x.key (.held x)) (E.map (upE x))) := HM2.out.upd hxo ⟨e0, hef, by rw [hxe], by rw [hxe]⟩
      have HXK : Hid (keyL nm ty = x.key) := by rw [hxe]; show keyL nm ty = keyL e0.nm e0.ty; rw [hfn, hft]
      obtain ⟨W3, hW3⟩ : ∃ W, W = w2.alloc (.cells #[.string e0.nm, .int .i64 e0.ty, .bool e0.no, .slice e0.a e0.n e0.c, .int .i64 e0.un, .int .i64 e0.us] 44) := ⟨_, rfl⟩
      have HW3 : Hid (w2.alloc (.cells #[.string e0.nm, .int .i64 e0.ty, .bool e0.no, .slice e0.a e0.n e0.c, .int .i64 e0.un, .int .i64 e0.us] 44) = W3) := hW3.symm
      obtain ⟨g11, hg11⟩ : ∃ g, g = w2.heap.size := ⟨_, rfl⟩
      have HG11 : Hid (w2.heap.size = g11) := hg11.symm
      have hba : Below w2.heap.size w2 W3 := by rw [hW3]; exact (Below.refl _ _).alloc (Nat.le_refl _) _
      have hbw3 : Below w.heap.size w W3 := hbw2.trans (hba.mono hbw2.size)
      have HC3 : Hid (CBox W3 w.heap.size (.int .i64 now) (.slice a L.length cap)) := HC2.out.kept hba
      have HR3 : Hid (CBox W3 (w.heap.size + 1) (.int .i64 0) (.slice none 0 0)) := HR2.out.kept hba
      have HT3 : Hid (EBox W3 (w.heap.size + 1 + 1) (.string ⟨#[]⟩) (.int .i64 0) (.bool false) (.slice none 0 0) (.int .i64 0) (.int .i64 0)) := HT2.out.kept hba
      have HE3 : Hid (EBox W3 g11 (.string e0.nm) (.int .i64 e0.ty) (.bool e0.no) (.slice e0.a e0.n e0.c) (.int .i64 e0.un) (.int .i64 e0.us)) := by rw [hW3, hg11]; exact ebox_new w2
      have HO93 : Hid (W3.heap[g9]? = some (.cells #[.string nm, .int .i64 ty] 75)) := (hba.block g9 hgw2).trans HO92.out
      have HO3 : Hid (W3.ownsMap Tryz.prog 75 elE B E.length Dm) := by rw [hW3]; exact HO2.out.alloc _
      have hg11' : B < g11 := by omega
      obtain ⟨W4, hW4⟩ : ∃ W, W = w2.alloc (.cells #[.string e0.nm, .int .i64 e0.ty, .bool e0.no, .slice e0.a e0.n e0.c, .int .i64 e0.un, .int .i64 now] 44) := ⟨_, rfl⟩
      have HW4 : Hid (w2.alloc (.cells #[.string e0.nm, .int .i64 e0.ty, .bool e0.no, .slice e0.a e0.n e0.c, .int .i64 e0.un, .int .i64 now] 44) = W4) := hW4.symm
      have HSZ : Hid (w.heap.size + 1 + 1 < g9 ∧ g9 < B ∧ B < g11 ∧ W4.heap.size = g11 + 1) := ⟨hg9', hB9, hg11', by rw [hW4, hg11]; simp⟩
      have hk4 : Below w2.heap.size w2 W4 := by rw [hW4]; exact (Below.refl _ _).alloc (Nat.le_refl _) _
      have HC4 : Hid (CBox W4 w.heap.size (.int .i64 now) (.slice a L.length cap)) := HC2.out.kept hk4
      have HR4 : Hid (CBox W4 (w.heap.size + 1) (.int .i64 0) (.slice none 0 0)) := HR2.out.kept hk4
      have HT4 : Hid (EBox W4 (w.heap.size + 1 + 1) (.string ⟨#[]⟩) (.int .i64 0) (.bool false) (.slice none 0 0) (.int .i64 0) (.int .i64 0)) := HT2.out.kept hk4
      have HE4 : Hid (EBox W4 g11 (.string x.nm) (.int .i64 x.ty) (.bool x.no) (.slice x.a x.n x.c) (.int .i64 x.un) (.int .i64 x.us)) := by rw [hW4, hxe, hg11]; exact ebox_new w2
      have hown4 := HO2.out.alloc (.cells #[.string e0.nm, .int .i64 e0.ty, .bool e0.no, .slice e0.a e0.n e0.c, .int .i64 e0.un, .int .i64 now] 44)
      have HBW4 : Hid (Below w.heap.size w W4) := hbw2.trans (hk4.mono hbw2.size)
      have hval : elE (.agg #[.string e0.nm, .int .i64 e0.ty, .bool e0.no, .slice e0.a e0.n e0.c, .int .i64 e0.un, .int .i64 now]) = some (.held x, []) := by rw [hxe]; exact elE_mk { e0 with us := now }
      have HO94 : Hid (W4.heap[g9]? = some (.cells #[.string nm, .int .i64 ty] 75)) := (hk4.block g9 hgw2).trans HO92.out
      obtain ⟨c0, c1⟩ := HC3.out.cells
      obtain ⟨k0, k1⟩ := box2k HO94.out
      rw [← HW3.out] at c0 c1
      rw [← HW4.out] at k0 k1
      have hmx : E.length < maxLen := by unfold maxLen; omega
      have hne9 : ¬ w2.heap.size = g9 := by omega
      have hnew : ¬ w2.heap.size = w.heap.size := by omega
      clear hz0 hz1 hz2 hgw2 hBw2 hB9 hg9' hlw1 hg11' hW3 hg11 hW4 hba hk4 HC2 HR2 HT2 HO92 HC3 HR3 HT3 HE3 HO93 HO3 HO2 HO94 hat hyes h0 HASK hbw3 HNOF HER hfn hft hxe
      go_wp2_with (first | (at_mapUpdate; refine wpList_mapUpdate_own _ rfl _ _ _ 79 rfl 75 44 keyed map_entry elE B E.length Dm rfl hown4 hmx _ _ (keyL nm ty) rfl rfl hkey (.held x) [] hval ?_))
      intro w5 hown5 hgrow5
      rw [HW4.out] at hgrow5
      clear c0 c1 k0 k1 hne9 hnew hown4
      have hk5 := grown_kpt hgrow5
      have hsB := HSZ.out
      have hz45 : W4.heap.size ≤ w5.heap.size := hk5.size
      have HC5 : Hid (CBox w5 w.heap.size (.int .i64 now) (.slice a L.length cap)) := HC4.out.kpt hk5 (fun h => by have := Option.some.inj h; omega)
      have HR5 : Hid (CBox w5 (w.heap.size + 1) (.int .i64 0) (.slice none 0 0)) := HR4.out.kpt hk5 (fun h => by have := Option.some.inj h; omega)
      have HT5 : Hid (EBox w5 (w.heap.size + 1 + 1) (.string ⟨#[]⟩) (.int .i64 0) (.bool false) (.slice none 0 0) (.int .i64 0) (.int .i64 0)) := HT4.out.kpt hk5 (fun h => by have := Option.some.inj h; omega)
      have HE5 : Hid (EBox w5 g11 (.string x.nm) (.int .i64 x.ty) (.bool x.no) (.slice x.a x.n x.c) (.int .i64 x.un) (.int .i64 x.us)) := HE4.out.kpt hk5 (fun h => by have := Option.some.inj h; omega)
      have HBW5 : Hid (Below w.heap.size w w5) := HBW4.out.trans (hk5.below HBW4.out.size (fun j hj h => by have := Option.some.inj h; omega))
      have HO5 : Hid (w5.ownsMap Tryz.prog 75 elE B (E.length + 1) (Dm.put x.key (.held x))) := by rw [← HXK.out]; exact hown5
      have HLE : Hid (w.heap.size + 1 + 1 < w5.heap.size) := HT5.out.lt
      have HCO : Hid (∀ W, Below w5.heap.size w5 W → Calls Tryz.prog 53 #[.int .i64 now, .map (some B)] W fun e w' => ∃ v M, e = .returned (.agg #[.int .i64 now, v]) ∧ EBld w' W.heap.size v M ∧ M.map conT = askK now nm.data.toList ty L ∧ Below W.heap.size W w') := fun W hW => by
        have hWw : Below w.heap.size w W := HBW5.out.trans (hW.mono HBW5.out.size)
        have hup : ∀ f ∈ E, (upE x f).nm = f.nm ∧ (upE x f).ty = f.ty := fun f _ => by
          by_cases hh : f.nm = x.nm ∧ f.ty = x.ty
          · rw [upE_yes hh]; exact ⟨hh.1.symm, hh.2.symm⟩
          · rw [upE_no hh]; exact ⟨rfl, rfl⟩
        have hsl : ∀ f ∈ E, (upE x f).sl = f.sl ∨ (upE x f = x) := fun f _ => by
          by_cases hh : f.nm = x.nm ∧ f.ty = x.ty
          · rw [upE_yes hh]; exact .inr rfl
          · rw [upE_no hh]; exact .inl rfl
        refine (cacheOf_any now B (E.length + 1) (Dm.put x.key (.held x)) (E.map (upE x)) (rcOf L) W (hE.below hWw).1 (ownsMap_below HO5.out hW) HUPD (fun z hz => ?_) ?_ (by simp; omega) (fun z hz => ?_)).mono fun e w' h => ?_
        · obtain ⟨f, hf, rfl⟩ := List.mem_map.1 hz
          rw [(hup f hf).1]; exact HNA.out f hf
        · show ((E.map (upE x)).Pairwise (fun x y => cmpE x y < 0))
          rw [List.pairwise_map]
          refine List.Pairwise.imp_of_mem (fun {p q} hp hq h => ?_) HRS.out
          unfold cmpE at h ⊢
          rw [(hup p hp).1, (hup p hp).2, (hup q hq).1, (hup q hq).2]
          exact h
        · obtain ⟨f, hf, rfl⟩ := List.mem_map.1 hz
          rcases hsl f hf with h1 | h1
          · have h2 := HRC.out f hf
            have e1 : rcOf L (upE x f) = rcOf L f := by unfold rcOf; rw [(hup f hf).1, (hup f hf).2]
            rw [h1, e1, (hup f hf).1]
            exact ⟨h2.1.kept hWw, h2.2⟩
          · have h2 := HRC.out e0 hef
            rw [h1, HXE.out]
            exact ⟨h2.1.kept hWw, h2.2⟩
        · obtain ⟨v', M', h1, h2, h3, h4⟩ := h
          refine ⟨v', M', h1, h2, ?_, h4⟩
          rw [h3, HXE.out]
          exact HKE.out
      have HTL : Hid (∀ W, Below w.heap.size w W → Calls Tryz.prog 54 #[.int .i64 now, .agg #[.string x.nm, .int .i64 x.ty, .bool x.no, .slice x.a x.n x.c, .int .i64 x.un, .int .i64 x.us]] W fun e w' => ∃ a n c, e = .returned (.agg #[.string x.nm, .int .i64 x.ty, .bool x.no, .slice a n c, .int .i64 x.un, .int .i64 x.us]) ∧ OwnQ w' W.heap.size (.slice a n c) ((rcOf L e0).map (ttlR (x.un - now))) ∧ Below W.heap.size W w') := fun W hW => by
        have h2 := HRC.out e0 hef
        refine entryToldAt_any now x (rcOf L e0) W ?_ h2.2.1 h2.2.2.1 ?_ ?_
        · rw [HXE.out]; exact h2.1.kept hW
        · rw [HXE.out]; exact h2.2.2.2
        · rw [HXE.out]; exact HTIME.out
      clear hgrow5 hk5 hown5 HC4 HR4 HT4 HE4 HBW4 hval hkey hrc hxo
      go_wp2_with fail
      rw [HG11.out]
      have HSD : CBox w5.drew w.heap.size (.int .i64 now) (.slice a L.length cap) ∧ EBox w5.drew g11 (.string x.nm) (.int .i64 x.ty) (.bool x.no) (.slice x.a x.n x.c) (.int .i64 x.un) (.int .i64 x.us) := ⟨HC5.out, HE5.out⟩
      refine wp_region_noPanic ?_
      refine wp_region_held_drew (S := fun W : World => CBox W w.heap.size (.int .i64 now) (.slice a L.length cap) ∧ EBox W g11 (.string x.nm) (.int .i64 x.ty) (.bool x.no) (.slice x.a x.n x.c) (.int .i64 x.un) (.int .i64 x.us)) (by kernel_rfl) HSD (fun hHeld => ?_)
      refine wpAnyH_take (i := 0) (v := .pointer (some ⟨w.heap.size, 0, none⟩)) rfl (by kernel_rfl) (by kernel_rfl) (by kernel_rfl) (fun _ _ _ h => h) (Or.inl ⟨by rfl, ?_⟩) (by assumption) ?_
      · intro W hSW
        go_simp
      simp only [Act.put, List.getElem_toArray, List.getElem_cons_zero, List.setIfInBounds_toArray, List.set_cons_succ, List.set_cons_zero]
      refine wpAnyH_take (i := 1) (v := .int .i64 now) rfl (by kernel_rfl) (by kernel_rfl) (by kernel_rfl) (fun _ _ _ h => h) (Or.inl ⟨by rfl, ?_⟩) (by assumption) ?_
      · intro W hSW
        obtain ⟨z0, z1⟩ := hSW.1.cells
        go_simp
      simp only [Act.put, List.getElem_toArray, List.getElem_cons_succ, List.getElem_cons_zero, List.setIfInBounds_toArray, List.set_cons_succ, List.set_cons_zero]
      refine wpAnyH_take (i := 2) (v := .map (some B)) rfl (by kernel_rfl) (by kernel_rfl) (by kernel_rfl) (fun _ _ _ h => h) (Or.inl ⟨by rfl, ?_⟩) (by assumption) ?_
      · intro W hSW
        go_simp
      simp only [Act.put, List.getElem_toArray, List.getElem_cons_succ, List.getElem_cons_zero, List.setIfInBounds_toArray, List.set_cons_succ, List.set_cons_zero]
      refine wpAnyH_take (i := 4) (v := .pointer (some ⟨w.heap.size, 0, none⟩)) rfl (by kernel_rfl) (by kernel_rfl) (by kernel_rfl) (fun _ _ _ h => h) (Or.inl ⟨by rfl, ?_⟩) (by assumption) ?_
      · intro W hSW
        go_simp
      simp only [Act.put, List.getElem_toArray, List.getElem_cons_succ, List.getElem_cons_zero, List.setIfInBounds_toArray, List.set_cons_succ, List.set_cons_zero]
      refine wpAnyH_take (i := 5) (v := .int .i64 now) rfl (by kernel_rfl) (by kernel_rfl) (by kernel_rfl) (fun _ _ _ h => h) (Or.inl ⟨by rfl, ?_⟩) (by assumption) ?_
      · intro W hSW
        obtain ⟨z0, z1⟩ := hSW.1.cells
        go_simp
      simp only [Act.put, List.getElem_toArray, List.getElem_cons_succ, List.getElem_cons_zero, List.setIfInBounds_toArray, List.set_cons_succ, List.set_cons_zero]
      refine wpAnyH_take (i := 6) (v := .agg #[.string x.nm, .int .i64 x.ty, .bool x.no, .slice x.a x.n x.c, .int .i64 x.un, .int .i64 x.us]) rfl (by kernel_rfl) (by kernel_rfl) (by kernel_rfl) (fun _ _ _ h => h) (Or.inl ⟨by rfl, ?_⟩) (by assumption) ?_
      · intro W hSW
        obtain ⟨z0, z1, z2, z3, z4, z5⟩ := hSW.2.cells
        go_simp
      simp only [Act.put, List.getElem_toArray, List.getElem_cons_succ, List.getElem_cons_zero, List.setIfInBounds_toArray, List.set_cons_succ, List.set_cons_zero]
      refine wpAnyH_ready (rs := [3]) (by kernel_rfl) (by simp) ?_
      refine AllReadyH.cons rfl (fun K hK => ?_) AllReadyH.nil
      rw [if_pos (by rfl)]
      go_simp
      refine (HCO.out _ ((Below.refl _ _).drew)).mono ?_
      rintro e w6 ⟨v6, M6, rfl, hE6, hm6, hb6⟩
      have hb56 : Below w5.heap.size w5 w6 := (Below.refl w5.heap.size w5).drew.trans hb6
      have HS6 : CBox w6 w.heap.size (.int .i64 now) (.slice a L.length cap) ∧ EBox w6 g11 (.string x.nm) (.int .i64 x.ty) (.bool x.no) (.slice x.a x.n x.c) (.int .i64 x.un) (.int .i64 x.us) := ⟨HC5.out.kept hb56, HE5.out.kept hb56⟩
      have HR6 : Hid (CBox w6 (w.heap.size + 1) (.int .i64 0) (.slice none 0 0)) := HR5.out.kept hb56
      have HT6 : Hid (EBox w6 (w.heap.size + 1 + 1) (.string ⟨#[]⟩) (.int .i64 0) (.bool false) (.slice none 0 0) (.int .i64 0) (.int .i64 0)) := HT5.out.kept hb56
      have HBW6 : Hid (Below w.heap.size w w6) := HBW5.out.trans (hb56.mono HBW5.out.size)
      have HEB6 : Hid (EBld w6 w5.heap.size v6 M6) := hE6
      have HM6 : Hid (M6.map conT = askK now nm.data.toList ty L) := hm6
      obtain ⟨av, cv, hv6⟩ := own6_slice hE6.row
      subst hv6
      have hz56 : w5.heap.size ≤ w6.heap.size := hb56.size
      clear hE6 hm6 hb6 hb56
      go_simp
      refine hK.out _ _ HS6 (fun hS6 => ?_)
      clear hK
      refine wpAnyH_ready (rs := [7]) (by kernel_rfl) (by simp) ?_
      refine AllReadyH.cons rfl (fun K hK => ?_) AllReadyH.nil
      rw [if_pos (by rfl)]
      go_simp
      refine (HTL.out _ HBW6.out).mono ?_
      rintro e w7 ⟨a7, n7, c7, rfl, ho7, hb7⟩
      have HS7 : CBox w7 w.heap.size (.int .i64 now) (.slice a L.length cap) ∧ EBox w7 g11 (.string x.nm) (.int .i64 x.ty) (.bool x.no) (.slice x.a x.n x.c) (.int .i64 x.un) (.int .i64 x.us) := ⟨HS6.1.kept hb7, HS6.2.kept hb7⟩
      have HR7 : Hid (CBox w7 (w.heap.size + 1) (.int .i64 0) (.slice none 0 0)) := HR6.out.kept hb7
      have HT7 : Hid (EBox w7 (w.heap.size + 1 + 1) (.string ⟨#[]⟩) (.int .i64 0) (.bool false) (.slice none 0 0) (.int .i64 0) (.int .i64 0)) := HT6.out.kept hb7
      have HBW7 : Hid (Below w.heap.size w w7) := HBW6.out.trans (hb7.mono HBW6.out.size)
      have HEB7 : Hid (EBld w7 w5.heap.size (.slice av M6.length cv) M6) := HEB6.out.kept hb7
      have HO7 : Hid (OwnQ w7 w6.heap.size (.slice a7 n7 c7) ((rcOf L e0).map (ttlR (x.un - now)))) := ho7
      have HLT7 : Hid (∀ k, inC (.slice av M6.length cv) M6 k → k < w6.heap.size) := fun k hk => ((ebld_crel HEB6.out).lt k hk).2
      have hz67 : w6.heap.size ≤ w7.heap.size := hb7.size
      clear ho7 hb7 HEB6 HR6 HT6
      go_simp
      refine hK.out _ _ HS7 (fun hS7 => ?_)
      clear hK
      refine wpAnyH_ready (rs := [8]) (by kernel_rfl) (by simp) ?_
      refine AllReadyH.cons rfl (fun K hK => ?_) AllReadyH.nil
      rw [if_pos (by rfl)]
      obtain ⟨d0, d1⟩ := HR7.out.cells
      obtain ⟨f0, f1⟩ := HR7.out.free
      obtain ⟨W8, hW8⟩ : ∃ W, W = (w7.setCell ⟨w.heap.size + 1, 0, none⟩ (.int .i64 now)).setCell ⟨w.heap.size + 1, 1, none⟩ (.slice av M6.length cv) := ⟨_, rfl⟩
      have HW8 : Hid ((w7.setCell ⟨w.heap.size + 1, 0, none⟩ (.int .i64 now)).setCell ⟨w.heap.size + 1, 1, none⟩ (.slice av M6.length cv) = W8) := hW8.symm
      have hk8 : Kpt w7 W8 (· = w.heap.size + 1) := by rw [hW8]; exact (kpt_set w7 (w.heap.size + 1) 0 _ (S := (· = w.heap.size + 1)) rfl).trans (kpt_set _ (w.heap.size + 1) 1 _ rfl)
      have HS8 : CBox W8 w.heap.size (.int .i64 now) (.slice a L.length cap) ∧ EBox W8 g11 (.string x.nm) (.int .i64 x.ty) (.bool x.no) (.slice x.a x.n x.c) (.int .i64 x.un) (.int .i64 x.us) := ⟨HS7.1.kpt hk8 (by omega), HS7.2.kpt hk8 (by omega)⟩
      have HR8 : Hid (CBox W8 (w.heap.size + 1) (.int .i64 now) (.slice av M6.length cv)) := by rw [hW8]; exact (HR7.out.set0 _).set1 _
      have HT8 : Hid (EBox W8 (w.heap.size + 1 + 1) (.string ⟨#[]⟩) (.int .i64 0) (.bool false) (.slice none 0 0) (.int .i64 0) (.int .i64 0)) := HT7.out.kpt hk8 (by omega)
      have HK8 : Hid (Kpt w7 W8 (· = w.heap.size + 1)) := hk8
      clear hW8 hk8 HR7 HT7
      go_simp
      rw [HW8.out]
      refine hK.out _ _ HS8 (fun hS8 => ?_)
      clear hK d0 d1 f0 f1
      refine wpAnyH_ready (rs := [9]) (by kernel_rfl) (by simp) ?_
      refine AllReadyH.cons rfl (fun K hK => ?_) AllReadyH.nil
      rw [if_pos (by rfl)]
      obtain ⟨q0, q1, q2, q3, q4, q5⟩ := HT8.out.cells
      obtain ⟨s0, s1, s2, s3, s4, s5⟩ := HT8.out.free
      obtain ⟨W9, hW9⟩ : ∃ W, W = put6e W8 (w.heap.size + 1 + 1) (.string x.nm) (.int .i64 x.ty) (.bool x.no) (.slice a7 n7 c7) (.int .i64 x.un) (.int .i64 x.us) := ⟨_, rfl⟩
      have HW9 : Hid (put6e W8 (w.heap.size + 1 + 1) (.string x.nm) (.int .i64 x.ty) (.bool x.no) (.slice a7 n7 c7) (.int .i64 x.un) (.int .i64 x.us) = W9) := hW9.symm
      have hk9 : Kpt W8 W9 (· = w.heap.size + 1 + 1) := by rw [hW9]; exact put6e_kpt W8 _ _ _ _ _ _ _
      have HS9 : CBox W9 w.heap.size (.int .i64 now) (.slice a L.length cap) ∧ EBox W9 g11 (.string x.nm) (.int .i64 x.ty) (.bool x.no) (.slice x.a x.n x.c) (.int .i64 x.un) (.int .i64 x.us) := ⟨HS8.1.kpt hk9 (by omega), HS8.2.kpt hk9 (by omega)⟩
      have HR9 : Hid (CBox W9 (w.heap.size + 1) (.int .i64 now) (.slice av M6.length cv)) := HR8.out.kpt hk9 (by omega)
      have HT9 : Hid (EBox W9 (w.heap.size + 1 + 1) (.string x.nm) (.int .i64 x.ty) (.bool x.no) (.slice a7 n7 c7) (.int .i64 x.un) (.int .i64 x.us)) := by rw [hW9]; exact HT8.out.put _ _ _ _ _ _
      have HK9 : Hid (Kpt W8 W9 (· = w.heap.size + 1 + 1)) := hk9
      unfold put6e at HW9
      clear hW9 hk9 HR8 HT8
      go_simp
      rw [HW9.out]
      refine hK.out _ _ HS9 (fun hS9 => ?_)
      clear hK q0 q1 q2 q3 q4 q5 s0 s1 s2 s3 s4 s5
      refine wpAnyH_ready (rs := [10]) (by kernel_rfl) (by simp) ?_
      refine AllReadyH.cons rfl (fun K hK => ?_) AllReadyH.nil
      rw [if_pos (by rfl)]
      go_simp
      refine hK.out _ _ HS9 (fun hS10 => ?_)
      clear hK
      refine wpAnyH_done (by kernel_rfl) ?_ _
      refine NoPanic.normal ?_
      go_wp2_with fail
      (try simp only [Exit.inBlock, Exit.then])
      have hle := HLE.out
      have hkk : Kpt w7 W9 (fun j => j = w.heap.size + 1 ∨ j = w.heap.size + 1 + 1) := (HK8.out.mono (fun j _ h => .inl h)).trans (HK9.out.mono (fun j _ h => .inr h))
      have hE9 := HEB7.out.kpt hkk (fun g hg _ h => by omega)
      have hO9 := HO7.out.kpt hkk (fun g hg h => by have := HO7.out.lt g hg; omega)
      refine bodyPost_ret (results_rrt rfl _ _ (w.heap.size + 1) (w.heap.size + 1 + 1) 30 44 #[.int .i64 now, .slice av M6.length cv] #[.string x.nm, .int .i64 x.ty, .bool x.no, .slice a7 n7 c7, .int .i64 x.un, .int .i64 x.us] (0, 0) (0, 0) _ _ (.bool true) rfl rfl rfl HR9.out HT9.out Tryz.underlying30 rfl (by kernel_rfl) Tryz.underlying44 rfl (by kernel_rfl)) rfl ⟨?_, HBW7.out.trans (hkk.below HBW7.out.size (fun j hj h => by omega))⟩
      rw [HXE.out] at hO9 ⊢
      exact kans_yes HGD.out HFE.out (ebld_crel ⟨own_base hE9.row (by omega), fun p hp => (hE9.recs p hp).base (by omega), hE9.apart, hE9.off⟩) HM6.out (hO9.base (by omega)) (fun k hk h => by have h1 := HLT7.out k hk; have h2 := (HO7.out.lt k h).1; omega)
end Go.Proofs.YtgfiahfoghnpkaaGreatDoor

namespace Go.Proofs.YtgfiahfoghnpkaaGreatDoor
open Go.RowKit Go.Maps

theorem ask_split {now : Int} {L : List EntT} (hg : goodC now L = true) {A B : List (EV × RecL)} {x : EV} {R : RecL} (h : (A ++ (x, R) :: B).map conT = L) {nm : ByteArray} {ty : Int} (h1 : x.nm = nm) (h2 : x.ty = ty) :
    askF nm.data.toList ty L = some (conT (x, R)) ∧ (A ++ (({ x with us := now } : EV), R) :: B).map conT = askK now nm.data.toList ty L := by
  have hr := good_rise hg
  rw [← h, List.map_append, List.map_cons, List.pairwise_append, List.pairwise_cons] at hr
  have hx : askP nm.data.toList ty (conT (x, R)) = true := by unfold askP conT; simp [h1, h2]
  have hA : ∀ a ∈ A.map conT, askP nm.data.toList ty a = false := fun a ha => by
    have h3 := ct_ne (hr.2.2 a ha (conT (x, R)) (by simp))
    cases hp : askP nm.data.toList ty a with
    | false => rfl
    | true =>
      unfold askP at hp
      simp only [Bool.and_eq_true, beq_iff_eq] at hp
      exact absurd ⟨by rw [hp.1]; unfold conT; rw [h1], by rw [hp.2]; unfold conT; rw [h2]⟩ h3
  have hB : ∀ b ∈ B.map conT, askP nm.data.toList ty b = false := fun b hb => by
    have h3 := ct_ne (hr.2.1.1 b hb)
    cases hp : askP nm.data.toList ty b with
    | false => rfl
    | true =>
      unfold askP at hp
      simp only [Bool.and_eq_true, beq_iff_eq] at hp
      exact absurd ⟨by rw [hp.1]; unfold conT; rw [h1], by rw [hp.2]; unfold conT; rw [h2]⟩ h3
  constructor
  · unfold askF
    rw [← h, List.map_append, List.find?_append, List.find?_eq_none.2 (fun a ha => by rw [hA a ha]; simp), Option.none_or, List.map_cons, List.find?_cons, hx]
  · unfold askK
    rw [← h, List.map_append, List.map_append, List.map_append, List.map_cons, List.map_cons, List.map_cons, if_pos hx]
    congr 1
    · rw [show (A.map conT).map (fun x => if askP nm.data.toList ty x = true then useT now x else x) = (A.map conT).map id from List.map_congr_left (fun a ha => by rw [if_neg (by rw [hA a ha]; simp)]; rfl), List.map_id]
    · congr 1
      rw [show (B.map conT).map (fun x => if askP nm.data.toList ty x = true then useT now x else x) = (B.map conT).map id from List.map_congr_left (fun b hb => by rw [if_neg (by rw [hB b hb]; simp)]; rfl), List.map_id]
theorem ask_no {L : List EntT} {M : List (EV × RecL)} (h : M.map conT = L) {nm : ByteArray} {ty : Int} (hn : ∀ j, (hj : j < M.length) → ¬ ((M[j]).1.nm = nm ∧ (M[j]).1.ty = ty)) : askF nm.data.toList ty L = none := by
  unfold askF
  rw [← h, List.find?_eq_none]
  intro y hy
  obtain ⟨p, hp, rfl⟩ := List.mem_map.1 hy
  obtain ⟨j, hj, rfl⟩ := List.mem_iff_getElem.1 hp
  intro ha
  unfold askP conT at ha
  simp only [Bool.and_eq_true, beq_iff_eq] at ha
  exact hn j hj ⟨data_eq ha.1, ha.2⟩
theorem ask_name {now : Int} {L : List EntT} (hg : goodC now L = true) {nm : List UInt8} {ty : Int} (h : nameB nm = false ∨ typB ty = false) : askF nm ty L = none := by
  unfold askF
  rw [List.find?_eq_none]
  intro y hy ha
  obtain ⟨j, hj, rfl⟩ := List.getElem_of_mem hy
  have h2 := (goodC_facts hg).2.2 j hj
  unfold entB at h2
  unfold askP at ha
  simp only [Bool.and_eq_true, beq_iff_eq] at ha h2
  rw [ha.1, ha.2] at h2
  rcases h with h | h
  · rw [h] at h2; exact absurd h2.2.1.1 (by simp)
  · rw [h] at h2; exact absurd h2.2.1.2 (by simp)

set_option maxRecDepth 20000 in
set_option maxHeartbeats 16000000 in
theorem sAskCache_any (now : Int) (v : Value) (L : List EntT) (nm : ByteArray) (ty : Int) (w : World) (hr : ERow w v L) (hx : Hid (∀ x ∈ L, EBig x)) (hn : nm.size ≤ 1048576) (hnil : Hid (∀ E : List EV, EVRow w v E → ∀ e ∈ E, ∀ n c, e.sl = .slice none n c → c = 0)) :
    Calls Tryz.prog 21 #[CchV now v, .string nm, .int .i64 ty] w fun e w' => KAns w' w.heap.size e now nm.data.toList ty L ∧ Below w.heap.size w w' := by
  have HG : Hid (∀ W, Below w.heap.size w W → Calls Tryz.prog 32 #[CchV now v] W fun e w' => e = .returned (.bool (goodC now L)) ∧ Below W.heap.size W w') := fun W hW => sGoodCache_any now v L W (hr.kept hW) hx
  have HNM : Hid (∀ W, Calls Tryz.prog 47 #[.string nm] W fun e w' => e = .returned (.bool (nameB nm.data.toList)) ∧ Below W.heap.size W w') := fun W => sGoodName_any nm W (by omega)
  have HTY : Hid (∀ W, Calls Tryz.prog 48 #[.int .i64 ty] W fun e w' => e = .returned (.bool (typB ty)) ∧ Below W.heap.size W w') := fun W => l3Type_any ty W
  have HNOG : Hid (goodC now L = false → ∀ W b, KAns W b (.returned (.tuple #[.agg #[.int .i64 0, .slice none 0 0], .agg #[.string ⟨#[]⟩, .int .i64 0, .bool false, .slice none 0 0, .int .i64 0, .int .i64 0], .bool false])) now nm.data.toList ty L) := fun h W b => kans_no (by unfold askO; rw [h]; rfl)
  have HNOF : Hid (askF nm.data.toList ty L = none → ∀ W b, KAns W b (.returned (.tuple #[.agg #[.int .i64 0, .slice none 0 0], .agg #[.string ⟨#[]⟩, .int .i64 0, .bool false, .slice none 0 0, .int .i64 0, .int .i64 0], .bool false])) now nm.data.toList ty L) := fun h W b => kans_no (by unfold askO; rw [h]; simp)
  have HOWN : Hid (goodC now L = true → L.length ≤ 20 ∧ ∀ W, Below w.heap.size w W → Calls Tryz.prog 35 #[CchV now v] W fun e w' => ∃ v' M, e = .returned (CchV now v') ∧ EBld w' W.heap.size v' M ∧ M.map conT = L ∧ Below W.heap.size W w') := fun hg => by
    obtain ⟨E, hEr, hEm, hEok, hEk, hEn, hEs, hEl, hErc⟩ := good_ev hr hx.out hg
    refine ⟨by rw [← hEm, List.length_map]; exact hEl, fun W hW => ?_⟩
    have hEr' : EVRow W v E := by
      obtain ⟨a', cap', hv, q1, q2, q3⟩ := hEr
      refine ⟨a', cap', hv, q1, q2, fun h0 => ?_⟩
      obtain ⟨b, o, ha, hbl, hc⟩ := q3 h0
      exact ⟨b, o, ha, Nat.lt_of_lt_of_le hbl hW.size, fun j hj => (hc j hj).kept hW hbl⟩
    refine (l10Own_any now v E (rcOf L) W hEr' (by omega) (fun e he => ⟨(hErc e he).1.kept hW, (hErc e he).2.1, hnil.out E hEr e he⟩)).mono ?_
    rintro e w' ⟨v', M, rfl, h1, h2, h3⟩
    exact ⟨v', M, rfl, h1, h2.trans hEm, h3⟩
  obtain ⟨a, cap, rfl, hcap, hmax, _⟩ := erow_value hr
  obtain ⟨nl, hnl⟩ : ∃ nl, nl = nm.data.toList := ⟨_, rfl⟩
  obtain rfl : nm = ⟨nl.toArray⟩ := data_eq hnl.symm
  clear hnl
  unfold CchV at HG HOWN ⊢
  obtain ⟨W0, hW0⟩ : ∃ W0, W0 = ((w.alloc (.cells #[.int .i64 now, .slice a L.length cap] 30)).alloc (.cells #[.int .i64 0, .slice none 0 0] 30)).alloc (.cells #[.string ⟨#[]⟩, .int .i64 0, .bool false, .slice none 0 0, .int .i64 0, .int .i64 0] 44) := ⟨_, rfl⟩
  have HW0 : Hid (((w.alloc (.cells #[.int .i64 now, .slice a L.length cap] 30)).alloc (.cells #[.int .i64 0, .slice none 0 0] 30)).alloc (.cells #[.string ⟨#[]⟩, .int .i64 0, .bool false, .slice none 0 0, .int .i64 0, .int .i64 0] 44) = W0) := hW0.symm
  have hs1 : (w.alloc (.cells #[.int .i64 now, .slice a L.length cap] 30)).heap.size = w.heap.size + 1 := by simp
  have hs2 : ((w.alloc (.cells #[.int .i64 now, .slice a L.length cap] 30)).alloc (.cells #[.int .i64 0, .slice none 0 0] 30)).heap.size = w.heap.size + 1 + 1 := by simp
  have HC0 : Hid (CBox W0 w.heap.size (.int .i64 now) (.slice a L.length cap)) := by rw [hW0]; exact ((cbox_new w).kpt (kpt_alloc _ _ (fun _ => False)) id).kpt (kpt_alloc _ _ (fun _ => False)) id
  have HR0 : Hid (CBox W0 (w.heap.size + 1) (.int .i64 0) (.slice none 0 0)) := by
    rw [hW0]
    have h := cbox_new (w.alloc (.cells #[.int .i64 now, .slice a L.length cap] 30)) (v0 := .int .i64 0) (v1 := .slice none 0 0)
    rw [hs1] at h
    exact h.kpt (kpt_alloc _ _ (fun _ => False)) id
  have HT0 : Hid (EBox W0 (w.heap.size + 1 + 1) (.string ⟨#[]⟩) (.int .i64 0) (.bool false) (.slice none 0 0) (.int .i64 0) (.int .i64 0)) := by
    rw [hW0]
    have h := ebox_new ((w.alloc (.cells #[.int .i64 now, .slice a L.length cap] 30)).alloc (.cells #[.int .i64 0, .slice none 0 0] 30)) (v0 := .string ⟨#[]⟩) (v1 := .int .i64 0) (v2 := .bool false) (v3 := .slice none 0 0) (v4 := .int .i64 0) (v5 := .int .i64 0)
    rw [hs2] at h
    exact h
  have hb0 : Below w.heap.size w W0 := by rw [hW0]; exact (((Below.refl _ _).alloc (Nat.le_refl _) _).alloc (by simp) _).alloc (by simp; omega) _
  have hz0 : w.heap.size + 1 + 1 < W0.heap.size := HT0.out.lt
  clear hW0 hs1 hs2 hr hnil
  obtain ⟨nb, hnb⟩ : ∃ nb, nb = nameB (⟨nl.toArray⟩ : ByteArray).data.toList := ⟨_, rfl⟩
  obtain ⟨tb, htb⟩ : ∃ tb, tb = typB ty := ⟨_, rfl⟩
  obtain ⟨gb, hgb⟩ : ∃ gb, gb = goodC now L := ⟨_, rfl⟩
  have HGB : Hid (gb = goodC now L) := hgb
  have HNB : Hid (nb = nameB (⟨nl.toArray⟩ : ByteArray).data.toList) := hnb
  have HTB : Hid (tb = typB ty) := htb
  rw [← hnb] at HNM
  rw [← htb] at HTY
  rw [← hgb] at HG HOWN HNOG
  clear hnb hgb htb
  go_enter Tryz.func21, Tryz.ntmps21
  obtain ⟨c0, c1⟩ := HC0.out.cells
  go_wp2_with fail
  rw [HW0.out]
  clear c0 c1
  refine (HG.out _ hb0).mono ?_
  rintro e w1 ⟨rfl, hb1⟩
  have hbw1 : Below w.heap.size w w1 := hb0.trans (hb1.mono hb0.size)
  have HC1 : Hid (CBox w1 w.heap.size (.int .i64 now) (.slice a L.length cap)) := HC0.out.kept hb1
  have HR1 : Hid (CBox w1 (w.heap.size + 1) (.int .i64 0) (.slice none 0 0)) := HR0.out.kept hb1
  have HT1 : Hid (EBox w1 (w.heap.size + 1 + 1) (.string ⟨#[]⟩) (.int .i64 0) (.bool false) (.slice none 0 0) (.int .i64 0) (.int .i64 0)) := HT0.out.kept hb1
  have hz1 : W0.heap.size ≤ w1.heap.size := hb1.size
  clear hb1 HC0 HR0 HT0 HG hb0
  cases gb with
  | false =>
    have HF := HNOG.out rfl
    clear HOWN HNOF HNOG HNM HTY HNB HTB
    obtain ⟨d0, d1⟩ := HR1.out.cells
    obtain ⟨f0, f1⟩ := HR1.out.free
    obtain ⟨q0, q1, q2, q3, q4, q5⟩ := HT1.out.cells
    obtain ⟨s0, s1, s2, s3, s4, s5⟩ := HT1.out.free
    go_wp2_with fail
    (try simp only [Exit.inBlock, Exit.then])
    have hkc : Kpt w1 ((w1.setCell ⟨w.heap.size + 1, 0, none⟩ (.int .i64 0)).setCell ⟨w.heap.size + 1, 1, none⟩ (.slice none 0 0)) (· = w.heap.size + 1) := (kpt_set w1 (w.heap.size + 1) 0 _ (S := (· = w.heap.size + 1)) rfl).trans (kpt_set _ (w.heap.size + 1) 1 _ rfl)
    have hke := put6e_kpt ((w1.setCell ⟨w.heap.size + 1, 0, none⟩ (.int .i64 0)).setCell ⟨w.heap.size + 1, 1, none⟩ (.slice none 0 0)) (w.heap.size + 1 + 1) (.string ⟨#[]⟩) (.int .i64 0) (.bool false) (.slice none 0 0) (.int .i64 0) (.int .i64 0)
    have hz9 : ((w1.setCell ⟨w.heap.size + 1, 0, none⟩ (.int .i64 0)).setCell ⟨w.heap.size + 1, 1, none⟩ (.slice none 0 0)).heap.size = w1.heap.size := by simp
    refine bodyPost_ret (results_rrt rfl _ _ (w.heap.size + 1) (w.heap.size + 1 + 1) 30 44 #[.int .i64 0, .slice none 0 0] #[.string ⟨#[]⟩, .int .i64 0, .bool false, .slice none 0 0, .int .i64 0, .int .i64 0] (0, 0) (0, 0) _ _ (.bool false) rfl rfl rfl (((HR1.out.set0 _).set1 _).kpt hke (by omega)) ((HT1.out.kpt hkc (by omega)).put (.string ⟨#[]⟩) (.int .i64 0) (.bool false) (.slice none 0 0) (.int .i64 0) (.int .i64 0)) Tryz.underlying30 rfl (by kernel_rfl) Tryz.underlying44 rfl (by kernel_rfl)) rfl ⟨HF _ _, (hbw1.trans (hkc.below hbw1.size (fun j hj h => by omega))).trans (hke.below (by rw [hz9]; exact hbw1.size) (fun j hj h => by omega))⟩
  | true =>
    have HGD : Hid (goodC now L = true) := HGB.out.symm
    obtain ⟨hl20, hown⟩ := HOWN.out rfl
    have HOW : Hid (∀ W, Below w.heap.size w W → Calls Tryz.prog 35 #[.agg #[.int .i64 now, .slice a L.length cap]] W fun e w' => ∃ v' M, e = .returned (.agg #[.int .i64 now, v']) ∧ EBld w' W.heap.size v' M ∧ M.map conT = L ∧ Below W.heap.size W w') := hown
    clear hown HOWN HNOG HGB
    go_wp2_with fail
    refine (HNM.out _).mono ?_
    rintro e w2 ⟨rfl, hb2⟩
    have hbw2 : Below w.heap.size w w2 := hbw1.trans (hb2.mono hbw1.size)
    have HC2 : Hid (CBox w2 w.heap.size (.int .i64 now) (.slice a L.length cap)) := HC1.out.kept hb2
    have HR2 : Hid (CBox w2 (w.heap.size + 1) (.int .i64 0) (.slice none 0 0)) := HR1.out.kept hb2
    have HT2 : Hid (EBox w2 (w.heap.size + 1 + 1) (.string ⟨#[]⟩) (.int .i64 0) (.bool false) (.slice none 0 0) (.int .i64 0) (.int .i64 0)) := HT1.out.kept hb2
    have hz2 : w1.heap.size ≤ w2.heap.size := hb2.size
    clear hb2 HC1 HR1 HT1 hbw1 HNM
    cases nb with
    | false =>
      have HF := HNOF.out (ask_name HGD.out (.inl (by first | exact HNB.out | exact HNB.out.symm)))
      clear HNOF HTY HOW HNB HTB
      obtain ⟨d0, d1⟩ := HR2.out.cells
      obtain ⟨f0, f1⟩ := HR2.out.free
      obtain ⟨q0, q1, q2, q3, q4, q5⟩ := HT2.out.cells
      obtain ⟨s0, s1, s2, s3, s4, s5⟩ := HT2.out.free
      go_wp2_with fail
      (try simp only [Exit.inBlock, Exit.then])
      have hkc : Kpt w2 ((w2.setCell ⟨w.heap.size + 1, 0, none⟩ (.int .i64 0)).setCell ⟨w.heap.size + 1, 1, none⟩ (.slice none 0 0)) (· = w.heap.size + 1) := (kpt_set w2 (w.heap.size + 1) 0 _ (S := (· = w.heap.size + 1)) rfl).trans (kpt_set _ (w.heap.size + 1) 1 _ rfl)
      have hke := put6e_kpt ((w2.setCell ⟨w.heap.size + 1, 0, none⟩ (.int .i64 0)).setCell ⟨w.heap.size + 1, 1, none⟩ (.slice none 0 0)) (w.heap.size + 1 + 1) (.string ⟨#[]⟩) (.int .i64 0) (.bool false) (.slice none 0 0) (.int .i64 0) (.int .i64 0)
      have hz9 : ((w2.setCell ⟨w.heap.size + 1, 0, none⟩ (.int .i64 0)).setCell ⟨w.heap.size + 1, 1, none⟩ (.slice none 0 0)).heap.size = w2.heap.size := by simp
      refine bodyPost_ret (results_rrt rfl _ _ (w.heap.size + 1) (w.heap.size + 1 + 1) 30 44 #[.int .i64 0, .slice none 0 0] #[.string ⟨#[]⟩, .int .i64 0, .bool false, .slice none 0 0, .int .i64 0, .int .i64 0] (0, 0) (0, 0) _ _ (.bool false) rfl rfl rfl (((HR2.out.set0 _).set1 _).kpt hke (by omega)) ((HT2.out.kpt hkc (by omega)).put (.string ⟨#[]⟩) (.int .i64 0) (.bool false) (.slice none 0 0) (.int .i64 0) (.int .i64 0)) Tryz.underlying30 rfl (by kernel_rfl) Tryz.underlying44 rfl (by kernel_rfl)) rfl ⟨HF _ _, (hbw2.trans (hkc.below hbw2.size (fun j hj h => by omega))).trans (hke.below (by rw [hz9]; exact hbw2.size) (fun j hj h => by omega))⟩
    | true =>
    go_wp2_with fail
    refine (HTY.out _).mono ?_
    rintro e w3 ⟨rfl, hb3⟩
    have hbw3 : Below w.heap.size w w3 := hbw2.trans (hb3.mono hbw2.size)
    have HC3 : Hid (CBox w3 w.heap.size (.int .i64 now) (.slice a L.length cap)) := HC2.out.kept hb3
    have HR3 : Hid (CBox w3 (w.heap.size + 1) (.int .i64 0) (.slice none 0 0)) := HR2.out.kept hb3
    have HT3 : Hid (EBox w3 (w.heap.size + 1 + 1) (.string ⟨#[]⟩) (.int .i64 0) (.bool false) (.slice none 0 0) (.int .i64 0) (.int .i64 0)) := HT2.out.kept hb3
    have hz3 : w2.heap.size ≤ w3.heap.size := hb3.size
    clear hb3 HC2 HR2 HT2 hbw2 HTY
    cases tb with
    | false =>
      have HF := HNOF.out (ask_name HGD.out (.inr (by first | exact HTB.out | exact HTB.out.symm)))
      clear HNOF HOW HNB HTB
      obtain ⟨d0, d1⟩ := HR3.out.cells
      obtain ⟨f0, f1⟩ := HR3.out.free
      obtain ⟨q0, q1, q2, q3, q4, q5⟩ := HT3.out.cells
      obtain ⟨s0, s1, s2, s3, s4, s5⟩ := HT3.out.free
      go_wp2_with fail
      (try simp only [Exit.inBlock, Exit.then])
      have hkc : Kpt w3 ((w3.setCell ⟨w.heap.size + 1, 0, none⟩ (.int .i64 0)).setCell ⟨w.heap.size + 1, 1, none⟩ (.slice none 0 0)) (· = w.heap.size + 1) := (kpt_set w3 (w.heap.size + 1) 0 _ (S := (· = w.heap.size + 1)) rfl).trans (kpt_set _ (w.heap.size + 1) 1 _ rfl)
      have hke := put6e_kpt ((w3.setCell ⟨w.heap.size + 1, 0, none⟩ (.int .i64 0)).setCell ⟨w.heap.size + 1, 1, none⟩ (.slice none 0 0)) (w.heap.size + 1 + 1) (.string ⟨#[]⟩) (.int .i64 0) (.bool false) (.slice none 0 0) (.int .i64 0) (.int .i64 0)
      have hz9 : ((w3.setCell ⟨w.heap.size + 1, 0, none⟩ (.int .i64 0)).setCell ⟨w.heap.size + 1, 1, none⟩ (.slice none 0 0)).heap.size = w3.heap.size := by simp
      refine bodyPost_ret (results_rrt rfl _ _ (w.heap.size + 1) (w.heap.size + 1 + 1) 30 44 #[.int .i64 0, .slice none 0 0] #[.string ⟨#[]⟩, .int .i64 0, .bool false, .slice none 0 0, .int .i64 0, .int .i64 0] (0, 0) (0, 0) _ _ (.bool false) rfl rfl rfl (((HR3.out.set0 _).set1 _).kpt hke (by omega)) ((HT3.out.kpt hkc (by omega)).put (.string ⟨#[]⟩) (.int .i64 0) (.bool false) (.slice none 0 0) (.int .i64 0) (.int .i64 0)) Tryz.underlying30 rfl (by kernel_rfl) Tryz.underlying44 rfl (by kernel_rfl)) rfl ⟨HF _ _, (hbw3.trans (hkc.below hbw3.size (fun j hj h => by omega))).trans (hke.below (by rw [hz9]; exact hbw3.size) (fun j hj h => by omega))⟩
    | true =>
    clear HNB HTB
    obtain ⟨c0, c1⟩ := HC3.out.cells
    go_wp2_with fail
    clear c0 c1
    refine (HOW.out _ hbw3).mono ?_
    rintro e w4 ⟨v4, M0, rfl, hB4, hm4, hb4⟩
    have hbw4 : Below w.heap.size w w4 := hbw3.trans (hb4.mono hbw3.size)
    have HC4 : Hid (CBox w4 w.heap.size (.int .i64 now) (.slice a L.length cap)) := HC3.out.kept hb4
    have HR4 : Hid (CBox w4 (w.heap.size + 1) (.int .i64 0) (.slice none 0 0)) := HR3.out.kept hb4
    have HT4 : Hid (EBox w4 (w.heap.size + 1 + 1) (.string ⟨#[]⟩) (.int .i64 0) (.bool false) (.slice none 0 0) (.int .i64 0) (.int .i64 0)) := HT3.out.kept hb4
    have HM0 : Hid (M0.map conT = L) := hm4
    have hM20 : M0.length ≤ 20 := by have h : M0.length = L.length := by rw [← hm4, List.length_map]
                                     omega
    have hrel4 := ebld_rel hB4
    obtain ⟨a4, cp4, hv⟩ := own6_slice hB4.row
    subst hv
    have hz4 : w3.heap.size ≤ w4.heap.size := hb4.size
    obtain ⟨W5, hW5⟩ : ∃ W5, W5 = (w4.setCell ⟨w.heap.size, 0, none⟩ (.int .i64 now)).setCell ⟨w.heap.size, 1, none⟩ (.slice a4 M0.length cp4) := ⟨_, rfl⟩
    have HW5 : Hid ((w4.setCell ⟨w.heap.size, 0, none⟩ (.int .i64 now)).setCell ⟨w.heap.size, 1, none⟩ (.slice a4 M0.length cp4) = W5) := hW5.symm
    have hk5 : Kpt w4 W5 (· = w.heap.size) := by rw [hW5]; exact (kpt_set w4 w.heap.size 0 _ (S := (· = w.heap.size)) rfl).trans (kpt_set _ w.heap.size 1 _ rfl)
    have HC5 : Hid (CBox W5 w.heap.size (.int .i64 now) (.slice a4 M0.length cp4)) := by rw [hW5]; exact (HC4.out.set0 _).set1 _
    have HR5 : Hid (CBox W5 (w.heap.size + 1) (.int .i64 0) (.slice none 0 0)) := HR4.out.kpt hk5 (by omega)
    have HT5 : Hid (EBox W5 (w.heap.size + 1 + 1) (.string ⟨#[]⟩) (.int .i64 0) (.bool false) (.slice none 0 0) (.int .i64 0) (.int .i64 0)) := HT4.out.kpt hk5 (by omega)
    have HB5 : Hid (EBld W5 w3.heap.size (.slice a4 M0.length cp4) M0) := hB4.kpt hk5 (fun g hg _ h => by omega)
    have hbw5 : Below w.heap.size w W5 := hbw4.trans (hk5.below hbw4.size (fun k hk h => by omega))
    have hz5 : w4.heap.size ≤ W5.heap.size := hk5.size
    have HBW5 : Hid (Below w.heap.size w W5) := hbw5
    obtain ⟨c0, c1⟩ := HC4.out.cells
    obtain ⟨e0, e1⟩ := HC4.out.free
    clear hW5 hk5 hm4 hB4 hb4 HC3 HR3 HT3 HR4 HT4 HOW hrel4 hbw3 hbw4
    go_wp2_with fail
    rw [HW5.out]
    clear c0 c1 e0 e1 HC4 HW5
    obtain ⟨c0, c1⟩ := HC5.out.cells
    go_wp2_with fail
    clear c0 c1
    go_loopw [32] (fun i wr => ∃ k : Nat, k ≤ M0.length ∧ i = .int .i64 (k : Int) ∧ Hid (∀ j, (hj : j < M0.length) → j < k → ¬ ((M0[j]).1.nm = ⟨nl.toArray⟩ ∧ (M0[j]).1.ty = ty)) ∧ Below W5.heap.size W5 wr) (fun i _ => M0.length - (intOf i).toNat)
    case atStart => exact ⟨0, Nat.zero_le _, rfl, fun j _ h => absurd h (Nat.not_lt_zero _), Below.refl _ _⟩
    case round =>
      obtain ⟨k, hk, rfl, HA, hbB⟩ := hrel
      by_cases hlt : k < M0.length
      · rcases ebld_rel HB5.out with ⟨_, hM⟩ | ⟨g, cap9, hs9, hc9, hm9, hb9, hrel9⟩
        · rw [hM] at hlt; simp at hlt
        injection hs9 with q1 q2 q3
        subst q1
        subst q3
        have hrw := hrel9.kept hbB
        obtain ⟨A, p, B, hAB, hAk⟩ : ∃ A p B, M0 = A ++ p :: B ∧ A.length = k := ⟨M0.take k, M0[k]'hlt, M0.drop (k + 1), by rw [List.getElem_cons_drop, List.take_append_drop], by rw [List.length_take]; omega⟩
        have HAB : Hid (M0 = A ++ p :: B) := hAB
        have HAK : Hid (A.length = k) := hAk
        have hpk : p = M0[k]'hlt := by
          have h1 : M0[k]? = some p := by rw [hAB, List.getElem?_append_right (by omega), hAk, Nat.sub_self]; rfl
          rw [List.getElem?_eq_getElem hlt] at h1
          exact (Option.some.inj h1).symm
        have HN1 : Hid (¬ (p.1.nm = ⟨nl.toArray⟩ ∧ p.1.ty = ty) → ∀ j, (hj : j < M0.length) → j < k + 1 → ¬ ((M0[j]).1.nm = ⟨nl.toArray⟩ ∧ (M0[j]).1.ty = ty)) := fun h j hj hjk => by
          by_cases e : j = k
          · subst e; rw [← hpk]; exact h
          · exact HA.out j hj (by omega)
        have hrel := hrw
        rw [hAB] at hrel
        have hent := hrel.at
        rw [hAk] at hent
        obtain ⟨⟨c0, c1, c2, c3, c4, c5⟩, hfz⟩ := hent
        have HREL : Hid (ERel wr w3.heap.size g (A ++ p :: B)) := hrel
        have hlenL : M0.length = L.length := by rw [← HM0.out, List.length_map]
        obtain ⟨x, R⟩ := p
        simp only at c0 c1 c2 c3 c4 c5 HN1
        have hgw : g < wr.heap.size := hrw.row.1
        have hki : (k : Int) < (M0.length : Int) := by omega
        obtain ⟨xl, hxl⟩ : ∃ l : List UInt8, x.nm = ⟨l.toArray⟩ := ⟨x.nm.data.toList, data_eq rfl⟩
        have HXL : Hid (x.nm = ⟨xl.toArray⟩) := hxl
        rw [hxl] at c0
        have hbA : Below W5.heap.size W5 (wr.alloc (.cells #[.string ⟨xl.toArray⟩, .int .i64 x.ty, .bool x.no, .slice x.a x.n x.c, .int .i64 x.un, .int .i64 x.us] 44)) := hbB.alloc hbB.size _
        have HNM1 : Hid (xl = nl ↔ x.nm = ⟨nl.toArray⟩) := ⟨fun h => by rw [hxl, h], fun h => by rw [hxl] at h; simpa using h⟩
        clear hAB hAk hpk hrel hrw hrel9 q2 hlenL hxl
        by_cases hnm : xl = nl
        case neg =>
          have HU := HN1.out (fun h => hnm (HNM1.out.2 h.1))
          have HU2 : Hid (∀ j, (hj : j < M0.length) → j < k + 1 → ¬ ((M0[j]).1.nm = ⟨nl.toArray⟩ ∧ (M0[j]).1.ty = ty)) := HU
          have e1 : (xl == nl) = false := by simpa using hnm
          have e2 : (xl != nl) = true := by simpa using hnm
          clear HN1 HU HREL hfz hnm HNM1
          go_wp2_with fail
          go_roundw
          case rel => exact ⟨k + 1, by omega, by go_num, HU2, hbA⟩
          case measure => simp [intOf]; omega
        by_cases hty : x.ty = ty
        case neg =>
          have HU := HN1.out (fun h => hty h.2)
          have HU2 : Hid (∀ j, (hj : j < M0.length) → j < k + 1 → ¬ ((M0[j]).1.nm = ⟨nl.toArray⟩ ∧ (M0[j]).1.ty = ty)) := HU
          have e1 : (xl == nl) = true := by simpa using hnm
          have e2 : (xl != nl) = false := by simpa using hnm
          have e3 : (x.ty == ty) = false := by simpa using hty
          have e4 : (x.ty != ty) = true := by simpa using hty
          clear HN1 HU HREL hfz hnm HNM1 hty
          go_wp2_with fail
          go_roundw
          case rel => exact ⟨k + 1, by omega, by go_num, HU2, hbA⟩
          case measure => simp [intOf]; omega
        have HXN : Hid (x.nm = ⟨nl.toArray⟩) := HNM1.out.1 hnm
        have HXT : Hid (x.ty = ty) := hty
        have e1 : (xl == nl) = true := by simpa using hnm
        have e2 : (xl != nl) = false := by simpa using hnm
        have e3 : (x.ty == ty) = true := by simpa using hty
        have e4 : (x.ty != ty) = false := by simpa using hty
        have HSP := ask_split (now := now) HGD.out (by rw [← HAB.out]; exact HM0.out) HXN.out HXT.out
        have HFE : Hid (askF nl ty L = some (conT (x, R))) := HSP.1
        have HKE : Hid ((A ++ (({ x with us := now } : EV), R) :: B).map conT = askK now nl ty L) := HSP.2
        have f5 := hfz 5 (by omega)
        have hCr := HC5.out.kept hbB
        obtain ⟨m0, m1⟩ := hCr.cells
        have hlw : w.heap.size < wr.heap.size := hCr.lt
        have HP6 : Hid (ERel (wr.setCell ⟨g, k * 6 + 5, none⟩ (.int .i64 now)) w3.heap.size g (A ++ (({ x with us := now } : EV), R) :: B)) := by
          have h := HREL.out.put1 (y := { x with us := now }) 5 (.int .i64 now) (by omega) rfl rfl
          rw [HAK.out] at h
          exact h
        have HMEM : Hid (conT (x, R) ∈ L) := by rw [← HM0.out, HAB.out]; exact List.mem_map.2 ⟨(x, R), by simp, rfl⟩
        have HTIME : Hid (1 ≤ x.un - now ∧ x.un - now ≤ 100000) := by
          obtain ⟨j, hj, hje⟩ := List.getElem_of_mem HMEM.out
          have h2 := (goodC_facts HGD.out).2.2 j hj
          rw [hje] at h2
          unfold entB timeB conT at h2
          simp only [Bool.and_eq_true, decide_eq_true_eq] at h2
          show _ ∧ _
          omega
        have hRl : R.length ≤ 1048576 := (hx.out _ HMEM.out).2.1
        obtain ⟨WA, hWA⟩ : ∃ W, W = (wr.setCell ⟨g, k * 6 + 5, none⟩ (.int .i64 now)).alloc (.cells #[.string ⟨xl.toArray⟩, .int .i64 x.ty, .bool x.no, .slice x.a x.n x.c, .int .i64 x.un, .int .i64 x.us] 44) := ⟨_, rfl⟩
        have HWA : Hid ((wr.setCell ⟨g, k * 6 + 5, none⟩ (.int .i64 now)).alloc (.cells #[.string ⟨xl.toArray⟩, .int .i64 x.ty, .bool x.no, .slice x.a x.n x.c, .int .i64 x.un, .int .i64 x.us] 44) = WA) := hWA.symm
        obtain ⟨g10, hg10⟩ : ∃ g, g = wr.heap.size := ⟨_, rfl⟩
        have HG10 : Hid (wr.heap.size = g10) := hg10.symm
        have hss : (wr.setCell ⟨g, k * 6 + 5, none⟩ (.int .i64 now)).heap.size = g10 := by rw [hg10]; simp
        have hkS : Kpt wr (wr.setCell ⟨g, k * 6 + 5, none⟩ (.int .i64 now)) (· = g) := kpt_set wr g _ _ rfl
        have hbS : Below g10 (wr.setCell ⟨g, k * 6 + 5, none⟩ (.int .i64 now)) WA := by rw [hWA, ← hss]; exact (Below.refl _ _).alloc (Nat.le_refl _) _
        have hbS' : Below (wr.setCell ⟨g, k * 6 + 5, none⟩ (.int .i64 now)).heap.size (wr.setCell ⟨g, k * 6 + 5, none⟩ (.int .i64 now)) WA := by rw [hss]; exact hbS
        have hbW5 : w.heap.size ≤ W5.heap.size := HBW5.out.size
        have hgw5 : w.heap.size + 1 + 1 < w3.heap.size := by omega
        have HGG : Hid (w.heap.size + 1 + 1 < w3.heap.size ∧ w3.heap.size ≤ g ∧ g < g10) := ⟨hgw5, hb9, by rw [hg10]; exact hgw⟩
        have HSZA : Hid (WA.heap.size = g10 + 1) := by
          have h : ∀ (V : World) (o : Obj), (V.alloc o).heap.size = V.heap.size + 1 := fun V o => by simp
          show WA.heap.size = g10 + 1
          rw [hWA, h, hss]
        have HEA : Hid (EBox WA g10 (.string ⟨xl.toArray⟩) (.int .i64 x.ty) (.bool x.no) (.slice x.a x.n x.c) (.int .i64 x.un) (.int .i64 x.us)) := by rw [hWA, ← hss]; exact ebox_new _
        have HCA : Hid (CBox WA w.heap.size (.int .i64 now) (.slice (some ⟨g, 0, none⟩) M0.length cp4)) := (hCr.kpt hkS (by omega)).kept hbS'
        have HRA : Hid (CBox WA (w.heap.size + 1) (.int .i64 0) (.slice none 0 0)) := ((HR5.out.kept hbB).kpt hkS (by omega)).kept hbS'
        have HTA : Hid (EBox WA (w.heap.size + 1 + 1) (.string ⟨#[]⟩) (.int .i64 0) (.bool false) (.slice none 0 0) (.int .i64 0) (.int .i64 0)) := ((HT5.out.kept hbB).kpt hkS (by omega)).kept hbS'
        have HPA : Hid (ERel WA w3.heap.size g (A ++ (({ x with us := now } : EV), R) :: B)) := HP6.out.kept hbS'
        have hbwr : Below w.heap.size w wr := HBW5.out.trans (hbB.mono HBW5.out.size)
        have hbwS : Below w.heap.size w (wr.setCell ⟨g, k * 6 + 5, none⟩ (.int .i64 now)) := hbwr.trans (hkS.below hbwr.size (fun j hj h => by omega))
        have HBWA : Hid (Below w.heap.size w WA) := hbwS.trans (hbS'.mono hbwS.size)
        have HOQ : OwnQ WA w3.heap.size x.sl R := HPA.out.recs (({ x with us := now } : EV), R) (by simp)
        have HOE : Hid (Calls Tryz.prog 51 #[.agg #[.string ⟨xl.toArray⟩, .int .i64 x.ty, .bool x.no, .slice x.a x.n x.c, .int .i64 x.un, .int .i64 x.us]] WA fun e w' => ∃ a n c, e = .returned (.agg #[.string ⟨xl.toArray⟩, .int .i64 x.ty, .bool x.no, .slice a n c, .int .i64 x.un, .int .i64 x.us]) ∧ OwnQ w' WA.heap.size (.slice a n c) R ∧ Below WA.heap.size WA w') := by
          have h := l10OwnEntry_any x R WA HOQ.row hRl (fun n c h => by rcases HOQ with ⟨h1, _⟩ | ⟨g1, c1, h1, _⟩ <;> rw [h1] at h <;> injection h with h2 h3 h4 <;> first | exact h4.symm | cases h2)
          rw [HXL.out] at h
          exact h
        have HAP : Hid (∀ j, inE g (A ++ (({ x with us := now } : EV), R) :: B) j → j < g10) := fun j hj => by
          rw [← hss]
          rcases hj with rfl | ⟨p, hp, hpb⟩
          · exact HP6.out.row.1
          · exact ((HP6.out.recs p hp).lt j hpb).2
        clear hnm hty HN1 HNM1 HSP hfz hbA hWA hg10 hss hkS hbS hbS' HOQ hbwr hbwS hbW5 hgw5 HREL HP6
        go_wp2_with fail
        rw [HWA.out, HG10.out]
        clear c0 c1 c2 c3 c4 c5 m0 m1 f5 hgw hlw hCr HA HNOF hbB
        refine HOE.out.mono ?_
        rintro e w6 ⟨a6, n6, c6, rfl, ho6, hb6⟩
        have HE6 : Hid (EBox w6 g10 (.string ⟨xl.toArray⟩) (.int .i64 x.ty) (.bool x.no) (.slice x.a x.n x.c) (.int .i64 x.un) (.int .i64 x.us)) := HEA.out.kept hb6
        have HC6 : Hid (CBox w6 w.heap.size (.int .i64 now) (.slice (some ⟨g, 0, none⟩) M0.length cp4)) := HCA.out.kept hb6
        have HR6 : Hid (CBox w6 (w.heap.size + 1) (.int .i64 0) (.slice none 0 0)) := HRA.out.kept hb6
        have HT6 : Hid (EBox w6 (w.heap.size + 1 + 1) (.string ⟨#[]⟩) (.int .i64 0) (.bool false) (.slice none 0 0) (.int .i64 0) (.int .i64 0)) := HTA.out.kept hb6
        have HP6 : Hid (ERel w6 w3.heap.size g (A ++ (({ x with us := now } : EV), R) :: B)) := HPA.out.kept hb6
        have HO6 : Hid (OwnQ w6 (g10 + 1) (.slice a6 n6 c6) R) := by rw [← HSZA.out]; exact ho6
        have HBW6 : Hid (Below w.heap.size w w6) := HBWA.out.trans (hb6.mono HBWA.out.size)
        obtain ⟨ar, cr, her, hcr⟩ := ho6.shape
        injection her with q1 q2 q3
        have hnR : n6 = R.length := q2
        have HNR : Hid (n6 = R.length) := hnR
        have hn1 : n6 ≤ 1048576 := by omega
        have hgs := HGG.out
        have hgs6 : g10 < w6.heap.size := HE6.out.lt
        clear HEA HCA HRA HTA HPA HBWA HOE ho6 hb6 q1 q2 q3 hnR HWA
        obtain ⟨W7, hW7⟩ : ∃ W, W = (put6e w6 g10 (.string ⟨xl.toArray⟩) (.int .i64 x.ty) (.bool x.no) (.slice a6 n6 c6) (.int .i64 x.un) (.int .i64 x.us)).setCell ⟨g10, 5, none⟩ (.int .i64 now) := ⟨_, rfl⟩
        have hk7 : Kpt w6 W7 (· = g10) := by rw [hW7]; exact (put6e_kpt w6 g10 _ _ _ _ _ _).trans (kpt_set _ g10 5 _ rfl)
        have HE7 : Hid (EBox W7 g10 (.string ⟨xl.toArray⟩) (.int .i64 x.ty) (.bool x.no) (.slice a6 n6 c6) (.int .i64 x.un) (.int .i64 now)) := by rw [hW7]; exact (HE6.out.put _ _ _ _ _ _).set5 _
        have HC7 : Hid (CBox W7 w.heap.size (.int .i64 now) (.slice (some ⟨g, 0, none⟩) M0.length cp4)) := HC6.out.kpt hk7 (by omega)
        have HR7 : Hid (CBox W7 (w.heap.size + 1) (.int .i64 0) (.slice none 0 0)) := HR6.out.kpt hk7 (by omega)
        have HT7 : Hid (EBox W7 (w.heap.size + 1 + 1) (.string ⟨#[]⟩) (.int .i64 0) (.bool false) (.slice none 0 0) (.int .i64 0) (.int .i64 0)) := HT6.out.kpt hk7 (by omega)
        have HO7 : Hid (OwnQ W7 (g10 + 1) (.slice a6 n6 c6) R) := HO6.out.kpt hk7 (fun j hj h => by have := HO6.out.lt j hj; omega)
        have HBW7 : Hid (Below w.heap.size w W7) := HBW6.out.trans (hk7.below HBW6.out.size (fun j hj h => by omega))
        have HK7 : Hid (Kpt w6 W7 (· = g10)) := hk7
        have HSZ7 : Hid (w6.heap.size ≤ W7.heap.size) := hk7.size
        have HW7 : Hid ((put6e w6 g10 (.string ⟨xl.toArray⟩) (.int .i64 x.ty) (.bool x.no) (.slice a6 n6 c6) (.int .i64 x.un) (.int .i64 x.us)).setCell ⟨g10, 5, none⟩ (.int .i64 now) = W7) := hW7.symm
        unfold put6e at HW7
        obtain ⟨c0, c1, c2, c3, c4, c5⟩ := HE6.out.cells
        obtain ⟨s0, s1, s2, s3, s4, s5⟩ := HE6.out.free
        obtain ⟨m0, m1⟩ := HC6.out.cells
        clear hW7 hk7 HC6 HR6 HT6 HO6 HBW6 HE6
        go_wp2_with fail
        rw [HW7.out]
        clear c0 c1 c2 c3 c4 c5 s0 s1 s2 s3 s4 s5 m0 m1 HW7
        have wd : IntKind.i64.wrap (x.un - now) = x.un - now := wrap_small _ (by have := HTIME.out; omega) (by have := HTIME.out; omega)
        obtain ⟨d, hdd⟩ : ∃ d, d = x.un - now := ⟨_, rfl⟩
        have HD : Hid (x.un - now = d) := hdd.symm
        have HWD : Hid (IntKind.i64.wrap (x.un - now) = d) := by rw [wd]; exact hdd.symm
        have HLT : Hid (∀ k, (Value.slice a6 n6 c6).ownBlock = some k → g10 + 1 ≤ k ∧ k < W7.heap.size) := fun k hk => HO7.out.lt k hk
        clear hdd wd
        go_loopw [62] (fun i wr => ∃ k : Nat, k ≤ n6 ∧ i = .int .i64 (k : Int) ∧ Hid (OwnQ wr (g10 + 1) (.slice a6 n6 c6) ((R.take k).map (ttlR d) ++ R.drop k)) ∧ Hid (Kpt W7 wr (fun j => (Value.slice a6 n6 c6).ownBlock = some j))) (fun i _ => n6 - (intOf i).toNat)
        case atStart => exact ⟨0, Nat.zero_le _, rfl, HO7.out, Kpt.refl _ _⟩
        case round =>
          obtain ⟨k2, hk2, rfl, HO, HK⟩ := hrel
          have HEr : Hid (EBox wr g10 (.string ⟨xl.toArray⟩) (.int .i64 x.ty) (.bool x.no) (.slice a6 n6 c6) (.int .i64 x.un) (.int .i64 now)) := HE7.out.kpt HK.out (fun h => by have := HLT.out _ h; omega)
          have HCr : Hid (CBox wr w.heap.size (.int .i64 now) (.slice (some ⟨g, 0, none⟩) M0.length cp4)) := HC7.out.kpt HK.out (fun h => by have := HLT.out _ h; omega)
          by_cases hlt2 : k2 < n6
          · have hkR : k2 < R.length := by rw [← HNR.out]; exact hlt2
            rcases HO.out with ⟨_, hn0⟩ | ⟨gr, capr, hs, hc1, hc2, hc3, hq⟩
            · exfalso
              have h1 := ttl_len d R k2
              rw [hn0] at h1
              simp at h1
              omega
            · rw [ttl_len] at hs hc1
              injection hs with e1 e2 e3
              subst e1
              subst e3
              have hgl := HLT.out gr rfl
              have hlen : k2 < ((R.take k2).map (ttlR d) ++ R.drop k2).length := by rw [ttl_len]; exact hkR
              have hat := hq.2 k2 hlen
              rw [ttl_at d R k2 hkR hlen] at hat
              obtain ⟨⟨r0, r1, r2, r3⟩, hfz⟩ := hat
              have hfz2 : wr.frozen? ⟨gr, k2 * 4 + 2, none⟩ = false := hfz.2.2.1
              have HQ3 : Hid (OwnQ (wr.setCell ⟨gr, k2 * 4 + 2, none⟩ (.int .i64 d)) (g10 + 1) (.slice (some ⟨gr, 0, none⟩) n6 c6) ((R.take (k2 + 1)).map (ttlR d) ++ R.drop (k2 + 1))) := by
                have h1 := hq.set2 k2 hlen d
                rw [ttl_at d R k2 hkR hlen] at h1
                have h2 : QRow (wr.setCell ⟨gr, k2 * 4 + 2, none⟩ (.int .i64 d)) gr ((R.take (k2 + 1)).map (ttlR d) ++ R.drop (k2 + 1)) := by rw [← ttl_half d R k2 hkR]; exact h1
                exact .inr ⟨gr, c6, by rw [ttl_len, HNR.out], by rw [ttl_len]; exact hc1, hc2, hc3, h2⟩
              have HK3 : Hid (Kpt W7 (wr.setCell ⟨gr, k2 * 4 + 2, none⟩ (.int .i64 d)) (fun j => (Value.slice (some ⟨gr, 0, none⟩) n6 c6).ownBlock = some j)) := HK.out.trans (kpt_set wr gr _ _ rfl)
              have hki2 : (k2 : Int) < (n6 : Int) := by omega
              obtain ⟨c0, c1, c2, c3, c4, c5⟩ := HEr.out.cells
              obtain ⟨p0, p1⟩ := HCr.out.cells
              have hd1 := HD.out
              have hd2 := HWD.out
              have hd3 : IntKind.i64.wrap d = d := by rw [hd1] at hd2; exact hd2
              have hgw : gr < wr.heap.size := hq.1
              clear hq hfz hlen r0 r1 r3 e2
              go_wp2_with fail
              go_roundw
              case rel => exact ⟨k2 + 1, by omega, by go_num, HQ3, HK3⟩
              case measure => simp [intOf]; omega
          · have HOF : Hid (OwnQ wr (g10 + 1) (.slice a6 n6 c6) (R.map (ttlR d))) := by
              have h := HO.out
              have hkn : ¬ k2 < R.length := by rw [← HNR.out]; exact hlt2
              rw [List.take_of_length_le (by omega), List.drop_of_length_le (by omega), List.append_nil] at h
              exact h
            have HRd : Hid (CBox wr.drew (w.heap.size + 1) (.int .i64 0) (.slice none 0 0)) := (HR7.out.kpt HK.out (fun h => by have := HLT.out _ h; omega) : CBox wr (w.heap.size + 1) (.int .i64 0) (.slice none 0 0))
            have HTd : Hid (EBox wr.drew (w.heap.size + 1 + 1) (.string ⟨#[]⟩) (.int .i64 0) (.bool false) (.slice none 0 0) (.int .i64 0) (.int .i64 0)) := (HT7.out.kpt HK.out (fun h => by have := HLT.out _ h; omega) : EBox wr (w.heap.size + 1 + 1) (.string ⟨#[]⟩) (.int .i64 0) (.bool false) (.slice none 0 0) (.int .i64 0) (.int .i64 0))
            have hbr : Below w.heap.size w wr := HBW7.out.trans (HK.out.below HBW7.out.size (fun j hj h => by have := HLT.out _ h; omega))
            have hbd : Below wr.heap.size wr wr.drew := (Below.refl wr.heap.size wr).drew
            have HBD : Hid (Below w.heap.size w wr.drew) := hbr.trans (hbd.mono hbr.size)
            have HPd : Hid (ERel wr.drew w3.heap.size g (A ++ (({ x with us := now } : EV), R) :: B)) := ((HP6.out.kpt HK7.out (fun j hj h => by have := HAP.out j hj; omega)).kpt HK.out (fun j hj h => by have h1 := HAP.out j hj; have h2 := HLT.out _ h; omega)).kept hbd
            have HOd : Hid (OwnQ wr.drew (g10 + 1) (.slice a6 n6 c6) (R.map (ttlR d))) := HOF.out.kept hbd
            have HSD : CBox wr.drew w.heap.size (.int .i64 now) (.slice (some ⟨g, 0, none⟩) M0.length cp4) ∧ EBox wr.drew g10 (.string ⟨xl.toArray⟩) (.int .i64 x.ty) (.bool x.no) (.slice a6 n6 c6) (.int .i64 x.un) (.int .i64 now) := ⟨HCr.out, HEr.out⟩
            clear hbr hbd HO HOF HCr HEr HR7 HT7 HK HP6
            go_wp2_with fail
            refine wp_region_noPanic ?_
            refine wp_region_held_drew (S := fun W : World => CBox W w.heap.size (.int .i64 now) (.slice (some ⟨g, 0, none⟩) M0.length cp4) ∧ EBox W g10 (.string ⟨xl.toArray⟩) (.int .i64 x.ty) (.bool x.no) (.slice a6 n6 c6) (.int .i64 x.un) (.int .i64 now)) (by kernel_rfl) HSD (fun hHeld => ?_)
            generalize wr.drew = wv at HRd HTd HBD HPd HOd HSD hHeld ⊢
            refine wpAnyH_take (i := 0) (v := .agg #[.int .i64 now, .slice (some ⟨g, 0, none⟩) M0.length cp4]) rfl (by kernel_rfl) (by kernel_rfl) (by kernel_rfl) (fun _ _ _ h => h) (Or.inl ⟨by rfl, ?_⟩) (by assumption) ?_
            · intro W hSW
              obtain ⟨z0, z1⟩ := hSW.1.cells
              go_simp
            simp only [Act.put, List.getElem_toArray, List.getElem_cons_zero, List.setIfInBounds_toArray, List.set_cons_succ, List.set_cons_zero]
            refine wpAnyH_take (i := 1) (v := .agg #[.string ⟨xl.toArray⟩, .int .i64 x.ty, .bool x.no, .slice a6 n6 c6, .int .i64 x.un, .int .i64 now]) rfl (by kernel_rfl) (by kernel_rfl) (by kernel_rfl) (fun _ _ _ h => h) (Or.inl ⟨by rfl, ?_⟩) (by assumption) ?_
            · intro W hSW
              obtain ⟨z0, z1, z2, z3, z4, z5⟩ := hSW.2.cells
              go_simp
            simp only [Act.put, List.getElem_toArray, List.getElem_cons_succ, List.getElem_cons_zero, List.setIfInBounds_toArray, List.set_cons_succ, List.set_cons_zero]
            refine wpAnyH_ready (rs := [2]) (by kernel_rfl) (by simp) ?_
            refine AllReadyH.cons rfl (fun K hK => ?_) AllReadyH.nil
            rw [if_pos (by rfl)]
            obtain ⟨d0, d1⟩ := HRd.out.cells
            obtain ⟨f0, f1⟩ := HRd.out.free
            obtain ⟨W8, hW8⟩ : ∃ W, W = (wv.setCell ⟨w.heap.size + 1, 0, none⟩ (.int .i64 now)).setCell ⟨w.heap.size + 1, 1, none⟩ (.slice (some ⟨g, 0, none⟩) M0.length cp4) := ⟨_, rfl⟩
            have HW8 : Hid ((wv.setCell ⟨w.heap.size + 1, 0, none⟩ (.int .i64 now)).setCell ⟨w.heap.size + 1, 1, none⟩ (.slice (some ⟨g, 0, none⟩) M0.length cp4) = W8) := hW8.symm
            have hk8 : Kpt wv W8 (· = w.heap.size + 1) := by rw [hW8]; exact (kpt_set wv (w.heap.size + 1) 0 _ (S := (· = w.heap.size + 1)) rfl).trans (kpt_set _ (w.heap.size + 1) 1 _ rfl)
            have HS8 : CBox W8 w.heap.size (.int .i64 now) (.slice (some ⟨g, 0, none⟩) M0.length cp4) ∧ EBox W8 g10 (.string ⟨xl.toArray⟩) (.int .i64 x.ty) (.bool x.no) (.slice a6 n6 c6) (.int .i64 x.un) (.int .i64 now) := ⟨HSD.1.kpt hk8 (by omega), HSD.2.kpt hk8 (by omega)⟩
            have HR8 : Hid (CBox W8 (w.heap.size + 1) (.int .i64 now) (.slice (some ⟨g, 0, none⟩) M0.length cp4)) := by rw [hW8]; exact (HRd.out.set0 _).set1 _
            have HT8 : Hid (EBox W8 (w.heap.size + 1 + 1) (.string ⟨#[]⟩) (.int .i64 0) (.bool false) (.slice none 0 0) (.int .i64 0) (.int .i64 0)) := HTd.out.kpt hk8 (by omega)
            have HK8 : Hid (Kpt wv W8 (· = w.heap.size + 1)) := hk8
            clear hW8 hk8 HRd HTd
            go_simp
            rw [HW8.out]
            refine hK.out _ _ HS8 (fun hS8 => ?_)
            clear hK d0 d1 f0 f1
            refine wpAnyH_ready (rs := [3]) (by kernel_rfl) (by simp) ?_
            refine AllReadyH.cons rfl (fun K hK => ?_) AllReadyH.nil
            rw [if_pos (by rfl)]
            obtain ⟨q0, q1, q2, q3, q4, q5⟩ := HT8.out.cells
            obtain ⟨s0, s1, s2, s3, s4, s5⟩ := HT8.out.free
            obtain ⟨W9, hW9⟩ : ∃ W, W = put6e W8 (w.heap.size + 1 + 1) (.string ⟨xl.toArray⟩) (.int .i64 x.ty) (.bool x.no) (.slice a6 n6 c6) (.int .i64 x.un) (.int .i64 now) := ⟨_, rfl⟩
            have HW9 : Hid (put6e W8 (w.heap.size + 1 + 1) (.string ⟨xl.toArray⟩) (.int .i64 x.ty) (.bool x.no) (.slice a6 n6 c6) (.int .i64 x.un) (.int .i64 now) = W9) := hW9.symm
            have hk9 : Kpt W8 W9 (· = w.heap.size + 1 + 1) := by rw [hW9]; exact put6e_kpt W8 _ _ _ _ _ _ _
            have HS9 : CBox W9 w.heap.size (.int .i64 now) (.slice (some ⟨g, 0, none⟩) M0.length cp4) ∧ EBox W9 g10 (.string ⟨xl.toArray⟩) (.int .i64 x.ty) (.bool x.no) (.slice a6 n6 c6) (.int .i64 x.un) (.int .i64 now) := ⟨HS8.1.kpt hk9 (by omega), HS8.2.kpt hk9 (by omega)⟩
            have HR9 : Hid (CBox W9 (w.heap.size + 1) (.int .i64 now) (.slice (some ⟨g, 0, none⟩) M0.length cp4)) := HR8.out.kpt hk9 (by omega)
            have HT9 : Hid (EBox W9 (w.heap.size + 1 + 1) (.string ⟨xl.toArray⟩) (.int .i64 x.ty) (.bool x.no) (.slice a6 n6 c6) (.int .i64 x.un) (.int .i64 now)) := by rw [hW9]; exact HT8.out.put _ _ _ _ _ _
            have HK9 : Hid (Kpt W8 W9 (· = w.heap.size + 1 + 1)) := hk9
            unfold put6e at HW9
            clear hW9 hk9 HR8 HT8
            go_simp
            rw [HW9.out]
            refine hK.out _ _ HS9 (fun hS9 => ?_)
            clear hK q0 q1 q2 q3 q4 q5 s0 s1 s2 s3 s4 s5
            refine wpAnyH_ready (rs := [4]) (by kernel_rfl) (by simp) ?_
            refine AllReadyH.cons rfl (fun K hK => ?_) AllReadyH.nil
            rw [if_pos (by rfl)]
            go_simp
            refine hK.out _ _ HS9 (fun hS10 => ?_)
            clear hK
            refine wpAnyH_done (by kernel_rfl) ?_ _
            refine NoPanic.normal ?_
            go_wp2_with fail
            (try simp only [Exit.inBlock, Exit.then])
            have hkk : Kpt wv W9 (fun j => j = w.heap.size + 1 ∨ j = w.heap.size + 1 + 1) := (HK8.out.mono (fun j _ h => .inl h)).trans (HK9.out.mono (fun j _ h => .inr h))
            have hP9 := HPd.out.kpt hkk (fun j hj h => by
              have h1 : w3.heap.size ≤ j := by
                rcases hj with h2 | ⟨p, hp, hpb⟩
                · omega
                · exact ((HPd.out.recs p hp).lt j hpb).1
              omega)
            have hO9 := HOd.out.kpt hkk (fun j hj h => by have := HOd.out.lt j hj; omega)
            have hlM : M0.length = (A ++ (({ x with us := now } : EV), R) :: B).length := by rw [HAB.out]; simp
            refine bodyPost_ret (results_rrt rfl _ _ (w.heap.size + 1) (w.heap.size + 1 + 1) 30 44 #[.int .i64 now, .slice (some ⟨g, 0, none⟩) M0.length cp4] #[.string ⟨xl.toArray⟩, .int .i64 x.ty, .bool x.no, .slice a6 n6 c6, .int .i64 x.un, .int .i64 now] (0, 0) (0, 0) _ _ (.bool true) rfl rfl rfl HR9.out HT9.out Tryz.underlying30 rfl (by kernel_rfl) Tryz.underlying44 rfl (by kernel_rfl)) rfl ⟨?_, HBD.out.trans (hkk.below HBD.out.size (fun j hj h => by omega))⟩
            rw [← HXL.out]
            rw [← HD.out] at hO9
            refine kans_yes HGD.out HFE.out (.inr ⟨g, cp4, by rw [hlM], by rw [← hlM]; exact hc9, hm9, by omega, hP9.row, fun p hp => (hP9.recs p hp).base (by omega), hP9.apart, hP9.off⟩) HKE.out (hO9.base (by omega)) (fun j hj h => ?_)
            have h2 := (HOd.out.lt j h).1
            have h1 : j < g10 := by
              refine HAP.out j ?_
              rcases hj with h3 | h3
              · exact .inl (by have h4 : some g = some j := h3; injection h4 with h5; exact h5.symm)
              · exact .inr h3
            omega
      · have HF := HNOF.out (ask_no HM0.out (fun j hj => HA.out j hj (by omega)))
        have HRr : Hid (CBox wr (w.heap.size + 1) (.int .i64 0) (.slice none 0 0)) := HR5.out.kept hbB
        have HTr : Hid (EBox wr (w.heap.size + 1 + 1) (.string ⟨#[]⟩) (.int .i64 0) (.bool false) (.slice none 0 0) (.int .i64 0) (.int .i64 0)) := HT5.out.kept hbB
        have hbwr : Below w.heap.size w wr := HBW5.out.trans (hbB.mono HBW5.out.size)
        clear HNOF
        obtain ⟨d0, d1⟩ := HRr.out.cells
        obtain ⟨f0, f1⟩ := HRr.out.free
        obtain ⟨q0, q1, q2, q3, q4, q5⟩ := HTr.out.cells
        obtain ⟨s0, s1, s2, s3, s4, s5⟩ := HTr.out.free
        go_wp2_with fail
        (try simp only [Exit.inBlock, Exit.then])
        have hkc : Kpt wr ((wr.setCell ⟨w.heap.size + 1, 0, none⟩ (.int .i64 0)).setCell ⟨w.heap.size + 1, 1, none⟩ (.slice none 0 0)) (· = w.heap.size + 1) := (kpt_set wr (w.heap.size + 1) 0 _ (S := (· = w.heap.size + 1)) rfl).trans (kpt_set _ (w.heap.size + 1) 1 _ rfl)
        have hke := put6e_kpt ((wr.setCell ⟨w.heap.size + 1, 0, none⟩ (.int .i64 0)).setCell ⟨w.heap.size + 1, 1, none⟩ (.slice none 0 0)) (w.heap.size + 1 + 1) (.string ⟨#[]⟩) (.int .i64 0) (.bool false) (.slice none 0 0) (.int .i64 0) (.int .i64 0)
        have hz9 : ((wr.setCell ⟨w.heap.size + 1, 0, none⟩ (.int .i64 0)).setCell ⟨w.heap.size + 1, 1, none⟩ (.slice none 0 0)).heap.size = wr.heap.size := by simp
        refine bodyPost_ret (results_rrt rfl _ _ (w.heap.size + 1) (w.heap.size + 1 + 1) 30 44 #[.int .i64 0, .slice none 0 0] #[.string ⟨#[]⟩, .int .i64 0, .bool false, .slice none 0 0, .int .i64 0, .int .i64 0] (0, 0) (0, 0) _ _ (.bool false) rfl rfl rfl (((HRr.out.set0 _).set1 _).kpt hke (by omega)) ((HTr.out.kpt hkc (by omega)).put (.string ⟨#[]⟩) (.int .i64 0) (.bool false) (.slice none 0 0) (.int .i64 0) (.int .i64 0)) Tryz.underlying30 rfl (by kernel_rfl) Tryz.underlying44 rfl (by kernel_rfl)) rfl ⟨HF _ _, (hbwr.trans (hkc.below hbwr.size (fun j hj h => by omega))).trans (hke.below (by rw [hz9]; exact hbwr.size) (fun j hj h => by omega))⟩
end Go.Proofs.YtgfiahfoghnpkaaGreatDoor

namespace Go.Proofs.YtgfiahfoghnpkaaGreatDoor.askCache
open Go.RowKit Go.Maps

theorem markE_own : ∀ (K : Nat) (M : List (EV × RecL)) (k : Nat), (∃ p ∈ markE K M, p.1.sl.ownBlock = some k) ↔ ∃ p ∈ M, p.1.sl.ownBlock = some k
  | _, [], k => by simp [markE]
  | K, x :: r, k => by
    have ih := markE_own (K + 5 + 4 * x.2.length) r k
    have e : (mkE K x).1.sl = x.1.sl := rfl
    rw [markE_cons]
    simp only [List.mem_cons, or_and_right, exists_or, exists_eq_left]
    rw [ih, e]
theorem mark_in {v : Value} {M : List (EV × RecL)} (k : Nat) : inC v (markE 1 M) k ↔ inC v M k := by
  unfold inC
  rw [markE_own]
theorem ask_wt (now : Int) (nm : List UInt8) (ty : Int) : ∀ L : List EntT, wtE (askK now nm ty L) = wtE L
  | [] => rfl
  | x :: r => by
    have ih := ask_wt now nm ty r
    have e : ∀ y : EntT, ∀ s : List EntT, wtE (y :: s) = wtE1 y + wtE s := fun y s => by simp [wtE]
    have e2 : askK now nm ty (x :: r) = (if askP nm ty x = true then useT now x else x) :: askK now nm ty r := rfl
    rw [e2, e, e, ih]
    split
    · rfl
    · rfl
theorem ask_len (now : Int) (nm : List UInt8) (ty : Int) (L : List EntT) : (askK now nm ty L).length = L.length := by unfold askK; rw [List.length_map]
theorem ask_small (b : Bool) (now : Int) (nm : List UInt8) (ty : Int) (L : List EntT) (h : L.length + wtE L ≤ 1048576) : ((if b = true then askK now nm ty L else []).length + wtE (if b = true then askK now nm ty L else []) ≤ 4000000 ∧ ∀ x ∈ (if b = true then askK now nm ty L else []), x.2.2.2.1.length ≤ 1048576 ∧ (if b = true then askK now nm ty L else []).length ≤ 1048576) ∧ ((if b = true then tellE now ((askF nm ty L).getD zeT) else zeT) : EntT).2.2.2.1.length ≤ 1048576 := by
  cases b with
  | false => exact ⟨⟨by simp [wtE], fun x hx => by simp at hx⟩, by simp [zeT]⟩
  | true =>
    simp only [if_true]
    have h1 := ask_wt now nm ty L
    have h2 := ask_len now nm ty L
    refine ⟨⟨by omega, fun x hx => ⟨?_, by omega⟩⟩, ?_⟩
    · have h3 := wtE_one hx
      unfold wtE1 at h3
      omega
    · show (List.map _ ((askF nm ty L).getD zeT).2.2.2.1).length ≤ 1048576
      rw [List.length_map]
      unfold askF
      cases hf : L.find? (askP nm ty) with
      | none => simp [zeT]
      | some y =>
        have h3 := wtE_one (List.mem_of_find?_eq_some hf)
        unfold wtE1 at h3
        simp only [Option.getD_some]
        omega
set_option maxRecDepth 20000 in
set_option maxHeartbeats 16000000 in
theorem core (now : Int) (va : Value) (L : List EntT) (n : ByteArray) (ty : Int) (nw : Int) (K : List EntT) (xn : List UInt8) (xt : Int) (xo : Bool) (X : RecL) (xu xs : Int) (ok : Bool) (w : World) (ha : ERow w va L) (hxa : Hid (∀ x ∈ L, EFit x)) (hE : EnvR w) (hn : n.size ≤ 1048576)
    (HK : Hid (L.length + wtE L ≤ 1048576 → (K.length + wtE K ≤ 4000000 ∧ ∀ x ∈ K, x.2.2.2.1.length ≤ 1048576 ∧ K.length ≤ 1048576) ∧ X.length ≤ 1048576))
    (HS0 : Hid (∀ g T W, L.length ≤ 1048576 → Hid (∀ x ∈ L, EBig x) → EOwn W g T L → Calls Tryz.prog 21 #[.agg #[.int .i64 now, .slice (some ⟨g, 0, none⟩) L.length L.length], .string n, .int .i64 ty] W fun e w' => (∃ v M a6 n6 c6, e = .returned (.tuple #[.agg #[.int .i64 nw, v], .agg #[.string ⟨xn.toArray⟩, .int .i64 xt, .bool xo, .slice a6 n6 c6, .int .i64 xu, .int .i64 xs], .bool ok]) ∧ CRel w' W.heap.size v M ∧ M.map conT = K ∧ OwnQ w' W.heap.size (.slice a6 n6 c6) X ∧ ∀ k, inC v M k → (Value.slice a6 n6 c6).ownBlock ≠ some k) ∧ Below W.heap.size W w'))
    (HI0 : Hid (∀ g T W, EnvR W → L.length ≤ 1048576 → Hid (∀ x ∈ L, EBig x) → EOwn W g T L → Calls Tryz.prog 22 #[.agg #[.int .i64 now, .slice (some ⟨g, 0, none⟩) L.length L.length], .string n, .int .i64 ty] W fun e w' => (∃ v M a6 n6 c6, e = .returned (.tuple #[.agg #[.int .i64 nw, v], .agg #[.string ⟨xn.toArray⟩, .int .i64 xt, .bool xo, .slice a6 n6 c6, .int .i64 xu, .int .i64 xs], .bool ok]) ∧ CRel w' W.heap.size v M ∧ M.map conT = K ∧ OwnQ w' W.heap.size (.slice a6 n6 c6) X ∧ ∀ k, inC v M k → (Value.slice a6 n6 c6).ownBlock ≠ some k) ∧ Below W.heap.size W w')) :
    Calls Tryz.prog 5 #[CchV now va, .string n, .int .i64 ty] w fun e w' => e = .returned (.bool true) ∧ Below w.heap.size w w' := by
  obtain ⟨aa, ca, hva, _, hca, _⟩ := id ha
  have gn : ¬ (1048576 : Int) < (n.size : Int) := by omega
  have HSZ : Hid (∀ W, Below w.heap.size w W → Calls Tryz.prog 8 #[CchV now va, .int .i64 1048576] W fun e w' => (∃ q : Int, e = .returned (.int .i64 q) ∧ (q = -1 ∨ (0 ≤ q ∧ q = 1048576 - (L.length : Int) - (wtE L : Int)))) ∧ Below W.heap.size W w') := fun W hW => szCache_any now va L 1048576 W (ha.kept hW) hxa (by omega) (by omega)
  have HTO : Hid (L.length ≤ 1048576 → Hid (∀ x ∈ L, EBig x) → ∀ W, Below w.heap.size w W → Calls Tryz.prog 11 #[CchV now va] W fun e w' => (∃ g T, e = .returned (CchV now (.slice (some ⟨g, 0, none⟩) L.length L.length)) ∧ W.heap.size ≤ g ∧ EOwn w' g T L) ∧ Below W.heap.size W w') := fun h1 h2 W hW => toCache_any now va L W (ha.kept hW) h1 h2
  have e_ok : (ok != ok) = false := by simp
  subst hva
  clear ha
  unfold CchV at HSZ HTO ⊢
  go_enter Tryz.func5, Tryz.ntmps5
  go_wp2_with fail
  refine (HSZ.out _ ((Below.refl w.heap.size w).alloc (Nat.le_refl _) _)).mono ?_
  rintro e w1 ⟨⟨q, rfl, hq⟩, hb1⟩
  have HBw1 : Hid (Below w.heap.size w w1) := ((Below.refl w.heap.size w).alloc (Nat.le_refl _) _).trans (hb1.mono (by simp))
  have HPw1 : Hid (w1.heap[w.heap.size]? = some (.cells #[.int .i64 now, .slice aa L.length ca] 24)) := (hb1.block w.heap.size (by simp)).trans (blk_new _ _)
  clear hb1 HSZ
  by_cases hq1 : q = -1
  · subst hq1
    clear hq
    go_wp2_with fail
    go_ret
    exact ⟨rfl, HBw1.out⟩
  rcases hq with rfl | ⟨hq0, hqe⟩
  · exact absurd rfl hq1
  obtain ⟨hL, hL2⟩ := sz_cache hq0 hqe
  have HL2 : Hid (∀ x ∈ L, EBig x) := hL2
  have HKB := HK.out (by omega)
  have HXL : Hid (X.length ≤ 1048576) := HKB.2
  have HKK : Hid (∀ M : List (EV × RecL), M.map conT = K → M.length ≤ 1048576 ∧ (∀ x ∈ M, x.2.length ≤ 1048576) ∧ totE M ≤ 200000000) := fun M h => con_small h HKB.1
  have HKX : Hid (∀ T, (evL T L).length ≤ 1048576 ∧ (∀ x ∈ evL T L, x.2.length ≤ 1048576) ∧ totE (evL T L) ≤ 200000000) := fun T => con_small (con_evL T L) ⟨by omega, fun x hx => ⟨(HL2.out x hx).2.1, hL⟩⟩
  have HT : Hid (∀ W, Below w.heap.size w W → Calls Tryz.prog 11 #[.agg #[.int .i64 now, .slice aa L.length ca]] W fun e w' => (∃ g T, e = .returned (.agg #[.int .i64 now, .slice (some ⟨g, 0, none⟩) L.length L.length]) ∧ W.heap.size ≤ g ∧ EOwn w' g T L) ∧ Below W.heap.size W w') := HTO.out hL HL2
  have HS : Hid (∀ g T W, EOwn W g T L → Calls Tryz.prog 21 #[.agg #[.int .i64 now, .slice (some ⟨g, 0, none⟩) L.length L.length], .string n, .int .i64 ty] W fun e w' => (∃ v M a6 n6 c6, e = .returned (.tuple #[.agg #[.int .i64 nw, v], .agg #[.string ⟨xn.toArray⟩, .int .i64 xt, .bool xo, .slice a6 n6 c6, .int .i64 xu, .int .i64 xs], .bool ok]) ∧ CRel w' W.heap.size v M ∧ M.map conT = K ∧ OwnQ w' W.heap.size (.slice a6 n6 c6) X ∧ ∀ k, inC v M k → (Value.slice a6 n6 c6).ownBlock ≠ some k) ∧ Below W.heap.size W w') := fun g T W h => HS0.out g T W hL HL2 h
  have HI : Hid (∀ g T W, EnvR W → EOwn W g T L → Calls Tryz.prog 22 #[.agg #[.int .i64 now, .slice (some ⟨g, 0, none⟩) L.length L.length], .string n, .int .i64 ty] W fun e w' => (∃ v M a6 n6 c6, e = .returned (.tuple #[.agg #[.int .i64 nw, v], .agg #[.string ⟨xn.toArray⟩, .int .i64 xt, .bool xo, .slice a6 n6 c6, .int .i64 xu, .int .i64 xs], .bool ok]) ∧ CRel w' W.heap.size v M ∧ M.map conT = K ∧ OwnQ w' W.heap.size (.slice a6 n6 c6) X ∧ ∀ k, inC v M k → (Value.slice a6 n6 c6).ownBlock ≠ some k) ∧ Below W.heap.size W w') := fun g T W hW h => HI0.out g T W hW hL HL2 h
  have HEX : Hid (∀ g1 g2 T1 T2 W, EOwn W g1 T1 L → EOwn W g2 T2 L → Calls Tryz.prog 14 #[.agg #[.int .i64 now, .slice (some ⟨g1, 0, none⟩) L.length L.length], .agg #[.int .i64 now, .slice (some ⟨g2, 0, none⟩) L.length L.length]] W fun e w' => e = .returned (.bool true) ∧ Below W.heap.size W w') := fun g1 g2 T1 T2 W h1 h2 => eqCache_same now _ _ L W (h1.row HL2.out (Nat.le_refl _) (by unfold maxLen; omega)) (h2.row HL2.out (Nat.le_refl _) (by unfold maxLen; omega))
  have HEG : Hid (∀ v v2 W, ERow W v K → ERow W v2 K → Calls Tryz.prog 14 #[.agg #[.int .i64 nw, v], .agg #[.int .i64 nw, v2]] W fun e w' => e = .returned (.bool true) ∧ Below W.heap.size W w') := fun v v2 W h1 h2 => eqCache_same nw v v2 K W h1 h2
  have HEE : Hid (∀ v v2 W, RRow W v X → RRow W v2 X → Calls Tryz.prog 23 #[.agg #[.string ⟨xn.toArray⟩, .int .i64 xt, .bool xo, v, .int .i64 xu, .int .i64 xs], .agg #[.string ⟨xn.toArray⟩, .int .i64 xt, .bool xo, v2, .int .i64 xu, .int .i64 xs]] W fun e w' => e = .returned (.bool true) ∧ Below W.heap.size W w') := fun v v2 W h1 h2 => eqEntry_same (xn, xt, xo, X, xu, xs) v v2 W h1 h2
  have HMX : Hid (∀ g T W, EOwn W g T L → Calls Tryz.prog 16 #[.agg #[.int .i64 now, .slice (some ⟨g, 0, none⟩) L.length L.length], .int .i64 1] W fun e w' => (∃ qx : Int, e = .returned (.int .i64 qx) ∧ 0 ≤ qx) ∧ Kpt W w' (inC (.slice (some ⟨g, 0, none⟩) L.length L.length) (evL T L))) := fun g T W h => (markCache_any now _ g (evL T L) W (eown_crel h HL2.out hL) (HKX.out T)).mono fun e w' h2 => ⟨⟨_, h2.1, by omega⟩, h2.2.2⟩
  clear hqe hL2 HS0 HI0 HTO HKX HKB HK hq1
  obtain ⟨p0, p1⟩ := cch_cells HPw1.out
  go_wp2_with fail
  refine (HT.out _ HBw1.out).mono ?_
  rintro e w2 ⟨⟨g1, T1, rfl, hg1, hq2⟩, hb2⟩
  clear p0 p1
  have HPw2 : Hid (w2.heap[w.heap.size]? = some (.cells #[.int .i64 now, .slice aa L.length ca] 24)) := blk_kept HPw1.out hb2
  have HBw2 : Hid (Below w.heap.size w w2) := HBw1.out.trans (hb2.mono HBw1.out.size)
  have HQ2 : Hid (EOwn w2 g1 T1 L) := hq2
  clear hq2 hg1 hb2
  clear HPw1 HBw1 
  go_wp2_with fail
  refine (HS.out g1 T1 _ HQ2.out).mono ?_
  rintro e w3 ⟨⟨v0, M0, b0, m0, d0, rfl, hR0, hM0, hO0, hA0⟩, hb3⟩
  obtain ⟨a0, n0, c0, hv0⟩ := hR0.shape
  subst hv0
  have HRW : Hid (∀ W, Below w3.heap.size w3 W → ERow W (.slice a0 n0 c0) K ∧ RRow W (.slice b0 m0 d0) X) := fun W hW => ⟨by have h := (hR0.kept hW).row; rw [hM0] at h; exact h, (hO0.kept hW).row⟩
  have HPw3 : Hid (w3.heap[w.heap.size]? = some (.cells #[.int .i64 now, .slice aa L.length ca] 24)) := blk_kept HPw2.out hb3
  have HBw3 : Hid (Below w.heap.size w w3) := HBw2.out.trans (hb3.mono HBw2.out.size)
  have HZ1 : Hid (w.heap.size < w3.heap.size) := (Array.getElem?_eq_some_iff.1 HPw3.out).1
  obtain ⟨V3, hV3⟩ : ∃ V, V = (w3.alloc (.cells #[.int .i64 nw, .slice a0 n0 c0] 30)).alloc (.cells #[.string ⟨xn.toArray⟩, .int .i64 xt, .bool xo, .slice b0 m0 d0, .int .i64 xu, .int .i64 xs] 44) := ⟨_, rfl⟩
  have HV3 : Hid ((w3.alloc (.cells #[.int .i64 nw, .slice a0 n0 c0] 30)).alloc (.cells #[.string ⟨xn.toArray⟩, .int .i64 xt, .bool xo, .slice b0 m0 d0, .int .i64 xu, .int .i64 xs] 44) = V3) := hV3.symm
  have hsV3 : (w3.alloc (.cells #[.int .i64 nw, .slice a0 n0 c0] 30)).heap.size = w3.heap.size + 1 := by simp
  have hbV3 : Below w3.heap.size w3 V3 := by rw [hV3]; exact ((Below.refl _ _).alloc (Nat.le_refl _) _).alloc (by simp) _
  have hzV3 : V3.heap.size = w3.heap.size + 1 + 1 := by rw [hV3]; simp
  have HWV3 : Hid (CBox V3 w3.heap.size (.int .i64 nw) (.slice a0 n0 c0)) := by rw [hV3]; exact (cbox_new w3).kpt (kpt_alloc _ _ (fun _ => False)) id
  have HWEV3 : Hid (EBox V3 (w3.heap.size + 1) (.string ⟨xn.toArray⟩) (.int .i64 xt) (.bool xo) (.slice b0 m0 d0) (.int .i64 xu) (.int .i64 xs)) := by
    rw [hV3]
    have h := ebox_new (w3.alloc (.cells #[.int .i64 nw, .slice a0 n0 c0] 30)) (v0 := .string ⟨xn.toArray⟩) (v1 := .int .i64 xt) (v2 := .bool xo) (v3 := .slice b0 m0 d0) (v4 := .int .i64 xu) (v5 := .int .i64 xs)
    rw [hsV3] at h
    exact h
  clear hV3 hsV3
  have HPV3 : Hid (V3.heap[w.heap.size]? = some (.cells #[.int .i64 now, .slice aa L.length ca] 24)) := blk_kept HPw3.out hbV3
  have HBV3 : Hid (Below w.heap.size w V3) := HBw3.out.trans (hbV3.mono HBw3.out.size)
  have HB3V3 : Hid (Below w3.heap.size w3 V3) := hbV3
  have HZ2 : Hid (V3.heap.size = w3.heap.size + 1 + 1) := hzV3
  obtain ⟨p0, p1⟩ := cch_cells HPw3.out
  have hlt3 : w.heap.size < w3.heap.size := HZ1.out
  clear hb3 hR0 hM0 hO0 hA0 hbV3 hzV3 HS HQ2
  clear HPw2 HBw2 
  go_wp2_with fail
  rw [HV3.out]
  clear p0 p1 hlt3 HV3 HPw3 HBw3
  refine (HT.out _ HBV3.out).mono ?_
  rintro e w4 ⟨⟨g3, T3, rfl, hg3, hq4⟩, hb4⟩
  have HPw4 : Hid (w4.heap[w.heap.size]? = some (.cells #[.int .i64 now, .slice aa L.length ca] 24)) := blk_kept HPV3.out hb4
  have HBw4 : Hid (Below w.heap.size w w4) := HBV3.out.trans (hb4.mono HBV3.out.size)
  have HB3w4 : Hid (Below w3.heap.size w3 w4) := HB3V3.out.trans (hb4.mono HB3V3.out.size)
  have HWw4 : Hid (CBox w4 w3.heap.size (.int .i64 nw) (.slice a0 n0 c0)) := HWV3.out.kept hb4
  have HWEw4 : Hid (EBox w4 (w3.heap.size + 1) (.string ⟨xn.toArray⟩) (.int .i64 xt) (.bool xo) (.slice b0 m0 d0) (.int .i64 xu) (.int .i64 xs)) := HWEV3.out.kept hb4
  obtain ⟨V4, hV4⟩ : ∃ V, V = w4.alloc (.cells #[.int .i64 now, .slice (some ⟨g3, 0, none⟩) L.length L.length] 30) := ⟨_, rfl⟩
  have HV4 : Hid (w4.alloc (.cells #[.int .i64 now, .slice (some ⟨g3, 0, none⟩) L.length L.length] 30) = V4) := hV4.symm
  have hbV4 : Below w4.heap.size w4 V4 := by rw [hV4]; exact (Below.refl _ _).alloc (Nat.le_refl _) _
  have HXV4 : Hid (CBox V4 w4.heap.size (.int .i64 now) (.slice (some ⟨g3, 0, none⟩) L.length L.length)) := by rw [hV4]; exact cbox_new w4
  have HZ4 : Hid (w.heap.size < w3.heap.size ∧ w3.heap.size + 1 + 1 ≤ g3 ∧ g3 < w4.heap.size ∧ V4.heap.size = w4.heap.size + 1) := ⟨HZ1.out, by rw [← HZ2.out]; exact hg3, hq4.1, by rw [hV4]; simp⟩
  have HXL4 : Hid (∀ k, inC (.slice (some ⟨g3, 0, none⟩) L.length L.length) (evL T3 L) k → g3 ≤ k ∧ k < w4.heap.size) := fun k hk => (eown_crel hq4 HL2.out hL).lt k hk
  have HQw4 : Hid (EOwn w4 g3 T3 L) := hq4
  have HPV4 : Hid (V4.heap[w.heap.size]? = some (.cells #[.int .i64 now, .slice aa L.length ca] 24)) := blk_kept HPw4.out hbV4
  have HBV4 : Hid (Below w.heap.size w V4) := HBw4.out.trans (hbV4.mono HBw4.out.size)
  have HB3V4 : Hid (Below w3.heap.size w3 V4) := HB3w4.out.trans (hbV4.mono HB3w4.out.size)
  have HWV4 : Hid (CBox V4 w3.heap.size (.int .i64 nw) (.slice a0 n0 c0)) := HWw4.out.kept hbV4
  have HWEV4 : Hid (EBox V4 (w3.heap.size + 1) (.string ⟨xn.toArray⟩) (.int .i64 xt) (.bool xo) (.slice b0 m0 d0) (.int .i64 xu) (.int .i64 xs)) := HWEw4.out.kept hbV4
  have HQV4 : Hid (EOwn V4 g3 T3 L) := HQw4.out.kept hbV4
  clear hq4 hg3 hb4 hV4 hbV4 HZ1 HZ2
  clear HPV3 HBV3 HB3V3 HWV3 HWEV3 
  go_wp2_with fail
  rw [HV4.out]
  clear HPw4 HBw4 HB3w4 HWw4 HWEw4 HQw4 HV4
  refine (HI.out g3 T3 _ (hE.below HBV4.out) HQV4.out).mono ?_
  rintro e w6 ⟨⟨v1, M1, b1, m1, d1, rfl, hR1, hM1, hO1, hA1⟩, hb6⟩
  obtain ⟨a1, n1, c1, hv1⟩ := hR1.shape
  subst hv1
  have HM1 : Hid (M1.map conT = K) := hM1
  have HPw6 : Hid (w6.heap[w.heap.size]? = some (.cells #[.int .i64 now, .slice aa L.length ca] 24)) := blk_kept HPV4.out hb6
  have HBw6 : Hid (Below w.heap.size w w6) := HBV4.out.trans (hb6.mono HBV4.out.size)
  have HB3w6 : Hid (Below w3.heap.size w3 w6) := HB3V4.out.trans (hb6.mono HB3V4.out.size)
  have HWw6 : Hid (CBox w6 w3.heap.size (.int .i64 nw) (.slice a0 n0 c0)) := HWV4.out.kept hb6
  have HWEw6 : Hid (EBox w6 (w3.heap.size + 1) (.string ⟨xn.toArray⟩) (.int .i64 xt) (.bool xo) (.slice b0 m0 d0) (.int .i64 xu) (.int .i64 xs)) := HWEV4.out.kept hb6
  have HXw6 : Hid (CBox w6 w4.heap.size (.int .i64 now) (.slice (some ⟨g3, 0, none⟩) L.length L.length)) := HXV4.out.kept hb6
  have HQw6 : Hid (EOwn w6 g3 T3 L) := HQV4.out.kept hb6
  have HRw6 : Hid (CRel w6 V4.heap.size (.slice a1 n1 c1) M1) := hR1
  have HOw6 : Hid (OwnQ w6 V4.heap.size (.slice b1 m1 d1) X) := hO1
  have HRL : Hid (∀ k, inC (.slice a1 n1 c1) M1 k → V4.heap.size ≤ k ∧ k < w6.heap.size ∧ (Value.slice b1 m1 d1).ownBlock ≠ some k) := fun k hk => ⟨(hR1.lt k hk).1, (hR1.lt k hk).2, hA1 k hk⟩
  have HOL : Hid (∀ k, (Value.slice b1 m1 d1).ownBlock = some k → V4.heap.size ≤ k ∧ k < w6.heap.size) := fun k hk => hO1.lt k hk
  have HZ6 : Hid (V4.heap.size ≤ w6.heap.size) := hb6.size
  obtain ⟨V6, hV6⟩ : ∃ V, V = (w6.alloc (.cells #[.int .i64 nw, .slice a1 n1 c1] 30)).alloc (.cells #[.string ⟨xn.toArray⟩, .int .i64 xt, .bool xo, .slice b1 m1 d1, .int .i64 xu, .int .i64 xs] 44) := ⟨_, rfl⟩
  have HV6 : Hid ((w6.alloc (.cells #[.int .i64 nw, .slice a1 n1 c1] 30)).alloc (.cells #[.string ⟨xn.toArray⟩, .int .i64 xt, .bool xo, .slice b1 m1 d1, .int .i64 xu, .int .i64 xs] 44) = V6) := hV6.symm
  have hsV6 : (w6.alloc (.cells #[.int .i64 nw, .slice a1 n1 c1] 30)).heap.size = w6.heap.size + 1 := by simp
  have hbV6 : Below w6.heap.size w6 V6 := by rw [hV6]; exact ((Below.refl _ _).alloc (Nat.le_refl _) _).alloc (by simp) _
  have hzV6 : V6.heap.size = w6.heap.size + 1 + 1 := by rw [hV6]; simp
  have HGV6 : Hid (CBox V6 w6.heap.size (.int .i64 nw) (.slice a1 n1 c1)) := by rw [hV6]; exact (cbox_new w6).kpt (kpt_alloc _ _ (fun _ => False)) id
  have HGEV6 : Hid (EBox V6 (w6.heap.size + 1) (.string ⟨xn.toArray⟩) (.int .i64 xt) (.bool xo) (.slice b1 m1 d1) (.int .i64 xu) (.int .i64 xs)) := by
    rw [hV6]
    have h := ebox_new (w6.alloc (.cells #[.int .i64 nw, .slice a1 n1 c1] 30)) (v0 := .string ⟨xn.toArray⟩) (v1 := .int .i64 xt) (v2 := .bool xo) (v3 := .slice b1 m1 d1) (v4 := .int .i64 xu) (v5 := .int .i64 xs)
    rw [hsV6] at h
    exact h
  clear hV6 hsV6
  have HPV6 : Hid (V6.heap[w.heap.size]? = some (.cells #[.int .i64 now, .slice aa L.length ca] 24)) := blk_kept HPw6.out hbV6
  have HBV6 : Hid (Below w.heap.size w V6) := HBw6.out.trans (hbV6.mono HBw6.out.size)
  have HB3V6 : Hid (Below w3.heap.size w3 V6) := HB3w6.out.trans (hbV6.mono HB3w6.out.size)
  have HWV6 : Hid (CBox V6 w3.heap.size (.int .i64 nw) (.slice a0 n0 c0)) := HWw6.out.kept hbV6
  have HWEV6 : Hid (EBox V6 (w3.heap.size + 1) (.string ⟨xn.toArray⟩) (.int .i64 xt) (.bool xo) (.slice b0 m0 d0) (.int .i64 xu) (.int .i64 xs)) := HWEw6.out.kept hbV6
  have HXV6 : Hid (CBox V6 w4.heap.size (.int .i64 now) (.slice (some ⟨g3, 0, none⟩) L.length L.length)) := HXw6.out.kept hbV6
  have HQV6 : Hid (EOwn V6 g3 T3 L) := HQw6.out.kept hbV6
  have HRV6 : Hid (CRel V6 V4.heap.size (.slice a1 n1 c1) M1) := HRw6.out.kept hbV6
  have HOV6 : Hid (OwnQ V6 V4.heap.size (.slice b1 m1 d1) X) := HOw6.out.kept hbV6
  have HERG : Hid (∀ W, CRel W V4.heap.size (.slice a1 n1 c1) M1 → ERow W (.slice a1 n1 c1) K) := fun W h1 => by have h := h1.row; rw [HM1.out] at h; exact h
  obtain ⟨qg, hqg⟩ : ∃ q : Int, q = 1 + (totE M1 : Int) := ⟨_, rfl⟩
  obtain ⟨qe, hqe⟩ : ∃ q : Int, q = qg + 4 * (X.length : Int) := ⟨_, rfl⟩
  have HKM := HKK.out M1 HM1.out
  have hcast : ((1 + totE M1 : Nat) : Int) = qg := by rw [hqg]; simp
  have HMG : Hid (∀ W, CRel W V4.heap.size (.slice a1 n1 c1) M1 → Calls Tryz.prog 16 #[.agg #[.int .i64 nw, .slice a1 n1 c1], .int .i64 1] W fun e w' => e = .returned (.int .i64 qg) ∧ CRel w' V4.heap.size (.slice a1 n1 c1) (markE 1 M1) ∧ Kpt W w' (inC (.slice a1 n1 c1) M1)) := fun W h => by rw [hqg]; exact markCache_any nw _ _ M1 W h HKM
  have HHG : Hid (∀ W, CRel W V4.heap.size (.slice a1 n1 c1) (markE 1 M1) → Calls Tryz.prog 18 #[.agg #[.int .i64 nw, .slice a1 n1 c1], .int .i64 1] W fun e w' => e = .returned (.int .i64 qg) ∧ Below W.heap.size W w') := fun W h => by rw [hqg]; exact heldCache_any nw _ _ M1 W h HKM
  have HME : Hid (∀ W, OwnQ W V4.heap.size (.slice b1 m1 d1) X → Calls Tryz.prog 24 #[.agg #[.string ⟨xn.toArray⟩, .int .i64 xt, .bool xo, .slice b1 m1 d1, .int .i64 xu, .int .i64 xs], .int .i64 qg] W fun e w' => e = .returned (.int .i64 qe) ∧ OwnQ w' V4.heap.size (.slice b1 m1 d1) (mrks (1 + totE M1) X.length) ∧ Kpt W w' (fun k => (Value.slice b1 m1 d1).ownBlock = some k)) := fun W h => by rw [hqe, ← hcast]; exact markEntry_any _ _ _ _ _ b1 m1 d1 X _ (1 + totE M1) W h HXL.out (by omega) (by have h9 := HKM.2.2; omega)
  have HHE : Hid (∀ W, RRow W (.slice b1 m1 d1) (mrks (1 + totE M1) X.length) → Calls Tryz.prog 25 #[.agg #[.string ⟨xn.toArray⟩, .int .i64 xt, .bool xo, .slice b1 m1 d1, .int .i64 xu, .int .i64 xs], .int .i64 qg] W fun e w' => e = .returned (.int .i64 qe) ∧ Below W.heap.size W w') := fun W h => by rw [hqe, ← hcast]; exact heldEntry_any _ _ _ _ _ b1 m1 d1 X.length (1 + totE M1) W h HXL.out (by omega) (by have h9 := HKM.2.2; omega)
  have hqg0 : decide (qg < 0) = false := by simp; omega
  have hqe0 : decide (qe < 0) = false := by simp; omega
  have hqq : (qe != qe) = false := by simp
  have HZV6 : Hid (V6.heap.size = w6.heap.size + 1 + 1) := hzV6
  obtain ⟨k0, k1⟩ := HWw6.out.cells
  have hlt36 : w3.heap.size < w6.heap.size := HWw6.out.lt
  clear hqg hqe hcast HKM hR1 hM1 hO1 hA1 hb6 hbV6 hzV6 HKK
  clear HPV4 HBV4 HB3V4 HWV4 HWEV4 HXV4 HQV4 
  go_wp2_with fail
  rw [HV6.out]
  clear k0 k1 hlt36 HV6
  clear HPw6 HBw6 HB3w6 HWw6 HWEw6 HXw6 HQw6 HRw6 HOw6 
  refine (HEG.out _ _ _ (HERG.out _ HRV6.out) (HRW.out _ HB3V6.out).1).mono ?_
  rintro e w7 ⟨rfl, hb7⟩
  have HPw7 : Hid (w7.heap[w.heap.size]? = some (.cells #[.int .i64 now, .slice aa L.length ca] 24)) := blk_kept HPV6.out hb7
  have HBw7 : Hid (Below w.heap.size w w7) := HBV6.out.trans (hb7.mono HBV6.out.size)
  have HB3w7 : Hid (Below w3.heap.size w3 w7) := HB3V6.out.trans (hb7.mono HB3V6.out.size)
  have HWw7 : Hid (CBox w7 w3.heap.size (.int .i64 nw) (.slice a0 n0 c0)) := HWV6.out.kept hb7
  have HWEw7 : Hid (EBox w7 (w3.heap.size + 1) (.string ⟨xn.toArray⟩) (.int .i64 xt) (.bool xo) (.slice b0 m0 d0) (.int .i64 xu) (.int .i64 xs)) := HWEV6.out.kept hb7
  have HXw7 : Hid (CBox w7 w4.heap.size (.int .i64 now) (.slice (some ⟨g3, 0, none⟩) L.length L.length)) := HXV6.out.kept hb7
  have HQw7 : Hid (EOwn w7 g3 T3 L) := HQV6.out.kept hb7
  have HRw7 : Hid (CRel w7 V4.heap.size (.slice a1 n1 c1) M1) := HRV6.out.kept hb7
  have HOw7 : Hid (OwnQ w7 V4.heap.size (.slice b1 m1 d1) X) := HOV6.out.kept hb7
  have HGw7 : Hid (CBox w7 w6.heap.size (.int .i64 nw) (.slice a1 n1 c1)) := HGV6.out.kept hb7
  have HGEw7 : Hid (EBox w7 (w6.heap.size + 1) (.string ⟨xn.toArray⟩) (.int .i64 xt) (.bool xo) (.slice b1 m1 d1) (.int .i64 xu) (.int .i64 xs)) := HGEV6.out.kept hb7
  have HZ7 : Hid (V6.heap.size ≤ w7.heap.size) := hb7.size
  clear hb7
  clear HPV6 HBV6 HB3V6 HWV6 HWEV6 HXV6 HQV6 HRV6 HOV6 HGV6 HGEV6 
  obtain ⟨k0, k1, k2, k3, k4, k5⟩ := HGEw7.out.cells
  obtain ⟨l0, l1, l2, l3, l4, l5⟩ := HWEw7.out.cells
  go_wp2_with fail
  clear k0 k1 k2 k3 k4 k5 l0 l1 l2 l3 l4 l5
  refine (HEE.out _ _ _ HOw7.out.row (HRW.out _ HB3w7.out).2).mono ?_
  rintro e w8 ⟨rfl, hb8⟩
  have HPw8 : Hid (w8.heap[w.heap.size]? = some (.cells #[.int .i64 now, .slice aa L.length ca] 24)) := blk_kept HPw7.out hb8
  have HBw8 : Hid (Below w.heap.size w w8) := HBw7.out.trans (hb8.mono HBw7.out.size)
  have HB3w8 : Hid (Below w3.heap.size w3 w8) := HB3w7.out.trans (hb8.mono HB3w7.out.size)
  have HWw8 : Hid (CBox w8 w3.heap.size (.int .i64 nw) (.slice a0 n0 c0)) := HWw7.out.kept hb8
  have HWEw8 : Hid (EBox w8 (w3.heap.size + 1) (.string ⟨xn.toArray⟩) (.int .i64 xt) (.bool xo) (.slice b0 m0 d0) (.int .i64 xu) (.int .i64 xs)) := HWEw7.out.kept hb8
  have HXw8 : Hid (CBox w8 w4.heap.size (.int .i64 now) (.slice (some ⟨g3, 0, none⟩) L.length L.length)) := HXw7.out.kept hb8
  have HQw8 : Hid (EOwn w8 g3 T3 L) := HQw7.out.kept hb8
  have HRw8 : Hid (CRel w8 V4.heap.size (.slice a1 n1 c1) M1) := HRw7.out.kept hb8
  have HOw8 : Hid (OwnQ w8 V4.heap.size (.slice b1 m1 d1) X) := HOw7.out.kept hb8
  have HGw8 : Hid (CBox w8 w6.heap.size (.int .i64 nw) (.slice a1 n1 c1)) := HGw7.out.kept hb8
  have HGEw8 : Hid (EBox w8 (w6.heap.size + 1) (.string ⟨xn.toArray⟩) (.int .i64 xt) (.bool xo) (.slice b1 m1 d1) (.int .i64 xu) (.int .i64 xs)) := HGEw7.out.kept hb8
  have HZ8 : Hid (V6.heap.size ≤ w8.heap.size) := Nat.le_trans HZ7.out hb8.size
  clear hb8 HZ7
  clear HPw7 HBw7 HB3w7 HWw7 HWEw7 HXw7 HQw7 HRw7 HOw7 HGw7 HGEw7 
  have HC : Hid (∀ W, Below w8.heap.size w8 W → (W.cell? ⟨w.heap.size, 0, none⟩ = some (.int .i64 now) ∧ W.cell? ⟨w.heap.size, 1, none⟩ = some (.slice aa L.length ca)) ∧ (W.cell? ⟨w4.heap.size, 0, none⟩ = some (.int .i64 now) ∧ W.cell? ⟨w4.heap.size, 1, none⟩ = some (.slice (some ⟨g3, 0, none⟩) L.length L.length)) ∧ Below w8.heap.size w8 W) := fun W hW =>
    ⟨cch_cells (blk_kept HPw8.out hW), (HXw8.out.kept hW).cells, hW⟩
  have HT8 : Hid (∀ W, Below w8.heap.size w8 W → Calls Tryz.prog 11 #[.agg #[.int .i64 now, .slice aa L.length ca]] W fun e w' => (∃ g T, e = .returned (.agg #[.int .i64 now, .slice (some ⟨g, 0, none⟩) L.length L.length]) ∧ W.heap.size ≤ g ∧ EOwn w' g T L) ∧ Below W.heap.size W w') := fun W hW => HT.out W (HBw8.out.trans (hW.mono HBw8.out.size))
  have HEX8 : Hid (∀ g2 T2 W, Below w8.heap.size w8 W → EOwn W g2 T2 L → Calls Tryz.prog 14 #[.agg #[.int .i64 now, .slice (some ⟨g3, 0, none⟩) L.length L.length], .agg #[.int .i64 now, .slice (some ⟨g2, 0, none⟩) L.length L.length]] W fun e w' => e = .returned (.bool true) ∧ Below W.heap.size W w') := fun g2 T2 W hW h2 => HEX.out g3 g2 T3 T2 W (HQw8.out.kept hW) h2
  have HTR : Hid (∀ W W', Below w8.heap.size w8 W → Below W.heap.size W W' → Below w8.heap.size w8 W') := fun W W' h1 h2 => h1.trans (h2.mono h1.size)
  have hbz : Below w8.heap.size w8 w8 := Below.refl _ _
  have hbd : Below w8.heap.size w8 w8.drew := (Below.refl _ _).drew
  go_wp2_with fail
  go_region_held3 (fun W => (W.cell? ⟨w.heap.size, 0, none⟩ = some (.int .i64 now) ∧ W.cell? ⟨w.heap.size, 1, none⟩ = some (.slice aa L.length ca)) ∧ (W.cell? ⟨w4.heap.size, 0, none⟩ = some (.int .i64 now) ∧ W.cell? ⟨w4.heap.size, 1, none⟩ = some (.slice (some ⟨g3, 0, none⟩) L.length L.length)) ∧ Below w8.heap.size w8 W) (first | exact HC.out _ (by assumption) | exact HC.out _ (Below.drew (by assumption)))
    (first
    | (go_at_call 11; refine (HT8.out _ (by assumption)).mono ?_; rintro e wa ⟨⟨g5, T5, rfl, _, hqa⟩, hba⟩; have hb8a := HTR.out _ _ (by assumption) hba)
    | (go_at_call 14; refine (HEX8.out _ _ _ (by assumption) (by assumption)).mono ?_; rintro e w9 ⟨rfl, hb9⟩; have hb89 := HTR.out _ _ (by assumption) hb9))
  have HPw9 : Hid (w9.heap[w.heap.size]? = some (.cells #[.int .i64 now, .slice aa L.length ca] 24)) := blk_kept HPw8.out hb89
  have HBw9 : Hid (Below w.heap.size w w9) := HBw8.out.trans (hb89.mono HBw8.out.size)
  have HB3w9 : Hid (Below w3.heap.size w3 w9) := HB3w8.out.trans (hb89.mono HB3w8.out.size)
  have HWw9 : Hid (CBox w9 w3.heap.size (.int .i64 nw) (.slice a0 n0 c0)) := HWw8.out.kept hb89
  have HWEw9 : Hid (EBox w9 (w3.heap.size + 1) (.string ⟨xn.toArray⟩) (.int .i64 xt) (.bool xo) (.slice b0 m0 d0) (.int .i64 xu) (.int .i64 xs)) := HWEw8.out.kept hb89
  have HXw9 : Hid (CBox w9 w4.heap.size (.int .i64 now) (.slice (some ⟨g3, 0, none⟩) L.length L.length)) := HXw8.out.kept hb89
  have HQw9 : Hid (EOwn w9 g3 T3 L) := HQw8.out.kept hb89
  have HRw9 : Hid (CRel w9 V4.heap.size (.slice a1 n1 c1) M1) := HRw8.out.kept hb89
  have HOw9 : Hid (OwnQ w9 V4.heap.size (.slice b1 m1 d1) X) := HOw8.out.kept hb89
  have HGw9 : Hid (CBox w9 w6.heap.size (.int .i64 nw) (.slice a1 n1 c1)) := HGw8.out.kept hb89
  have HGEw9 : Hid (EBox w9 (w6.heap.size + 1) (.string ⟨xn.toArray⟩) (.int .i64 xt) (.bool xo) (.slice b1 m1 d1) (.int .i64 xu) (.int .i64 xs)) := HGEw8.out.kept hb89
  have HZ9 : Hid (V6.heap.size ≤ w9.heap.size) := Nat.le_trans HZ8.out hb89.size
  clear HC HT8 HEX8 HTR hb89 hbz hbd HZ8
  clear HPw8 HBw8 HB3w8 HWw8 HWEw8 HXw8 HQw8 HRw8 HOw8 HGw8 HGEw8 
  obtain ⟨k0, k1⟩ := HXw9.out.cells
  go_wp2_with fail
  clear k0 k1
  refine (HMX.out g3 T3 _ HQw9.out).mono ?_
  rintro e w10 ⟨⟨qx, rfl, hqx⟩, hk10⟩
  have hqx0 : decide (qx < 0) = false := by simp; omega
  have HPw10 : Hid (w10.heap[w.heap.size]? = some (.cells #[.int .i64 now, .slice aa L.length ca] 24)) := blk_kpt HPw9.out hk10 (fun h => by have h1 := HXL4.out _ h; have z4 := HZ4.out; have z6 := HZ6.out; have z8 := HZV6.out; omega)
  have HBw10 : Hid (Below w.heap.size w w10) := HBw9.out.trans (hk10.below HBw9.out.size (fun j hj h => by have h1 := HXL4.out _ h; have z4 := HZ4.out; have z6 := HZ6.out; have z8 := HZV6.out; omega))
  have HB3w10 : Hid (Below w3.heap.size w3 w10) := HB3w9.out.trans (hk10.below HB3w9.out.size (fun j hj h => by have h1 := HXL4.out _ h; have z4 := HZ4.out; have z6 := HZ6.out; have z8 := HZV6.out; omega))
  have HWw10 : Hid (CBox w10 w3.heap.size (.int .i64 nw) (.slice a0 n0 c0)) := HWw9.out.kpt hk10 (fun h => by have h1 := HXL4.out _ h; have z4 := HZ4.out; have z6 := HZ6.out; have z8 := HZV6.out; omega)
  have HWEw10 : Hid (EBox w10 (w3.heap.size + 1) (.string ⟨xn.toArray⟩) (.int .i64 xt) (.bool xo) (.slice b0 m0 d0) (.int .i64 xu) (.int .i64 xs)) := HWEw9.out.kpt hk10 (fun h => by have h1 := HXL4.out _ h; have z4 := HZ4.out; have z6 := HZ6.out; have z8 := HZV6.out; omega)
  have HRw10 : Hid (CRel w10 V4.heap.size (.slice a1 n1 c1) M1) := HRw9.out.kpt hk10 (fun j hj h => by have h9 := HRL.out j hj; have h1 := HXL4.out _ h; have z4 := HZ4.out; have z6 := HZ6.out; have z8 := HZV6.out; omega)
  have HOw10 : Hid (OwnQ w10 V4.heap.size (.slice b1 m1 d1) X) := HOw9.out.kpt hk10 (fun j hj h => by have h9 := HOL.out j hj; have h1 := HXL4.out _ h; have z4 := HZ4.out; have z6 := HZ6.out; have z8 := HZV6.out; omega)
  have HGw10 : Hid (CBox w10 w6.heap.size (.int .i64 nw) (.slice a1 n1 c1)) := HGw9.out.kpt hk10 (fun h => by have h1 := HXL4.out _ h; have z4 := HZ4.out; have z6 := HZ6.out; have z8 := HZV6.out; omega)
  have HGEw10 : Hid (EBox w10 (w6.heap.size + 1) (.string ⟨xn.toArray⟩) (.int .i64 xt) (.bool xo) (.slice b1 m1 d1) (.int .i64 xu) (.int .i64 xs)) := HGEw9.out.kpt hk10 (fun h => by have h1 := HXL4.out _ h; have z4 := HZ4.out; have z6 := HZ6.out; have z8 := HZV6.out; omega)
  clear hk10 HXw9 HQw9
  clear HPw9 HBw9 HB3w9 HWw9 HWEw9 HRw9 HOw9 HGw9 HGEw9 
  obtain ⟨k0, k1⟩ := HGw10.out.cells
  obtain ⟨l0, l1⟩ := HWw10.out.cells
  go_wp2_with fail
  clear k0 k1 l0 l1
  refine (HEG.out _ _ _ (HERG.out _ HRw10.out) (HRW.out _ HB3w10.out).1).mono ?_
  rintro e w11 ⟨rfl, hb11⟩
  have HPw11 : Hid (w11.heap[w.heap.size]? = some (.cells #[.int .i64 now, .slice aa L.length ca] 24)) := blk_kept HPw10.out hb11
  have HBw11 : Hid (Below w.heap.size w w11) := HBw10.out.trans (hb11.mono HBw10.out.size)
  have HB3w11 : Hid (Below w3.heap.size w3 w11) := HB3w10.out.trans (hb11.mono HB3w10.out.size)
  have HWw11 : Hid (CBox w11 w3.heap.size (.int .i64 nw) (.slice a0 n0 c0)) := HWw10.out.kept hb11
  have HWEw11 : Hid (EBox w11 (w3.heap.size + 1) (.string ⟨xn.toArray⟩) (.int .i64 xt) (.bool xo) (.slice b0 m0 d0) (.int .i64 xu) (.int .i64 xs)) := HWEw10.out.kept hb11
  have HRw11 : Hid (CRel w11 V4.heap.size (.slice a1 n1 c1) M1) := HRw10.out.kept hb11
  have HOw11 : Hid (OwnQ w11 V4.heap.size (.slice b1 m1 d1) X) := HOw10.out.kept hb11
  have HGw11 : Hid (CBox w11 w6.heap.size (.int .i64 nw) (.slice a1 n1 c1)) := HGw10.out.kept hb11
  have HGEw11 : Hid (EBox w11 (w6.heap.size + 1) (.string ⟨xn.toArray⟩) (.int .i64 xt) (.bool xo) (.slice b1 m1 d1) (.int .i64 xu) (.int .i64 xs)) := HGEw10.out.kept hb11
  clear hb11
  clear HPw10 HBw10 HB3w10 HWw10 HWEw10 HRw10 HOw10 HGw10 HGEw10 
  obtain ⟨k0, k1, k2, k3, k4, k5⟩ := HGEw11.out.cells
  obtain ⟨l0, l1, l2, l3, l4, l5⟩ := HWEw11.out.cells
  go_wp2_with fail
  clear k0 k1 k2 k3 k4 k5 l0 l1 l2 l3 l4 l5
  refine (HEE.out _ _ _ HOw11.out.row (HRW.out _ HB3w11.out).2).mono ?_
  rintro e w12 ⟨rfl, hb12⟩
  have HPw12 : Hid (w12.heap[w.heap.size]? = some (.cells #[.int .i64 now, .slice aa L.length ca] 24)) := blk_kept HPw11.out hb12
  have HBw12 : Hid (Below w.heap.size w w12) := HBw11.out.trans (hb12.mono HBw11.out.size)
  have HB3w12 : Hid (Below w3.heap.size w3 w12) := HB3w11.out.trans (hb12.mono HB3w11.out.size)
  have HWw12 : Hid (CBox w12 w3.heap.size (.int .i64 nw) (.slice a0 n0 c0)) := HWw11.out.kept hb12
  have HWEw12 : Hid (EBox w12 (w3.heap.size + 1) (.string ⟨xn.toArray⟩) (.int .i64 xt) (.bool xo) (.slice b0 m0 d0) (.int .i64 xu) (.int .i64 xs)) := HWEw11.out.kept hb12
  have HRw12 : Hid (CRel w12 V4.heap.size (.slice a1 n1 c1) M1) := HRw11.out.kept hb12
  have HOw12 : Hid (OwnQ w12 V4.heap.size (.slice b1 m1 d1) X) := HOw11.out.kept hb12
  have HGw12 : Hid (CBox w12 w6.heap.size (.int .i64 nw) (.slice a1 n1 c1)) := HGw11.out.kept hb12
  have HGEw12 : Hid (EBox w12 (w6.heap.size + 1) (.string ⟨xn.toArray⟩) (.int .i64 xt) (.bool xo) (.slice b1 m1 d1) (.int .i64 xu) (.int .i64 xs)) := HGEw11.out.kept hb12
  clear hb12
  clear HPw11 HBw11 HB3w11 HWw11 HWEw11 HRw11 HOw11 HGw11 HGEw11 
  obtain ⟨k0, k1⟩ := HGw12.out.cells
  go_wp2_with fail
  clear k0 k1
  refine (HMG.out _ HRw12.out).mono ?_
  rintro e w13 ⟨rfl, hr13, hk13⟩
  have HPw13 : Hid (w13.heap[w.heap.size]? = some (.cells #[.int .i64 now, .slice aa L.length ca] 24)) := blk_kpt HPw12.out hk13 (fun h => by have h1 := HRL.out _ h; have z4 := HZ4.out; have z6 := HZ6.out; have z8 := HZV6.out; omega)
  have HBw13 : Hid (Below w.heap.size w w13) := HBw12.out.trans (hk13.below HBw12.out.size (fun j hj h => by have h1 := HRL.out _ h; have z4 := HZ4.out; have z6 := HZ6.out; have z8 := HZV6.out; omega))
  have HB3w13 : Hid (Below w3.heap.size w3 w13) := HB3w12.out.trans (hk13.below HB3w12.out.size (fun j hj h => by have h1 := HRL.out _ h; have z4 := HZ4.out; have z6 := HZ6.out; have z8 := HZV6.out; omega))
  have HWw13 : Hid (CBox w13 w3.heap.size (.int .i64 nw) (.slice a0 n0 c0)) := HWw12.out.kpt hk13 (fun h => by have h1 := HRL.out _ h; have z4 := HZ4.out; have z6 := HZ6.out; have z8 := HZV6.out; omega)
  have HWEw13 : Hid (EBox w13 (w3.heap.size + 1) (.string ⟨xn.toArray⟩) (.int .i64 xt) (.bool xo) (.slice b0 m0 d0) (.int .i64 xu) (.int .i64 xs)) := HWEw12.out.kpt hk13 (fun h => by have h1 := HRL.out _ h; have z4 := HZ4.out; have z6 := HZ6.out; have z8 := HZV6.out; omega)
  have HGw13 : Hid (CBox w13 w6.heap.size (.int .i64 nw) (.slice a1 n1 c1)) := HGw12.out.kpt hk13 (fun h => by have h1 := HRL.out _ h; have z4 := HZ4.out; have z6 := HZ6.out; have z8 := HZV6.out; omega)
  have HGEw13 : Hid (EBox w13 (w6.heap.size + 1) (.string ⟨xn.toArray⟩) (.int .i64 xt) (.bool xo) (.slice b1 m1 d1) (.int .i64 xu) (.int .i64 xs)) := HGEw12.out.kpt hk13 (fun h => by have h1 := HRL.out _ h; have z4 := HZ4.out; have z6 := HZ6.out; have z8 := HZV6.out; omega)
  have HOw13 : Hid (OwnQ w13 V4.heap.size (.slice b1 m1 d1) X) := HOw12.out.kpt hk13 (fun j hj h => (HRL.out j h).2.2 hj)
  have HRw13 : Hid (CRel w13 V4.heap.size (.slice a1 n1 c1) (markE 1 M1)) := hr13
  have HRLM : Hid (∀ k, inC (.slice a1 n1 c1) (markE 1 M1) k → (Value.slice b1 m1 d1).ownBlock ≠ some k) := fun k hk => (HRL.out k ((mark_in k).1 hk)).2.2
  clear hr13 hk13
  clear HPw12 HBw12 HB3w12 HWw12 HWEw12 HRw12 HOw12 HGw12 HGEw12 
  obtain ⟨k0, k1, k2, k3, k4, k5⟩ := HGEw13.out.cells
  go_wp2_with fail
  clear k0 k1 k2 k3 k4 k5
  refine (HME.out _ HOw13.out).mono ?_
  rintro e w14 ⟨rfl, ho14, hk14⟩
  have HPw14 : Hid (w14.heap[w.heap.size]? = some (.cells #[.int .i64 now, .slice aa L.length ca] 24)) := blk_kpt HPw13.out hk14 (fun h => by have h1 := HOL.out _ h; have z4 := HZ4.out; have z6 := HZ6.out; have z8 := HZV6.out; omega)
  have HBw14 : Hid (Below w.heap.size w w14) := HBw13.out.trans (hk14.below HBw13.out.size (fun j hj h => by have h1 := HOL.out _ h; have z4 := HZ4.out; have z6 := HZ6.out; have z8 := HZV6.out; omega))
  have HB3w14 : Hid (Below w3.heap.size w3 w14) := HB3w13.out.trans (hk14.below HB3w13.out.size (fun j hj h => by have h1 := HOL.out _ h; have z4 := HZ4.out; have z6 := HZ6.out; have z8 := HZV6.out; omega))
  have HWw14 : Hid (CBox w14 w3.heap.size (.int .i64 nw) (.slice a0 n0 c0)) := HWw13.out.kpt hk14 (fun h => by have h1 := HOL.out _ h; have z4 := HZ4.out; have z6 := HZ6.out; have z8 := HZV6.out; omega)
  have HWEw14 : Hid (EBox w14 (w3.heap.size + 1) (.string ⟨xn.toArray⟩) (.int .i64 xt) (.bool xo) (.slice b0 m0 d0) (.int .i64 xu) (.int .i64 xs)) := HWEw13.out.kpt hk14 (fun h => by have h1 := HOL.out _ h; have z4 := HZ4.out; have z6 := HZ6.out; have z8 := HZV6.out; omega)
  have HGw14 : Hid (CBox w14 w6.heap.size (.int .i64 nw) (.slice a1 n1 c1)) := HGw13.out.kpt hk14 (fun h => by have h1 := HOL.out _ h; have z4 := HZ4.out; have z6 := HZ6.out; have z8 := HZV6.out; omega)
  have HGEw14 : Hid (EBox w14 (w6.heap.size + 1) (.string ⟨xn.toArray⟩) (.int .i64 xt) (.bool xo) (.slice b1 m1 d1) (.int .i64 xu) (.int .i64 xs)) := HGEw13.out.kpt hk14 (fun h => by have h1 := HOL.out _ h; have z4 := HZ4.out; have z6 := HZ6.out; have z8 := HZV6.out; omega)
  have HRw14 : Hid (CRel w14 V4.heap.size (.slice a1 n1 c1) (markE 1 M1)) := HRw13.out.kpt hk14 (fun j hj h => HRLM.out j hj h)
  have HOw14 : Hid (OwnQ w14 V4.heap.size (.slice b1 m1 d1) (mrks (1 + totE M1) X.length)) := ho14
  clear ho14 hk14
  clear HPw13 HBw13 HB3w13 HWw13 HWEw13 HRw13 HOw13 HGw13 HGEw13 
  obtain ⟨k0, k1⟩ := HGw14.out.cells
  go_wp2_with fail
  clear k0 k1
  refine (HHG.out _ HRw14.out).mono ?_
  rintro e w15 ⟨rfl, hb15⟩
  have HPw15 : Hid (w15.heap[w.heap.size]? = some (.cells #[.int .i64 now, .slice aa L.length ca] 24)) := blk_kept HPw14.out hb15
  have HBw15 : Hid (Below w.heap.size w w15) := HBw14.out.trans (hb15.mono HBw14.out.size)
  have HB3w15 : Hid (Below w3.heap.size w3 w15) := HB3w14.out.trans (hb15.mono HB3w14.out.size)
  have HWw15 : Hid (CBox w15 w3.heap.size (.int .i64 nw) (.slice a0 n0 c0)) := HWw14.out.kept hb15
  have HWEw15 : Hid (EBox w15 (w3.heap.size + 1) (.string ⟨xn.toArray⟩) (.int .i64 xt) (.bool xo) (.slice b0 m0 d0) (.int .i64 xu) (.int .i64 xs)) := HWEw14.out.kept hb15
  have HRw15 : Hid (CRel w15 V4.heap.size (.slice a1 n1 c1) (markE 1 M1)) := HRw14.out.kept hb15
  have HOw15 : Hid (OwnQ w15 V4.heap.size (.slice b1 m1 d1) (mrks (1 + totE M1) X.length)) := HOw14.out.kept hb15
  have HGw15 : Hid (CBox w15 w6.heap.size (.int .i64 nw) (.slice a1 n1 c1)) := HGw14.out.kept hb15
  have HGEw15 : Hid (EBox w15 (w6.heap.size + 1) (.string ⟨xn.toArray⟩) (.int .i64 xt) (.bool xo) (.slice b1 m1 d1) (.int .i64 xu) (.int .i64 xs)) := HGEw14.out.kept hb15
  clear hb15
  clear HPw14 HBw14 HB3w14 HWw14 HWEw14 HRw14 HOw14 HGw14 HGEw14 
  obtain ⟨k0, k1, k2, k3, k4, k5⟩ := HGEw15.out.cells
  go_wp2_with fail
  clear k0 k1 k2 k3 k4 k5
  refine (HHE.out _ HOw15.out.row).mono ?_
  rintro e w16 ⟨rfl, hb16⟩
  have HPw16 : Hid (w16.heap[w.heap.size]? = some (.cells #[.int .i64 now, .slice aa L.length ca] 24)) := blk_kept HPw15.out hb16
  have HBw16 : Hid (Below w.heap.size w w16) := HBw15.out.trans (hb16.mono HBw15.out.size)
  have HB3w16 : Hid (Below w3.heap.size w3 w16) := HB3w15.out.trans (hb16.mono HB3w15.out.size)
  have HWw16 : Hid (CBox w16 w3.heap.size (.int .i64 nw) (.slice a0 n0 c0)) := HWw15.out.kept hb16
  have HWEw16 : Hid (EBox w16 (w3.heap.size + 1) (.string ⟨xn.toArray⟩) (.int .i64 xt) (.bool xo) (.slice b0 m0 d0) (.int .i64 xu) (.int .i64 xs)) := HWEw15.out.kept hb16
  have HRw16 : Hid (CRel w16 V4.heap.size (.slice a1 n1 c1) (markE 1 M1)) := HRw15.out.kept hb16
  have HOw16 : Hid (OwnQ w16 V4.heap.size (.slice b1 m1 d1) (mrks (1 + totE M1) X.length)) := HOw15.out.kept hb16
  have HGw16 : Hid (CBox w16 w6.heap.size (.int .i64 nw) (.slice a1 n1 c1)) := HGw15.out.kept hb16
  have HGEw16 : Hid (EBox w16 (w6.heap.size + 1) (.string ⟨xn.toArray⟩) (.int .i64 xt) (.bool xo) (.slice b1 m1 d1) (.int .i64 xu) (.int .i64 xs)) := HGEw15.out.kept hb16
  clear hb16
  clear HPw15 HBw15 HB3w15 HWw15 HWEw15 HRw15 HOw15 HGw15 HGEw15 
  obtain ⟨p0, p1⟩ := cch_cells HPw16.out
  go_wp2_with fail
  clear p0 p1
  refine (HT.out _ HBw16.out).mono ?_
  rintro e w17 ⟨⟨g7, T7, rfl, _, hq17⟩, hb17⟩
  have HPw17 : Hid (w17.heap[w.heap.size]? = some (.cells #[.int .i64 now, .slice aa L.length ca] 24)) := blk_kept HPw16.out hb17
  have HBw17 : Hid (Below w.heap.size w w17) := HBw16.out.trans (hb17.mono HBw16.out.size)
  have HB3w17 : Hid (Below w3.heap.size w3 w17) := HB3w16.out.trans (hb17.mono HB3w16.out.size)
  have HWw17 : Hid (CBox w17 w3.heap.size (.int .i64 nw) (.slice a0 n0 c0)) := HWw16.out.kept hb17
  have HWEw17 : Hid (EBox w17 (w3.heap.size + 1) (.string ⟨xn.toArray⟩) (.int .i64 xt) (.bool xo) (.slice b0 m0 d0) (.int .i64 xu) (.int .i64 xs)) := HWEw16.out.kept hb17
  have HRw17 : Hid (CRel w17 V4.heap.size (.slice a1 n1 c1) (markE 1 M1)) := HRw16.out.kept hb17
  have HOw17 : Hid (OwnQ w17 V4.heap.size (.slice b1 m1 d1) (mrks (1 + totE M1) X.length)) := HOw16.out.kept hb17
  have HGw17 : Hid (CBox w17 w6.heap.size (.int .i64 nw) (.slice a1 n1 c1)) := HGw16.out.kept hb17
  have HGEw17 : Hid (EBox w17 (w6.heap.size + 1) (.string ⟨xn.toArray⟩) (.int .i64 xt) (.bool xo) (.slice b1 m1 d1) (.int .i64 xu) (.int .i64 xs)) := HGEw16.out.kept hb17
  have HQ17 : Hid (EOwn w17 g7 T7 L) := hq17
  clear hb17 hq17
  clear HPw16 HBw16 HB3w16 HWw16 HWEw16 HRw16 HOw16 HGw16 HGEw16 
  go_wp2_with fail
  refine (HI.out g7 T7 _ (hE.below HBw17.out) HQ17.out).mono ?_
  rintro e w18 ⟨⟨v2, M2, b2, m2, d2, rfl, hR2, hM2, hO2, hA2⟩, hb18⟩
  obtain ⟨a2, n2, c2, hv2⟩ := hR2.shape
  subst hv2
  have HPw18 : Hid (w18.heap[w.heap.size]? = some (.cells #[.int .i64 now, .slice aa L.length ca] 24)) := blk_kept HPw17.out hb18
  have HBw18 : Hid (Below w.heap.size w w18) := HBw17.out.trans (hb18.mono HBw17.out.size)
  have HB3w18 : Hid (Below w3.heap.size w3 w18) := HB3w17.out.trans (hb18.mono HB3w17.out.size)
  have HWw18 : Hid (CBox w18 w3.heap.size (.int .i64 nw) (.slice a0 n0 c0)) := HWw17.out.kept hb18
  have HWEw18 : Hid (EBox w18 (w3.heap.size + 1) (.string ⟨xn.toArray⟩) (.int .i64 xt) (.bool xo) (.slice b0 m0 d0) (.int .i64 xu) (.int .i64 xs)) := HWEw17.out.kept hb18
  have HRw18 : Hid (CRel w18 V4.heap.size (.slice a1 n1 c1) (markE 1 M1)) := HRw17.out.kept hb18
  have HOw18 : Hid (OwnQ w18 V4.heap.size (.slice b1 m1 d1) (mrks (1 + totE M1) X.length)) := HOw17.out.kept hb18
  have HGw18 : Hid (CBox w18 w6.heap.size (.int .i64 nw) (.slice a1 n1 c1)) := HGw17.out.kept hb18
  have HGEw18 : Hid (EBox w18 (w6.heap.size + 1) (.string ⟨xn.toArray⟩) (.int .i64 xt) (.bool xo) (.slice b1 m1 d1) (.int .i64 xu) (.int .i64 xs)) := HGEw17.out.kept hb18
  have HRH : Hid (∀ W, Below w18.heap.size w18 W → ERow W (.slice a2 n2 c2) K ∧ RRow W (.slice b2 m2 d2) X) := fun W hW => ⟨by have h := (hR2.kept hW).row; rw [hM2] at h; exact h, (hO2.kept hW).row⟩
  obtain ⟨V18, hV18⟩ : ∃ V, V = (w18.alloc (.cells #[.int .i64 nw, .slice a2 n2 c2] 30)).alloc (.cells #[.string ⟨xn.toArray⟩, .int .i64 xt, .bool xo, .slice b2 m2 d2, .int .i64 xu, .int .i64 xs] 44) := ⟨_, rfl⟩
  have HV18 : Hid ((w18.alloc (.cells #[.int .i64 nw, .slice a2 n2 c2] 30)).alloc (.cells #[.string ⟨xn.toArray⟩, .int .i64 xt, .bool xo, .slice b2 m2 d2, .int .i64 xu, .int .i64 xs] 44) = V18) := hV18.symm
  have hsV18 : (w18.alloc (.cells #[.int .i64 nw, .slice a2 n2 c2] 30)).heap.size = w18.heap.size + 1 := by simp
  have hbV18 : Below w18.heap.size w18 V18 := by rw [hV18]; exact ((Below.refl _ _).alloc (Nat.le_refl _) _).alloc (by simp) _
  have hzV18 : V18.heap.size = w18.heap.size + 1 + 1 := by rw [hV18]; simp
  have HHV18 : Hid (CBox V18 w18.heap.size (.int .i64 nw) (.slice a2 n2 c2)) := by rw [hV18]; exact (cbox_new w18).kpt (kpt_alloc _ _ (fun _ => False)) id
  have HHEV18 : Hid (EBox V18 (w18.heap.size + 1) (.string ⟨xn.toArray⟩) (.int .i64 xt) (.bool xo) (.slice b2 m2 d2) (.int .i64 xu) (.int .i64 xs)) := by
    rw [hV18]
    have h := ebox_new (w18.alloc (.cells #[.int .i64 nw, .slice a2 n2 c2] 30)) (v0 := .string ⟨xn.toArray⟩) (v1 := .int .i64 xt) (v2 := .bool xo) (v3 := .slice b2 m2 d2) (v4 := .int .i64 xu) (v5 := .int .i64 xs)
    rw [hsV18] at h
    exact h
  clear hV18 hsV18
  have HPV18 : Hid (V18.heap[w.heap.size]? = some (.cells #[.int .i64 now, .slice aa L.length ca] 24)) := blk_kept HPw18.out hbV18
  have HBV18 : Hid (Below w.heap.size w V18) := HBw18.out.trans (hbV18.mono HBw18.out.size)
  have HB3V18 : Hid (Below w3.heap.size w3 V18) := HB3w18.out.trans (hbV18.mono HB3w18.out.size)
  have HWV18 : Hid (CBox V18 w3.heap.size (.int .i64 nw) (.slice a0 n0 c0)) := HWw18.out.kept hbV18
  have HWEV18 : Hid (EBox V18 (w3.heap.size + 1) (.string ⟨xn.toArray⟩) (.int .i64 xt) (.bool xo) (.slice b0 m0 d0) (.int .i64 xu) (.int .i64 xs)) := HWEw18.out.kept hbV18
  have HRV18 : Hid (CRel V18 V4.heap.size (.slice a1 n1 c1) (markE 1 M1)) := HRw18.out.kept hbV18
  have HOV18 : Hid (OwnQ V18 V4.heap.size (.slice b1 m1 d1) (mrks (1 + totE M1) X.length)) := HOw18.out.kept hbV18
  have HGV18 : Hid (CBox V18 w6.heap.size (.int .i64 nw) (.slice a1 n1 c1)) := HGw18.out.kept hbV18
  have HGEV18 : Hid (EBox V18 (w6.heap.size + 1) (.string ⟨xn.toArray⟩) (.int .i64 xt) (.bool xo) (.slice b1 m1 d1) (.int .i64 xu) (.int .i64 xs)) := HGEw18.out.kept hbV18
  have HB18V18 : Hid (Below w18.heap.size w18 V18) := hbV18
  obtain ⟨k0, k1⟩ := HWw18.out.cells
  have hlt318 : w3.heap.size < w18.heap.size := HWw18.out.lt
  clear hb18 hR2 hM2 hO2 hA2 hbV18 hzV18 HQ17
  clear HPw17 HBw17 HB3w17 HWw17 HWEw17 HRw17 HOw17 HGw17 HGEw17 
  go_wp2_with fail
  rw [HV18.out]
  clear k0 k1 hlt318 HV18
  clear HPw18 HBw18 HB3w18 HWw18 HWEw18 HRw18 HOw18 HGw18 HGEw18 
  refine (HEG.out _ _ _ (HRH.out _ HB18V18.out).1 (HRW.out _ HB3V18.out).1).mono ?_
  rintro e w19 ⟨rfl, hb19⟩
  have HPw19 : Hid (w19.heap[w.heap.size]? = some (.cells #[.int .i64 now, .slice aa L.length ca] 24)) := blk_kept HPV18.out hb19
  have HBw19 : Hid (Below w.heap.size w w19) := HBV18.out.trans (hb19.mono HBV18.out.size)
  have HB3w19 : Hid (Below w3.heap.size w3 w19) := HB3V18.out.trans (hb19.mono HB3V18.out.size)
  have HWw19 : Hid (CBox w19 w3.heap.size (.int .i64 nw) (.slice a0 n0 c0)) := HWV18.out.kept hb19
  have HWEw19 : Hid (EBox w19 (w3.heap.size + 1) (.string ⟨xn.toArray⟩) (.int .i64 xt) (.bool xo) (.slice b0 m0 d0) (.int .i64 xu) (.int .i64 xs)) := HWEV18.out.kept hb19
  have HRw19 : Hid (CRel w19 V4.heap.size (.slice a1 n1 c1) (markE 1 M1)) := HRV18.out.kept hb19
  have HOw19 : Hid (OwnQ w19 V4.heap.size (.slice b1 m1 d1) (mrks (1 + totE M1) X.length)) := HOV18.out.kept hb19
  have HGw19 : Hid (CBox w19 w6.heap.size (.int .i64 nw) (.slice a1 n1 c1)) := HGV18.out.kept hb19
  have HGEw19 : Hid (EBox w19 (w6.heap.size + 1) (.string ⟨xn.toArray⟩) (.int .i64 xt) (.bool xo) (.slice b1 m1 d1) (.int .i64 xu) (.int .i64 xs)) := HGEV18.out.kept hb19
  have HHw19 : Hid (CBox w19 w18.heap.size (.int .i64 nw) (.slice a2 n2 c2)) := HHV18.out.kept hb19
  have HHEw19 : Hid (EBox w19 (w18.heap.size + 1) (.string ⟨xn.toArray⟩) (.int .i64 xt) (.bool xo) (.slice b2 m2 d2) (.int .i64 xu) (.int .i64 xs)) := HHEV18.out.kept hb19
  have HB18w19 : Hid (Below w18.heap.size w18 w19) := HB18V18.out.trans (hb19.mono HB18V18.out.size)
  clear hb19 HB18V18
  clear HPV18 HBV18 HB3V18 HWV18 HWEV18 HRV18 HOV18 HGV18 HGEV18 HHV18 HHEV18 
  obtain ⟨k0, k1, k2, k3, k4, k5⟩ := HHEw19.out.cells
  obtain ⟨l0, l1, l2, l3, l4, l5⟩ := HWEw19.out.cells
  go_wp2_with fail
  clear k0 k1 k2 k3 k4 k5 l0 l1 l2 l3 l4 l5
  refine (HEE.out _ _ _ (HRH.out _ HB18w19.out).2 (HRW.out _ HB3w19.out).2).mono ?_
  rintro e w20 ⟨rfl, hb20⟩
  have HBw20 : Hid (Below w.heap.size w w20) := HBw19.out.trans (hb20.mono HBw19.out.size)
  have HRw20 : Hid (CRel w20 V4.heap.size (.slice a1 n1 c1) (markE 1 M1)) := HRw19.out.kept hb20
  have HOw20 : Hid (OwnQ w20 V4.heap.size (.slice b1 m1 d1) (mrks (1 + totE M1) X.length)) := HOw19.out.kept hb20
  have HGw20 : Hid (CBox w20 w6.heap.size (.int .i64 nw) (.slice a1 n1 c1)) := HGw19.out.kept hb20
  have HGEw20 : Hid (EBox w20 (w6.heap.size + 1) (.string ⟨xn.toArray⟩) (.int .i64 xt) (.bool xo) (.slice b1 m1 d1) (.int .i64 xu) (.int .i64 xs)) := HGEw19.out.kept hb20
  clear hb20 HB18w19
  clear HBw19 HRw19 HOw19 HGw19 HGEw19 
  obtain ⟨k0, k1⟩ := HGw20.out.cells
  go_wp2_with fail
  clear k0 k1
  refine (HHG.out _ HRw20.out).mono ?_
  rintro e w21 ⟨rfl, hb21⟩
  have HBw21 : Hid (Below w.heap.size w w21) := HBw20.out.trans (hb21.mono HBw20.out.size)
  have HRw21 : Hid (CRel w21 V4.heap.size (.slice a1 n1 c1) (markE 1 M1)) := HRw20.out.kept hb21
  have HOw21 : Hid (OwnQ w21 V4.heap.size (.slice b1 m1 d1) (mrks (1 + totE M1) X.length)) := HOw20.out.kept hb21
  have HGw21 : Hid (CBox w21 w6.heap.size (.int .i64 nw) (.slice a1 n1 c1)) := HGw20.out.kept hb21
  have HGEw21 : Hid (EBox w21 (w6.heap.size + 1) (.string ⟨xn.toArray⟩) (.int .i64 xt) (.bool xo) (.slice b1 m1 d1) (.int .i64 xu) (.int .i64 xs)) := HGEw20.out.kept hb21
  clear hb21
  clear HBw20 HRw20 HOw20 HGw20 HGEw20 
  obtain ⟨k0, k1, k2, k3, k4, k5⟩ := HGEw21.out.cells
  go_wp2_with fail
  clear k0 k1 k2 k3 k4 k5
  refine (HHE.out _ HOw21.out.row).mono ?_
  rintro e w22 ⟨rfl, hb22⟩
  have hbw22 : Below w.heap.size w w22 := HBw21.out.trans (hb22.mono HBw21.out.size)
  clear hb22
  go_wp2_with fail
  go_ret
  exact ⟨rfl, hbw22⟩

set_option maxRecDepth 20000 in
set_option maxHeartbeats 1000000 in
theorem walk (now : Int) (va : Value) (L : List EntT) (n : ByteArray) (ty : Int) (w : World) (ha : ERow w va L) (hxa : Hid (∀ x ∈ L, EFit x)) (hs : n.size ≤ maxLen) (ht : -9223372036854775808 ≤ ty ∧ ty ≤ 9223372036854775807) (hE : EnvR w) :
    Calls Tryz.prog 5 #[CchV now va, .string n, .int .i64 ty] w fun e w' => e = .returned (.bool true) ∧ Below w.heap.size w w' := by
  have hs2 := hs
  unfold maxLen at hs2
  by_cases h : (1048576 : Int) < (n.size : Int)
  · obtain ⟨aa, ca, rfl, _⟩ := id ha
    unfold CchV
    go_enter Tryz.func5, Tryz.ntmps5
    go_wp2_with fail
    go_ret
    exact ⟨rfl, (Below.refl w.heap.size w).alloc (Nat.le_refl _) _⟩
  · have hnn : n.size ≤ 1048576 := by omega
    exact core now va L n ty _ _ _ _ _ _ _ _ _ w ha hxa hE hnn (fun h => ask_small (askO now n.data.toList ty L) now n.data.toList ty L h)
      (fun g T W h1 h2 q => sAskCache_any now _ L n ty W (q.row h2.out (Nat.le_refl _) (by unfold maxLen; omega)) h2 hnn (eown_nil q))
      (fun g T W hW h1 h2 q => iAskCache_any now _ L n ty W (q.row h2.out (Nat.le_refl _) (by unfold maxLen; omega)) h2 hnn ht hW)
end Go.Proofs.YtgfiahfoghnpkaaGreatDoor.askCache
