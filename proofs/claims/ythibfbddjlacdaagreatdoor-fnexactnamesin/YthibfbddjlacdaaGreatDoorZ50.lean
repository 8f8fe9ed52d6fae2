import Derived.Test.YthibfbddjlacdaaGreatDoorZ16
import Derived.Test.YthibfbddjlacdaaGreatDoorZ21
import Derived.Test.YthibfbddjlacdaaGreatDoorZ08
import Derived.Test.YthibfbddjlacdaaGreatDoorZ49
namespace Go.Proofs.YthibfbddjlacdaaGreatDoor
open Go.RowKit

set_option maxRecDepth 20000 in
set_option maxHeartbeats 400000 in
theorem order_gr (a b : ByteArray) (w : World) (hE : Env w) (h : cmpT a.data.toList b.data.toList = cmpN a.data.toList b.data.toList) :
    Calls Tryz.prog 34 #[.string a, .string b] w fun e w' => e = .returned (.int .i64 (cmpN a.data.toList b.data.toList)) ∧ Gr w w' := by
  have H : Hid (cmpT a.data.toList b.data.toList = cmpN a.data.toList b.data.toList) := h
  clear h
  go_enter Tryz.func34, Tryz.ntmps34
  go_wp2_with fail
  refine (iCompareNames_gr a b w hE).mono ?_
  rintro e w1 ⟨rfl, hg⟩
  go_wp2_with fail
  go_ret
  exact ⟨ret_int H.out, hg⟩

/-- A good name. -/
abbrev Nm : Type := {l : List UInt8 // nameB l = true}
def encN (x : Nm) : Value := S x.1
def cfN (x y : Nm) : Int := cmpN x.1 y.1
theorem ltOf_true {x y : Nm} : ltOf cfN x y = true ↔ ltN x.1 y.1 := by
  unfold ltOf cfN ltN
  rcases cmpR_vals (labelsOf x.1).reverse (labelsOf y.1).reverse with e | e | e <;> (unfold cmpN; rw [e]; decide)
theorem ltOf_false {x y : Nm} : ltOf cfN x y = false ↔ ¬ ltN x.1 y.1 := by rw [← ltOf_true]; simp
theorem swoN : Sort.SWO (ltOf cfN) where
  irrefl x := by rw [ltOf_false]; exact ltN_irrefl _
  trans x y z h1 h2 := by rw [ltOf_true] at *; exact ltN_trans h1 h2
  ntrans x y z h1 h2 := by
    rw [ltOf_false] at *
    intro h
    by_cases e : x.1 = y.1
    · rw [e] at h; exact h2 h
    · rcases ltN_total e with k | k
      · exact h1 k
      · exact h2 (ltN_trans k h)

theorem Env.lt {w : World} (h : Env w) : 1 < w.heap.size ∧ 2 < w.heap.size := by
  obtain ⟨m, hm⟩ := h.2
  exact ⟨World.block_lt_of_cell? _ _ (u := .int .u8 45) (h.1 0 (by decide)), World.block_lt_of_cell? _ _ hm⟩
theorem Env.other {w w' : World} (h : Env w) (k : ∀ i, w'.cell? ⟨1, i, none⟩ = w.cell? ⟨1, i, none⟩) (k2 : w'.cell? ⟨2, 0, none⟩ = w.cell? ⟨2, 0, none⟩) : Env w' :=
  ⟨fun i hi => by rw [k]; exact h.1 i hi, by obtain ⟨m, hm⟩ := h.2; exact ⟨m, by rw [k2]; exact hm⟩⟩
theorem sortWorld_other [Inhabited Nm] (w : World) (g off n : Nat) (d : Array Nm) (os : Array Obj) (a : Addr) (ha : a.block < w.heap.size) (hne : a.block ≠ g) : (sortWorld encN w g off n d os).cell? a = w.cell? a := by
  unfold sortWorld
  rw [Sort.cell?_grow _ _ _ (by rw [Sort.size_putRow]; exact ha), Sort.cell?_putRow_other _ _ _ _ _ _ (.inl hne)]
  rfl
theorem Env.sorted [Inhabited Nm] {w : World} (h : Env w) (g off n : Nat) (d : Array Nm) (os : Array Obj) (h1 : 1 ≠ g) (h2 : 2 ≠ g) : Env (sortWorld encN w g off n d os) :=
  h.other (fun i => sortWorld_other w g off n d os ⟨1, i, none⟩ h.lt.1 h1) (sortWorld_other w g off n d os ⟨2, 0, none⟩ h.lt.2 h2)

theorem cmp_names {x y : List UInt8} (hx : nameB x = true) (hy : nameB y = true) : cmpT x y = cmpN x y := by
  unfold cmpT cmpN; rw [hx, hy]; rfl

theorem lays_names [Inhabited Nm] {w : World} (h : Env w) (g off size : Nat) (h1 : 1 ≠ g) (h2 : 2 ≠ g) : CmpLays1 Tryz.prog 34 #[] encN cfN g off size w := by
  intro m os dk _ x y
  have hc := order_gr ⟨x.1.toArray⟩ ⟨y.1.toArray⟩ (sortWorld encN w g off m dk os) (h.sorted g off m dk os h1 h2) (cmp_names x.2 y.2)
  rw [Array.append_empty]
  exact hc.mono fun e w' ⟨he, hg⟩ => ⟨he, hg.grow⟩

theorem grown_sorted [Inhabited Nm] (w : World) (g off n : Nat) (d : Array Nm) (os : Array Obj) : w.grownBy (sortWorld encN w g off n d os) (some g) := by
  refine ⟨rfl, rfl, rfl, ?_, fun k hk hne => ?_⟩
  · unfold sortWorld; rw [Sort.size_grow, Sort.size_putRow]; exact Nat.le_add_right _ _
  · unfold sortWorld
    rw [Sort.heap_grow_old _ _ (by rw [Sort.size_putRow]; exact hk)]
    show (w.heap.modify g _)[k]? = _
    rw [Array.getElem?_modify, if_neg (fun e => hne (by rw [e]))]

/-- slices.SortFunc by the order of names. -/
theorem sortFunc_any (g cap : Nat) (P : List (List UInt8)) (w : World) (hE : Env w) (hs : SRow w g P) (hN : ∀ x ∈ P, nameB x = true) (h1 : 1 ≠ g) (h2 : 2 ≠ g) (hl : P.length ≤ 1048576) :
    Calls Tryz.prog 33 #[.slice (some ⟨g, 0, none⟩) P.length cap, .func (.func 34) #[] #[]] w fun e w' => e = .returned (.tuple #[]) ∧ ∃ Q, Q.Perm P ∧ (∀ i j, i < j → j < Q.length → ¬ ltN Q.toArray[j]! Q.toArray[i]!) ∧ SRow w' g Q ∧ w.grownBy w' (some g) := by
  have hin : Inhabited Nm := ⟨⟨[], by decide⟩⟩
  obtain ⟨D, hD⟩ : ∃ D : List Nm, D.map (·.1) = P := ⟨P.attachWith _ hN, by simp⟩
  have hsz : D.toArray.size = P.length := by rw [← hD]; simp
  have hget : ∀ j, (hj : j < P.length) → (D.toArray[j]!).1 = P[j] := by
    intro j hj
    subst hD
    have hj' : j < D.length := by simpa using hj
    rw [getElem!_pos D.toArray j (by simpa using hj')]; simp
  have eg : ∀ args w, (callFunc 34 args).run Tryz.prog w = .ok (.enter 34 args) w := enters_of Tryz.func34 (by kernel_rfl) rfl
  have hH : Sort.Holds encN w g 0 D.toArray := by
    intro j hj
    rw [hsz] at hj
    have := hs.2 j hj
    rw [Nat.zero_add]
    unfold encN
    rw [hget j hj]; exact this
  have hS := Any.slices_SortFunc Tryz.sortS encN (fun _ => rfl) cfN swoN 34 #[] g 0 cap D.toArray w eg (lays_names hE g 0 _ h1 h2) hH hs.1 (by rw [hsz]; omega)
  change Calls Tryz.prog 33 _ _ _ at hS
  rw [hsz] at hS
  refine hS.mono ?_
  rintro e w' ⟨rfl, d', n, os, hp, hso, rfl⟩
  have hsz' : d'.size = P.length := by rw [hp.1, hsz]
  refine ⟨rfl, d'.toList.map (·.1), ?_, ?_, ?_, grown_sorted w g 0 n d' os⟩
  · have hpp := hp.2.2
    have e1 : d'.extract 0 P.length = d' := by rw [← hsz']; exact Array.extract_size
    have e2 : D.toArray.extract 0 P.length = D.toArray := by rw [← hsz]; exact Array.extract_size
    rw [e1, e2] at hpp
    rw [← hD]
    exact hpp.map _
  · intro i j hij hj
    have hj' : j < d'.size := by simpa using hj
    have h := hso i j (Nat.zero_le _) hij (by rw [← hsz']; exact hj')
    rw [ltOf_false] at h
    rw [getElem!_pos d' j hj', getElem!_pos d' i (by omega)] at h
    rw [get_list _ j hj, get_list _ i (by omega)]
    simpa using h
  · have hh := SW.holds (enc := encN) (w0 := w) (blk := g) (off := 0) (dk := d') ⟨n, os, rfl⟩ hs.1 hH (by rw [hsz', hsz])
    refine ⟨Nat.lt_of_lt_of_le hs.1 (grown_sorted w g 0 n d' os).size, fun j hj => ?_⟩
    have hj' : j < d'.size := by simpa using hj
    have := hh j hj'
    rw [Nat.zero_add, getElem!_pos d' j hj'] at this
    simpa [encN] using this

/-- slices.Compact. -/
theorem compact_any (g cap : Nat) (Q : List (List UInt8)) (w : World) (hs : SRow w g Q) (hcap : Q.length ≤ cap) (hl : Q.length ≤ 1048576) :
    Calls Tryz.prog 35 #[.slice (some ⟨g, 0, none⟩) Q.length cap] w fun e w' => e = .returned (.slice (some ⟨g, 0, none⟩) (Lib.compact Q).length cap) ∧ SRow w' g (Lib.compact Q) ∧ w.grownBy w' (some g) := by
  have hH : Sort.Holds encStr w g 0 Q.toArray := by
    intro j hj
    have hj' : j < Q.length := by simpa using hj
    rw [Nat.zero_add, get_list Q j hj']
    exact hs.2 j hj'
  have hS := Any.slices_Compact_string Tryz.lays194 g 0 cap Q w hH (by omega) hcap
  change Calls Tryz.prog 35 _ _ _ at hS
  refine hS.mono ?_
  rintro e w' ⟨rfl, q, rfl⟩
  have hle : (Lib.compact Q).length ≤ Q.length := by
    unfold Lib.compact Lib.compactUpTo
    rw [List.length_map]
    exact Nat.le_trans (List.length_filter_le _ _) (by simp)
  have hh := Sort.holds_putRow encStr (Sort.ahead w q) g 0 Q.toArray (Lib.compact Q ++ List.replicate (Q.length - (Lib.compact Q).length) []).toArray (Sort.holds_ahead _ w q g 0 _ hH) (by simp; omega)
  refine ⟨rfl, ⟨?_, fun j hj => ?_⟩, rfl, rfl, rfl, ?_, fun k hk hne => ?_⟩
  · rw [Sort.size_putRow]; exact hs.1
  · have := hh j (by simp; omega)
    rw [Nat.zero_add, get_list _ j (by simp; omega), List.getElem_append_left hj] at this
    exact this
  · rw [Sort.size_putRow]; exact Nat.le_refl _
  · show (w.heap.modify g _)[k]? = _
    rw [Array.getElem?_modify, if_neg (fun e => hne (by rw [e]))]
end Go.Proofs.YthibfbddjlacdaaGreatDoor
