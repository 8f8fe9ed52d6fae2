import Derived.Test.YtoopfmebpjojiaaDoorLift
import Derived.SliceStrings
namespace Go.Proofs.YtoopfmebpjojiaaDoor
open Go.ChangeShapes Go.WideShapes Go.ChangeAt Go.RowKit Go.Deep

/-- A list of texts that came in, as the walks take it. -/
theorem row_of_read {H : Type} {enc : TypeId × Value → H} {W : World} {a : Option Addr} {len cap : Nat} {d : DataW H} {p : List MemPlace} {sp : Nat → Bool} {base : Nat} {held : Bool}
    (h : DataW.Trod enc Tryd.prog W base sp held 22 (.slice a len cap) d p) : ∃ P, Row W (.slice a len cap) P ∧ Hid (∀ x ∈ P, x.length ≤ maxLen) := by
  obtain ⟨fuel, hf⟩ := h
  rcases open_strings Tryd.underlying22 Tryd.underlying9 (by kernel_rfl) hf with ⟨hcs, _⟩ | ⟨x, l, c, ss, hcs, _, hl, hm, hz, _, hcell, hws⟩
  · simp [Value.cells] at hcs
    obtain ⟨rfl, rfl, rfl⟩ := hcs
    exact ⟨[], row_nil W, fun x hx => by cases hx⟩
  · simp [Value.cells] at hcs
    obtain ⟨rfl, rfl, rfl⟩ := hcs
    have hle : len ≤ ss.length := by rw [hz]; split <;> omega
    have hlen : ((ss.take len).map (fun b : ByteArray => b.data.toList)).length = len := by simp; omega
    refine ⟨(ss.take len).map (fun b : ByteArray => b.data.toList), ⟨some x, cap, by rw [hlen], by rw [hlen]; exact hl, hm, ?_⟩, ?_⟩
    · by_cases h0 : len = 0
      · left; subst h0; simp
      · right
        obtain ⟨b, off, spot⟩ := x
        have hc0 := hcell 0 (by omega)
        have hspot : spot = none := by simpa [Addr.add] using World.cell?_spot hc0
        subst hspot
        have hblk : b < W.heap.size := World.block_lt_of_cell? _ _ (show W.cell? ⟨b, off, none⟩ = some _ by simpa [Addr.add] using hc0)
        refine ⟨b, off, rfl, hblk, fun j hj => ?_⟩
        rw [hlen] at hj
        have hcj := hcell j (by omega)
        have hadd : (⟨b, off, none⟩ : Addr).add j = ⟨b, off + j, none⟩ := by unfold Addr.add; split <;> simp_all
        rw [hadd] at hcj
        rw [hcj, List.getElem_map, List.getElem_take]
        unfold S
        rw [List.getD_eq_getElem?_getD, List.getElem?_eq_getElem (by omega : j < ss.length)]
        rfl
    · intro y hy
      obtain ⟨b, hb, rfl⟩ := List.mem_map.1 hy
      have := hws b (List.mem_of_mem_take hb)
      simpa using this
end Go.Proofs.YtoopfmebpjojiaaDoor
