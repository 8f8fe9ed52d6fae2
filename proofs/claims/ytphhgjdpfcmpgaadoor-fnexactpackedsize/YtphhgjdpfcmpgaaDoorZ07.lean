import Derived.Test.YtphhgjdpfcmpgaaDoorZ06
import Derived.Deep.DeepHandedRow
import Derived.OpenVars
import Derived.ShutString
import Derived.Lay
import Derived.LaidMore
import Derived.SevenTiedAt
import Derived.SliceStrings
namespace Go.Proofs.YtphhgjdpfcmpgaaDoor
open Go.ChangeShapes Go.WideShapes Go.ChangeAt Go.RowKit

theorem own : ownKnob Tryd.prog.godebug = none := by kernel_rfl
theorem laidOut : laidOutB Tryd.prog = true := by kernel_rfl

/-- There is an input that fits: at a world in which the listed variables are laid. -/
theorem witness_laid {H : Type} {enc : TypeId × Value → H} {C : Checked} {os : Os} {f : FuncId} {fn : Func} {s : OpenSpec} {conds : List PathCond} {apart : Bool} {laid : List (String × DataW Unit)} (modest : Bool) (w0 : World) (args : Array Value) (hos : w0.os = os)
    (hsh : (w0.forCall (fun _ _ => 0) ⟨#[], args, []⟩).Shaped C.prog)
    (hok : Input.okWideB C.prog (w0.forCall (fun _ _ => 0) ⟨#[], args, []⟩) f ⟨#[], args, []⟩ = true)
    (hrow : s.preRow enc C.prog fn conds apart laid (w0.forCall (fun _ _ => 0) ⟨#[], args, []⟩).memory args) :
    ∃ (w : World) (tape : Tape) (i : Input), w.os = os ∧ (w.forCall tape i).Shaped C.prog ∧ i.vars = [] ∧ Input.okWide C.prog (w.forCall tape i) .any w.heap.size f i ∧
      s.preRow enc C.prog fn conds apart laid (w.forCall tape i).memory i.args ∧ ({ modest := modest } : Assume).holds C.prog (lone (Frame.enter C.prog f i.args .normal) [] (w.forCall tape i)) :=
  ⟨w0, fun _ _ => 0, ⟨#[], args, []⟩, hos, hsh, (Input.okWide_of_okWideB (base := 0) hok).1, (Input.okWide_of_okWideB hok).2, hrow, by
    simp only [Assume.holds]
    exact ⟨by simp, by simp, fun _ => Modest.zero, by simp, by simp⟩⟩

/-- What is read at the witness, with no condition asked of it. -/
theorem pre_laid {H : Type} {enc : TypeId × Value → H} {P : Program} {f : Func} {s : ChangeSpec} {laid : List (String × DataW Unit)} {w : World} {args : Array Value} (fuel : Nat)
    (hx : (DataW.whole enc P w f.params.toList (OpenSpec.ofChange s).vars false args.toList fuel).isSome = true)
    (hsz : (OpenSpec.ofChange s).bare.sizedB enc P f false w args fuel = true) (hl : laidMetH P laid w) : (OpenSpec.ofChange s).preRow enc P f [] false laid w args := by
  obtain ⟨x, hx⟩ := Option.isSome_iff_exists.1 hx
  exact OpenSpec.preRow_of_cond fuel hx rfl (fun k hk => by cases hk) hsz hl
theorem int_wf {n : Int} (h : (Lit.int .i64 n).wf = true) : -9223372036854775808 ≤ n ∧ n ≤ 9223372036854775807 := by
  simp only [Lit.wf, IntKind.min, IntKind.max, IntKind.signed, IntKind.bits, Bool.and_eq_true, decide_eq_true_eq, if_true] at h
  omega
end Go.Proofs.YtphhgjdpfcmpgaaDoor

namespace Go.Proofs.YtphhgjdpfcmpgaaDoor
open Go.ChangeShapes Go.WideShapes Go.ChangeAt Go.RowKit Go.Deep

/-- A list of texts that came in, as the walks take it. -/
theorem row_of_read {H : Type} {enc : TypeId × Value → H} {W : World} {a : Option Addr} {len cap : Nat} {d : DataW H} {p : List MemPlace} {sp : Nat → Bool} {base : Nat} {held : Bool}
    (h : DataW.Trod enc Tryd.prog W base sp held 28 (.slice a len cap) d p) : ∃ P, Row W (.slice a len cap) P ∧ Hid (∀ x ∈ P, x.length ≤ maxLen) := by
  obtain ⟨fuel, hf⟩ := h
  rcases open_strings Tryd.underlying28 Tryd.underlying9 (by kernel_rfl) hf with ⟨hcs, _⟩ | ⟨x, l, c, ss, hcs, _, hl, hm, hz, _, hcell, hws⟩
  · simp [Value.cells] at hcs
    obtain ⟨rfl, rfl, rfl⟩ := hcs
    exact ⟨[], row_nil W, fun x hx => by cases hx⟩
  · simp [Value.cells] at hcs
    obtain ⟨rfl, rfl, rfl⟩ := hcs
    have hle : len ≤ ss.length := by rw [hz]; split <;> omega
    have hlen : ((ss.take len).map (fun b : ByteArray => b.data.toList)).length = len := by simp; omega
    refine ⟨(ss.take len).map (fun b : ByteArray => b.data.toList), ⟨some x, cap, by rw [hlen], by rw [hlen]; exact hl, hm, ?_⟩, ?_⟩
    · by_cases h0 : len = 0
      · left; subst h0; simp
      · right
        obtain ⟨b, off, spot⟩ := x
        have hc0 := hcell 0 (by omega)
        have hspot : spot = none := by simpa [Addr.add] using World.cell?_spot hc0
        subst hspot
        have hblk : b < W.heap.size := World.block_lt_of_cell? _ _ (show W.cell? ⟨b, off, none⟩ = some _ by simpa [Addr.add] using hc0)
        refine ⟨b, off, rfl, hblk, fun j hj => ?_⟩
        rw [hlen] at hj
        have hcj := hcell j (by omega)
        have hadd : (⟨b, off, none⟩ : Addr).add j = ⟨b, off + j, none⟩ := by unfold Addr.add; split <;> simp_all
        rw [hadd] at hcj
        rw [hcj, List.getElem_map, List.getElem_take]
        unfold S
        rw [List.getD_eq_getElem?_getD, List.getElem?_eq_getElem (by omega : j < ss.length)]
        rfl
    · intro y hy
      obtain ⟨b, hb, rfl⟩ := List.mem_map.1 hy
      have := hws b (List.mem_of_mem_take hb)
      simpa using this
end Go.Proofs.YtphhgjdpfcmpgaaDoor
