import Derived.Test.YtgfiahfoghnpkaaGreatDoorZ43
import Derived.Test.YtgfiahfoghnpkaaGreatDoorZ44
import Derived.Test.YtgfiahfoghnpkaaGreatDoorZ05
import Derived.Test.YtgfiahfoghnpkaaGreatDoorZ48
namespace Go.Proofs.YtgfiahfoghnpkaaGreatDoor
open Go.RowKit Go.Maps

set_option maxRecDepth 20000 in
set_option maxHeartbeats 1000000 in
theorem entriesOf_any (now : Int) (v : Value) (L : List EV) (w : World) (hr : EVRow w v L) (hok : Hid (∀ e ∈ L, e.ok)) (h1 : Hid (L.Pairwise (fun e f => e.key ≠ f.key))) (hl : L.length ≤ 1048576) :
    Calls Tryz.prog 52 #[.agg #[.int .i64 now, v]] w fun e w' => ∃ B D, e = .returned (.map (some B)) ∧ w.heap.size ≤ B ∧ w'.ownsMap Tryz.prog 75 elE B L.length D ∧ MapOf D L ∧ Below w.heap.size w w' := by
  have HR : Hid (EVRow w v L) := hr
  obtain ⟨a, cap, rfl, hcap, hmax, hrow⟩ := hr
  have hb : Below w.heap.size w (w.alloc (.cells #[.int .i64 now, .slice a L.length cap] 30)) := (Below.refl _ _).alloc (Nat.le_refl _) _
  have HR1 : Hid (EVRow (w.alloc (.cells #[.int .i64 now, .slice a L.length cap] 30)) (.slice a L.length cap) L) := ⟨a, cap, rfl, hcap, hmax, fun h0 => by
    obtain ⟨b, o, ha, hbl, hc⟩ := hrow h0
    exact ⟨b, o, ha, Nat.lt_of_lt_of_le hbl hb.size, fun j hj => (hc j hj).kept hb hbl⟩⟩
  clear hrow
  go_enter Tryz.func52, Tryz.ntmps52
  go_wp2_with fail
  refine (keepBy_any _ L _ HR1.out hok h1 hl).mono ?_
  rintro e w1 ⟨B, D, rfl, hB, ho, hM, hb1⟩
  have HO : Hid (w1.ownsMap Tryz.prog 75 elE B L.length D) := ho
  have HM : Hid (MapOf D L) := hM
  clear ho hM
  go_wp2_with fail
  go_ret
  exact ⟨B, D, rfl, Nat.le_trans hb.size hB, HO.out, HM.out, hb.trans (hb1.mono hb.size)⟩
theorem typ_range {ty : Int} (h : typB ty = true) : -9223372036854775808 ≤ ty ∧ ty ≤ 9223372036854775807 := by
  unfold typB hasB at h
  simp at h
  omega
set_option maxRecDepth 100000 in
set_option maxHeartbeats 1000000 in
/-- What a good cache's entries are, as values. -/
theorem good_ev {w : World} {v : Value} {now : Int} {L : List EntT} (hr : ERow w v L) (hx : ∀ x ∈ L, EBig x) (hg : goodC now L = true) : ∃ E : List EV, EVRow w v E ∧ E.map (fun e => conT (e, rcOf L e)) = L ∧ (∀ e ∈ E, e.ok) ∧ E.Pairwise (fun e f => e.key ≠ f.key) ∧ (∀ e ∈ E, nameB e.nm.data.toList = true) ∧ E.Pairwise (fun x y => cmpE x y < 0) ∧ E.length ≤ 20 ∧
    (∀ e ∈ E, RRow w e.sl (rcOf L e) ∧ (rcOf L e).length ≤ 1048576 ∧ (∀ r ∈ rcOf L e, r.1.length ≤ 1048576 ∧ r.2.2.2.length ≤ 1048576) ∧ e.nm.size ≤ 1048576) := by
  have hris := good_rise hg
  obtain ⟨E, hE, hm, hR⟩ := ev_row hr hris
  have hmem : ∀ e ∈ E, conT (e, rcOf L e) ∈ L := fun e he => by
    have h : conT (e, rcOf L e) ∈ E.map (fun e => conT (e, rcOf L e)) := List.mem_map.2 ⟨e, he, rfl⟩
    rw [hm] at h
    exact h
  have hgf := goodC_facts hg
  have hent : ∀ x ∈ L, entB now x = true := fun x hx => by obtain ⟨j, hj, rfl⟩ := List.getElem_of_mem hx; exact hgf.2.2 j hj
  have hsz : ∀ s : ByteArray, s.size = s.data.toList.length := fun s => by simp
  have hfac : ∀ e ∈ E, nameB e.nm.data.toList = true ∧ typB e.ty = true := fun e he => by
    have h := hent _ (hmem e he)
    unfold entB at h
    rw [Bool.and_eq_true, Bool.and_eq_true, Bool.and_eq_true] at h
    exact ⟨h.2.1.1, h.2.1.2⟩
  have hbig : ∀ e ∈ E, e.nm.size ≤ 1048576 ∧ (rcOf L e).length ≤ 1048576 ∧ ∀ r ∈ rcOf L e, r.1.length ≤ 1048576 ∧ r.2.2.2.length ≤ 1048576 := fun e he => by
    have h := hx _ (hmem e he)
    exact ⟨by rw [hsz]; exact h.1, h.2.1, h.2.2⟩
  have hok : ∀ e ∈ E, e.ok := fun e he => ⟨by have := (hbig e he).1; unfold maxLen; omega, typ_range (hfac e he).2⟩
  have hrE : E.Pairwise (fun x y => cmpE x y < 0) := by
    have h : (E.map (fun e => conT (e, rcOf L e))).Pairwise (fun x y => cT x y < 0) := by rw [hm]; exact hris
    rw [List.pairwise_map] at h
    exact h
  refine ⟨E, hE, hm, hok, ?_, fun e he => (hfac e he).1, hrE, ?_, fun e he => ⟨hR e he, (hbig e he).2.1, (hbig e he).2.2, (hbig e he).1⟩⟩
  · rw [List.pairwise_iff_getElem] at hrE ⊢
    intro i j hi hj hij hk
    unfold EV.key at hk
    have h := keyL_inj (hok _ (List.getElem_mem hi)) (hok _ (List.getElem_mem hj)) hk
    exact ct_ne (x := conT (E[i], [])) (y := conT (E[j], [])) (hrE i j hi hj hij) ⟨congrArg (fun s : ByteArray => s.data.toList) h.1, h.2⟩
  · have := congrArg List.length hm
    simp at this
    omega
end Go.Proofs.YtgfiahfoghnpkaaGreatDoor

namespace Go.Proofs.YtgfiahfoghnpkaaGreatDoor
open Go.RowKit Go.Maps

end Go.Proofs.YtgfiahfoghnpkaaGreatDoor

namespace Go.Proofs.YtgfiahfoghnpkaaGreatDoor
open Go.RowKit Go.Maps

end Go.Proofs.YtgfiahfoghnpkaaGreatDoor

namespace Go.Proofs.YtgfiahfoghnpkaaGreatDoor
open Go.RowKit Go.Maps

end Go.Proofs.YtgfiahfoghnpkaaGreatDoor
