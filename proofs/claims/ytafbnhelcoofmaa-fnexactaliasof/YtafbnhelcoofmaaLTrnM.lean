import Derived.Test.YtafbnhelcoofmaaLTrn
import Derived.Test.YtafbnhelcoofmaaMkZ
namespace Go.Proofs.Ytafbnhelcoofmaa
open Go.RowKit

/-- A row in a block that is not written to is kept. -/
theorem ZSRow.apart {w w' : World} {g : Nat} {S : Nat → Prop} {L : List Int} (h : ZSRow w g L) (hk : Kpt w w' S) (hn : ¬ S g) : ZSRow w' g L := by
  have hblk : w'.heap[g]? = w.heap[g]? := hk.block g h.1 hn
  refine ⟨Nat.lt_of_lt_of_le h.1 hk.size, fun j hj => ⟨hk.cell (h.2 j hj).1 hn, ?_⟩⟩
  have h2 := (h.2 j hj).2
  unfold World.frozen? at h2 ⊢
  rw [hblk]; exact h2
theorem ZSRow.rowc {w : World} {g cap : Nat} {L : List Int} (h : ZSRow w g L) (hc : L.length ≤ cap) (hm : cap ≤ 9223372036854775807) : ZRow .i64 w (.slice (some ⟨g, 0, none⟩) L.length cap) L :=
  ⟨_, cap, rfl, hc, by unfold maxLen; omega, .inr ⟨g, 0, rfl, h.1, fun j hj => by rw [Nat.zero_add]; exact (h.2 j hj).1⟩⟩

set_option maxRecDepth 20000 in
set_option maxHeartbeats 2000000 in
theorem markTurn_any (g1 c1 g2 c2 : Nat) (A U : List Int) (w : World) (h1 : ZSRow w g1 A) (h2 : ZSRow w g2 U) (hne : g1 ≠ g2) (hla : A.length ≤ 1048576) (hlu : U.length ≤ 1048576) (hc1 : A.length ≤ c1) (hm1 : c1 ≤ 9223372036854775807) (hc2 : U.length ≤ c2) (hm2 : c2 ≤ 9223372036854775807) :
    Calls Try.prog 18 #[TrnV (.slice (some ⟨g1, 0, none⟩) A.length c1) (.slice (some ⟨g2, 0, none⟩) U.length c2), .int .i64 1] w fun e w' => e = .returned (.int .i64 (1 + (A.length : Int) + (U.length : Int))) ∧ ZSRow w' g1 (mksZ 1 A.length) ∧ ZSRow w' g2 (mksZ (1 + A.length) U.length) ∧ Kpt w w' (fun k => k = g1 ∨ k = g2) := by
  unfold TrnV
  have hb0 : Below w.heap.size w (w.alloc (.cells #[.slice (some ⟨g1, 0, none⟩) A.length c1, .slice (some ⟨g2, 0, none⟩) U.length c2] 33)) := (Below.refl w.heap.size w).alloc (Nat.le_refl _) _
  have HA : Hid (ZSRow (w.alloc (.cells #[.slice (some ⟨g1, 0, none⟩) A.length c1, .slice (some ⟨g2, 0, none⟩) U.length c2] 33)) g1 A) := h1.kept hb0
  have HU : Hid (ZSRow (w.alloc (.cells #[.slice (some ⟨g1, 0, none⟩) A.length c1, .slice (some ⟨g2, 0, none⟩) U.length c2] 33)) g2 U) := h2.kept hb0
  have hz1 := h1.1
  have HK0 : Hid (Kpt w (w.alloc (.cells #[.slice (some ⟨g1, 0, none⟩) A.length c1, .slice (some ⟨g2, 0, none⟩) U.length c2] 33)) (fun k => k = g1 ∨ k = g2)) := kpt_alloc _ _ _
  have HBX : Hid ((w.alloc (.cells #[.slice (some ⟨g1, 0, none⟩) A.length c1, .slice (some ⟨g2, 0, none⟩) U.length c2] 33)).heap[w.heap.size]? = some (.cells #[.slice (some ⟨g1, 0, none⟩) A.length c1, .slice (some ⟨g2, 0, none⟩) U.length c2] 33)) := trn_new _ _
  have HNE : Hid (g1 ≠ g2) := hne
  clear h1 h2 hne
  go_enter Try.func18, Try.ntmps18
  go_wp2_with fail
  refine (markIntZ_any g1 c1 1 A _ HA.out hla hc1 hm1 (by omega)).mono ?_
  rintro e w1 ⟨rfl, hs1, hgr1⟩
  have hk1 : Kpt (w.alloc (.cells #[.slice (some ⟨g1, 0, none⟩) A.length c1, .slice (some ⟨g2, 0, none⟩) U.length c2] 33)) w1 (fun k => k = g1) := (grown_kpt hgr1).mono (fun k _ h => (Option.some.inj h).symm)
  have HS1 : Hid (ZSRow w1 g1 (mksZ 1 A.length)) := hs1
  have HU1 : Hid (ZSRow w1 g2 U) := HU.out.apart hk1 (fun e => HNE.out e.symm)
  have HK1 : Hid (Kpt w w1 (fun k => k = g1 ∨ k = g2)) := HK0.out.trans (hk1.mono (fun k _ h => .inl h))
  have d1 := (trn_cells ((hk1.block w.heap.size (by simp) (by omega)).trans HBX.out)).1.2
  have e1 : (((1 : Nat) : Int) + (A.length : Int)) = ((1 + A.length : Nat) : Int) := by omega
  rw [e1]
  have HE1 : Hid (((1 + A.length : Nat) : Int) + (U.length : Int) = 1 + (A.length : Int) + (U.length : Int)) := by show _ = _; omega
  obtain ⟨K, hK⟩ : ∃ K : Nat, K = 1 + A.length := ⟨_, rfl⟩
  have hK2 : K ≤ 1073741824 := by omega
  rw [← hK] at HE1 ⊢
  have HKE : Hid (K = 1 + A.length) := hK
  clear hs1 hgr1 hk1 HA HU HBX e1 hK
  go_wp2_with fail
  refine (markIntZ_any g2 c2 K U _ HU1.out hlu hc2 hm2 hK2).mono ?_
  rintro e w2 ⟨rfl, hs2, hgr2⟩
  have hk2 : Kpt w1 w2 (fun k => k = g2) := (grown_kpt hgr2).mono (fun k _ h => (Option.some.inj h).symm)
  have HS2 : Hid (ZSRow w2 g2 (mksZ (1 + A.length) U.length)) := by
    have h := hs2
    rw [HKE.out] at h
    exact h
  have HS12 : Hid (ZSRow w2 g1 (mksZ 1 A.length)) := HS1.out.apart hk2 HNE.out
  have HK2 : Hid (Kpt w w2 (fun k => k = g1 ∨ k = g2)) := HK1.out.trans (hk2.mono (fun k _ h => .inr h))
  clear hs2 hgr2 hk2
  rw [HE1.out]
  go_wp2_with fail
  go_ret
  exact ⟨rfl, HS12.out, HS2.out, HK2.out⟩

set_option maxRecDepth 20000 in
set_option maxHeartbeats 2000000 in
theorem heldTurn_any (g1 c1 g2 c2 n1 n2 : Nat) (w : World) (h1 : ZSRow w g1 (mksZ 1 n1)) (h2 : ZSRow w g2 (mksZ (1 + n1) n2)) (hla : n1 ≤ 1048576) (hlu : n2 ≤ 1048576) (hc1 : n1 ≤ c1) (hm1 : c1 ≤ 9223372036854775807) (hc2 : n2 ≤ c2) (hm2 : c2 ≤ 9223372036854775807) :
    Calls Try.prog 19 #[TrnV (.slice (some ⟨g1, 0, none⟩) n1 c1) (.slice (some ⟨g2, 0, none⟩) n2 c2), .int .i64 1] w fun e w' => e = .returned (.int .i64 (1 + (n1 : Int) + (n2 : Int))) ∧ Below w.heap.size w w' := by
  unfold TrnV
  have hb0 : Below w.heap.size w (w.alloc (.cells #[.slice (some ⟨g1, 0, none⟩) n1 c1, .slice (some ⟨g2, 0, none⟩) n2 c2] 33)) := (Below.refl w.heap.size w).alloc (Nat.le_refl _) _
  have HA : Hid (ZRow .i64 (w.alloc (.cells #[.slice (some ⟨g1, 0, none⟩) n1 c1, .slice (some ⟨g2, 0, none⟩) n2 c2] 33)) (.slice (some ⟨g1, 0, none⟩) n1 c1) (mksZ 1 n1)) := by
    have h := (h1.kept hb0).rowc (cap := c1) (by rw [mksZ_length]; exact hc1) hm1
    rw [mksZ_length] at h
    exact h
  have HU : Hid (ZRow .i64 (w.alloc (.cells #[.slice (some ⟨g1, 0, none⟩) n1 c1, .slice (some ⟨g2, 0, none⟩) n2 c2] 33)) (.slice (some ⟨g2, 0, none⟩) n2 c2) (mksZ (1 + n1) n2)) := by
    have h := (h2.kept hb0).rowc (cap := c2) (by rw [mksZ_length]; exact hc2) hm2
    rw [mksZ_length] at h
    exact h
  clear h1 h2
  go_enter Try.func19, Try.ntmps19
  go_wp2_with fail
  refine (heldIntZ_any _ n1 1 _ HA.out hla (by omega)).mono ?_
  rintro e w1 ⟨rfl, rfl⟩
  have e1 : (((1 : Nat) : Int) + (n1 : Int)) = ((1 + n1 : Nat) : Int) := by omega
  rw [e1]
  have HE1 : Hid (((1 + n1 : Nat) : Int) + (n2 : Int) = 1 + (n1 : Int) + (n2 : Int)) := by show _ = _; omega
  obtain ⟨K, hK⟩ : ∃ K : Nat, K = 1 + n1 := ⟨_, rfl⟩
  have hK2 : K ≤ 1073741824 := by omega
  have hK0 : ¬ ((K : Int) < 0) := by omega
  rw [← hK] at HE1 HU ⊢
  clear e1 hK
  go_wp2_with fail
  refine (heldIntZ_any _ n2 K _ HU.out hlu hK2).mono ?_
  rintro e w2 ⟨rfl, rfl⟩
  rw [HE1.out]
  obtain ⟨m, hm⟩ : ∃ m : Int, m = 1 + (n1 : Int) + (n2 : Int) := ⟨_, rfl⟩
  have hm0 : ¬ m < 0 := by omega
  rw [← hm]
  have HMM : Hid (m = 1 + (n1 : Int) + (n2 : Int)) := hm
  clear hm HE1
  go_wp2_with fail
  go_ret
  exact ⟨ret_int HMM.out, hb0⟩
end Go.Proofs.Ytafbnhelcoofmaa
