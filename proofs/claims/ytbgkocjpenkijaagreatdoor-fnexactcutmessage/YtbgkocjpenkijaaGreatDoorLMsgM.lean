import Derived.Test.YtbgkocjpenkijaaGreatDoorLMsgE
import Derived.Test.YtbgkocjpenkijaaGreatDoorLRecM
namespace Go.Proofs.YtbgkocjpenkijaaGreatDoor
open Go.RowKit

/-- A world in which all blocks but some are as they were. -/
structure Kpt (w w' : World) (S : Nat → Prop) : Prop where
  os : w'.os = w.os
  tape : w'.tape = w.tape
  output : w'.output = w.output
  size : w.heap.size ≤ w'.heap.size
  block : ∀ k, k < w.heap.size → ¬ S k → w'.heap[k]? = w.heap[k]?
theorem Kpt.refl (w : World) (S : Nat → Prop) : Kpt w w S := ⟨rfl, rfl, rfl, Nat.le_refl _, fun _ _ _ => rfl⟩
theorem Kpt.trans {a b c : World} {S : Nat → Prop} (h : Kpt a b S) (k : Kpt b c S) : Kpt a c S :=
  ⟨k.os.trans h.os, k.tape.trans h.tape, k.output.trans h.output, Nat.le_trans h.size k.size, fun i hi hn => (k.block i (Nat.lt_of_lt_of_le hi h.size) hn).trans (h.block i hi hn)⟩
theorem Kpt.mono {a b : World} {S T : Nat → Prop} (h : Kpt a b S) (hs : ∀ k, k < a.heap.size → S k → T k) : Kpt a b T := ⟨h.os, h.tape, h.output, h.size, fun k hk hn => h.block k hk (fun s => hn (hs k hk s))⟩
theorem grown_kpt {a b : World} {row : Option Nat} (h : a.grownBy b row) : Kpt a b (fun k => row = some k) := ⟨h.os, h.tape, h.output, h.size, fun k hk hn => h.block k hk (fun e => hn e.symm)⟩
theorem below_kpt {a b : World} {B : Nat} (h : Below B a b) : Kpt a b (fun k => B ≤ k) := ⟨h.os, h.tape, h.output, h.size, fun k _ hn => h.block k (by omega)⟩
theorem below_kpt0 {a b : World} (h : Below a.heap.size a b) (S : Nat → Prop) : Kpt a b S := (below_kpt h).mono (fun k hk hs => by omega)
theorem Kpt.below {a b : World} {S : Nat → Prop} {B : Nat} (h : Kpt a b S) (hB : B ≤ a.heap.size) (hs : ∀ k, k < B → ¬ S k) : Below B a b := ⟨h.os, h.tape, h.output, h.size, fun k hk => h.block k (Nat.lt_of_lt_of_le hk hB) (hs k hk)⟩
theorem Kpt.cell {a b : World} {S : Nat → Prop} (h : Kpt a b S) {p : Addr} {u : Value} (hc : a.cell? p = some u) (hn : ¬ S p.block) : b.cell? p = some u :=
  (World.cell?_of_block (h.block p.block (World.block_lt_of_cell? a p hc) hn)).trans hc
theorem Kpt.recAt {a b : World} {S : Nat → Prop} (h : Kpt a b S) {g o : Nat} {x : (List UInt8 × Int × Int × List UInt8)} (hr : RecAt a g o x) (hn : ¬ S g) : RecAt b g o x :=
  ⟨h.cell hr.1 hn, h.cell hr.2.1 hn, h.cell hr.2.2.1 hn, h.cell hr.2.2.2 hn⟩
theorem QRow.kpt {a b : World} {S : Nat → Prop} {g : Nat} {L : List (List UInt8 × Int × Int × List UInt8)} (hq : QRow a g L) (h : Kpt a b S) (hn : ¬ S g) : QRow b g L := by
  refine ⟨Nat.lt_of_lt_of_le hq.1 h.size, fun j hj => ⟨h.recAt (hq.2 j hj).1 hn, ?_⟩⟩
  have h0 := (hq.2 j hj).2
  have hb := h.block g hq.1 hn
  unfold FzAt at h0 ⊢
  rw [World.frozen?_of_block (w := a) (w' := b) (a := ⟨g, j * 4, none⟩) hb, World.frozen?_of_block (w := a) (w' := b) (a := ⟨g, j * 4 + 1, none⟩) hb, World.frozen?_of_block (w := a) (w' := b) (a := ⟨g, j * 4 + 2, none⟩) hb, World.frozen?_of_block (w := a) (w' := b) (a := ⟨g, j * 4 + 3, none⟩) hb]
  exact h0
theorem RRow.kpt {a b : World} {S : Nat → Prop} {v : Value} {L : List (List UInt8 × Int × Int × List UInt8)} (hq : RRow a v L) (h : Kpt a b S) (hn : ∀ g o n c, v = .slice (some ⟨g, o, none⟩) n c → L ≠ [] → ¬ S g) : RRow b v L := by
  obtain ⟨x, cap, rfl, h1, h2, h3⟩ := hq
  refine ⟨x, cap, rfl, h1, h2, ?_⟩
  rcases h3 with h3 | ⟨g, o, rfl, hl, hr⟩
  · exact .inl h3
  · by_cases h0 : L = []
    · exact .inl h0
    · exact .inr ⟨g, o, rfl, Nat.lt_of_lt_of_le hl h.size, fun j hj => h.recAt (hr j hj) (hn g o _ _ rfl h0)⟩
theorem OwnQ.kpt {a b : World} {S : Nat → Prop} {base : Nat} {v : Value} {L : List (List UInt8 × Int × Int × List UInt8)} (hq : OwnQ a base v L) (h : Kpt a b S) (hn : ∀ g, v.ownBlock = some g → ¬ S g) : OwnQ b base v L := by
  rcases hq with hq | ⟨g, cap, rfl, h1, h2, h3, hs⟩
  · exact .inl hq
  · exact .inr ⟨g, cap, rfl, h1, h2, h3, hs.kpt h (hn g rfl)⟩
theorem OwnQ.lt {w : World} {base : Nat} {v : Value} {L : List (List UInt8 × Int × Int × List UInt8)} (hq : OwnQ w base v L) : ∀ g, v.ownBlock = some g → base ≤ g ∧ g < w.heap.size := by
  intro g hg
  rcases hq with ⟨rfl, _⟩ | ⟨g', cap, rfl, h1, h2, h3, hs⟩
  · cases hg
  · injection hg with hg
    subst hg; exact ⟨h3, hs.1⟩
theorem OwnQ.shape {w : World} {base : Nat} {v : Value} {L : List (List UInt8 × Int × Int × List UInt8)} (hq : OwnQ w base v L) : ∃ a cap, v = .slice a L.length cap ∧ cap ≤ maxLen := by
  rcases hq with ⟨rfl, rfl⟩ | ⟨g, cap, rfl, h1, h2, h3, hs⟩
  · exact ⟨none, 0, rfl, by unfold maxLen; omega⟩
  · exact ⟨_, cap, rfl, h2⟩
theorem kpt_set (w : World) (g k : Nat) (u : Value) {S : Nat → Prop} (hs : S g) : Kpt w (w.setCell ⟨g, k, none⟩ u) S :=
  ⟨rfl, rfl, rfl, by simp, fun j _ hn => Below.heap_setCell w ⟨g, k, none⟩ u j (fun e => hn (e ▸ hs))⟩
theorem kpt_alloc (w : World) (o : Obj) (S : Nat → Prop) : Kpt w (w.alloc o) S := below_kpt0 ((Below.refl w.heap.size w).alloc (Nat.le_refl _) _) S
theorem kpt_put8 (w : World) (g : Nat) (v0 v1 v2 v3 v4 v5 v6 v7 : Value) {S : Nat → Prop} (hs : S g) : Kpt w (put8 w g v0 v1 v2 v3 v4 v5 v6 v7) S := by
  unfold put8
  exact (((((((kpt_set _ _ _ _ hs).trans (kpt_set _ _ _ _ hs)).trans (kpt_set _ _ _ _ hs)).trans (kpt_set _ _ _ _ hs)).trans (kpt_set _ _ _ _ hs)).trans (kpt_set _ _ _ _ hs)).trans (kpt_set _ _ _ _ hs)).trans (kpt_set _ _ _ _ hs)

set_option maxRecDepth 20000 in
set_option maxHeartbeats 2000000 in
theorem markMessage_any (mi : Int) (reply cutm : Bool) (code : Int) (nm : ByteArray) (ty : Int) (va vu : Value) (A U : List (List UInt8 × Int × Int × List UInt8)) (base K : Nat) (w : World) (ha : OwnQ w base va A) (hu : OwnQ w base vu U) (hne : ∀ g, va.ownBlock = some g → vu.ownBlock ≠ some g) (hA : A.length ≤ 1048576) (hU : U.length ≤ 1048576) (hK0 : 0 < K) (hK : K ≤ 1048576) :
    Calls Tryz.prog 24 #[MsgV mi reply cutm code nm ty va vu, .int .i64 (K : Int)] w fun e w' => e = .returned (.int .i64 ((K : Int) + 4 * (A.length : Int) + 4 * (U.length : Int))) ∧ OwnQ w' base va (mrks K A.length) ∧ OwnQ w' base vu (mrks (K + 4 * A.length) U.length) ∧ Kpt w w' (fun k => va.ownBlock = some k ∨ vu.ownBlock = some k) := by
  unfold MsgV
  obtain ⟨aa, ca, hva, hca⟩ := ha.shape
  obtain ⟨au, cu, hvu, hcu⟩ := hu.shape
  subst hva
  subst hvu
  have HA : Hid (OwnQ w base (.slice aa A.length ca) A) := ha
  have HU : Hid (OwnQ w base (.slice au U.length cu) U) := hu
  have HN : Hid (∀ g, (Value.slice aa A.length ca).ownBlock = some g → (Value.slice au U.length cu).ownBlock ≠ some g) := hne
  clear ha hu hne
  go_enter Tryz.func24, Tryz.ntmps24
  go_wp2_with fail
  refine (markRecordS_any _ A base K _ (HA.out.kept ((Below.refl w.heap.size w).alloc (Nat.le_refl _) _)) hA hK0 (by omega)).mono ?_
  rintro e w1 ⟨rfl, ho1, hg1⟩
  have hk1 := grown_kpt hg1
  have c7 : w1.cell? ⟨w.heap.size, 7, none⟩ = some (.slice au U.length cu) := hk1.cell (by simp) (fun e => by have h := (HA.out.lt _ e).2; exact absurd h (Nat.lt_irrefl _))
  have HU1 : Hid (OwnQ w1 base (.slice au U.length cu) U) := (HU.out.kept ((Below.refl w.heap.size w).alloc (Nat.le_refl _) _)).kpt hk1 (fun g hg e => HN.out g e hg)
  have HO1 : Hid (OwnQ w1 base (.slice aa A.length ca) (mrks K A.length)) := ho1
  have HK1 : Hid (Kpt w w1 (fun k => (Value.slice aa A.length ca).ownBlock = some k ∨ (Value.slice au U.length cu).ownBlock = some k)) := (below_kpt0 ((Below.refl w.heap.size w).alloc (Nat.le_refl _) _) _).trans (hk1.mono (fun k _ h => .inl h))
  clear ho1 hg1 hk1
  obtain ⟨K2, hK2⟩ : ∃ K2 : Nat, K2 = K + 4 * A.length := ⟨_, rfl⟩
  have hE : (K : Int) + 4 * (A.length : Int) = (K2 : Int) := by omega
  have HC : Hid (Calls Tryz.prog 33 #[.slice au U.length cu, .int .i64 (K2 : Int)] w1 fun e w' => e = .returned (.int .i64 ((K2 : Int) + 4 * (U.length : Int))) ∧ OwnQ w' base (.slice au U.length cu) (mrks K2 U.length) ∧ w1.grownBy w' (Value.slice au U.length cu).ownBlock) := markRecordS_any (.slice au U.length cu) U base K2 w1 HU1.out hU (by omega) (by omega)
  rw [hE]
  have HE : Hid ((K : Int) + 4 * (A.length : Int) = (K2 : Int) ∧ K2 = K + 4 * A.length) := ⟨hE, hK2⟩
  clear hE hK2
  go_wp2_with fail
  refine HC.out.mono ?_
  rintro e w2 ⟨rfl, ho2, hg2⟩
  have hk2 := grown_kpt hg2
  have HO2 : Hid (OwnQ w2 base (.slice aa A.length ca) (mrks K A.length)) := HO1.out.kpt hk2 (fun g hg e => HN.out g hg e)
  have HO3 : Hid (OwnQ w2 base (.slice au U.length cu) (mrks K2 U.length)) := ho2
  have HK2 : Hid (Kpt w w2 (fun k => (Value.slice aa A.length ca).ownBlock = some k ∨ (Value.slice au U.length cu).ownBlock = some k)) := HK1.out.trans (hk2.mono (fun k _ h => .inr h))
  clear ho2 hg2 hk2
  go_wp2_with fail
  go_ret
  exact ⟨ret_intI (by have h := HE.out.1; omega), HO2.out, by rw [← HE.out.2]; exact HO3.out, HK2.out⟩
end Go.Proofs.YtbgkocjpenkijaaGreatDoor
