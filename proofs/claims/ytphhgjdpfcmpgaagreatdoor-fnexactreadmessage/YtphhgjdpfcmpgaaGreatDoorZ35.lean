import Derived.Test.YtphhgjdpfcmpgaaGreatDoorZ29
import Derived.Test.YtphhgjdpfcmpgaaGreatDoorZ34
namespace Go.Proofs.YtphhgjdpfcmpgaaGreatDoor
open Go.RowKit

theorem tkb_app {p q : List UInt8} {n : Nat} (h : p.length = n) : tkb (p ++ q) n = p := by
  unfold tkb; rw [if_pos (by rw [List.length_append]; omega), List.take_left' h]
theorem tkr_app {p q : List UInt8} {n : Nat} (h : p.length = n) : tkr (p ++ q) n = q := by
  unfold tkr; rw [if_pos (by rw [List.length_append]; omega), List.drop_left' h]
theorem unp_chain {l : List UInt8} : ∀ (N : List (List UInt8)) (a : Nat), Chain l a N → unp l N.length a = some N
  | [], a, h => by
    have h' : a = l.length := h
    rw [List.length_nil, unp, if_pos h']
  | s :: r, a, h => by
    obtain ⟨e, q, ht, hr⟩ := h
    rw [List.length_cons, unp, ht]
    show Option.map _ (unp l r.length e) = _
    rw [unp_chain r e hr]; rfl
theorem nat_of {n : Nat} {k : Int} (h : (n : Int) = k) : k.toNat = n := by omega
/-- Records come back from their bytes. -/
theorem rdRecs_back : ∀ (L : List (List UInt8 × Int × Int × List UInt8)) (t : List UInt8), (∀ x ∈ L, GoodR x) → rdRecs (L.map Prod.fst) (recsW L ++ t) = L ∧ rdLefts (L.map Prod.fst) (recsW L ++ t) = t
  | [], t, _ => ⟨rfl, rfl⟩
  | x :: r, t, hg => by
    have hx := hg x (by simp)
    have hs := data_small hx.data
    have ih := rdRecs_back r t (fun y hy => hg y (by simp [hy]))
    obtain ⟨xn, xt, xl, xd⟩ := x
    have g1 : 1 ≤ xt := hx.ty0
    have g2 : xt ≤ 16 := hx.ty1
    have g3 : 0 ≤ xl := hx.ttl0
    have g4 : xl ≤ 100000 := hx.ttl1
    obtain ⟨dd, hdd⟩ : ∃ dd, dd = datW (xn, xt, xl, xd) := ⟨_, rfl⟩
    rw [← hdd] at hs
    have hdat : dataP xt xd = some dd := by rw [hdd]; exact hx.data
    have hW : recW (xn, xt, xl, xd) = beB xt 1 ++ beB xl 3 ++ beB (dd.length : Int) 1 ++ dd := by unfold recW; rw [← hdd]
    have hT : recsW ((xn, xt, xl, xd) :: r) ++ t = beB xt 1 ++ (beB xl 3 ++ (beB (dd.length : Int) 1 ++ (dd ++ (recsW r ++ t)))) := by
      rw [recsW, hW]; simp only [List.append_assoc]
    have r1 : ((rdN (beB xt 1) : Nat) : Int) = xt := rdN_be (by omega) (by rw [Nat.pow_one]; omega)
    have r2 : ((rdN (beB xl 3) : Nat) : Int) = xl := rdN_be g3 (by rw [p256_3]; omega)
    have r3 : ((rdN (beB (dd.length : Int) 1) : Nat) : Int) = (dd.length : Int) := rdN_be (by omega) (by rw [Nat.pow_one]; omega)
    have r3' : rdN (beB (dd.length : Int) 1) = dd.length := by exact_mod_cast r3
    have hrec : rdRec xn (recsW ((xn, xt, xl, xd) :: r) ++ t) = (xn, xt, xl, xd) := by
      unfold rdRec
      rw [hT, tkb_app (beB_length _ _), tkr_app (beB_length _ _), tkb_app (beB_length _ _), tkr_app (beB_length _ _), tkb_app (beB_length _ _), tkr_app (beB_length _ _), r3', tkb_app rfl, r1, r2, readI_yes hdat]; rfl
    have hlef : rdLeft (recsW ((xn, xt, xl, xd) :: r) ++ t) = recsW r ++ t := by
      unfold rdLeft
      rw [hT, tkr_app (beB_length _ _), tkr_app (beB_length _ _), tkb_app (beB_length _ _), tkr_app (beB_length _ _), r3', tkr_app rfl]
    rw [List.map_cons, rdRecs, rdLefts]
    show rdRec xn _ :: rdRecs (r.map Prod.fst) _ = _ ∧ rdLefts (r.map Prod.fst) _ = _
    rw [hrec, hlef, ih.1, ih.2]; exact ⟨rfl, rfl⟩

section
variable {mi : Int} {reply cutm : Bool} {code : Int} {nm : List UInt8} {ty : Int} {A U : List (List UInt8 × Int × Int × List UInt8)}
theorem prog_back (g : GoodM mi reply cutm code nm ty A U) {b l1 l2 l3 l4 l5 l6 l7 l8 pk : List UInt8} {n1 n2 n3 n4 n5 n6 n8 : Nat} (hb : b = msgW mi reply cutm code nm ty A U)
    (e1 : l1 = tkr b 2 ∧ n1 = rdN (tkb b 2)) (e2 : l2 = tkr l1 1 ∧ n2 = rdN (tkb l1 1)) (e3 : l3 = tkr l2 1 ∧ n3 = rdN (tkb l2 1)) (e4 : l4 = tkr l3 1 ∧ n4 = rdN (tkb l3 1)) (e5 : l5 = tkr l4 1 ∧ n5 = rdN (tkb l4 1))
    (e6 : l6 = tkr l5 2 ∧ n6 = rdN (tkb l5 2)) (e7 : l7 = tkr l6 n6 ∧ pk = tkb l6 n6) (e8 : l8 = tkr l7 1 ∧ n8 = rdN (tkb l7 1)) :
    ((n1 : Int) = mi ∧ decide (128 ≤ n2) = reply ∧ decide (n2 % 2 = 1) = cutm ∧ (n3 : Int) = code ∧ (n8 : Int) = ty) ∧ unp pk (1 + (n4 + n5)) 0 = some (nm :: (A ++ U).map Prod.fst) ∧
    rdRecs (((A ++ U).map Prod.fst).take n4) l8 = A ∧ rdRecs (((A ++ U).map Prod.fst).drop n4) (rdLefts (((A ++ U).map Prod.fst).take n4) l8) = U := by
  have hnl : ∀ p ∈ nm :: (A ++ U).map Prod.fst, nameB p = true := fun p hp => by
    rcases List.mem_cons.1 hp with rfl | hp
    · exact g.name
    · obtain ⟨x, hx, rfl⟩ := List.mem_map.1 hp
      exact (g.all x hx).name
  have h1 := g.few
  have h2 := g.fewU
  have hpl : (namW nm (A ++ U)).length ≤ 1575 := by
    have h := packAll_len (nm :: (A ++ U).map Prod.fst) [] hnl
    rw [List.length_cons, List.length_map, List.length_append] at h
    unfold namW
    simp only [List.length_nil] at h
    omega
  have hch : Chain (namW nm (A ++ U)) 0 (nm :: (A ++ U).map Prod.fst) := chain_pack hnl (by rw [List.length_cons, List.length_map, List.length_append]; omega)
  have hf : 0 ≤ flagI reply cutm ∧ flagI reply cutm ≤ 255 := by cases reply <;> cases cutm <;> decide
  obtain ⟨pw, hpw⟩ : ∃ pw, pw = namW nm (A ++ U) := ⟨_, rfl⟩
  rw [← hpw] at hpl hch
  have hbe : b = beB mi 2 ++ (beB (flagI reply cutm) 1 ++ (beB code 1 ++ (beB (A.length : Int) 1 ++ (beB (U.length : Int) 1 ++ (beB (pw.length : Int) 2 ++ (pw ++ (beB ty 1 ++ recsW (A ++ U)))))))) := by
    rw [hb]; unfold msgW; rw [← hpw]; simp only [List.append_assoc]
  rw [hbe, tkr_app (beB_length _ _), tkb_app (beB_length _ _)] at e1
  rw [e1.1, tkr_app (beB_length _ _), tkb_app (beB_length _ _)] at e2
  rw [e2.1, tkr_app (beB_length _ _), tkb_app (beB_length _ _)] at e3
  rw [e3.1, tkr_app (beB_length _ _), tkb_app (beB_length _ _)] at e4
  rw [e4.1, tkr_app (beB_length _ _), tkb_app (beB_length _ _)] at e5
  rw [e5.1, tkr_app (beB_length _ _), tkb_app (beB_length _ _)] at e6
  have p1 := p256_2
  have f1 : (n1 : Int) = mi := by rw [e1.2]; exact rdN_be g.id0 (by have h := g.id1; have h' := g.id0; rw [p256_2]; omega)
  have f2 : (n2 : Int) = flagI reply cutm := by rw [e2.2]; exact rdN_be hf.1 (by have h := hf.2; have h' := hf.1; rw [Nat.pow_one]; omega)
  have f3 : (n3 : Int) = code := by rw [e3.2]; exact rdN_be g.code0 (by have h := g.code1; have h' := g.code0; rw [Nat.pow_one]; omega)
  have f4 : (n4 : Int) = (A.length : Int) := by rw [e4.2]; exact rdN_be (by omega) (by rw [Nat.pow_one]; omega)
  have f5 : (n5 : Int) = (U.length : Int) := by rw [e5.2]; exact rdN_be (by omega) (by rw [Nat.pow_one]; omega)
  have f6 : (n6 : Int) = (pw.length : Int) := by rw [e6.2]; exact rdN_be (by omega) (by rw [p256_2]; omega)
  have g6 : pw.length = n6 := by omega
  rw [e6.1, tkr_app g6, tkb_app g6] at e7
  rw [e7.1, tkr_app (beB_length _ _), tkb_app (beB_length _ _)] at e8
  have f8 : (n8 : Int) = ty := by rw [e8.2]; exact rdN_be (by have h := g.ty0; omega) (by have h := g.ty0; have h' := g.ty1; rw [Nat.pow_one]; omega)
  have hfl := flag_bits reply cutm n2 f2
  have g4 : n4 = A.length := by omega
  have g5 : n5 = U.length := by omega
  have hgA : ∀ x ∈ A, GoodR x := fun x hx => g.all x (List.mem_append.2 (.inl hx))
  have hgU : ∀ x ∈ U, GoodR x := fun x hx => g.all x (List.mem_append.2 (.inr hx))
  have hl8 : l8 = recsW A ++ recsW U := by rw [e8.1, recsW_app]
  have bA := rdRecs_back A (recsW U) hgA
  have bU := rdRecs_back U [] hgU
  rw [List.append_nil] at bU
  have htk : ((A ++ U).map Prod.fst).take n4 = A.map Prod.fst := by rw [List.map_append, List.take_left' (by rw [List.length_map, g4])]
  have hdr : ((A ++ U).map Prod.fst).drop n4 = U.map Prod.fst := by rw [List.map_append, List.drop_left' (by rw [List.length_map, g4])]
  refine ⟨⟨f1, hfl.1, hfl.2, f3, f8⟩, ?_, ?_, ?_⟩
  · have h := unp_chain _ 0 hch
    rw [List.length_cons, List.length_map, List.length_append] at h
    rw [e7.2, show 1 + (n4 + n5) = A.length + U.length + 1 by omega]; exact h
  · rw [htk, hl8]; exact bA.1
  · rw [htk, hdr, hl8, bA.2]; exact bU.1
/-- What is read is a good message with these bytes. -/
theorem readM_good {b : List UInt8} {nm : List UInt8} {L : List (List UInt8 × Int × Int × List UInt8)} (h : readM b = some (nm, L)) :
    msgB ((rdN (b.take 2) : Nat) : Int) (rpM b) (ctM b) (bt b 3 : Int) nm (tyM b : Int) (L.take (bt b 4)) (L.drop (bt b 4)) = true ∧ b = msgW ((rdN (b.take 2) : Nat) : Int) (rpM b) (ctM b) (bt b 3 : Int) nm (tyM b : Int) (L.take (bt b 4)) (L.drop (bt b 4)) := by
  unfold readM at h
  split at h
  · split at h
    · cases h
    · split at h
      · rename_i nm' L' _ hc
        simp only [Option.some.injEq, Prod.mk.injEq] at h
        obtain ⟨rfl, rfl⟩ := h
        exact ⟨hc.1, hc.2.symm⟩
      · cases h
  · cases h
end
end Go.Proofs.YtphhgjdpfcmpgaaGreatDoor
