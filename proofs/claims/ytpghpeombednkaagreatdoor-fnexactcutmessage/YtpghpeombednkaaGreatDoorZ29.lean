import Derived.Test.YtpghpeombednkaaGreatDoorZ22
import Derived.Test.YtpghpeombednkaaGreatDoorZ23
import Derived.Test.YtpghpeombednkaaGreatDoorZ10
import Derived.Test.YtpghpeombednkaaGreatDoorZ28
import Derived.Deep.RegionHeld3
namespace Go.Proofs.YtpghpeombednkaaGreatDoor
open Go.RowKit

/-- A record's data in bytes. -/
def datW (x : List UInt8 × Int × Int × List UInt8) : List UInt8 := (dataP x.2.1 x.2.2.2).getD []
/-- What stands of a record behind the names. -/
def recW (x : List UInt8 × Int × Int × List UInt8) : List UInt8 := beB x.2.1 1 ++ beB x.2.2.1 3 ++ beB ((datW x).length : Int) 1 ++ datW x
def recsW : List (List UInt8 × Int × Int × List UInt8) → List UInt8
  | [] => []
  | x :: r => recW x ++ recsW r
def flagI (reply cutm : Bool) : Int := (if reply = true then 128 else 0) + (if cutm = true then 1 else 0)
def namW (nm : List UInt8) (L : List (List UInt8 × Int × Int × List UInt8)) : List UInt8 := packAll [] (nm :: L.map Prod.fst)
/-- A message in bytes. -/
def msgW (mi : Int) (reply cutm : Bool) (code : Int) (nm : List UInt8) (ty : Int) (A U : List (List UInt8 × Int × Int × List UInt8)) : List UInt8 :=
  beB mi 2 ++ beB (flagI reply cutm) 1 ++ beB code 1 ++ beB (A.length : Int) 1 ++ beB (U.length : Int) 1 ++ beB ((namW nm (A ++ U)).length : Int) 2 ++ namW nm (A ++ U) ++ (beB ty 1 ++ recsW (A ++ U))
theorem recsW_app : ∀ A B : List (List UInt8 × Int × Int × List UInt8), recsW (A ++ B) = recsW A ++ recsW B
  | [], _ => rfl
  | x :: r, B => by rw [List.cons_append, recsW, recsW_app r B, recsW, List.append_assoc]
theorem recsW_snoc (L : List (List UInt8 × Int × Int × List UInt8)) (k : Nat) (h : k < L.length) : recsW (L.take (k + 1)) = recsW (L.take k) ++ recW L[k] := by
  rw [List.take_succ_eq_append_getElem h, recsW_app, recsW, recsW, List.append_nil]
/-- What is asked of a record in a message. -/
structure GoodR (x : List UInt8 × Int × Int × List UInt8) : Prop where
  name : nameB x.1 = true
  data : dataP x.2.1 x.2.2.2 = some (datW x)
  dlen : (datW x).length ≤ 600
  ty0 : 1 ≤ x.2.1
  ty1 : x.2.1 ≤ 16
  ttl0 : 0 ≤ x.2.2.1
  ttl1 : x.2.2.1 ≤ 100000
theorem goodR {x : List UInt8 × Int × Int × List UInt8} (h : recB x.1 x.2.1 x.2.2.1 x.2.2.2 = true) : GoodR x := by
  have f := recB_facts h
  unfold recB at h
  simp only [Bool.and_eq_true, decide_eq_true_eq] at h
  obtain ⟨y, hy⟩ := Option.isSome_iff_exists.1 h.1
  have e : datW x = y := by unfold datW; rw [hy]; rfl
  exact ⟨h.2.1, by rw [e]; exact hy, by rw [e]; exact (data_back hy).2.2, f.1, f.2.1, f.2.2.1, f.2.2.2⟩
theorem recsB_good {L : List (List UInt8 × Int × Int × List UInt8)} (h : recsB L = true) : L.length ≤ 12 ∧ ∀ x ∈ L, GoodR x := by
  unfold recsB at h
  simp only [Bool.and_eq_true, decide_eq_true_eq, List.all_eq_true] at h
  exact ⟨by omega, fun x hx => goodR (h.1 x hx)⟩
theorem typB_range {n : Int} (h : typB n = true) : 1 ≤ n ∧ n ≤ 16 := by
  unfold typB hasB at h
  simp at h
  omega
theorem codeB_range {n : Int} (h : codeB n = true) : 0 ≤ n ∧ n ≤ 5 := by
  unfold codeB hasB at h
  simp at h
  omega
structure GoodM (mi : Int) (reply cutm : Bool) (code : Int) (nm : List UInt8) (ty : Int) (A U : List (List UInt8 × Int × Int × List UInt8)) : Prop where
  id0 : 0 ≤ mi
  id1 : mi ≤ 65535
  code0 : 0 ≤ code
  code1 : code ≤ 5
  name : nameB nm = true
  ty0 : 1 ≤ ty
  ty1 : ty ≤ 16
  few : A.length ≤ 12
  fewU : U.length ≤ 12
  all : ∀ x ∈ A ++ U, GoodR x
  plain : reply = false → cutm = false
theorem goodM {mi : Int} {reply cutm : Bool} {code : Int} {nm : List UInt8} {ty : Int} {A U : List (List UInt8 × Int × Int × List UInt8)} (h : msgB mi reply cutm code nm ty A U = true) : GoodM mi reply cutm code nm ty A U := by
  unfold msgB at h
  simp only [Bool.and_eq_true, decide_eq_true_eq] at h
  obtain ⟨⟨h1, h2⟩, h3, h4, h5, h6, h7, h8⟩ := h
  obtain ⟨g1, g2⟩ := recsB_good h6
  obtain ⟨g3, g4⟩ := recsB_good h7
  have t := typB_range h5
  have c := codeB_range h3
  refine ⟨h1, h2, c.1, c.2, h4, t.1, t.2, g1, g3, fun x hx => ?_, fun hr => ?_⟩
  · rcases List.mem_append.1 hx with h | h
    · exact g2 x h
    · exact g4 x h
  · subst hr; simp at h8; exact h8.1
theorem recW_len {x : List UInt8 × Int × Int × List UInt8} (h : GoodR x) : (recW x).length ≤ 605 := by
  have := h.dlen
  unfold recW
  simp only [List.length_append, beB_length]; omega
theorem recsW_len : ∀ L : List (List UInt8 × Int × Int × List UInt8), (∀ x ∈ L, GoodR x) → (recsW L).length ≤ 605 * L.length
  | [], _ => by simp [recsW]
  | x :: r, h => by
    have h1 := recW_len (h x (by simp))
    have h2 := recsW_len r (fun y hy => h y (by simp [hy]))
    rw [recsW, List.length_append, List.length_cons]; omega
theorem namW_len {nm : List UInt8} {L : List (List UInt8 × Int × Int × List UInt8)} (hn : nameB nm = true) (h : ∀ x ∈ L, GoodR x) : (namW nm L).length ≤ 63 * (L.length + 1) := by
  have h1 := packAll_len (nm :: L.map Prod.fst) [] (fun p hp => by
    rcases List.mem_cons.1 hp with rfl | hp
    · exact hn
    · obtain ⟨x, hx, rfl⟩ := List.mem_map.1 hp; exact (h x hx).name)
  simpa [namW] using h1
theorem cell_new_one' (w : World) (x : Value) (t : TypeId) (b : Nat) (e : b = w.heap.size) : ∀ j u, [x][j]? = some u → (w.alloc (.cells #[x] t)).cell? ((⟨b, 0, none⟩ : Addr).add j) = some u := by
  subst e; exact cell_new_one w x t
theorem rec_cells4 {W : World} {b : Nat} {v0 v1 v2 v3 : Value} {t : TypeId} (h : W.heap[b]? = some (.cells #[v0, v1, v2, v3] t)) :
    W.cell? ⟨b, 0, none⟩ = some v0 ∧ W.cell? ⟨b, 1, none⟩ = some v1 ∧ W.cell? ⟨b, 2, none⟩ = some v2 ∧ W.cell? ⟨b, 3, none⟩ = some v3 := by
  refine ⟨?_, ?_, ?_, ?_⟩ <;> (unfold World.cell?; rw [h]; rfl)
end Go.Proofs.YtpghpeombednkaaGreatDoor

namespace Go.Proofs.YtpghpeombednkaaGreatDoor
open Go.RowKit

set_option maxRecDepth 20000 in
set_option maxHeartbeats 8000000 in
theorem l4Bytes_tt (mi : Int) (code : Int) (nm : ByteArray) (ty : Int) (va vu : Value) (A U : List (List UInt8 × Int × Int × List UInt8)) (w : World) (hG : GoodM mi true true code nm.data.toList ty A U) (ha : RRow w va A) (hu : RRow w vu U)
    (HXD : Hid (∀ x ∈ A ++ U, x.2.2.2.length ≤ 1048576)) (hna : ∀ n c, va = .slice none n c → c = 0) (hnu : ∀ n c, vu = .slice none n c → c = 0) :
    Calls Tryz.prog 32 #[MsgV mi true true code nm ty va vu] w fun e w' => e = .returned (.string ⟨(msgW mi true true code nm.data.toList ty A U).toArray⟩) ∧ Below w.heap.size w w' := by
  obtain ⟨i9, hi9, hy0, hy1, hy2⟩ := info_parts info_string
  obtain ⟨id0, id1, code0, code1, hname, ty0, ty1, few, fewU, hall, _⟩ := hG
  obtain ⟨aa, ca, hva, _, hca, _⟩ := id ha
  obtain ⟨au, cu, hvu, _, hcu, _⟩ := id hu
  have HRA : Hid (∀ W, Below w.heap.size w W → RRow W va A) := fun W hW => ha.kept hW
  have HRU : Hid (∀ W, Below w.heap.size w W → RRow W vu U) := fun W hW => hu.kept hW
  subst hva
  subst hvu
  have HNA : Hid (∀ n c, Value.slice aa A.length ca = .slice none n c → c = 0) := hna
  have HNU : Hid (∀ n c, Value.slice au U.length cu = .slice none n c → c = 0) := hnu
  have HALL : Hid (∀ x ∈ A ++ U, GoodR x) := hall
  have HNM : Hid (nameB nm.data.toList = true) := hname
  obtain ⟨W0, hW0⟩ : ∃ W0, W0 = w.alloc (.cells #[.int .i64 mi, .bool true, .bool true, .int .i64 code, .string nm, .int .i64 ty, .slice aa A.length ca, .slice au U.length cu] 25) := ⟨_, rfl⟩
  have HW0 : Hid (w.alloc (.cells #[.int .i64 mi, .bool true, .bool true, .int .i64 code, .string nm, .int .i64 ty, .slice aa A.length ca, .slice au U.length cu] 25) = W0) := hW0.symm
  have HBX : Hid (∀ W, Below W0.heap.size W0 W → MsgAt W w.heap.size mi true true code nm ty (.slice aa A.length ca) (.slice au U.length cu) ∧ Below w.heap.size w W) := fun W h => by rw [hW0] at h; exact box8 h
  have hz0 : w.heap.size < W0.heap.size := by rw [hW0]; simp
  have HS6 : Hid (∀ W, Below W0.heap.size W0 W → Below W0.heap.size W0 W ∧ W.cell? ⟨w.heap.size, 6, none⟩ = some (.slice aa A.length ca) ∧ W.cell? ⟨w.heap.size, 7, none⟩ = some (.slice au U.length cu)) := fun W h => by
    have c := (HBX.out W h).1
    unfold MsgAt at c
    exact ⟨h, c.2.2.2.2.2.2.1, c.2.2.2.2.2.2.2⟩
  have HAX : Hid (∀ W, (Below W0.heap.size W0 W ∧ W.cell? ⟨w.heap.size, 6, none⟩ = some (.slice aa A.length ca) ∧ W.cell? ⟨w.heap.size, 7, none⟩ = some (.slice au U.length cu)) → RRow W (.slice aa A.length ca) A) := fun W h => HRA.out W (HBX.out W h.1).2
  have HUX : Hid (∀ W, (Below W0.heap.size W0 W ∧ W.cell? ⟨w.heap.size, 6, none⟩ = some (.slice aa A.length ca) ∧ W.cell? ⟨w.heap.size, 7, none⟩ = some (.slice au U.length cu)) → RRow W (.slice au U.length cu) U) := fun W h => HRU.out W (HBX.out W h.1).2
  have HZX : Hid (∀ W, (Below W0.heap.size W0 W ∧ W.cell? ⟨w.heap.size, 6, none⟩ = some (.slice aa A.length ca) ∧ W.cell? ⟨w.heap.size, 7, none⟩ = some (.slice au U.length cu)) → W0.heap.size ≤ W.heap.size) := fun W h => h.1.size
  have HGA : Hid (∀ W w2, (Below W0.heap.size W0 W ∧ W.cell? ⟨w.heap.size, 6, none⟩ = some (.slice aa A.length ca) ∧ W.cell? ⟨w.heap.size, 7, none⟩ = some (.slice au U.length cu)) → W.grownBy w2 (Value.slice (some ⟨W0.heap.size, 0, none⟩) 0 0).ownBlock → Below W0.heap.size W0 w2) := fun W w2 h hg => h.1.grown hg h.1.size (fun k hk => by simp [Value.ownBlock] at hk; omega)
  have HGB : Hid (∀ W w2 v n xs, (Below W0.heap.size W0 W ∧ W.cell? ⟨w.heap.size, 6, none⟩ = some (.slice aa A.length ca) ∧ W.cell? ⟨w.heap.size, 7, none⟩ = some (.slice au U.length cu)) → W.ownsRow W0.heap.size 35 4 v n xs → W.grownBy w2 v.ownBlock → Below W0.heap.size W0 w2) := fun W w2 v n xs h ho hg => h.1.grown hg h.1.size (fun k hk => (ho.lt k hk).1)
  have hbz : Below W0.heap.size W0 W0 := Below.refl _ _
  have hbd : Below W0.heap.size W0 W0.drew := (Below.refl _ _).drew
  have HN1 : Hid (∀ (n : Int) W, 0 ≤ n → n ≤ 1000000 → Calls Tryz.prog 74 #[.int .i64 n, .int .i64 1] W fun e w' => e = .returned (.string ⟨(beB n 1).toArray⟩) ∧ Below W.heap.size W w') := fun n W h1 h2 => l3Number_any n 1 W (by omega) (by omega) (by omega)
  have HN2 : Hid (∀ (n : Int) W, 0 ≤ n → n ≤ 1000000 → Calls Tryz.prog 74 #[.int .i64 n, .int .i64 2] W fun e w' => e = .returned (.string ⟨(beB n 2).toArray⟩) ∧ Below W.heap.size W w') := fun n W h1 h2 => l3Number_any n 2 W (by omega) (by omega) (by omega)
  have HN3 : Hid (∀ (n : Int) W, 0 ≤ n → n ≤ 1000000 → Calls Tryz.prog 74 #[.int .i64 n, .int .i64 3] W fun e w' => e = .returned (.string ⟨(beB n 3).toArray⟩) ∧ Below W.heap.size W w') := fun n W h1 h2 => l3Number_any n 3 W (by omega) (by omega) (by omega)
  have hnl : nm.size ≤ 60 := by
    have h := hname
    unfold nameB at h
    simp only [Bool.and_eq_true, decide_eq_true_eq] at h
    have h2 := data_len nm
    omega
  obtain ⟨L, hL⟩ : ∃ L, L = A ++ U := ⟨_, rfl⟩
  have hLl : L.length ≤ 24 := by rw [hL, List.length_append]; omega
  have HL : Hid (L = A ++ U) := hL
  have HGL : Hid (∀ k, (h : k < L.length) → GoodR (L[k]'h)) := fun k h => HALL.out _ (by rw [← hL]; exact List.getElem_mem h)
  have HNL : Hid (∀ p ∈ nm.data.toList :: L.map Prod.fst, nameB p = true) := fun p hp => by
    rcases List.mem_cons.1 hp with rfl | hp
    · exact hname
    · obtain ⟨x, hx, rfl⟩ := List.mem_map.1 hp
      exact (HALL.out x (by rw [← hL]; exact hx)).name
  have HTL : Hid (∀ k, k ≤ L.length → (beB ty 1 ++ recsW (L.take k)).length ≤ 20000) := fun k hk => by
    have h := recsW_len (L.take k) (fun x hx => HALL.out x (by rw [← hL]; exact List.mem_of_mem_take hx))
    rw [List.length_append, beB_length]
    rw [List.length_take] at h
    omega
  clear ha hu hna hnu hall hname hW0 hL
  unfold MsgV
  have eb1 : bits BinOp.or .i64 0 128 = 128 := by decide
  have eb2 : bits BinOp.or .i64 128 1 = 129 := by decide
  go_enter Tryz.func32, Tryz.ntmps32
  go_wp2_with fail
  rw [HW0.out]
  go_region_held3 (fun W => Below W0.heap.size W0 W ∧ W.cell? ⟨w.heap.size, 6, none⟩ = some (.slice aa A.length ca) ∧ W.cell? ⟨w.heap.size, 7, none⟩ = some (.slice au U.length cu)) (first | exact HS6.out _ (by assumption) | exact HS6.out _ (Below.drew (by assumption)) | exact HS6.out _ (Below.alloc (by assumption) (Below.size (by assumption)) _))
    (first
    | (refine step_append_rows rfl (.tmp 23) (.tmp 25) 23 rfl Tryz.underlying23 W0.heap.size _ _ A rfl rfl (by assumption) _ U rfl (HUX.out _ (by assumption)) HNU.out (by omega) (HZX.out _ (by assumption)) ?_; intro v2 w3 hown2 hgrow2; have hb3 := HGB.out _ _ _ _ _ (by assumption) (by assumption) hgrow2)
    | (refine step_append_rows rfl (.tmp 20) (.tmp 22) 23 rfl Tryz.underlying23 W0.heap.size _ 0 [] rfl rfl (own_lit' _ _ _ (by simp) (Below.size (by assumption))) _ A rfl (HAX.out _ (by assumption)) HNA.out (by omega) (HZX.out _ (by assumption)) ?_; intro v1 w2 hown1 hgrow1; have hb2 := HGA.out _ _ (by assumption) hgrow1))
  rw [← HL.out] at hown2
  obtain ⟨a2, cap2, hv2, hc2, hn2⟩ := own4_shape hown2
  have HQ : Hid (OwnQ w3 W0.heap.size v2 L) := own_q hown2
  subst hv2
  have HRL : Hid (L = [] ∨ ∃ b o, a2 = some ⟨b, o, none⟩ ∧ b < w3.heap.size ∧ ∀ j, (hj : j < L.length) → RecAt w3 b (o + j * 4) L[j]) := by
    obtain ⟨x, c, e, _, _, h⟩ := HQ.out.row
    cases e; exact h
  have hcm : L.length ≤ cap2 := by
    obtain ⟨x, c, e, h, _, _⟩ := HQ.out.row
    cases e; exact h
  have hlt3 : w.heap.size < w3.heap.size := Nat.lt_of_lt_of_le hz0 hb3.size
  obtain ⟨⟨c0, c1, c2, c3, c4, c5, c6, c7⟩, hbw3⟩ := HBX.out _ hb3
  clear hown2 hgrow2 hn2 HQ HS6 HAX HUX HZX HGA HGB
  unfold maxLen at hc2
  go_wp2_with fail
  refine (HN1.out ty _ (by omega) (by omega)).mono ?_
  rintro e w4 ⟨rfl, hb4⟩
  have hb34 : Below w3.heap.size w3 w4 := ((Below.refl w3.heap.size w3).alloc (Nat.le_refl _) _).trans (hb4.mono (by simp))
  have HO4 : Hid (w4.ownsRow w3.heap.size 9 1 (.slice (some ⟨w3.heap.size, 0, none⟩) 1 1) 1 ((nm.data.toList :: (L.take 0).map Prod.fst).map S)) := own_below (World.ownsRow_lit w3 #[.string nm] 1 (Nat.le_refl _) (by unfold maxLen; omega) rfl) hb4
  clear c0 c1 c2 c3 c4 c5 c6 c7 hb4
  go_wp2_with fail
  go_loopw [5, 6, 35] (fun vn vt i wr => ∃ k : Nat, k ≤ L.length ∧ i = .int .i64 (k : Int) ∧ vt = .string ⟨(beB ty 1 ++ recsW (L.take k)).toArray⟩ ∧ Hid (wr.ownsRow w3.heap.size 9 1 vn (k + 1) ((nm.data.toList :: (L.take k).map Prod.fst).map S)) ∧ Below w3.heap.size w3 wr) (fun _ _ i _ => L.length - (intOf i).toNat)
  case atStart => exact ⟨0, Nat.zero_le _, rfl, by simp [recsW], HO4, hb34⟩
  case round =>
    obtain ⟨k, hk, rfl, rfl, HO, hb⟩ := hrel
    by_cases hlt : k < L.length
    · rcases HRL.out with hr | ⟨b, o, ha, hbl, hcel⟩
      · rw [hr] at hlt; simp at hlt
      · rw [ha]
        have HM := (hcel k hlt).kept hb
        have hG := HGL.out k hlt
        have HST0 : beB ty 1 ++ recsW (L.take (k + 1)) = (beB ty 1 ++ recsW (L.take k)) ++ recW (L[k]'hlt) := by rw [recsW_snoc L k hlt, List.append_assoc]
        have HNX0 : (nm.data.toList :: (L.take (k + 1)).map Prod.fst).map S = (nm.data.toList :: (L.take k).map Prod.fst).map S ++ [S (L[k]'hlt).1] := by
          rw [List.take_succ_eq_append_getElem hlt]; simp only [List.map_append, List.map_cons, List.map_nil, List.cons_append]
        have htl := HTL.out k hk
        have hxd0 := HXD.out (L[k]'hlt) (by rw [← HL.out]; exact List.getElem_mem hlt)
        obtain ⟨x, hx⟩ : ∃ x, x = L[k]'hlt := ⟨_, rfl⟩
        rw [← hx] at HM hG HST0 HNX0 hxd0
        clear hx hcel
        obtain ⟨xn, xt, xl, xd⟩ := x
        obtain ⟨m0, m1, m2, m3⟩ := HM
        simp only at m0 m1 m2 m3 hxd0
        obtain ⟨dd, hdd⟩ : ∃ dd, dd = datW (xn, xt, xl, xd) := ⟨_, rfl⟩
        obtain ⟨tt, htt⟩ : ∃ tt, tt = beB ty 1 ++ recsW (L.take k) := ⟨_, rfl⟩
        have HD : Hid (dataP xt xd = some dd) := by rw [hdd]; exact hG.data
        have hdl : dd.length ≤ 600 := by rw [hdd]; exact hG.dlen
        have hxt0 : 1 ≤ xt := hG.ty0
        have hxt1 : xt ≤ 16 := hG.ty1
        have hxl0 : 0 ≤ xl := hG.ttl0
        have hxl1 : xl ≤ 100000 := hG.ttl1
        have hxd : (⟨xd.toArray⟩ : ByteArray).size ≤ 1048576 := by
          rw [size_list]
          exact hxd0
        have hxn : xn.length ≤ 60 := by
          have h := hG.name
          unfold nameB at h
          simp only [Bool.and_eq_true, decide_eq_true_eq] at h
          omega
        have HP10 : ∀ W, Calls Tryz.prog 74 #[.int .i64 xt, .int .i64 1] W fun e w' => e = .returned (.string ⟨(beB xt 1).toArray⟩) ∧ Below W.heap.size W w' := fun W => HN1.out xt W (by omega) (by omega)
        have HP30 : ∀ W, Calls Tryz.prog 74 #[.int .i64 xl, .int .i64 3] W fun e w' => e = .returned (.string ⟨(beB xl 3).toArray⟩) ∧ Below W.heap.size W w' := fun W => HN3.out xl W (by omega) (by omega)
        have HPL0 : ∀ W, Calls Tryz.prog 74 #[.int .i64 (dd.length : Int), .int .i64 1] W fun e w' => e = .returned (.string ⟨(beB (dd.length : Int) 1).toArray⟩) ∧ Below W.heap.size W w' := fun W => HN1.out _ W (by omega) (by omega)
        have HRW : recW (xn, xt, xl, xd) = beB xt 1 ++ beB xl 3 ++ beB (dd.length : Int) 1 ++ dd := by unfold recW; rw [← hdd]
        have hl1 : (beB xt 1).length = 1 := beB_length _ _
        have hl3 : (beB xl 3).length = 3 := beB_length _ _
        have hll : (beB (dd.length : Int) 1).length = 1 := beB_length _ _
        obtain ⟨p1, hp1⟩ : ∃ p1, p1 = beB xt 1 := ⟨_, rfl⟩
        obtain ⟨p3, hp3⟩ : ∃ p3, p3 = beB xl 3 := ⟨_, rfl⟩
        obtain ⟨pl, hpl⟩ : ∃ pl, pl = beB (dd.length : Int) 1 := ⟨_, rfl⟩
        rw [← hp1] at HP10 HRW hl1
        rw [← hp3] at HP30 HRW hl3
        rw [← hpl] at HPL0 HRW hll
        rw [← htt] at HST0 htl ⊢
        have HP1 : Hid (∀ W, Calls Tryz.prog 74 #[.int .i64 xt, .int .i64 1] W fun e w' => e = .returned (.string ⟨p1.toArray⟩) ∧ Below W.heap.size W w') := HP10
        have HP3 : Hid (∀ W, Calls Tryz.prog 74 #[.int .i64 xl, .int .i64 3] W fun e w' => e = .returned (.string ⟨p3.toArray⟩) ∧ Below W.heap.size W w') := HP30
        have HPL : Hid (∀ W, Calls Tryz.prog 74 #[.int .i64 (dd.length : Int), .int .i64 1] W fun e w' => e = .returned (.string ⟨pl.toArray⟩) ∧ Below W.heap.size W w') := HPL0
        have HST : Hid (beB ty 1 ++ recsW (L.take (k + 1)) = tt ++ (p1 ++ p3 ++ pl ++ dd)) := by rw [HST0, HRW]; exact rfl
        obtain ⟨ns, hns⟩ : ∃ ns, ns = (nm.data.toList :: (L.take k).map Prod.fst).map S := ⟨_, rfl⟩
        rw [← hns] at HO HNX0
        have HNX : Hid ((nm.data.toList :: (L.take (k + 1)).map Prod.fst).map S = ns ++ [.string ⟨xn.toArray⟩]) := HNX0
        have hbs := hb.size
        clear hns hxd0 HP10 HP30 HPL0 HST0 HRW HNX0 hp1 hp3 hpl htt hdd hG
        go_wp2_with (first | (at_builtin; refine wpList_append_own _ rfl (.tmp 39) (.tmp 42) 70 rfl w3.heap.size 9 i9 (.string ByteArray.empty) 1 16 Tryz.underlying70 hi9 hy0 hy1 hy2 rfl (by decide) _ _ _ rfl ((HO.out.alloc _).alloc _) ⟨wr.heap.size + 1, 0, none⟩ 1 1 [.string ⟨xn.toArray⟩] rfl rfl ?k1 ?k2 ?k3 ?k4 ?k5 ?_))
        case k1 => exact cell_new_one' _ _ _ _ (by simp)
        case k2 => exact one_string _
        case k3 => unfold maxLen; omega
        case k4 => omega
        case k5 => simp; omega
        intro vn2 w5 hown5 hgrow5 _
        have HLT : Hid (∀ g, u5.ownBlock = some g → w3.heap.size ≤ g ∧ g < wr.heap.size) := fun g hg => HO.out.lt g hg
        have hb5 : Below w3.heap.size w3 w5 := ((hb.alloc hbs _).alloc (by simp; omega) _).grown hgrow5 (by simp; omega) (fun k hk => (HLT.out k hk).1)
        have HB5 : Hid (w5.heap[wr.heap.size]? = some (.cells #[.string ⟨xn.toArray⟩, .int .i64 xt, .int .i64 xl, .string ⟨xd.toArray⟩] 35)) := by
          have e1 := hgrow5.block wr.heap.size (by simp; omega) (fun h => by have h1 := HLT.out _ h.symm; omega)
          exact e1.trans (((kpt_alloc (wr.alloc (.cells #[.string ⟨xn.toArray⟩, .int .i64 xt, .int .i64 xl, .string ⟨xd.toArray⟩] 35)) _ (fun _ => False)).block wr.heap.size (by simp) (fun h => h)).trans (blk_new _ _))
        have HO5 : Hid (w5.ownsRow w3.heap.size 9 1 vn2 (k + 1 + 1) ((nm.data.toList :: (L.take (k + 1)).map Prod.fst).map S)) := by
          show w5.ownsRow w3.heap.size 9 1 vn2 (k + 1 + 1) _
          rw [HNX.out]; exact hown5
        have hz5 : wr.heap.size < w5.heap.size := Nat.lt_of_lt_of_le (by simp; omega) hgrow5.size
        obtain ⟨r0, r1, r2, r3⟩ := rec_cells4 HB5.out
        clear hown5 hgrow5 m0 m1 m2 m3 HO
        go_wp2_with fail
        refine (l3Bytes_any xt ⟨xd.toArray⟩ _ hxd).mono ?_
        rintro e w6 ⟨⟨x6, rfl, hx6⟩, hb6⟩
        rw [show (⟨xd.toArray⟩ : ByteArray).data.toList = xd from rfl, HD.out]
        rw [show (⟨xd.toArray⟩ : ByteArray).data.toList = xd from rfl] at hx6
        obtain rfl := hx6 dd HD.out
        rw [show (some dd).isSome = true from rfl]
        have HC6 : Hid (∀ W, Below w6.heap.size w6 W → W.cell? ⟨wr.heap.size, 1, none⟩ = some (.int .i64 xt) ∧ W.cell? ⟨wr.heap.size, 2, none⟩ = some (.int .i64 xl)) := fun W hW => by
          have e1 : W.heap[wr.heap.size]? = some (.cells #[.string ⟨xn.toArray⟩, .int .i64 xt, .int .i64 xl, .string ⟨xd.toArray⟩] 35) := ((hW.block wr.heap.size (Nat.lt_of_lt_of_le hz5 hb6.size)).trans (hb6.block wr.heap.size hz5)).trans HB5.out
          have h := rec_cells4 e1
          exact ⟨h.2.1, h.2.2.1⟩
        have HTR6 : Hid (∀ W W', Below w6.heap.size w6 W → Below W.heap.size W W' → Below w6.heap.size w6 W') := fun W W' h1 h2 => h1.trans (h2.mono h1.size)
        have HB6 : Hid (∀ W, Below w6.heap.size w6 W → Below w3.heap.size w3 W) := fun W hW => (hb5.trans (hb6.mono hb5.size)).trans (hW.mono (Nat.le_trans hb5.size hb6.size))
        have HO6 : Hid (∀ W, Below w6.heap.size w6 W → W.ownsRow w3.heap.size 9 1 vn2 (k + 1 + 1) ((nm.data.toList :: (L.take (k + 1)).map Prod.fst).map S)) := fun W hW => own_below (own_below HO5.out hb6) hW
        have hbd6 : Below w6.heap.size w6 w6.drew := (Below.refl _ _).drew
        clear r0 r1 r2 r3 hx6 hb6 HB5 HO5 hb5 hb
        go_wp2_with fail
        refine wp_region_quiet (C := fun W => Below w6.heap.size w6 W) (by kernel_rfl) (by kernel_rfl) hbd6 ?_
        refine wpQuiet_step (fun K hK => ?_)
        rw [if_pos (by rfl)]
        refine ⟨.string ⟨tt.toArray⟩, fun W hW => quiet_ok ?_, hK _ ?_⟩
        · have q1 := (HC6.out W hW).1
          have q2 := (HC6.out W hW).2
          go_simp
          all_goals (try omega)
        clear hK K
        simp only [Act.put, List.setIfInBounds_toArray, List.set_cons_succ, List.set_cons_zero]
        refine wpQuiet_step (fun K hK => ?_)
        rw [if_pos (by rfl)]
        refine ⟨.pointer (some ⟨wr.heap.size, 1, none⟩), fun W hW => quiet_ok ?_, hK _ ?_⟩
        · have q1 := (HC6.out W hW).1
          have q2 := (HC6.out W hW).2
          go_simp
          all_goals (try omega)
        clear hK K
        simp only [Act.put, List.setIfInBounds_toArray, List.set_cons_succ, List.set_cons_zero]
        refine wpQuiet_step (fun K hK => ?_)
        rw [if_pos (by rfl)]
        refine ⟨.int .i64 xt, fun W hW => quiet_ok ?_, hK _ ?_⟩
        · have q1 := (HC6.out W hW).1
          have q2 := (HC6.out W hW).2
          go_simp
          all_goals (try omega)
        clear hK K
        simp only [Act.put, List.setIfInBounds_toArray, List.set_cons_succ, List.set_cons_zero]
        refine wpQuiet_step (fun K hK => ?_)
        rw [if_pos (by rfl)]
        refine ⟨.string ⟨p1.toArray⟩, fun W hW => quiet_call (f := 74) (args := #[.int .i64 xt, .int .i64 1]) ?_ ?_, hK _ ?_⟩
        · go_simp
        · exact (HP1.out W).mono fun e w'' h => ⟨h.1, HTR6.out _ _ hW h.2⟩
        clear hK K
        simp only [Act.put, List.setIfInBounds_toArray, List.set_cons_succ, List.set_cons_zero]
        refine wpQuiet_step (fun K hK => ?_)
        rw [if_pos (by rfl)]
        refine ⟨.pointer (some ⟨wr.heap.size, 2, none⟩), fun W hW => quiet_ok ?_, hK _ ?_⟩
        · have q1 := (HC6.out W hW).1
          have q2 := (HC6.out W hW).2
          go_simp
          all_goals (try omega)
        clear hK K
        simp only [Act.put, List.setIfInBounds_toArray, List.set_cons_succ, List.set_cons_zero]
        refine wpQuiet_step (fun K hK => ?_)
        rw [if_pos (by rfl)]
        refine ⟨.int .i64 xl, fun W hW => quiet_ok ?_, hK _ ?_⟩
        · have q1 := (HC6.out W hW).1
          have q2 := (HC6.out W hW).2
          go_simp
          all_goals (try omega)
        clear hK K
        simp only [Act.put, List.setIfInBounds_toArray, List.set_cons_succ, List.set_cons_zero]
        refine wpQuiet_step (fun K hK => ?_)
        rw [if_pos (by rfl)]
        refine ⟨.string ⟨p3.toArray⟩, fun W hW => quiet_call (f := 74) (args := #[.int .i64 xl, .int .i64 3]) ?_ ?_, hK _ ?_⟩
        · go_simp
        · exact (HP3.out W).mono fun e w'' h => ⟨h.1, HTR6.out _ _ hW h.2⟩
        clear hK K
        simp only [Act.put, List.setIfInBounds_toArray, List.set_cons_succ, List.set_cons_zero]
        refine wpQuiet_step (fun K hK => ?_)
        rw [if_pos (by rfl)]
        refine ⟨.string (⟨p1.toArray⟩ ++ ⟨p3.toArray⟩), fun W hW => quiet_ok ?_, hK _ ?_⟩
        · have q1 := (HC6.out W hW).1
          have q2 := (HC6.out W hW).2
          go_simp
          all_goals (try omega)
        clear hK K
        simp only [Act.put, List.setIfInBounds_toArray, List.set_cons_succ, List.set_cons_zero]
        refine wpQuiet_step (fun K hK => ?_)
        rw [if_pos (by rfl)]
        refine ⟨.string ⟨dd.toArray⟩, fun W hW => quiet_ok ?_, hK _ ?_⟩
        · have q1 := (HC6.out W hW).1
          have q2 := (HC6.out W hW).2
          go_simp
          all_goals (try omega)
        clear hK K
        simp only [Act.put, List.setIfInBounds_toArray, List.set_cons_succ, List.set_cons_zero]
        refine wpQuiet_step (fun K hK => ?_)
        rw [if_pos (by rfl)]
        refine ⟨.int .i64 (dd.length : Int), fun W hW => quiet_ok ?_, hK _ ?_⟩
        · have q1 := (HC6.out W hW).1
          have q2 := (HC6.out W hW).2
          go_simp
          all_goals (try omega)
        clear hK K
        simp only [Act.put, List.setIfInBounds_toArray, List.set_cons_succ, List.set_cons_zero]
        refine wpQuiet_step (fun K hK => ?_)
        rw [if_pos (by rfl)]
        refine ⟨.string ⟨pl.toArray⟩, fun W hW => quiet_call (f := 74) (args := #[.int .i64 (dd.length : Int), .int .i64 1]) ?_ ?_, hK _ ?_⟩
        · go_simp
        · exact (HPL.out W).mono fun e w'' h => ⟨h.1, HTR6.out _ _ hW h.2⟩
        clear hK K
        simp only [Act.put, List.setIfInBounds_toArray, List.set_cons_succ, List.set_cons_zero]
        refine wpQuiet_step (fun K hK => ?_)
        rw [if_pos (by rfl)]
        refine ⟨.string (⟨p1.toArray⟩ ++ ⟨p3.toArray⟩ ++ ⟨pl.toArray⟩), fun W hW => quiet_ok ?_, hK _ ?_⟩
        · have q1 := (HC6.out W hW).1
          have q2 := (HC6.out W hW).2
          go_simp
          all_goals (try omega)
        clear hK K
        simp only [Act.put, List.setIfInBounds_toArray, List.set_cons_succ, List.set_cons_zero]
        refine wpQuiet_step (fun K hK => ?_)
        rw [if_pos (by rfl)]
        refine ⟨.string ⟨dd.toArray⟩, fun W hW => quiet_ok ?_, hK _ ?_⟩
        · have q1 := (HC6.out W hW).1
          have q2 := (HC6.out W hW).2
          go_simp
          all_goals (try omega)
        clear hK K
        simp only [Act.put, List.setIfInBounds_toArray, List.set_cons_succ, List.set_cons_zero]
        refine wpQuiet_step (fun K hK => ?_)
        rw [if_pos (by rfl)]
        refine ⟨.string (⟨p1.toArray⟩ ++ ⟨p3.toArray⟩ ++ ⟨pl.toArray⟩ ++ ⟨dd.toArray⟩), fun W hW => quiet_ok ?_, hK _ ?_⟩
        · have q1 := (HC6.out W hW).1
          have q2 := (HC6.out W hW).2
          go_simp
          all_goals (try omega)
        clear hK K
        simp only [Act.put, List.setIfInBounds_toArray, List.set_cons_succ, List.set_cons_zero]
        refine wpQuiet_step (fun K hK => ?_)
        rw [if_pos (by rfl)]
        refine ⟨.string (⟨tt.toArray⟩ ++ (⟨p1.toArray⟩ ++ ⟨p3.toArray⟩ ++ ⟨pl.toArray⟩ ++ ⟨dd.toArray⟩)), fun W hW => quiet_ok ?_, hK _ ?_⟩
        · have q1 := (HC6.out W hW).1
          have q2 := (HC6.out W hW).2
          go_simp
          all_goals (try omega)
        clear hK K
        simp only [Act.put, List.setIfInBounds_toArray, List.set_cons_succ, List.set_cons_zero]
        refine wpQuiet_step (fun K hK => ?_)
        rw [if_pos (by rfl)]
        refine ⟨.string (⟨tt.toArray⟩ ++ (⟨p1.toArray⟩ ++ ⟨p3.toArray⟩ ++ ⟨pl.toArray⟩ ++ ⟨dd.toArray⟩)), fun W hW => quiet_ok ?_, hK _ ?_⟩
        · have q1 := (HC6.out W hW).1
          have q2 := (HC6.out W hW).2
          go_simp
          all_goals (try omega)
        clear hK K
        simp only [Act.put, List.setIfInBounds_toArray, List.set_cons_succ, List.set_cons_zero]
        refine wpQuiet_nil ?_
        intro W hW
        go_wp2_with fail
        go_roundw
        case rel => exact ⟨k + 1, by omega, by go_num, val_strM (by rw [HST.out]; simp), HO6.out W hW, HB6.out W hW⟩
        case measure => simp [intOf]; omega
    · have hkk : L.take k = L := List.take_of_length_le (by omega)
      have hke : k = L.length := by omega
      have htl := HTL.out k hk
      have HROW : Hid (Row wr u5 (nm.data.toList :: L.map Prod.fst)) := by
        have h := HO.out
        rw [hkk, hke] at h
        exact row_own (by rw [List.length_cons, List.length_map]; exact h)
      obtain ⟨pk, hpk⟩ : ∃ pk, pk = packAll [] (nm.data.toList :: L.map Prod.fst) := ⟨_, rfl⟩
      have hpl : pk.length ≤ 1575 := by
        have h := packAll_len (nm.data.toList :: L.map Prod.fst) [] HNL.out
        rw [← hpk] at h
        simp only [List.length_nil, List.length_cons, List.length_map] at h
        omega
      obtain ⟨tt, htt⟩ : ∃ tt, tt = beB ty 1 ++ recsW (L.take k) := ⟨_, rfl⟩
      obtain ⟨i2, hi2⟩ : ∃ i2, i2 = beB mi 2 := ⟨_, rfl⟩
      have HI2 : Hid (∀ W, Calls Tryz.prog 74 #[.int .i64 mi, .int .i64 2] W fun e w' => e = .returned (.string ⟨i2.toArray⟩) ∧ Below W.heap.size W w') := by rw [hi2]; exact fun W => HN2.out mi W (by omega) (by omega)
      have hli2 : i2.length = 2 := by rw [hi2]; exact beB_length _ _
      obtain ⟨f1, hf1⟩ : ∃ f1, f1 = beB 129 1 := ⟨_, rfl⟩
      have HF1 : Hid (∀ W, Calls Tryz.prog 74 #[.int .i64 129, .int .i64 1] W fun e w' => e = .returned (.string ⟨f1.toArray⟩) ∧ Below W.heap.size W w') := by rw [hf1]; exact fun W => HN1.out 129 W (by omega) (by omega)
      have hlf1 : f1.length = 1 := by rw [hf1]; exact beB_length _ _
      obtain ⟨k1, hk1⟩ : ∃ k1, k1 = beB code 1 := ⟨_, rfl⟩
      have HK1 : Hid (∀ W, Calls Tryz.prog 74 #[.int .i64 code, .int .i64 1] W fun e w' => e = .returned (.string ⟨k1.toArray⟩) ∧ Below W.heap.size W w') := by rw [hk1]; exact fun W => HN1.out code W (by omega) (by omega)
      have hlk1 : k1.length = 1 := by rw [hk1]; exact beB_length _ _
      obtain ⟨a1, ha1⟩ : ∃ a1, a1 = beB (A.length : Int) 1 := ⟨_, rfl⟩
      have HA1 : Hid (∀ W, Calls Tryz.prog 74 #[.int .i64 (A.length : Int), .int .i64 1] W fun e w' => e = .returned (.string ⟨a1.toArray⟩) ∧ Below W.heap.size W w') := by rw [ha1]; exact fun W => HN1.out (A.length : Int) W (by omega) (by omega)
      have hla1 : a1.length = 1 := by rw [ha1]; exact beB_length _ _
      obtain ⟨u1, hu1⟩ : ∃ u1, u1 = beB (U.length : Int) 1 := ⟨_, rfl⟩
      have HU1 : Hid (∀ W, Calls Tryz.prog 74 #[.int .i64 (U.length : Int), .int .i64 1] W fun e w' => e = .returned (.string ⟨u1.toArray⟩) ∧ Below W.heap.size W w') := by rw [hu1]; exact fun W => HN1.out (U.length : Int) W (by omega) (by omega)
      have hlu1 : u1.length = 1 := by rw [hu1]; exact beB_length _ _
      obtain ⟨n2, hn2⟩ : ∃ n2, n2 = beB (pk.length : Int) 2 := ⟨_, rfl⟩
      have HN2b : Hid (∀ W, Calls Tryz.prog 74 #[.int .i64 (pk.length : Int), .int .i64 2] W fun e w' => e = .returned (.string ⟨n2.toArray⟩) ∧ Below W.heap.size W w') := by rw [hn2]; exact fun W => HN2.out (pk.length : Int) W (by omega) (by omega)
      have hln2 : n2.length = 2 := by rw [hn2]; exact beB_length _ _
      have HRES : Hid (msgW mi true true code nm.data.toList ty A U = i2 ++ f1 ++ k1 ++ a1 ++ u1 ++ n2 ++ pk ++ tt) := by
        have e1 : namW nm.data.toList (A ++ U) = pk := by rw [hpk, HL.out]; rfl
        have e2 : beB ty 1 ++ recsW (A ++ U) = tt := by rw [htt, hkk, HL.out]
        have e3 : flagI true true = 129 := by decide
        unfold msgW
        rw [e1, e2, e3, hi2, hf1, hk1, ha1, hu1, hn2]
        exact rfl
      rw [← htt] at htl ⊢
      clear hkk hke htt hi2 hf1 hk1 ha1 hu1 hn2 HO
      go_wp2_with fail
      refine (l4Names_any _ _ _ HROW.out HNL (by rw [List.length_cons, List.length_map]; omega)).mono ?_
      rintro e w7 ⟨rfl, hb7⟩
      rw [← hpk]
      have hb07 : Below W0.heap.size W0 w7 := (hb3.trans (hb.mono hb3.size)).trans (hb7.mono (Nat.le_trans hb3.size hb.size))
      have HC7 : Hid (∀ W, Below w7.heap.size w7 W → W.cell? ⟨w.heap.size, 0, none⟩ = some (.int .i64 mi) ∧ W.cell? ⟨w.heap.size, 3, none⟩ = some (.int .i64 code) ∧ W.cell? ⟨w.heap.size, 6, none⟩ = some (.slice aa A.length ca) ∧ W.cell? ⟨w.heap.size, 7, none⟩ = some (.slice au U.length cu)) := fun W hW => by
        have c := (HBX.out W (hb07.trans (hW.mono hb07.size))).1
        unfold MsgAt at c
        exact ⟨c.1, c.2.2.2.1, c.2.2.2.2.2.2.1, c.2.2.2.2.2.2.2⟩
      have HB7 : Hid (∀ W, Below w7.heap.size w7 W → Below w.heap.size w W) := fun W hW => (HBX.out W (hb07.trans (hW.mono hb07.size))).2
      have HTR7 : Hid (∀ W W', Below w7.heap.size w7 W → Below W.heap.size W W' → Below w7.heap.size w7 W') := fun W W' h1 h2 => h1.trans (h2.mono h1.size)
      have hbd7 : Below w7.heap.size w7 w7.drew := (Below.refl _ _).drew
      unfold maxLen at hca hcu
      clear hpk hb7 hb07 hb
      go_wp2_with fail
      refine wp_region_quiet (C := fun W => Below w7.heap.size w7 W) (by kernel_rfl) (by kernel_rfl) hbd7 ?_
      refine wpQuiet_step (fun K hK => ?_)
      rw [if_pos (by rfl)]
      refine ⟨.pointer (some ⟨w.heap.size, 0, none⟩), fun W hW => quiet_ok ?_, hK _ ?_⟩
      · have q0 := (HC7.out W hW).1
        have q3 := (HC7.out W hW).2.1
        have q6 := (HC7.out W hW).2.2.1
        have q7 := (HC7.out W hW).2.2.2
        go_simp
        all_goals (try omega)
      clear hK K
      simp only [Act.put, List.setIfInBounds_toArray, List.set_cons_succ, List.set_cons_zero]
      refine wpQuiet_step (fun K hK => ?_)
      rw [if_pos (by rfl)]
      refine ⟨.int .i64 mi, fun W hW => quiet_ok ?_, hK _ ?_⟩
      · have q0 := (HC7.out W hW).1
        have q3 := (HC7.out W hW).2.1
        have q6 := (HC7.out W hW).2.2.1
        have q7 := (HC7.out W hW).2.2.2
        go_simp
        all_goals (try omega)
      clear hK K
      simp only [Act.put, List.setIfInBounds_toArray, List.set_cons_succ, List.set_cons_zero]
      refine wpQuiet_step (fun K hK => ?_)
      rw [if_pos (by rfl)]
      refine ⟨.string ⟨i2.toArray⟩, fun W hW => quiet_call (f := 74) (args := #[.int .i64 mi, .int .i64 2]) ?_ ?_, hK _ ?_⟩
      · go_simp
      · exact (HI2.out W).mono fun e w'' h => ⟨h.1, HTR7.out _ _ hW h.2⟩
      clear hK K
      simp only [Act.put, List.setIfInBounds_toArray, List.set_cons_succ, List.set_cons_zero]
      refine wpQuiet_step (fun K hK => ?_)
      rw [if_pos (by rfl)]
      refine ⟨.int .i64 129, fun W hW => quiet_ok ?_, hK _ ?_⟩
      · have q0 := (HC7.out W hW).1
        have q3 := (HC7.out W hW).2.1
        have q6 := (HC7.out W hW).2.2.1
        have q7 := (HC7.out W hW).2.2.2
        go_simp
        all_goals (try omega)
      clear hK K
      simp only [Act.put, List.setIfInBounds_toArray, List.set_cons_succ, List.set_cons_zero]
      refine wpQuiet_step (fun K hK => ?_)
      rw [if_pos (by rfl)]
      refine ⟨.string ⟨f1.toArray⟩, fun W hW => quiet_call (f := 74) (args := #[.int .i64 129, .int .i64 1]) ?_ ?_, hK _ ?_⟩
      · go_simp
      · exact (HF1.out W).mono fun e w'' h => ⟨h.1, HTR7.out _ _ hW h.2⟩
      clear hK K
      simp only [Act.put, List.setIfInBounds_toArray, List.set_cons_succ, List.set_cons_zero]
      refine wpQuiet_step (fun K hK => ?_)
      rw [if_pos (by rfl)]
      refine ⟨.string (⟨i2.toArray⟩ ++ ⟨f1.toArray⟩), fun W hW => quiet_ok ?_, hK _ ?_⟩
      · have q0 := (HC7.out W hW).1
        have q3 := (HC7.out W hW).2.1
        have q6 := (HC7.out W hW).2.2.1
        have q7 := (HC7.out W hW).2.2.2
        go_simp
        all_goals (try omega)
      clear hK K
      simp only [Act.put, List.setIfInBounds_toArray, List.set_cons_succ, List.set_cons_zero]
      refine wpQuiet_step (fun K hK => ?_)
      rw [if_pos (by rfl)]
      refine ⟨.pointer (some ⟨w.heap.size, 3, none⟩), fun W hW => quiet_ok ?_, hK _ ?_⟩
      · have q0 := (HC7.out W hW).1
        have q3 := (HC7.out W hW).2.1
        have q6 := (HC7.out W hW).2.2.1
        have q7 := (HC7.out W hW).2.2.2
        go_simp
        all_goals (try omega)
      clear hK K
      simp only [Act.put, List.setIfInBounds_toArray, List.set_cons_succ, List.set_cons_zero]
      refine wpQuiet_step (fun K hK => ?_)
      rw [if_pos (by rfl)]
      refine ⟨.int .i64 code, fun W hW => quiet_ok ?_, hK _ ?_⟩
      · have q0 := (HC7.out W hW).1
        have q3 := (HC7.out W hW).2.1
        have q6 := (HC7.out W hW).2.2.1
        have q7 := (HC7.out W hW).2.2.2
        go_simp
        all_goals (try omega)
      clear hK K
      simp only [Act.put, List.setIfInBounds_toArray, List.set_cons_succ, List.set_cons_zero]
      refine wpQuiet_step (fun K hK => ?_)
      rw [if_pos (by rfl)]
      refine ⟨.string ⟨k1.toArray⟩, fun W hW => quiet_call (f := 74) (args := #[.int .i64 code, .int .i64 1]) ?_ ?_, hK _ ?_⟩
      · go_simp
      · exact (HK1.out W).mono fun e w'' h => ⟨h.1, HTR7.out _ _ hW h.2⟩
      clear hK K
      simp only [Act.put, List.setIfInBounds_toArray, List.set_cons_succ, List.set_cons_zero]
      refine wpQuiet_step (fun K hK => ?_)
      rw [if_pos (by rfl)]
      refine ⟨.string (⟨i2.toArray⟩ ++ ⟨f1.toArray⟩ ++ ⟨k1.toArray⟩), fun W hW => quiet_ok ?_, hK _ ?_⟩
      · have q0 := (HC7.out W hW).1
        have q3 := (HC7.out W hW).2.1
        have q6 := (HC7.out W hW).2.2.1
        have q7 := (HC7.out W hW).2.2.2
        go_simp
        all_goals (try omega)
      clear hK K
      simp only [Act.put, List.setIfInBounds_toArray, List.set_cons_succ, List.set_cons_zero]
      refine wpQuiet_step (fun K hK => ?_)
      rw [if_pos (by rfl)]
      refine ⟨.pointer (some ⟨w.heap.size, 6, none⟩), fun W hW => quiet_ok ?_, hK _ ?_⟩
      · have q0 := (HC7.out W hW).1
        have q3 := (HC7.out W hW).2.1
        have q6 := (HC7.out W hW).2.2.1
        have q7 := (HC7.out W hW).2.2.2
        go_simp
        all_goals (try omega)
      clear hK K
      simp only [Act.put, List.setIfInBounds_toArray, List.set_cons_succ, List.set_cons_zero]
      refine wpQuiet_step (fun K hK => ?_)
      rw [if_pos (by rfl)]
      refine ⟨.slice aa A.length ca, fun W hW => quiet_ok ?_, hK _ ?_⟩
      · have q0 := (HC7.out W hW).1
        have q3 := (HC7.out W hW).2.1
        have q6 := (HC7.out W hW).2.2.1
        have q7 := (HC7.out W hW).2.2.2
        go_simp
        all_goals (try omega)
      clear hK K
      simp only [Act.put, List.setIfInBounds_toArray, List.set_cons_succ, List.set_cons_zero]
      refine wpQuiet_step (fun K hK => ?_)
      rw [if_pos (by rfl)]
      refine ⟨.int .i64 (A.length : Int), fun W hW => quiet_ok ?_, hK _ ?_⟩
      · have q0 := (HC7.out W hW).1
        have q3 := (HC7.out W hW).2.1
        have q6 := (HC7.out W hW).2.2.1
        have q7 := (HC7.out W hW).2.2.2
        go_simp
        all_goals (try omega)
      clear hK K
      simp only [Act.put, List.setIfInBounds_toArray, List.set_cons_succ, List.set_cons_zero]
      refine wpQuiet_step (fun K hK => ?_)
      rw [if_pos (by rfl)]
      refine ⟨.string ⟨a1.toArray⟩, fun W hW => quiet_call (f := 74) (args := #[.int .i64 (A.length : Int), .int .i64 1]) ?_ ?_, hK _ ?_⟩
      · go_simp
      · exact (HA1.out W).mono fun e w'' h => ⟨h.1, HTR7.out _ _ hW h.2⟩
      clear hK K
      simp only [Act.put, List.setIfInBounds_toArray, List.set_cons_succ, List.set_cons_zero]
      refine wpQuiet_step (fun K hK => ?_)
      rw [if_pos (by rfl)]
      refine ⟨.string (⟨i2.toArray⟩ ++ ⟨f1.toArray⟩ ++ ⟨k1.toArray⟩ ++ ⟨a1.toArray⟩), fun W hW => quiet_ok ?_, hK _ ?_⟩
      · have q0 := (HC7.out W hW).1
        have q3 := (HC7.out W hW).2.1
        have q6 := (HC7.out W hW).2.2.1
        have q7 := (HC7.out W hW).2.2.2
        go_simp
        all_goals (try omega)
      clear hK K
      simp only [Act.put, List.setIfInBounds_toArray, List.set_cons_succ, List.set_cons_zero]
      refine wpQuiet_step (fun K hK => ?_)
      rw [if_pos (by rfl)]
      refine ⟨.pointer (some ⟨w.heap.size, 7, none⟩), fun W hW => quiet_ok ?_, hK _ ?_⟩
      · have q0 := (HC7.out W hW).1
        have q3 := (HC7.out W hW).2.1
        have q6 := (HC7.out W hW).2.2.1
        have q7 := (HC7.out W hW).2.2.2
        go_simp
        all_goals (try omega)
      clear hK K
      simp only [Act.put, List.setIfInBounds_toArray, List.set_cons_succ, List.set_cons_zero]
      refine wpQuiet_step (fun K hK => ?_)
      rw [if_pos (by rfl)]
      refine ⟨.slice au U.length cu, fun W hW => quiet_ok ?_, hK _ ?_⟩
      · have q0 := (HC7.out W hW).1
        have q3 := (HC7.out W hW).2.1
        have q6 := (HC7.out W hW).2.2.1
        have q7 := (HC7.out W hW).2.2.2
        go_simp
        all_goals (try omega)
      clear hK K
      simp only [Act.put, List.setIfInBounds_toArray, List.set_cons_succ, List.set_cons_zero]
      refine wpQuiet_step (fun K hK => ?_)
      rw [if_pos (by rfl)]
      refine ⟨.int .i64 (U.length : Int), fun W hW => quiet_ok ?_, hK _ ?_⟩
      · have q0 := (HC7.out W hW).1
        have q3 := (HC7.out W hW).2.1
        have q6 := (HC7.out W hW).2.2.1
        have q7 := (HC7.out W hW).2.2.2
        go_simp
        all_goals (try omega)
      clear hK K
      simp only [Act.put, List.setIfInBounds_toArray, List.set_cons_succ, List.set_cons_zero]
      refine wpQuiet_step (fun K hK => ?_)
      rw [if_pos (by rfl)]
      refine ⟨.string ⟨u1.toArray⟩, fun W hW => quiet_call (f := 74) (args := #[.int .i64 (U.length : Int), .int .i64 1]) ?_ ?_, hK _ ?_⟩
      · go_simp
      · exact (HU1.out W).mono fun e w'' h => ⟨h.1, HTR7.out _ _ hW h.2⟩
      clear hK K
      simp only [Act.put, List.setIfInBounds_toArray, List.set_cons_succ, List.set_cons_zero]
      refine wpQuiet_step (fun K hK => ?_)
      rw [if_pos (by rfl)]
      refine ⟨.string (⟨i2.toArray⟩ ++ ⟨f1.toArray⟩ ++ ⟨k1.toArray⟩ ++ ⟨a1.toArray⟩ ++ ⟨u1.toArray⟩), fun W hW => quiet_ok ?_, hK _ ?_⟩
      · have q0 := (HC7.out W hW).1
        have q3 := (HC7.out W hW).2.1
        have q6 := (HC7.out W hW).2.2.1
        have q7 := (HC7.out W hW).2.2.2
        go_simp
        all_goals (try omega)
      clear hK K
      simp only [Act.put, List.setIfInBounds_toArray, List.set_cons_succ, List.set_cons_zero]
      refine wpQuiet_step (fun K hK => ?_)
      rw [if_pos (by rfl)]
      refine ⟨.string ⟨pk.toArray⟩, fun W hW => quiet_ok ?_, hK _ ?_⟩
      · have q0 := (HC7.out W hW).1
        have q3 := (HC7.out W hW).2.1
        have q6 := (HC7.out W hW).2.2.1
        have q7 := (HC7.out W hW).2.2.2
        go_simp
        all_goals (try omega)
      clear hK K
      simp only [Act.put, List.setIfInBounds_toArray, List.set_cons_succ, List.set_cons_zero]
      refine wpQuiet_step (fun K hK => ?_)
      rw [if_pos (by rfl)]
      refine ⟨.int .i64 (pk.length : Int), fun W hW => quiet_ok ?_, hK _ ?_⟩
      · have q0 := (HC7.out W hW).1
        have q3 := (HC7.out W hW).2.1
        have q6 := (HC7.out W hW).2.2.1
        have q7 := (HC7.out W hW).2.2.2
        go_simp
        all_goals (try omega)
      clear hK K
      simp only [Act.put, List.setIfInBounds_toArray, List.set_cons_succ, List.set_cons_zero]
      refine wpQuiet_step (fun K hK => ?_)
      rw [if_pos (by rfl)]
      refine ⟨.string ⟨n2.toArray⟩, fun W hW => quiet_call (f := 74) (args := #[.int .i64 (pk.length : Int), .int .i64 2]) ?_ ?_, hK _ ?_⟩
      · go_simp
      · exact (HN2b.out W).mono fun e w'' h => ⟨h.1, HTR7.out _ _ hW h.2⟩
      clear hK K
      simp only [Act.put, List.setIfInBounds_toArray, List.set_cons_succ, List.set_cons_zero]
      refine wpQuiet_step (fun K hK => ?_)
      rw [if_pos (by rfl)]
      refine ⟨.string (⟨i2.toArray⟩ ++ ⟨f1.toArray⟩ ++ ⟨k1.toArray⟩ ++ ⟨a1.toArray⟩ ++ ⟨u1.toArray⟩ ++ ⟨n2.toArray⟩), fun W hW => quiet_ok ?_, hK _ ?_⟩
      · have q0 := (HC7.out W hW).1
        have q3 := (HC7.out W hW).2.1
        have q6 := (HC7.out W hW).2.2.1
        have q7 := (HC7.out W hW).2.2.2
        go_simp
        all_goals (try omega)
      clear hK K
      simp only [Act.put, List.setIfInBounds_toArray, List.set_cons_succ, List.set_cons_zero]
      refine wpQuiet_step (fun K hK => ?_)
      rw [if_pos (by rfl)]
      refine ⟨.string ⟨pk.toArray⟩, fun W hW => quiet_ok ?_, hK _ ?_⟩
      · have q0 := (HC7.out W hW).1
        have q3 := (HC7.out W hW).2.1
        have q6 := (HC7.out W hW).2.2.1
        have q7 := (HC7.out W hW).2.2.2
        go_simp
        all_goals (try omega)
      clear hK K
      simp only [Act.put, List.setIfInBounds_toArray, List.set_cons_succ, List.set_cons_zero]
      refine wpQuiet_step (fun K hK => ?_)
      rw [if_pos (by rfl)]
      refine ⟨.string (⟨i2.toArray⟩ ++ ⟨f1.toArray⟩ ++ ⟨k1.toArray⟩ ++ ⟨a1.toArray⟩ ++ ⟨u1.toArray⟩ ++ ⟨n2.toArray⟩ ++ ⟨pk.toArray⟩), fun W hW => quiet_ok ?_, hK _ ?_⟩
      · have q0 := (HC7.out W hW).1
        have q3 := (HC7.out W hW).2.1
        have q6 := (HC7.out W hW).2.2.1
        have q7 := (HC7.out W hW).2.2.2
        go_simp
        all_goals (try omega)
      clear hK K
      simp only [Act.put, List.setIfInBounds_toArray, List.set_cons_succ, List.set_cons_zero]
      refine wpQuiet_step (fun K hK => ?_)
      rw [if_pos (by rfl)]
      refine ⟨.string ⟨tt.toArray⟩, fun W hW => quiet_ok ?_, hK _ ?_⟩
      · have q0 := (HC7.out W hW).1
        have q3 := (HC7.out W hW).2.1
        have q6 := (HC7.out W hW).2.2.1
        have q7 := (HC7.out W hW).2.2.2
        go_simp
        all_goals (try omega)
      clear hK K
      simp only [Act.put, List.setIfInBounds_toArray, List.set_cons_succ, List.set_cons_zero]
      refine wpQuiet_step (fun K hK => ?_)
      rw [if_pos (by rfl)]
      refine ⟨.string (⟨i2.toArray⟩ ++ ⟨f1.toArray⟩ ++ ⟨k1.toArray⟩ ++ ⟨a1.toArray⟩ ++ ⟨u1.toArray⟩ ++ ⟨n2.toArray⟩ ++ ⟨pk.toArray⟩ ++ ⟨tt.toArray⟩), fun W hW => quiet_ok ?_, hK _ ?_⟩
      · have q0 := (HC7.out W hW).1
        have q3 := (HC7.out W hW).2.1
        have q6 := (HC7.out W hW).2.2.1
        have q7 := (HC7.out W hW).2.2.2
        go_simp
        all_goals (try omega)
      clear hK K
      simp only [Act.put, List.setIfInBounds_toArray, List.set_cons_succ, List.set_cons_zero]
      refine wpQuiet_step (fun K hK => ?_)
      rw [if_pos (by rfl)]
      refine ⟨.string (⟨i2.toArray⟩ ++ ⟨f1.toArray⟩ ++ ⟨k1.toArray⟩ ++ ⟨a1.toArray⟩ ++ ⟨u1.toArray⟩ ++ ⟨n2.toArray⟩ ++ ⟨pk.toArray⟩ ++ ⟨tt.toArray⟩), fun W hW => quiet_ok ?_, hK _ ?_⟩
      · have q0 := (HC7.out W hW).1
        have q3 := (HC7.out W hW).2.1
        have q6 := (HC7.out W hW).2.2.1
        have q7 := (HC7.out W hW).2.2.2
        go_simp
        all_goals (try omega)
      clear hK K
      simp only [Act.put, List.setIfInBounds_toArray, List.set_cons_succ, List.set_cons_zero]
      refine wpQuiet_nil ?_
      intro W hW
      go_wp2_with fail
      go_ret
      exact ⟨ret_strP (by rw [HRES.out]; simp), HB7.out W hW⟩
end Go.Proofs.YtpghpeombednkaaGreatDoor

namespace Go.Proofs.YtpghpeombednkaaGreatDoor
open Go.RowKit

set_option maxRecDepth 20000 in
set_option maxHeartbeats 8000000 in
theorem l4Bytes_tf (mi : Int) (code : Int) (nm : ByteArray) (ty : Int) (va vu : Value) (A U : List (List UInt8 × Int × Int × List UInt8)) (w : World) (hG : GoodM mi true false code nm.data.toList ty A U) (ha : RRow w va A) (hu : RRow w vu U)
    (HXD : Hid (∀ x ∈ A ++ U, x.2.2.2.length ≤ 1048576)) (hna : ∀ n c, va = .slice none n c → c = 0) (hnu : ∀ n c, vu = .slice none n c → c = 0) :
    Calls Tryz.prog 32 #[MsgV mi true false code nm ty va vu] w fun e w' => e = .returned (.string ⟨(msgW mi true false code nm.data.toList ty A U).toArray⟩) ∧ Below w.heap.size w w' := by
  obtain ⟨i9, hi9, hy0, hy1, hy2⟩ := info_parts info_string
  obtain ⟨id0, id1, code0, code1, hname, ty0, ty1, few, fewU, hall, _⟩ := hG
  obtain ⟨aa, ca, hva, _, hca, _⟩ := id ha
  obtain ⟨au, cu, hvu, _, hcu, _⟩ := id hu
  have HRA : Hid (∀ W, Below w.heap.size w W → RRow W va A) := fun W hW => ha.kept hW
  have HRU : Hid (∀ W, Below w.heap.size w W → RRow W vu U) := fun W hW => hu.kept hW
  subst hva
  subst hvu
  have HNA : Hid (∀ n c, Value.slice aa A.length ca = .slice none n c → c = 0) := hna
  have HNU : Hid (∀ n c, Value.slice au U.length cu = .slice none n c → c = 0) := hnu
  have HALL : Hid (∀ x ∈ A ++ U, GoodR x) := hall
  have HNM : Hid (nameB nm.data.toList = true) := hname
  obtain ⟨W0, hW0⟩ : ∃ W0, W0 = w.alloc (.cells #[.int .i64 mi, .bool true, .bool false, .int .i64 code, .string nm, .int .i64 ty, .slice aa A.length ca, .slice au U.length cu] 25) := ⟨_, rfl⟩
  have HW0 : Hid (w.alloc (.cells #[.int .i64 mi, .bool true, .bool false, .int .i64 code, .string nm, .int .i64 ty, .slice aa A.length ca, .slice au U.length cu] 25) = W0) := hW0.symm
  have HBX : Hid (∀ W, Below W0.heap.size W0 W → MsgAt W w.heap.size mi true false code nm ty (.slice aa A.length ca) (.slice au U.length cu) ∧ Below w.heap.size w W) := fun W h => by rw [hW0] at h; exact box8 h
  have hz0 : w.heap.size < W0.heap.size := by rw [hW0]; simp
  have HS6 : Hid (∀ W, Below W0.heap.size W0 W → Below W0.heap.size W0 W ∧ W.cell? ⟨w.heap.size, 6, none⟩ = some (.slice aa A.length ca) ∧ W.cell? ⟨w.heap.size, 7, none⟩ = some (.slice au U.length cu)) := fun W h => by
    have c := (HBX.out W h).1
    unfold MsgAt at c
    exact ⟨h, c.2.2.2.2.2.2.1, c.2.2.2.2.2.2.2⟩
  have HAX : Hid (∀ W, (Below W0.heap.size W0 W ∧ W.cell? ⟨w.heap.size, 6, none⟩ = some (.slice aa A.length ca) ∧ W.cell? ⟨w.heap.size, 7, none⟩ = some (.slice au U.length cu)) → RRow W (.slice aa A.length ca) A) := fun W h => HRA.out W (HBX.out W h.1).2
  have HUX : Hid (∀ W, (Below W0.heap.size W0 W ∧ W.cell? ⟨w.heap.size, 6, none⟩ = some (.slice aa A.length ca) ∧ W.cell? ⟨w.heap.size, 7, none⟩ = some (.slice au U.length cu)) → RRow W (.slice au U.length cu) U) := fun W h => HRU.out W (HBX.out W h.1).2
  have HZX : Hid (∀ W, (Below W0.heap.size W0 W ∧ W.cell? ⟨w.heap.size, 6, none⟩ = some (.slice aa A.length ca) ∧ W.cell? ⟨w.heap.size, 7, none⟩ = some (.slice au U.length cu)) → W0.heap.size ≤ W.heap.size) := fun W h => h.1.size
  have HGA : Hid (∀ W w2, (Below W0.heap.size W0 W ∧ W.cell? ⟨w.heap.size, 6, none⟩ = some (.slice aa A.length ca) ∧ W.cell? ⟨w.heap.size, 7, none⟩ = some (.slice au U.length cu)) → W.grownBy w2 (Value.slice (some ⟨W0.heap.size, 0, none⟩) 0 0).ownBlock → Below W0.heap.size W0 w2) := fun W w2 h hg => h.1.grown hg h.1.size (fun k hk => by simp [Value.ownBlock] at hk; omega)
  have HGB : Hid (∀ W w2 v n xs, (Below W0.heap.size W0 W ∧ W.cell? ⟨w.heap.size, 6, none⟩ = some (.slice aa A.length ca) ∧ W.cell? ⟨w.heap.size, 7, none⟩ = some (.slice au U.length cu)) → W.ownsRow W0.heap.size 35 4 v n xs → W.grownBy w2 v.ownBlock → Below W0.heap.size W0 w2) := fun W w2 v n xs h ho hg => h.1.grown hg h.1.size (fun k hk => (ho.lt k hk).1)
  have hbz : Below W0.heap.size W0 W0 := Below.refl _ _
  have hbd : Below W0.heap.size W0 W0.drew := (Below.refl _ _).drew
  have HN1 : Hid (∀ (n : Int) W, 0 ≤ n → n ≤ 1000000 → Calls Tryz.prog 74 #[.int .i64 n, .int .i64 1] W fun e w' => e = .returned (.string ⟨(beB n 1).toArray⟩) ∧ Below W.heap.size W w') := fun n W h1 h2 => l3Number_any n 1 W (by omega) (by omega) (by omega)
  have HN2 : Hid (∀ (n : Int) W, 0 ≤ n → n ≤ 1000000 → Calls Tryz.prog 74 #[.int .i64 n, .int .i64 2] W fun e w' => e = .returned (.string ⟨(beB n 2).toArray⟩) ∧ Below W.heap.size W w') := fun n W h1 h2 => l3Number_any n 2 W (by omega) (by omega) (by omega)
  have HN3 : Hid (∀ (n : Int) W, 0 ≤ n → n ≤ 1000000 → Calls Tryz.prog 74 #[.int .i64 n, .int .i64 3] W fun e w' => e = .returned (.string ⟨(beB n 3).toArray⟩) ∧ Below W.heap.size W w') := fun n W h1 h2 => l3Number_any n 3 W (by omega) (by omega) (by omega)
  have hnl : nm.size ≤ 60 := by
    have h := hname
    unfold nameB at h
    simp only [Bool.and_eq_true, decide_eq_true_eq] at h
    have h2 := data_len nm
    omega
  obtain ⟨L, hL⟩ : ∃ L, L = A ++ U := ⟨_, rfl⟩
  have hLl : L.length ≤ 24 := by rw [hL, List.length_append]; omega
  have HL : Hid (L = A ++ U) := hL
  have HGL : Hid (∀ k, (h : k < L.length) → GoodR (L[k]'h)) := fun k h => HALL.out _ (by rw [← hL]; exact List.getElem_mem h)
  have HNL : Hid (∀ p ∈ nm.data.toList :: L.map Prod.fst, nameB p = true) := fun p hp => by
    rcases List.mem_cons.1 hp with rfl | hp
    · exact hname
    · obtain ⟨x, hx, rfl⟩ := List.mem_map.1 hp
      exact (HALL.out x (by rw [← hL]; exact hx)).name
  have HTL : Hid (∀ k, k ≤ L.length → (beB ty 1 ++ recsW (L.take k)).length ≤ 20000) := fun k hk => by
    have h := recsW_len (L.take k) (fun x hx => HALL.out x (by rw [← hL]; exact List.mem_of_mem_take hx))
    rw [List.length_append, beB_length]
    rw [List.length_take] at h
    omega
  clear ha hu hna hnu hall hname hW0 hL
  unfold MsgV
  have eb1 : bits BinOp.or .i64 0 128 = 128 := by decide
  go_enter Tryz.func32, Tryz.ntmps32
  go_wp2_with fail
  rw [HW0.out]
  go_region_held3 (fun W => Below W0.heap.size W0 W ∧ W.cell? ⟨w.heap.size, 6, none⟩ = some (.slice aa A.length ca) ∧ W.cell? ⟨w.heap.size, 7, none⟩ = some (.slice au U.length cu)) (first | exact HS6.out _ (by assumption) | exact HS6.out _ (Below.drew (by assumption)) | exact HS6.out _ (Below.alloc (by assumption) (Below.size (by assumption)) _))
    (first
    | (refine step_append_rows rfl (.tmp 23) (.tmp 25) 23 rfl Tryz.underlying23 W0.heap.size _ _ A rfl rfl (by assumption) _ U rfl (HUX.out _ (by assumption)) HNU.out (by omega) (HZX.out _ (by assumption)) ?_; intro v2 w3 hown2 hgrow2; have hb3 := HGB.out _ _ _ _ _ (by assumption) (by assumption) hgrow2)
    | (refine step_append_rows rfl (.tmp 20) (.tmp 22) 23 rfl Tryz.underlying23 W0.heap.size _ 0 [] rfl rfl (own_lit' _ _ _ (by simp) (Below.size (by assumption))) _ A rfl (HAX.out _ (by assumption)) HNA.out (by omega) (HZX.out _ (by assumption)) ?_; intro v1 w2 hown1 hgrow1; have hb2 := HGA.out _ _ (by assumption) hgrow1))
  rw [← HL.out] at hown2
  obtain ⟨a2, cap2, hv2, hc2, hn2⟩ := own4_shape hown2
  have HQ : Hid (OwnQ w3 W0.heap.size v2 L) := own_q hown2
  subst hv2
  have HRL : Hid (L = [] ∨ ∃ b o, a2 = some ⟨b, o, none⟩ ∧ b < w3.heap.size ∧ ∀ j, (hj : j < L.length) → RecAt w3 b (o + j * 4) L[j]) := by
    obtain ⟨x, c, e, _, _, h⟩ := HQ.out.row
    cases e; exact h
  have hcm : L.length ≤ cap2 := by
    obtain ⟨x, c, e, h, _, _⟩ := HQ.out.row
    cases e; exact h
  have hlt3 : w.heap.size < w3.heap.size := Nat.lt_of_lt_of_le hz0 hb3.size
  obtain ⟨⟨c0, c1, c2, c3, c4, c5, c6, c7⟩, hbw3⟩ := HBX.out _ hb3
  clear hown2 hgrow2 hn2 HQ HS6 HAX HUX HZX HGA HGB
  unfold maxLen at hc2
  go_wp2_with fail
  refine (HN1.out ty _ (by omega) (by omega)).mono ?_
  rintro e w4 ⟨rfl, hb4⟩
  have hb34 : Below w3.heap.size w3 w4 := ((Below.refl w3.heap.size w3).alloc (Nat.le_refl _) _).trans (hb4.mono (by simp))
  have HO4 : Hid (w4.ownsRow w3.heap.size 9 1 (.slice (some ⟨w3.heap.size, 0, none⟩) 1 1) 1 ((nm.data.toList :: (L.take 0).map Prod.fst).map S)) := own_below (World.ownsRow_lit w3 #[.string nm] 1 (Nat.le_refl _) (by unfold maxLen; omega) rfl) hb4
  clear c0 c1 c2 c3 c4 c5 c6 c7 hb4
  go_wp2_with fail
  go_loopw [5, 6, 35] (fun vn vt i wr => ∃ k : Nat, k ≤ L.length ∧ i = .int .i64 (k : Int) ∧ vt = .string ⟨(beB ty 1 ++ recsW (L.take k)).toArray⟩ ∧ Hid (wr.ownsRow w3.heap.size 9 1 vn (k + 1) ((nm.data.toList :: (L.take k).map Prod.fst).map S)) ∧ Below w3.heap.size w3 wr) (fun _ _ i _ => L.length - (intOf i).toNat)
  case atStart => exact ⟨0, Nat.zero_le _, rfl, by simp [recsW], HO4, hb34⟩
  case round =>
    obtain ⟨k, hk, rfl, rfl, HO, hb⟩ := hrel
    by_cases hlt : k < L.length
    · rcases HRL.out with hr | ⟨b, o, ha, hbl, hcel⟩
      · rw [hr] at hlt; simp at hlt
      · rw [ha]
        have HM := (hcel k hlt).kept hb
        have hG := HGL.out k hlt
        have HST0 : beB ty 1 ++ recsW (L.take (k + 1)) = (beB ty 1 ++ recsW (L.take k)) ++ recW (L[k]'hlt) := by rw [recsW_snoc L k hlt, List.append_assoc]
        have HNX0 : (nm.data.toList :: (L.take (k + 1)).map Prod.fst).map S = (nm.data.toList :: (L.take k).map Prod.fst).map S ++ [S (L[k]'hlt).1] := by
          rw [List.take_succ_eq_append_getElem hlt]; simp only [List.map_append, List.map_cons, List.map_nil, List.cons_append]
        have htl := HTL.out k hk
        have hxd0 := HXD.out (L[k]'hlt) (by rw [← HL.out]; exact List.getElem_mem hlt)
        obtain ⟨x, hx⟩ : ∃ x, x = L[k]'hlt := ⟨_, rfl⟩
        rw [← hx] at HM hG HST0 HNX0 hxd0
        clear hx hcel
        obtain ⟨xn, xt, xl, xd⟩ := x
        obtain ⟨m0, m1, m2, m3⟩ := HM
        simp only at m0 m1 m2 m3 hxd0
        obtain ⟨dd, hdd⟩ : ∃ dd, dd = datW (xn, xt, xl, xd) := ⟨_, rfl⟩
        obtain ⟨tt, htt⟩ : ∃ tt, tt = beB ty 1 ++ recsW (L.take k) := ⟨_, rfl⟩
        have HD : Hid (dataP xt xd = some dd) := by rw [hdd]; exact hG.data
        have hdl : dd.length ≤ 600 := by rw [hdd]; exact hG.dlen
        have hxt0 : 1 ≤ xt := hG.ty0
        have hxt1 : xt ≤ 16 := hG.ty1
        have hxl0 : 0 ≤ xl := hG.ttl0
        have hxl1 : xl ≤ 100000 := hG.ttl1
        have hxd : (⟨xd.toArray⟩ : ByteArray).size ≤ 1048576 := by
          rw [size_list]
          exact hxd0
        have hxn : xn.length ≤ 60 := by
          have h := hG.name
          unfold nameB at h
          simp only [Bool.and_eq_true, decide_eq_true_eq] at h
          omega
        have HP10 : ∀ W, Calls Tryz.prog 74 #[.int .i64 xt, .int .i64 1] W fun e w' => e = .returned (.string ⟨(beB xt 1).toArray⟩) ∧ Below W.heap.size W w' := fun W => HN1.out xt W (by omega) (by omega)
        have HP30 : ∀ W, Calls Tryz.prog 74 #[.int .i64 xl, .int .i64 3] W fun e w' => e = .returned (.string ⟨(beB xl 3).toArray⟩) ∧ Below W.heap.size W w' := fun W => HN3.out xl W (by omega) (by omega)
        have HPL0 : ∀ W, Calls Tryz.prog 74 #[.int .i64 (dd.length : Int), .int .i64 1] W fun e w' => e = .returned (.string ⟨(beB (dd.length : Int) 1).toArray⟩) ∧ Below W.heap.size W w' := fun W => HN1.out _ W (by omega) (by omega)
        have HRW : recW (xn, xt, xl, xd) = beB xt 1 ++ beB xl 3 ++ beB (dd.length : Int) 1 ++ dd := by unfold recW; rw [← hdd]
        have hl1 : (beB xt 1).length = 1 := beB_length _ _
        have hl3 : (beB xl 3).length = 3 := beB_length _ _
        have hll : (beB (dd.length : Int) 1).length = 1 := beB_length _ _
        obtain ⟨p1, hp1⟩ : ∃ p1, p1 = beB xt 1 := ⟨_, rfl⟩
        obtain ⟨p3, hp3⟩ : ∃ p3, p3 = beB xl 3 := ⟨_, rfl⟩
        obtain ⟨pl, hpl⟩ : ∃ pl, pl = beB (dd.length : Int) 1 := ⟨_, rfl⟩
        rw [← hp1] at HP10 HRW hl1
        rw [← hp3] at HP30 HRW hl3
        rw [← hpl] at HPL0 HRW hll
        rw [← htt] at HST0 htl ⊢
        have HP1 : Hid (∀ W, Calls Tryz.prog 74 #[.int .i64 xt, .int .i64 1] W fun e w' => e = .returned (.string ⟨p1.toArray⟩) ∧ Below W.heap.size W w') := HP10
        have HP3 : Hid (∀ W, Calls Tryz.prog 74 #[.int .i64 xl, .int .i64 3] W fun e w' => e = .returned (.string ⟨p3.toArray⟩) ∧ Below W.heap.size W w') := HP30
        have HPL : Hid (∀ W, Calls Tryz.prog 74 #[.int .i64 (dd.length : Int), .int .i64 1] W fun e w' => e = .returned (.string ⟨pl.toArray⟩) ∧ Below W.heap.size W w') := HPL0
        have HST : Hid (beB ty 1 ++ recsW (L.take (k + 1)) = tt ++ (p1 ++ p3 ++ pl ++ dd)) := by rw [HST0, HRW]; exact rfl
        obtain ⟨ns, hns⟩ : ∃ ns, ns = (nm.data.toList :: (L.take k).map Prod.fst).map S := ⟨_, rfl⟩
        rw [← hns] at HO HNX0
        have HNX : Hid ((nm.data.toList :: (L.take (k + 1)).map Prod.fst).map S = ns ++ [.string ⟨xn.toArray⟩]) := HNX0
        have hbs := hb.size
        clear hns hxd0 HP10 HP30 HPL0 HST0 HRW HNX0 hp1 hp3 hpl htt hdd hG
        go_wp2_with (first | (at_builtin; refine wpList_append_own _ rfl (.tmp 39) (.tmp 42) 70 rfl w3.heap.size 9 i9 (.string ByteArray.empty) 1 16 Tryz.underlying70 hi9 hy0 hy1 hy2 rfl (by decide) _ _ _ rfl ((HO.out.alloc _).alloc _) ⟨wr.heap.size + 1, 0, none⟩ 1 1 [.string ⟨xn.toArray⟩] rfl rfl ?k1 ?k2 ?k3 ?k4 ?k5 ?_))
        case k1 => exact cell_new_one' _ _ _ _ (by simp)
        case k2 => exact one_string _
        case k3 => unfold maxLen; omega
        case k4 => omega
        case k5 => simp; omega
        intro vn2 w5 hown5 hgrow5 _
        have HLT : Hid (∀ g, u5.ownBlock = some g → w3.heap.size ≤ g ∧ g < wr.heap.size) := fun g hg => HO.out.lt g hg
        have hb5 : Below w3.heap.size w3 w5 := ((hb.alloc hbs _).alloc (by simp; omega) _).grown hgrow5 (by simp; omega) (fun k hk => (HLT.out k hk).1)
        have HB5 : Hid (w5.heap[wr.heap.size]? = some (.cells #[.string ⟨xn.toArray⟩, .int .i64 xt, .int .i64 xl, .string ⟨xd.toArray⟩] 35)) := by
          have e1 := hgrow5.block wr.heap.size (by simp; omega) (fun h => by have h1 := HLT.out _ h.symm; omega)
          exact e1.trans (((kpt_alloc (wr.alloc (.cells #[.string ⟨xn.toArray⟩, .int .i64 xt, .int .i64 xl, .string ⟨xd.toArray⟩] 35)) _ (fun _ => False)).block wr.heap.size (by simp) (fun h => h)).trans (blk_new _ _))
        have HO5 : Hid (w5.ownsRow w3.heap.size 9 1 vn2 (k + 1 + 1) ((nm.data.toList :: (L.take (k + 1)).map Prod.fst).map S)) := by
          show w5.ownsRow w3.heap.size 9 1 vn2 (k + 1 + 1) _
          rw [HNX.out]; exact hown5
        have hz5 : wr.heap.size < w5.heap.size := Nat.lt_of_lt_of_le (by simp; omega) hgrow5.size
        obtain ⟨r0, r1, r2, r3⟩ := rec_cells4 HB5.out
        clear hown5 hgrow5 m0 m1 m2 m3 HO
        go_wp2_with fail
        refine (l3Bytes_any xt ⟨xd.toArray⟩ _ hxd).mono ?_
        rintro e w6 ⟨⟨x6, rfl, hx6⟩, hb6⟩
        rw [show (⟨xd.toArray⟩ : ByteArray).data.toList = xd from rfl, HD.out]
        rw [show (⟨xd.toArray⟩ : ByteArray).data.toList = xd from rfl] at hx6
        obtain rfl := hx6 dd HD.out
        rw [show (some dd).isSome = true from rfl]
        have HC6 : Hid (∀ W, Below w6.heap.size w6 W → W.cell? ⟨wr.heap.size, 1, none⟩ = some (.int .i64 xt) ∧ W.cell? ⟨wr.heap.size, 2, none⟩ = some (.int .i64 xl)) := fun W hW => by
          have e1 : W.heap[wr.heap.size]? = some (.cells #[.string ⟨xn.toArray⟩, .int .i64 xt, .int .i64 xl, .string ⟨xd.toArray⟩] 35) := ((hW.block wr.heap.size (Nat.lt_of_lt_of_le hz5 hb6.size)).trans (hb6.block wr.heap.size hz5)).trans HB5.out
          have h := rec_cells4 e1
          exact ⟨h.2.1, h.2.2.1⟩
        have HTR6 : Hid (∀ W W', Below w6.heap.size w6 W → Below W.heap.size W W' → Below w6.heap.size w6 W') := fun W W' h1 h2 => h1.trans (h2.mono h1.size)
        have HB6 : Hid (∀ W, Below w6.heap.size w6 W → Below w3.heap.size w3 W) := fun W hW => (hb5.trans (hb6.mono hb5.size)).trans (hW.mono (Nat.le_trans hb5.size hb6.size))
        have HO6 : Hid (∀ W, Below w6.heap.size w6 W → W.ownsRow w3.heap.size 9 1 vn2 (k + 1 + 1) ((nm.data.toList :: (L.take (k + 1)).map Prod.fst).map S)) := fun W hW => own_below (own_below HO5.out hb6) hW
        have hbd6 : Below w6.heap.size w6 w6.drew := (Below.refl _ _).drew
        clear r0 r1 r2 r3 hx6 hb6 HB5 HO5 hb5 hb
        go_wp2_with fail
        refine wp_region_quiet (C := fun W => Below w6.heap.size w6 W) (by kernel_rfl) (by kernel_rfl) hbd6 ?_
        refine wpQuiet_step (fun K hK => ?_)
        rw [if_pos (by rfl)]
        refine ⟨.string ⟨tt.toArray⟩, fun W hW => quiet_ok ?_, hK _ ?_⟩
        · have q1 := (HC6.out W hW).1
          have q2 := (HC6.out W hW).2
          go_simp
          all_goals (try omega)
        clear hK K
        simp only [Act.put, List.setIfInBounds_toArray, List.set_cons_succ, List.set_cons_zero]
        refine wpQuiet_step (fun K hK => ?_)
        rw [if_pos (by rfl)]
        refine ⟨.pointer (some ⟨wr.heap.size, 1, none⟩), fun W hW => quiet_ok ?_, hK _ ?_⟩
        · have q1 := (HC6.out W hW).1
          have q2 := (HC6.out W hW).2
          go_simp
          all_goals (try omega)
        clear hK K
        simp only [Act.put, List.setIfInBounds_toArray, List.set_cons_succ, List.set_cons_zero]
        refine wpQuiet_step (fun K hK => ?_)
        rw [if_pos (by rfl)]
        refine ⟨.int .i64 xt, fun W hW => quiet_ok ?_, hK _ ?_⟩
        · have q1 := (HC6.out W hW).1
          have q2 := (HC6.out W hW).2
          go_simp
          all_goals (try omega)
        clear hK K
        simp only [Act.put, List.setIfInBounds_toArray, List.set_cons_succ, List.set_cons_zero]
        refine wpQuiet_step (fun K hK => ?_)
        rw [if_pos (by rfl)]
        refine ⟨.string ⟨p1.toArray⟩, fun W hW => quiet_call (f := 74) (args := #[.int .i64 xt, .int .i64 1]) ?_ ?_, hK _ ?_⟩
        · go_simp
        · exact (HP1.out W).mono fun e w'' h => ⟨h.1, HTR6.out _ _ hW h.2⟩
        clear hK K
        simp only [Act.put, List.setIfInBounds_toArray, List.set_cons_succ, List.set_cons_zero]
        refine wpQuiet_step (fun K hK => ?_)
        rw [if_pos (by rfl)]
        refine ⟨.pointer (some ⟨wr.heap.size, 2, none⟩), fun W hW => quiet_ok ?_, hK _ ?_⟩
        · have q1 := (HC6.out W hW).1
          have q2 := (HC6.out W hW).2
          go_simp
          all_goals (try omega)
        clear hK K
        simp only [Act.put, List.setIfInBounds_toArray, List.set_cons_succ, List.set_cons_zero]
        refine wpQuiet_step (fun K hK => ?_)
        rw [if_pos (by rfl)]
        refine ⟨.int .i64 xl, fun W hW => quiet_ok ?_, hK _ ?_⟩
        · have q1 := (HC6.out W hW).1
          have q2 := (HC6.out W hW).2
          go_simp
          all_goals (try omega)
        clear hK K
        simp only [Act.put, List.setIfInBounds_toArray, List.set_cons_succ, List.set_cons_zero]
        refine wpQuiet_step (fun K hK => ?_)
        rw [if_pos (by rfl)]
        refine ⟨.string ⟨p3.toArray⟩, fun W hW => quiet_call (f := 74) (args := #[.int .i64 xl, .int .i64 3]) ?_ ?_, hK _ ?_⟩
        · go_simp
        · exact (HP3.out W).mono fun e w'' h => ⟨h.1, HTR6.out _ _ hW h.2⟩
        clear hK K
        simp only [Act.put, List.setIfInBounds_toArray, List.set_cons_succ, List.set_cons_zero]
        refine wpQuiet_step (fun K hK => ?_)
        rw [if_pos (by rfl)]
        refine ⟨.string (⟨p1.toArray⟩ ++ ⟨p3.toArray⟩), fun W hW => quiet_ok ?_, hK _ ?_⟩
        · have q1 := (HC6.out W hW).1
          have q2 := (HC6.out W hW).2
          go_simp
          all_goals (try omega)
        clear hK K
        simp only [Act.put, List.setIfInBounds_toArray, List.set_cons_succ, List.set_cons_zero]
        refine wpQuiet_step (fun K hK => ?_)
        rw [if_pos (by rfl)]
        refine ⟨.string ⟨dd.toArray⟩, fun W hW => quiet_ok ?_, hK _ ?_⟩
        · have q1 := (HC6.out W hW).1
          have q2 := (HC6.out W hW).2
          go_simp
          all_goals (try omega)
        clear hK K
        simp only [Act.put, List.setIfInBounds_toArray, List.set_cons_succ, List.set_cons_zero]
        refine wpQuiet_step (fun K hK => ?_)
        rw [if_pos (by rfl)]
        refine ⟨.int .i64 (dd.length : Int), fun W hW => quiet_ok ?_, hK _ ?_⟩
        · have q1 := (HC6.out W hW).1
          have q2 := (HC6.out W hW).2
          go_simp
          all_goals (try omega)
        clear hK K
        simp only [Act.put, List.setIfInBounds_toArray, List.set_cons_succ, List.set_cons_zero]
        refine wpQuiet_step (fun K hK => ?_)
        rw [if_pos (by rfl)]
        refine ⟨.string ⟨pl.toArray⟩, fun W hW => quiet_call (f := 74) (args := #[.int .i64 (dd.length : Int), .int .i64 1]) ?_ ?_, hK _ ?_⟩
        · go_simp
        · exact (HPL.out W).mono fun e w'' h => ⟨h.1, HTR6.out _ _ hW h.2⟩
        clear hK K
        simp only [Act.put, List.setIfInBounds_toArray, List.set_cons_succ, List.set_cons_zero]
        refine wpQuiet_step (fun K hK => ?_)
        rw [if_pos (by rfl)]
        refine ⟨.string (⟨p1.toArray⟩ ++ ⟨p3.toArray⟩ ++ ⟨pl.toArray⟩), fun W hW => quiet_ok ?_, hK _ ?_⟩
        · have q1 := (HC6.out W hW).1
          have q2 := (HC6.out W hW).2
          go_simp
          all_goals (try omega)
        clear hK K
        simp only [Act.put, List.setIfInBounds_toArray, List.set_cons_succ, List.set_cons_zero]
        refine wpQuiet_step (fun K hK => ?_)
        rw [if_pos (by rfl)]
        refine ⟨.string ⟨dd.toArray⟩, fun W hW => quiet_ok ?_, hK _ ?_⟩
        · have q1 := (HC6.out W hW).1
          have q2 := (HC6.out W hW).2
          go_simp
          all_goals (try omega)
        clear hK K
        simp only [Act.put, List.setIfInBounds_toArray, List.set_cons_succ, List.set_cons_zero]
        refine wpQuiet_step (fun K hK => ?_)
        rw [if_pos (by rfl)]
        refine ⟨.string (⟨p1.toArray⟩ ++ ⟨p3.toArray⟩ ++ ⟨pl.toArray⟩ ++ ⟨dd.toArray⟩), fun W hW => quiet_ok ?_, hK _ ?_⟩
        · have q1 := (HC6.out W hW).1
          have q2 := (HC6.out W hW).2
          go_simp
          all_goals (try omega)
        clear hK K
        simp only [Act.put, List.setIfInBounds_toArray, List.set_cons_succ, List.set_cons_zero]
        refine wpQuiet_step (fun K hK => ?_)
        rw [if_pos (by rfl)]
        refine ⟨.string (⟨tt.toArray⟩ ++ (⟨p1.toArray⟩ ++ ⟨p3.toArray⟩ ++ ⟨pl.toArray⟩ ++ ⟨dd.toArray⟩)), fun W hW => quiet_ok ?_, hK _ ?_⟩
        · have q1 := (HC6.out W hW).1
          have q2 := (HC6.out W hW).2
          go_simp
          all_goals (try omega)
        clear hK K
        simp only [Act.put, List.setIfInBounds_toArray, List.set_cons_succ, List.set_cons_zero]
        refine wpQuiet_step (fun K hK => ?_)
        rw [if_pos (by rfl)]
        refine ⟨.string (⟨tt.toArray⟩ ++ (⟨p1.toArray⟩ ++ ⟨p3.toArray⟩ ++ ⟨pl.toArray⟩ ++ ⟨dd.toArray⟩)), fun W hW => quiet_ok ?_, hK _ ?_⟩
        · have q1 := (HC6.out W hW).1
          have q2 := (HC6.out W hW).2
          go_simp
          all_goals (try omega)
        clear hK K
        simp only [Act.put, List.setIfInBounds_toArray, List.set_cons_succ, List.set_cons_zero]
        refine wpQuiet_nil ?_
        intro W hW
        go_wp2_with fail
        go_roundw
        case rel => exact ⟨k + 1, by omega, by go_num, val_strM (by rw [HST.out]; simp), HO6.out W hW, HB6.out W hW⟩
        case measure => simp [intOf]; omega
    · have hkk : L.take k = L := List.take_of_length_le (by omega)
      have hke : k = L.length := by omega
      have htl := HTL.out k hk
      have HROW : Hid (Row wr u5 (nm.data.toList :: L.map Prod.fst)) := by
        have h := HO.out
        rw [hkk, hke] at h
        exact row_own (by rw [List.length_cons, List.length_map]; exact h)
      obtain ⟨pk, hpk⟩ : ∃ pk, pk = packAll [] (nm.data.toList :: L.map Prod.fst) := ⟨_, rfl⟩
      have hpl : pk.length ≤ 1575 := by
        have h := packAll_len (nm.data.toList :: L.map Prod.fst) [] HNL.out
        rw [← hpk] at h
        simp only [List.length_nil, List.length_cons, List.length_map] at h
        omega
      obtain ⟨tt, htt⟩ : ∃ tt, tt = beB ty 1 ++ recsW (L.take k) := ⟨_, rfl⟩
      obtain ⟨i2, hi2⟩ : ∃ i2, i2 = beB mi 2 := ⟨_, rfl⟩
      have HI2 : Hid (∀ W, Calls Tryz.prog 74 #[.int .i64 mi, .int .i64 2] W fun e w' => e = .returned (.string ⟨i2.toArray⟩) ∧ Below W.heap.size W w') := by rw [hi2]; exact fun W => HN2.out mi W (by omega) (by omega)
      have hli2 : i2.length = 2 := by rw [hi2]; exact beB_length _ _
      obtain ⟨f1, hf1⟩ : ∃ f1, f1 = beB 128 1 := ⟨_, rfl⟩
      have HF1 : Hid (∀ W, Calls Tryz.prog 74 #[.int .i64 128, .int .i64 1] W fun e w' => e = .returned (.string ⟨f1.toArray⟩) ∧ Below W.heap.size W w') := by rw [hf1]; exact fun W => HN1.out 128 W (by omega) (by omega)
      have hlf1 : f1.length = 1 := by rw [hf1]; exact beB_length _ _
      obtain ⟨k1, hk1⟩ : ∃ k1, k1 = beB code 1 := ⟨_, rfl⟩
      have HK1 : Hid (∀ W, Calls Tryz.prog 74 #[.int .i64 code, .int .i64 1] W fun e w' => e = .returned (.string ⟨k1.toArray⟩) ∧ Below W.heap.size W w') := by rw [hk1]; exact fun W => HN1.out code W (by omega) (by omega)
      have hlk1 : k1.length = 1 := by rw [hk1]; exact beB_length _ _
      obtain ⟨a1, ha1⟩ : ∃ a1, a1 = beB (A.length : Int) 1 := ⟨_, rfl⟩
      have HA1 : Hid (∀ W, Calls Tryz.prog 74 #[.int .i64 (A.length : Int), .int .i64 1] W fun e w' => e = .returned (.string ⟨a1.toArray⟩) ∧ Below W.heap.size W w') := by rw [ha1]; exact fun W => HN1.out (A.length : Int) W (by omega) (by omega)
      have hla1 : a1.length = 1 := by rw [ha1]; exact beB_length _ _
      obtain ⟨u1, hu1⟩ : ∃ u1, u1 = beB (U.length : Int) 1 := ⟨_, rfl⟩
      have HU1 : Hid (∀ W, Calls Tryz.prog 74 #[.int .i64 (U.length : Int), .int .i64 1] W fun e w' => e = .returned (.string ⟨u1.toArray⟩) ∧ Below W.heap.size W w') := by rw [hu1]; exact fun W => HN1.out (U.length : Int) W (by omega) (by omega)
      have hlu1 : u1.length = 1 := by rw [hu1]; exact beB_length _ _
      obtain ⟨n2, hn2⟩ : ∃ n2, n2 = beB (pk.length : Int) 2 := ⟨_, rfl⟩
      have HN2b : Hid (∀ W, Calls Tryz.prog 74 #[.int .i64 (pk.length : Int), .int .i64 2] W fun e w' => e = .returned (.string ⟨n2.toArray⟩) ∧ Below W.heap.size W w') := by rw [hn2]; exact fun W => HN2.out (pk.length : Int) W (by omega) (by omega)
      have hln2 : n2.length = 2 := by rw [hn2]; exact beB_length _ _
      have HRES : Hid (msgW mi true false code nm.data.toList ty A U = i2 ++ f1 ++ k1 ++ a1 ++ u1 ++ n2 ++ pk ++ tt) := by
        have e1 : namW nm.data.toList (A ++ U) = pk := by rw [hpk, HL.out]; rfl
        have e2 : beB ty 1 ++ recsW (A ++ U) = tt := by rw [htt, hkk, HL.out]
        have e3 : flagI true false = 128 := by decide
        unfold msgW
        rw [e1, e2, e3, hi2, hf1, hk1, ha1, hu1, hn2]
        exact rfl
      rw [← htt] at htl ⊢
      clear hkk hke htt hi2 hf1 hk1 ha1 hu1 hn2 HO
      go_wp2_with fail
      refine (l4Names_any _ _ _ HROW.out HNL (by rw [List.length_cons, List.length_map]; omega)).mono ?_
      rintro e w7 ⟨rfl, hb7⟩
      rw [← hpk]
      have hb07 : Below W0.heap.size W0 w7 := (hb3.trans (hb.mono hb3.size)).trans (hb7.mono (Nat.le_trans hb3.size hb.size))
      have HC7 : Hid (∀ W, Below w7.heap.size w7 W → W.cell? ⟨w.heap.size, 0, none⟩ = some (.int .i64 mi) ∧ W.cell? ⟨w.heap.size, 3, none⟩ = some (.int .i64 code) ∧ W.cell? ⟨w.heap.size, 6, none⟩ = some (.slice aa A.length ca) ∧ W.cell? ⟨w.heap.size, 7, none⟩ = some (.slice au U.length cu)) := fun W hW => by
        have c := (HBX.out W (hb07.trans (hW.mono hb07.size))).1
        unfold MsgAt at c
        exact ⟨c.1, c.2.2.2.1, c.2.2.2.2.2.2.1, c.2.2.2.2.2.2.2⟩
      have HB7 : Hid (∀ W, Below w7.heap.size w7 W → Below w.heap.size w W) := fun W hW => (HBX.out W (hb07.trans (hW.mono hb07.size))).2
      have HTR7 : Hid (∀ W W', Below w7.heap.size w7 W → Below W.heap.size W W' → Below w7.heap.size w7 W') := fun W W' h1 h2 => h1.trans (h2.mono h1.size)
      have hbd7 : Below w7.heap.size w7 w7.drew := (Below.refl _ _).drew
      unfold maxLen at hca hcu
      clear hpk hb7 hb07 hb
      go_wp2_with fail
      refine wp_region_quiet (C := fun W => Below w7.heap.size w7 W) (by kernel_rfl) (by kernel_rfl) hbd7 ?_
      refine wpQuiet_step (fun K hK => ?_)
      rw [if_pos (by rfl)]
      refine ⟨.pointer (some ⟨w.heap.size, 0, none⟩), fun W hW => quiet_ok ?_, hK _ ?_⟩
      · have q0 := (HC7.out W hW).1
        have q3 := (HC7.out W hW).2.1
        have q6 := (HC7.out W hW).2.2.1
        have q7 := (HC7.out W hW).2.2.2
        go_simp
        all_goals (try omega)
      clear hK K
      simp only [Act.put, List.setIfInBounds_toArray, List.set_cons_succ, List.set_cons_zero]
      refine wpQuiet_step (fun K hK => ?_)
      rw [if_pos (by rfl)]
      refine ⟨.int .i64 mi, fun W hW => quiet_ok ?_, hK _ ?_⟩
      · have q0 := (HC7.out W hW).1
        have q3 := (HC7.out W hW).2.1
        have q6 := (HC7.out W hW).2.2.1
        have q7 := (HC7.out W hW).2.2.2
        go_simp
        all_goals (try omega)
      clear hK K
      simp only [Act.put, List.setIfInBounds_toArray, List.set_cons_succ, List.set_cons_zero]
      refine wpQuiet_step (fun K hK => ?_)
      rw [if_pos (by rfl)]
      refine ⟨.string ⟨i2.toArray⟩, fun W hW => quiet_call (f := 74) (args := #[.int .i64 mi, .int .i64 2]) ?_ ?_, hK _ ?_⟩
      · go_simp
      · exact (HI2.out W).mono fun e w'' h => ⟨h.1, HTR7.out _ _ hW h.2⟩
      clear hK K
      simp only [Act.put, List.setIfInBounds_toArray, List.set_cons_succ, List.set_cons_zero]
      refine wpQuiet_step (fun K hK => ?_)
      rw [if_pos (by rfl)]
      refine ⟨.int .i64 128, fun W hW => quiet_ok ?_, hK _ ?_⟩
      · have q0 := (HC7.out W hW).1
        have q3 := (HC7.out W hW).2.1
        have q6 := (HC7.out W hW).2.2.1
        have q7 := (HC7.out W hW).2.2.2
        go_simp
        all_goals (try omega)
      clear hK K
      simp only [Act.put, List.setIfInBounds_toArray, List.set_cons_succ, List.set_cons_zero]
      refine wpQuiet_step (fun K hK => ?_)
      rw [if_pos (by rfl)]
      refine ⟨.string ⟨f1.toArray⟩, fun W hW => quiet_call (f := 74) (args := #[.int .i64 128, .int .i64 1]) ?_ ?_, hK _ ?_⟩
      · go_simp
      · exact (HF1.out W).mono fun e w'' h => ⟨h.1, HTR7.out _ _ hW h.2⟩
      clear hK K
      simp only [Act.put, List.setIfInBounds_toArray, List.set_cons_succ, List.set_cons_zero]
      refine wpQuiet_step (fun K hK => ?_)
      rw [if_pos (by rfl)]
      refine ⟨.string (⟨i2.toArray⟩ ++ ⟨f1.toArray⟩), fun W hW => quiet_ok ?_, hK _ ?_⟩
      · have q0 := (HC7.out W hW).1
        have q3 := (HC7.out W hW).2.1
        have q6 := (HC7.out W hW).2.2.1
        have q7 := (HC7.out W hW).2.2.2
        go_simp
        all_goals (try omega)
      clear hK K
      simp only [Act.put, List.setIfInBounds_toArray, List.set_cons_succ, List.set_cons_zero]
      refine wpQuiet_step (fun K hK => ?_)
      rw [if_pos (by rfl)]
      refine ⟨.pointer (some ⟨w.heap.size, 3, none⟩), fun W hW => quiet_ok ?_, hK _ ?_⟩
      · have q0 := (HC7.out W hW).1
        have q3 := (HC7.out W hW).2.1
        have q6 := (HC7.out W hW).2.2.1
        have q7 := (HC7.out W hW).2.2.2
        go_simp
        all_goals (try omega)
      clear hK K
      simp only [Act.put, List.setIfInBounds_toArray, List.set_cons_succ, List.set_cons_zero]
      refine wpQuiet_step (fun K hK => ?_)
      rw [if_pos (by rfl)]
      refine ⟨.int .i64 code, fun W hW => quiet_ok ?_, hK _ ?_⟩
      · have q0 := (HC7.out W hW).1
        have q3 := (HC7.out W hW).2.1
        have q6 := (HC7.out W hW).2.2.1
        have q7 := (HC7.out W hW).2.2.2
        go_simp
        all_goals (try omega)
      clear hK K
      simp only [Act.put, List.setIfInBounds_toArray, List.set_cons_succ, List.set_cons_zero]
      refine wpQuiet_step (fun K hK => ?_)
      rw [if_pos (by rfl)]
      refine ⟨.string ⟨k1.toArray⟩, fun W hW => quiet_call (f := 74) (args := #[.int .i64 code, .int .i64 1]) ?_ ?_, hK _ ?_⟩
      · go_simp
      · exact (HK1.out W).mono fun e w'' h => ⟨h.1, HTR7.out _ _ hW h.2⟩
      clear hK K
      simp only [Act.put, List.setIfInBounds_toArray, List.set_cons_succ, List.set_cons_zero]
      refine wpQuiet_step (fun K hK => ?_)
      rw [if_pos (by rfl)]
      refine ⟨.string (⟨i2.toArray⟩ ++ ⟨f1.toArray⟩ ++ ⟨k1.toArray⟩), fun W hW => quiet_ok ?_, hK _ ?_⟩
      · have q0 := (HC7.out W hW).1
        have q3 := (HC7.out W hW).2.1
        have q6 := (HC7.out W hW).2.2.1
        have q7 := (HC7.out W hW).2.2.2
        go_simp
        all_goals (try omega)
      clear hK K
      simp only [Act.put, List.setIfInBounds_toArray, List.set_cons_succ, List.set_cons_zero]
      refine wpQuiet_step (fun K hK => ?_)
      rw [if_pos (by rfl)]
      refine ⟨.pointer (some ⟨w.heap.size, 6, none⟩), fun W hW => quiet_ok ?_, hK _ ?_⟩
      · have q0 := (HC7.out W hW).1
        have q3 := (HC7.out W hW).2.1
        have q6 := (HC7.out W hW).2.2.1
        have q7 := (HC7.out W hW).2.2.2
        go_simp
        all_goals (try omega)
      clear hK K
      simp only [Act.put, List.setIfInBounds_toArray, List.set_cons_succ, List.set_cons_zero]
      refine wpQuiet_step (fun K hK => ?_)
      rw [if_pos (by rfl)]
      refine ⟨.slice aa A.length ca, fun W hW => quiet_ok ?_, hK _ ?_⟩
      · have q0 := (HC7.out W hW).1
        have q3 := (HC7.out W hW).2.1
        have q6 := (HC7.out W hW).2.2.1
        have q7 := (HC7.out W hW).2.2.2
        go_simp
        all_goals (try omega)
      clear hK K
      simp only [Act.put, List.setIfInBounds_toArray, List.set_cons_succ, List.set_cons_zero]
      refine wpQuiet_step (fun K hK => ?_)
      rw [if_pos (by rfl)]
      refine ⟨.int .i64 (A.length : Int), fun W hW => quiet_ok ?_, hK _ ?_⟩
      · have q0 := (HC7.out W hW).1
        have q3 := (HC7.out W hW).2.1
        have q6 := (HC7.out W hW).2.2.1
        have q7 := (HC7.out W hW).2.2.2
        go_simp
        all_goals (try omega)
      clear hK K
      simp only [Act.put, List.setIfInBounds_toArray, List.set_cons_succ, List.set_cons_zero]
      refine wpQuiet_step (fun K hK => ?_)
      rw [if_pos (by rfl)]
      refine ⟨.string ⟨a1.toArray⟩, fun W hW => quiet_call (f := 74) (args := #[.int .i64 (A.length : Int), .int .i64 1]) ?_ ?_, hK _ ?_⟩
      · go_simp
      · exact (HA1.out W).mono fun e w'' h => ⟨h.1, HTR7.out _ _ hW h.2⟩
      clear hK K
      simp only [Act.put, List.setIfInBounds_toArray, List.set_cons_succ, List.set_cons_zero]
      refine wpQuiet_step (fun K hK => ?_)
      rw [if_pos (by rfl)]
      refine ⟨.string (⟨i2.toArray⟩ ++ ⟨f1.toArray⟩ ++ ⟨k1.toArray⟩ ++ ⟨a1.toArray⟩), fun W hW => quiet_ok ?_, hK _ ?_⟩
      · have q0 := (HC7.out W hW).1
        have q3 := (HC7.out W hW).2.1
        have q6 := (HC7.out W hW).2.2.1
        have q7 := (HC7.out W hW).2.2.2
        go_simp
        all_goals (try omega)
      clear hK K
      simp only [Act.put, List.setIfInBounds_toArray, List.set_cons_succ, List.set_cons_zero]
      refine wpQuiet_step (fun K hK => ?_)
      rw [if_pos (by rfl)]
      refine ⟨.pointer (some ⟨w.heap.size, 7, none⟩), fun W hW => quiet_ok ?_, hK _ ?_⟩
      · have q0 := (HC7.out W hW).1
        have q3 := (HC7.out W hW).2.1
        have q6 := (HC7.out W hW).2.2.1
        have q7 := (HC7.out W hW).2.2.2
        go_simp
        all_goals (try omega)
      clear hK K
      simp only [Act.put, List.setIfInBounds_toArray, List.set_cons_succ, List.set_cons_zero]
      refine wpQuiet_step (fun K hK => ?_)
      rw [if_pos (by rfl)]
      refine ⟨.slice au U.length cu, fun W hW => quiet_ok ?_, hK _ ?_⟩
      · have q0 := (HC7.out W hW).1
        have q3 := (HC7.out W hW).2.1
        have q6 := (HC7.out W hW).2.2.1
        have q7 := (HC7.out W hW).2.2.2
        go_simp
        all_goals (try omega)
      clear hK K
      simp only [Act.put, List.setIfInBounds_toArray, List.set_cons_succ, List.set_cons_zero]
      refine wpQuiet_step (fun K hK => ?_)
      rw [if_pos (by rfl)]
      refine ⟨.int .i64 (U.length : Int), fun W hW => quiet_ok ?_, hK _ ?_⟩
      · have q0 := (HC7.out W hW).1
        have q3 := (HC7.out W hW).2.1
        have q6 := (HC7.out W hW).2.2.1
        have q7 := (HC7.out W hW).2.2.2
        go_simp
        all_goals (try omega)
      clear hK K
      simp only [Act.put, List.setIfInBounds_toArray, List.set_cons_succ, List.set_cons_zero]
      refine wpQuiet_step (fun K hK => ?_)
      rw [if_pos (by rfl)]
      refine ⟨.string ⟨u1.toArray⟩, fun W hW => quiet_call (f := 74) (args := #[.int .i64 (U.length : Int), .int .i64 1]) ?_ ?_, hK _ ?_⟩
      · go_simp
      · exact (HU1.out W).mono fun e w'' h => ⟨h.1, HTR7.out _ _ hW h.2⟩
      clear hK K
      simp only [Act.put, List.setIfInBounds_toArray, List.set_cons_succ, List.set_cons_zero]
      refine wpQuiet_step (fun K hK => ?_)
      rw [if_pos (by rfl)]
      refine ⟨.string (⟨i2.toArray⟩ ++ ⟨f1.toArray⟩ ++ ⟨k1.toArray⟩ ++ ⟨a1.toArray⟩ ++ ⟨u1.toArray⟩), fun W hW => quiet_ok ?_, hK _ ?_⟩
      · have q0 := (HC7.out W hW).1
        have q3 := (HC7.out W hW).2.1
        have q6 := (HC7.out W hW).2.2.1
        have q7 := (HC7.out W hW).2.2.2
        go_simp
        all_goals (try omega)
      clear hK K
      simp only [Act.put, List.setIfInBounds_toArray, List.set_cons_succ, List.set_cons_zero]
      refine wpQuiet_step (fun K hK => ?_)
      rw [if_pos (by rfl)]
      refine ⟨.string ⟨pk.toArray⟩, fun W hW => quiet_ok ?_, hK _ ?_⟩
      · have q0 := (HC7.out W hW).1
        have q3 := (HC7.out W hW).2.1
        have q6 := (HC7.out W hW).2.2.1
        have q7 := (HC7.out W hW).2.2.2
        go_simp
        all_goals (try omega)
      clear hK K
      simp only [Act.put, List.setIfInBounds_toArray, List.set_cons_succ, List.set_cons_zero]
      refine wpQuiet_step (fun K hK => ?_)
      rw [if_pos (by rfl)]
      refine ⟨.int .i64 (pk.length : Int), fun W hW => quiet_ok ?_, hK _ ?_⟩
      · have q0 := (HC7.out W hW).1
        have q3 := (HC7.out W hW).2.1
        have q6 := (HC7.out W hW).2.2.1
        have q7 := (HC7.out W hW).2.2.2
        go_simp
        all_goals (try omega)
      clear hK K
      simp only [Act.put, List.setIfInBounds_toArray, List.set_cons_succ, List.set_cons_zero]
      refine wpQuiet_step (fun K hK => ?_)
      rw [if_pos (by rfl)]
      refine ⟨.string ⟨n2.toArray⟩, fun W hW => quiet_call (f := 74) (args := #[.int .i64 (pk.length : Int), .int .i64 2]) ?_ ?_, hK _ ?_⟩
      · go_simp
      · exact (HN2b.out W).mono fun e w'' h => ⟨h.1, HTR7.out _ _ hW h.2⟩
      clear hK K
      simp only [Act.put, List.setIfInBounds_toArray, List.set_cons_succ, List.set_cons_zero]
      refine wpQuiet_step (fun K hK => ?_)
      rw [if_pos (by rfl)]
      refine ⟨.string (⟨i2.toArray⟩ ++ ⟨f1.toArray⟩ ++ ⟨k1.toArray⟩ ++ ⟨a1.toArray⟩ ++ ⟨u1.toArray⟩ ++ ⟨n2.toArray⟩), fun W hW => quiet_ok ?_, hK _ ?_⟩
      · have q0 := (HC7.out W hW).1
        have q3 := (HC7.out W hW).2.1
        have q6 := (HC7.out W hW).2.2.1
        have q7 := (HC7.out W hW).2.2.2
        go_simp
        all_goals (try omega)
      clear hK K
      simp only [Act.put, List.setIfInBounds_toArray, List.set_cons_succ, List.set_cons_zero]
      refine wpQuiet_step (fun K hK => ?_)
      rw [if_pos (by rfl)]
      refine ⟨.string ⟨pk.toArray⟩, fun W hW => quiet_ok ?_, hK _ ?_⟩
      · have q0 := (HC7.out W hW).1
        have q3 := (HC7.out W hW).2.1
        have q6 := (HC7.out W hW).2.2.1
        have q7 := (HC7.out W hW).2.2.2
        go_simp
        all_goals (try omega)
      clear hK K
      simp only [Act.put, List.setIfInBounds_toArray, List.set_cons_succ, List.set_cons_zero]
      refine wpQuiet_step (fun K hK => ?_)
      rw [if_pos (by rfl)]
      refine ⟨.string (⟨i2.toArray⟩ ++ ⟨f1.toArray⟩ ++ ⟨k1.toArray⟩ ++ ⟨a1.toArray⟩ ++ ⟨u1.toArray⟩ ++ ⟨n2.toArray⟩ ++ ⟨pk.toArray⟩), fun W hW => quiet_ok ?_, hK _ ?_⟩
      · have q0 := (HC7.out W hW).1
        have q3 := (HC7.out W hW).2.1
        have q6 := (HC7.out W hW).2.2.1
        have q7 := (HC7.out W hW).2.2.2
        go_simp
        all_goals (try omega)
      clear hK K
      simp only [Act.put, List.setIfInBounds_toArray, List.set_cons_succ, List.set_cons_zero]
      refine wpQuiet_step (fun K hK => ?_)
      rw [if_pos (by rfl)]
      refine ⟨.string ⟨tt.toArray⟩, fun W hW => quiet_ok ?_, hK _ ?_⟩
      · have q0 := (HC7.out W hW).1
        have q3 := (HC7.out W hW).2.1
        have q6 := (HC7.out W hW).2.2.1
        have q7 := (HC7.out W hW).2.2.2
        go_simp
        all_goals (try omega)
      clear hK K
      simp only [Act.put, List.setIfInBounds_toArray, List.set_cons_succ, List.set_cons_zero]
      refine wpQuiet_step (fun K hK => ?_)
      rw [if_pos (by rfl)]
      refine ⟨.string (⟨i2.toArray⟩ ++ ⟨f1.toArray⟩ ++ ⟨k1.toArray⟩ ++ ⟨a1.toArray⟩ ++ ⟨u1.toArray⟩ ++ ⟨n2.toArray⟩ ++ ⟨pk.toArray⟩ ++ ⟨tt.toArray⟩), fun W hW => quiet_ok ?_, hK _ ?_⟩
      · have q0 := (HC7.out W hW).1
        have q3 := (HC7.out W hW).2.1
        have q6 := (HC7.out W hW).2.2.1
        have q7 := (HC7.out W hW).2.2.2
        go_simp
        all_goals (try omega)
      clear hK K
      simp only [Act.put, List.setIfInBounds_toArray, List.set_cons_succ, List.set_cons_zero]
      refine wpQuiet_step (fun K hK => ?_)
      rw [if_pos (by rfl)]
      refine ⟨.string (⟨i2.toArray⟩ ++ ⟨f1.toArray⟩ ++ ⟨k1.toArray⟩ ++ ⟨a1.toArray⟩ ++ ⟨u1.toArray⟩ ++ ⟨n2.toArray⟩ ++ ⟨pk.toArray⟩ ++ ⟨tt.toArray⟩), fun W hW => quiet_ok ?_, hK _ ?_⟩
      · have q0 := (HC7.out W hW).1
        have q3 := (HC7.out W hW).2.1
        have q6 := (HC7.out W hW).2.2.1
        have q7 := (HC7.out W hW).2.2.2
        go_simp
        all_goals (try omega)
      clear hK K
      simp only [Act.put, List.setIfInBounds_toArray, List.set_cons_succ, List.set_cons_zero]
      refine wpQuiet_nil ?_
      intro W hW
      go_wp2_with fail
      go_ret
      exact ⟨ret_strP (by rw [HRES.out]; simp), HB7.out W hW⟩
end Go.Proofs.YtpghpeombednkaaGreatDoor

namespace Go.Proofs.YtpghpeombednkaaGreatDoor
open Go.RowKit

set_option maxRecDepth 20000 in
set_option maxHeartbeats 8000000 in
theorem l4Bytes_ff (mi : Int) (code : Int) (nm : ByteArray) (ty : Int) (va vu : Value) (A U : List (List UInt8 × Int × Int × List UInt8)) (w : World) (hG : GoodM mi false false code nm.data.toList ty A U) (ha : RRow w va A) (hu : RRow w vu U)
    (HXD : Hid (∀ x ∈ A ++ U, x.2.2.2.length ≤ 1048576)) (hna : ∀ n c, va = .slice none n c → c = 0) (hnu : ∀ n c, vu = .slice none n c → c = 0) :
    Calls Tryz.prog 32 #[MsgV mi false false code nm ty va vu] w fun e w' => e = .returned (.string ⟨(msgW mi false false code nm.data.toList ty A U).toArray⟩) ∧ Below w.heap.size w w' := by
  obtain ⟨i9, hi9, hy0, hy1, hy2⟩ := info_parts info_string
  obtain ⟨id0, id1, code0, code1, hname, ty0, ty1, few, fewU, hall, _⟩ := hG
  obtain ⟨aa, ca, hva, _, hca, _⟩ := id ha
  obtain ⟨au, cu, hvu, _, hcu, _⟩ := id hu
  have HRA : Hid (∀ W, Below w.heap.size w W → RRow W va A) := fun W hW => ha.kept hW
  have HRU : Hid (∀ W, Below w.heap.size w W → RRow W vu U) := fun W hW => hu.kept hW
  subst hva
  subst hvu
  have HNA : Hid (∀ n c, Value.slice aa A.length ca = .slice none n c → c = 0) := hna
  have HNU : Hid (∀ n c, Value.slice au U.length cu = .slice none n c → c = 0) := hnu
  have HALL : Hid (∀ x ∈ A ++ U, GoodR x) := hall
  have HNM : Hid (nameB nm.data.toList = true) := hname
  obtain ⟨W0, hW0⟩ : ∃ W0, W0 = w.alloc (.cells #[.int .i64 mi, .bool false, .bool false, .int .i64 code, .string nm, .int .i64 ty, .slice aa A.length ca, .slice au U.length cu] 25) := ⟨_, rfl⟩
  have HW0 : Hid (w.alloc (.cells #[.int .i64 mi, .bool false, .bool false, .int .i64 code, .string nm, .int .i64 ty, .slice aa A.length ca, .slice au U.length cu] 25) = W0) := hW0.symm
  have HBX : Hid (∀ W, Below W0.heap.size W0 W → MsgAt W w.heap.size mi false false code nm ty (.slice aa A.length ca) (.slice au U.length cu) ∧ Below w.heap.size w W) := fun W h => by rw [hW0] at h; exact box8 h
  have hz0 : w.heap.size < W0.heap.size := by rw [hW0]; simp
  have HS6 : Hid (∀ W, Below W0.heap.size W0 W → Below W0.heap.size W0 W ∧ W.cell? ⟨w.heap.size, 6, none⟩ = some (.slice aa A.length ca) ∧ W.cell? ⟨w.heap.size, 7, none⟩ = some (.slice au U.length cu)) := fun W h => by
    have c := (HBX.out W h).1
    unfold MsgAt at c
    exact ⟨h, c.2.2.2.2.2.2.1, c.2.2.2.2.2.2.2⟩
  have HAX : Hid (∀ W, (Below W0.heap.size W0 W ∧ W.cell? ⟨w.heap.size, 6, none⟩ = some (.slice aa A.length ca) ∧ W.cell? ⟨w.heap.size, 7, none⟩ = some (.slice au U.length cu)) → RRow W (.slice aa A.length ca) A) := fun W h => HRA.out W (HBX.out W h.1).2
  have HUX : Hid (∀ W, (Below W0.heap.size W0 W ∧ W.cell? ⟨w.heap.size, 6, none⟩ = some (.slice aa A.length ca) ∧ W.cell? ⟨w.heap.size, 7, none⟩ = some (.slice au U.length cu)) → RRow W (.slice au U.length cu) U) := fun W h => HRU.out W (HBX.out W h.1).2
  have HZX : Hid (∀ W, (Below W0.heap.size W0 W ∧ W.cell? ⟨w.heap.size, 6, none⟩ = some (.slice aa A.length ca) ∧ W.cell? ⟨w.heap.size, 7, none⟩ = some (.slice au U.length cu)) → W0.heap.size ≤ W.heap.size) := fun W h => h.1.size
  have HGA : Hid (∀ W w2, (Below W0.heap.size W0 W ∧ W.cell? ⟨w.heap.size, 6, none⟩ = some (.slice aa A.length ca) ∧ W.cell? ⟨w.heap.size, 7, none⟩ = some (.slice au U.length cu)) → W.grownBy w2 (Value.slice (some ⟨W0.heap.size, 0, none⟩) 0 0).ownBlock → Below W0.heap.size W0 w2) := fun W w2 h hg => h.1.grown hg h.1.size (fun k hk => by simp [Value.ownBlock] at hk; omega)
  have HGB : Hid (∀ W w2 v n xs, (Below W0.heap.size W0 W ∧ W.cell? ⟨w.heap.size, 6, none⟩ = some (.slice aa A.length ca) ∧ W.cell? ⟨w.heap.size, 7, none⟩ = some (.slice au U.length cu)) → W.ownsRow W0.heap.size 35 4 v n xs → W.grownBy w2 v.ownBlock → Below W0.heap.size W0 w2) := fun W w2 v n xs h ho hg => h.1.grown hg h.1.size (fun k hk => (ho.lt k hk).1)
  have hbz : Below W0.heap.size W0 W0 := Below.refl _ _
  have hbd : Below W0.heap.size W0 W0.drew := (Below.refl _ _).drew
  have HN1 : Hid (∀ (n : Int) W, 0 ≤ n → n ≤ 1000000 → Calls Tryz.prog 74 #[.int .i64 n, .int .i64 1] W fun e w' => e = .returned (.string ⟨(beB n 1).toArray⟩) ∧ Below W.heap.size W w') := fun n W h1 h2 => l3Number_any n 1 W (by omega) (by omega) (by omega)
  have HN2 : Hid (∀ (n : Int) W, 0 ≤ n → n ≤ 1000000 → Calls Tryz.prog 74 #[.int .i64 n, .int .i64 2] W fun e w' => e = .returned (.string ⟨(beB n 2).toArray⟩) ∧ Below W.heap.size W w') := fun n W h1 h2 => l3Number_any n 2 W (by omega) (by omega) (by omega)
  have HN3 : Hid (∀ (n : Int) W, 0 ≤ n → n ≤ 1000000 → Calls Tryz.prog 74 #[.int .i64 n, .int .i64 3] W fun e w' => e = .returned (.string ⟨(beB n 3).toArray⟩) ∧ Below W.heap.size W w') := fun n W h1 h2 => l3Number_any n 3 W (by omega) (by omega) (by omega)
  have hnl : nm.size ≤ 60 := by
    have h := hname
    unfold nameB at h
    simp only [Bool.and_eq_true, decide_eq_true_eq] at h
    have h2 := data_len nm
    omega
  obtain ⟨L, hL⟩ : ∃ L, L = A ++ U := ⟨_, rfl⟩
  have hLl : L.length ≤ 24 := by rw [hL, List.length_append]; omega
  have HL : Hid (L = A ++ U) := hL
  have HGL : Hid (∀ k, (h : k < L.length) → GoodR (L[k]'h)) := fun k h => HALL.out _ (by rw [← hL]; exact List.getElem_mem h)
  have HNL : Hid (∀ p ∈ nm.data.toList :: L.map Prod.fst, nameB p = true) := fun p hp => by
    rcases List.mem_cons.1 hp with rfl | hp
    · exact hname
    · obtain ⟨x, hx, rfl⟩ := List.mem_map.1 hp
      exact (HALL.out x (by rw [← hL]; exact hx)).name
  have HTL : Hid (∀ k, k ≤ L.length → (beB ty 1 ++ recsW (L.take k)).length ≤ 20000) := fun k hk => by
    have h := recsW_len (L.take k) (fun x hx => HALL.out x (by rw [← hL]; exact List.mem_of_mem_take hx))
    rw [List.length_append, beB_length]
    rw [List.length_take] at h
    omega
  clear ha hu hna hnu hall hname hW0 hL
  unfold MsgV
  go_enter Tryz.func32, Tryz.ntmps32
  go_wp2_with fail
  rw [HW0.out]
  go_region_held3 (fun W => Below W0.heap.size W0 W ∧ W.cell? ⟨w.heap.size, 6, none⟩ = some (.slice aa A.length ca) ∧ W.cell? ⟨w.heap.size, 7, none⟩ = some (.slice au U.length cu)) (first | exact HS6.out _ (by assumption) | exact HS6.out _ (Below.drew (by assumption)) | exact HS6.out _ (Below.alloc (by assumption) (Below.size (by assumption)) _))
    (first
    | (refine step_append_rows rfl (.tmp 23) (.tmp 25) 23 rfl Tryz.underlying23 W0.heap.size _ _ A rfl rfl (by assumption) _ U rfl (HUX.out _ (by assumption)) HNU.out (by omega) (HZX.out _ (by assumption)) ?_; intro v2 w3 hown2 hgrow2; have hb3 := HGB.out _ _ _ _ _ (by assumption) (by assumption) hgrow2)
    | (refine step_append_rows rfl (.tmp 20) (.tmp 22) 23 rfl Tryz.underlying23 W0.heap.size _ 0 [] rfl rfl (own_lit' _ _ _ (by simp) (Below.size (by assumption))) _ A rfl (HAX.out _ (by assumption)) HNA.out (by omega) (HZX.out _ (by assumption)) ?_; intro v1 w2 hown1 hgrow1; have hb2 := HGA.out _ _ (by assumption) hgrow1))
  rw [← HL.out] at hown2
  obtain ⟨a2, cap2, hv2, hc2, hn2⟩ := own4_shape hown2
  have HQ : Hid (OwnQ w3 W0.heap.size v2 L) := own_q hown2
  subst hv2
  have HRL : Hid (L = [] ∨ ∃ b o, a2 = some ⟨b, o, none⟩ ∧ b < w3.heap.size ∧ ∀ j, (hj : j < L.length) → RecAt w3 b (o + j * 4) L[j]) := by
    obtain ⟨x, c, e, _, _, h⟩ := HQ.out.row
    cases e; exact h
  have hcm : L.length ≤ cap2 := by
    obtain ⟨x, c, e, h, _, _⟩ := HQ.out.row
    cases e; exact h
  have hlt3 : w.heap.size < w3.heap.size := Nat.lt_of_lt_of_le hz0 hb3.size
  obtain ⟨⟨c0, c1, c2, c3, c4, c5, c6, c7⟩, hbw3⟩ := HBX.out _ hb3
  clear hown2 hgrow2 hn2 HQ HS6 HAX HUX HZX HGA HGB
  unfold maxLen at hc2
  go_wp2_with fail
  refine (HN1.out ty _ (by omega) (by omega)).mono ?_
  rintro e w4 ⟨rfl, hb4⟩
  have hb34 : Below w3.heap.size w3 w4 := ((Below.refl w3.heap.size w3).alloc (Nat.le_refl _) _).trans (hb4.mono (by simp))
  have HO4 : Hid (w4.ownsRow w3.heap.size 9 1 (.slice (some ⟨w3.heap.size, 0, none⟩) 1 1) 1 ((nm.data.toList :: (L.take 0).map Prod.fst).map S)) := own_below (World.ownsRow_lit w3 #[.string nm] 1 (Nat.le_refl _) (by unfold maxLen; omega) rfl) hb4
  clear c0 c1 c2 c3 c4 c5 c6 c7 hb4
  go_wp2_with fail
  go_loopw [5, 6, 35] (fun vn vt i wr => ∃ k : Nat, k ≤ L.length ∧ i = .int .i64 (k : Int) ∧ vt = .string ⟨(beB ty 1 ++ recsW (L.take k)).toArray⟩ ∧ Hid (wr.ownsRow w3.heap.size 9 1 vn (k + 1) ((nm.data.toList :: (L.take k).map Prod.fst).map S)) ∧ Below w3.heap.size w3 wr) (fun _ _ i _ => L.length - (intOf i).toNat)
  case atStart => exact ⟨0, Nat.zero_le _, rfl, by simp [recsW], HO4, hb34⟩
  case round =>
    obtain ⟨k, hk, rfl, rfl, HO, hb⟩ := hrel
    by_cases hlt : k < L.length
    · rcases HRL.out with hr | ⟨b, o, ha, hbl, hcel⟩
      · rw [hr] at hlt; simp at hlt
      · rw [ha]
        have HM := (hcel k hlt).kept hb
        have hG := HGL.out k hlt
        have HST0 : beB ty 1 ++ recsW (L.take (k + 1)) = (beB ty 1 ++ recsW (L.take k)) ++ recW (L[k]'hlt) := by rw [recsW_snoc L k hlt, List.append_assoc]
        have HNX0 : (nm.data.toList :: (L.take (k + 1)).map Prod.fst).map S = (nm.data.toList :: (L.take k).map Prod.fst).map S ++ [S (L[k]'hlt).1] := by
          rw [List.take_succ_eq_append_getElem hlt]; simp only [List.map_append, List.map_cons, List.map_nil, List.cons_append]
        have htl := HTL.out k hk
        have hxd0 := HXD.out (L[k]'hlt) (by rw [← HL.out]; exact List.getElem_mem hlt)
        obtain ⟨x, hx⟩ : ∃ x, x = L[k]'hlt := ⟨_, rfl⟩
        rw [← hx] at HM hG HST0 HNX0 hxd0
        clear hx hcel
        obtain ⟨xn, xt, xl, xd⟩ := x
        obtain ⟨m0, m1, m2, m3⟩ := HM
        simp only at m0 m1 m2 m3 hxd0
        obtain ⟨dd, hdd⟩ : ∃ dd, dd = datW (xn, xt, xl, xd) := ⟨_, rfl⟩
        obtain ⟨tt, htt⟩ : ∃ tt, tt = beB ty 1 ++ recsW (L.take k) := ⟨_, rfl⟩
        have HD : Hid (dataP xt xd = some dd) := by rw [hdd]; exact hG.data
        have hdl : dd.length ≤ 600 := by rw [hdd]; exact hG.dlen
        have hxt0 : 1 ≤ xt := hG.ty0
        have hxt1 : xt ≤ 16 := hG.ty1
        have hxl0 : 0 ≤ xl := hG.ttl0
        have hxl1 : xl ≤ 100000 := hG.ttl1
        have hxd : (⟨xd.toArray⟩ : ByteArray).size ≤ 1048576 := by
          rw [size_list]
          exact hxd0
        have hxn : xn.length ≤ 60 := by
          have h := hG.name
          unfold nameB at h
          simp only [Bool.and_eq_true, decide_eq_true_eq] at h
          omega
        have HP10 : ∀ W, Calls Tryz.prog 74 #[.int .i64 xt, .int .i64 1] W fun e w' => e = .returned (.string ⟨(beB xt 1).toArray⟩) ∧ Below W.heap.size W w' := fun W => HN1.out xt W (by omega) (by omega)
        have HP30 : ∀ W, Calls Tryz.prog 74 #[.int .i64 xl, .int .i64 3] W fun e w' => e = .returned (.string ⟨(beB xl 3).toArray⟩) ∧ Below W.heap.size W w' := fun W => HN3.out xl W (by omega) (by omega)
        have HPL0 : ∀ W, Calls Tryz.prog 74 #[.int .i64 (dd.length : Int), .int .i64 1] W fun e w' => e = .returned (.string ⟨(beB (dd.length : Int) 1).toArray⟩) ∧ Below W.heap.size W w' := fun W => HN1.out _ W (by omega) (by omega)
        have HRW : recW (xn, xt, xl, xd) = beB xt 1 ++ beB xl 3 ++ beB (dd.length : Int) 1 ++ dd := by unfold recW; rw [← hdd]
        have hl1 : (beB xt 1).length = 1 := beB_length _ _
        have hl3 : (beB xl 3).length = 3 := beB_length _ _
        have hll : (beB (dd.length : Int) 1).length = 1 := beB_length _ _
        obtain ⟨p1, hp1⟩ : ∃ p1, p1 = beB xt 1 := ⟨_, rfl⟩
        obtain ⟨p3, hp3⟩ : ∃ p3, p3 = beB xl 3 := ⟨_, rfl⟩
        obtain ⟨pl, hpl⟩ : ∃ pl, pl = beB (dd.length : Int) 1 := ⟨_, rfl⟩
        rw [← hp1] at HP10 HRW hl1
        rw [← hp3] at HP30 HRW hl3
        rw [← hpl] at HPL0 HRW hll
        rw [← htt] at HST0 htl ⊢
        have HP1 : Hid (∀ W, Calls Tryz.prog 74 #[.int .i64 xt, .int .i64 1] W fun e w' => e = .returned (.string ⟨p1.toArray⟩) ∧ Below W.heap.size W w') := HP10
        have HP3 : Hid (∀ W, Calls Tryz.prog 74 #[.int .i64 xl, .int .i64 3] W fun e w' => e = .returned (.string ⟨p3.toArray⟩) ∧ Below W.heap.size W w') := HP30
        have HPL : Hid (∀ W, Calls Tryz.prog 74 #[.int .i64 (dd.length : Int), .int .i64 1] W fun e w' => e = .returned (.string ⟨pl.toArray⟩) ∧ Below W.heap.size W w') := HPL0
        have HST : Hid (beB ty 1 ++ recsW (L.take (k + 1)) = tt ++ (p1 ++ p3 ++ pl ++ dd)) := by rw [HST0, HRW]; exact rfl
        obtain ⟨ns, hns⟩ : ∃ ns, ns = (nm.data.toList :: (L.take k).map Prod.fst).map S := ⟨_, rfl⟩
        rw [← hns] at HO HNX0
        have HNX : Hid ((nm.data.toList :: (L.take (k + 1)).map Prod.fst).map S = ns ++ [.string ⟨xn.toArray⟩]) := HNX0
        have hbs := hb.size
        clear hns hxd0 HP10 HP30 HPL0 HST0 HRW HNX0 hp1 hp3 hpl htt hdd hG
        go_wp2_with (first | (at_builtin; refine wpList_append_own _ rfl (.tmp 39) (.tmp 42) 70 rfl w3.heap.size 9 i9 (.string ByteArray.empty) 1 16 Tryz.underlying70 hi9 hy0 hy1 hy2 rfl (by decide) _ _ _ rfl ((HO.out.alloc _).alloc _) ⟨wr.heap.size + 1, 0, none⟩ 1 1 [.string ⟨xn.toArray⟩] rfl rfl ?k1 ?k2 ?k3 ?k4 ?k5 ?_))
        case k1 => exact cell_new_one' _ _ _ _ (by simp)
        case k2 => exact one_string _
        case k3 => unfold maxLen; omega
        case k4 => omega
        case k5 => simp; omega
        intro vn2 w5 hown5 hgrow5 _
        have HLT : Hid (∀ g, u5.ownBlock = some g → w3.heap.size ≤ g ∧ g < wr.heap.size) := fun g hg => HO.out.lt g hg
        have hb5 : Below w3.heap.size w3 w5 := ((hb.alloc hbs _).alloc (by simp; omega) _).grown hgrow5 (by simp; omega) (fun k hk => (HLT.out k hk).1)
        have HB5 : Hid (w5.heap[wr.heap.size]? = some (.cells #[.string ⟨xn.toArray⟩, .int .i64 xt, .int .i64 xl, .string ⟨xd.toArray⟩] 35)) := by
          have e1 := hgrow5.block wr.heap.size (by simp; omega) (fun h => by have h1 := HLT.out _ h.symm; omega)
          exact e1.trans (((kpt_alloc (wr.alloc (.cells #[.string ⟨xn.toArray⟩, .int .i64 xt, .int .i64 xl, .string ⟨xd.toArray⟩] 35)) _ (fun _ => False)).block wr.heap.size (by simp) (fun h => h)).trans (blk_new _ _))
        have HO5 : Hid (w5.ownsRow w3.heap.size 9 1 vn2 (k + 1 + 1) ((nm.data.toList :: (L.take (k + 1)).map Prod.fst).map S)) := by
          show w5.ownsRow w3.heap.size 9 1 vn2 (k + 1 + 1) _
          rw [HNX.out]; exact hown5
        have hz5 : wr.heap.size < w5.heap.size := Nat.lt_of_lt_of_le (by simp; omega) hgrow5.size
        obtain ⟨r0, r1, r2, r3⟩ := rec_cells4 HB5.out
        clear hown5 hgrow5 m0 m1 m2 m3 HO
        go_wp2_with fail
        refine (l3Bytes_any xt ⟨xd.toArray⟩ _ hxd).mono ?_
        rintro e w6 ⟨⟨x6, rfl, hx6⟩, hb6⟩
        rw [show (⟨xd.toArray⟩ : ByteArray).data.toList = xd from rfl, HD.out]
        rw [show (⟨xd.toArray⟩ : ByteArray).data.toList = xd from rfl] at hx6
        obtain rfl := hx6 dd HD.out
        rw [show (some dd).isSome = true from rfl]
        have HC6 : Hid (∀ W, Below w6.heap.size w6 W → W.cell? ⟨wr.heap.size, 1, none⟩ = some (.int .i64 xt) ∧ W.cell? ⟨wr.heap.size, 2, none⟩ = some (.int .i64 xl)) := fun W hW => by
          have e1 : W.heap[wr.heap.size]? = some (.cells #[.string ⟨xn.toArray⟩, .int .i64 xt, .int .i64 xl, .string ⟨xd.toArray⟩] 35) := ((hW.block wr.heap.size (Nat.lt_of_lt_of_le hz5 hb6.size)).trans (hb6.block wr.heap.size hz5)).trans HB5.out
          have h := rec_cells4 e1
          exact ⟨h.2.1, h.2.2.1⟩
        have HTR6 : Hid (∀ W W', Below w6.heap.size w6 W → Below W.heap.size W W' → Below w6.heap.size w6 W') := fun W W' h1 h2 => h1.trans (h2.mono h1.size)
        have HB6 : Hid (∀ W, Below w6.heap.size w6 W → Below w3.heap.size w3 W) := fun W hW => (hb5.trans (hb6.mono hb5.size)).trans (hW.mono (Nat.le_trans hb5.size hb6.size))
        have HO6 : Hid (∀ W, Below w6.heap.size w6 W → W.ownsRow w3.heap.size 9 1 vn2 (k + 1 + 1) ((nm.data.toList :: (L.take (k + 1)).map Prod.fst).map S)) := fun W hW => own_below (own_below HO5.out hb6) hW
        have hbd6 : Below w6.heap.size w6 w6.drew := (Below.refl _ _).drew
        clear r0 r1 r2 r3 hx6 hb6 HB5 HO5 hb5 hb
        go_wp2_with fail
        refine wp_region_quiet (C := fun W => Below w6.heap.size w6 W) (by kernel_rfl) (by kernel_rfl) hbd6 ?_
        refine wpQuiet_step (fun K hK => ?_)
        rw [if_pos (by rfl)]
        refine ⟨.string ⟨tt.toArray⟩, fun W hW => quiet_ok ?_, hK _ ?_⟩
        · have q1 := (HC6.out W hW).1
          have q2 := (HC6.out W hW).2
          go_simp
          all_goals (try omega)
        clear hK K
        simp only [Act.put, List.setIfInBounds_toArray, List.set_cons_succ, List.set_cons_zero]
        refine wpQuiet_step (fun K hK => ?_)
        rw [if_pos (by rfl)]
        refine ⟨.pointer (some ⟨wr.heap.size, 1, none⟩), fun W hW => quiet_ok ?_, hK _ ?_⟩
        · have q1 := (HC6.out W hW).1
          have q2 := (HC6.out W hW).2
          go_simp
          all_goals (try omega)
        clear hK K
        simp only [Act.put, List.setIfInBounds_toArray, List.set_cons_succ, List.set_cons_zero]
        refine wpQuiet_step (fun K hK => ?_)
        rw [if_pos (by rfl)]
        refine ⟨.int .i64 xt, fun W hW => quiet_ok ?_, hK _ ?_⟩
        · have q1 := (HC6.out W hW).1
          have q2 := (HC6.out W hW).2
          go_simp
          all_goals (try omega)
        clear hK K
        simp only [Act.put, List.setIfInBounds_toArray, List.set_cons_succ, List.set_cons_zero]
        refine wpQuiet_step (fun K hK => ?_)
        rw [if_pos (by rfl)]
        refine ⟨.string ⟨p1.toArray⟩, fun W hW => quiet_call (f := 74) (args := #[.int .i64 xt, .int .i64 1]) ?_ ?_, hK _ ?_⟩
        · go_simp
        · exact (HP1.out W).mono fun e w'' h => ⟨h.1, HTR6.out _ _ hW h.2⟩
        clear hK K
        simp only [Act.put, List.setIfInBounds_toArray, List.set_cons_succ, List.set_cons_zero]
        refine wpQuiet_step (fun K hK => ?_)
        rw [if_pos (by rfl)]
        refine ⟨.pointer (some ⟨wr.heap.size, 2, none⟩), fun W hW => quiet_ok ?_, hK _ ?_⟩
        · have q1 := (HC6.out W hW).1
          have q2 := (HC6.out W hW).2
          go_simp
          all_goals (try omega)
        clear hK K
        simp only [Act.put, List.setIfInBounds_toArray, List.set_cons_succ, List.set_cons_zero]
        refine wpQuiet_step (fun K hK => ?_)
        rw [if_pos (by rfl)]
        refine ⟨.int .i64 xl, fun W hW => quiet_ok ?_, hK _ ?_⟩
        · have q1 := (HC6.out W hW).1
          have q2 := (HC6.out W hW).2
          go_simp
          all_goals (try omega)
        clear hK K
        simp only [Act.put, List.setIfInBounds_toArray, List.set_cons_succ, List.set_cons_zero]
        refine wpQuiet_step (fun K hK => ?_)
        rw [if_pos (by rfl)]
        refine ⟨.string ⟨p3.toArray⟩, fun W hW => quiet_call (f := 74) (args := #[.int .i64 xl, .int .i64 3]) ?_ ?_, hK _ ?_⟩
        · go_simp
        · exact (HP3.out W).mono fun e w'' h => ⟨h.1, HTR6.out _ _ hW h.2⟩
        clear hK K
        simp only [Act.put, List.setIfInBounds_toArray, List.set_cons_succ, List.set_cons_zero]
        refine wpQuiet_step (fun K hK => ?_)
        rw [if_pos (by rfl)]
        refine ⟨.string (⟨p1.toArray⟩ ++ ⟨p3.toArray⟩), fun W hW => quiet_ok ?_, hK _ ?_⟩
        · have q1 := (HC6.out W hW).1
          have q2 := (HC6.out W hW).2
          go_simp
          all_goals (try omega)
        clear hK K
        simp only [Act.put, List.setIfInBounds_toArray, List.set_cons_succ, List.set_cons_zero]
        refine wpQuiet_step (fun K hK => ?_)
        rw [if_pos (by rfl)]
        refine ⟨.string ⟨dd.toArray⟩, fun W hW => quiet_ok ?_, hK _ ?_⟩
        · have q1 := (HC6.out W hW).1
          have q2 := (HC6.out W hW).2
          go_simp
          all_goals (try omega)
        clear hK K
        simp only [Act.put, List.setIfInBounds_toArray, List.set_cons_succ, List.set_cons_zero]
        refine wpQuiet_step (fun K hK => ?_)
        rw [if_pos (by rfl)]
        refine ⟨.int .i64 (dd.length : Int), fun W hW => quiet_ok ?_, hK _ ?_⟩
        · have q1 := (HC6.out W hW).1
          have q2 := (HC6.out W hW).2
          go_simp
          all_goals (try omega)
        clear hK K
        simp only [Act.put, List.setIfInBounds_toArray, List.set_cons_succ, List.set_cons_zero]
        refine wpQuiet_step (fun K hK => ?_)
        rw [if_pos (by rfl)]
        refine ⟨.string ⟨pl.toArray⟩, fun W hW => quiet_call (f := 74) (args := #[.int .i64 (dd.length : Int), .int .i64 1]) ?_ ?_, hK _ ?_⟩
        · go_simp
        · exact (HPL.out W).mono fun e w'' h => ⟨h.1, HTR6.out _ _ hW h.2⟩
        clear hK K
        simp only [Act.put, List.setIfInBounds_toArray, List.set_cons_succ, List.set_cons_zero]
        refine wpQuiet_step (fun K hK => ?_)
        rw [if_pos (by rfl)]
        refine ⟨.string (⟨p1.toArray⟩ ++ ⟨p3.toArray⟩ ++ ⟨pl.toArray⟩), fun W hW => quiet_ok ?_, hK _ ?_⟩
        · have q1 := (HC6.out W hW).1
          have q2 := (HC6.out W hW).2
          go_simp
          all_goals (try omega)
        clear hK K
        simp only [Act.put, List.setIfInBounds_toArray, List.set_cons_succ, List.set_cons_zero]
        refine wpQuiet_step (fun K hK => ?_)
        rw [if_pos (by rfl)]
        refine ⟨.string ⟨dd.toArray⟩, fun W hW => quiet_ok ?_, hK _ ?_⟩
        · have q1 := (HC6.out W hW).1
          have q2 := (HC6.out W hW).2
          go_simp
          all_goals (try omega)
        clear hK K
        simp only [Act.put, List.setIfInBounds_toArray, List.set_cons_succ, List.set_cons_zero]
        refine wpQuiet_step (fun K hK => ?_)
        rw [if_pos (by rfl)]
        refine ⟨.string (⟨p1.toArray⟩ ++ ⟨p3.toArray⟩ ++ ⟨pl.toArray⟩ ++ ⟨dd.toArray⟩), fun W hW => quiet_ok ?_, hK _ ?_⟩
        · have q1 := (HC6.out W hW).1
          have q2 := (HC6.out W hW).2
          go_simp
          all_goals (try omega)
        clear hK K
        simp only [Act.put, List.setIfInBounds_toArray, List.set_cons_succ, List.set_cons_zero]
        refine wpQuiet_step (fun K hK => ?_)
        rw [if_pos (by rfl)]
        refine ⟨.string (⟨tt.toArray⟩ ++ (⟨p1.toArray⟩ ++ ⟨p3.toArray⟩ ++ ⟨pl.toArray⟩ ++ ⟨dd.toArray⟩)), fun W hW => quiet_ok ?_, hK _ ?_⟩
        · have q1 := (HC6.out W hW).1
          have q2 := (HC6.out W hW).2
          go_simp
          all_goals (try omega)
        clear hK K
        simp only [Act.put, List.setIfInBounds_toArray, List.set_cons_succ, List.set_cons_zero]
        refine wpQuiet_step (fun K hK => ?_)
        rw [if_pos (by rfl)]
        refine ⟨.string (⟨tt.toArray⟩ ++ (⟨p1.toArray⟩ ++ ⟨p3.toArray⟩ ++ ⟨pl.toArray⟩ ++ ⟨dd.toArray⟩)), fun W hW => quiet_ok ?_, hK _ ?_⟩
        · have q1 := (HC6.out W hW).1
          have q2 := (HC6.out W hW).2
          go_simp
          all_goals (try omega)
        clear hK K
        simp only [Act.put, List.setIfInBounds_toArray, List.set_cons_succ, List.set_cons_zero]
        refine wpQuiet_nil ?_
        intro W hW
        go_wp2_with fail
        go_roundw
        case rel => exact ⟨k + 1, by omega, by go_num, val_strM (by rw [HST.out]; simp), HO6.out W hW, HB6.out W hW⟩
        case measure => simp [intOf]; omega
    · have hkk : L.take k = L := List.take_of_length_le (by omega)
      have hke : k = L.length := by omega
      have htl := HTL.out k hk
      have HROW : Hid (Row wr u5 (nm.data.toList :: L.map Prod.fst)) := by
        have h := HO.out
        rw [hkk, hke] at h
        exact row_own (by rw [List.length_cons, List.length_map]; exact h)
      obtain ⟨pk, hpk⟩ : ∃ pk, pk = packAll [] (nm.data.toList :: L.map Prod.fst) := ⟨_, rfl⟩
      have hpl : pk.length ≤ 1575 := by
        have h := packAll_len (nm.data.toList :: L.map Prod.fst) [] HNL.out
        rw [← hpk] at h
        simp only [List.length_nil, List.length_cons, List.length_map] at h
        omega
      obtain ⟨tt, htt⟩ : ∃ tt, tt = beB ty 1 ++ recsW (L.take k) := ⟨_, rfl⟩
      obtain ⟨i2, hi2⟩ : ∃ i2, i2 = beB mi 2 := ⟨_, rfl⟩
      have HI2 : Hid (∀ W, Calls Tryz.prog 74 #[.int .i64 mi, .int .i64 2] W fun e w' => e = .returned (.string ⟨i2.toArray⟩) ∧ Below W.heap.size W w') := by rw [hi2]; exact fun W => HN2.out mi W (by omega) (by omega)
      have hli2 : i2.length = 2 := by rw [hi2]; exact beB_length _ _
      obtain ⟨f1, hf1⟩ : ∃ f1, f1 = beB 0 1 := ⟨_, rfl⟩
      have HF1 : Hid (∀ W, Calls Tryz.prog 74 #[.int .i64 0, .int .i64 1] W fun e w' => e = .returned (.string ⟨f1.toArray⟩) ∧ Below W.heap.size W w') := by rw [hf1]; exact fun W => HN1.out 0 W (by omega) (by omega)
      have hlf1 : f1.length = 1 := by rw [hf1]; exact beB_length _ _
      obtain ⟨k1, hk1⟩ : ∃ k1, k1 = beB code 1 := ⟨_, rfl⟩
      have HK1 : Hid (∀ W, Calls Tryz.prog 74 #[.int .i64 code, .int .i64 1] W fun e w' => e = .returned (.string ⟨k1.toArray⟩) ∧ Below W.heap.size W w') := by rw [hk1]; exact fun W => HN1.out code W (by omega) (by omega)
      have hlk1 : k1.length = 1 := by rw [hk1]; exact beB_length _ _
      obtain ⟨a1, ha1⟩ : ∃ a1, a1 = beB (A.length : Int) 1 := ⟨_, rfl⟩
      have HA1 : Hid (∀ W, Calls Tryz.prog 74 #[.int .i64 (A.length : Int), .int .i64 1] W fun e w' => e = .returned (.string ⟨a1.toArray⟩) ∧ Below W.heap.size W w') := by rw [ha1]; exact fun W => HN1.out (A.length : Int) W (by omega) (by omega)
      have hla1 : a1.length = 1 := by rw [ha1]; exact beB_length _ _
      obtain ⟨u1, hu1⟩ : ∃ u1, u1 = beB (U.length : Int) 1 := ⟨_, rfl⟩
      have HU1 : Hid (∀ W, Calls Tryz.prog 74 #[.int .i64 (U.length : Int), .int .i64 1] W fun e w' => e = .returned (.string ⟨u1.toArray⟩) ∧ Below W.heap.size W w') := by rw [hu1]; exact fun W => HN1.out (U.length : Int) W (by omega) (by omega)
      have hlu1 : u1.length = 1 := by rw [hu1]; exact beB_length _ _
      obtain ⟨n2, hn2⟩ : ∃ n2, n2 = beB (pk.length : Int) 2 := ⟨_, rfl⟩
      have HN2b : Hid (∀ W, Calls Tryz.prog 74 #[.int .i64 (pk.length : Int), .int .i64 2] W fun e w' => e = .returned (.string ⟨n2.toArray⟩) ∧ Below W.heap.size W w') := by rw [hn2]; exact fun W => HN2.out (pk.length : Int) W (by omega) (by omega)
      have hln2 : n2.length = 2 := by rw [hn2]; exact beB_length _ _
      have HRES : Hid (msgW mi false false code nm.data.toList ty A U = i2 ++ f1 ++ k1 ++ a1 ++ u1 ++ n2 ++ pk ++ tt) := by
        have e1 : namW nm.data.toList (A ++ U) = pk := by rw [hpk, HL.out]; rfl
        have e2 : beB ty 1 ++ recsW (A ++ U) = tt := by rw [htt, hkk, HL.out]
        have e3 : flagI false false = 0 := by decide
        unfold msgW
        rw [e1, e2, e3, hi2, hf1, hk1, ha1, hu1, hn2]
        exact rfl
      rw [← htt] at htl ⊢
      clear hkk hke htt hi2 hf1 hk1 ha1 hu1 hn2 HO
      go_wp2_with fail
      refine (l4Names_any _ _ _ HROW.out HNL (by rw [List.length_cons, List.length_map]; omega)).mono ?_
      rintro e w7 ⟨rfl, hb7⟩
      rw [← hpk]
      have hb07 : Below W0.heap.size W0 w7 := (hb3.trans (hb.mono hb3.size)).trans (hb7.mono (Nat.le_trans hb3.size hb.size))
      have HC7 : Hid (∀ W, Below w7.heap.size w7 W → W.cell? ⟨w.heap.size, 0, none⟩ = some (.int .i64 mi) ∧ W.cell? ⟨w.heap.size, 3, none⟩ = some (.int .i64 code) ∧ W.cell? ⟨w.heap.size, 6, none⟩ = some (.slice aa A.length ca) ∧ W.cell? ⟨w.heap.size, 7, none⟩ = some (.slice au U.length cu)) := fun W hW => by
        have c := (HBX.out W (hb07.trans (hW.mono hb07.size))).1
        unfold MsgAt at c
        exact ⟨c.1, c.2.2.2.1, c.2.2.2.2.2.2.1, c.2.2.2.2.2.2.2⟩
      have HB7 : Hid (∀ W, Below w7.heap.size w7 W → Below w.heap.size w W) := fun W hW => (HBX.out W (hb07.trans (hW.mono hb07.size))).2
      have HTR7 : Hid (∀ W W', Below w7.heap.size w7 W → Below W.heap.size W W' → Below w7.heap.size w7 W') := fun W W' h1 h2 => h1.trans (h2.mono h1.size)
      have hbd7 : Below w7.heap.size w7 w7.drew := (Below.refl _ _).drew
      unfold maxLen at hca hcu
      clear hpk hb7 hb07 hb
      go_wp2_with fail
      refine wp_region_quiet (C := fun W => Below w7.heap.size w7 W) (by kernel_rfl) (by kernel_rfl) hbd7 ?_
      refine wpQuiet_step (fun K hK => ?_)
      rw [if_pos (by rfl)]
      refine ⟨.pointer (some ⟨w.heap.size, 0, none⟩), fun W hW => quiet_ok ?_, hK _ ?_⟩
      · have q0 := (HC7.out W hW).1
        have q3 := (HC7.out W hW).2.1
        have q6 := (HC7.out W hW).2.2.1
        have q7 := (HC7.out W hW).2.2.2
        go_simp
        all_goals (try omega)
      clear hK K
      simp only [Act.put, List.setIfInBounds_toArray, List.set_cons_succ, List.set_cons_zero]
      refine wpQuiet_step (fun K hK => ?_)
      rw [if_pos (by rfl)]
      refine ⟨.int .i64 mi, fun W hW => quiet_ok ?_, hK _ ?_⟩
      · have q0 := (HC7.out W hW).1
        have q3 := (HC7.out W hW).2.1
        have q6 := (HC7.out W hW).2.2.1
        have q7 := (HC7.out W hW).2.2.2
        go_simp
        all_goals (try omega)
      clear hK K
      simp only [Act.put, List.setIfInBounds_toArray, List.set_cons_succ, List.set_cons_zero]
      refine wpQuiet_step (fun K hK => ?_)
      rw [if_pos (by rfl)]
      refine ⟨.string ⟨i2.toArray⟩, fun W hW => quiet_call (f := 74) (args := #[.int .i64 mi, .int .i64 2]) ?_ ?_, hK _ ?_⟩
      · go_simp
      · exact (HI2.out W).mono fun e w'' h => ⟨h.1, HTR7.out _ _ hW h.2⟩
      clear hK K
      simp only [Act.put, List.setIfInBounds_toArray, List.set_cons_succ, List.set_cons_zero]
      refine wpQuiet_step (fun K hK => ?_)
      rw [if_pos (by rfl)]
      refine ⟨.int .i64 0, fun W hW => quiet_ok ?_, hK _ ?_⟩
      · have q0 := (HC7.out W hW).1
        have q3 := (HC7.out W hW).2.1
        have q6 := (HC7.out W hW).2.2.1
        have q7 := (HC7.out W hW).2.2.2
        go_simp
        all_goals (try omega)
      clear hK K
      simp only [Act.put, List.setIfInBounds_toArray, List.set_cons_succ, List.set_cons_zero]
      refine wpQuiet_step (fun K hK => ?_)
      rw [if_pos (by rfl)]
      refine ⟨.string ⟨f1.toArray⟩, fun W hW => quiet_call (f := 74) (args := #[.int .i64 0, .int .i64 1]) ?_ ?_, hK _ ?_⟩
      · go_simp
      · exact (HF1.out W).mono fun e w'' h => ⟨h.1, HTR7.out _ _ hW h.2⟩
      clear hK K
      simp only [Act.put, List.setIfInBounds_toArray, List.set_cons_succ, List.set_cons_zero]
      refine wpQuiet_step (fun K hK => ?_)
      rw [if_pos (by rfl)]
      refine ⟨.string (⟨i2.toArray⟩ ++ ⟨f1.toArray⟩), fun W hW => quiet_ok ?_, hK _ ?_⟩
      · have q0 := (HC7.out W hW).1
        have q3 := (HC7.out W hW).2.1
        have q6 := (HC7.out W hW).2.2.1
        have q7 := (HC7.out W hW).2.2.2
        go_simp
        all_goals (try omega)
      clear hK K
      simp only [Act.put, List.setIfInBounds_toArray, List.set_cons_succ, List.set_cons_zero]
      refine wpQuiet_step (fun K hK => ?_)
      rw [if_pos (by rfl)]
      refine ⟨.pointer (some ⟨w.heap.size, 3, none⟩), fun W hW => quiet_ok ?_, hK _ ?_⟩
      · have q0 := (HC7.out W hW).1
        have q3 := (HC7.out W hW).2.1
        have q6 := (HC7.out W hW).2.2.1
        have q7 := (HC7.out W hW).2.2.2
        go_simp
        all_goals (try omega)
      clear hK K
      simp only [Act.put, List.setIfInBounds_toArray, List.set_cons_succ, List.set_cons_zero]
      refine wpQuiet_step (fun K hK => ?_)
      rw [if_pos (by rfl)]
      refine ⟨.int .i64 code, fun W hW => quiet_ok ?_, hK _ ?_⟩
      · have q0 := (HC7.out W hW).1
        have q3 := (HC7.out W hW).2.1
        have q6 := (HC7.out W hW).2.2.1
        have q7 := (HC7.out W hW).2.2.2
        go_simp
        all_goals (try omega)
      clear hK K
      simp only [Act.put, List.setIfInBounds_toArray, List.set_cons_succ, List.set_cons_zero]
      refine wpQuiet_step (fun K hK => ?_)
      rw [if_pos (by rfl)]
      refine ⟨.string ⟨k1.toArray⟩, fun W hW => quiet_call (f := 74) (args := #[.int .i64 code, .int .i64 1]) ?_ ?_, hK _ ?_⟩
      · go_simp
      · exact (HK1.out W).mono fun e w'' h => ⟨h.1, HTR7.out _ _ hW h.2⟩
      clear hK K
      simp only [Act.put, List.setIfInBounds_toArray, List.set_cons_succ, List.set_cons_zero]
      refine wpQuiet_step (fun K hK => ?_)
      rw [if_pos (by rfl)]
      refine ⟨.string (⟨i2.toArray⟩ ++ ⟨f1.toArray⟩ ++ ⟨k1.toArray⟩), fun W hW => quiet_ok ?_, hK _ ?_⟩
      · have q0 := (HC7.out W hW).1
        have q3 := (HC7.out W hW).2.1
        have q6 := (HC7.out W hW).2.2.1
        have q7 := (HC7.out W hW).2.2.2
        go_simp
        all_goals (try omega)
      clear hK K
      simp only [Act.put, List.setIfInBounds_toArray, List.set_cons_succ, List.set_cons_zero]
      refine wpQuiet_step (fun K hK => ?_)
      rw [if_pos (by rfl)]
      refine ⟨.pointer (some ⟨w.heap.size, 6, none⟩), fun W hW => quiet_ok ?_, hK _ ?_⟩
      · have q0 := (HC7.out W hW).1
        have q3 := (HC7.out W hW).2.1
        have q6 := (HC7.out W hW).2.2.1
        have q7 := (HC7.out W hW).2.2.2
        go_simp
        all_goals (try omega)
      clear hK K
      simp only [Act.put, List.setIfInBounds_toArray, List.set_cons_succ, List.set_cons_zero]
      refine wpQuiet_step (fun K hK => ?_)
      rw [if_pos (by rfl)]
      refine ⟨.slice aa A.length ca, fun W hW => quiet_ok ?_, hK _ ?_⟩
      · have q0 := (HC7.out W hW).1
        have q3 := (HC7.out W hW).2.1
        have q6 := (HC7.out W hW).2.2.1
        have q7 := (HC7.out W hW).2.2.2
        go_simp
        all_goals (try omega)
      clear hK K
      simp only [Act.put, List.setIfInBounds_toArray, List.set_cons_succ, List.set_cons_zero]
      refine wpQuiet_step (fun K hK => ?_)
      rw [if_pos (by rfl)]
      refine ⟨.int .i64 (A.length : Int), fun W hW => quiet_ok ?_, hK _ ?_⟩
      · have q0 := (HC7.out W hW).1
        have q3 := (HC7.out W hW).2.1
        have q6 := (HC7.out W hW).2.2.1
        have q7 := (HC7.out W hW).2.2.2
        go_simp
        all_goals (try omega)
      clear hK K
      simp only [Act.put, List.setIfInBounds_toArray, List.set_cons_succ, List.set_cons_zero]
      refine wpQuiet_step (fun K hK => ?_)
      rw [if_pos (by rfl)]
      refine ⟨.string ⟨a1.toArray⟩, fun W hW => quiet_call (f := 74) (args := #[.int .i64 (A.length : Int), .int .i64 1]) ?_ ?_, hK _ ?_⟩
      · go_simp
      · exact (HA1.out W).mono fun e w'' h => ⟨h.1, HTR7.out _ _ hW h.2⟩
      clear hK K
      simp only [Act.put, List.setIfInBounds_toArray, List.set_cons_succ, List.set_cons_zero]
      refine wpQuiet_step (fun K hK => ?_)
      rw [if_pos (by rfl)]
      refine ⟨.string (⟨i2.toArray⟩ ++ ⟨f1.toArray⟩ ++ ⟨k1.toArray⟩ ++ ⟨a1.toArray⟩), fun W hW => quiet_ok ?_, hK _ ?_⟩
      · have q0 := (HC7.out W hW).1
        have q3 := (HC7.out W hW).2.1
        have q6 := (HC7.out W hW).2.2.1
        have q7 := (HC7.out W hW).2.2.2
        go_simp
        all_goals (try omega)
      clear hK K
      simp only [Act.put, List.setIfInBounds_toArray, List.set_cons_succ, List.set_cons_zero]
      refine wpQuiet_step (fun K hK => ?_)
      rw [if_pos (by rfl)]
      refine ⟨.pointer (some ⟨w.heap.size, 7, none⟩), fun W hW => quiet_ok ?_, hK _ ?_⟩
      · have q0 := (HC7.out W hW).1
        have q3 := (HC7.out W hW).2.1
        have q6 := (HC7.out W hW).2.2.1
        have q7 := (HC7.out W hW).2.2.2
        go_simp
        all_goals (try omega)
      clear hK K
      simp only [Act.put, List.setIfInBounds_toArray, List.set_cons_succ, List.set_cons_zero]
      refine wpQuiet_step (fun K hK => ?_)
      rw [if_pos (by rfl)]
      refine ⟨.slice au U.length cu, fun W hW => quiet_ok ?_, hK _ ?_⟩
      · have q0 := (HC7.out W hW).1
        have q3 := (HC7.out W hW).2.1
        have q6 := (HC7.out W hW).2.2.1
        have q7 := (HC7.out W hW).2.2.2
        go_simp
        all_goals (try omega)
      clear hK K
      simp only [Act.put, List.setIfInBounds_toArray, List.set_cons_succ, List.set_cons_zero]
      refine wpQuiet_step (fun K hK => ?_)
      rw [if_pos (by rfl)]
      refine ⟨.int .i64 (U.length : Int), fun W hW => quiet_ok ?_, hK _ ?_⟩
      · have q0 := (HC7.out W hW).1
        have q3 := (HC7.out W hW).2.1
        have q6 := (HC7.out W hW).2.2.1
        have q7 := (HC7.out W hW).2.2.2
        go_simp
        all_goals (try omega)
      clear hK K
      simp only [Act.put, List.setIfInBounds_toArray, List.set_cons_succ, List.set_cons_zero]
      refine wpQuiet_step (fun K hK => ?_)
      rw [if_pos (by rfl)]
      refine ⟨.string ⟨u1.toArray⟩, fun W hW => quiet_call (f := 74) (args := #[.int .i64 (U.length : Int), .int .i64 1]) ?_ ?_, hK _ ?_⟩
      · go_simp
      · exact (HU1.out W).mono fun e w'' h => ⟨h.1, HTR7.out _ _ hW h.2⟩
      clear hK K
      simp only [Act.put, List.setIfInBounds_toArray, List.set_cons_succ, List.set_cons_zero]
      refine wpQuiet_step (fun K hK => ?_)
      rw [if_pos (by rfl)]
      refine ⟨.string (⟨i2.toArray⟩ ++ ⟨f1.toArray⟩ ++ ⟨k1.toArray⟩ ++ ⟨a1.toArray⟩ ++ ⟨u1.toArray⟩), fun W hW => quiet_ok ?_, hK _ ?_⟩
      · have q0 := (HC7.out W hW).1
        have q3 := (HC7.out W hW).2.1
        have q6 := (HC7.out W hW).2.2.1
        have q7 := (HC7.out W hW).2.2.2
        go_simp
        all_goals (try omega)
      clear hK K
      simp only [Act.put, List.setIfInBounds_toArray, List.set_cons_succ, List.set_cons_zero]
      refine wpQuiet_step (fun K hK => ?_)
      rw [if_pos (by rfl)]
      refine ⟨.string ⟨pk.toArray⟩, fun W hW => quiet_ok ?_, hK _ ?_⟩
      · have q0 := (HC7.out W hW).1
        have q3 := (HC7.out W hW).2.1
        have q6 := (HC7.out W hW).2.2.1
        have q7 := (HC7.out W hW).2.2.2
        go_simp
        all_goals (try omega)
      clear hK K
      simp only [Act.put, List.setIfInBounds_toArray, List.set_cons_succ, List.set_cons_zero]
      refine wpQuiet_step (fun K hK => ?_)
      rw [if_pos (by rfl)]
      refine ⟨.int .i64 (pk.length : Int), fun W hW => quiet_ok ?_, hK _ ?_⟩
      · have q0 := (HC7.out W hW).1
        have q3 := (HC7.out W hW).2.1
        have q6 := (HC7.out W hW).2.2.1
        have q7 := (HC7.out W hW).2.2.2
        go_simp
        all_goals (try omega)
      clear hK K
      simp only [Act.put, List.setIfInBounds_toArray, List.set_cons_succ, List.set_cons_zero]
      refine wpQuiet_step (fun K hK => ?_)
      rw [if_pos (by rfl)]
      refine ⟨.string ⟨n2.toArray⟩, fun W hW => quiet_call (f := 74) (args := #[.int .i64 (pk.length : Int), .int .i64 2]) ?_ ?_, hK _ ?_⟩
      · go_simp
      · exact (HN2b.out W).mono fun e w'' h => ⟨h.1, HTR7.out _ _ hW h.2⟩
      clear hK K
      simp only [Act.put, List.setIfInBounds_toArray, List.set_cons_succ, List.set_cons_zero]
      refine wpQuiet_step (fun K hK => ?_)
      rw [if_pos (by rfl)]
      refine ⟨.string (⟨i2.toArray⟩ ++ ⟨f1.toArray⟩ ++ ⟨k1.toArray⟩ ++ ⟨a1.toArray⟩ ++ ⟨u1.toArray⟩ ++ ⟨n2.toArray⟩), fun W hW => quiet_ok ?_, hK _ ?_⟩
      · have q0 := (HC7.out W hW).1
        have q3 := (HC7.out W hW).2.1
        have q6 := (HC7.out W hW).2.2.1
        have q7 := (HC7.out W hW).2.2.2
        go_simp
        all_goals (try omega)
      clear hK K
      simp only [Act.put, List.setIfInBounds_toArray, List.set_cons_succ, List.set_cons_zero]
      refine wpQuiet_step (fun K hK => ?_)
      rw [if_pos (by rfl)]
      refine ⟨.string ⟨pk.toArray⟩, fun W hW => quiet_ok ?_, hK _ ?_⟩
      · have q0 := (HC7.out W hW).1
        have q3 := (HC7.out W hW).2.1
        have q6 := (HC7.out W hW).2.2.1
        have q7 := (HC7.out W hW).2.2.2
        go_simp
        all_goals (try omega)
      clear hK K
      simp only [Act.put, List.setIfInBounds_toArray, List.set_cons_succ, List.set_cons_zero]
      refine wpQuiet_step (fun K hK => ?_)
      rw [if_pos (by rfl)]
      refine ⟨.string (⟨i2.toArray⟩ ++ ⟨f1.toArray⟩ ++ ⟨k1.toArray⟩ ++ ⟨a1.toArray⟩ ++ ⟨u1.toArray⟩ ++ ⟨n2.toArray⟩ ++ ⟨pk.toArray⟩), fun W hW => quiet_ok ?_, hK _ ?_⟩
      · have q0 := (HC7.out W hW).1
        have q3 := (HC7.out W hW).2.1
        have q6 := (HC7.out W hW).2.2.1
        have q7 := (HC7.out W hW).2.2.2
        go_simp
        all_goals (try omega)
      clear hK K
      simp only [Act.put, List.setIfInBounds_toArray, List.set_cons_succ, List.set_cons_zero]
      refine wpQuiet_step (fun K hK => ?_)
      rw [if_pos (by rfl)]
      refine ⟨.string ⟨tt.toArray⟩, fun W hW => quiet_ok ?_, hK _ ?_⟩
      · have q0 := (HC7.out W hW).1
        have q3 := (HC7.out W hW).2.1
        have q6 := (HC7.out W hW).2.2.1
        have q7 := (HC7.out W hW).2.2.2
        go_simp
        all_goals (try omega)
      clear hK K
      simp only [Act.put, List.setIfInBounds_toArray, List.set_cons_succ, List.set_cons_zero]
      refine wpQuiet_step (fun K hK => ?_)
      rw [if_pos (by rfl)]
      refine ⟨.string (⟨i2.toArray⟩ ++ ⟨f1.toArray⟩ ++ ⟨k1.toArray⟩ ++ ⟨a1.toArray⟩ ++ ⟨u1.toArray⟩ ++ ⟨n2.toArray⟩ ++ ⟨pk.toArray⟩ ++ ⟨tt.toArray⟩), fun W hW => quiet_ok ?_, hK _ ?_⟩
      · have q0 := (HC7.out W hW).1
        have q3 := (HC7.out W hW).2.1
        have q6 := (HC7.out W hW).2.2.1
        have q7 := (HC7.out W hW).2.2.2
        go_simp
        all_goals (try omega)
      clear hK K
      simp only [Act.put, List.setIfInBounds_toArray, List.set_cons_succ, List.set_cons_zero]
      refine wpQuiet_step (fun K hK => ?_)
      rw [if_pos (by rfl)]
      refine ⟨.string (⟨i2.toArray⟩ ++ ⟨f1.toArray⟩ ++ ⟨k1.toArray⟩ ++ ⟨a1.toArray⟩ ++ ⟨u1.toArray⟩ ++ ⟨n2.toArray⟩ ++ ⟨pk.toArray⟩ ++ ⟨tt.toArray⟩), fun W hW => quiet_ok ?_, hK _ ?_⟩
      · have q0 := (HC7.out W hW).1
        have q3 := (HC7.out W hW).2.1
        have q6 := (HC7.out W hW).2.2.1
        have q7 := (HC7.out W hW).2.2.2
        go_simp
        all_goals (try omega)
      clear hK K
      simp only [Act.put, List.setIfInBounds_toArray, List.set_cons_succ, List.set_cons_zero]
      refine wpQuiet_nil ?_
      intro W hW
      go_wp2_with fail
      go_ret
      exact ⟨ret_strP (by rw [HRES.out]; simp), HB7.out W hW⟩
end Go.Proofs.YtpghpeombednkaaGreatDoor

namespace Go.Proofs.YtpghpeombednkaaGreatDoor
open Go.RowKit

theorem l4Bytes_any (mi : Int) (reply cutm : Bool) (code : Int) (nm : ByteArray) (ty : Int) (va vu : Value) (A U : List (List UInt8 × Int × Int × List UInt8)) (w : World) (hG : GoodM mi reply cutm code nm.data.toList ty A U) (ha : RRow w va A) (hu : RRow w vu U)
    (HXD : Hid (∀ x ∈ A ++ U, x.2.2.2.length ≤ 1048576)) (hna : ∀ n c, va = .slice none n c → c = 0) (hnu : ∀ n c, vu = .slice none n c → c = 0) :
    Calls Tryz.prog 32 #[MsgV mi reply cutm code nm ty va vu] w fun e w' => e = .returned (.string ⟨(msgW mi reply cutm code nm.data.toList ty A U).toArray⟩) ∧ Below w.heap.size w w' := by
  cases reply with
  | true => cases cutm with
    | true => exact l4Bytes_tt mi code nm ty va vu A U w hG ha hu HXD hna hnu
    | false => exact l4Bytes_tf mi code nm ty va vu A U w hG ha hu HXD hna hnu
  | false => cases cutm with
    | true => exact absurd (hG.plain rfl) (by simp)
    | false => exact l4Bytes_ff mi code nm ty va vu A U w hG ha hu HXD hna hnu

/-- What MessageBytes tells. -/
def msgX (mi : Int) (reply cutm : Bool) (code : Int) (nm : List UInt8) (ty : Int) (A U : List (List UInt8 × Int × Int × List UInt8)) : List UInt8 := if msgB mi reply cutm code nm ty A U = true then msgW mi reply cutm code nm ty A U else []
def mbVal (mi : Int) (reply cutm : Bool) (code : Int) (nm : List UInt8) (ty : Int) (A U : List (List UInt8 × Int × Int × List UInt8)) : Value := .tuple #[.string ⟨(msgX mi reply cutm code nm ty A U).toArray⟩, .bool (msgB mi reply cutm code nm ty A U)]

end Go.Proofs.YtpghpeombednkaaGreatDoor
