import Derived.Test.YtdjhpoogbgknkabDoorSortI
namespace Go.Proofs.YtdjhpoogbgknkabDoor.sortNames
open Go.RowKit

theorem own_block {w : World} {base : Nat} {v : Value} {L : List (List UInt8)} (h : OwnS w base v L) : ∀ k, v.ownBlock = some k → base ≤ k := by
  rcases h with ⟨rfl, _⟩ | ⟨g, cap, rfl, _, _, hb, _⟩
  · intro k hk; cases hk
  · intro k hk; cases hk; exact hb
theorem own_grown {w w' : World} {base g0 : Nat} {v : Value} {L : List (List UInt8)} (h : OwnS w base v L) (hg : w.grownBy w' (some g0)) (hlt : g0 < base) : OwnS w' base v L := by
  rcases h with h | ⟨g, cap, rfl, h1, h2, h3, hs⟩
  · exact .inl h
  · have hb : w'.heap[g]? = w.heap[g]? := hg.block g hs.1 (fun e => by cases e; omega)
    refine .inr ⟨g, cap, rfl, h1, h2, h3, Nat.lt_of_lt_of_le hs.1 hg.size, fun j hj => ?_⟩
    rw [World.cell?_of_block (a := ⟨g, j, none⟩) hb, World.frozen?_of_block (a := ⟨g, j, none⟩) hb]
    exact hs.2 j hj
theorem sortT_length (P : List (List UInt8)) : (sortT P).length ≤ P.length := by
  unfold sortT
  split
  · exact sortN_length P
  · simp

set_option maxRecDepth 20000 in
set_option maxHeartbeats 1000000 in
theorem walk (v : Value) (P : List (List UInt8)) (w : World) (hr : Row w v P) (hp : Hid (∀ x ∈ P, x.length ≤ maxLen)) (hE : Env w) :
    Calls Tryd.prog 3 #[v] w fun e w' => e = .returned (.bool true) ∧ Below w.heap.size w w' := by
  go_enter Tryd.func3, Tryd.ntmps3
  go_wp2_with fail
  refine (szStringS_any v P w hr hp).mono ?_
  rintro e w0 ⟨r, rfl, hsz, rfl⟩
  by_cases hneg : r < 0
  · clear hsz
    go_wp2_with fail
    go_ret
    exact ⟨rfl, Below.refl _ _⟩
  · have HSZ : Hid (P.length + tot P ≤ 1048576) := hsz (by omega)
    have hl : P.length ≤ 1048576 := by have := HSZ.out; omega
    have hpm : P.length ≤ maxLen := by unfold maxLen; omega
    have HPM : Hid (P.length ≤ maxLen) := hpm
    have hE0 : Hid (Env w0) := hE
    have HR : Hid (Row w0 v P) := hr
    clear hsz hpm hE
    go_wp2_with fail
    refine (toStringS_any v P w0 hr hl).mono ?_
    rintro e w1 ⟨rfl, hs1, hb1⟩
    have hr1 := hs1.row (Nat.le_refl _) HPM.out
    clear hs1 hr
    go_wp2_with fail
    refine (sSortNames_any _ P w1 hr1 HSZ).mono ?_
    rintro e w2 ⟨vs, rfl, hrs2, hb2⟩
    have hb02 := hb1.trans (hb2.mono hb1.size)
    have hr2 := HR.out.kept hb02
    obtain ⟨b, hbb⟩ : ∃ b : Bool, b = sortB P := ⟨_, rfl⟩
    obtain ⟨L, hL⟩ : ∃ L, L = sortT P := ⟨_, rfl⟩
    have hLl : L.length ≤ 1048576 := by have := sortT_length P; rw [hL]; omega
    rw [← hbb]
    rw [← hL] at hrs2
    have HBL : Hid (b = sortB P ∧ L = sortT P) := ⟨hbb, hL⟩
    have HS2 : Hid (Row w2 vs L) := hrs2
    clear hbb hL hrs2 hr1 hb1 hb2
    go_wp2_with fail
    refine (toStringS_any v P w2 hr2 hl).mono ?_
    rintro e w3 ⟨rfl, hs3, hb23⟩
    have hb03 := hb02.trans (hb23.mono hb02.size)
    have hr3 := hs3.row (Nat.le_refl _) HPM.out
    have HS3 : Hid (SRow w3 w2.heap.size P) := hs3
    have h23 := hs3.1
    clear hs3 hr2
    go_wp2_with fail
    refine (iSortNames_any _ P w3 hr3 HSZ (hE0.out.below hb03)).mono ?_
    rintro e w4 ⟨vi, rfl, hoi4, hb34⟩
    rw [← HBL.out.1]
    rw [← HBL.out.2] at hoi4
    have HBI : Hid (∀ k, vi.ownBlock = some k → w3.heap.size ≤ k) := own_block hoi4
    have hri4 := hoi4.row
    have hb24 := hb23.trans (hb34.mono hb23.size)
    have hrs4 := HS2.out.kept hb24
    have HOI4 : Hid (OwnS w4 w3.heap.size vi L) := hoi4
    clear hoi4 hr3 hb23
    go_wp2_with fail
    refine (eqStringS_any vi vs L L w4 hri4 hrs4).mono ?_
    rintro e w5 ⟨rfl, hb45⟩
    rw [show (L == L) = true by simp]
    have e2 : (b != b) = false := by simp
    have hb35 := hb34.trans (hb45.mono hb34.size)
    have hb25 := hb24.trans (hb45.mono hb24.size)
    have hb05 := hb03.trans (hb35.mono hb03.size)
    have HOI5 : Hid (OwnS w5 w3.heap.size vi L) := HOI4.out.kept hb45
    have hr5 := HR.out.kept hb05
    clear hri4 hrs4 hb34 hb24 hb45 HOI4
    go_wp2_with fail
    refine (toStringS_any v P w5 hr5 hl).mono ?_
    rintro e w6 ⟨rfl, hs6, hb56⟩
    have hr6 := hs6.row (Nat.le_refl _) HPM.out
    have hb36 := hb35.trans (hb56.mono hb35.size)
    have hb26 := hb25.trans (hb56.mono hb25.size)
    have HOI6 : Hid (OwnS w6 w3.heap.size vi L) := HOI5.out.kept hb56
    have hrt6 := (HS3.out.kept hb36).row (Nat.le_refl _) HPM.out
    clear hs6 hr5 hb56 HOI5 hb35 hb25 hb05
    go_wp2_with fail
    refine (eqStringS_any _ _ P P w6 hrt6 hr6).mono ?_
    rintro e w7 ⟨rfl, hb67⟩
    rw [show (P == P) = true by simp]
    have hb37 := hb36.trans (hb67.mono hb36.size)
    have hb27 := hb26.trans (hb67.mono hb26.size)
    have HOI7 : Hid (OwnS w7 w3.heap.size vi L) := HOI6.out.kept hb67
    have hot7 : OwnS w7 w2.heap.size (.slice (some ⟨w2.heap.size, 0, none⟩) P.length P.length) P := .inr ⟨w2.heap.size, P.length, rfl, Nat.le_refl _, HPM.out, Nat.le_refl _, HS3.out.kept hb37⟩
    clear hr6 hrt6 hb67 HOI6 hb36 hb26
    go_wp2_with fail
    refine (markStringS_any _ P w2.heap.size w7 hot7 hl).mono ?_
    rintro e w8 ⟨rfl, _, hgr8⟩
    have hgr8' : w7.grownBy w8 (some w2.heap.size) := hgr8
    have hoi8 := own_grown HOI7.out hgr8' h23
    have HOI8 : Hid (OwnS w8 w3.heap.size vi L) := hoi8
    have hb28 : Below w2.heap.size w2 w8 := hb27.grown hgr8' hb27.size (fun k h => by cases h; exact Nat.le_refl _)
    have hri8 := hoi8.row
    have hrs8 := HS2.out.kept hb28
    have hn0 : decide (((P.length : Int) + 1) < 0) = false := by simp; omega
    clear hot7 hgr8 hgr8' HOI7 hoi8 hb27 hb37
    go_wp2_with fail
    refine (eqStringS_any vi vs L L w8 hri8 hrs8).mono ?_
    rintro e w9 ⟨rfl, hb89⟩
    rw [show (L == L) = true by simp]
    have hb29 := hb28.trans (hb89.mono hb28.size)
    have hoi9 := HOI8.out.kept hb89
    clear hri8 hrs8 hb89 HOI8 hb28
    go_wp2_with fail
    refine (markStringS_any vi L _ w9 hoi9 hLl).mono ?_
    rintro e w10 ⟨rfl, hoi10, hgr10⟩
    have hb210 : Below w2.heap.size w2 w10 := hb29.grown hgr10 hb29.size (fun k h => by have := HBI.out k h; omega)
    have hri10 := hoi10.row
    clear hoi9 hoi10 hgr10 hb29
    go_wp2_with fail
    refine (heldStringS_any vi L.length w10 hri10 hLl).mono ?_
    rintro e w11 ⟨rfl, hb11⟩
    have hb211 := hb210.trans (hb11.mono hb210.size)
    have hb011 := hb02.trans (hb211.mono hb02.size)
    have hri11 := hri10.kept hb11
    have hr11 := HR.out.kept hb011
    have hn1 : decide (((L.length : Int) + 1) < 0) = false := by simp; omega
    have hnn : (((L.length : Int) + 1) != ((L.length : Int) + 1)) = false := by simp
    clear hri10 hb11 hb210
    go_wp2_with fail
    refine (toStringS_any v P w11 hr11 hl).mono ?_
    rintro e w12 ⟨rfl, hs12, hb12⟩
    have hr12 := hs12.row (Nat.le_refl _) HPM.out
    have hb212 := hb211.trans (hb12.mono hb211.size)
    have hb012 := hb011.trans (hb12.mono hb011.size)
    have hri12 := hri11.kept hb12
    clear hs12 hr11 hri11 hb12 hb211 hb011
    go_wp2_with fail
    refine (iSortNames_any _ P w12 hr12 HSZ (hE0.out.below hb012)).mono ?_
    rintro e w13 ⟨vh, rfl, hoh, hb13⟩
    rw [← HBL.out.1]
    rw [← HBL.out.2] at hoh
    have hrh13 := hoh.row
    have hb213 := hb212.trans (hb13.mono hb212.size)
    have hrs13 := HS2.out.kept hb213
    have hri13 := hri12.kept hb13
    clear hoh hri12 hr12 hb13 hb212 hb012
    go_wp2_with fail
    refine (eqStringS_any vh vs L L w13 hrh13 hrs13).mono ?_
    rintro e w14 ⟨rfl, hb14⟩
    rw [show (L == L) = true by simp]
    have hb214 := hb213.trans (hb14.mono hb213.size)
    have hri14 := hri13.kept hb14
    clear hrh13 hrs13 hri13 hb14 hb213
    go_wp2_with fail
    refine (heldStringS_any vi L.length w14 hri14 hLl).mono ?_
    rintro e w15 ⟨rfl, hb15⟩
    have hb215 := hb214.trans (hb15.mono hb214.size)
    have hb015 := hb02.trans (hb215.mono hb02.size)
    clear hri14 hb15 hb214
    go_wp2_with fail
    go_ret
    exact ⟨rfl, hb015⟩
end Go.Proofs.YtdjhpoogbgknkabDoor.sortNames
