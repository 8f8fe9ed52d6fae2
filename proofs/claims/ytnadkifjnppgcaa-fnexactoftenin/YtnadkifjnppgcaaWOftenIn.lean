import Derived.Test.YtnadkifjnppgcaaPkO
namespace Go.Proofs.Ytnadkifjnppgcaa
open Go.RowKit
theorem OwnZ.apart {w w' : World} {base gx : Nat} {v : Value} {O : List Int} (h : OwnZ w base v O) (hk : Kpt w w' (fun k => k = gx)) (hx : gx < base) : OwnZ w' base v O := by
  rcases h with h | ⟨g, hg, rfl, hs⟩
  · exact .inl h
  · have hblk : w'.heap[g]? = w.heap[g]? := hk.block g hs.1 (by omega)
    refine .inr ⟨g, hg, rfl, Nat.lt_of_lt_of_le hs.1 hk.size, fun j hj => ⟨hk.cell (hs.2 j hj).1 (show ¬ g = gx by omega), ?_⟩⟩
    have h2 := (hs.2 j hj).2
    unfold World.frozen? at h2 ⊢
    rw [hblk]; exact h2
end Go.Proofs.Ytnadkifjnppgcaa
namespace Go.Proofs.Ytnadkifjnppgcaa.oftenIn
open Go.RowKit

set_option maxRecDepth 20000 in
set_option maxHeartbeats 4000000 in
theorem walk (v : Value) (L : List (Int × Int)) (t : Int) (w : World) (hr : ColRow w v L) (_ : -9223372036854775808 ≤ t ∧ t ≤ 9223372036854775807) :
    Calls Try.prog 7 #[v, .int .i64 t] w fun e w' => e = .returned (.bool true) ∧ Below w.heap.size w w' := by
  have HR : Hid (∀ W, Below w.heap.size w W → ColRow W v L) := fun W hW => hr.kept hW
  obtain ⟨a, cap, rfl, hcap, hmax, _⟩ := col_value hr
  have HR0 : Hid (ColRow w (.slice a L.length cap) L) := hr
  clear hr
  by_cases hl : L.length ≤ 1048576
  · have HQ : Hid ((if L.length ≤ 1048576 then 1048576 - (L.length : Int) else -1) = 1048576 - (L.length : Int)) := if_pos hl
    have hq : ¬ (1048576 - (L.length : Int) < 0) := by omega
    have hml : L.length ≤ maxLen := by unfold maxLen; omega
    have HSP : Hid (∀ W u, ColRow W u L → Calls Try.prog 24 #[u, .int .i64 t] W fun e w' => (∃ x, e = .returned (.tuple #[x, .bool (fitA t L)]) ∧ OwnZ w' W.heap.size x (oftL L t)) ∧ Below W.heap.size W w') := fun W u h => (sOftenIn_any u t L W h).mono fun e w' h => ⟨ofo_own h.1, h.2⟩
    have HIP : Hid (∀ W u, ColRow W u L → Calls Try.prog 25 #[u, .int .i64 t] W fun e w' => (∃ x, e = .returned (.tuple #[x, .bool (fitA t L)]) ∧ OwnZ w' W.heap.size x (oftL L t)) ∧ Below W.heap.size W w') := fun W u h => (iOftenIn_any u t L W h).mono fun e w' h => ⟨ofo_own h.1, h.2⟩
    have hol := oftL_len L t
    obtain ⟨O, hO⟩ : ∃ O, O = oftL L t := ⟨_, rfl⟩
    obtain ⟨ok, hok⟩ : ∃ ok, ok = fitA t L := ⟨_, rfl⟩
    rw [← hO] at HSP HIP hol
    rw [← hok] at HSP HIP
    have hol2 : O.length ≤ 1048576 := by omega
    have e2 : (ok != ok) = false := by simp
    have eO : (O == O) = true := by simp
    obtain ⟨m, hm⟩ : ∃ m : Int, m = 1 + (O.length : Int) := ⟨_, rfl⟩
    have HM : Hid (1 + (O.length : Int) = m) := hm.symm
    have hm0 : ¬ m < 0 := by omega
    have em : (m != m) = false := by simp
    obtain ⟨n2, hn2⟩ : ∃ n2 : Int, n2 = 1 + 2 * (L.length : Int) := ⟨_, rfl⟩
    have HN2 : Hid (1 + 2 * (L.length : Int) = n2) := hn2.symm
    have hn0 : ¬ n2 < 0 := by omega
    clear hO hok hol hm hn2
    go_enter Try.func7, Try.ntmps7
    go_wp2_with fail
    refine (szColumnS_any _ L _ HR0.out).mono ?_
    rintro e w0 ⟨rfl, rfl⟩
    rw [HQ.out]
    go_wp2_with fail
    refine (toColumnS_any _ L _ HR0.out hl).mono ?_
    rintro e w1 ⟨rfl, hs1, hb1⟩
    have HS1 : Hid (ColRow w1 (.slice (some ⟨w0.heap.size, 0, none⟩) L.length L.length) L) := hs1.row (Nat.le_refl _) hml
    clear hs1
    go_wp2_with fail
    refine (HSP.out _ _ HS1.out).mono ?_
    rintro e w2 ⟨⟨vS, rfl, hoS⟩, hb2⟩
    have hb02 := hb1.trans (hb2.mono hb1.size)
    have HOS : Hid (OwnZ w2 w1.heap.size vS O) := hoS
    have HLS : Hid (∀ g, vS.ownBlock = some g → g < w2.heap.size) := hoS.lt
    clear hoS HS1 hb1 hb2
    go_wp2_with fail
    refine (toColumnS_any _ L _ (HR.out _ hb02) hl).mono ?_
    rintro e w3 ⟨rfl, hs3, hb3⟩
    have hb03 := hb02.trans (hb3.mono hb02.size)
    have HX3 : Hid (CoRow w3 w2.heap.size L) := hs3
    have hgx : w2.heap.size < w3.heap.size := hs3.1
    have HS3 : Hid (ColRow w3 (.slice (some ⟨w2.heap.size, 0, none⟩) L.length L.length) L) := hs3.row (Nat.le_refl _) hml
    clear hs3
    go_wp2_with fail
    refine (HIP.out _ _ HS3.out).mono ?_
    rintro e w4 ⟨⟨vG, rfl, hoG⟩, hb4⟩
    have hb04 := hb03.trans (hb4.mono hb03.size)
    have hb24 : Below w2.heap.size w2 w4 := hb3.trans (hb4.mono hb3.size)
    have HOG : Hid (OwnZ w4 w3.heap.size vG O) := hoG
    clear hoG
    go_wp2_with fail
    refine (eqIntS_any _ _ O O _ (HOG.out.row hol2) ((HOS.out.kept hb24).row hol2)).mono ?_
    rintro e w5 ⟨rfl, hb5⟩
    have hb05 := hb04.trans (hb5.mono hb04.size)
    rw [eO]
    go_wp2_with fail
    refine (toColumnS_any _ L _ (HR.out _ hb05) hl).mono ?_
    rintro e w6 ⟨rfl, hs6, hb6⟩
    have hb06 := hb05.trans (hb6.mono hb05.size)
    have HS6 : Hid (ColRow w6 (.slice (some ⟨w5.heap.size, 0, none⟩) L.length L.length) L) := hs6.row (Nat.le_refl _) hml
    clear hs6
    go_wp2_with fail
    refine (eqColumnS_same _ _ L _ (((HS3.out.kept hb4).kept hb5).kept hb6) HS6.out).mono ?_
    rintro e w7 ⟨rfl, hb7⟩
    have hb07 := hb06.trans (hb7.mono hb06.size)
    have hb47 : Below w4.heap.size w4 w7 := (hb5.trans (hb6.mono hb5.size)).trans (hb7.mono (hb5.trans (hb6.mono hb5.size)).size)
    have hb27 : Below w2.heap.size w2 w7 := hb24.trans (hb47.mono hb24.size)
    have HX7 : Hid (AnyC w7 w2.heap.size L.length) := ⟨L, rfl, (HX3.out.kept hb4).kept hb47⟩
    clear hb5 hb6 hb7 HS6 HS3 HX3
    go_wp2_with fail
    refine (markCol_any _ _ _ HX7.out hl).mono ?_
    rintro e w8 ⟨rfl, hgr⟩
    rw [HN2.out]
    have hk8 : Kpt w7 w8 (fun k => k = w2.heap.size) := (grown_kpt hgr).mono (fun k _ h => (Option.some.inj h).symm)
    have hb78 : Below w2.heap.size w7 w8 := hk8.below hb27.size (fun k hk e => by omega)
    have HOG8 : Hid (OwnZ w8 w3.heap.size vG O) := (HOG.out.kept hb47).apart hk8 hgx
    have HOS8 : Hid (OwnZ w8 w1.heap.size vS O) := (HOS.out.kept hb27).grown hb78 HLS.out
    have hb08 : Below w0.heap.size w0 w8 := hb07.trans (hb78.mono hb02.size)
    have hsz8 : w3.heap.size ≤ w8.heap.size := Nat.le_trans (Nat.le_trans hb4.size hb47.size) hk8.size
    clear hgr hk8 hb78 HOG HOS HX7
    go_wp2_with fail
    refine (eqIntS_any _ _ O O _ (HOG8.out.row hol2) (HOS8.out.row hol2)).mono ?_
    rintro e w9 ⟨rfl, hb9⟩
    have hb09 := hb08.trans (hb9.mono hb08.size)
    rw [eO]
    have hB9 : w3.heap.size ≤ w9.heap.size := Nat.le_trans hsz8 hb9.size
    go_wp2_with fail
    refine (markOwn_any _ O _ _ (HOG8.out.kept hb9) hB9 hol2).mono ?_
    rintro e w10 ⟨rfl, hoM, hb10⟩
    rw [HM.out]
    have HOM : Hid (OwnZ w10 w3.heap.size vG (mksZ 1 O.length)) := hoM
    have HOS10 : Hid (OwnZ w10 w1.heap.size vS O) := (HOS8.out.kept hb9).grown hb10 (fun g hg => by have := HLS.out g hg; omega)
    have hb010 : Below w0.heap.size w0 w10 := hb09.trans (hb10.mono hb03.size)
    clear hoM hb10 HOG8 HOS8
    go_wp2_with fail
    refine (heldOwn_any _ _ _ _ HOM.out hol2).mono ?_
    rintro e w10' ⟨rfl, rfl⟩
    rw [HM.out]
    go_wp2_with fail
    refine (toColumnS_any _ L _ (HR.out _ hb010) hl).mono ?_
    rintro e w11 ⟨rfl, hs11, hb11⟩
    have HS11 := (show Hid (ColRow w11 _ L) from hs11.row (Nat.le_refl _) hml)
    clear hs11
    go_wp2_with fail
    refine (HIP.out _ _ HS11.out).mono ?_
    rintro e w12 ⟨⟨vH, rfl, hoH⟩, hb12⟩
    have hbx : Below w10'.heap.size w10' w12 := hb11.trans (hb12.mono hb11.size)
    have HOH : Hid (OwnZ w12 w11.heap.size vH O) := hoH
    clear hoH
    go_wp2_with fail
    refine (eqIntS_any _ _ O O _ (HOH.out.row hol2) ((HOS10.out.kept hbx).row hol2)).mono ?_
    rintro e w13 ⟨rfl, hb13⟩
    rw [eO]
    have hby : Below w10'.heap.size w10' w13 := hbx.trans (hb13.mono hbx.size)
    have hb013 : Below w0.heap.size w0 w13 := hb010.trans (hby.mono hb010.size)
    go_wp2_with fail
    refine (heldOwn_any _ _ _ _ (HOM.out.kept hby) hol2).mono ?_
    rintro e w14 ⟨rfl, rfl⟩
    rw [HM.out]
    go_wp2_with fail
    go_ret
    exact ⟨rfl, hb013⟩
  · have HQ : Hid ((if L.length ≤ 1048576 then 1048576 - (L.length : Int) else -1) = -1) := if_neg hl
    go_enter Try.func7, Try.ntmps7
    go_wp2_with fail
    refine (szColumnS_any _ L _ HR0.out).mono ?_
    rintro e w0 ⟨rfl, rfl⟩
    rw [HQ.out]
    go_wp2_with fail
    go_ret
    exact ⟨rfl, Below.refl _ _⟩
end Go.Proofs.Ytnadkifjnppgcaa.oftenIn
