import Derived.Test.YtpkceelmnfgdkaaGreatDoorZ44
import Derived.Test.YtpkceelmnfgdkaaGreatDoorZ48
namespace Go.Proofs.YtpkceelmnfgdkaaGreatDoor
open Go.RowKit

set_option maxRecDepth 20000 in
set_option maxHeartbeats 2000000 in
theorem l7There_any (nm : ByteArray) (ct : Int) (v : Value) (L : List (List UInt8 × Int × Int × List UInt8)) (n : ByteArray) (w : World) (hr : RRow w v L) (hn : n.size ≤ 1048576) (hx : Hid (∀ x ∈ L, x.1.length ≤ 1048576 ∧ x.2.2.2.length ≤ 1048576)) :
    Calls Tryz.prog 41 #[ZonV nm ct v, .string n] w fun e w' => e = .returned (.bool (thereB L n.data.toList)) ∧ Below w.heap.size w w' := by
  obtain ⟨a, cap, rfl, hcap, hmax, hrow⟩ := hr
  have HROW : Hid (L = [] ∨ ∃ b o, a = some ⟨b, o, none⟩ ∧ b < w.heap.size ∧ ∀ j, (hj : j < L.length) → RecAt w b (o + j * 4) L[j]) := hrow
  unfold maxLen at hmax
  clear hrow
  obtain ⟨nl, hnl⟩ : ∃ nl, nl = n.data.toList := ⟨_, rfl⟩
  obtain rfl : n = ⟨nl.toArray⟩ := data_eq hnl.symm
  clear hnl
  rw [size_list] at hn
  show Calls Tryz.prog 41 _ w fun e w' => e = .returned (.bool (thereB L nl)) ∧ Below w.heap.size w w'
  have HNO : Hid ((∀ j, (hj : j < L.length) → belowB L[j].1 nl = false) → thereB L nl = false) := fun h => by
    unfold thereB
    rw [List.any_eq_false]
    intro x hx
    obtain ⟨j, hj, rfl⟩ := List.getElem_of_mem hx
    rw [h j hj]; simp
  have HHIT : Hid (∀ k, (hk : k < L.length) → belowB L[k].1 nl = true → thereB L nl = true) := fun k hk h => by
    unfold thereB; exact List.any_eq_true.2 ⟨_, List.getElem_mem hk, h⟩
  obtain ⟨T, hT⟩ : ∃ T, T = thereB L nl := ⟨_, rfl⟩
  rw [← hT] at HNO HHIT ⊢
  clear hT
  have hb0 : Below w.heap.size w (w.alloc (.cells #[.string nm, .int .i64 ct, .slice a L.length cap] 30)) := (Below.refl _ _).alloc (Nat.le_refl _) _
  unfold ZonV
  go_enter Tryz.func41, Tryz.ntmps41
  go_wp2_with fail
  go_loopw [10] (fun i wr => ∃ k : Nat, k ≤ L.length ∧ i = .int .i64 (k : Int) ∧ Hid (∀ j, (hj : j < L.length) → j < k → belowB L[j].1 nl = false) ∧ Below w.heap.size w wr) (fun i _ => L.length - (intOf i).toNat)
  case atStart => exact ⟨0, Nat.zero_le _, rfl, fun j _ h => absurd h (Nat.not_lt_zero _), hb0⟩
  case round =>
    obtain ⟨k, hk, rfl, HA, hb⟩ := hrel
    by_cases hlt : k < L.length
    · rcases HROW.out with hr | ⟨b, o, ha, hbl, hcel⟩
      · rw [hr] at hlt; simp at hlt
      · rw [ha]
        have hcx := (hcel k hlt).kept hb
        unfold RecAt at hcx
        obtain ⟨c0, c1, c2, c3⟩ := hcx
        have hxl := (hx.out _ (List.getElem_mem hlt)).1
        have HOK : Hid (belowB (L[k]'hlt).1 nl = false → ∀ j, (hj : j < L.length) → j < k + 1 → belowB L[j].1 nl = false) := fun h j hj h1 => by
          rcases Nat.lt_or_ge j k with h' | h'
          · exact HA.out j hj h'
          · obtain rfl : j = k := by omega
            exact h
        have HYES : Hid (belowB (L[k]'hlt).1 nl = true → T = true) := fun h => HHIT.out k hlt h
        obtain ⟨x, hxe⟩ : ∃ x, x = L[k]'hlt := ⟨_, rfl⟩
        rw [← hxe] at c0 c1 c2 c3 hxl HOK HYES
        obtain ⟨xn, xt, xl, xd⟩ := x
        simp only at c0 c1 c2 c3 hxl HYES HOK
        have hbk := hb.alloc hb.size (.cells #[.string ⟨xn.toArray⟩, .int .i64 xt, .int .i64 xl, .string ⟨xd.toArray⟩] 57)
        have HLB : Hid (∀ W, Calls Tryz.prog 22 #[.string ⟨xn.toArray⟩, .string ⟨nl.toArray⟩] W fun e w' => e = .returned (.bool (belowB xn nl)) ∧ w' = W) := fun W => l1Below_any ⟨xn.toArray⟩ ⟨nl.toArray⟩ W (by rw [size_list]; omega) (by rw [size_list]; omega)
        clear hcel hxe
        cases hB : belowB xn nl with
        | false =>
          have HR := HOK.out hB
          rw [hB] at HLB
          clear HOK HYES hB
          go_wp2_with fail
          refine (HLB.out _).mono ?_
          rintro e w1 ⟨rfl, rfl⟩
          go_wp2_with fail
          go_roundw
          case rel => exact ⟨k + 1, by omega, by go_num, HR, hbk⟩
          case measure => simp [intOf]; omega
        | true =>
          have HR : Hid (T = true) := HYES.out hB
          rw [hB] at HLB
          clear HOK HYES hB
          go_wp2_with fail
          refine (HLB.out _).mono ?_
          rintro e w1 ⟨rfl, rfl⟩
          go_wp2_with fail
          go_ret
          exact ⟨ret_bool HR.out.symm, hbk⟩
    · have HR : Hid (T = false) := HNO.out (fun j hj => HA.out j hj (by omega))
      go_wp2_with fail
      go_ret
      exact ⟨ret_bool HR.out.symm, hb⟩

set_option maxRecDepth 20000 in
set_option maxHeartbeats 2000000 in
theorem l7Encloser_any (ap : List UInt8) (ct : Int) (v : Value) (L : List (List UInt8 × Int × Int × List UInt8)) (n0 : List UInt8) (w : World) (hr : RRow w v L) (hx : Hid (∀ x ∈ L, x.1.length ≤ 1048576 ∧ x.2.2.2.length ≤ 1048576)) (hf : Hid (nameB n0 = true ∧ nameB ap = true ∧ belowB n0 ap = true)) :
    Calls Tryz.prog 23 #[ZonV ⟨ap.toArray⟩ ct v, .string ⟨n0.toArray⟩] w fun e w' => e = .returned (.string ⟨(encl ap L n0).toArray⟩) ∧ Below w.heap.size w w' := by
  have hf' : nameB n0 = true ∧ nameB ap = true ∧ belowB n0 ap = true := hf.out
  obtain ⟨hn1, hn2, hn3⟩ := hf'
  have HTH : Hid (∀ j W, Below w.heap.size w W → Calls Tryz.prog 41 #[ZonV ⟨ap.toArray⟩ ct v, .string ⟨(upAt n0 j).toArray⟩] W fun e w' => e = .returned (.bool (thereB L (upAt n0 j))) ∧ Below W.heap.size W w') := fun j W hW => l7There_any ⟨ap.toArray⟩ ct v L ⟨(upAt n0 j).toArray⟩ W (hr.kept hW) (by rw [size_list]; have := up_len hn1 j; omega) hx
  have HPAR : Hid (∀ j W, j < upN ap n0 → Calls Tryz.prog 42 #[.string ⟨(upAt n0 j).toArray⟩] W fun e w' => e = .returned (.string ⟨(upAt n0 (j + 1)).toArray⟩) ∧ w' = W) := fun j W hj => by
    have h := l1Parent_any ⟨(upAt n0 j).toArray⟩ W (by rw [size_list]; have := up_len hn1 j; omega)
    rw [show (⟨(upAt n0 j).toArray⟩ : ByteArray).data.toList = upAt n0 j from rfl, up_next hn1 (by unfold upN at hj; omega)] at h
    exact h
  have HEND : Hid (upAt n0 (upN ap n0) = ap) := up_end hn1 hn2 hn3
  have HNE : Hid (∀ j, j < upN ap n0 → upAt n0 j ≠ ap) := fun j hj => (up_ne hn1 hj).1
  have HSH : Hid (∀ j, j < upN ap n0 → (upAt n0 (j + 1)).length < (upAt n0 j).length) := fun j hj => drop_shorter (name_plain hn1) j (by unfold upN at hj; omega)
  have HENC : Hid (∀ j, j ≤ upN ap n0 → (∀ i, i < j → thereB L (upAt n0 i) = false) → (j = upN ap n0 ∨ thereB L (upAt n0 j) = true) → encl ap L n0 = upAt n0 j) := fun j hj h1 h2 => by
    unfold encl encN
    rw [least_is hj h1 h2]
  have H0 : Hid (upAt n0 0 = n0) := up_zero n0
  obtain ⟨J, hJ⟩ : ∃ J, J = upN ap n0 := ⟨_, rfl⟩
  rw [← hJ] at HPAR HEND HNE HSH HENC
  clear hJ hn1 hn2 hn3 hf
  obtain ⟨a, cap, rfl, _⟩ := hr
  unfold ZonV at HTH ⊢
  obtain ⟨W0, hW0⟩ : ∃ W0, W0 = w.alloc (.cells #[.string ⟨ap.toArray⟩, .int .i64 ct, .slice a L.length cap] 30) := ⟨_, rfl⟩
  have HW0 : Hid (w.alloc (.cells #[.string ⟨ap.toArray⟩, .int .i64 ct, .slice a L.length cap] 30) = W0) := hW0.symm
  have HC0 : Hid (∀ W, Below W0.heap.size W0 W → (W.cell? ⟨w.heap.size, 0, none⟩ = some (.string ⟨ap.toArray⟩) ∧ W.cell? ⟨w.heap.size, 1, none⟩ = some (.int .i64 ct) ∧ W.cell? ⟨w.heap.size, 2, none⟩ = some (.slice a L.length cap)) ∧ Below w.heap.size w W) := fun W hW => by
    rw [hW0] at hW
    obtain ⟨c0, c1, c2, h⟩ := box3c hW
    exact ⟨⟨c0, c1, c2⟩, h⟩
  have hb0 : Below W0.heap.size W0 W0 := Below.refl _ _
  clear hW0
  obtain ⟨⟨z0, z1, z2⟩, _⟩ := HC0.out W0 hb0
  go_enter Tryz.func23, Tryz.ntmps23
  go_wp2_with fail
  rw [HW0.out]
  clear z0 z1 z2
  go_loopw [1] (fun n wr => ∃ j : Nat, j ≤ J ∧ n = .string ⟨(upAt n0 j).toArray⟩ ∧ Hid (∀ i, i < j → thereB L (upAt n0 i) = false) ∧ Below W0.heap.size W0 wr) (fun n _ => strLen n)
  case atStart => exact ⟨0, Nat.zero_le _, by rw [H0.out], fun i h => absurd h (Nat.not_lt_zero _), hb0⟩
  case round =>
    obtain ⟨j, hj, rfl, HA, hb⟩ := hrel
    obtain ⟨⟨z0, z1, z2⟩, hbw⟩ := HC0.out _ hb
    by_cases hlt : j < J
    · have HC1 := HTH.out j
      have hne := HNE.out j hlt
      cases hT : thereB L (upAt n0 j) with
      | true =>
        have HR : Hid (encl ap L n0 = upAt n0 j) := HENC.out j hj HA.out (.inr hT)
        rw [hT] at HC1
        have HC : Hid (∀ W, Below w.heap.size w W → Calls Tryz.prog 41 #[(.agg #[.string ⟨ap.toArray⟩, .int .i64 ct, .slice a L.length cap]), .string ⟨(upAt n0 j).toArray⟩] W fun e w' => e = .returned (.bool true) ∧ Below W.heap.size W w') := HC1
        clear HC1 hT
        obtain ⟨u, hu⟩ : ∃ u, u = upAt n0 j := ⟨_, rfl⟩
        rw [← hu] at HC HR hne ⊢
        have e1 : (u == ap) = false := by simpa using hne
        clear hu
        go_wp2_with fail
        refine (HC.out _ hbw).mono ?_
        rintro e w1 ⟨rfl, hb1⟩
        go_wp2_with fail
        go_ret
        exact ⟨by rw [HR.out]; rfl, hbw.trans (hb1.mono hbw.size)⟩
      | false =>
        have HS := HSH.out j hlt
        have HP1 := HPAR.out j
        have HAN : Hid (∀ i, i < j + 1 → thereB L (upAt n0 i) = false) := fun i hi => by
          rcases Nat.lt_or_ge i j with h | h
          · exact HA.out i h
          · obtain rfl : i = j := by omega
            exact hT
        rw [hT] at HC1
        have HC : Hid (∀ W, Below w.heap.size w W → Calls Tryz.prog 41 #[(.agg #[.string ⟨ap.toArray⟩, .int .i64 ct, .slice a L.length cap]), .string ⟨(upAt n0 j).toArray⟩] W fun e w' => e = .returned (.bool false) ∧ Below W.heap.size W w') := HC1
        have HP : Hid (∀ W, Calls Tryz.prog 42 #[.string ⟨(upAt n0 j).toArray⟩] W fun e w' => e = .returned (.string ⟨(upAt n0 (j + 1)).toArray⟩) ∧ w' = W) := fun W => HP1 W hlt
        clear HC1 HP1 hT HA
        obtain ⟨u, hu⟩ : ∃ u, u = upAt n0 j := ⟨_, rfl⟩
        obtain ⟨u2, hu2⟩ : ∃ u2, u2 = upAt n0 (j + 1) := ⟨_, rfl⟩
        rw [← hu] at HC HP HS hne ⊢
        rw [← hu2] at HP HS
        have HU : Hid (upAt n0 (j + 1) = u2) := hu2.symm
        have e1 : (u == ap) = false := by simpa using hne
        clear hu hu2
        go_wp2_with fail
        refine (HC.out _ hbw).mono ?_
        rintro e w1 ⟨rfl, hb1⟩
        go_wp2_with fail
        refine (HP.out _).mono ?_
        rintro e w2 ⟨rfl, rfl⟩
        go_wp2_with fail
        go_roundw
        case rel => exact ⟨j + 1, hlt, by rw [HU.out], HAN, hb.trans (hb1.mono hb.size)⟩
        case measure => show (⟨u2.toArray⟩ : ByteArray).size < (⟨u.toArray⟩ : ByteArray).size; rw [size_list, size_list]; exact HS
    · obtain rfl : j = J := by omega
      have HR : Hid (encl ap L n0 = ap) := by rw [HENC.out j hj HA.out (.inl rfl)]; exact HEND.out
      rw [HEND.out]
      go_wp2_with fail
      go_ret
      exact ⟨by rw [HR.out]; rfl, hbw⟩

set_option maxRecDepth 20000 in
set_option maxHeartbeats 1000000 in
theorem sEncloserOf_any (nm : ByteArray) (ct : Int) (v : Value) (L : List (List UInt8 × Int × Int × List UInt8)) (n : ByteArray) (w : World) (hr : RRow w v L) (hap : nm.size ≤ 1048576) (hn : n.size ≤ 1048576) (hl : L.length ≤ 1048576) (hx : Hid (∀ x ∈ L, x.1.length ≤ 1048576 ∧ x.2.2.2.length ≤ 1048576)) :
    Calls Tryz.prog 7 #[ZonV nm ct v, .string n] w fun e w' => e = .returned (.tuple #[.string ⟨(encT nm.data.toList ct L n.data.toList).1.toArray⟩, .bool (encT nm.data.toList ct L n.data.toList).2]) ∧ Below w.heap.size w w' := by
  have HG : Hid (∀ W, Below w.heap.size w W → Calls Tryz.prog 20 #[ZonV nm ct v] W fun e w' => e = .returned (.bool (zoneB nm.data.toList ct L)) ∧ Below W.heap.size W w') := fun W hW => sGoodZone_any nm ct v L W (hr.kept hW) hap hl hx
  have HRR : Hid (∀ W, Below w.heap.size w W → RRow W v L) := fun W hW => hr.kept hW
  obtain ⟨nl, hnl⟩ : ∃ nl, nl = n.data.toList := ⟨_, rfl⟩
  obtain rfl : n = ⟨nl.toArray⟩ := data_eq hnl.symm
  obtain ⟨ap, hal⟩ : ∃ ap, ap = nm.data.toList := ⟨_, rfl⟩
  obtain rfl : nm = ⟨ap.toArray⟩ := data_eq hal.symm
  clear hnl hal
  rw [size_list] at hn
  rw [size_list] at hap
  have HGN : Hid (∀ W, Calls Tryz.prog 21 #[.string ⟨nl.toArray⟩] W fun e w' => e = .returned (.bool (nameB nl)) ∧ Below W.heap.size W w') := fun W => sGoodName_any ⟨nl.toArray⟩ W (by rw [size_list]; omega)
  have HLB : Hid (∀ W, Calls Tryz.prog 22 #[.string ⟨nl.toArray⟩, .string ⟨ap.toArray⟩] W fun e w' => e = .returned (.bool (belowB nl ap)) ∧ w' = W) := fun W => l1Below_any ⟨nl.toArray⟩ ⟨ap.toArray⟩ W (by rw [size_list]; omega) (by rw [size_list]; omega)
  obtain ⟨a, cap, rfl, _⟩ := hr
  show Calls Tryz.prog 7 _ w fun e w' => e = .returned (.tuple #[.string ⟨(encT ap ct L nl).1.toArray⟩, .bool (encT ap ct L nl).2]) ∧ Below w.heap.size w w'
  have HG2 : Hid (∀ W, Below w.heap.size w W → Calls Tryz.prog 20 #[ZonV ⟨ap.toArray⟩ ct (.slice a L.length cap)] W fun e w' => e = .returned (.bool (zoneB ap ct L)) ∧ Below W.heap.size W w') := HG.out
  clear HG
  have HLAST : Hid ((nameB nl = true ∧ nameB ap = true ∧ belowB nl ap = true) → ∀ W, Below w.heap.size w W → Calls Tryz.prog 23 #[ZonV ⟨ap.toArray⟩ ct (.slice a L.length cap), .string ⟨nl.toArray⟩] W fun e w' => e = .returned (.string ⟨(encl ap L nl).toArray⟩) ∧ Below W.heap.size W w') := fun h W hW => l7Encloser_any ap ct _ L nl W (HRR.out W hW) hx h
  unfold ZonV at HG2 HLAST ⊢
  obtain ⟨W0, hW0⟩ : ∃ W0, W0 = w.alloc (.cells #[.string ⟨ap.toArray⟩, .int .i64 ct, .slice a L.length cap] 30) := ⟨_, rfl⟩
  have HW0 : Hid (w.alloc (.cells #[.string ⟨ap.toArray⟩, .int .i64 ct, .slice a L.length cap] 30) = W0) := hW0.symm
  have HC0 : Hid (∀ W, Below W0.heap.size W0 W → (W.cell? ⟨w.heap.size, 0, none⟩ = some (.string ⟨ap.toArray⟩) ∧ W.cell? ⟨w.heap.size, 1, none⟩ = some (.int .i64 ct) ∧ W.cell? ⟨w.heap.size, 2, none⟩ = some (.slice a L.length cap)) ∧ Below w.heap.size w W) := fun W hW => by
    rw [hW0] at hW
    obtain ⟨c0, c1, c2, h⟩ := box3c hW
    exact ⟨⟨c0, c1, c2⟩, h⟩
  have hb0 : Below W0.heap.size W0 W0 := Below.refl _ _
  clear hW0
  have HNO : Hid ((zoneB ap ct L && (nameB nl && belowB nl ap)) = false → encT ap ct L nl = ([], false)) := fun h => by
    unfold encT inZ; rw [h]; rfl
  cases hZ : zoneB ap ct L with
  | false =>
    have HR : Hid (encT ap ct L nl = ([], false)) := HNO.out (by rw [hZ]; rfl)
    rw [hZ] at HG2
    obtain ⟨⟨z0, z1, z2⟩, hbw0⟩ := HC0.out W0 hb0
    go_enter Tryz.func7, Tryz.ntmps7
    go_wp2_with fail
    rw [HW0.out]
    refine (HG2.out _ hbw0).mono ?_
    rintro e w1 ⟨rfl, hb1⟩
    go_wp2_with fail
    go_ret2
    exact ⟨by rw [HR.out]; rfl, hbw0.trans (hb1.mono hbw0.size)⟩
  | true =>
    rw [hZ] at HG2
    cases hN : nameB nl with
    | false =>
      have HR : Hid (encT ap ct L nl = ([], false)) := HNO.out (by rw [hN, Bool.false_and, Bool.and_false])
      rw [hN] at HGN
      obtain ⟨⟨z0, z1, z2⟩, hbw0⟩ := HC0.out W0 hb0
      go_enter Tryz.func7, Tryz.ntmps7
      go_wp2_with fail
      rw [HW0.out]
      refine (HG2.out _ hbw0).mono ?_
      rintro e w1 ⟨rfl, hb1⟩
      have hbw1 := hbw0.trans (hb1.mono hbw0.size)
      go_wp2_with fail
      refine (HGN.out _).mono ?_
      rintro e w2 ⟨rfl, hb2⟩
      go_wp2_with fail
      go_ret2
      exact ⟨by rw [HR.out]; rfl, hbw1.trans (hb2.mono hbw1.size)⟩
    | true =>
      rw [hN] at HGN
      cases hB : belowB nl ap with
      | false =>
        have HR : Hid (encT ap ct L nl = ([], false)) := HNO.out (by rw [hB, Bool.and_false, Bool.and_false])
        rw [hB] at HLB
        obtain ⟨⟨z0, z1, z2⟩, hbw0⟩ := HC0.out W0 hb0
        go_enter Tryz.func7, Tryz.ntmps7
        go_wp2_with fail
        rw [HW0.out]
        refine (HG2.out _ hbw0).mono ?_
        rintro e w1 ⟨rfl, hb1⟩
        have hbw1 := hbw0.trans (hb1.mono hbw0.size)
        go_wp2_with fail
        refine (HGN.out _).mono ?_
        rintro e w2 ⟨rfl, hb2⟩
        have hbw2 := hbw1.trans (hb2.mono hbw1.size)
        have hbz2 := hb1.trans (hb2.mono hb1.size)
        clear z0 z1 z2
        obtain ⟨⟨z0, z1, z2⟩, _⟩ := HC0.out _ hbz2
        go_wp2_with fail
        refine (HLB.out _).mono ?_
        rintro e w3 ⟨rfl, rfl⟩
        go_wp2_with fail
        go_ret2
        exact ⟨by rw [HR.out]; rfl, hbw2⟩
      | true =>
        rw [hB] at HLB
        have HIN : Hid (inZ ap ct L nl = true) := by unfold inZ; rw [hZ, hN, hB]; exact rfl
        have HLAST2 : Hid (∀ W, Below w.heap.size w W → Calls Tryz.prog 23 #[(.agg #[.string ⟨ap.toArray⟩, .int .i64 ct, .slice a L.length cap]), .string ⟨nl.toArray⟩] W fun e w' => e = .returned (.string ⟨(encl ap L nl).toArray⟩) ∧ Below W.heap.size W w') := HLAST.out ⟨hN, (zone_facts hZ).1, hB⟩
        have HR : Hid (encT ap ct L nl = (encl ap L nl, true)) := by unfold encT; rw [if_pos HIN.out]; exact rfl
        clear HNO
        obtain ⟨⟨z0, z1, z2⟩, hbw0⟩ := HC0.out W0 hb0
        go_enter Tryz.func7, Tryz.ntmps7
        go_wp2_with fail
        rw [HW0.out]
        refine (HG2.out _ hbw0).mono ?_
        rintro e w1 ⟨rfl, hb1⟩
        have hbw1 := hbw0.trans (hb1.mono hbw0.size)
        go_wp2_with fail
        refine (HGN.out _).mono ?_
        rintro e w2 ⟨rfl, hb2⟩
        have hbw2 := hbw1.trans (hb2.mono hbw1.size)
        have hbz2 := hb1.trans (hb2.mono hb1.size)
        clear z0 z1 z2
        obtain ⟨⟨z0, z1, z2⟩, _⟩ := HC0.out _ hbz2
        go_wp2_with fail
        refine (HLB.out _).mono ?_
        rintro e w3 ⟨rfl, rfl⟩
        go_wp2_with fail
        refine (HLAST2.out _ hbw2).mono ?_
        rintro e w4 ⟨rfl, hb4⟩
        go_wp2_with fail
        go_ret2
        exact ⟨by rw [HR.out]; rfl, hbw2.trans (hb4.mono hbw2.size)⟩

set_option maxRecDepth 20000 in
set_option maxHeartbeats 1000000 in
theorem sCutAbove_any (nm : ByteArray) (ct : Int) (v : Value) (L : List (List UInt8 × Int × Int × List UInt8)) (n : ByteArray) (w : World) (hr : RRow w v L) (hap : nm.size ≤ 1048576) (hn : n.size ≤ 1048576) (hl : L.length ≤ 1048576) (hx : Hid (∀ x ∈ L, x.1.length ≤ 1048576 ∧ x.2.2.2.length ≤ 1048576)) :
    Calls Tryz.prog 11 #[ZonV nm ct v, .string n] w fun e w' => e = .returned (.tuple #[.string ⟨(cutZ nm.data.toList ct L n.data.toList).1.toArray⟩, .bool (cutZ nm.data.toList ct L n.data.toList).2]) ∧ Below w.heap.size w w' := by
  have HG : Hid (∀ W, Below w.heap.size w W → Calls Tryz.prog 20 #[ZonV nm ct v] W fun e w' => e = .returned (.bool (zoneB nm.data.toList ct L)) ∧ Below W.heap.size W w') := fun W hW => sGoodZone_any nm ct v L W (hr.kept hW) hap hl hx
  have HRR : Hid (∀ W, Below w.heap.size w W → RRow W v L) := fun W hW => hr.kept hW
  obtain ⟨nl, hnl⟩ : ∃ nl, nl = n.data.toList := ⟨_, rfl⟩
  obtain rfl : n = ⟨nl.toArray⟩ := data_eq hnl.symm
  obtain ⟨ap, hal⟩ : ∃ ap, ap = nm.data.toList := ⟨_, rfl⟩
  obtain rfl : nm = ⟨ap.toArray⟩ := data_eq hal.symm
  clear hnl hal
  rw [size_list] at hn
  rw [size_list] at hap
  have HGN : Hid (∀ W, Calls Tryz.prog 21 #[.string ⟨nl.toArray⟩] W fun e w' => e = .returned (.bool (nameB nl)) ∧ Below W.heap.size W w') := fun W => sGoodName_any ⟨nl.toArray⟩ W (by rw [size_list]; omega)
  have HLB : Hid (∀ W, Calls Tryz.prog 22 #[.string ⟨nl.toArray⟩, .string ⟨ap.toArray⟩] W fun e w' => e = .returned (.bool (belowB nl ap)) ∧ w' = W) := fun W => l1Below_any ⟨nl.toArray⟩ ⟨ap.toArray⟩ W (by rw [size_list]; omega) (by rw [size_list]; omega)
  obtain ⟨a, cap, rfl, _⟩ := hr
  show Calls Tryz.prog 11 _ w fun e w' => e = .returned (.tuple #[.string ⟨(cutZ ap ct L nl).1.toArray⟩, .bool (cutZ ap ct L nl).2]) ∧ Below w.heap.size w w'
  have HG2 : Hid (∀ W, Below w.heap.size w W → Calls Tryz.prog 20 #[ZonV ⟨ap.toArray⟩ ct (.slice a L.length cap)] W fun e w' => e = .returned (.bool (zoneB ap ct L)) ∧ Below W.heap.size W w') := HG.out
  clear HG
  have HLAST : Hid ((nameB nl = true ∧ nameB ap = true ∧ belowB nl ap = true) → ∀ W, Below w.heap.size w W → Calls Tryz.prog 27 #[.string ⟨ap.toArray⟩, .slice a L.length cap, .string ⟨nl.toArray⟩] W fun e w' => e = .returned (.tuple #[.string ⟨(cutV nl (zcutJ L nl (upN ap nl))).1.toArray⟩, .bool (cutV nl (zcutJ L nl (upN ap nl))).2]) ∧ Below W.heap.size W w') := fun h W hW => l6Cut_any ⟨ap.toArray⟩ _ L ⟨nl.toArray⟩ W (HRR.out W hW) h
  unfold ZonV at HG2 ⊢
  obtain ⟨W0, hW0⟩ : ∃ W0, W0 = w.alloc (.cells #[.string ⟨ap.toArray⟩, .int .i64 ct, .slice a L.length cap] 30) := ⟨_, rfl⟩
  have HW0 : Hid (w.alloc (.cells #[.string ⟨ap.toArray⟩, .int .i64 ct, .slice a L.length cap] 30) = W0) := hW0.symm
  have HC0 : Hid (∀ W, Below W0.heap.size W0 W → (W.cell? ⟨w.heap.size, 0, none⟩ = some (.string ⟨ap.toArray⟩) ∧ W.cell? ⟨w.heap.size, 1, none⟩ = some (.int .i64 ct) ∧ W.cell? ⟨w.heap.size, 2, none⟩ = some (.slice a L.length cap)) ∧ Below w.heap.size w W) := fun W hW => by
    rw [hW0] at hW
    obtain ⟨c0, c1, c2, h⟩ := box3c hW
    exact ⟨⟨c0, c1, c2⟩, h⟩
  have hb0 : Below W0.heap.size W0 W0 := Below.refl _ _
  clear hW0
  have HNO : Hid ((zoneB ap ct L && (nameB nl && belowB nl ap)) = false → cutZ ap ct L nl = ([], false)) := fun h => by
    unfold cutZ inZ; rw [h]; rfl
  cases hZ : zoneB ap ct L with
  | false =>
    have HR : Hid (cutZ ap ct L nl = ([], false)) := HNO.out (by rw [hZ]; rfl)
    rw [hZ] at HG2
    obtain ⟨⟨z0, z1, z2⟩, hbw0⟩ := HC0.out W0 hb0
    go_enter Tryz.func11, Tryz.ntmps11
    go_wp2_with fail
    rw [HW0.out]
    refine (HG2.out _ hbw0).mono ?_
    rintro e w1 ⟨rfl, hb1⟩
    go_wp2_with fail
    go_ret2
    exact ⟨by rw [HR.out]; rfl, hbw0.trans (hb1.mono hbw0.size)⟩
  | true =>
    rw [hZ] at HG2
    cases hN : nameB nl with
    | false =>
      have HR : Hid (cutZ ap ct L nl = ([], false)) := HNO.out (by rw [hN, Bool.false_and, Bool.and_false])
      rw [hN] at HGN
      obtain ⟨⟨z0, z1, z2⟩, hbw0⟩ := HC0.out W0 hb0
      go_enter Tryz.func11, Tryz.ntmps11
      go_wp2_with fail
      rw [HW0.out]
      refine (HG2.out _ hbw0).mono ?_
      rintro e w1 ⟨rfl, hb1⟩
      have hbw1 := hbw0.trans (hb1.mono hbw0.size)
      go_wp2_with fail
      refine (HGN.out _).mono ?_
      rintro e w2 ⟨rfl, hb2⟩
      go_wp2_with fail
      go_ret2
      exact ⟨by rw [HR.out]; rfl, hbw1.trans (hb2.mono hbw1.size)⟩
    | true =>
      rw [hN] at HGN
      cases hB : belowB nl ap with
      | false =>
        have HR : Hid (cutZ ap ct L nl = ([], false)) := HNO.out (by rw [hB, Bool.and_false, Bool.and_false])
        rw [hB] at HLB
        obtain ⟨⟨z0, z1, z2⟩, hbw0⟩ := HC0.out W0 hb0
        go_enter Tryz.func11, Tryz.ntmps11
        go_wp2_with fail
        rw [HW0.out]
        refine (HG2.out _ hbw0).mono ?_
        rintro e w1 ⟨rfl, hb1⟩
        have hbw1 := hbw0.trans (hb1.mono hbw0.size)
        go_wp2_with fail
        refine (HGN.out _).mono ?_
        rintro e w2 ⟨rfl, hb2⟩
        have hbw2 := hbw1.trans (hb2.mono hbw1.size)
        have hbz2 := hb1.trans (hb2.mono hb1.size)
        clear z0 z1 z2
        obtain ⟨⟨z0, z1, z2⟩, _⟩ := HC0.out _ hbz2
        go_wp2_with fail
        refine (HLB.out _).mono ?_
        rintro e w3 ⟨rfl, rfl⟩
        go_wp2_with fail
        go_ret2
        exact ⟨by rw [HR.out]; rfl, hbw2⟩
      | true =>
        rw [hB] at HLB
        have HIN : Hid (inZ ap ct L nl = true) := by unfold inZ; rw [hZ, hN, hB]; exact rfl
        obtain ⟨f1, f2, f3, f4, _, _⟩ := zone_facts hZ
        have HLAST2 : Hid (∀ W, Below w.heap.size w W → Calls Tryz.prog 27 #[.string ⟨ap.toArray⟩, .slice a L.length cap, .string ⟨nl.toArray⟩] W fun e w' => e = .returned (.tuple #[.string ⟨(cutT ap L nl).1.toArray⟩, .bool (cutT ap L nl).2]) ∧ Below W.heap.size W w') := by
          have h := HLAST.out ⟨hN, f1, hB⟩
          rw [cutT_same f1 hN f2 f3 f4] at h
          exact h
        have HR : Hid (cutZ ap ct L nl = cutT ap L nl) := by unfold cutZ; rw [if_pos HIN.out]; exact rfl
        clear f1 f2 f3 f4
        clear HNO
        obtain ⟨⟨z0, z1, z2⟩, hbw0⟩ := HC0.out W0 hb0
        go_enter Tryz.func11, Tryz.ntmps11
        go_wp2_with fail
        rw [HW0.out]
        refine (HG2.out _ hbw0).mono ?_
        rintro e w1 ⟨rfl, hb1⟩
        have hbw1 := hbw0.trans (hb1.mono hbw0.size)
        go_wp2_with fail
        refine (HGN.out _).mono ?_
        rintro e w2 ⟨rfl, hb2⟩
        have hbw2 := hbw1.trans (hb2.mono hbw1.size)
        have hbz2 := hb1.trans (hb2.mono hb1.size)
        clear z0 z1 z2
        obtain ⟨⟨z0, z1, z2⟩, _⟩ := HC0.out _ hbz2
        go_wp2_with fail
        refine (HLB.out _).mono ?_
        rintro e w3 ⟨rfl, rfl⟩
        go_wp2_with fail
        refine (HLAST2.out _ hbw2).mono ?_
        rintro e w4 ⟨rfl, hb4⟩
        go_wp2_with fail
        go_ret2
        exact ⟨by rw [HR.out]; rfl, hbw2.trans (hb4.mono hbw2.size)⟩

end Go.Proofs.YtpkceelmnfgdkaaGreatDoor
