import Derived.Test.YtoopfmebpjojiaaDoorHeG
import Derived.Test.YtoopfmebpjojiaaDoorSLabels
namespace Go.Proofs.YtoopfmebpjojiaaDoor
open Go.RowKit

theorem nm_at {P : List (List UInt8)} {k : Nat} (h : k < P.length) : nmB P k = (nameB P[k] && !(P[k] == []) && !((P.take k).contains P[k])) := by
  unfold nmB
  rw [List.getD_eq_getElem?_getD, List.getElem?_eq_getElem h]; rfl
theorem con_hit {P : List (List UInt8)} {k m : Nat} (hk : k ≤ P.length) (hm : m < k) {s : List UInt8} (h : P[m]'(by omega) = s) : (P.take k).contains s = true := by
  rw [List.contains_iff_mem, List.mem_take_iff_getElem]
  exact ⟨m, by omega, h⟩
theorem con_miss {P : List (List UInt8)} {k : Nat} {s : List UInt8} (h : ∀ m, (hm : m < P.length) → m < k → P[m] ≠ s) : (P.take k).contains s = false := by
  rw [Bool.eq_false_iff]
  intro hc
  obtain ⟨m, hm, he⟩ := List.mem_take_iff_getElem.1 (List.contains_iff_mem.1 hc)
  exact h m (by omega) (by omega) he

set_option maxRecDepth 20000 in
set_option maxHeartbeats 2000000 in
theorem l13Names_any (v : Value) (P : List (List UInt8)) (w : World) (hr : Row w v P) (hl : P.length ≤ 1048576) (hx : Hid (∀ x ∈ P, x.length ≤ 1048576)) :
    Calls Tryd.prog 40 #[v] w fun e w' => e = .returned (.bool (nmsB P)) ∧ Below w.heap.size w w' := by
  obtain ⟨a, cap, rfl, hcap, hmax, HROW⟩ := row_value hr
  clear hr
  obtain ⟨good, hgood⟩ : ∃ good, good = nmsB P := ⟨_, rfl⟩
  have HGD : Hid (good = nmsB P) := hgood
  rw [← hgood]
  have HGN : Hid (∀ (x : List UInt8) W, x ∈ P → Calls Tryd.prog 59 #[.string ⟨x.toArray⟩] W fun e w' => e = .returned (.bool (nameB x)) ∧ Below W.heap.size W w') := fun x W hxm => by
    have h := sGoodName_any ⟨x.toArray⟩ W (by have := hx.out x hxm; rw [size_list]; omega)
    simpa using h
  have HIN : Hid (∀ W, Calls Tryd.prog 39 #[.int .i64 (P.length : Int), .int .i64 1, .int .i64 12] W fun e w' => e = .returned (.bool (inB (P.length : Int) 1 12)) ∧ w' = W) := fun W => l1In_any _ 1 12 W
  clear hgood
  go_enter Tryd.func40, Tryd.ntmps40
  go_wp2_with fail
  go_loopw [9] (fun i wr => ∃ k : Nat, k ≤ P.length ∧ i = .int .i64 (k : Int) ∧ Hid (∀ j, j < k → nmB P j = true) ∧ Below w.heap.size w wr) (fun i _ => P.length - (intOf i).toNat)
  case atStart => exact ⟨0, Nat.zero_le _, rfl, fun j h => absurd h (Nat.not_lt_zero _), Below.refl _ _⟩
  case round =>
    obtain ⟨k, hk, rfl, HK, hb⟩ := hrel
    by_cases hlt : k < P.length
    · obtain ⟨b, o, ha, hbl, hcel⟩ := HROW.out (by omega)
      rw [ha]
      have HC : Hid (∀ W, Below w.heap.size w W → ∀ j, (hj : j < P.length) → W.cell? ⟨b, o + j, none⟩ = some (.string ⟨P[j].toArray⟩)) := fun W hW j hj => by
        rw [hW.cell (p := ⟨b, o + j, none⟩) hbl]; exact hcel j hj
      have hcx := HC.out wr hb k hlt
      have HG1 := HGN.out _ wr (List.getElem_mem hlt)
      have HNM : Hid (nmB P k = (nameB (P[k]'hlt) && !((P[k]'hlt) == []) && !((P.take k).contains (P[k]'hlt)))) := nm_at hlt
      have HBAD : Hid (nmB P k = false → false = good) := fun h => by rw [HGD.out]; exact (nms_bad hlt h).symm
      have HHIT : Hid (∀ m, (hm : m < k) → P[m]'(by omega) = P[k]'hlt → false = good) := fun m hm h => HBAD.out (by rw [HNM.out, con_hit hk hm h]; simp)
      have HEND : Hid (nameB (P[k]'hlt) = true → ((P[k]'hlt) == []) = false → (∀ m, (hm : m < P.length) → m < k → P[m] ≠ P[k]'hlt) → ∀ j, j < k + 1 → nmB P j = true) := fun h1 h2 h3 j hj => by
        rcases Nat.lt_or_ge j k with h' | h'
        · exact HK.out j h'
        · obtain rfl : j = k := by omega
          rw [HNM.out, h1, h2, con_miss h3]; rfl
      obtain ⟨s, hs⟩ : ∃ s, s = P[k]'hlt := ⟨_, rfl⟩
      rw [← hs] at hcx HG1 HNM HHIT HEND
      have HG : Hid (Calls Tryd.prog 59 #[.string ⟨s.toArray⟩] wr fun e w' => e = .returned (.bool (nameB s)) ∧ Below wr.heap.size wr w') := HG1
      clear hcel hs HG1
      cases hN : nameB s with
      | false =>
        rw [hN] at HG HNM
        have HR : Hid (false = good) := HBAD.out HNM.out
        clear hN
        go_wp2_with fail
        refine HG.out.mono ?_
        rintro e w1 ⟨rfl, hb1⟩
        have hbw := hb.trans (hb1.mono hb.size)
        go_wp2_with fail
        go_ret
        exact ⟨ret_bool HR.out, hbw⟩
      | true =>
        rw [hN] at HG HNM HEND
        clear hN
        by_cases hn : s = []
        · subst hn
          have HR : Hid (false = good) := HBAD.out (by rw [HNM.out]; rfl)
          go_wp2_with fail
          refine HG.out.mono ?_
          rintro e w1 ⟨rfl, hb1⟩
          have hbw := hb.trans (hb1.mono hb.size)
          go_wp2_with fail
          go_ret
          exact ⟨ret_bool HR.out, hbw⟩
        · have e1 : (s == []) = false := by simpa using hn
          have HEND2 : Hid ((∀ m, (hm : m < P.length) → m < k → P[m] ≠ s) → ∀ j, j < k + 1 → nmB P j = true) := fun h => HEND.out rfl e1 h
          clear HEND HNM HBAD
          go_wp2_with fail
          refine HG.out.mono ?_
          rintro e w1 ⟨rfl, hb1⟩
          have hbw := hb.trans (hb1.mono hb.size)
          clear hb1 hcx HG
          go_wp2_with fail
          go_loopw [25] (fun i wr2 => ∃ m : Nat, m ≤ k ∧ i = .int .i64 (m : Int) ∧ Hid (∀ j, (hj : j < P.length) → j < m → P[j] ≠ s) ∧ Below w.heap.size w wr2) (fun i _ => k - (intOf i).toNat)
          case atStart => exact ⟨0, Nat.zero_le _, rfl, fun j _ h => absurd h (Nat.not_lt_zero _), hbw⟩
          case round =>
            obtain ⟨m, hm, rfl, HM, hb2⟩ := hrel
            by_cases hlm : m < k
            · have hcm := HC.out _ hb2 m (by omega)
              have HH := HHIT.out m hlm
              have HUP : Hid (P[m]'(by omega) ≠ s → ∀ j, (hj : j < P.length) → j < m + 1 → P[j] ≠ s) := fun h j hj h1 => by
                rcases Nat.lt_or_ge j m with h' | h'
                · exact HM.out j hj h'
                · obtain rfl : j = m := by omega
                  exact h
              obtain ⟨t, ht⟩ : ∃ t, t = P[m]'(by omega) := ⟨_, rfl⟩
              rw [← ht] at hcm HH HUP
              clear ht
              by_cases hts : t = s
              · have HR : Hid (false = good) := HH hts
                have e2 : (t == s) = true := by simpa using hts
                clear HH hts HUP
                go_wp2_with fail
                go_ret
                exact ⟨ret_bool HR.out, hb2⟩
              · have HN := HUP.out hts
                have HN2 : Hid (∀ j, (hj : j < P.length) → j < m + 1 → P[j] ≠ s) := HN
                have e2 : (t == s) = false := by simpa using hts
                clear HH hts HUP HN
                go_wp2_with fail
                go_roundw
                case rel => exact ⟨m + 1, by omega, by go_num, HN2, hb2⟩
                case measure => simp [intOf]; omega
            · have HN2 : Hid (∀ j, j < k + 1 → nmB P j = true) := HEND2.out (fun j hj h => HM.out j hj (by omega))
              go_wp2_with fail
              go_roundw
              case rel => exact ⟨k + 1, by omega, by go_num, HN2, hb2⟩
              case measure => simp [intOf]; omega
    · have HR : Hid (inB (P.length : Int) 1 12 = good) := by show _ = good; rw [HGD.out]; exact (nms_good (fun j hj => HK.out j (by omega))).symm
      go_wp2_with fail
      refine (HIN.out _).mono ?_
      rintro e w1 ⟨rfl, rfl⟩
      go_wp2_with fail
      go_ret
      exact ⟨ret_bool HR.out, hb⟩

set_option maxRecDepth 20000 in
set_option maxHeartbeats 400000 in
theorem l13Most_any (ri fa r : Int) (u : Bool) (n : ByteArray) (v : Value) (w : World) (hv : Hid (∃ a l c, v = .slice a l c)) :
    Calls Tryd.prog 47 #[HeaV ri fa v, .agg #[.string n, .bool u, .int .i64 r]] w fun e w' => e = .returned (.int .i64 (mostH ri fa u)) ∧ Below w.heap.size w w' := by
  unfold HeaV
  obtain ⟨a, l, c, rfl⟩ := hv.out
  have hb0 : Below w.heap.size w ((w.alloc (.cells #[.int .i64 ri, .int .i64 fa, .slice a l c] 26)).alloc (.cells #[.string n, .bool u, .int .i64 r] 68)) := ((Below.refl w.heap.size w).alloc (Nat.le_refl _) _).alloc (by simp) _
  clear hv
  cases u
  · go_enter Tryd.func47, Tryd.ntmps47
    go_wp2_with fail
    go_ret
    exact ⟨rfl, hb0⟩
  · go_enter Tryd.func47, Tryd.ntmps47
    go_wp2_with fail
    go_ret
    exact ⟨rfl, hb0⟩
end Go.Proofs.YtoopfmebpjojiaaDoor
