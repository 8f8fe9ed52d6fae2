import Derived.Test.YtdjlfgiiicgejaaGreatDoorZ47
import Derived.Test.YtdjlfgiiicgejaaGreatDoorZ48
import Derived.Deep.RegionHeld3
namespace Go.Proofs.YtdjlfgiiicgejaaGreatDoor
open Go.RowKit

/-- The text of a record, on a line of its own. -/
def lineT (x : (List UInt8 × Int × Int × List UInt8)) : List UInt8 := 10 :: recT x.1 x.2.1.toNat x.2.2.1.toNat x.2.2.2
/-- The text of a zone. -/
def headT (ap : List UInt8) (ct : Int) : List UInt8 := (if ap = [] then [46] else ap) ++ (32 :: numL ct.toNat)
def zonT (ap : List UInt8) (ct : Int) (L : List (List UInt8 × Int × Int × List UInt8)) : List UInt8 := headT ap ct ++ (L.map lineT).flatten
def zonX (ap : List UInt8) (ct : Int) (L : List (List UInt8 × Int × Int × List UInt8)) : List UInt8 := if zoneB ap ct L = true then zonT ap ct L else []
theorem zonT_snoc (ap : List UInt8) (ct : Int) (L : List (List UInt8 × Int × Int × List UInt8)) (k : Nat) (h : k < L.length) : zonT ap ct (L.take (k + 1)) = zonT ap ct (L.take k) ++ lineT L[k] := by
  unfold zonT
  rw [List.take_succ_eq_append_getElem h, List.map_append, List.flatten_append]; simp
theorem zone_ct2 {ap : List UInt8} {ct : Int} {L : List (List UInt8 × Int × Int × List UInt8)} (h : zoneB ap ct L = true) : inB ct 0 1152921504606846976 = true := by
  unfold zoneB at h; rw [Bool.and_eq_true] at h; exact h.1
theorem zone_ares {ap : List UInt8} {ct : Int} {L : List (List UInt8 × Int × Int × List UInt8)} (h : zoneB ap ct L = true) : L.length ≤ 40 ∧ aresB L = true := by
  unfold zoneB at h
  simp only [Bool.and_eq_true, decide_eq_true_eq] at h
  have h1 := h.2.1
  unfold ruleB at h1
  split at h1
  · rename_i h2
    rw [Bool.and_eq_true] at h2
    have h3 := h2.2
    unfold listB at h3
    simp only [Bool.and_eq_true, decide_eq_true_eq] at h3
    exact ⟨h3.1, h3.2.1⟩
  · cases h1

theorem line_len {x : (List UInt8 × Int × Int × List UInt8)} (h : recB x.1 x.2.1 x.2.2.1 x.2.2.2 = true) (hd : x.2.2.2.length ≤ 1048576) : (recT x.1 x.2.1.toNat x.2.2.1.toNat x.2.2.2).length ≤ 1048676 := by
  obtain ⟨f1, f2, f3, f4⟩ := recB_facts h
  have hn := (name_parts (recB_name h).1).2.1
  have h1 := numL_length 5 x.2.2.1.toNat (by omega)
  have h2 := numL_length 1 x.2.1.toNat (by omega)
  unfold recT
  split <;> simp <;> omega
theorem head_nil (ct : Int) (L : List (List UInt8 × Int × Int × List UInt8)) (ap : List UInt8) : zonT ap ct (L.take 0) = headT ap ct := by unfold zonT; simp
theorem recX_good {x : (List UInt8 × Int × Int × List UInt8)} (h : recB x.1 x.2.1 x.2.2.1 x.2.2.2 = true) : recX x.1 x.2.1 x.2.2.1 x.2.2.2 = recT x.1 x.2.1.toNat x.2.2.1.toNat x.2.2.2 := if_pos h

set_option maxRecDepth 20000 in
set_option maxHeartbeats 4000000 in
theorem iZoneText_any (nm : ByteArray) (ct : Int) (v : Value) (L : List (List UInt8 × Int × Int × List UInt8)) (w : World) (hr : RRow w v L) (hap : nm.size ≤ 1048576) (hx : Hid (∀ x ∈ L, x.1.length ≤ 1048576 ∧ x.2.2.2.length ≤ 1048576)) (hE : EnvZ w) :
    Calls Tryz.prog 37 #[ZonV nm ct v] w fun e w' => e = .returned (.tuple #[.string ⟨(zonX nm.data.toList ct L).toArray⟩, .bool (zoneB nm.data.toList ct L)]) ∧ Below w.heap.size w w' := by
  have HG : Hid (∀ W, Below w.heap.size w W → Calls Tryz.prog 14 #[ZonV nm ct v] W fun e w' => e = .returned (.bool (zoneB nm.data.toList ct L)) ∧ Below W.heap.size W w') := fun W hW => iGoodZone_any nm ct v L W (hr.kept hW) hap hx (hE.below hW)
  obtain ⟨a, cap, rfl, hcap, hmax, hrow⟩ := hr
  have HROW : Hid (L = [] ∨ ∃ b o, a = some ⟨b, o, none⟩ ∧ b < w.heap.size ∧ ∀ j, (hj : j < L.length) → RecAt w b (o + j * 4) L[j]) := hrow
  clear hrow
  unfold maxLen at hmax
  have hb0 : Below w.heap.size w (w.alloc (.cells #[.string nm, .int .i64 ct, .slice a L.length cap] 29)) := (Below.refl _ _).alloc (Nat.le_refl _) _
  cases hZ : zoneB nm.data.toList ct L with
  | false =>
    have HN : Hid (zonX nm.data.toList ct L = []) := if_neg (by rw [hZ]; simp)
    rw [hZ] at HG
    unfold ZonV at HG ⊢
    go_enter Tryz.func37, Tryz.ntmps37
    go_wp2_with fail
    refine (HG.out _ hb0).mono ?_
    rintro e w1 ⟨rfl, hb1⟩
    have hbw := (box3c hb1).2.2.2
    go_wp2_with fail
    go_ret2
    exact ⟨ret_two (by rw [HN.out]; rfl) rfl, hbw⟩
  | true =>
    have HN : Hid (zonX nm.data.toList ct L = zonT nm.data.toList ct L) := if_pos hZ
    obtain ⟨hl40, hares⟩ := zone_ares hZ
    have hc' : 0 ≤ ct ∧ ct ≤ 1152921504606846976 := by simpa [inB] using zone_ct2 hZ
    obtain ⟨cn, rfl⟩ : ∃ cn : Nat, ct = (cn : Int) := ⟨ct.toNat, by omega⟩
    have hql := numL_length 18 cn (by omega)
    have HIT0 : ∀ W, EnvZ W → Calls Tryz.prog 74 #[.int .i64 (cn : Int)] W fun e w' => e = .returned (.string ⟨(numL cn).toArray⟩) ∧ Below W.heap.size W w' := fun W hW => itoa_nat cn W (by omega) hW.1
    have HTN : Hid (∀ W, Calls Tryz.prog 73 #[.string nm] W fun e w' => e = .returned (.string (tnB nm)) ∧ w' = W) := fun W => textOfName_any nm W
    have HTD : Hid ((tnB nm).data.toList = if nm.data.toList = [] then [46] else nm.data.toList) := tnB_data nm
    have hts : (tnB nm).size ≤ 1048577 := tnB_size hap
    have HHD : Hid (headT nm.data.toList (cn : Int) = (if nm.data.toList = [] then [46] else nm.data.toList) ++ (32 :: numL cn)) := rfl
    obtain ⟨tn, htn⟩ : ∃ tn, tn = tnB nm := ⟨_, rfl⟩
    rw [← htn] at HTN HTD hts
    rw [← HTD.out] at HHD
    obtain ⟨q, hq⟩ : ∃ q, q = numL cn := ⟨_, rfl⟩
    rw [← hq] at HIT0 HHD hql
    have HIT : Hid (∀ W, EnvZ W → Calls Tryz.prog 74 #[.int .i64 (cn : Int)] W fun e w' => e = .returned (.string ⟨q.toArray⟩) ∧ Below W.heap.size W w') := HIT0
    have HRT : Hid (∀ (x : (List UInt8 × Int × Int × List UInt8)) W, x ∈ L → EnvZ W → Calls Tryz.prog 75 #[.agg #[.string ⟨x.1.toArray⟩, .int .i64 x.2.1, .int .i64 x.2.2.1, .string ⟨x.2.2.2.toArray⟩]] W fun e w' => e = .returned (.tuple #[.string ⟨(recT x.1 x.2.1.toNat x.2.2.1.toNat x.2.2.2).toArray⟩, .bool true]) ∧ Below W.heap.size W w') := fun x W hxm hW => by
      have hg : recB x.1 x.2.1 x.2.2.1 x.2.2.2 = true := List.all_eq_true.1 hares x hxm
      have h := iRecordText_any ⟨x.1.toArray⟩ ⟨x.2.2.2.toArray⟩ x.2.1 x.2.2.1 W (by rw [size_list]; exact (hx.out x hxm).1) (by rw [size_list]; exact (hx.out x hxm).2) hW.1
      rw [show recX (⟨x.1.toArray⟩ : ByteArray).data.toList x.2.1 x.2.2.1 (⟨x.2.2.2.toArray⟩ : ByteArray).data.toList = recT x.1 x.2.1.toNat x.2.2.1.toNat x.2.2.2 from recX_good hg, show recB (⟨x.1.toArray⟩ : ByteArray).data.toList x.2.1 x.2.2.1 (⟨x.2.2.2.toArray⟩ : ByteArray).data.toList = true from hg] at h
      exact h
    have HLN : Hid (∀ x ∈ L, (recT x.1 x.2.1.toNat x.2.2.1.toNat x.2.2.2).length ≤ 1048676) := fun x hxm => line_len (List.all_eq_true.1 hares x hxm) (hx.out x hxm).2
    rw [hZ] at HG
    unfold ZonV at HG ⊢
    clear htn hq HIT0 hares hZ
    go_enter Tryz.func37, Tryz.ntmps37
    go_wp2_with fail
    refine (HG.out _ hb0).mono ?_
    rintro e w1 ⟨rfl, hb1⟩
    obtain ⟨c0, c1, c2, hbw⟩ := box3c hb1
    have hz1 : w.heap.size < w1.heap.size := Nat.lt_of_lt_of_le (by simp) hb1.size
    have HX : Hid (∀ W, Below w1.heap.size w1 W → (W.cell? ⟨w.heap.size, 0, none⟩ = some (.string nm) ∧ W.cell? ⟨w.heap.size, 1, none⟩ = some (.int .i64 (cn : Int)) ∧ W.cell? ⟨w.heap.size, 2, none⟩ = some (.slice a L.length cap)) ∧ Below w.heap.size w W) := fun W hW => ⟨⟨(hW.cell (p := ⟨w.heap.size, 0, none⟩) hz1).trans c0, (hW.cell (p := ⟨w.heap.size, 1, none⟩) hz1).trans c1, (hW.cell (p := ⟨w.heap.size, 2, none⟩) hz1).trans c2⟩, hbw.trans (hW.mono hbw.size)⟩
    have HTR : Hid (∀ W W', Below w1.heap.size w1 W → Below W.heap.size W W' → Below w1.heap.size w1 W') := fun W W' h1 h2 => h1.trans (h2.mono h1.size)
    have hbd : Below w1.heap.size w1 w1.drew := (Below.refl _ _).drew
    clear hb1 c0 c1 c2
    go_wp2_with fail
    refine wp_region_quiet (C := fun W => Below w1.heap.size w1 W) (by kernel_rfl) (by kernel_rfl) hbd ?_
    refine wpQuiet_step (fun K hK => ?_)
    rw [if_pos (by rfl)]
    refine ⟨.pointer (some ⟨w.heap.size, 0, none⟩), fun W hW => quiet_ok ?_, hK _ ?_⟩
    · have qq := HX.out W hW
      obtain ⟨⟨m0, m1, m2⟩, _⟩ := qq
      go_simp
      all_goals (try omega)
    clear hK K
    simp only [Act.put, List.setIfInBounds_toArray, List.set_cons_succ, List.set_cons_zero]
    refine wpQuiet_step (fun K hK => ?_)
    rw [if_pos (by rfl)]
    refine ⟨.string nm, fun W hW => quiet_ok ?_, hK _ ?_⟩
    · have qq := HX.out W hW
      obtain ⟨⟨m0, m1, m2⟩, _⟩ := qq
      go_simp
      all_goals (try omega)
    clear hK K
    simp only [Act.put, List.setIfInBounds_toArray, List.set_cons_succ, List.set_cons_zero]
    refine wpQuiet_step (fun K hK => ?_)
    rw [if_pos (by rfl)]
    refine ⟨.string tn, fun W hW => quiet_call (f := 73) (args := #[.string nm]) ?_ ?_, hK _ ?_⟩
    · go_simp
    · exact (HTN.out W).mono fun e w'' h => ⟨h.1, by rw [h.2]; exact hW⟩
    clear hK K
    simp only [Act.put, List.setIfInBounds_toArray, List.set_cons_succ, List.set_cons_zero]
    refine wpQuiet_step (fun K hK => ?_)
    rw [if_pos (by rfl)]
    refine ⟨.string (tn ++ ⟨#[32]⟩), fun W hW => quiet_ok ?_, hK _ ?_⟩
    · have qq := HX.out W hW
      obtain ⟨⟨m0, m1, m2⟩, _⟩ := qq
      go_simp
      all_goals (try omega)
    clear hK K
    simp only [Act.put, List.setIfInBounds_toArray, List.set_cons_succ, List.set_cons_zero]
    refine wpQuiet_step (fun K hK => ?_)
    rw [if_pos (by rfl)]
    refine ⟨.pointer (some ⟨w.heap.size, 1, none⟩), fun W hW => quiet_ok ?_, hK _ ?_⟩
    · have qq := HX.out W hW
      obtain ⟨⟨m0, m1, m2⟩, _⟩ := qq
      go_simp
      all_goals (try omega)
    clear hK K
    simp only [Act.put, List.setIfInBounds_toArray, List.set_cons_succ, List.set_cons_zero]
    refine wpQuiet_step (fun K hK => ?_)
    rw [if_pos (by rfl)]
    refine ⟨.int .i64 (cn : Int), fun W hW => quiet_ok ?_, hK _ ?_⟩
    · have qq := HX.out W hW
      obtain ⟨⟨m0, m1, m2⟩, _⟩ := qq
      go_simp
      all_goals (try omega)
    clear hK K
    simp only [Act.put, List.setIfInBounds_toArray, List.set_cons_succ, List.set_cons_zero]
    refine wpQuiet_step (fun K hK => ?_)
    rw [if_pos (by rfl)]
    refine ⟨.string ⟨q.toArray⟩, fun W hW => quiet_call (f := 74) (args := #[.int .i64 (cn : Int)]) ?_ ?_, hK _ ?_⟩
    · go_simp
    · exact (HIT.out W (hE.below (HX.out W hW).2)).mono fun e w'' h => ⟨h.1, HTR.out _ _ hW h.2⟩
    clear hK K
    simp only [Act.put, List.setIfInBounds_toArray, List.set_cons_succ, List.set_cons_zero]
    refine wpQuiet_step (fun K hK => ?_)
    rw [if_pos (by rfl)]
    refine ⟨.string (tn ++ ⟨#[32]⟩ ++ ⟨q.toArray⟩), fun W hW => quiet_ok ?_, hK _ ?_⟩
    · have qq := HX.out W hW
      obtain ⟨⟨m0, m1, m2⟩, _⟩ := qq
      go_simp
      all_goals (try omega)
    clear hK K
    simp only [Act.put, List.setIfInBounds_toArray, List.set_cons_succ, List.set_cons_zero]
    refine wpQuiet_step (fun K hK => ?_)
    rw [if_pos (by rfl)]
    refine ⟨.string (tn ++ ⟨#[32]⟩ ++ ⟨q.toArray⟩), fun W hW => quiet_ok ?_, hK _ ?_⟩
    · have qq := HX.out W hW
      obtain ⟨⟨m0, m1, m2⟩, _⟩ := qq
      go_simp
      all_goals (try omega)
    clear hK K
    simp only [Act.put, List.setIfInBounds_toArray, List.set_cons_succ, List.set_cons_zero]
    refine wpQuiet_nil ?_
    intro W2 hW2
    obtain ⟨⟨n0, n1, n2⟩, hbw2⟩ := HX.out W2 hW2
    have HT0 : Hid ((tn ++ ⟨#[32]⟩ ++ ⟨q.toArray⟩ : ByteArray).data.toList = zonT nm.data.toList (cn : Int) (L.take 0) ∧ (tn ++ ⟨#[32]⟩ ++ ⟨q.toArray⟩ : ByteArray).size ≤ 1049000) := by
      constructor
      · rw [head_nil, HHD.out]; simp
      · have e : (tn ++ ⟨#[32]⟩ ++ ⟨q.toArray⟩ : ByteArray).size = tn.size + 1 + (⟨q.toArray⟩ : ByteArray).size := by simp; rfl
        have e2 : (⟨q.toArray⟩ : ByteArray).size = q.length := size_list q
        rw [e]; omega
    obtain ⟨t0, ht0⟩ : ∃ t0, t0 = (tn ++ ⟨#[32]⟩ ++ ⟨q.toArray⟩ : ByteArray) := ⟨_, rfl⟩
    rw [← ht0] at HT0 ⊢
    clear ht0
    go_wp2_with fail
    go_loopw [4, 23] (fun t i wr => ∃ (k : Nat) (tx : ByteArray), k ≤ L.length ∧ i = .int .i64 (k : Int) ∧ t = .string tx ∧ Hid (tx.data.toList = zonT nm.data.toList (cn : Int) (L.take k)) ∧ tx.size ≤ 1049000 + k * 1049000 ∧ Below w1.heap.size w1 wr) (fun _ i _ => L.length - (intOf i).toNat)
    case atStart => exact ⟨0, t0, Nat.zero_le _, rfl, rfl, HT0.out.1, by have := HT0.out.2; omega, hW2⟩
    case round =>
      obtain ⟨k, tx, hk, rfl, rfl, HT, htx, hb⟩ := hrel
      obtain ⟨_, hbwr⟩ := HX.out _ hb
      by_cases hlt : k < L.length
      · rcases HROW.out with hr | ⟨b, o, ha, hbl, hcel⟩
        · rw [hr] at hlt; simp at hlt
        · rw [ha]
          have hcx := (hcel k hlt).kept hbwr
          unfold RecAt at hcx
          obtain ⟨d0, d1, d2, d3⟩ := hcx
          have HNX := zonT_snoc nm.data.toList (cn : Int) L k hlt
          have hxm := List.getElem_mem hlt
          have HCC0 := fun W => HRT.out (L[k]'hlt) W hxm
          have hll := HLN.out _ hxm
          obtain ⟨x, hxe⟩ : ∃ x, x = L[k]'hlt := ⟨_, rfl⟩
          rw [← hxe] at d0 d1 d2 d3 HNX HCC0 hll
          obtain ⟨ln, hln⟩ : ∃ ln, ln = recT x.1 x.2.1.toNat x.2.2.1.toNat x.2.2.2 := ⟨_, rfl⟩
          have HLT : Hid (lineT x = 10 :: ln) := by unfold lineT; rw [hln]; exact rfl
          rw [← hln] at HCC0 hll
          have HCC : Hid (∀ W, EnvZ W → Calls Tryz.prog 75 #[.agg #[.string ⟨x.1.toArray⟩, .int .i64 x.2.1, .int .i64 x.2.2.1, .string ⟨x.2.2.2.toArray⟩]] W fun e w' => e = .returned (.tuple #[.string ⟨ln.toArray⟩, .bool true]) ∧ Below W.heap.size W w') := HCC0
          have HNN : Hid ((tx ++ (⟨#[10]⟩ ++ ⟨ln.toArray⟩) : ByteArray).data.toList = zonT nm.data.toList (cn : Int) (L.take (k + 1))) := by
            show (tx ++ (⟨#[10]⟩ ++ ⟨ln.toArray⟩) : ByteArray).data.toList = _
            rw [HNX, HLT.out, ← HT.out]; simp
          have hls : (⟨ln.toArray⟩ : ByteArray).size ≤ 1048676 := by rw [size_list]; exact hll
          have hns : (tx ++ (⟨#[10]⟩ ++ ⟨ln.toArray⟩) : ByteArray).size ≤ 1049000 + (k + 1) * 1049000 := by
            have e : (tx ++ (⟨#[10]⟩ ++ ⟨ln.toArray⟩) : ByteArray).size = tx.size + (1 + (⟨ln.toArray⟩ : ByteArray).size) := by simp; rfl
            rw [e]; omega
          have htb : tx.size ≤ 50000000 := by omega
          have hbk := hb.alloc hb.size (.cells #[.string ⟨x.1.toArray⟩, .int .i64 x.2.1, .int .i64 x.2.2.1, .string ⟨x.2.2.2.toArray⟩] 66)
          have hEk := hE.below (HX.out _ hbk).2
          clear hcel hxe hln HNX HCC0 HT hxm
          go_wp2_with fail
          refine (HCC.out _ hEk).mono ?_
          rintro e w3 ⟨rfl, hb3⟩
          have hbw3 := hbk.trans (hb3.mono hbk.size)
          go_wp2_with fail
          go_roundw
          case rel => exact ⟨k + 1, _, by omega, by go_num, rfl, HNN, hns, hbw3⟩
          case measure => simp [intOf]; omega
      · have HF : Hid (zonX nm.data.toList (cn : Int) L = tx.data.toList) := by
          rw [HN.out]
          have h := HT.out
          rw [List.take_of_length_le (by omega)] at h
          exact h.symm
        go_wp2_with fail
        go_ret2
        exact ⟨ret_two (by rw [HF.out]; exact (congrArg Value.string (data_eq (s := tx) rfl)).symm ▸ rfl) rfl, hbwr⟩

set_option maxRecDepth 20000 in
set_option maxHeartbeats 400000 in
theorem l6Counter_any (cn : Nat) (w : World) (h : cn ≤ 1152921504606846976) :
    Calls Tryz.prog 116 #[.int .i64 (cn : Int)] w fun e w' => e = .returned (.string ⟨(numL cn).toArray⟩) ∧ Below w.heap.size w w' := by
  go_enter Tryz.func116, Tryz.ntmps116
  go_wp2_with fail
  refine (l1Num_any cn cn _ (Nat.le_refl _) (by omega)).mono ?_
  rintro e w1 ⟨rfl, hb⟩
  go_wp2_with fail
  go_ret
  exact ⟨rfl, hb⟩

set_option maxRecDepth 20000 in
set_option maxHeartbeats 4000000 in
theorem l6Text_any (nm : ByteArray) (cn : Nat) (a : Option Addr) (cap : Nat) (L : List (List UInt8 × Int × Int × List UInt8)) (w : World) (hr : RRow w (.slice a L.length cap) L) (hcn : cn ≤ 1152921504606846976) (hap : nm.size ≤ 1048576) (hl40 : L.length ≤ 40) (hx : Hid (∀ x ∈ L, x.1.length ≤ 1048576 ∧ x.2.2.2.length ≤ 1048576)) (hares : Hid (aresB L = true)) :
    Calls Tryz.prog 72 #[.agg #[.string nm, .int .i64 (cn : Int), .slice a L.length cap]] w fun e w' => e = .returned (.string ⟨(zonT nm.data.toList (cn : Int) L).toArray⟩) ∧ Below w.heap.size w w' := by
  obtain ⟨a', cap', he, hcap, hmax, hrow⟩ := hr
  injection he with he1 he2 he3
  subst he1
  subst he3
  clear he2
  have HROW : Hid (L = [] ∨ ∃ b o, a = some ⟨b, o, none⟩ ∧ b < w.heap.size ∧ ∀ j, (hj : j < L.length) → RecAt w b (o + j * 4) L[j]) := hrow
  clear hrow
  unfold maxLen at hmax
  have HCT : Hid (∀ W, Calls Tryz.prog 116 #[.int .i64 (cn : Int)] W fun e w' => e = .returned (.string ⟨(numL cn).toArray⟩) ∧ Below W.heap.size W w') := fun W => l6Counter_any cn W hcn
  have hql := numL_length 18 cn (by omega)
  have HHD : Hid (headT nm.data.toList (cn : Int) = (if nm.data.toList = [] then [46] else nm.data.toList) ++ (32 :: numL cn)) := rfl
  have HRT : Hid (∀ (x : (List UInt8 × Int × Int × List UInt8)) W, x ∈ L → Calls Tryz.prog 117 #[.agg #[.string ⟨x.1.toArray⟩, .int .i64 x.2.1, .int .i64 x.2.2.1, .string ⟨x.2.2.2.toArray⟩]] W fun e w' => e = .returned (.string ⟨(recT x.1 x.2.1.toNat x.2.2.1.toNat x.2.2.2).toArray⟩) ∧ Below W.heap.size W w') := fun x W hxm => by
    have hg : recB x.1 x.2.1 x.2.2.1 x.2.2.2 = true := List.all_eq_true.1 hares.out x hxm
    obtain ⟨f1, f2, f3, f4⟩ := recB_facts hg
    have h := l3Text_any ⟨x.1.toArray⟩ ⟨x.2.2.2.toArray⟩ x.2.1.toNat x.2.2.1.toNat W (by rw [size_list]; exact (hx.out x hxm).1) (by rw [size_list]; exact (hx.out x hxm).2) (by omega) (by omega)
    rw [show ((x.2.1.toNat : Nat) : Int) = x.2.1 by omega, show ((x.2.2.1.toNat : Nat) : Int) = x.2.2.1 by omega] at h
    exact h
  have HLN : Hid (∀ x ∈ L, (recT x.1 x.2.1.toNat x.2.2.1.toNat x.2.2.2).length ≤ 1048676) := fun x hxm => line_len (List.all_eq_true.1 hares.out x hxm) (hx.out x hxm).2
  obtain ⟨q, hq⟩ : ∃ q, q = numL cn := ⟨_, rfl⟩
  rw [← hq] at HCT HHD hql
  clear hq
  by_cases h0 : nm.data.toList = []
  · rw [if_pos h0] at HHD
    have e1 : (nm.toList == []) = true := by rw [ByteArray.toList_eq]; simpa using h0
    have e2 : nm.toList.isEmpty = true := by rw [ByteArray.toList_eq]; simpa using h0
    clear h0
    go_enter Tryz.func72, Tryz.ntmps72
    go_wp2_with fail
    refine (HCT.out _).mono ?_
    rintro e w1 ⟨rfl, hb1⟩
    obtain ⟨c0, c1, c2, hbw⟩ := box3c hb1
    have HT0 : Hid ((⟨#[46]⟩ ++ (⟨#[32]⟩ ++ ⟨q.toArray⟩) : ByteArray).data.toList = zonT nm.data.toList (cn : Int) (L.take 0) ∧ (⟨#[46]⟩ ++ (⟨#[32]⟩ ++ ⟨q.toArray⟩) : ByteArray).size ≤ 1049000) := by
      constructor
      · rw [head_nil, HHD.out]; simp
      · have e : (⟨#[46]⟩ ++ (⟨#[32]⟩ ++ ⟨q.toArray⟩) : ByteArray).size = 1 + (1 + (⟨q.toArray⟩ : ByteArray).size) := by simp; rfl
        have e2 : (⟨q.toArray⟩ : ByteArray).size = q.length := size_list q
        rw [e]; omega
    clear hb1
    go_wp2_with fail
    go_loopw [3, 19] (fun t i wr => ∃ (k : Nat) (tx : ByteArray), k ≤ L.length ∧ i = .int .i64 (k : Int) ∧ t = .string tx ∧ Hid (tx.data.toList = zonT nm.data.toList (cn : Int) (L.take k)) ∧ tx.size ≤ 1049000 + k * 1049000 ∧ Below w.heap.size w wr) (fun _ i _ => L.length - (intOf i).toNat)
    case atStart => exact ⟨0, _, Nat.zero_le _, rfl, rfl, HT0.out.1, by have := HT0.out.2; omega, hbw⟩
    case round =>
      obtain ⟨k, tx, hk, rfl, rfl, HT, htx, hb⟩ := hrel
      by_cases hlt : k < L.length
      · rcases HROW.out with hr | ⟨b, o, ha, hbl, hcel⟩
        · rw [hr] at hlt; simp at hlt
        · rw [ha]
          have hcx := (hcel k hlt).kept hb
          unfold RecAt at hcx
          obtain ⟨d0, d1, d2, d3⟩ := hcx
          have HNX := zonT_snoc nm.data.toList (cn : Int) L k hlt
          have hxm := List.getElem_mem hlt
          have HCC0 := fun W => HRT.out (L[k]'hlt) W hxm
          have hll := HLN.out _ hxm
          obtain ⟨x, hxe⟩ : ∃ x, x = L[k]'hlt := ⟨_, rfl⟩
          rw [← hxe] at d0 d1 d2 d3 HNX HCC0 hll
          obtain ⟨ln, hln⟩ : ∃ ln, ln = recT x.1 x.2.1.toNat x.2.2.1.toNat x.2.2.2 := ⟨_, rfl⟩
          have HLT : Hid (lineT x = 10 :: ln) := by unfold lineT; rw [hln]; exact rfl
          rw [← hln] at HCC0 hll
          have HCC : Hid (∀ W, Calls Tryz.prog 117 #[.agg #[.string ⟨x.1.toArray⟩, .int .i64 x.2.1, .int .i64 x.2.2.1, .string ⟨x.2.2.2.toArray⟩]] W fun e w' => e = .returned (.string ⟨ln.toArray⟩) ∧ Below W.heap.size W w') := HCC0
          have HNN : Hid ((tx ++ (⟨#[10]⟩ ++ ⟨ln.toArray⟩) : ByteArray).data.toList = zonT nm.data.toList (cn : Int) (L.take (k + 1))) := by
            show (tx ++ (⟨#[10]⟩ ++ ⟨ln.toArray⟩) : ByteArray).data.toList = _
            rw [HNX, HLT.out, ← HT.out]; simp
          have hls : (⟨ln.toArray⟩ : ByteArray).size ≤ 1048676 := by rw [size_list]; exact hll
          have hns : (tx ++ (⟨#[10]⟩ ++ ⟨ln.toArray⟩) : ByteArray).size ≤ 1049000 + (k + 1) * 1049000 := by
            have e : (tx ++ (⟨#[10]⟩ ++ ⟨ln.toArray⟩) : ByteArray).size = tx.size + (1 + (⟨ln.toArray⟩ : ByteArray).size) := by simp; rfl
            rw [e]; omega
          have htb : tx.size ≤ 50000000 := by omega
          have hbk := hb.alloc hb.size (.cells #[.string ⟨x.1.toArray⟩, .int .i64 x.2.1, .int .i64 x.2.2.1, .string ⟨x.2.2.2.toArray⟩] 66)
          clear hcel hxe hln HNX HCC0 HT hxm
          go_wp2_with fail
          refine (HCC.out _).mono ?_
          rintro e w3 ⟨rfl, hb3⟩
          have hbw3 := hbk.trans (hb3.mono hbk.size)
          go_wp2_with fail
          go_roundw
          case rel => exact ⟨k + 1, _, by omega, by go_num, rfl, HNN, hns, hbw3⟩
          case measure => simp [intOf]; omega
      · have HF : Hid (zonT nm.data.toList (cn : Int) L = tx.data.toList) := by
          have h := HT.out
          rw [List.take_of_length_le (by omega)] at h
          exact h.symm
        go_wp2_with fail
        go_ret
        refine ⟨?_, hb⟩
        rw [HF.out]
        exact congrArg (fun b => Ending.returned (.string b)) (data_eq (s := tx) rfl)
  · rw [if_neg h0] at HHD
    have e1 : (nm.toList == []) = false := by rw [ByteArray.toList_eq]; simpa using h0
    have e2 : nm.toList.isEmpty = false := by rw [ByteArray.toList_eq]; simpa using h0
    clear h0
    go_enter Tryz.func72, Tryz.ntmps72
    go_wp2_with fail
    refine (HCT.out _).mono ?_
    rintro e w1 ⟨rfl, hb1⟩
    obtain ⟨c0, c1, c2, hbw⟩ := box3c hb1
    have HT0 : Hid ((nm ++ (⟨#[32]⟩ ++ ⟨q.toArray⟩) : ByteArray).data.toList = zonT nm.data.toList (cn : Int) (L.take 0) ∧ (nm ++ (⟨#[32]⟩ ++ ⟨q.toArray⟩) : ByteArray).size ≤ 1049000) := by
      constructor
      · rw [head_nil, HHD.out]; simp
      · have e : (nm ++ (⟨#[32]⟩ ++ ⟨q.toArray⟩) : ByteArray).size = nm.size + (1 + (⟨q.toArray⟩ : ByteArray).size) := by simp; rfl
        have e2 : (⟨q.toArray⟩ : ByteArray).size = q.length := size_list q
        rw [e]; omega
    clear hb1
    go_wp2_with fail
    go_loopw [3, 19] (fun t i wr => ∃ (k : Nat) (tx : ByteArray), k ≤ L.length ∧ i = .int .i64 (k : Int) ∧ t = .string tx ∧ Hid (tx.data.toList = zonT nm.data.toList (cn : Int) (L.take k)) ∧ tx.size ≤ 1049000 + k * 1049000 ∧ Below w.heap.size w wr) (fun _ i _ => L.length - (intOf i).toNat)
    case atStart => exact ⟨0, _, Nat.zero_le _, rfl, rfl, HT0.out.1, by have := HT0.out.2; omega, hbw⟩
    case round =>
      obtain ⟨k, tx, hk, rfl, rfl, HT, htx, hb⟩ := hrel
      by_cases hlt : k < L.length
      · rcases HROW.out with hr | ⟨b, o, ha, hbl, hcel⟩
        · rw [hr] at hlt; simp at hlt
        · rw [ha]
          have hcx := (hcel k hlt).kept hb
          unfold RecAt at hcx
          obtain ⟨d0, d1, d2, d3⟩ := hcx
          have HNX := zonT_snoc nm.data.toList (cn : Int) L k hlt
          have hxm := List.getElem_mem hlt
          have HCC0 := fun W => HRT.out (L[k]'hlt) W hxm
          have hll := HLN.out _ hxm
          obtain ⟨x, hxe⟩ : ∃ x, x = L[k]'hlt := ⟨_, rfl⟩
          rw [← hxe] at d0 d1 d2 d3 HNX HCC0 hll
          obtain ⟨ln, hln⟩ : ∃ ln, ln = recT x.1 x.2.1.toNat x.2.2.1.toNat x.2.2.2 := ⟨_, rfl⟩
          have HLT : Hid (lineT x = 10 :: ln) := by unfold lineT; rw [hln]; exact rfl
          rw [← hln] at HCC0 hll
          have HCC : Hid (∀ W, Calls Tryz.prog 117 #[.agg #[.string ⟨x.1.toArray⟩, .int .i64 x.2.1, .int .i64 x.2.2.1, .string ⟨x.2.2.2.toArray⟩]] W fun e w' => e = .returned (.string ⟨ln.toArray⟩) ∧ Below W.heap.size W w') := HCC0
          have HNN : Hid ((tx ++ (⟨#[10]⟩ ++ ⟨ln.toArray⟩) : ByteArray).data.toList = zonT nm.data.toList (cn : Int) (L.take (k + 1))) := by
            show (tx ++ (⟨#[10]⟩ ++ ⟨ln.toArray⟩) : ByteArray).data.toList = _
            rw [HNX, HLT.out, ← HT.out]; simp
          have hls : (⟨ln.toArray⟩ : ByteArray).size ≤ 1048676 := by rw [size_list]; exact hll
          have hns : (tx ++ (⟨#[10]⟩ ++ ⟨ln.toArray⟩) : ByteArray).size ≤ 1049000 + (k + 1) * 1049000 := by
            have e : (tx ++ (⟨#[10]⟩ ++ ⟨ln.toArray⟩) : ByteArray).size = tx.size + (1 + (⟨ln.toArray⟩ : ByteArray).size) := by simp; rfl
            rw [e]; omega
          have htb : tx.size ≤ 50000000 := by omega
          have hbk := hb.alloc hb.size (.cells #[.string ⟨x.1.toArray⟩, .int .i64 x.2.1, .int .i64 x.2.2.1, .string ⟨x.2.2.2.toArray⟩] 66)
          clear hcel hxe hln HNX HCC0 HT hxm
          go_wp2_with fail
          refine (HCC.out _).mono ?_
          rintro e w3 ⟨rfl, hb3⟩
          have hbw3 := hbk.trans (hb3.mono hbk.size)
          go_wp2_with fail
          go_roundw
          case rel => exact ⟨k + 1, _, by omega, by go_num, rfl, HNN, hns, hbw3⟩
          case measure => simp [intOf]; omega
      · have HF : Hid (zonT nm.data.toList (cn : Int) L = tx.data.toList) := by
          have h := HT.out
          rw [List.take_of_length_le (by omega)] at h
          exact h.symm
        go_wp2_with fail
        go_ret
        refine ⟨?_, hb⟩
        rw [HF.out]
        exact congrArg (fun b => Ending.returned (.string b)) (data_eq (s := tx) rfl)

set_option maxRecDepth 20000 in
set_option maxHeartbeats 1000000 in
theorem sZoneText_any (nm : ByteArray) (ct : Int) (v : Value) (L : List (List UInt8 × Int × Int × List UInt8)) (w : World) (hr : RRow w v L) (hap : nm.size ≤ 1048576) (hl : L.length ≤ 1048576) (hx : Hid (∀ x ∈ L, x.1.length ≤ 1048576 ∧ x.2.2.2.length ≤ 1048576)) :
    Calls Tryz.prog 36 #[ZonV nm ct v] w fun e w' => e = .returned (.tuple #[.string ⟨(zonX nm.data.toList ct L).toArray⟩, .bool (zoneB nm.data.toList ct L)]) ∧ Below w.heap.size w w' := by
  have HG : Hid (∀ W, Below w.heap.size w W → Calls Tryz.prog 12 #[ZonV nm ct v] W fun e w' => e = .returned (.bool (zoneB nm.data.toList ct L)) ∧ Below W.heap.size W w') := fun W hW => sGoodZone_any nm ct v L W (hr.kept hW) hap hl hx
  have HRR : Hid (∀ W, Below w.heap.size w W → RRow W v L) := fun W hW => hr.kept hW
  obtain ⟨a, cap, rfl, _⟩ := hr
  have hb0 : Below w.heap.size w (w.alloc (.cells #[.string nm, .int .i64 ct, .slice a L.length cap] 29)) := (Below.refl _ _).alloc (Nat.le_refl _) _
  cases hZ : zoneB nm.data.toList ct L with
  | false =>
    have HN : Hid (zonX nm.data.toList ct L = []) := if_neg (by rw [hZ]; simp)
    rw [hZ] at HG
    unfold ZonV at HG ⊢
    go_enter Tryz.func36, Tryz.ntmps36
    go_wp2_with fail
    refine (HG.out _ hb0).mono ?_
    rintro e w1 ⟨rfl, hb1⟩
    have hbw := (box3c hb1).2.2.2
    go_wp2_with fail
    go_ret2
    exact ⟨ret_two (by rw [HN.out]; rfl) rfl, hbw⟩
  | true =>
    have HN : Hid (zonX nm.data.toList ct L = zonT nm.data.toList ct L) := if_pos hZ
    obtain ⟨hl40, hares⟩ := zone_ares hZ
    have hc' : 0 ≤ ct ∧ ct ≤ 1152921504606846976 := by simpa [inB] using zone_ct2 hZ
    obtain ⟨cn, rfl⟩ : ∃ cn : Nat, ct = (cn : Int) := ⟨ct.toNat, by omega⟩
    have HT : Hid (∀ W, Below w.heap.size w W → Calls Tryz.prog 72 #[.agg #[.string nm, .int .i64 (cn : Int), .slice a L.length cap]] W fun e w' => e = .returned (.string ⟨(zonT nm.data.toList (cn : Int) L).toArray⟩) ∧ Below W.heap.size W w') := fun W hW => l6Text_any nm cn a cap L W (HRR.out W hW) (by omega) hap hl40 hx hares
    rw [← HN.out] at HT
    obtain ⟨z, hz⟩ : ∃ z, z = zonX nm.data.toList (cn : Int) L := ⟨_, rfl⟩
    rw [← hz] at HT ⊢
    rw [hZ] at HG
    clear hz HN hZ hares
    unfold ZonV at HG ⊢
    go_enter Tryz.func36, Tryz.ntmps36
    go_wp2_with fail
    refine (HG.out _ hb0).mono ?_
    rintro e w1 ⟨rfl, hb1⟩
    obtain ⟨c0, c1, c2, hbw⟩ := box3c hb1
    go_wp2_with fail
    refine (HT.out _ hbw).mono ?_
    rintro e w2 ⟨rfl, hb2⟩
    go_wp2_with fail
    go_ret2
    exact ⟨rfl, hbw.trans (hb2.mono hbw.size)⟩
end Go.Proofs.YtdjlfgiiicgejaaGreatDoor

namespace Go.Proofs.YtdjlfgiiicgejaaGreatDoor.zoneText
open Go.RowKit

set_option maxRecDepth 20000 in
set_option maxHeartbeats 8000000 in
theorem core (nm : ByteArray) (ct : Int) (va : Value) (L : List (List UInt8 × Int × Int × List UInt8)) (t : List UInt8) (ok : Bool) (w : World) (hn : nm.size ≤ maxLen) (ha : RRow w va L) (hxa : Hid (∀ x ∈ L, x.1.length ≤ maxLen ∧ x.2.2.2.length ≤ maxLen)) (hE : EnvZ w)
    (HS0 : Hid (∀ g W, nm.size ≤ 1048576 → L.length ≤ 1048576 → Hid (∀ x ∈ L, x.1.length ≤ 1048576 ∧ x.2.2.2.length ≤ 1048576) → QRow W g L → Calls Tryz.prog 36 #[ZonV nm ct (.slice (some ⟨g, 0, none⟩) L.length L.length)] W fun e w' => e = .returned (.tuple #[.string ⟨t.toArray⟩, .bool ok]) ∧ Below W.heap.size W w'))
    (HI0 : Hid (∀ g W, EnvZ W → nm.size ≤ 1048576 → L.length ≤ 1048576 → Hid (∀ x ∈ L, x.1.length ≤ 1048576 ∧ x.2.2.2.length ≤ 1048576) → QRow W g L → Calls Tryz.prog 37 #[ZonV nm ct (.slice (some ⟨g, 0, none⟩) L.length L.length)] W fun e w' => e = .returned (.tuple #[.string ⟨t.toArray⟩, .bool ok]) ∧ Below W.heap.size W w')) :
    Calls Tryz.prog 8 #[ZonV nm ct va] w fun e w' => e = .returned (.bool true) ∧ Below w.heap.size w w' := by
  obtain ⟨aa, ca, hva, _, hca, _⟩ := id ha
  have HSZ : Hid (∀ W, Below w.heap.size w W → Calls Tryz.prog 11 #[ZonV nm ct va, .int .i64 1048576] W fun e w' => (∃ q : Int, e = .returned (.int .i64 q) ∧ (q = -1 ∨ (0 ≤ q ∧ q = 1048576 - (nm.size : Int) - (L.length : Int) - (wtR L : Int)))) ∧ Below W.heap.size W w') := fun W hW => szZone_any nm ct va L 1048576 W hn (ha.kept hW) hxa (by omega) (by omega)
  have HTO : Hid (L.length ≤ 1048576 → ∀ W, Below w.heap.size w W → Calls Tryz.prog 13 #[ZonV nm ct va] W fun e w' => (∃ g, e = .returned (ZonV nm ct (.slice (some ⟨g, 0, none⟩) L.length L.length)) ∧ W.heap.size ≤ g ∧ QRow w' g L) ∧ Below W.heap.size W w') := fun h1 W hW => toZone_any nm ct va L W (ha.kept hW) h1
  subst hva
  clear ha
  unfold ZonV at HSZ HTO ⊢
  go_enter Tryz.func8, Tryz.ntmps8
  go_wp2_with fail
  refine (HSZ.out _ ((Below.refl w.heap.size w).alloc (Nat.le_refl _) _)).mono ?_
  rintro e w1 ⟨⟨q, rfl, hq⟩, hb1⟩
  have hbw1 : Below w.heap.size w w1 := ((Below.refl w.heap.size w).alloc (Nat.le_refl _) _).trans (hb1.mono (by simp))
  have HP1 : Hid (w1.heap[w.heap.size]? = some (.cells #[.string nm, .int .i64 ct, .slice aa L.length ca] 24)) := (hb1.block w.heap.size (by simp)).trans (blk_new _ _)
  have hz1 : w.heap.size < w1.heap.size := Nat.lt_of_lt_of_le (by simp) hb1.size
  clear hb1
  rcases hq with rfl | ⟨hq0, hqe⟩
  · go_wp2_with fail
    go_ret
    exact ⟨rfl, hbw1⟩
  · obtain ⟨hn', hL, hL2⟩ := sz_zone hq0 hqe
    have HL2 : Hid (∀ x ∈ L, x.1.length ≤ 1048576 ∧ x.2.2.2.length ≤ 1048576) := hL2
    have HT : Hid (∀ W, Below w.heap.size w W → Calls Tryz.prog 13 #[.agg #[.string nm, .int .i64 ct, .slice aa L.length ca]] W fun e w' => (∃ g, e = .returned (.agg #[.string nm, .int .i64 ct, .slice (some ⟨g, 0, none⟩) L.length L.length]) ∧ W.heap.size ≤ g ∧ QRow w' g L) ∧ Below W.heap.size W w') := HTO.out hL
    have HSP : Hid (∀ g W, QRow W g L → Calls Tryz.prog 36 #[ZonV nm ct (.slice (some ⟨g, 0, none⟩) L.length L.length)] W fun e w' => e = .returned (.tuple #[.string ⟨t.toArray⟩, .bool ok]) ∧ Below W.heap.size W w') := fun g W h1 => HS0.out g W hn' hL HL2 h1
    have HI : Hid (∀ g W, EnvZ W → QRow W g L → Calls Tryz.prog 37 #[ZonV nm ct (.slice (some ⟨g, 0, none⟩) L.length L.length)] W fun e w' => e = .returned (.tuple #[.string ⟨t.toArray⟩, .bool ok]) ∧ Below W.heap.size W w') := fun g W hW h1 => HI0.out g W hW hn' hL HL2 h1
    have HEQ : Hid (∀ g1 g2 W, QRow W g1 L → QRow W g2 L → Calls Tryz.prog 15 #[ZonV nm ct (.slice (some ⟨g1, 0, none⟩) L.length L.length), ZonV nm ct (.slice (some ⟨g2, 0, none⟩) L.length L.length)] W fun e w' => e = .returned (.bool true) ∧ Below W.heap.size W w') := fun g1 g2 W h1 h2 => eqZone_same nm ct _ _ L W (h1.row (Nat.le_refl _) (by unfold maxLen; omega)) (h2.row (Nat.le_refl _) (by unfold maxLen; omega))
    have e2 : (ok != ok) = false := by simp
    have e3 : (t != t) = false := by simp
    unfold ZonV at HSP HI HEQ
    obtain ⟨⟨p0, p1, p2⟩, _⟩ := zon_cells HP1.out
    clear hqe hL2 HTO HI0 HS0 HSZ
    go_wp2_with fail
    refine (HT.out _ hbw1).mono ?_
    rintro e w2 ⟨⟨g1, rfl, hg1, hqa⟩, hb2⟩
    clear p0 p1 p2
    have hbw2 : Below w.heap.size w w2 := hbw1.trans (hb2.mono hbw1.size)
    have HP2 : Hid (w2.heap[w.heap.size]? = some (.cells #[.string nm, .int .i64 ct, .slice aa L.length ca] 24)) := (hb2.block w.heap.size hz1).trans HP1.out
    have hz2 : w.heap.size < w2.heap.size := Nat.lt_of_lt_of_le hz1 hb2.size
    have HQA : Hid (QRow w2 g1 L) := hqa
    clear hqa hg1 hb2 HP1 hbw1
    go_wp2_with fail
    refine (HSP.out g1 _ HQA.out).mono ?_
    rintro e w3 ⟨rfl, hb3⟩
    have hbw3 : Below w.heap.size w w3 := hbw2.trans (hb3.mono hbw2.size)
    have HP3 : Hid (w3.heap[w.heap.size]? = some (.cells #[.string nm, .int .i64 ct, .slice aa L.length ca] 24)) := (hb3.block w.heap.size hz2).trans HP2.out
    have hz3 : w.heap.size < w3.heap.size := Nat.lt_of_lt_of_le hz2 hb3.size
    obtain ⟨⟨p0, p1, p2⟩, _⟩ := zon_cells HP3.out
    clear HQA hb3 HP2 hbw2
    go_wp2_with fail
    refine (HT.out _ hbw3).mono ?_
    rintro e w4 ⟨⟨g3, rfl, hg3, hqa⟩, hb4⟩
    clear p0 p1 p2
    have hbw4 : Below w.heap.size w w4 := hbw3.trans (hb4.mono hbw3.size)
    have HP4 : Hid (w4.heap[w.heap.size]? = some (.cells #[.string nm, .int .i64 ct, .slice aa L.length ca] 24)) := (hb4.block w.heap.size hz3).trans HP3.out
    have hz4 : w.heap.size < w4.heap.size := Nat.lt_of_lt_of_le hz3 hb4.size
    have HQA : Hid (QRow w4 g3 L) := hqa
    clear hqa hg3 hb4 HP3 hbw3
    go_wp2_with fail
    refine (HI.out g3 _ (hE.below (hbw4.alloc hbw4.size _)) (HQA.out.kept ((Below.refl w4.heap.size w4).alloc (Nat.le_refl _) _))).mono ?_
    rintro e w5 ⟨rfl, hb5⟩
    have hb45 : Below w4.heap.size w4 w5 := ((Below.refl w4.heap.size w4).alloc (Nat.le_refl _) _).trans (hb5.mono (by simp))
    have hbw5 : Below w.heap.size w w5 := hbw4.trans (hb45.mono hbw4.size)
    have hz5 : w.heap.size < w5.heap.size := Nat.lt_of_lt_of_le hz4 hb45.size
    have hz45 : w4.heap.size < w5.heap.size := Nat.lt_of_lt_of_le (by simp) hb5.size
    have HC : Hid (∀ W, Below w5.heap.size w5 W → (W.cell? ⟨w.heap.size, 0, none⟩ = some (.string nm) ∧ W.cell? ⟨w.heap.size, 1, none⟩ = some (.int .i64 ct) ∧ W.cell? ⟨w.heap.size, 2, none⟩ = some (.slice aa L.length ca)) ∧ (W.cell? ⟨w4.heap.size, 0, none⟩ = some (.string nm) ∧ W.cell? ⟨w4.heap.size, 1, none⟩ = some (.int .i64 ct) ∧ W.cell? ⟨w4.heap.size, 2, none⟩ = some (.slice (some ⟨g3, 0, none⟩) L.length L.length)) ∧ Below w5.heap.size w5 W) := fun W hW =>
      ⟨(zon_cells ((hW.block w.heap.size hz5).trans ((hb45.block w.heap.size hz4).trans HP4.out))).1, (zon_cells ((hW.block w4.heap.size hz45).trans ((hb5.block w4.heap.size (by simp)).trans (blk_new _ _)))).1, hW⟩
    have HT5 : Hid (∀ W, Below w5.heap.size w5 W → Calls Tryz.prog 13 #[.agg #[.string nm, .int .i64 ct, .slice aa L.length ca]] W fun e w' => (∃ g, e = .returned (.agg #[.string nm, .int .i64 ct, .slice (some ⟨g, 0, none⟩) L.length L.length]) ∧ W.heap.size ≤ g ∧ QRow w' g L) ∧ Below W.heap.size W w') := fun W hW => HT.out W (hbw5.trans (hW.mono hbw5.size))
    have HEQ5 : Hid (∀ g W, Below w5.heap.size w5 W → QRow W g L → Calls Tryz.prog 15 #[.agg #[.string nm, .int .i64 ct, .slice (some ⟨g3, 0, none⟩) L.length L.length], .agg #[.string nm, .int .i64 ct, .slice (some ⟨g, 0, none⟩) L.length L.length]] W fun e w' => e = .returned (.bool true) ∧ Below W.heap.size W w') := fun g W hW h1 => HEQ.out g3 g W ((HQA.out.kept hb45).kept hW) h1
    have HTR : Hid (∀ W W', Below w5.heap.size w5 W → Below W.heap.size W W' → Below w5.heap.size w5 W') := fun W W' h1 h2 => h1.trans (h2.mono h1.size)
    have hbz : Below w5.heap.size w5 w5 := Below.refl _ _
    have hbd : Below w5.heap.size w5 w5.drew := (Below.refl _ _).drew
    clear hb5 hb45 hbw4 HP4 HQA HT HI HSP HEQ
    go_wp2_with fail
    go_region_held3 (fun W => (W.cell? ⟨w.heap.size, 0, none⟩ = some (.string nm) ∧ W.cell? ⟨w.heap.size, 1, none⟩ = some (.int .i64 ct) ∧ W.cell? ⟨w.heap.size, 2, none⟩ = some (.slice aa L.length ca)) ∧ (W.cell? ⟨w4.heap.size, 0, none⟩ = some (.string nm) ∧ W.cell? ⟨w4.heap.size, 1, none⟩ = some (.int .i64 ct) ∧ W.cell? ⟨w4.heap.size, 2, none⟩ = some (.slice (some ⟨g3, 0, none⟩) L.length L.length)) ∧ Below w5.heap.size w5 W) (first | exact HC.out _ (by assumption) | exact HC.out _ (Below.drew (by assumption)))
      (first
      | (go_at_call 13; refine (HT5.out _ (by assumption)).mono ?_; rintro e w6 ⟨⟨g5, rfl, _, hqa6⟩, hb6⟩; have hb56 := HTR.out _ _ (by assumption) hb6)
      | (go_at_call 15; refine (HEQ5.out _ _ (by assumption) (by assumption)).mono ?_; rintro e w7 ⟨rfl, hb7⟩; have hb57 := HTR.out _ _ (by assumption) hb7))
    have hbw7 := hbw5.trans (hb57.mono hbw5.size)
    go_wp2_with fail
    go_ret
    exact ⟨rfl, hbw7⟩

theorem walk (nm : ByteArray) (ct : Int) (va : Value) (L : List (List UInt8 × Int × Int × List UInt8)) (w : World) (hn : nm.size ≤ maxLen) (ha : RRow w va L) (hxa : Hid (∀ x ∈ L, x.1.length ≤ maxLen ∧ x.2.2.2.length ≤ maxLen)) (_hc : -9223372036854775808 ≤ ct ∧ ct ≤ 9223372036854775807) (hE : EnvZ w) :
    Calls Tryz.prog 8 #[ZonV nm ct va] w fun e w' => e = .returned (.bool true) ∧ Below w.heap.size w w' := by
  have la : L.length ≤ maxLen := by obtain ⟨_, cap, _, h1, h2, _⟩ := ha; omega
  exact core nm ct va L _ _ w hn ha hxa hE (fun g W h1 h2 h3 q => sZoneText_any nm ct _ L W (q.row (Nat.le_refl _) la) h1 h2 h3) (fun g W hW h1 _ h3 q => iZoneText_any nm ct _ L W (q.row (Nat.le_refl _) la) h1 h3 hW)
end Go.Proofs.YtdjlfgiiicgejaaGreatDoor.zoneText
