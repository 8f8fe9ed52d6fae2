import Derived.Test.YtoanloballaclaaDoorRAddr
import Derived.Test.YtoanloballaclaaDoorSGood
namespace Go.Proofs.YtoanloballaclaaDoor
open Go.RowKit

theorem name_noblank {l : List UInt8} (h : nameB l = true) : (32 : UInt8) ∉ l := by
  intro hm
  have h0 : l ≠ [] := fun e => by rw [e] at hm; cases hm
  have hl : labelsOf l = cut 46 l := by unfold labelsOf; rw [if_neg h0]
  unfold nameB at h
  simp only [Bool.and_eq_true, List.all_eq_true] at h
  rw [hl] at h
  obtain ⟨p, hp, hb⟩ := (mem_cut (b := 46) (c := 32) (by decide) l).1 hm
  have h2 := h.1 p hp
  unfold labelB at h2
  rw [Bool.or_eq_true] at h2
  rcases h2 with h2 | h2
  · have : p = [42] := by simpa using h2
    rw [this] at hb; revert hb; decide
  · simp only [Bool.and_eq_true, List.all_eq_true] at h2
    have := h2.2.2 32 hb
    revert this; decide
theorem targ_noblank {l : List UInt8} (h : targB l = true) : (32 : UInt8) ∉ l := by
  unfold targB at h; simp only [Bool.and_eq_true] at h; exact name_noblank h.1
theorem targ_nil : targB [] = false := by decide
theorem exch_no {l : List UInt8} (h : (32 : UInt8) ∉ l) : dataM l = none := dataM_not (by rw [cut_plain 32 l h]; simp)
theorem exch_at {a r : List UInt8} (h : (32 : UInt8) ∉ a) : dataM (a ++ 32 :: r) = if numIn a 65535 = true ∧ targB r = true then some (beB (intV a) 2 ++ wireL (labelsOf r)) else none := by
  by_cases hr : (32 : UInt8) ∈ r
  · have ht : ¬ targB r = true := fun ht => targ_noblank ht hr
    rw [if_neg (fun hc => ht hc.2)]
    obtain ⟨p, q, rfl, hp⟩ := List.eq_append_cons_of_mem hr
    refine dataM_not ?_
    rw [cut_at h, cut_at hp]
    have := List.length_pos_iff.2 (cut_ne 32 q)
    simp only [List.length_cons]; omega
  · exact dataM_two (by rw [cut_at h, cut_plain 32 r hr])

def hostV (s : ByteArray) : Value := .iface 64 (.agg #[.string s])
def serV (n : Int) : Value := .iface 68 (.agg #[.int .i64 n])
def exV (n : Int) (s : ByteArray) : Value := .iface 84 (.agg #[.int .i64 n, .string s])
def noteV (s : ByteArray) : Value := .iface 70 (.agg #[.string s])
/-- What data that is as its type asks becomes. -/
def IsV (k : Int) (l : List UInt8) (v : Value) : Prop :=
  (k = 1 ∧ ∃ y, dataA l = some y ∧ v = addrV y) ∨ ((k = 2 ∨ k = 5) ∧ targB l = true ∧ v = hostV ⟨l.toArray⟩) ∨ (k = 6 ∧ numIn l 4294967295 = true ∧ v = serV (intV l)) ∨
  (k = 15 ∧ ∃ a r, l = a ++ 32 :: r ∧ (32 : UInt8) ∉ a ∧ numIn a 65535 = true ∧ targB r = true ∧ v = exV (intV a) ⟨r.toArray⟩) ∨ (k = 16 ∧ noteB l = true ∧ v = noteV ⟨l.toArray⟩)
def ParseRes (w : World) (k : Int) (l : List UInt8) (e : Ending) (w' : World) : Prop :=
  ∃ v, e = .returned (.tuple #[v, .bool (dataP k l).isSome]) ∧ ((dataP k l).isSome = true → IsV k l v) ∧ Below w.heap.size w w'
theorem parse_no {w w' : World} {k : Int} {l : List UInt8} {v : Value} (h : dataP k l = none) (hb : Below w.heap.size w w') : ParseRes w k l (.returned (.tuple #[v, .bool false])) w' :=
  ⟨v, by rw [h]; rfl, fun hh => (by rw [h] at hh; cases hh), hb⟩
theorem parse_yes {w w' : World} {k : Int} {l : List UInt8} {v : Value} (h : (dataP k l).isSome = true) (hv : IsV k l v) (hb : Below w.heap.size w w') : ParseRes w k l (.returned (.tuple #[v, .bool true])) w' :=
  ⟨v, by rw [h], fun _ => hv, hb⟩
theorem dataP_M (l : List UInt8) : dataP 15 l = dataM l := by unfold dataP; rw [if_neg (by omega), if_neg (by omega), if_neg (by omega), if_pos rfl]
theorem dataP_S (l : List UInt8) : dataP 6 l = dataS l := by unfold dataP; rw [if_neg (by omega), if_neg (by omega), if_pos rfl]
theorem dataP_T (l : List UInt8) : dataP 16 l = dataT l := by unfold dataP; rw [if_neg (by omega), if_neg (by omega), if_neg (by omega), if_neg (by omega), if_pos rfl]
theorem dataP_N {k : Int} (h : k = 2 ∨ k = 5) (l : List UInt8) : dataP k l = dataN l := by unfold dataP; rw [if_neg (by omega), if_pos h]
theorem dataP_O {k : Int} (h1 : (k == 1) = false) (h2 : (k == 2) = false) (h5 : (k == 5) = false) (h6 : (k == 6) = false) (h15 : (k == 15) = false) (h16 : (k == 16) = false) (l : List UInt8) : dataP k l = none := by
  simp only [beq_eq_false_iff_ne] at h1 h2 h5 h6 h15 h16
  unfold dataP; rw [if_neg h1, if_neg (by omega), if_neg h6, if_neg h15, if_neg h16]

theorem strCut_any (s : ByteArray) (w : World) (hs : s.size ≤ 1048576) (hE : Env w) :
    Calls Tryd.prog 43 #[.string s, .string ⟨#[32]⟩] w fun e w' => e = .returned (.tuple #[.string ⟨(Lib.cut s.data.toList [32]).1.toArray⟩, .string ⟨(Lib.cut s.data.toList [32]).2.1.toArray⟩, .bool (Lib.cut s.data.toList [32]).2.2]) ∧ Below w.heap.size w w' := by
  obtain ⟨m, hm⟩ := hE.2
  refine (Tryd.strings_Cut s ⟨#[32]⟩ m w (by omega) hm).mono ?_
  rintro e w' ⟨rfl, n, rfl⟩
  exact ⟨rfl, below_drewN (Below.refl _ _) n⟩

set_option maxRecDepth 20000 in
set_option maxHeartbeats 1000000 in
theorem parseExchange_any (s : ByteArray) (w : World) (hs : s.size ≤ 1048576) (hE : EnvR w) :
    Calls Tryd.prog 35 #[.string s] w fun e w' => ParseRes w 15 s.data.toList e w' := by
  have hsz : s.data.toList.length = s.size := by simp
  have HCUT := strCut_any s w hs hE.1
  by_cases hm : (32 : UInt8) ∈ s.data.toList
  · obtain ⟨a, r, hl, ha⟩ := List.eq_append_cons_of_mem hm
    rw [hl, libCut_at ha] at HCUT
    have HC : Hid (Calls Tryd.prog 43 #[.string s, .string ⟨#[32]⟩] w fun e w' => e = .returned (.tuple #[.string ⟨a.toArray⟩, .string ⟨r.toArray⟩, .bool true]) ∧ Below w.heap.size w w') := HCUT
    have hll : a.length ≤ 1048576 ∧ r.length ≤ 1048576 := by rw [hl, List.length_append, List.length_cons] at hsz; omega
    have HRD : Hid (∀ W, EnvR W → Calls Tryd.prog 34 #[.string ⟨a.toArray⟩, .int .i64 65535] W fun e w' => e = .returned (.tuple #[.int .i64 (rdNum a 65535), .bool (numIn a 65535)]) ∧ Below W.heap.size W w') := fun W hW => readNumber_any ⟨a.toArray⟩ 65535 W (by rw [size_list]; omega) (by omega) (by omega) hW
    have HH : Hid (∀ W, EnvR W → Calls Tryd.prog 33 #[.string ⟨r.toArray⟩] W fun e w' => e = .returned (.bool (targB r)) ∧ Below W.heap.size W w') := fun W hW => isHost_any ⟨r.toArray⟩ W hW.1
    have HD : Hid (dataP 15 s.data.toList = if numIn a 65535 = true ∧ targB r = true then some (beB (intV a) 2 ++ wireL (labelsOf r)) else none) := by rw [dataP_M, hl]; exact exch_at ha
    have HV : Hid (numIn a 65535 = true → targB r = true → IsV 15 s.data.toList (exV (rdNum a 65535) ⟨r.toArray⟩)) := fun h1 h2 => by
      rw [show rdNum a 65535 = intV a from if_pos h1]
      exact .inr (.inr (.inr (.inl ⟨rfl, a, r, hl, ha, h1, h2, rfl⟩)))
    clear hm hl ha HCUT hsz hll
    cases hn : numIn a 65535 with
    | false =>
      have HR : Hid (dataP 15 s.data.toList = none) := by rw [HD.out]; exact if_neg (fun h => by rw [hn] at h; cases h.1)
      rw [hn] at HRD
      clear hn
      go_enter Tryd.func35, Tryd.ntmps35
      go_wp2_with fail
      refine HC.out.mono ?_
      rintro e w1 ⟨rfl, hb1⟩
      go_wp2_with fail
      refine (HRD.out _ (hE.below hb1)).mono ?_
      rintro e w2 ⟨rfl, hb2⟩
      go_wp2_with fail
      go_ret2
      exact parse_no HR.out (hb1.trans (hb2.mono hb1.size))
    | true =>
      cases ht : targB r with
      | false =>
        have HR : Hid (dataP 15 s.data.toList = none) := by rw [HD.out]; exact if_neg (fun h => by rw [ht] at h; cases h.2)
        rw [hn] at HRD
        rw [ht] at HH
        clear hn ht
        go_enter Tryd.func35, Tryd.ntmps35
        go_wp2_with fail
        refine HC.out.mono ?_
        rintro e w1 ⟨rfl, hb1⟩
        go_wp2_with fail
        refine (HRD.out _ (hE.below hb1)).mono ?_
        rintro e w2 ⟨rfl, hb2⟩
        have hbb := hb1.trans (hb2.mono hb1.size)
        go_wp2_with fail
        refine (HH.out _ (hE.below hbb)).mono ?_
        rintro e w3 ⟨rfl, hb3⟩
        go_wp2_with fail
        go_ret2
        exact parse_no HR.out (hbb.trans (hb3.mono hbb.size))
      | true =>
        have HR : Hid ((dataP 15 s.data.toList).isSome = true) := by rw [HD.out, if_pos ⟨hn, ht⟩]; exact rfl
        have HVV : Hid (IsV 15 s.data.toList (exV (rdNum a 65535) ⟨r.toArray⟩)) := HV.out hn ht
        rw [hn] at HRD
        rw [ht] at HH
        clear hn ht
        go_enter Tryd.func35, Tryd.ntmps35
        go_wp2_with fail
        refine HC.out.mono ?_
        rintro e w1 ⟨rfl, hb1⟩
        go_wp2_with fail
        refine (HRD.out _ (hE.below hb1)).mono ?_
        rintro e w2 ⟨rfl, hb2⟩
        have hbb := hb1.trans (hb2.mono hb1.size)
        go_wp2_with fail
        refine (HH.out _ (hE.below hbb)).mono ?_
        rintro e w3 ⟨rfl, hb3⟩
        go_wp2_with fail
        go_ret2
        exact parse_yes HR.out HVV.out (hbb.trans (hb3.mono hbb.size))
  · rw [libCut_no hm] at HCUT
    have HC : Hid (Calls Tryd.prog 43 #[.string s, .string ⟨#[32]⟩] w fun e w' => e = .returned (.tuple #[.string ⟨s.data.toList.toArray⟩, .string ⟨#[]⟩, .bool false]) ∧ Below w.heap.size w w') := HCUT
    have HR : Hid (dataP 15 s.data.toList = none) := by rw [dataP_M]; exact exch_no hm
    have HRD : Hid (∀ W, EnvR W → Calls Tryd.prog 34 #[.string ⟨s.data.toList.toArray⟩, .int .i64 65535] W fun e w' => e = .returned (.tuple #[.int .i64 (rdNum s.data.toList 65535), .bool (numIn s.data.toList 65535)]) ∧ Below W.heap.size W w') := fun W hW => readNumber_any ⟨s.data.toList.toArray⟩ 65535 W (by rw [size_list]; omega) (by omega) (by omega) hW
    have HH : Hid (∀ W, EnvR W → Calls Tryd.prog 33 #[.string ⟨#[]⟩] W fun e w' => e = .returned (.bool false) ∧ Below W.heap.size W w') := fun W hW => by
      have h := isHost_any ⟨#[]⟩ W hW.1
      rw [show targB (⟨#[]⟩ : ByteArray).data.toList = false from targ_nil] at h; exact h
    clear hm HCUT hsz
    cases hn : numIn s.data.toList 65535 with
    | false =>
      rw [hn] at HRD
      clear hn
      go_enter Tryd.func35, Tryd.ntmps35
      go_wp2_with fail
      refine HC.out.mono ?_
      rintro e w1 ⟨rfl, hb1⟩
      go_wp2_with fail
      refine (HRD.out _ (hE.below hb1)).mono ?_
      rintro e w2 ⟨rfl, hb2⟩
      go_wp2_with fail
      go_ret2
      exact parse_no HR.out (hb1.trans (hb2.mono hb1.size))
    | true =>
      rw [hn] at HRD
      clear hn
      go_enter Tryd.func35, Tryd.ntmps35
      go_wp2_with fail
      refine HC.out.mono ?_
      rintro e w1 ⟨rfl, hb1⟩
      go_wp2_with fail
      refine (HRD.out _ (hE.below hb1)).mono ?_
      rintro e w2 ⟨rfl, hb2⟩
      have hbb := hb1.trans (hb2.mono hb1.size)
      go_wp2_with fail
      refine (HH.out _ (hE.below hbb)).mono ?_
      rintro e w3 ⟨rfl, hb3⟩
      go_wp2_with fail
      go_ret2
      exact parse_no HR.out (hbb.trans (hb3.mono hbb.size))

set_option maxRecDepth 20000 in
set_option maxHeartbeats 1000000 in
theorem parseData_any (k : Int) (s : ByteArray) (w : World) (hs : s.size ≤ 1048576) (hE : EnvR w) :
    Calls Tryd.prog 27 #[.int .i64 k, .string s] w fun e w' => ParseRes w k s.data.toList e w' := by
  have HSS : Hid (⟨s.data.toList.toArray⟩ = s) := rfl
  by_cases h1 : k = 1
  · subst h1
    have HD : Hid (dataP 1 s.data.toList = dataA s.data.toList) := if_pos rfl
    go_enter Tryd.func27, Tryd.ntmps27
    go_wp2_with fail
    refine (parseAddress_any s w hs hE).mono ?_
    rintro e w1 ⟨v, rfl, hv, hb⟩
    have HV : Hid (∀ y, dataA s.data.toList = some y → v = addrV y) := hv
    clear hv
    go_wp2_with fail
    go_ret2
    refine ⟨v, ret_two rfl (val_bool (by rw [HD.out])), fun h => ?_, hb⟩
    rw [HD.out] at h
    obtain ⟨y, hy⟩ := Option.isSome_iff_exists.1 h
    exact .inl ⟨rfl, y, hy, HV.out y hy⟩
  · by_cases h2 : k = 2 ∨ k = 5
    · have HD : Hid (dataP k s.data.toList = dataN s.data.toList) := dataP_N h2 _
      clear h1
      rcases h2 with rfl | rfl
      all_goals
        go_enter Tryd.func27, Tryd.ntmps27
        go_wp2_with fail
        refine (isHost_any s w hE.1).mono ?_
        rintro e w1 ⟨rfl, hb⟩
        cases ht : targB s.data.toList with
        | false =>
          have HR : Hid (dataN s.data.toList = none) := if_neg (by rw [ht]; simp)
          clear ht
          go_wp2_with fail
          go_ret2
          exact parse_no (by rw [HD.out, HR.out]) hb
        | true =>
          have HR : Hid (dataN s.data.toList = some (wireL (labelsOf s.data.toList))) := if_pos ht
          have HT : Hid (targB s.data.toList = true) := ht
          clear ht
          go_wp2_with fail
          go_ret2
          exact parse_yes (by rw [HD.out, HR.out]; rfl) (.inr (.inl ⟨by first | exact .inl rfl | exact .inr rfl, HT.out, rfl⟩)) hb
    · by_cases h6 : k = 6
      · subst h6
        have HD : Hid (dataP 6 s.data.toList = dataS s.data.toList) := dataP_S _
        have HRD : Hid (Calls Tryd.prog 34 #[.string s, .int .i64 4294967295] w fun e w' => e = .returned (.tuple #[.int .i64 (rdNum s.data.toList 4294967295), .bool (numIn s.data.toList 4294967295)]) ∧ Below w.heap.size w w') := readNumber_any s 4294967295 w (by omega) (by omega) (by omega) hE
        clear h1 h2
        cases hn : numIn s.data.toList 4294967295 with
        | false =>
          have HR : Hid (dataS s.data.toList = none) := if_neg (by rw [hn]; simp)
          rw [hn] at HRD
          clear hn
          go_enter Tryd.func27, Tryd.ntmps27
          go_wp2_with fail
          refine HRD.out.mono ?_
          rintro e w1 ⟨rfl, hb⟩
          go_wp2_with fail
          go_ret2
          exact parse_no (by rw [HD.out, HR.out]) hb
        | true =>
          have HR : Hid (dataS s.data.toList = some (beB (intV s.data.toList) 4)) := if_pos hn
          have HN : Hid (numIn s.data.toList 4294967295 = true) := hn
          have HI : Hid (rdNum s.data.toList 4294967295 = intV s.data.toList) := if_pos hn
          rw [hn] at HRD
          clear hn
          go_enter Tryd.func27, Tryd.ntmps27
          go_wp2_with fail
          refine HRD.out.mono ?_
          rintro e w1 ⟨rfl, hb⟩
          go_wp2_with fail
          go_ret2
          exact parse_yes (by rw [HD.out, HR.out]; rfl) (.inr (.inr (.inl ⟨rfl, HN.out, by rw [HI.out]; rfl⟩))) hb
      · by_cases h15 : k = 15
        · subst h15
          clear h1 h2 h6
          go_enter Tryd.func27, Tryd.ntmps27
          go_wp2_with fail
          refine (parseExchange_any s w hs hE).mono ?_
          rintro e w1 ⟨v, rfl, hv, hb⟩
          have HV : Hid ((dataP 15 s.data.toList).isSome = true → IsV 15 s.data.toList v) := hv
          clear hv
          go_wp2_with fail
          go_ret2
          exact ⟨v, rfl, HV.out, hb⟩
        · by_cases h16 : k = 16
          · subst h16
            have HD : Hid (dataP 16 s.data.toList = dataT s.data.toList) := dataP_T _
            clear h1 h2 h6 h15
            go_enter Tryd.func27, Tryd.ntmps27
            go_wp2_with fail
            refine (isNote_any s w).mono ?_
            rintro e w1 ⟨rfl, rfl⟩
            cases ht : noteB s.data.toList with
            | false =>
              have HR : Hid (dataT s.data.toList = none) := if_neg (fun h => by unfold noteB at ht; rw [h.1, decide_eq_true h.2] at ht; cases ht)
              clear ht
              go_wp2_with fail
              go_ret2
              exact parse_no (by rw [HD.out, HR.out]) (Below.refl _ _)
            | true =>
              have HT : Hid (noteB s.data.toList = true) := ht
              have HR : Hid (dataT s.data.toList = some (UInt8.ofNat s.data.toList.length :: s.data.toList)) := if_pos (by unfold noteB at ht; simp only [Bool.and_eq_true, decide_eq_true_eq] at ht; exact ⟨ht.2, ht.1⟩)
              clear ht
              go_wp2_with fail
              go_ret2
              exact parse_yes (by rw [HD.out, HR.out]; rfl) (.inr (.inr (.inr (.inr ⟨rfl, HT.out, rfl⟩)))) (Below.refl _ _)
          · have e1 : (k == 1) = false := by simpa using h1
            have e2 : (k == 2) = false := by simpa using fun h => h2 (.inl h)
            have e5 : (k == 5) = false := by simpa using fun h => h2 (.inr h)
            have e6 : (k == 6) = false := by simpa using h6
            have e15 : (k == 15) = false := by simpa using h15
            have e16 : (k == 16) = false := by simpa using h16
            have HR : Hid (dataP k s.data.toList = none) := dataP_O e1 e2 e5 e6 e15 e16 _
            clear h1 h2 h6 h15 h16
            go_enter Tryd.func27, Tryd.ntmps27
            go_wp2_with fail
            go_ret2
            exact parse_no HR.out (Below.refl _ _)
end Go.Proofs.YtoanloballaclaaDoor
