import Derived.Test.YtbgkocjpenkijaaGreatDoorSTakeW
namespace Go.Proofs.YtbgkocjpenkijaaGreatDoor
open Go.RowKit

/-- What is read at any place of any bytes. -/
def tkI (l : List UInt8) (a : Int) : Option (List UInt8 × Nat × List Nat) := if l.length ≤ 600 ∧ 0 ≤ a ∧ a < (l.length : Int) then takeN l a.toNat else none
theorem tkI_in {s : ByteArray} {a : Nat} (hs : s.size ≤ 600) (ha : a < s.size) : tkI s.data.toList (a : Int) = takeN s.data.toList a := by
  unfold tkI; rw [data_len, if_pos ⟨hs, by omega, by omega⟩]; rfl
theorem tkI_none {s : ByteArray} {a : Int} (h : ¬ (s.size ≤ 600 ∧ 0 ≤ a ∧ a < (s.size : Int))) : tkI s.data.toList a = none := by
  unfold tkI; rw [data_len, if_neg h]
theorem tkI_nat {s : ByteArray} {a : Nat} (hs : s.size ≤ 600) : tkI s.data.toList (a : Int) = takeN s.data.toList a := by
  by_cases ha : a < s.size
  · exact tkI_in hs ha
  · rw [tkI_none (by omega)]
    exact (going_out (going_start s.data.toList a (by rw [data_len]; omega)) (by rw [data_len]; exact ha)).symm
def nmT : Option (List UInt8 × Nat × List Nat) → List UInt8
  | none => []
  | some (nm, _, _) => nm
def nmE : Option (List UInt8 × Nat × List Nat) → Nat
  | none => 0
  | some (_, en, _) => en

def tkVal (R : Option (List UInt8 × Nat × List Nat)) : Value := .tuple #[.string ⟨(nmT R).toArray⟩, .int .i64 ((nmE R : Nat) : Int), .bool R.isSome]
theorem tk_ret {R R' : Option (List UInt8 × Nat × List Nat)} (h : R = R') : Ending.returned (tkVal R') = .returned (tkVal R) := by rw [h]

set_option maxRecDepth 20000 in
set_option maxHeartbeats 2000000 in
theorem readName_all (s : ByteArray) (a : Int) (w : World) (h1 : -9223372036854775808 ≤ a) (h2 : a ≤ 9223372036854775807) (hE : Env w) :
    Calls Tryz.prog 135 #[.string s, .int .i64 a] w fun e w' => TkRes w (tkI s.data.toList a) e w' := by
  by_cases hs : s.size ≤ 600
  · by_cases h0 : a < 0
    · have HR : Hid (tkI s.data.toList a = none) := tkI_none (by omega)
      go_enter Tryz.func135, Tryz.ntmps135
      go_wp2_with fail
      go_step3
      go_wp2_with fail
      go_step3
      go_wp2_with fail
      refine (whatStands_low s a _ h0).mono ?_
      rintro e w1 ⟨rfl, rfl⟩
      go_wp2_with fail
      rw [Exit.noGoto_ret]
      (try simp only [Exit.inBlock, Exit.then]); refine bodyPost_ret (results_tmp4 rfl _ _ _) rfl ?_
      exact tk_none HR.out rfl (Below.refl _ _)
    · obtain ⟨n, rfl⟩ : ∃ n : Nat, a = (n : Int) := ⟨a.toNat, by omega⟩
      by_cases hn : n < s.size
      · rw [tkI_in hs hn]; exact readName_any s n w hs hn hE
      · have HR : Hid (tkI s.data.toList (n : Int) = none) := tkI_none (by omega)
        have HST : Hid (stands s.data.toList n = 0) := by unfold stands; exact dif_neg (by rw [data_len]; exact hn)
        go_enter Tryz.func135, Tryz.ntmps135
        go_wp2_with fail
        go_step3
        go_wp2_with fail
        go_step3
        go_wp2_with fail
        refine (whatStands_any s n _ (by omega) (by omega)).mono ?_
        rintro e w1 ⟨rfl, rfl⟩
        rw [HST.out]
        go_wp2_with fail
        rw [Exit.noGoto_ret]
        (try simp only [Exit.inBlock, Exit.then]); refine bodyPost_ret (results_tmp4 rfl _ _ _) rfl ?_
        exact tk_none HR.out rfl (Below.refl _ _)
  · have HR : Hid (tkI s.data.toList a = none) := tkI_none (by omega)
    have g : (600 : Int) < (s.size : Int) := by omega
    go_enter Tryz.func135, Tryz.ntmps135
    go_wp2_with fail
    go_step3
    go_wp2_with fail
    rw [Exit.noGoto_ret]
    (try simp only [Exit.inBlock, Exit.then]); refine bodyPost_ret (results_tmp4 rfl _ _ _) rfl ?_
    exact tk_none HR.out rfl (Below.refl _ _)

set_option maxRecDepth 20000 in
set_option maxHeartbeats 1000000 in
theorem iTakeName_any (s : ByteArray) (a : Int) (w : World) (h1 : -9223372036854775808 ≤ a) (h2 : a ≤ 9223372036854775807) (hE : Env w) :
    Calls Tryz.prog 119 #[.string s, .int .i64 a] w fun e w' => e = .returned (tkVal (tkI s.data.toList a)) ∧ Below w.heap.size w w' := by
  go_enter Tryz.func119, Tryz.ntmps119
  go_wp2_with fail
  refine (readName_all s a w h1 h2 hE).mono ?_
  rintro e w1 ⟨hn, hs, hb⟩
  cases hR : tkI s.data.toList a with
  | none =>
    obtain rfl := hn hR
    have HR : Hid (tkI s.data.toList a = none) := hR
    clear hn hs hR
    go_wp2_with fail
    go_ret3
    exact ⟨tk_ret HR.out, hb⟩
  | some x =>
    obtain ⟨nm, en, pl⟩ := x
    obtain ⟨v, rfl, _⟩ := hs nm en pl hR
    have HR : Hid (tkI s.data.toList a = some (nm, en, pl)) := hR
    clear hn hs hR
    go_wp2_with fail
    go_ret3
    exact ⟨tk_ret HR.out, hb⟩

set_option maxRecDepth 20000 in
set_option maxHeartbeats 1000000 in
theorem l2Take_any (s : ByteArray) (a : Nat) (w : World) (hs : s.size ≤ 4000) (_ha64 : a ≤ 9223372036854775807) :
    Calls Tryz.prog 60 #[.string s, .int .i64 (a : Int)] w fun e w' => TkSpec w (takeN s.data.toList a) e w' := by
  by_cases ha : a < s.size
  · exact l2Take_in s a w hs ha
  · have HR : Hid (takeN s.data.toList a = none) := going_out (going_start s.data.toList a (by rw [data_len]; exact hs)) (by rw [data_len]; exact ha)
    have g : (s.size : Int) ≤ (a : Int) := by omega
    go_enter Tryz.func60, Tryz.ntmps60
    go_wp2_with fail
    go_rounds 1
    (try simp only [Exit.inBlock, Exit.then]); refine bodyPost_ret (results_tmp4 rfl _ _ _) rfl ?_
    exact tks_none HR.out rfl (Below.refl _ _)

end Go.Proofs.YtbgkocjpenkijaaGreatDoor
