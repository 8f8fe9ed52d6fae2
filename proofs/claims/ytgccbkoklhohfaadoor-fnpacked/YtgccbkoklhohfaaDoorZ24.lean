import Derived.Test.YtgccbkoklhohfaaDoorZ22
import Derived.Test.YtgccbkoklhohfaaDoorZ13
namespace Go.Proofs.YtgccbkoklhohfaaDoor
open Go.RowKit

/-- So many names from a place on, up to the end. -/
def unp (l : List UInt8) : Nat → Nat → Option (List (List UInt8))
  | 0, a => if a = l.length then some [] else none
  | m + 1, a => match takeN l a with
    | none => none
    | some (nm, e, _) => (unp l m e).map (nm :: ·)
theorem unp_none {l : List UInt8} {m a : Nat} {acc : List (List UInt8)} {U : Option (List (List UInt8))} (h : U = (unp l (m + 1) a).map (acc ++ ·)) (ht : takeN l a = none) : U = none := by
  rw [h, unp, ht]; rfl
theorem unp_some {l : List UInt8} {m a : Nat} {acc : List (List UInt8)} {U : Option (List (List UInt8))} {nm : List UInt8} {e : Nat} {q : List Nat} (h : U = (unp l (m + 1) a).map (acc ++ ·)) (ht : takeN l a = some (nm, e, q)) : U = (unp l m e).map ((acc ++ [nm]) ++ ·) := by
  rw [h, unp, ht]
  show Option.map _ (Option.map _ _) = _
  cases unp l m e with
  | none => rfl
  | some x => simp
theorem unp_end {l : List UInt8} {a : Nat} {acc : List (List UInt8)} {U : Option (List (List UInt8))} (h : U = (unp l 0 a).map (acc ++ ·)) (ha : a = l.length) : U = some acc := by
  rw [h, unp, if_pos ha]; simp
theorem unp_not {l : List UInt8} {a : Nat} {acc : List (List UInt8)} {U : Option (List (List UInt8))} (h : U = (unp l 0 a).map (acc ++ ·)) (ha : ¬ a = l.length) : U = none := by
  rw [h, unp, if_neg ha]; rfl
theorem unp_length (l : List UInt8) : ∀ (m a : Nat) (x : List (List UInt8)), unp l m a = some x → x.length = m
  | 0, a, x, h => by
    rw [unp] at h
    split at h
    · simp only [Option.some.injEq] at h; subst h; rfl
    · cases h
  | m + 1, a, x, h => by
    rw [unp] at h
    split at h
    · cases h
    · rename_i nm e q _
      cases h2 : unp l m e with
      | none => rw [h2] at h; cases h
      | some y =>
        rw [h2] at h
        simp only [Option.map_some, Option.some.injEq] at h
        subst h
        rw [List.length_cons, unp_length l m e y h2]
/-- What UnpackNames tells. -/
def unpI (l : List UInt8) (many : Int) : Option (List (List UInt8)) := if l.length ≤ 600 ∧ 0 ≤ many ∧ many ≤ 20 then unp l many.toNat 0 else none
theorem unpI_in (l : List UInt8) (m : Nat) (hl : l.length ≤ 600) (h : m ≤ 20) : unpI l (m : Int) = unp l m 0 := by
  unfold unpI; rw [if_pos ⟨hl, by omega, by omega⟩]; rfl
theorem unpI_length (l : List UInt8) (many : Int) : ((unpI l many).getD []).length ≤ 20 := by
  unfold unpI
  split
  · rename_i h
    cases h2 : unp l many.toNat 0 with
    | none => simp
    | some x =>
      have := unp_length l _ _ x h2
      simp only [Option.getD_some]; omega
  · simp
theorem tk_next {l : List UInt8} {a : Nat} {nm : List UInt8} {e : Nat} {q : List Nat} (h : takeN l a = some (nm, e, q)) : e ≤ l.length := (take_bounds h).2.1

/-- A list of texts in a block of the call's own. -/
structure Keep (w : World) (base : Nat) (u : Value) (L : List (List UInt8)) : Prop where
  own : w.ownsRow base 9 1 u L.length (L.map S)
theorem owns_own {w : World} {base : Nat} {v : Value} {L : List (List UInt8)} (h : w.ownsRow base 9 1 v L.length (L.map S)) : OwnS w base v L := by
  have h0 := h
  obtain ⟨_, ⟨rfl, hn⟩ | ⟨g, cap, cur, rfl, hg, hh, hc, hm, hs, hx⟩⟩ := h
  · exact .inl ⟨rfl, List.length_eq_zero_iff.1 hn⟩
  · exact .inr ⟨g, cap, rfl, hc, hm, hg, srow_own h0 rfl⟩
theorem keep_next {w : World} {base : Nat} {v : Value} {L : List (List UInt8)} {x : List UInt8} (h : w.ownsRow base 9 1 v (L.length + 1) (L.map S ++ [.string ⟨x.toArray⟩])) : Keep w base v (L ++ [x]) :=
  ⟨by rw [List.map_append, List.length_append]; exact h⟩

def lenOf : Value → Nat
  | .slice _ n _ => n
  | _ => 0
theorem len_own {w : World} {base : Nat} {e : TypeId} {v : Value} {n : Nat} {xs : List Value} (h : w.ownsRow base e 1 v n xs) : lenOf v = n := by
  obtain ⟨a, c, rfl, _⟩ := own_slice h; rfl

def unpVal (v : Value) (U : Option (List (List UInt8))) : Ending := .returned (.tuple #[v, .bool U.isSome])
theorem unp_ret_none {U : Option (List (List UInt8))} (h : U = none) : Ending.returned (.tuple #[.slice none 0 0, .bool false]) = unpVal (.slice none 0 0) U := by rw [h]; rfl
theorem unp_ret_some {U : Option (List (List UInt8))} {L : List (List UInt8)} {v : Value} (h : U = some L) : Ending.returned (.tuple #[v, .bool true]) = unpVal v U := by rw [h]; rfl

set_option maxRecDepth 20000 in
set_option maxHeartbeats 1000000 in
theorem unpackAll_any (s : ByteArray) (M : Nat) (w : World) (hs : s.size ≤ 65535) (hM : M ≤ 600) (hE : Env w) :
    Calls Tryd.prog 70 #[.string s, .int .i64 (M : Int)] w fun e w' => ∃ v, e = unpVal v (unp s.data.toList M 0) ∧ w'.ownsRow w.heap.size 9 1 v ((unp s.data.toList M 0).getD []).length (((unp s.data.toList M 0).getD []).map S) ∧ Below w.heap.size w w' := by
  obtain ⟨i0, hi, hz0, hz1, hz2⟩ := info_parts info_string
  have HLEN : Hid (s.data.toList.length = s.size) := data_len s
  obtain ⟨U, hU⟩ : ∃ U, U = unp s.data.toList M 0 := ⟨_, rfl⟩
  have HU : Hid (U = (unp s.data.toList (M - 0) 0).map ([] ++ ·)) := by rw [hU, Nat.sub_zero]; simp only [List.nil_append, Option.map_id_fun']; exact rfl
  rw [← hU]
  clear hU
  go_enter Tryd.func70, Tryd.ntmps70
  go_wp2_with (at_make; refine wpList_make_own _ rfl _ _ 24 rfl w.heap.size 9 i0 (.string ByteArray.empty) 1 Tryd.underlying24 hi hz0 hz1 _ _ _ M rfl rfl rfl ?b2 ?b3 ?b4 ?_)
  case b2 => rw [hz2]; omega
  case b3 => unfold maxLen; omega
  case b4 => exact Nat.le_refl _
  intro w1 hown hgrow
  have hb1 : Below w.heap.size w w1 := (Below.refl _ _).grown hgrow (Nat.le_refl _) (fun k h => by cases h)
  have HO : Hid (Keep w1 w.heap.size (.slice (some ⟨w.heap.size, 0, none⟩) 0 M) []) := ⟨hown⟩
  clear hown hgrow
  go_wp2_with fail
  go_loopw [6, 7, 15] (fun u va i wr => ∃ (k a : Nat) (acc : List (List UInt8)), k ≤ M ∧ i = .int .i64 (k : Int) ∧ va = .int .i64 (a : Int) ∧ a ≤ 65535 ∧ acc.length = k ∧ Hid (U = (unp s.data.toList (M - k) a).map (acc ++ ·)) ∧ Hid (Keep wr w.heap.size u acc) ∧ Below w.heap.size w wr) (fun _ _ i _ => M - (intOf i).toNat)
  case atStart => exact ⟨0, 0, [], Nat.zero_le _, rfl, rfl, by omega, rfl, HU, HO, hb1⟩
  case round =>
    obtain ⟨k, a, acc, hk, rfl, rfl, ha, hacc, HR, HK, hb⟩ := hrel
    have HACC : Hid (acc.length = k) := hacc
    have hacc1 : acc.length ≤ k := by omega
    have hacc2 : k ≤ acc.length := by omega
    clear hacc
    clear HO hb1
    have hbz := hb.size
    by_cases hlt : k < M
    · obtain ⟨m, hm⟩ : ∃ m, M - k = m + 1 := ⟨M - k - 1, by omega⟩
      have hm2 : M - (k + 1) = m := by omega
      rw [hm] at HR
      have HM2 : Hid (M - (k + 1) = m) := hm2
      clear hm hm2
      have HTK : Hid (tkP s.data.toList (a : Int) = takeN s.data.toList a) := tkP_nat (by omega)
      go_wp2_with fail
      refine (readName_all s a _ hs (by omega) (by omega) (hE.below hb)).mono ?_
      rw [HTK.out]
      rintro e w2 ⟨hn, hsm, hb2⟩
      have hb02 := hb.trans (hb2.mono hb.size)
      cases hT : takeN s.data.toList a with
      | none =>
        have HN : Hid (U = none) := unp_none HR.out hT
        obtain rfl := hn hT
        clear hT hn hsm
        go_wp2_with fail
        go_ret2
        exact ⟨_, unp_ret_none HN.out, by rw [HN.out]; exact World.ownsRow_nil _ _ _ _, hb02⟩
      | some x =>
        obtain ⟨nm, en, q⟩ := x
        have HN : Hid (U = (unp s.data.toList m en).map ((acc ++ [nm]) ++ ·)) := unp_some HR.out hT
        have hen : en ≤ 65535 := by have h := tk_next hT; rw [HLEN.out] at h; omega
        obtain ⟨vq, rfl, _⟩ := hsm nm en q hT
        clear hT hn hsm
        have hown := own_below HK.out.own hb2
        have hb02z := hb02.size
        go_wp2_with (at_builtin; refine wpList_append_own _ rfl (.tmp 27) (.tmp 29) 24 rfl w.heap.size 9 i0 (.string ByteArray.empty) 1 16 Tryd.underlying24 hi hz0 hz1 hz2 rfl (by decide) _ _ _ rfl (hown.alloc _) ⟨w2.heap.size, 0, none⟩ 1 1 [.string ⟨nm.toArray⟩] rfl rfl ?c1 ?c2 ?c3 ?c4 ?c5 ?_)
        case c1 => exact cell_new_one _ _ _
        case c2 => exact one_string _
        case c3 => unfold maxLen; omega
        case c4 => omega
        case c5 => simp; omega
        intro v4 w4 hown4 hgrow4 _
        have hb4 := below_append hb02 hown hgrow4
        have HK4 : Hid (Keep w4 w.heap.size v4 (acc ++ [nm])) := keep_next hown4
        clear hown hown4 hgrow4
        go_wp2_with fail
        go_roundw
        case rel => exact ⟨k + 1, en, acc ++ [nm], by omega, by go_num, rfl, hen, by rw [List.length_append, HACC.out]; rfl, by rw [HM2.out]; exact HN, HK4, hb4⟩
        case measure => simp [intOf]; omega
    · have hkM : M - k = 0 := by omega
      rw [hkM] at HR
      clear hkM
      by_cases hend : a = s.size
      · have HN : Hid (U = some acc) := unp_end HR.out (by rw [data_len]; exact hend)
        have e0 : ((a : Int) != (s.size : Int)) = false := by simp; omega
        clear hend
        go_wp2_with fail
        go_ret2
        exact ⟨_, unp_ret_some HN.out, by rw [HN.out]; exact HK.out.own, hb⟩
      · have HN : Hid (U = none) := unp_not HR.out (by rw [data_len]; exact hend)
        have e0 : ((a : Int) != (s.size : Int)) = true := by simp; omega
        clear hend
        go_wp2_with fail
        go_ret2
        exact ⟨_, unp_ret_none HN.out, by rw [HN.out]; exact World.ownsRow_nil _ _ _ _, hb⟩
end Go.Proofs.YtgccbkoklhohfaaDoor

namespace Go.Proofs.YtgccbkoklhohfaaDoor
open Go.RowKit

set_option maxRecDepth 20000 in
set_option maxHeartbeats 1000000 in
theorem iUnpackNames_any (s : ByteArray) (many : Int) (w : World) (h1 : -9223372036854775808 ≤ many) (h2 : many ≤ 9223372036854775807) (hE : Env w) :
    Calls Tryd.prog 36 #[.string s, .int .i64 many] w fun e w' => ∃ v, e = unpVal v (unpI s.data.toList many) ∧ OwnS w' w.heap.size v ((unpI s.data.toList many).getD []) ∧ Below w.heap.size w w' := by
  by_cases hs : s.size ≤ 600
  · by_cases hin : 0 ≤ many ∧ many ≤ 20
    · obtain ⟨M, rfl⟩ : ∃ M : Nat, many = (M : Int) := ⟨many.toNat, by omega⟩
      have hM : M ≤ 20 := by omega
      have HU : Hid (unpI s.data.toList (M : Int) = unp s.data.toList M 0) := unpI_in _ _ (by rw [data_len]; exact hs) hM
      have HC := unpackAll_any s M w (by omega) (by omega) hE
      rw [← HU.out] at HC
      obtain ⟨U, hU⟩ : ∃ U, U = unpI s.data.toList (M : Int) := ⟨_, rfl⟩
      rw [← hU] at HC ⊢
      have HCC : Hid (Calls Tryd.prog 70 #[.string s, .int .i64 (M : Int)] w fun e w' => ∃ v, e = unpVal v U ∧ w'.ownsRow w.heap.size 9 1 v (U.getD []).length ((U.getD []).map S) ∧ Below w.heap.size w w') := HC
      clear hin hU HC HU
      go_enter Tryd.func36, Tryd.ntmps36
      go_wp2_with fail
      refine HCC.out.mono ?_
      rintro e w1 ⟨v, rfl, hown, hb⟩
      have HO : Hid (OwnS w1 w.heap.size v (U.getD [])) := owns_own hown
      unfold unpVal
      obtain ⟨ok, hok⟩ : ∃ ok, ok = U.isSome := ⟨_, rfl⟩
      have HOK : Hid (ok = U.isSome) := hok
      rw [← hok]
      clear hown hok
      go_wp2_with fail
      go_ret2
      exact ⟨v, (by unfold unpVal; exact ret_two rfl (val_bool HOK.out)), HO.out, hb⟩
    · have HN : Hid (unpI s.data.toList many = none) := if_neg (fun h => hin h.2)
      rcases (show many < 0 ∨ (0 ≤ many ∧ 20 < many) by omega) with g | g
      · go_enter Tryd.func36, Tryd.ntmps36
        go_wp2_with fail
        go_ret2
        exact ⟨_, unp_ret_none HN.out, by rw [HN.out]; exact .inl ⟨rfl, rfl⟩, Below.refl _ _⟩
      · have g1 := g.1
        have g2 := g.2
        go_enter Tryd.func36, Tryd.ntmps36
        go_wp2_with fail
        go_ret2
        exact ⟨_, unp_ret_none HN.out, by rw [HN.out]; exact .inl ⟨rfl, rfl⟩, Below.refl _ _⟩
  · have HN : Hid (unpI s.data.toList many = none) := if_neg (fun h => hs (by have := h.1; rw [data_len] at this; exact this))
    have g : (600 : Int) < (s.size : Int) := by omega
    go_enter Tryd.func36, Tryd.ntmps36
    go_wp2_with fail
    go_ret2
    exact ⟨_, unp_ret_none HN.out, by rw [HN.out]; exact .inl ⟨rfl, rfl⟩, Below.refl _ _⟩

set_option maxRecDepth 20000 in
set_option maxHeartbeats 1000000 in
theorem sUnpackNames_any (s : ByteArray) (many : Int) (w : World) (h1 : -9223372036854775808 ≤ many) (h2 : many ≤ 9223372036854775807) :
    Calls Tryd.prog 39 #[.string s, .int .i64 many] w fun e w' => ∃ v, e = unpVal v (unpI s.data.toList many) ∧ OwnS w' w.heap.size v ((unpI s.data.toList many).getD []) ∧ Below w.heap.size w w' := by
  obtain ⟨i0, hi, hz0, hz1, hz2⟩ := info_parts info_string
  by_cases hs : s.size ≤ 600
  · by_cases hin : 0 ≤ many ∧ many ≤ 20
    · obtain ⟨M, rfl⟩ : ∃ M : Nat, many = (M : Int) := ⟨many.toNat, by omega⟩
      have hM : M ≤ 20 := by omega
      have HU : Hid (unpI s.data.toList (M : Int) = unp s.data.toList M 0) := unpI_in _ _ (by rw [data_len]; exact hs) hM
      have HD : Hid ((decide ((0 : Int) ≤ (M : Int)) && decide ((M : Int) ≤ 20)) = true) := by
        rw [decide_eq_true (show (0 : Int) ≤ (M : Int) by omega), decide_eq_true (show (M : Int) ≤ 20 by omega)]; exact rfl
      clear hin
      go_enter Tryd.func39, Tryd.ntmps39
      go_wp2_with fail
      refine (l1In_any _ _ _ _).mono ?_
      rintro e w1 ⟨rfl, rfl⟩
      rw [HD.out]
      go_wp2_with fail
      go_loopw [6, 7] (fun u va wr => ∃ (k a : Nat) (acc : List (List UInt8)), k ≤ M ∧ va = .int .i64 (a : Int) ∧ a ≤ 600 ∧ acc.length = k ∧ Hid (unpI s.data.toList (M : Int) = (unp s.data.toList (M - k) a).map (acc ++ ·)) ∧ Hid (Keep wr w1.heap.size u acc) ∧ Below w1.heap.size w1 wr) (fun u _ _ => M - lenOf u)
      case atStart => exact ⟨0, 0, [], Nat.zero_le _, rfl, by omega, rfl, by rw [HU.out, Nat.sub_zero]; simp only [List.nil_append, Option.map_id_fun']; exact rfl, ⟨World.ownsRow_nil _ _ _ _⟩, Below.refl _ _⟩
      case round =>
        obtain ⟨k, a, acc, hk, rfl, ha, hacc, HR, HK, hb⟩ := hrel
        have HACC : Hid (acc.length = k) := hacc
        have hacc1 : acc.length ≤ k := by omega
        have hacc2 : k ≤ acc.length := by omega
        clear hacc
        have hbz := hb.size
        obtain ⟨al, cl, hvl, hcl, hml⟩ := own_slice HK.out.own
        subst hvl
        by_cases hlt : k < M
        · obtain ⟨m, hm⟩ : ∃ m, M - k = m + 1 := ⟨M - k - 1, by omega⟩
          have hm2 : M - (k + 1) = m := by omega
          rw [hm] at HR
          have HM2 : Hid (M - (k + 1) = m) := hm2
          clear hm hm2
          go_wp2_with fail
          refine (l2Take_any s a _ (by omega) (by omega)).mono ?_
          rintro e w2 ⟨hn, hsm, hb2⟩
          have hb02 := hb.trans (hb2.mono hb.size)
          cases hT : takeN s.data.toList a with
          | none =>
            obtain ⟨x, kk, v, rfl⟩ := hn hT
            have HN : Hid (unpI s.data.toList (M : Int) = none) := unp_none HR.out hT
            clear hT hn hsm
            go_wp2_with fail
            go_ret2
            exact ⟨_, unp_ret_none HN.out, by rw [HN.out]; exact .inl ⟨rfl, rfl⟩, hb02⟩
          | some x =>
            obtain ⟨nm, en, q⟩ := x
            obtain ⟨v, rfl, _⟩ := hsm nm en q hT
            have HN : Hid (unpI s.data.toList (M : Int) = (unp s.data.toList m en).map ((acc ++ [nm]) ++ ·)) := unp_some HR.out hT
            have hen : en ≤ 600 := by have h := tk_next hT; rw [data_len] at h; omega
            clear hT hn hsm
            have hown := own_below HK.out.own hb2
            have hb02z := hb02.size
            go_wp2_with (at_builtin; refine wpList_append_own _ rfl (.tmp 34) (.tmp 36) 24 rfl w1.heap.size 9 i0 (.string ByteArray.empty) 1 16 Tryd.underlying24 hi hz0 hz1 hz2 rfl (by decide) _ _ _ rfl (hown.alloc _) ⟨w2.heap.size, 0, none⟩ 1 1 [.string ⟨nm.toArray⟩] rfl rfl ?c1 ?c2 ?c3 ?c4 ?c5 ?_)
            case c1 => exact cell_new_one _ _ _
            case c2 => exact one_string _
            case c3 => unfold maxLen; omega
            case c4 => omega
            case c5 => simp; omega
            intro v4 w4 hown4 hgrow4 _
            have hb4 := below_append hb02 hown hgrow4
            have HK4 : Hid (Keep w4 w1.heap.size v4 (acc ++ [nm])) := keep_next hown4
            have HLV : Hid (lenOf v4 = acc.length + 1) := len_own hown4
            clear hown hown4 hgrow4
            go_wp2_with fail
            go_roundw
            case rel => exact ⟨k + 1, en, acc ++ [nm], by omega, rfl, hen, by rw [List.length_append, HACC.out]; rfl, by rw [HM2.out]; exact HN, HK4, hb4⟩
            case measure => rw [HLV.out]; simp only [lenOf]; omega
        · have hkM : M - k = 0 := by omega
          rw [hkM] at HR
          clear hkM
          by_cases hend : a = s.size
          · have HN : Hid (unpI s.data.toList (M : Int) = some acc) := unp_end HR.out (by rw [data_len]; exact hend)
            have e0 : ((a : Int) != (s.size : Int)) = false := by simp; omega
            clear hend
            go_wp2_with fail
            go_ret2
            exact ⟨_, unp_ret_some HN.out, by rw [HN.out]; exact owns_own HK.out.own, hb⟩
          · have HN : Hid (unpI s.data.toList (M : Int) = none) := unp_not HR.out (by rw [data_len]; exact hend)
            have e0 : ((a : Int) != (s.size : Int)) = true := by simp; omega
            clear hend
            go_wp2_with fail
            go_ret2
            exact ⟨_, unp_ret_none HN.out, by rw [HN.out]; exact .inl ⟨rfl, rfl⟩, hb⟩
    · have HN : Hid (unpI s.data.toList many = none) := if_neg (fun h => hin h.2)
      have hd : (decide ((0 : Int) ≤ many) && decide (many ≤ 20)) = false := by
        simp only [Bool.and_eq_false_iff, decide_eq_false_iff_not]; omega
      have HD : Hid ((decide ((0 : Int) ≤ many) && decide (many ≤ 20)) = false) := hd
      clear hd hin
      go_enter Tryd.func39, Tryd.ntmps39
      go_wp2_with fail
      refine (l1In_any _ _ _ _).mono ?_
      rintro e w1 ⟨rfl, rfl⟩
      rw [HD.out]
      go_wp2_with fail
      go_ret2
      exact ⟨_, unp_ret_none HN.out, by rw [HN.out]; exact .inl ⟨rfl, rfl⟩, Below.refl _ _⟩
  · have HN : Hid (unpI s.data.toList many = none) := if_neg (fun h => hs (by have := h.1; rw [data_len] at this; exact this))
    have g : (600 : Int) < (s.size : Int) := by omega
    go_enter Tryd.func39, Tryd.ntmps39
    go_wp2_with fail
    go_ret2
    exact ⟨_, unp_ret_none HN.out, by rw [HN.out]; exact .inl ⟨rfl, rfl⟩, Below.refl _ _⟩
end Go.Proofs.YtgccbkoklhohfaaDoor
