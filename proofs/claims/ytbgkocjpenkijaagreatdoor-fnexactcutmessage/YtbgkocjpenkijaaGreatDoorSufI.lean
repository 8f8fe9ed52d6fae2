import Derived.Test.YtbgkocjpenkijaaGreatDoorSuf
namespace Go.Proofs.YtbgkocjpenkijaaGreatDoor
open Go.RowKit

def okN : Value → Nat
  | .bool true => 1
  | _ => 0

/-- What SuffixesOf tells. -/
def sufsT (l : List UInt8) : List Nat := if l.length ≤ 600 then sufs l else []
theorem sufsT_length (l : List UInt8) : (sufsT l).length ≤ 600 := by
  unfold sufsT; split
  · have := sufs_length l; omega
  · simp
theorem sufsT_mem (l : List UInt8) : ∀ p ∈ sufsT l, p ≤ 600 := by
  unfold sufsT; split
  · intro p hp; have := sufF_mem l _ _ p hp; omega
  · intro p hp; cases hp

/-- What readName has told, at the head of the loop. -/
def AtHead (w0 : World) (l : List UInt8) (wr : World) (a : Nat) (vp vb vo : Value) : Prop :=
  (takeN l a = none ∧ vo = .bool false ∧ ∃ n : Int, vb = .int .i64 n) ∨ ∃ nm en q, takeN l a = some (nm, en, q) ∧ vo = .bool true ∧ vb = .int .i64 ((en : Nat) : Int) ∧ wr.ownsRow w0.heap.size 3 1 vp q.length (q.map I64)
theorem own_monoI {w : World} {base base' : Nat} {e : TypeId} {v : Value} {n : Nat} {xs : List Value} (h : w.ownsRow base e 1 v n xs) (hb : base' ≤ base) : w.ownsRow base' e 1 v n xs := by
  obtain ⟨hl, hh | ⟨g, cap, cur, rfl, hg, hr⟩⟩ := h
  · exact ⟨hl, .inl hh⟩
  · exact ⟨hl, .inr ⟨g, cap, cur, rfl, Nat.le_trans hb hg, hr⟩⟩

set_option maxRecDepth 20000 in
set_option maxHeartbeats 1000000 in
theorem iSuffixesOf_any (s : ByteArray) (w : World) (hE : Env w) :
    Calls Tryz.prog 113 #[.string s] w fun e w' => ∃ v, e = .returned (.tuple #[v, .bool (decide (s.data.toList.length ≤ 600))]) ∧ w'.ownsRow w.heap.size 3 1 v (sufsT s.data.toList).length ((sufsT s.data.toList).map I64) ∧ Below w.heap.size w w' := by
  obtain ⟨i1, hi1, hy0, hy1, hy2⟩ := info_parts info_int
  have HLEN : Hid (s.data.toList.length = s.size) := data_len s
  by_cases hs : s.size ≤ 600
  · have HT : Hid (sufsT s.data.toList = sufs s.data.toList ∧ decide (s.data.toList.length ≤ 600) = true) := by
      unfold sufsT; rw [data_len, if_pos hs]; exact ⟨rfl, decide_eq_true hs⟩
    go_enter Tryz.func113, Tryz.ntmps113
    go_wp2_with fail
    refine (readName_all s 0 w (by omega) (by omega) hE).mono ?_
    rintro e w1 ⟨hn, hsm, hb1⟩
    have h0 : tkI s.data.toList 0 = takeN s.data.toList 0 := tkI_nat (a := 0) hs
    rw [h0] at hn hsm
    obtain ⟨nv, vp, vb, vo, he, HEAD⟩ : ∃ nv vp vb vo, e = .returned (.tuple #[nv, vp, vb, vo]) ∧ AtHead w s.data.toList w1 0 vp vb vo := by
      cases hR : takeN s.data.toList 0 with
      | none => exact ⟨_, _, _, _, hn hR, .inl ⟨hR, rfl, 0, rfl⟩⟩
      | some x =>
        obtain ⟨nm, en, q⟩ := x
        obtain ⟨v, he, hq⟩ := hsm nm en q hR
        exact ⟨_, _, _, _, he, .inr ⟨nm, en, q, hR, rfl, rfl, hq⟩⟩
    subst he
    have HH : Hid (AtHead w s.data.toList w1 0 vp vb vo) := HEAD
    clear hn hsm h0 HEAD
    go_wp2_with fail
    go_loopw [4, 6, 7, 8] (fun v vp vb vo wr => ∃ (a n : Nat) (acc : List Nat), a ≤ s.size ∧ Hid (sufs s.data.toList = acc ++ sufF s.data.toList n a ∧ s.data.toList.length < n + a) ∧ acc.length ≤ a ∧ wr.ownsRow w.heap.size 3 1 v acc.length (acc.map I64) ∧ Hid (AtHead w s.data.toList wr a vp vb vo) ∧ Below w.heap.size w wr) (fun _ _ b o _ => okN o * (s.size + 1 - (intOf b).toNat))
    case atStart => exact ⟨0, _, [], Nat.zero_le _, ⟨rfl, Nat.lt_succ_self _⟩, Nat.le_refl _, World.ownsRow_nil _ _ _ _, HH, hb1⟩
    case round =>
      obtain ⟨a, n, acc, ha, HS, hacc, hown, HD, hb⟩ := hrel
      have hbz := hb.size
      rcases HD.out with ⟨hR, rfl, k, rfl⟩ | ⟨nm, en, q, hR, rfl, rfl, hq⟩
      · have HE : Hid (sufs s.data.toList = acc) := by have := HS.out.1; rw [sufF_none hR, List.append_nil] at this; exact this
        clear hR HD
        go_wp2_with fail
        go_ret2
        exact ⟨_, ret_two rfl (val_bool HT.out.2.symm), by rw [HT.out.1, HE.out]; exact hown, hb⟩
      · obtain ⟨m, hm, hsuf⟩ := sufF_some HS.out.2 hR
        have hbd := take_bounds hR
        have hen := hbd.1
        have hen2 : en ≤ s.size := by rw [← HLEN.out]; exact hbd.2.1
        have hq3 := hbd.2.2.1
        have HNX : Hid (sufs s.data.toList = (acc ++ q) ++ sufF s.data.toList m en ∧ s.data.toList.length < m + en) := ⟨by rw [HS.out.1, hsuf, List.append_assoc], hm⟩
        have HNEXT : Hid (∀ (w2 : World) (e : Ending) (w3 : World), w.heap.size ≤ w2.heap.size → TkRes w2 (tkI s.data.toList (en : Int)) e w3 → ∃ nv vp vb vo, e = .returned (.tuple #[nv, vp, vb, vo]) ∧ AtHead w s.data.toList w3 en vp vb vo ∧ okN vo * (s.size + 1 - (intOf vb).toNat) < s.size + 1 - en) := by
          intro w2 e w3 hz ⟨hn, hsm, _⟩
          rw [tkI_nat hs] at hn hsm
          cases hR2 : takeN s.data.toList en with
          | none => exact ⟨_, _, _, _, hn hR2, .inl ⟨hR2, rfl, 0, rfl⟩, by simp [okN]; omega⟩
          | some x =>
            obtain ⟨nm2, en2, q2⟩ := x
            obtain ⟨v2, he2, hq2⟩ := hsm nm2 en2 q2 hR2
            have hb2 := take_bounds hR2
            exact ⟨_, _, _, _, he2, .inr ⟨nm2, en2, q2, hR2, rfl, rfl, own_monoI hq2 hz⟩, by simp [okN, intOf]; omega⟩
        clear hR hsuf hm hbd HD
        rcases own_cases hq with ⟨rfl, rfl⟩ | ⟨g, cap, rfl⟩
        · rw [List.append_nil] at HNX
          have hEr := hE.below hb
          go_wp2_with (first | (at_builtin; refine wpList_append_own_none rfl (.tmp 20) (.tmp 21) 61 rfl w.heap.size 3 i1 1 Tryz.underlying61 hi1 _ _ _ rfl hown rfl ?_))
          refine (readName_all s en _ (by omega) (by omega) hEr).mono ?_
          intro e w3 hres
          have hb3 := hres.2.2
          obtain ⟨nv, vp, vb, vo, rfl, hd, hms⟩ := HNEXT.out _ _ _ hbz hres
          have HD2 : Hid (AtHead w s.data.toList w3 en vp vb vo) := hd
          have HMS : Hid (okN vo * (s.size + 1 - (intOf vb).toNat) < s.size + 1 - en) := hms
          have HO : Hid (w3.ownsRow w.heap.size 3 1 _ acc.length (acc.map I64)) := own_below hown hb3
          clear hd hms hres hown hq
          go_wp2_with fail
          go_roundw
          case rel => exact ⟨en, m, acc, hen2, HNX, by omega, HO.out, HD2, hb.trans (hb3.mono hb.size)⟩
          case measure => simpa [okN, intOf] using HMS.out
        · have hsrc := ints_src hq
          clear hq
          go_wp2_with (first | (at_builtin; refine wpList_append_own _ rfl (.tmp 20) (.tmp 21) 61 rfl w.heap.size 3 i1 (.int .i64 0) 1 8 Tryz.underlying61 hi1 hy0 hy1 hy2 rfl (by decide) _ _ _ rfl hown ⟨g, 0, none⟩ q.length cap (q.map I64) rfl (by simp) hsrc (ints_one q) ?d3 ?d4 ?d5 ?_))
          case d3 => unfold maxLen; omega
          case d4 => omega
          case d5 => omega
          intro v2 w2 hown2 hgrow2 _
          have hb2 := below_grownI hb hown hgrow2
          have HO : Hid (w2.ownsRow w.heap.size 3 1 v2 (acc ++ q).length ((acc ++ q).map I64)) := by
            have h : w2.ownsRow w.heap.size 3 1 v2 (acc ++ q).length ((acc ++ q).map I64) := by rw [List.map_append, List.length_append]; exact hown2
            exact h
          have hEr := hE.below hb2
          have hb2z := hb2.size
          clear hown2 hgrow2 hown hsrc
          go_wp2_with fail
          refine (readName_all s en _ (by omega) (by omega) hEr).mono ?_
          intro e w3 hres
          have hb3 := hres.2.2
          obtain ⟨nv, vp, vb, vo, rfl, hd, hms⟩ := HNEXT.out _ _ _ hb2z hres
          have HD2 : Hid (AtHead w s.data.toList w3 en vp vb vo) := hd
          have HMS : Hid (okN vo * (s.size + 1 - (intOf vb).toNat) < s.size + 1 - en) := hms
          have HO2 : Hid (w3.ownsRow w.heap.size 3 1 v2 (acc ++ q).length ((acc ++ q).map I64)) := own_below HO.out hb3
          clear hd hms hres
          go_wp2_with fail
          go_roundw
          case rel => exact ⟨en, m, acc ++ q, hen2, HNX, by rw [List.length_append]; omega, HO2.out, HD2, hb2.trans (hb3.mono hb2.size)⟩
          case measure => simpa [okN, intOf] using HMS.out
  · have HT : Hid (sufsT s.data.toList = [] ∧ decide (s.data.toList.length ≤ 600) = false) := by
      unfold sufsT; rw [data_len, if_neg hs]; exact ⟨rfl, decide_eq_false hs⟩
    have g : (600 : Int) < (s.size : Int) := by omega
    go_enter Tryz.func113, Tryz.ntmps113
    go_wp2_with fail
    go_ret2
    exact ⟨_, ret_two rfl (val_bool HT.out.2.symm), by rw [HT.out.1]; exact World.ownsRow_nil _ _ _ _, Below.refl _ _⟩

end Go.Proofs.YtbgkocjpenkijaaGreatDoor
