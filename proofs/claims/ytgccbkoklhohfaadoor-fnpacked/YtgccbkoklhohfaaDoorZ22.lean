import Derived.Test.YtgccbkoklhohfaaDoorZ21
import Derived.Laws.AppendOwnNone
namespace Go.Proofs.YtgccbkoklhohfaaDoor
open Go.RowKit

theorem rd_bounds (l : List UInt8) : ∀ (n a least : Nat) (pt : Option Nat) (raw : List (List UInt8)) (pl : List Nat) (R : List (List UInt8)) (e : Nat) (q : List Nat), rd l n a least pt raw pl = some (R, e, q) →
    (∀ b, pt = some b → e = b ∧ q = pl) ∧ (pt = none → a < e ∧ e ≤ l.length ∧ q.length + a < pl.length + e) ∧ (∀ p ∈ q, p ∈ pl ∨ p < l.length)
  | 0, _, _, _, _, _, _, _, _, h => by simp [rd] at h
  | n + 1, a, least, pt, raw, pl, R, e, q, h => by
    by_cases ha : a < l.length
    · by_cases h0 : l[a].toNat = 0
      · rw [rd_end ha h0] at h
        simp only [Option.some.injEq, Prod.mk.injEq] at h
        obtain ⟨_, rfl, rfl⟩ := h
        refine ⟨fun b hb => ?_, fun hn => ?_, fun p hp => .inl hp⟩
        · subst hb; exact ⟨rfl, rfl⟩
        · subst hn; simp only [Option.getD_none]; omega
      · by_cases h20 : l[a].toNat ≤ 20
        · by_cases hin : a + l[a].toNat < l.length
          · rw [rd_lab ha h0 h20 hin] at h
            have ih := rd_bounds l n _ _ _ _ _ _ _ _ h
            cases pt with
            | none =>
              rw [if_pos rfl] at ih
              refine ⟨fun b hb => (by cases hb), fun _ => ?_, fun p hp => ?_⟩
              · have i2 := ih.2.1 rfl
                rw [List.length_append] at i2
                simp only [List.length_cons, List.length_nil] at i2
                omega
              · rcases ih.2.2 p hp with h1 | h1
                · rcases List.mem_append.1 h1 with h2 | h2
                  · exact .inl h2
                  · rw [List.mem_singleton] at h2; subst h2; exact .inr ha
                · exact .inr h1
            | some b =>
              rw [if_neg (by simp)] at ih
              exact ⟨ih.1, fun hn => (by cases hn), ih.2.2⟩
          · rw [rd_lab_out ha h0 h20 hin] at h; cases h
        · by_cases h192 : 192 ≤ l[a].toNat
          · by_cases hin : a + 1 < l.length
            · obtain ⟨k, hk⟩ : ∃ k, k = (l[a].toNat - 192) * 256 + l[a + 1].toNat := ⟨_, rfl⟩
              by_cases hlt : k < least
              · rw [rd_ptr ha h192 hin hk hlt] at h
                have ih := rd_bounds l n _ _ _ _ _ _ _ _ h
                have i1 := ih.1 _ rfl
                refine ⟨fun b hb => ?_, fun hn => ?_, ih.2.2⟩
                · subst hb; exact i1
                · subst hn
                  simp only [Option.getD_none] at i1
                  rw [i1.1, i1.2]; omega
              · rw [rd_ptr_no ha h192 hin (by rw [← hk]; exact hlt)] at h; cases h
            · rw [rd_ptr_out ha h192 hin] at h; cases h
          · rw [rd_mid ha h20 h192] at h; cases h
    · rw [rd_out ha] at h; cases h

theorem take_bounds {l : List UInt8} {a : Nat} {nm : List UInt8} {e : Nat} {q : List Nat} (h : takeN l a = some (nm, e, q)) : a < e ∧ e ≤ l.length ∧ q.length + a < e ∧ ∀ p ∈ q, p < l.length := by
  unfold takeN takeR at h
  cases hr : rd l (a * 70002 + 70002) a a none [] [] with
  | none => rw [hr] at h; cases h
  | some x =>
    obtain ⟨R, e', q'⟩ := x
    rw [hr] at h
    unfold nmR at h
    simp only at h
    split at h
    · simp only [Option.some.injEq, Prod.mk.injEq] at h
      obtain ⟨_, rfl, rfl⟩ := h
      have hb := rd_bounds l _ _ _ _ _ _ _ _ _ hr
      have h2 := hb.2.1 rfl
      refine ⟨h2.1, h2.2.1, by simpa using h2.2.2, fun p hp => ?_⟩
      rcases hb.2.2 p hp with h3 | h3
      · cases h3
      · exact h3
    · cases h

/-- The places of the labels of the names from a place on. -/
def sufF (l : List UInt8) : Nat → Nat → List Nat
  | 0, _ => []
  | n + 1, a => match takeN l a with
    | none => []
    | some (_, e, q) => q ++ sufF l n e
def sufs (l : List UInt8) : List Nat := sufF l (l.length + 1) 0
theorem sufF_none {l : List UInt8} {n a : Nat} (h : takeN l a = none) : sufF l n a = [] := by
  cases n with
  | zero => rfl
  | succ n => rw [sufF, h]
theorem sufF_some {l : List UInt8} {n a : Nat} {nm : List UInt8} {e : Nat} {q : List Nat} (hn : l.length < n + a) (h : takeN l a = some (nm, e, q)) : ∃ m, l.length < m + e ∧ sufF l n a = q ++ sufF l m e := by
  have hb := take_bounds h
  cases n with
  | zero => omega
  | succ n => exact ⟨n, by omega, by rw [sufF, h]⟩
theorem sufF_mem (l : List UInt8) : ∀ n a, ∀ p ∈ sufF l n a, p < l.length
  | 0, _, p, hp => by cases hp
  | n + 1, a, p, hp => by
    rw [sufF] at hp
    split at hp
    · cases hp
    · rename_i nm e q h
      rcases List.mem_append.1 hp with h1 | h1
      · exact (take_bounds h).2.2.2 p h1
      · exact sufF_mem l n e p h1
theorem sufF_length (l : List UInt8) : ∀ n a, a ≤ l.length → (sufF l n a).length + a ≤ l.length
  | 0, a, h => by simp [sufF]; exact h
  | n + 1, a, h => by
    rw [sufF]
    split
    · simpa using h
    · rename_i nm e q he
      have hb := take_bounds he
      have ih := sufF_length l n e hb.2.1
      rw [List.length_append]; omega
theorem sufs_length (l : List UInt8) : (sufs l).length ≤ l.length := by
  have := sufF_length l (l.length + 1) 0 (Nat.zero_le _)
  unfold sufs; omega

theorem ints_one (q : List Nat) : ∀ u ∈ q.map I64, u.oneCell' = true := by
  intro u hu
  obtain ⟨n, _, rfl⟩ := List.mem_map.1 hu
  rfl
theorem ints_src {w : World} {base g cap : Nat} {q : List Nat} (h : w.ownsRow base 3 1 (.slice (some ⟨g, 0, none⟩) q.length cap) q.length (q.map I64)) : ∀ j u, (q.map I64)[j]? = some u → w.cell? ((⟨g, 0, none⟩ : Addr).add j) = some u := by
  intro j u hj
  have hlt : j < q.length := by
    by_cases e : j < q.length
    · exact e
    · rw [List.getElem?_eq_none (by simp; omega)] at hj; cases hj
  rw [add_zero_off, h.cellAt j (by omega)]; exact hj
theorem own_cases {w : World} {base : Nat} {v : Value} {q : List Nat} (h : w.ownsRow base 3 1 v q.length (q.map I64)) : (v = .slice none 0 0 ∧ q = []) ∨ ∃ g cap, v = .slice (some ⟨g, 0, none⟩) q.length cap := by
  obtain ⟨_, ⟨rfl, hn⟩ | ⟨g, cap, cur, rfl, _⟩⟩ := h
  · exact .inl ⟨rfl, List.length_eq_zero_iff.1 hn⟩
  · exact .inr ⟨g, cap, rfl⟩
theorem below_grownI {w wr w1 : World} {v : Value} {n : Nat} {xs : List Value} (hb : Below w.heap.size w wr) (hown : wr.ownsRow w.heap.size 3 1 v n xs) (hgrow : wr.grownBy w1 v.ownBlock) : Below w.heap.size w w1 :=
  hb.grown hgrow hb.size (fun k hk => (hown.lt k hk).1)

set_option maxRecDepth 20000 in
set_option maxHeartbeats 1000000 in
theorem l2Suffixes_any (s : ByteArray) (w : World) (hs : s.size ≤ 4000) :
    Calls Tryd.prog 108 #[.string s] w fun e w' => ∃ v, e = .returned v ∧ w'.ownsRow w.heap.size 3 1 v (sufs s.data.toList).length ((sufs s.data.toList).map I64) ∧ Below w.heap.size w w' := by
  obtain ⟨i1, hi1, hy0, hy1, hy2⟩ := info_parts info_int
  have HLEN : Hid (s.data.toList.length = s.size) := data_len s
  go_enter Tryd.func108, Tryd.ntmps108
  go_wp2_with fail
  go_loopw [3, 4] (fun v i wr => ∃ (a n : Nat) (acc : List Nat), a ≤ s.size ∧ i = .int .i64 (a : Int) ∧ Hid (sufs s.data.toList = acc ++ sufF s.data.toList n a ∧ s.data.toList.length < n + a) ∧ acc.length ≤ a ∧ wr.ownsRow w.heap.size 3 1 v acc.length (acc.map I64) ∧ Below w.heap.size w wr) (fun _ i _ => s.size - (intOf i).toNat)
  case atStart => exact ⟨0, _, [], Nat.zero_le _, rfl, ⟨rfl, Nat.lt_succ_self _⟩, Nat.le_refl _, World.ownsRow_nil _ _ _ _, Below.refl _ _⟩
  case round =>
    obtain ⟨a, n, acc, ha, rfl, HS, hacc, hown, hb⟩ := hrel
    have hbz := hb.size
    by_cases hlt : a < s.size
    · have HOWN : Hid (wr.ownsRow w.heap.size 3 1 _ acc.length (acc.map I64)) := hown
      clear hown
      go_wp2_with fail
      refine (l2Take_any s a _ hs (by omega)).mono ?_
      rintro e w1 ⟨hn, hsm, hb1⟩
      have hb01 := hb.trans (hb1.mono hb.size)
      have hb01z := hb01.size
      have hown1 := own_below HOWN.out hb1
      cases hR : takeN s.data.toList a with
      | none =>
        obtain ⟨x, k, v, rfl⟩ := hn hR
        have HE : Hid (sufs s.data.toList = acc) := by have := HS.out.1; rw [sufF_none hR, List.append_nil] at this; exact this
        clear hn hsm hR
        have HO : Hid (w1.ownsRow w.heap.size 3 1 _ acc.length (acc.map I64)) := hown1
        clear hown1
        go_wp2_with fail
        go_ret
        exact ⟨_, rfl, by rw [HE.out]; exact HO.out, hb01⟩
      | some x =>
        obtain ⟨nm, en, q⟩ := x
        obtain ⟨v, rfl, hq⟩ := hsm nm en q hR
        obtain ⟨m, hm, hsuf⟩ := sufF_some HS.out.2 hR
        have hbd := take_bounds hR
        have hen := hbd.1
        have hen2 : en ≤ s.size := by rw [← HLEN.out]; exact hbd.2.1
        have hq3 := hbd.2.2.1
        have HNX : Hid (sufs s.data.toList = (acc ++ q) ++ sufF s.data.toList m en ∧ s.data.toList.length < m + en) := ⟨by rw [HS.out.1, hsuf, List.append_assoc], hm⟩
        clear hn hsm hR hsuf hm hbd
        rcases own_cases hq with ⟨rfl, rfl⟩ | ⟨g, cap, rfl⟩
        · rw [List.append_nil] at HNX
          go_wp2_with (first | (at_builtin; refine wpList_append_own_none rfl (.tmp 23) (.tmp 24) 70 rfl w.heap.size 3 i1 1 Tryd.underlying70 hi1 _ _ _ rfl hown1 rfl ?_))
          go_roundw
          case rel => exact ⟨en, m, acc, hen2, rfl, HNX, by omega, hown1, hb01⟩
          case measure => simp [intOf]; omega
        · have hsrc := ints_src hq
          clear hq
          go_wp2_with (first | (at_builtin; refine wpList_append_own _ rfl (.tmp 23) (.tmp 24) 70 rfl w.heap.size 3 i1 (.int .i64 0) 1 8 Tryd.underlying70 hi1 hy0 hy1 hy2 rfl (by decide) _ _ _ rfl hown1 ⟨g, 0, none⟩ q.length cap (q.map I64) rfl (by simp) hsrc (ints_one q) ?d3 ?d4 ?d5 ?_))
          case d3 => unfold maxLen; omega
          case d4 => omega
          case d5 => omega
          intro v2 w2 hown2 hgrow2 _
          have hb2 := below_grownI hb01 hown1 hgrow2
          have HO : Hid (w2.ownsRow w.heap.size 3 1 v2 (acc ++ q).length ((acc ++ q).map I64)) := by
            have h : w2.ownsRow w.heap.size 3 1 v2 (acc ++ q).length ((acc ++ q).map I64) := by rw [List.map_append, List.length_append]; exact hown2
            exact h
          clear hown2 hgrow2 hown1 hsrc
          go_wp2_with fail
          go_roundw
          case rel => exact ⟨en, m, acc ++ q, hen2, rfl, HNX, by rw [List.length_append]; omega, HO.out, hb2⟩
          case measure => simp [intOf]; omega
    · have HE : Hid (sufs s.data.toList = acc) := by
        have h1 := HS.out.1
        have h2 : takeN s.data.toList a = none := going_out (going_start s.data.toList a (by rw [data_len]; omega)) (by rw [data_len]; exact hlt)
        rw [sufF_none h2, List.append_nil] at h1; exact h1
      go_wp2_with fail
      go_ret
      exact ⟨_, rfl, by rw [HE.out]; exact hown, hb⟩
end Go.Proofs.YtgccbkoklhohfaaDoor
