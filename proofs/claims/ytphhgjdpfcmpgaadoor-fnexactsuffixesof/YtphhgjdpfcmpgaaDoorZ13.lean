import Derived.Test.YtphhgjdpfcmpgaaDoorZ12
import Derived.Laws.AppendOwnNone
namespace Go.Proofs.YtphhgjdpfcmpgaaDoor
open Go.RowKit

theorem rd_bounds (l : List UInt8) : ∀ (n a least : Nat) (pt : Option Nat) (raw : List (List UInt8)) (pl : List Nat) (R : List (List UInt8)) (e : Nat) (q : List Nat), rd l n a least pt raw pl = some (R, e, q) →
    (∀ b, pt = some b → e = b ∧ q = pl) ∧ (pt = none → a < e ∧ e ≤ l.length ∧ q.length + a < pl.length + e) ∧ (∀ p ∈ q, p ∈ pl ∨ p < l.length)
  | 0, _, _, _, _, _, _, _, _, h => by simp [rd] at h
  | n + 1, a, least, pt, raw, pl, R, e, q, h => by
    by_cases ha : a < l.length
    · by_cases h0 : l[a].toNat = 0
      · rw [rd_end ha h0] at h
        simp only [Option.some.injEq, Prod.mk.injEq] at h
        obtain ⟨_, rfl, rfl⟩ := h
        refine ⟨fun b hb => ?_, fun hn => ?_, fun p hp => .inl hp⟩
        · subst hb; exact ⟨rfl, rfl⟩
        · subst hn; simp only [Option.getD_none]; omega
      · by_cases h20 : l[a].toNat ≤ 20
        · by_cases hin : a + l[a].toNat < l.length
          · rw [rd_lab ha h0 h20 hin] at h
            have ih := rd_bounds l n _ _ _ _ _ _ _ _ h
            cases pt with
            | none =>
              rw [if_pos rfl] at ih
              refine ⟨fun b hb => (by cases hb), fun _ => ?_, fun p hp => ?_⟩
              · have i2 := ih.2.1 rfl
                rw [List.length_append] at i2
                simp only [List.length_cons, List.length_nil] at i2
                omega
              · rcases ih.2.2 p hp with h1 | h1
                · rcases List.mem_append.1 h1 with h2 | h2
                  · exact .inl h2
                  · rw [List.mem_singleton] at h2; subst h2; exact .inr ha
                · exact .inr h1
            | some b =>
              rw [if_neg (by simp)] at ih
              exact ⟨ih.1, fun hn => (by cases hn), ih.2.2⟩
          · rw [rd_lab_out ha h0 h20 hin] at h; cases h
        · by_cases h192 : 192 ≤ l[a].toNat
          · by_cases hin : a + 1 < l.length
            · obtain ⟨k, hk⟩ : ∃ k, k = (l[a].toNat - 192) * 256 + l[a + 1].toNat := ⟨_, rfl⟩
              by_cases hlt : k < least
              · rw [rd_ptr ha h192 hin hk hlt] at h
                have ih := rd_bounds l n _ _ _ _ _ _ _ _ h
                have i1 := ih.1 _ rfl
                refine ⟨fun b hb => ?_, fun hn => ?_, ih.2.2⟩
                · subst hb; exact i1
                · subst hn
                  simp only [Option.getD_none] at i1
                  rw [i1.1, i1.2]; omega
              · rw [rd_ptr_no ha h192 hin (by rw [← hk]; exact hlt)] at h; cases h
            · rw [rd_ptr_out ha h192 hin] at h; cases h
          · rw [rd_mid ha h20 h192] at h; cases h
    · rw [rd_out ha] at h; cases h

theorem take_bounds {l : List UInt8} {a : Nat} {nm : List UInt8} {e : Nat} {q : List Nat} (h : takeN l a = some (nm, e, q)) : a < e ∧ e ≤ l.length ∧ q.length + a < e ∧ ∀ p ∈ q, p < l.length := by
  unfold takeN takeR at h
  cases hr : rd l (a * 70002 + 70002) a a none [] [] with
  | none => rw [hr] at h; cases h
  | some x =>
    obtain ⟨R, e', q'⟩ := x
    rw [hr] at h
    unfold nmR at h
    simp only at h
    split at h
    · simp only [Option.some.injEq, Prod.mk.injEq] at h
      obtain ⟨_, rfl, rfl⟩ := h
      have hb := rd_bounds l _ _ _ _ _ _ _ _ _ hr
      have h2 := hb.2.1 rfl
      refine ⟨h2.1, h2.2.1, by simpa using h2.2.2, fun p hp => ?_⟩
      rcases hb.2.2 p hp with h3 | h3
      · cases h3
      · exact h3
    · cases h

/-- The places of the labels of the names from a place on. -/
def sufF (l : List UInt8) : Nat → Nat → List Nat
  | 0, _ => []
  | n + 1, a => match takeN l a with
    | none => []
    | some (_, e, q) => q ++ sufF l n e
def sufs (l : List UInt8) : List Nat := sufF l (l.length + 1) 0
theorem sufF_none {l : List UInt8} {n a : Nat} (h : takeN l a = none) : sufF l n a = [] := by
  cases n with
  | zero => rfl
  | succ n => rw [sufF, h]
theorem sufF_some {l : List UInt8} {n a : Nat} {nm : List UInt8} {e : Nat} {q : List Nat} (hn : l.length < n + a) (h : takeN l a = some (nm, e, q)) : ∃ m, l.length < m + e ∧ sufF l n a = q ++ sufF l m e := by
  have hb := take_bounds h
  cases n with
  | zero => omega
  | succ n => exact ⟨n, by omega, by rw [sufF, h]⟩
theorem sufF_mem (l : List UInt8) : ∀ n a, ∀ p ∈ sufF l n a, p < l.length
  | 0, _, p, hp => by cases hp
  | n + 1, a, p, hp => by
    rw [sufF] at hp
    split at hp
    · cases hp
    · rename_i nm e q h
      rcases List.mem_append.1 hp with h1 | h1
      · exact (take_bounds h).2.2.2 p h1
      · exact sufF_mem l n e p h1
theorem sufF_length (l : List UInt8) : ∀ n a, a ≤ l.length → (sufF l n a).length + a ≤ l.length
  | 0, a, h => by simp [sufF]; exact h
  | n + 1, a, h => by
    rw [sufF]
    split
    · simpa using h
    · rename_i nm e q he
      have hb := take_bounds he
      have ih := sufF_length l n e hb.2.1
      rw [List.length_append]; omega
theorem sufs_length (l : List UInt8) : (sufs l).length ≤ l.length := by
  have := sufF_length l (l.length + 1) 0 (Nat.zero_le _)
  unfold sufs; omega

theorem ints_one (q : List Nat) : ∀ u ∈ q.map I64, u.oneCell' = true := by
  intro u hu
  obtain ⟨n, _, rfl⟩ := List.mem_map.1 hu
  rfl
theorem ints_src {w : World} {base g cap : Nat} {q : List Nat} (h : w.ownsRow base 3 1 (.slice (some ⟨g, 0, none⟩) q.length cap) q.length (q.map I64)) : ∀ j u, (q.map I64)[j]? = some u → w.cell? ((⟨g, 0, none⟩ : Addr).add j) = some u := by
  intro j u hj
  have hlt : j < q.length := by
    by_cases e : j < q.length
    · exact e
    · rw [List.getElem?_eq_none (by simp; omega)] at hj; cases hj
  rw [add_zero_off, h.cellAt j (by omega)]; exact hj
theorem own_cases {w : World} {base : Nat} {v : Value} {q : List Nat} (h : w.ownsRow base 3 1 v q.length (q.map I64)) : (v = .slice none 0 0 ∧ q = []) ∨ ∃ g cap, v = .slice (some ⟨g, 0, none⟩) q.length cap := by
  obtain ⟨_, ⟨rfl, hn⟩ | ⟨g, cap, cur, rfl, _⟩⟩ := h
  · exact .inl ⟨rfl, List.length_eq_zero_iff.1 hn⟩
  · exact .inr ⟨g, cap, rfl⟩
theorem below_grownI {w wr w1 : World} {v : Value} {n : Nat} {xs : List Value} (hb : Below w.heap.size w wr) (hown : wr.ownsRow w.heap.size 3 1 v n xs) (hgrow : wr.grownBy w1 v.ownBlock) : Below w.heap.size w w1 :=
  hb.grown hgrow hb.size (fun k hk => (hown.lt k hk).1)

set_option maxRecDepth 20000 in
set_option maxHeartbeats 1000000 in
theorem l2Suffixes_any (s : ByteArray) (w : World) (hs : s.size ≤ 4000) :
    Calls Tryd.prog 44 #[.string s] w fun e w' => ∃ v, e = .returned v ∧ w'.ownsRow w.heap.size 3 1 v (sufs s.data.toList).length ((sufs s.data.toList).map I64) ∧ Below w.heap.size w w' := by
  obtain ⟨i1, hi1, hy0, hy1, hy2⟩ := info_parts info_int
  have HLEN : Hid (s.data.toList.length = s.size) := data_len s
  go_enter Tryd.func44, Tryd.ntmps44
  go_wp2_with fail
  go_loopw [3, 4] (fun v i wr => ∃ (a n : Nat) (acc : List Nat), a ≤ s.size ∧ i = .int .i64 (a : Int) ∧ Hid (sufs s.data.toList = acc ++ sufF s.data.toList n a ∧ s.data.toList.length < n + a) ∧ acc.length ≤ a ∧ wr.ownsRow w.heap.size 3 1 v acc.length (acc.map I64) ∧ Below w.heap.size w wr) (fun _ i _ => s.size - (intOf i).toNat)
  case atStart => exact ⟨0, _, [], Nat.zero_le _, rfl, ⟨rfl, Nat.lt_succ_self _⟩, Nat.le_refl _, World.ownsRow_nil _ _ _ _, Below.refl _ _⟩
  case round =>
    obtain ⟨a, n, acc, ha, rfl, HS, hacc, hown, hb⟩ := hrel
    have hbz := hb.size
    by_cases hlt : a < s.size
    · have HOWN : Hid (wr.ownsRow w.heap.size 3 1 _ acc.length (acc.map I64)) := hown
      clear hown
      go_wp2_with fail
      refine (l2Take_any s a _ hs (by omega)).mono ?_
      rintro e w1 ⟨hn, hsm, hb1⟩
      have hb01 := hb.trans (hb1.mono hb.size)
      have hb01z := hb01.size
      have hown1 := own_below HOWN.out hb1
      cases hR : takeN s.data.toList a with
      | none =>
        obtain ⟨x, k, v, rfl⟩ := hn hR
        have HE : Hid (sufs s.data.toList = acc) := by have := HS.out.1; rw [sufF_none hR, List.append_nil] at this; exact this
        clear hn hsm hR
        have HO : Hid (w1.ownsRow w.heap.size 3 1 _ acc.length (acc.map I64)) := hown1
        clear hown1
        go_wp2_with fail
        go_ret
        exact ⟨_, rfl, by rw [HE.out]; exact HO.out, hb01⟩
      | some x =>
        obtain ⟨nm, en, q⟩ := x
        obtain ⟨v, rfl, hq⟩ := hsm nm en q hR
        obtain ⟨m, hm, hsuf⟩ := sufF_some HS.out.2 hR
        have hbd := take_bounds hR
        have hen := hbd.1
        have hen2 : en ≤ s.size := by rw [← HLEN.out]; exact hbd.2.1
        have hq3 := hbd.2.2.1
        have HNX : Hid (sufs s.data.toList = (acc ++ q) ++ sufF s.data.toList m en ∧ s.data.toList.length < m + en) := ⟨by rw [HS.out.1, hsuf, List.append_assoc], hm⟩
        clear hn hsm hR hsuf hm hbd
        rcases own_cases hq with ⟨rfl, rfl⟩ | ⟨g, cap, rfl⟩
        · rw [List.append_nil] at HNX
          go_wp2_with (first | (at_builtin; refine wpList_append_own_none rfl (.tmp 23) (.tmp 24) 38 rfl w.heap.size 3 i1 1 Tryd.underlying38 hi1 _ _ _ rfl hown1 rfl ?_))
          go_roundw
          case rel => exact ⟨en, m, acc, hen2, rfl, HNX, by omega, hown1, hb01⟩
          case measure => simp [intOf]; omega
        · have hsrc := ints_src hq
          clear hq
          go_wp2_with (first | (at_builtin; refine wpList_append_own _ rfl (.tmp 23) (.tmp 24) 38 rfl w.heap.size 3 i1 (.int .i64 0) 1 8 Tryd.underlying38 hi1 hy0 hy1 hy2 rfl (by decide) _ _ _ rfl hown1 ⟨g, 0, none⟩ q.length cap (q.map I64) rfl (by simp) hsrc (ints_one q) ?d3 ?d4 ?d5 ?_))
          case d3 => unfold maxLen; omega
          case d4 => omega
          case d5 => omega
          intro v2 w2 hown2 hgrow2 _
          have hb2 := below_grownI hb01 hown1 hgrow2
          have HO : Hid (w2.ownsRow w.heap.size 3 1 v2 (acc ++ q).length ((acc ++ q).map I64)) := by
            have h : w2.ownsRow w.heap.size 3 1 v2 (acc ++ q).length ((acc ++ q).map I64) := by rw [List.map_append, List.length_append]; exact hown2
            exact h
          clear hown2 hgrow2 hown1 hsrc
          go_wp2_with fail
          go_roundw
          case rel => exact ⟨en, m, acc ++ q, hen2, rfl, HNX, by rw [List.length_append]; omega, HO.out, hb2⟩
          case measure => simp [intOf]; omega
    · have HE : Hid (sufs s.data.toList = acc) := by
        have h1 := HS.out.1
        have h2 : takeN s.data.toList a = none := going_out (going_start s.data.toList a (by rw [data_len]; omega)) (by rw [data_len]; exact hlt)
        rw [sufF_none h2, List.append_nil] at h1; exact h1
      go_wp2_with fail
      go_ret
      exact ⟨_, rfl, by rw [HE.out]; exact hown, hb⟩
end Go.Proofs.YtphhgjdpfcmpgaaDoor

namespace Go.Proofs.YtphhgjdpfcmpgaaDoor
open Go.RowKit

def okN : Value → Nat
  | .bool true => 1
  | _ => 0

/-- What SuffixesOf tells. -/
def sufsT (l : List UInt8) : List Nat := if l.length ≤ 600 then sufs l else []
theorem sufsT_length (l : List UInt8) : (sufsT l).length ≤ 600 := by
  unfold sufsT; split
  · have := sufs_length l; omega
  · simp
theorem sufsT_mem (l : List UInt8) : ∀ p ∈ sufsT l, p ≤ 600 := by
  unfold sufsT; split
  · intro p hp; have := sufF_mem l _ _ p hp; omega
  · intro p hp; cases hp

/-- What readName has told, at the head of the loop. -/
def AtHead (w0 : World) (l : List UInt8) (wr : World) (a : Nat) (vp vb vo : Value) : Prop :=
  (takeN l a = none ∧ vo = .bool false ∧ ∃ n : Int, vb = .int .i64 n) ∨ ∃ nm en q, takeN l a = some (nm, en, q) ∧ vo = .bool true ∧ vb = .int .i64 ((en : Nat) : Int) ∧ wr.ownsRow w0.heap.size 3 1 vp q.length (q.map I64)
theorem own_monoI {w : World} {base base' : Nat} {e : TypeId} {v : Value} {n : Nat} {xs : List Value} (h : w.ownsRow base e 1 v n xs) (hb : base' ≤ base) : w.ownsRow base' e 1 v n xs := by
  obtain ⟨hl, hh | ⟨g, cap, cur, rfl, hg, hr⟩⟩ := h
  · exact ⟨hl, .inl hh⟩
  · exact ⟨hl, .inr ⟨g, cap, cur, rfl, Nat.le_trans hb hg, hr⟩⟩

set_option maxRecDepth 20000 in
set_option maxHeartbeats 1000000 in
theorem placesIn_any (s : ByteArray) (w : World) (hs : s.size ≤ 600) (hE : Env w) :
    Calls Tryd.prog 45 #[.string s] w fun e w' => ∃ v, e = .returned v ∧ w'.ownsRow w.heap.size 3 1 v (sufs s.data.toList).length ((sufs s.data.toList).map I64) ∧ Below w.heap.size w w' := by
  obtain ⟨i1, hi1, hy0, hy1, hy2⟩ := info_parts info_int
  have HLEN : Hid (s.data.toList.length = s.size) := data_len s
  go_enter Tryd.func45, Tryd.ntmps45
  go_wp2_with fail
  refine (readName_all s 0 w (by omega) (by omega) (by omega) hE).mono ?_
  rintro e w1 ⟨hn, hsm, hb1⟩
  have h0 : tkP s.data.toList 0 = takeN s.data.toList 0 := tkP_nat (a := 0) (by omega)
  rw [h0] at hn hsm
  obtain ⟨nv, vp, vb, vo, he, HEAD⟩ : ∃ nv vp vb vo, e = .returned (.tuple #[nv, vp, vb, vo]) ∧ AtHead w s.data.toList w1 0 vp vb vo := by
    cases hR : takeN s.data.toList 0 with
    | none => exact ⟨_, _, _, _, hn hR, .inl ⟨hR, rfl, 0, rfl⟩⟩
    | some x =>
      obtain ⟨nm, en, q⟩ := x
      obtain ⟨v, he, hq⟩ := hsm nm en q hR
      exact ⟨_, _, _, _, he, .inr ⟨nm, en, q, hR, rfl, rfl, hq⟩⟩
  subst he
  have HH : Hid (AtHead w s.data.toList w1 0 vp vb vo) := HEAD
  clear hn hsm h0 HEAD
  go_wp2_with fail
  go_loopw [3, 5, 6, 7] (fun v vp vb vo wr => ∃ (a n : Nat) (acc : List Nat), a ≤ s.size ∧ Hid (sufs s.data.toList = acc ++ sufF s.data.toList n a ∧ s.data.toList.length < n + a) ∧ acc.length ≤ a ∧ wr.ownsRow w.heap.size 3 1 v acc.length (acc.map I64) ∧ Hid (AtHead w s.data.toList wr a vp vb vo) ∧ Below w.heap.size w wr) (fun _ _ b o _ => okN o * (s.size + 1 - (intOf b).toNat))
  case atStart => exact ⟨0, _, [], Nat.zero_le _, ⟨rfl, Nat.lt_succ_self _⟩, Nat.le_refl _, World.ownsRow_nil _ _ _ _, HH, hb1⟩
  case round =>
    obtain ⟨a, n, acc, ha, HS, hacc, hown, HD, hb⟩ := hrel
    have hbz := hb.size
    rcases HD.out with ⟨hR, rfl, k, rfl⟩ | ⟨nm, en, q, hR, rfl, rfl, hq⟩
    · have HE : Hid (sufs s.data.toList = acc) := by have := HS.out.1; rw [sufF_none hR, List.append_nil] at this; exact this
      clear hR HD
      go_wp2_with fail
      go_ret
      exact ⟨_, rfl, by rw [HE.out]; exact hown, hb⟩
    · obtain ⟨m, hm, hsuf⟩ := sufF_some HS.out.2 hR
      have hbd := take_bounds hR
      have hen := hbd.1
      have hen2 : en ≤ s.size := by rw [← HLEN.out]; exact hbd.2.1
      have hq3 := hbd.2.2.1
      have HNX : Hid (sufs s.data.toList = (acc ++ q) ++ sufF s.data.toList m en ∧ s.data.toList.length < m + en) := ⟨by rw [HS.out.1, hsuf, List.append_assoc], hm⟩
      have HNEXT : Hid (∀ (w2 : World) (e : Ending) (w3 : World), w.heap.size ≤ w2.heap.size → TkRes w2 (tkP s.data.toList (en : Int)) e w3 → ∃ nv vp vb vo, e = .returned (.tuple #[nv, vp, vb, vo]) ∧ AtHead w s.data.toList w3 en vp vb vo ∧ okN vo * (s.size + 1 - (intOf vb).toNat) < s.size + 1 - en) := by
        intro w2 e w3 hz ⟨hn, hsm, _⟩
        rw [tkP_nat (by omega)] at hn hsm
        cases hR2 : takeN s.data.toList en with
        | none => exact ⟨_, _, _, _, hn hR2, .inl ⟨hR2, rfl, 0, rfl⟩, by simp [okN]; omega⟩
        | some x =>
          obtain ⟨nm2, en2, q2⟩ := x
          obtain ⟨v2, he2, hq2⟩ := hsm nm2 en2 q2 hR2
          have hb2 := take_bounds hR2
          exact ⟨_, _, _, _, he2, .inr ⟨nm2, en2, q2, hR2, rfl, rfl, own_monoI hq2 hz⟩, by simp [okN, intOf]; omega⟩
      clear hR hsuf hm hbd HD
      rcases own_cases hq with ⟨rfl, rfl⟩ | ⟨g, cap, rfl⟩
      · rw [List.append_nil] at HNX
        have hEr := hE.below hb
        go_wp2_with (first | (at_builtin; refine wpList_append_own_none rfl (.tmp 16) (.tmp 17) 38 rfl w.heap.size 3 i1 1 Tryd.underlying38 hi1 _ _ _ rfl hown rfl ?_))
        refine (readName_all s en _ (by omega) (by omega) (by omega) hEr).mono ?_
        intro e w3 hres
        have hb3 := hres.2.2
        obtain ⟨nv, vp, vb, vo, rfl, hd, hms⟩ := HNEXT.out _ _ _ hbz hres
        have HD2 : Hid (AtHead w s.data.toList w3 en vp vb vo) := hd
        have HMS : Hid (okN vo * (s.size + 1 - (intOf vb).toNat) < s.size + 1 - en) := hms
        have HO : Hid (w3.ownsRow w.heap.size 3 1 _ acc.length (acc.map I64)) := own_below hown hb3
        clear hd hms hres hown hq
        go_wp2_with fail
        go_roundw
        case rel => exact ⟨en, m, acc, hen2, HNX, by omega, HO.out, HD2, hb.trans (hb3.mono hb.size)⟩
        case measure => simpa [okN, intOf] using HMS.out
      · have hsrc := ints_src hq
        clear hq
        go_wp2_with (first | (at_builtin; refine wpList_append_own _ rfl (.tmp 16) (.tmp 17) 38 rfl w.heap.size 3 i1 (.int .i64 0) 1 8 Tryd.underlying38 hi1 hy0 hy1 hy2 rfl (by decide) _ _ _ rfl hown ⟨g, 0, none⟩ q.length cap (q.map I64) rfl (by simp) hsrc (ints_one q) ?d3 ?d4 ?d5 ?_))
        case d3 => unfold maxLen; omega
        case d4 => omega
        case d5 => omega
        intro v2 w2 hown2 hgrow2 _
        have hb2 := below_grownI hb hown hgrow2
        have HO : Hid (w2.ownsRow w.heap.size 3 1 v2 (acc ++ q).length ((acc ++ q).map I64)) := by
          have h : w2.ownsRow w.heap.size 3 1 v2 (acc ++ q).length ((acc ++ q).map I64) := by rw [List.map_append, List.length_append]; exact hown2
          exact h
        have hEr := hE.below hb2
        have hb2z := hb2.size
        clear hown2 hgrow2 hown hsrc
        go_wp2_with fail
        refine (readName_all s en _ (by omega) (by omega) (by omega) hEr).mono ?_
        intro e w3 hres
        have hb3 := hres.2.2
        obtain ⟨nv, vp, vb, vo, rfl, hd, hms⟩ := HNEXT.out _ _ _ hb2z hres
        have HD2 : Hid (AtHead w s.data.toList w3 en vp vb vo) := hd
        have HMS : Hid (okN vo * (s.size + 1 - (intOf vb).toNat) < s.size + 1 - en) := hms
        have HO2 : Hid (w3.ownsRow w.heap.size 3 1 v2 (acc ++ q).length ((acc ++ q).map I64)) := own_below HO.out hb3
        clear hd hms hres
        go_wp2_with fail
        go_roundw
        case rel => exact ⟨en, m, acc ++ q, hen2, HNX, by rw [List.length_append]; omega, HO2.out, HD2, hb2.trans (hb3.mono hb2.size)⟩
        case measure => simpa [okN, intOf] using HMS.out

set_option maxRecDepth 20000 in
set_option maxHeartbeats 1000000 in
theorem iSuffixesOf_any (s : ByteArray) (w : World) (hE : Env w) :
    Calls Tryd.prog 26 #[.string s] w fun e w' => ∃ v, e = .returned (.tuple #[v, .bool (decide (s.data.toList.length ≤ 600))]) ∧ w'.ownsRow w.heap.size 3 1 v (sufsT s.data.toList).length ((sufsT s.data.toList).map I64) ∧ Below w.heap.size w w' := by
  by_cases hs : s.size ≤ 600
  · have HT : Hid (sufsT s.data.toList = sufs s.data.toList ∧ decide (s.data.toList.length ≤ 600) = true) := by
      unfold sufsT; rw [data_len, if_pos hs]; exact ⟨rfl, decide_eq_true hs⟩
    go_enter Tryd.func26, Tryd.ntmps26
    go_wp2_with fail
    refine (placesIn_any s w hs hE).mono ?_
    rintro e w1 ⟨v, rfl, hown, hb⟩
    have HO : Hid (w1.ownsRow w.heap.size 3 1 v (sufs s.data.toList).length ((sufs s.data.toList).map I64)) := hown
    clear hown
    go_wp2_with fail
    go_ret2
    exact ⟨_, ret_two rfl (val_bool HT.out.2.symm), by rw [HT.out.1]; exact HO.out, hb⟩
  · have HT : Hid (sufsT s.data.toList = [] ∧ decide (s.data.toList.length ≤ 600) = false) := by
      unfold sufsT; rw [data_len, if_neg hs]; exact ⟨rfl, decide_eq_false hs⟩
    have g : (600 : Int) < (s.size : Int) := by omega
    go_enter Tryd.func26, Tryd.ntmps26
    go_wp2_with fail
    go_ret2
    exact ⟨_, ret_two rfl (val_bool HT.out.2.symm), by rw [HT.out.1]; exact World.ownsRow_nil _ _ _ _, Below.refl _ _⟩

set_option maxRecDepth 20000 in
set_option maxHeartbeats 1000000 in
theorem sSuffixesOf_any (s : ByteArray) (w : World) :
    Calls Tryd.prog 25 #[.string s] w fun e w' => ∃ v, e = .returned (.tuple #[v, .bool (decide (s.data.toList.length ≤ 600))]) ∧ w'.ownsRow w.heap.size 3 1 v (sufsT s.data.toList).length ((sufsT s.data.toList).map I64) ∧ Below w.heap.size w w' := by
  by_cases hs : s.size ≤ 600
  · have HT : Hid (sufsT s.data.toList = sufs s.data.toList ∧ decide (s.data.toList.length ≤ 600) = true) := by
      unfold sufsT; rw [data_len, if_pos hs]; exact ⟨rfl, decide_eq_true hs⟩
    go_enter Tryd.func25, Tryd.ntmps25
    go_wp2_with fail
    refine (l2Suffixes_any s w (by omega)).mono ?_
    rintro e w1 ⟨v, rfl, hown, hb⟩
    have HO : Hid (w1.ownsRow w.heap.size 3 1 v (sufs s.data.toList).length ((sufs s.data.toList).map I64)) := hown
    clear hown
    go_wp2_with fail
    go_ret2
    exact ⟨_, ret_two rfl (val_bool HT.out.2.symm), by rw [HT.out.1]; exact HO.out, hb⟩
  · have HT : Hid (sufsT s.data.toList = [] ∧ decide (s.data.toList.length ≤ 600) = false) := by
      unfold sufsT; rw [data_len, if_neg hs]; exact ⟨rfl, decide_eq_false hs⟩
    have g : (600 : Int) < (s.size : Int) := by omega
    go_enter Tryd.func25, Tryd.ntmps25
    go_wp2_with fail
    go_ret2
    exact ⟨_, ret_two rfl (val_bool HT.out.2.symm), by rw [HT.out.1]; exact World.ownsRow_nil _ _ _ _, Below.refl _ _⟩
end Go.Proofs.YtphhgjdpfcmpgaaDoor
