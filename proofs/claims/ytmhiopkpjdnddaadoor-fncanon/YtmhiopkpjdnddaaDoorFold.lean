import Derived.Test.YtmhiopkpjdnddaaDoorJoin
namespace Go.Proofs.YtmhiopkpjdnddaaDoor
open Go.RowKit

/-- Bytes as they lie in a block of the call's own. -/
def BRow (w : World) (g : Nat) (l : List UInt8) : Prop := g < w.heap.size ∧ ∀ j, (hj : j < l.length) → w.cell? ⟨g, j, none⟩ = some (.int .u8 (l[j].toNat : Int)) ∧ w.frozen? ⟨g, j, none⟩ = false
theorem BRow.kept {w w' : World} {g : Nat} {l : List UInt8} (h : BRow w g l) (hb : Below w.heap.size w w') : BRow w' g l :=
  ⟨Nat.lt_of_lt_of_le h.1 hb.size, fun j hj => by rw [hb.cell (p := ⟨g, j, none⟩) h.1, hb.frozen (p := ⟨g, j, none⟩) h.1]; exact h.2 j hj⟩
theorem BRow.set {w : World} {g : Nat} {l : List UInt8} (h : BRow w g l) (k : Nat) (hk : k < l.length) (c : UInt8) : BRow (w.setCell ⟨g, k, none⟩ (.int .u8 (c.toNat : Int))) g (l.set k c) := by
  refine ⟨by simpa using h.1, fun j hj => ?_⟩
  have hj' : j < l.length := by simpa using hj
  refine ⟨?_, by simpa using (h.2 j hj').2⟩
  rw [List.getElem_set]
  split
  · rename_i e; subst e; exact World.cell?_setCell_same _ _ _ (h.2 k hk).1
  · rename_i e
    rw [World.cell?_setCell_other _ _ _ _ (show (⟨g, k, none⟩ : Addr) ≠ ⟨g, j, none⟩ by intro h; cases h; exact e rfl)]
    exact (h.2 j hj').1

theorem bytes_of (s : ByteArray) (w : World) (hs : s.size ≤ maxLen) :
    ∃ cap W0, Sem.run Tryd.prog (convert 9 22 (.string s)) w = .ok (.slice (some ⟨w.heap.size, 0, none⟩) s.size cap) W0 ∧ BRow W0 w.heap.size s.data.toList ∧ s.size ≤ cap ∧ cap ≤ maxLen ∧ Below w.heap.size w W0 := by
  refine ⟨_, _, run_bytes_of_string w 9 22 5 s Tryd.underlying9 Tryd.underlying22 Tryd.underlying5, ?_, grownCap_ge _ _ _ _, grownCap_le_maxLen _ _ _ _ hs, ?_⟩
  · have hz : s.data.toList.length = s.size := by simp
    have hn : ∀ (C : Array Value) (fr : Nat × Nat), (w.drew.alloc (.cells C 5 fr)).heap[w.heap.size]? = some (.cells C 5 fr) := fun C fr => by
      show (w.heap.push (.cells C 5 fr))[w.heap.size]? = _
      simp
    refine ⟨by simp, fun j hj => ⟨?_, ?_⟩⟩
    · have := World.cell?_alloc_mark w.drew (bytesRow s (grownCap w s.size 0 5)) 5 ((bytesRow s (grownCap w s.size 0 5)).size, (bytesRow s (grownCap w s.size 0 5)).size + 1) j
      rw [show w.drew.heap.size = w.heap.size from rfl] at this
      rw [this]
      unfold bytesRow
      rw [Array.getElem?_append_left (by simpa using hj)]
      simp at hj
      simp [hj]
    · simp only [World.frozen?]
      rw [hn]
      have hle : j < (bytesRow s (grownCap w s.size 0 5)).size := by
        unfold bytesRow
        rw [hz] at hj
        simp only [Array.size_append, Array.size_map]
        exact Nat.lt_of_lt_of_le hj (Nat.le_add_right _ _)
      simp; omega
  · exact ((Below.refl _ _).drew).alloc (Nat.le_refl _) _

theorem string_of {w : World} {g cap : Nat} {l : List UInt8} (h : BRow w g l) (n : Nat) (hn : n = l.length) : Sem.run Tryd.prog (convert 22 9 (.slice (some ⟨g, 0, none⟩) n cap)) w = .ok (.string ⟨l.toArray⟩) w := by
  subst hn
  refine run_convert_bytes_back w 22 9 5 ⟨g, 0, none⟩ cap l Tryd.underlying22 Tryd.underlying5 Tryd.underlying9 (fun j hj => ?_)
  rw [add_zero_off]; exact (h.2 j hj).1

/-- Great letters become small. -/
def foldC (c : UInt8) : UInt8 := if 65 ≤ c.toNat ∧ c.toNat ≤ 90 then c + 32 else c
theorem foldC_toNat {c : UInt8} (h1 : 65 ≤ c.toNat) (h2 : c.toNat ≤ 90) : (foldC c).toNat = c.toNat + 32 := by
  unfold foldC; rw [if_pos ⟨h1, h2⟩, UInt8.toNat_add]
  show (c.toNat + 32) % 256 = _
  omega
theorem foldC_same {c : UInt8} (h : ¬ (65 ≤ c.toNat ∧ c.toNat ≤ 90)) : foldC c = c := by unfold foldC; rw [if_neg h]
/-- Behind k rounds. -/
def mix (l : List UInt8) (k : Nat) : List UInt8 := (l.take k).map foldC ++ l.drop k
theorem mix_length (l : List UInt8) (k : Nat) : (mix l k).length = l.length := by simp [mix]; omega
theorem mix_zero (l : List UInt8) : mix l 0 = l := by simp [mix]
theorem mix_end (l : List UInt8) (k : Nat) (h : ¬ k < l.length) : mix l k = l.map foldC := by
  unfold mix; rw [List.take_of_length_le (by omega), List.drop_of_length_le (by omega), List.append_nil]
theorem mix_at (l : List UInt8) (k : Nat) (h : k < l.length) : (mix l k)[k]'(by rw [mix_length]; exact h) = l[k] := by
  unfold mix
  rw [List.getElem_append_right (by simp; omega)]
  simp only [List.length_map, List.length_take]
  simp only [List.getElem_drop]
  congr 1; omega
theorem mix_next (l : List UInt8) (k : Nat) (h : k < l.length) : mix l (k + 1) = (mix l k).set k (foldC l[k]) := by
  unfold mix
  have hm : ((l.take k).map foldC).length = k := by simp; omega
  rw [List.take_succ_eq_append_getElem h, List.set_append_right _ _ (by omega), hm, Nat.sub_self, List.drop_eq_getElem_cons h]
  simp only [List.map_append, List.map_cons, List.map_nil, List.set_cons_zero, List.append_assoc, List.singleton_append]
theorem mix_same (l : List UInt8) (k : Nat) (h : k < l.length) (hc : foldC l[k] = l[k]) : mix l (k + 1) = mix l k := by
  rw [mix_next l k h, hc]
  have := mix_at l k h
  apply List.ext_getElem
  · simp
  · intro i h1 h2
    rw [List.getElem_set]
    split
    · rename_i e; subst e; exact this.symm
    · rfl

/-- What FoldName tells. -/
def foldT (l : List UInt8) : List UInt8 := if l.length ≤ 60 ∧ nameB (l.map foldC) = true then l.map foldC else []
def foldB (l : List UInt8) : Bool := decide (l.length ≤ 60) && nameB (l.map foldC)

set_option maxRecDepth 20000 in
set_option maxHeartbeats 1000000 in
theorem sFoldName_any (s : ByteArray) (w : World) (hs : s.size ≤ 4294967280) :
    Calls Tryd.prog 22 #[.string s] w fun e w' => e = .returned (.tuple #[.string ⟨(foldT s.data.toList).toArray⟩, .bool (foldB s.data.toList)]) ∧ Below w.heap.size w w' := by
  have hz : s.data.toList.length = s.size := by simp
  by_cases h60 : (60 : Int) < (s.size : Int)
  · have HP : Hid (foldT s.data.toList = [] ∧ foldB s.data.toList = false) := by
      unfold foldT foldB; rw [hz, decide_eq_false (by omega)]; exact ⟨if_neg (by omega), rfl⟩
    clear hz
    go_enter Tryd.func22, Tryd.ntmps22
    go_wp2_with fail
    go_ret2
    exact ⟨ret_two (by rw [HP.out.1]; rfl) (val_bool HP.out.2.symm), Below.refl _ _⟩
  · obtain ⟨cap, W0, hrun, hrow, hcap, hmax, hb0⟩ := bytes_of s w (by unfold maxLen; omega)
    unfold maxLen at hmax
    obtain ⟨l, hl⟩ : ∃ l, l = s.data.toList := ⟨_, rfl⟩
    rw [← hl] at hrow hz
    have HL : Hid (l = s.data.toList) := hl
    have HZ : Hid (l.length = s.size) := hz
    have HROW : Hid (BRow W0 w.heap.size l) := hrow
    clear hl hz hrow
    go_enter Tryd.func22, Tryd.ntmps22
    go_wp2_with fail
    go_loopw [14] (fun i wr => ∃ k : Nat, k ≤ s.size ∧ i = .int .i64 k ∧ Hid (BRow wr w.heap.size (mix l k)) ∧ Below w.heap.size w wr) (fun i _ => s.size - (intOf i).toNat)
    case atStart => exact ⟨0, Nat.zero_le _, rfl, by rw [mix_zero]; exact HROW, hb0⟩
    case round =>
      obtain ⟨k, hk, rfl, HR, hb⟩ := hrel
      clear hrun hb0
      by_cases hlt : k < s.size
      · have hkl : k < l.length := by rw [HZ.out]; exact hlt
        have hcx := (HR.out.2 k (by rw [mix_length]; exact hkl)).1
        have hfx := (HR.out.2 k (by rw [mix_length]; exact hkl)).2
        rw [mix_at l k hkl] at hcx
        obtain ⟨c, hc⟩ : ∃ c, c = l[k] := ⟨_, rfl⟩
        rw [← hc] at hcx
        have hc255 : (c.toNat : Int) ≤ 255 := by have := c.toNat_lt; omega
        by_cases hg : 65 ≤ c.toNat ∧ c.toNat ≤ 90
        · have g1 : (65 : Int) ≤ (c.toNat : Int) := by omega
          have g2 : (c.toNat : Int) ≤ 90 := by omega
          have hset := HR.out.set k (by rw [mix_length]; exact hkl) (foldC c)
          rw [foldC_toNat hg.1 hg.2] at hset
          have hset2 : BRow (wr.setCell ⟨w.heap.size, k, none⟩ (.int .u8 ((c.toNat : Int) + 32))) w.heap.size (mix l (k + 1)) := by
            rw [mix_next l k hkl, ← hc]; simpa using hset
          have HS : Hid (BRow (wr.setCell ⟨w.heap.size, k, none⟩ (.int .u8 ((c.toNat : Int) + 32))) w.heap.size (mix l (k + 1))) := hset2
          clear hset hset2 hc hg
          go_wp2_with fail
          go_roundw
          case rel => exact ⟨k + 1, by omega, by go_num, HS, hb.setCell (p := ⟨w.heap.size, k, none⟩) (Nat.le_refl _) _⟩
          case measure => simp [intOf]; omega
        · have HS : Hid (BRow wr w.heap.size (mix l (k + 1))) := by rw [mix_same l k hkl (by rw [← hc]; exact foldC_same hg)]; exact HR
          rcases (show (c.toNat : Int) ≤ 64 ∨ (91 : Int) ≤ (c.toNat : Int) by omega) with g1 | g1
          all_goals
            clear hc hg
            go_wp2_with fail
            go_roundw
            case rel => exact ⟨k + 1, by omega, by go_num, HS, hb⟩
            case measure => simp [intOf]; omega
      · have hrow : BRow wr w.heap.size (l.map foldC) := by rw [← mix_end l k (by rw [HZ.out]; exact hlt)]; exact HR.out
        have hconv := string_of (cap := cap) hrow s.size (by rw [List.length_map, HZ.out])
        have HF : Hid (foldT s.data.toList = (if nameB (l.map foldC) = true then l.map foldC else []) ∧ foldB s.data.toList = nameB (l.map foldC)) := by
          unfold foldT foldB; rw [← HL.out, HZ.out, decide_eq_true (by omega), Bool.true_and]
          refine ⟨?_, rfl⟩
          by_cases hn : nameB (l.map foldC) = true
          · rw [if_pos ⟨by omega, hn⟩, if_pos hn]
          · rw [if_neg (fun h => hn h.2), if_neg hn]
        have hls : (⟨(l.map foldC).toArray⟩ : ByteArray).size ≤ 4294967280 := by rw [size_list, List.length_map, HZ.out]; omega
        obtain ⟨x, hx⟩ : ∃ x, x = l.map foldC := ⟨_, rfl⟩
        rw [← hx] at hrow hconv HF hls
        have HROW2 : Hid (BRow wr w.heap.size x) := hrow
        have HXL : Hid (s.size = x.length) := by rw [hx, List.length_map]; exact HZ.out.symm
        clear hrow hx
        cases hn : nameB x with
        | false =>
          have HN : Hid (nameB x = false) := hn
          clear hn
          go_wp2_with fail
          refine (sGoodName_any _ wr hls).mono ?_
          rintro e w2 ⟨rfl, hb2⟩
          rw [show (⟨x.toArray⟩ : ByteArray).data.toList = x from rfl, HN.out]
          go_wp2_with fail
          go_ret2
          exact ⟨ret_two (by rw [HF.out.1, HN.out]; rfl) (val_bool (by rw [HF.out.2, HN.out])), hb.trans (hb2.mono hb.size)⟩
        | true =>
          have HN : Hid (nameB x = true) := hn
          clear hn
          go_wp2_with fail
          refine (sGoodName_any _ wr hls).mono ?_
          rintro e w2 ⟨rfl, hb2⟩
          rw [show (⟨x.toArray⟩ : ByteArray).data.toList = x from rfl, HN.out]
          have hconv2 := string_of (cap := cap) (HROW2.out.kept hb2) s.size HXL.out
          clear hconv
          go_wp2_with fail
          go_ret2
          exact ⟨ret_two (by rw [HF.out.1, HN.out]; rfl) (val_bool (by rw [HF.out.2, HN.out])), hb.trans (hb2.mono hb.size)⟩

set_option maxRecDepth 20000 in
set_option maxHeartbeats 1000000 in
theorem foldBytes_any (s : ByteArray) (w : World) (hs : s.size ≤ maxLen) (hE : Env w) :
    Calls Tryd.prog 47 #[.string s] w fun e w' => e = .returned (.string ⟨(s.data.toList.map foldC).toArray⟩) ∧ Below w.heap.size w w' := by
  have hz : s.data.toList.length = s.size := by simp
  obtain ⟨cap, W0, hrun, hrow, hcap, hmax, hb0⟩ := bytes_of s w hs
  unfold maxLen at hmax hs
  obtain ⟨l, hl⟩ : ∃ l, l = s.data.toList := ⟨_, rfl⟩
  rw [← hl] at hrow hz ⊢
  have HZ : Hid (l.length = s.size) := hz
  have HROW : Hid (BRow W0 w.heap.size l) := hrow
  clear hl hz hrow
  go_enter Tryd.func47, Tryd.ntmps47
  go_wp2_with fail
  go_loopw [10] (fun i wr => ∃ k : Nat, k ≤ s.size ∧ i = .int .i64 k ∧ Hid (BRow wr w.heap.size (mix l k)) ∧ Below w.heap.size w wr) (fun i _ => s.size - (intOf i).toNat)
  case atStart => exact ⟨0, Nat.zero_le _, rfl, by rw [mix_zero]; exact HROW, hb0⟩
  case round =>
    obtain ⟨k, hk, rfl, HR, hb⟩ := hrel
    clear hrun hb0
    by_cases hlt : k < s.size
    · have hkl : k < l.length := by rw [HZ.out]; exact hlt
      have hcx := (HR.out.2 k (by rw [mix_length]; exact hkl)).1
      have hfx := (HR.out.2 k (by rw [mix_length]; exact hkl)).2
      rw [mix_at l k hkl] at hcx
      obtain ⟨c, hc⟩ : ∃ c, c = l[k] := ⟨_, rfl⟩
      rw [← hc] at hcx
      have HCC : Hid (c = l[k]) := hc
      have hTr := (hE.below hb).1
      have hc255 : (c.toNat : Int) ≤ 255 := by have := c.toNat_lt; omega
      by_cases hg : 65 ≤ c.toNat ∧ c.toNat ≤ 90
      · have g1 : (65 : Int) ≤ (c.toNat : Int) := by omega
        have g2 : (c.toNat : Int) ≤ 90 := by omega
        have hk2 : kindOf (c.toNat : Int) = 2 := by unfold kindOf; (repeat' split) <;> omega
        have HK2 : Hid (kindOf (c.toNat : Int) = 2) := hk2
        clear hc hk2
        go_wp2_with fail
        refine (kind_any _ _ (by omega) hc255 hTr).mono ?_
        rintro e w1 ⟨rfl, hb1⟩
        have hcx1 : w1.cell? ⟨w.heap.size, k, none⟩ = some (.int .u8 (c.toNat : Int)) := by rw [hb1.cell (p := ⟨w.heap.size, k, none⟩) HR.out.1]; exact hcx
        have hfx1 : w1.frozen? ⟨w.heap.size, k, none⟩ = false := by rw [hb1.frozen (p := ⟨w.heap.size, k, none⟩) HR.out.1]; exact hfx
        have hset := (HR.out.kept hb1).set k (by rw [mix_length]; exact hkl) (foldC c)
        rw [foldC_toNat hg.1 hg.2] at hset
        have hset2 : BRow (w1.setCell ⟨w.heap.size, k, none⟩ (.int .u8 ((c.toNat : Int) - 65 + 97))) w.heap.size (mix l (k + 1)) := by
          rw [mix_next l k hkl, ← HCC.out, show (c.toNat : Int) - 65 + 97 = ((c.toNat + 32 : Nat) : Int) by omega]; exact hset
        have HS : Hid (BRow (w1.setCell ⟨w.heap.size, k, none⟩ (.int .u8 ((c.toNat : Int) - 65 + 97))) w.heap.size (mix l (k + 1))) := hset2
        have hbw := hb.trans (hb1.mono hb.size)
        rw [HK2.out]
        clear hset hset2 hg hcx hfx hb1
        go_wp2_with fail
        go_roundw
        case rel => exact ⟨k + 1, by omega, by go_num, HS, hbw.setCell (p := ⟨w.heap.size, k, none⟩) (Nat.le_refl _) _⟩
        case measure => simp [intOf]; omega
      · have HS : Hid (BRow wr w.heap.size (mix l (k + 1))) := by rw [mix_same l k hkl (by rw [← hc]; exact foldC_same hg)]; exact HR
        rcases (show (c.toNat : Int) ≤ 64 ∨ (91 : Int) ≤ (c.toNat : Int) by omega) with g1 | g1
        all_goals
          have hk2 : (kindOf (c.toNat : Int) == 2) = false := by rw [beq_eq_false_iff_ne]; unfold kindOf; (repeat' split) <;> omega
          clear hc hg
          go_wp2_with fail
          refine (kind_any _ _ (by omega) hc255 hTr).mono ?_
          rintro e w1 ⟨rfl, hb1⟩
          go_wp2_with fail
          go_roundw
          case rel => exact ⟨k + 1, by omega, by go_num, HS.out.kept hb1, hb.trans (hb1.mono hb.size)⟩
          case measure => simp [intOf]; omega
    · have hrow : BRow wr w.heap.size (l.map foldC) := by rw [← mix_end l k (by rw [HZ.out]; exact hlt)]; exact HR.out
      have hconv := string_of (cap := cap) hrow s.size (by rw [List.length_map, HZ.out])
      obtain ⟨x, hx⟩ : ∃ x, x = l.map foldC := ⟨_, rfl⟩
      rw [← hx] at hconv
      have HX : Hid (x = l.map foldC) := hx
      clear hrow hx
      go_wp2_with fail
      go_ret
      exact ⟨congrArg (fun y : List UInt8 => Ending.returned (.string ⟨y.toArray⟩)) HX.out, hb⟩

set_option maxRecDepth 20000 in
set_option maxHeartbeats 1000000 in
theorem iFoldName_any (s : ByteArray) (w : World) (hE : Env w) :
    Calls Tryd.prog 21 #[.string s] w fun e w' => e = .returned (.tuple #[.string ⟨(foldT s.data.toList).toArray⟩, .bool (foldB s.data.toList)]) ∧ Below w.heap.size w w' := by
  have hz : s.data.toList.length = s.size := by simp
  by_cases h60 : (60 : Int) < (s.size : Int)
  · have HP : Hid (foldT s.data.toList = [] ∧ foldB s.data.toList = false) := by
      unfold foldT foldB; rw [hz, decide_eq_false (by omega)]; exact ⟨if_neg (by omega), rfl⟩
    clear hz
    go_enter Tryd.func21, Tryd.ntmps21
    go_wp2_with fail
    go_ret2
    exact ⟨ret_two (by rw [HP.out.1]; rfl) (val_bool HP.out.2.symm), Below.refl _ _⟩
  · have HF : Hid (foldT s.data.toList = (if nameB (s.data.toList.map foldC) = true then s.data.toList.map foldC else []) ∧ foldB s.data.toList = nameB (s.data.toList.map foldC)) := by
      unfold foldT foldB; rw [hz, decide_eq_true (by omega), Bool.true_and]
      refine ⟨?_, rfl⟩
      by_cases hn : nameB (s.data.toList.map foldC) = true
      · rw [if_pos ⟨by omega, hn⟩, if_pos hn]
      · rw [if_neg (fun h => hn h.2), if_neg hn]
    clear hz
    go_enter Tryd.func21, Tryd.ntmps21
    go_wp2_with fail
    refine (foldBytes_any s w (by unfold maxLen; omega) hE).mono ?_
    rintro e w1 ⟨rfl, hb⟩
    have hE1 := hE.below hb
    obtain ⟨x, hx⟩ : ∃ x, x = s.data.toList.map foldC := ⟨_, rfl⟩
    rw [← hx] at HF ⊢
    clear hx
    cases hn : nameB x with
    | false =>
      have HN : Hid (nameB x = false) := hn
      clear hn
      go_wp2_with fail
      refine (iGoodName_any _ w1 hE1).mono ?_
      rintro e w2 ⟨rfl, hb2⟩
      rw [show (⟨x.toArray⟩ : ByteArray).data.toList = x from rfl, HN.out]
      go_wp2_with fail
      go_ret2
      exact ⟨ret_two (by rw [HF.out.1, HN.out]; rfl) (val_bool (by rw [HF.out.2, HN.out])), hb.trans (hb2.mono hb.size)⟩
    | true =>
      have HN : Hid (nameB x = true) := hn
      clear hn
      go_wp2_with fail
      refine (iGoodName_any _ w1 hE1).mono ?_
      rintro e w2 ⟨rfl, hb2⟩
      rw [show (⟨x.toArray⟩ : ByteArray).data.toList = x from rfl, HN.out]
      go_wp2_with fail
      go_ret2
      exact ⟨ret_two (by rw [HF.out.1, HN.out]; rfl) (val_bool (by rw [HF.out.2, HN.out])), hb.trans (hb2.mono hb.size)⟩
end Go.Proofs.YtmhiopkpjdnddaaDoor
