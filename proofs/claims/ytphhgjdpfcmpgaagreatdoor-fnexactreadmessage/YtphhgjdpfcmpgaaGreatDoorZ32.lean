import Derived.Test.YtphhgjdpfcmpgaaGreatDoorZ31
import Derived.Test.YtphhgjdpfcmpgaaGreatDoorZ30
import Derived.Test.YtphhgjdpfcmpgaaGreatDoorZ24
namespace Go.Proofs.YtphhgjdpfcmpgaaGreatDoor
open Go.RowKit

/-- A record out of what is left, and what is left then. -/
def rdRec (nm l : List UInt8) : List UInt8 × Int × Int × List UInt8 := (nm, ((rdN (tkb l 1) : Nat) : Int), ((rdN (tkb (tkr l 1) 3) : Nat) : Int), (readR ((rdN (tkb l 1) : Nat) : Int) (tkb (tkr (tkr (tkr l 1) 3) 1) (rdN (tkb (tkr (tkr l 1) 3) 1)))).getD [])
def rdLeft (l : List UInt8) : List UInt8 := tkr (tkr (tkr (tkr l 1) 3) 1) (rdN (tkb (tkr (tkr l 1) 3) 1))
def rdRecs : List (List UInt8) → List UInt8 → List (List UInt8 × Int × Int × List UInt8)
  | [], _ => []
  | s :: r, l => rdRec s l :: rdRecs r (rdLeft l)
def rdLefts : List (List UInt8) → List UInt8 → List UInt8
  | [], l => l
  | _ :: r, l => rdLefts r (rdLeft l)
theorem rdLeft_len (l : List UInt8) : (rdLeft l).length ≤ l.length := by
  unfold rdLeft
  exact Nat.le_trans (tkr_len _ _) (Nat.le_trans (tkr_len _ _) (Nat.le_trans (tkr_len _ _) (tkr_len _ _)))
theorem rdN_255 (l : List UInt8) : rdN (tkb l 1) ≤ 255 := by
  have h := tkb_len l 1
  have h1 := rdN_lt (tkb l 1) (tkb l 1).length (Nat.le_refl _)
  rw [List.take_length] at h1
  have h2 : (256 : Nat) ^ (tkb l 1).length ≤ 256 ^ 1 := Nat.pow_le_pow_right (by omega) (by omega)
  omega

theorem news_oneR (w : World) (x : List UInt8 × Int × Int × List UInt8) (t : TypeId) (b : Nat) (e : b = w.heap.size) : ∀ j u, (rcs x)[j]? = some u → (w.alloc (.cells #[.string ⟨x.1.toArray⟩, .int .i64 x.2.1, .int .i64 x.2.2.1, .string ⟨x.2.2.2.toArray⟩] t)).cell? ((⟨b, 0, none⟩ : Addr).add j) = some u := by
  subst e
  have h := rows_news (w := w.alloc (.cells #[.string ⟨x.1.toArray⟩, .int .i64 x.2.1, .int .i64 x.2.2.1, .string ⟨x.2.2.2.toArray⟩] t)) (b := w.heap.size) (o := 0) (L := [x]) (fun j hj => by
    obtain rfl : j = 0 := by simpa using hj
    unfold RecAt
    simp)
  simpa [rcells] using h

set_option maxRecDepth 20000 in
set_option maxHeartbeats 4000000 in
theorem takeRecords_any (pb : Nat) (vn : Value) (N : List (List UInt8)) (l : List UInt8) (w : World) (hb : w.heap[pb]? = some (.cells #[.string ⟨l.toArray⟩] 92)) (hl : l.length ≤ 1048576) (hN : N.length ≤ 600)
    (hr : Hid (∀ W, Kpt w W (fun k => k = pb) → Row W vn N)) (hE : Hid (∀ W, Kpt w W (fun k => k = pb) → EnvR W)) :
    Calls Tryz.prog 63 #[.pointer (some ⟨pb, 0, none⟩), vn] w fun e w' => ∃ v, e = .returned v ∧ w'.ownsRow w.heap.size 51 4 v (rdRecs N l).length (rcells (rdRecs N l)) ∧ w'.heap[pb]? = some (.cells #[.string ⟨(rdLefts N l).toArray⟩] 92) ∧ Kpt w w' (fun k => k = pb) := by
  obtain ⟨a, cap, hvn, hcap, hmax, HROW⟩ := row_value (hr.out w (Kpt.refl _ _))
  subst hvn
  obtain ⟨i0, hi, hz0, hz1, hz2⟩ := info_parts info_rec
  have HB0 : Hid (w.heap[pb]? = some (.cells #[.string ⟨l.toArray⟩] 92)) := hb
  have hlow := lt_blk hb
  clear hb
  go_enter Tryz.func63, Tryz.ntmps63
  go_wp2_with fail
  go_loopw [5, 13] (fun v i wr => ∃ (k : Nat) (lk : List UInt8) (acc : List (List UInt8 × Int × Int × List UInt8)), k ≤ N.length ∧ i = .int .i64 (k : Int) ∧ Hid (rdRecs N l = acc ++ rdRecs (N.drop k) lk ∧ rdLefts N l = rdLefts (N.drop k) lk ∧ acc.length = k) ∧ lk.length ≤ 1048576 ∧ Hid (wr.heap[pb]? = some (.cells #[.string ⟨lk.toArray⟩] 92)) ∧ Hid (wr.ownsRow w.heap.size 51 4 v acc.length (rcells acc)) ∧ Hid (Kpt w wr (fun k => k = pb))) (fun _ i _ => N.length - (intOf i).toNat)
  case atStart => exact ⟨0, l, [], Nat.zero_le _, rfl, ⟨rfl, rfl, rfl⟩, hl, HB0, World.ownsRow_nil _ _ _ _, Kpt.refl _ _⟩
  case round =>
    obtain ⟨k, lk, acc, hk, rfl, HQ, hlk, HB, HO, HK⟩ := hrel
    have hsz := HK.out.size
    have hacc : acc.length ≤ 600 := by rw [HQ.out.2.2]; omega
    by_cases hlt : k < N.length
    · obtain ⟨_, _, _, hrow⟩ := row_cells (hr.out wr HK.out)
      obtain ⟨b, o, ha, hbl, hc⟩ := hrow (by omega)
      rw [ha]
      have hcx := hc k hlt
      have HNX : Hid (rdRecs N l = (acc ++ [rdRec (N[k]'hlt) lk]) ++ rdRecs (N.drop (k + 1)) (rdLeft lk) ∧ rdLefts N l = rdLefts (N.drop (k + 1)) (rdLeft lk) ∧ (acc ++ [rdRec (N[k]'hlt) lk]).length = k + 1) := by
        have h := HQ.out
        rw [List.drop_eq_getElem_cons hlt, rdRecs, rdLefts] at h
        exact ⟨by rw [h.1, List.append_assoc]; rfl, h.2.1, by rw [List.length_append, h.2.2]; rfl⟩
      obtain ⟨x, hx⟩ : ∃ x, x = N[k]'hlt := ⟨_, rfl⟩
      rw [← hx] at hcx HNX
      unfold S at hcx
      clear hc hx hrow
      have HCH : Hid (∀ W, W.heap[pb]? = some (.cells #[.string ⟨lk.toArray⟩] 92) → Calls Tryz.prog 89 #[.pointer (some ⟨pb, 0, none⟩), .string ⟨x.toArray⟩] W fun e w' => e = .returned (.agg #[.string ⟨x.toArray⟩, .int .i64 ((rdN (tkb lk 1) : Nat) : Int), .int .i64 ((rdN (tkb (tkr lk 1) 3) : Nat) : Int), .int .i64 ((rdN (tkb (tkr (tkr lk 1) 3) 1) : Nat) : Int)]) ∧ w'.heap[pb]? = some (.cells #[.string ⟨(tkr (tkr (tkr lk 1) 3) 1).toArray⟩] 92) ∧ Kpt W w' (fun k => k = pb)) := fun W hW => takeRecordHead_any pb ⟨x.toArray⟩ lk _ _ _ _ _ _ W hW hlk ⟨rfl, rfl⟩ ⟨rfl, rfl⟩ ⟨rfl, rfl⟩
      have hn3 := rdN_255 (tkr (tkr lk 1) 3)
      have hl3 : (tkr (tkr (tkr lk 1) 3) 1).length ≤ 1048576 := Nat.le_trans (tkr_len _ _) (Nat.le_trans (tkr_len _ _) (Nat.le_trans (tkr_len _ _) hlk))
      obtain ⟨n1, hn1e⟩ : ∃ n1, n1 = rdN (tkb lk 1) := ⟨_, rfl⟩
      obtain ⟨n2, hn2e⟩ : ∃ n2, n2 = rdN (tkb (tkr lk 1) 3) := ⟨_, rfl⟩
      obtain ⟨n3, hn3e⟩ : ∃ n3, n3 = rdN (tkb (tkr (tkr lk 1) 3) 1) := ⟨_, rfl⟩
      obtain ⟨l3, hl3e⟩ : ∃ l3, l3 = tkr (tkr (tkr lk 1) 3) 1 := ⟨_, rfl⟩
      rw [← hn1e, ← hn2e, ← hn3e, ← hl3e] at HCH
      rw [← hn3e] at hn3
      rw [← hl3e] at hl3
      have HRC : Hid (rdRec x lk = (x, (n1 : Int), (n2 : Int), (readR (n1 : Int) (tkb l3 n3)).getD []) ∧ rdLeft lk = tkr l3 n3) := by
        unfold rdRec rdLeft; rw [← hn1e, ← hn2e, ← hn3e, ← hl3e]; exact ⟨rfl, rfl⟩
      clear hn1e hn2e hn3e hl3e
      go_wp2_with fail
      refine (HCH.out wr HB.out).mono ?_
      rintro e w1 ⟨rfl, hb1, hk1⟩
      have HB1 : Hid (w1.heap[pb]? = some (.cells #[.string ⟨l3.toArray⟩] 92)) := hb1
      have HK1 : Hid (Kpt w w1 (fun k => k = pb)) := HK.out.trans hk1
      have hzw1 := hk1.size
      have HO1 : Hid (w1.ownsRow w.heap.size 51 4 _ acc.length (rcells acc)) := own_kpt HO.out hk1 (fun g hg e => by have h := (HO.out.lt g hg).1; omega)
      clear hb1 hk1 hcx
      go_wp2_with fail
      obtain ⟨W0, hW0⟩ : ∃ W0, W0 = w1.alloc (.cells #[.string ⟨x.toArray⟩, .int .i64 (n1 : Int), .int .i64 (n2 : Int), .int .i64 (n3 : Int)] 54) := ⟨_, rfl⟩
      have hS0 : (fun W : World => W.heap[w1.heap.size]? = some (.cells #[.string ⟨x.toArray⟩, .int .i64 (n1 : Int), .int .i64 (n2 : Int), .int .i64 (n3 : Int)] 54) ∧ w1.heap.size < W.heap.size) W0.drew := by
        rw [hW0]; exact ⟨blk_fresh w1 _, by show _ < (w1.alloc _).heap.size; simp⟩
      have hb01 : Below w1.heap.size w1 W0.drew := by rw [hW0]; exact ((Below.refl w1.heap.size w1).alloc (Nat.le_refl _) _).drew
      have HLW : Hid (W0.drew.heap[pb]? = some (.cells #[.string ⟨l3.toArray⟩] 92)) := (hb01.block pb (by omega)).trans HB1.out
      rw [← hW0]
      clear hW0
      refine wp_region_noPanic ?_
      refine wp_region_held_drew (S := fun W => W.heap[w1.heap.size]? = some (.cells #[.string ⟨x.toArray⟩, .int .i64 (n1 : Int), .int .i64 (n2 : Int), .int .i64 (n3 : Int)] 54) ∧ w1.heap.size < W.heap.size) (by kernel_rfl) hS0 (fun hHeld => ?_)
      refine wpAnyH_take (i := 0) (v := .pointer (some ⟨w1.heap.size, 0, none⟩)) rfl (by kernel_rfl) (by kernel_rfl) (by kernel_rfl) (fun _ _ _ h => h) (Or.inl ⟨by rfl, ?_⟩) (by assumption) ?_
      · intro W hSW
        go_simp
      simp only [Act.put]
      refine wpAnyH_take (i := 1) (v := .pointer (some ⟨w1.heap.size, 1, none⟩)) rfl (by kernel_rfl) (by kernel_rfl) (by kernel_rfl) (fun _ _ _ h => h) (Or.inl ⟨by rfl, ?_⟩) (by assumption) ?_
      · intro W hSW
        go_simp
      simp only [Act.put]
      refine wpAnyH_take (i := 2) (v := .int .i64 (n1 : Int)) rfl (by kernel_rfl) (by kernel_rfl) (by kernel_rfl) (fun _ _ _ h => h) (Or.inl ⟨by rfl, ?_⟩) (by assumption) ?_
      · intro W hSW
        obtain ⟨⟨q0, q1, q2, q3⟩, _⟩ := box4_all hSW.1
        go_simp
      simp only [Act.put]
      refine wpAnyH_take (i := 3) (v := .pointer (some ⟨pb, 0, none⟩)) rfl (by kernel_rfl) (by kernel_rfl) (by kernel_rfl) (fun _ _ _ h => h) (Or.inl ⟨by rfl, ?_⟩) (by assumption) ?_
      · intro W hSW
        go_simp
      simp only [Act.put]
      refine wpAnyH_take (i := 4) (v := .pointer (some ⟨w1.heap.size, 3, none⟩)) rfl (by kernel_rfl) (by kernel_rfl) (by kernel_rfl) (fun _ _ _ h => h) (Or.inl ⟨by rfl, ?_⟩) (by assumption) ?_
      · intro W hSW
        go_simp
      simp only [Act.put]
      refine wpAnyH_take (i := 5) (v := .int .i64 (n3 : Int)) rfl (by kernel_rfl) (by kernel_rfl) (by kernel_rfl) (fun _ _ _ h => h) (Or.inl ⟨by rfl, ?_⟩) (by assumption) ?_
      · intro W hSW
        obtain ⟨⟨q0, q1, q2, q3⟩, _⟩ := box4_all hSW.1
        go_simp
      simp only [Act.put]
      refine wpAnyH_ready (rs := [6]) (by kernel_rfl) (by simp) ?_
      refine AllReadyH.cons rfl (fun K hK => ?_) AllReadyH.nil
      rw [if_pos (by rfl)]
      go_simp
      refine (take_any pb l3 n3 _ HLW.out hl3 (by omega)).mono ?_
      rintro e w2 ⟨rfl, hb2, hk2⟩
      go_simp
      have hS2 : w2.heap[w1.heap.size]? = some (.cells #[.string ⟨x.toArray⟩, .int .i64 (n1 : Int), .int .i64 (n2 : Int), .int .i64 (n3 : Int)] 54) ∧ w1.heap.size < w2.heap.size := ⟨(hk2.block w1.heap.size hS0.2 (by omega)).trans hS0.1, Nat.lt_of_lt_of_le hS0.2 hk2.size⟩
      have HK2 : Hid (Kpt w w2 (fun k => k = pb)) := HK1.out.trans ((below_kpt0 hb01 _).trans hk2)
      have HB2 : Hid (w2.heap[pb]? = some (.cells #[.string ⟨(tkr l3 n3).toArray⟩] 92)) := hb2
      have HO2 : Hid (w2.ownsRow w.heap.size 51 4 _ acc.length (rcells acc)) := own_kpt (own_below HO1.out hb01) hk2 (fun g hg e => by have h := (HO1.out.lt g hg).1; omega)
      refine hK.out _ _ hS2 (fun hS3 => ?_)
      clear hK K
      refine wpAnyH_ready (rs := [7]) (by kernel_rfl) (by simp) ?_
      refine AllReadyH.cons rfl (fun K hK => ?_) AllReadyH.nil
      rw [if_pos (by rfl)]
      go_simp
      refine (iReadData_any (n1 : Int) ⟨(tkb l3 n3).toArray⟩ w2 (by rw [size_list]; have h := tkb_len l3 n3; omega) (hE.out w2 HK2.out)).mono ?_
      rw [show (⟨(tkb l3 n3).toArray⟩ : ByteArray).data.toList = tkb l3 n3 from rfl]
      rintro e w3 ⟨rfl, hb3⟩
      unfold readVal
      obtain ⟨D, hD⟩ : ∃ D, D = readR (n1 : Int) (tkb l3 n3) := ⟨_, rfl⟩
      rw [← hD] at HRC ⊢
      obtain ⟨dd, hdd⟩ : ∃ dd, dd = D.getD [] := ⟨_, rfl⟩
      rw [← hdd] at HRC ⊢
      obtain ⟨ok, hok⟩ : ∃ ok, ok = D.isSome := ⟨_, rfl⟩
      rw [← hok]
      clear hD hdd hok
      go_simp
      have hS4 : w3.heap[w1.heap.size]? = some (.cells #[.string ⟨x.toArray⟩, .int .i64 (n1 : Int), .int .i64 (n2 : Int), .int .i64 (n3 : Int)] 54) ∧ w1.heap.size < w3.heap.size := ⟨(hb3.block w1.heap.size hS2.2).trans hS2.1, Nat.lt_of_lt_of_le hS2.2 hb3.size⟩
      have hlow2 : pb < w2.heap.size := Nat.lt_of_lt_of_le hlow HK2.out.size
      have HK3 : Hid (Kpt w w3 (fun k => k = pb)) := HK2.out.trans (below_kpt0 hb3 _)
      have HB3 : Hid (w3.heap[pb]? = some (.cells #[.string ⟨(tkr l3 n3).toArray⟩] 92)) := (hb3.block pb hlow2).trans HB2.out
      have HO3 : Hid (w3.ownsRow w.heap.size 51 4 _ acc.length (rcells acc)) := own_below HO2.out hb3
      refine hK.out _ _ hS4 (fun hS5 => ?_)
      clear hK K
      refine wpAnyH_take (i := 8) (v := .tuple #[.string ⟨dd.toArray⟩, .bool ok]) rfl (by kernel_rfl) (by kernel_rfl) (by kernel_rfl) (fun _ _ _ h => h) (Or.inl ⟨by rfl, ?_⟩) (by assumption) ?_
      · intro W hSW
        go_simp
      simp only [Act.put]
      refine wpAnyH_take (i := 9) (v := .string ⟨dd.toArray⟩) rfl (by kernel_rfl) (by kernel_rfl) (by kernel_rfl) (fun _ _ _ h => h) (Or.inl ⟨by rfl, ?_⟩) (by assumption) ?_
      · intro W hSW
        go_simp
      simp only [Act.put]
      refine wpAnyH_take (i := 10) (v := .bool ok) rfl (by kernel_rfl) (by kernel_rfl) (by kernel_rfl) (fun _ _ _ h => h) (Or.inl ⟨by rfl, ?_⟩) (by assumption) ?_
      · intro W hSW
        go_simp
      simp only [Act.put]
      refine wpAnyH_ready (rs := [11]) (by kernel_rfl) (by simp) ?_
      refine AllReadyH.cons rfl (fun K hK => ?_) AllReadyH.nil
      rw [if_pos (by rfl)]
      go_simp
      refine hK.out _ _ hS4 (fun hS6 => ?_)
      clear hK K
      refine wpAnyH_ready (rs := [12]) (by kernel_rfl) (by simp) ?_
      refine AllReadyH.cons rfl (fun K hK => ?_) AllReadyH.nil
      rw [if_pos (by rfl)]
      go_simp
      refine hK.out _ _ hS4 (fun hS7 => ?_)
      clear hK K
      refine wpAnyH_done (by kernel_rfl) ?_ _
      refine NoPanic.normal ?_
      obtain ⟨⟨r0, r1, r2, r3⟩, _⟩ := box4_all hS4.1
      have hzw3 := HK3.out.size
      clear hS0 hS2 hS3 hS4 hS5 hS6 hS7 hHeld hb01 hb2 hk2 hb3 HLW HCH HB HB1 HB2 HO HO1 HO2 HK HK1 HK2
      obtain ⟨y, hy⟩ : ∃ y : List UInt8 × Int × Int × List UInt8, y = (x, (n1 : Int), (n2 : Int), dd) := ⟨_, rfl⟩
      have HY : Hid (rdRec x lk = y ∧ rdLeft lk = tkr l3 n3) := by rw [hy]; exact HRC.out
      have HYE : Hid (y = (x, (n1 : Int), (n2 : Int), dd)) := hy
      clear hy
      go_wp2_with (first | (at_builtin; refine wpList_append_own _ rfl (.tmp 31) (.tmp 42) 28 rfl w.heap.size 51 i0 _ 4 48 Tryz.underlying28 hi hz0 hz1 hz2 rfl (by decide) _ _ _ rfl (HO3.out.alloc _) ⟨w3.heap.size, 0, none⟩ 1 1 (rcs y) rfl rfl ?k1 ?k2 ?k3 ?k4 ?k5 ?_))
      case k1 => rw [HYE.out]; exact news_oneR w3 (x, (n1 : Int), (n2 : Int), dd) _ _ rfl
      case k2 => exact fun u hu => rcells_one [y] u (by simpa [rcells] using hu)
      case k3 => unfold maxLen; omega
      case k4 => omega
      case k5 => simp; omega
      intro v4 w4 hown4 hgrow4 _
      have hg4 : Kpt w3 w4 (fun k => (_ : Value).ownBlock = some k) := (kpt_alloc w3 _ _).trans (grown_kpt hgrow4)
      have HK4 : Hid (Kpt w w4 (fun k => k = pb)) := by
        have h : Kpt w w4 (fun k => k = pb ∨ w.heap.size ≤ k) := (HK3.out.mono (fun k _ e => .inl e)).trans (hg4.mono (fun k _ e => .inr (HO3.out.lt k e).1))
        exact h.mono (fun k hk e => by rcases e with e | e; exact e; omega)
      have HB4 : Hid (w4.heap[pb]? = some (.cells #[.string ⟨(tkr l3 n3).toArray⟩] 92)) := (hg4.block pb (by omega) (fun e => by have h := (HO3.out.lt pb e).1; omega)).trans HB3.out
      have HO4 : Hid (w4.ownsRow w.heap.size 51 4 v4 (acc ++ [y]).length (rcells (acc ++ [y]))) := by
        have e1 : (acc ++ [y]).length = acc.length + 1 := List.length_append
        have e2 : rcells (acc ++ [y]) = rcells acc ++ rcs y := by rw [rcells_app]; simp [rcells]
        rw [e1, e2]; exact hown4
      have HNX2 : Hid (rdRecs N l = (acc ++ [y]) ++ rdRecs (N.drop (k + 1)) (tkr l3 n3) ∧ rdLefts N l = rdLefts (N.drop (k + 1)) (tkr l3 n3) ∧ (acc ++ [y]).length = k + 1) := by
        have h := HNX.out
        rw [HY.out.1, HY.out.2] at h; exact h
      have hl4 : (tkr l3 n3).length ≤ 1048576 := Nat.le_trans (tkr_len _ _) hl3
      clear hown4 hgrow4 hg4
      go_wp2_with fail
      go_roundw
      case rel => exact ⟨k + 1, tkr l3 n3, acc ++ [y], by omega, by go_num, HNX2, hl4, HB4, HO4, HK4⟩
      case measure => simp [intOf]; omega
    · have HE : Hid (rdRecs N l = acc ∧ rdLefts N l = lk) := by
        have h := HQ.out
        rw [List.drop_of_length_le (by omega)] at h
        exact ⟨by rw [h.1]; exact List.append_nil _, h.2.1⟩
      go_wp2_with fail
      go_ret
      exact ⟨_, rfl, by rw [HE.out.1]; exact HO.out, by rw [HE.out.2]; exact HB.out, HK.out⟩
end Go.Proofs.YtphhgjdpfcmpgaaGreatDoor
