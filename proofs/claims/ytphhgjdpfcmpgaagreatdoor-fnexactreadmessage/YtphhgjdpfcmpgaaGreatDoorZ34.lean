import Derived.Test.YtphhgjdpfcmpgaaGreatDoorZ32
import Derived.Test.YtphhgjdpfcmpgaaGreatDoorZ33
import Derived.Test.YtphhgjdpfcmpgaaGreatDoorZ25
namespace Go.Proofs.YtphhgjdpfcmpgaaGreatDoor
open Go.RowKit

theorem and128i {n : Nat} (h : n < 256) : (bits BinOp.and .i64 (n : Int) 128 != 0) = decide (128 ≤ n) := by
  have : ∀ n : Fin 256, (bits BinOp.and .i64 ((n.val : Nat) : Int) 128 != 0) = decide (128 ≤ n.val) := by decide +kernel
  exact this ⟨n, h⟩
theorem and1i {n : Nat} (h : n < 256) : (bits BinOp.and .i64 (n : Int) 1 != 0) = decide (n % 2 = 1) := by
  have : ∀ n : Fin 256, (bits BinOp.and .i64 ((n.val : Nat) : Int) 1 != 0) = decide (n.val % 2 = 1) := by decide +kernel
  exact this ⟨n, h⟩

set_option maxRecDepth 20000 in
set_option maxHeartbeats 2000000 in
theorem message_any (nm : ByteArray) (ty mi : Int) (mk : Nat) (code : Int) (a u : Nat) (aa au : Option Addr) (la ca lu cu : Nat) (w : World) (hm : mk < 256) :
    Calls Tryz.prog 64 #[HeadV nm ty mi (mk : Int) code a u, .slice aa la ca, .slice au lu cu] w fun e w' => e = .returned (MsgV mi (decide (128 ≤ mk)) (decide (mk % 2 = 1)) code nm ty (.slice aa la ca) (.slice au lu cu)) ∧ Below w.heap.size w w' := by
  have h1 := and128i hm
  have h2 := and1i hm
  unfold HeadV MsgV
  go_enter Tryz.func64, Tryz.ntmps64
  go_wp2_with fail
  (try simp only [Exit.inBlock, Exit.then])
  refine bodyPost_ret (results_cell_row rfl _ _ (w.heap.size + 1) 30 _ (0, 0) _ rfl ?_ Tryz.underlying30 rfl (by kernel_rfl)) rfl ⟨rfl, ((Below.refl w.heap.size w).alloc (Nat.le_refl _) _).alloc (by simp) _⟩
  rw [heap_alloc2_new]

/-- A message that is being unpacked, as it lies in memory. -/
structure Um (w W : World) (l : List UInt8) (hd : Nat) (cs : Array Value) : Prop where
  left : W.heap[w.heap.size + 1]? = some (.cells #[.string ⟨l.toArray⟩] 92)
  res : W.heap[w.heap.size]? = some (.cells #[.int .i64 0, .bool false, .bool false, .int .i64 0, .string ⟨#[]⟩, .int .i64 0, .slice none 0 0, .slice none 0 0] 30)
  head : W.heap[hd]? = some (.cells cs 45)
  below : Below w.heap.size w W
  far : w.heap.size + 2 ≤ hd
  lt : hd < W.heap.size
section
variable {w W W2 : World} {l l2 : List UInt8} {hd : Nat} {cs : Array Value}
theorem Um.call (h : Um w W l hd cs) (hk : Kpt W W2 (fun k => k = w.heap.size + 1)) (hl : W2.heap[w.heap.size + 1]? = some (.cells #[.string ⟨l2.toArray⟩] 92)) : Um w W2 l2 hd cs := by
  have h1 := h.far
  have h2 := h.lt
  exact ⟨hl, (hk.block _ (by omega) (by omega)).trans h.res, (hk.block _ h2 (by omega)).trans h.head, h.below.trans (hk.below h.below.size (fun k hk => by omega)), h1, Nat.lt_of_lt_of_le h2 hk.size⟩
theorem Um.kept (h : Um w W l hd cs) (hb : Below W.heap.size W W2) : Um w W2 l hd cs := by
  have h1 := h.far
  have h2 := h.lt
  exact ⟨(hb.block _ (by omega)).trans h.left, (hb.block _ (by omega)).trans h.res, (hb.block _ h2).trans h.head, h.below.trans (hb.mono h.below.size), h1, Nat.lt_of_lt_of_le h2 hb.size⟩
theorem Um.set (h : Um w W l hd cs) (i : Nat) (v : Value) : Um w (W.setCell ⟨hd, i, none⟩ v) l hd (cs.setIfInBounds i v) := by
  have h1 := h.far
  have h2 := h.lt
  have ks : Kpt W (W.setCell ⟨hd, i, none⟩ v) (fun k => k = hd) := kpt_set _ _ _ _ rfl
  exact ⟨(ks.block _ (by omega) (by omega)).trans h.left, (ks.block _ (by omega) (by omega)).trans h.res, heap_setCell_same W _ i _ _ v h.head, h.below.trans (ks.below h.below.size (fun k hk => by omega)), h1, Nat.lt_of_lt_of_le h2 ks.size⟩
end
theorem row_of_cells {W : World} {g o cap : Nat} {P : List (List UInt8)} (hb : P = [] ∨ g < W.heap.size) (hcap : P.length ≤ cap) (hm : cap ≤ 9223372036854775807) (hc : ∀ j, (hj : j < P.length) → W.cell? ⟨g, o + j, none⟩ = some (S P[j])) : Row W (.slice (some ⟨g, o, none⟩) P.length cap) P := by
  refine ⟨_, cap, rfl, hcap, by unfold maxLen; omega, ?_⟩
  rcases hb with h | h
  · exact .inl h
  · exact .inr ⟨g, o, rfl, h, hc⟩
theorem unp_cons {l : List UInt8} {m : Nat} {X : List (List UInt8)} (h : unp l (1 + m) 0 = some X) : ∃ nm r, X = nm :: r ∧ r.length = m := by
  have hl := unp_length l _ _ X h
  cases X with
  | nil => simp at hl; omega
  | cons nm r => exact ⟨nm, r, rfl, by simp at hl; omega⟩
theorem rdN_two (l : List UInt8) : rdN (tkb l 2) ≤ 65535 := by
  have h := tkb_len l 2
  have h1 := rdN_lt (tkb l 2) (tkb l 2).length (Nat.le_refl _)
  rw [List.take_length] at h1
  have h2 : (256 : Nat) ^ (tkb l 2).length ≤ 256 ^ 2 := Nat.pow_le_pow_right (by omega) (by omega)
  omega

/-- What unpackMessage tells. -/
def UmRes (w : World) (U : Option (List (List UInt8))) (n1 n2 n3 n4 n8 : Nat) (l8 : List UInt8) (e : Ending) (w' : World) : Prop :=
  (U = none → e = .returned (.tuple #[noMsg, .bool false])) ∧
  (∀ nm r, U = some (nm :: r) → MOwn w' w.heap.size true (n1 : Int) (decide (128 ≤ n2)) (decide (n2 % 2 = 1)) (n3 : Int) ⟨nm.toArray⟩ (n8 : Int) (rdRecs (r.take n4) l8) (rdRecs (r.drop n4) (rdLefts (r.take n4) l8)) e) ∧ Below w.heap.size w w'
theorem um_none {w : World} {U : Option (List (List UInt8))} {n1 n2 n3 n4 n8 : Nat} {l8 : List UInt8} {w' : World} (h : U = none) (hb : Below w.heap.size w w') : UmRes w U n1 n2 n3 n4 n8 l8 (.returned (.tuple #[noMsg, .bool false])) w' :=
  ⟨fun _ => rfl, fun nm r h2 => (by rw [h] at h2; cases h2), hb⟩
theorem um_some {w : World} {U : Option (List (List UInt8))} {n1 n2 n3 n4 n8 : Nat} {l8 : List UInt8} {e : Ending} {w' : World} {nm : List UInt8} {r : List (List UInt8)} (h : U = some (nm :: r)) (hm : MOwn w' w.heap.size true (n1 : Int) (decide (128 ≤ n2)) (decide (n2 % 2 = 1)) (n3 : Int) ⟨nm.toArray⟩ (n8 : Int) (rdRecs (r.take n4) l8) (rdRecs (r.drop n4) (rdLefts (r.take n4) l8)) e) (hb : Below w.heap.size w w') : UmRes w U n1 n2 n3 n4 n8 l8 e w' :=
  ⟨fun h2 => (by rw [h] at h2; cases h2), fun nm2 r2 h2 => (by rw [h] at h2; cases h2; exact hm), hb⟩

set_option maxRecDepth 20000 in
set_option maxHeartbeats 4000000 in
theorem unpackMessage_any (s : ByteArray) (l1 l2 l3 l4 l5 l6 l7 l8 pk : List UInt8) (n1 n2 n3 n4 n5 n6 n8 : Nat) (w : World) (hs : s.size ≤ 1048576) (hE : EnvR w)
    (e1 : Hid (l1 = tkr s.data.toList 2 ∧ n1 = rdN (tkb s.data.toList 2))) (e2 : Hid (l2 = tkr l1 1 ∧ n2 = rdN (tkb l1 1))) (e3 : Hid (l3 = tkr l2 1 ∧ n3 = rdN (tkb l2 1))) (e4 : Hid (l4 = tkr l3 1 ∧ n4 = rdN (tkb l3 1))) (e5 : Hid (l5 = tkr l4 1 ∧ n5 = rdN (tkb l4 1)))
    (e6 : Hid (l6 = tkr l5 2 ∧ n6 = rdN (tkb l5 2))) (e7 : Hid (l7 = tkr l6 n6 ∧ pk = tkb l6 n6)) (e8 : Hid (l8 = tkr l7 1 ∧ n8 = rdN (tkb l7 1))) :
    Calls Tryz.prog 33 #[.string s] w fun e w' => UmRes w (unp pk (1 + (n4 + n5)) 0) n1 n2 n3 n4 n8 l8 e w' := by
  have q0 : s.data.toList.length ≤ 1048576 := by rw [data_len]; exact hs
  have q1 : l1.length ≤ 1048576 := by rw [e1.out.1]; exact Nat.le_trans (tkr_len _ _) q0
  have q2 : l2.length ≤ 1048576 := by rw [e2.out.1]; exact Nat.le_trans (tkr_len _ _) q1
  have q3 : l3.length ≤ 1048576 := by rw [e3.out.1]; exact Nat.le_trans (tkr_len _ _) q2
  have q4 : l4.length ≤ 1048576 := by rw [e4.out.1]; exact Nat.le_trans (tkr_len _ _) q3
  have q5 : l5.length ≤ 1048576 := by rw [e5.out.1]; exact Nat.le_trans (tkr_len _ _) q4
  have q6 : l6.length ≤ 1048576 := by rw [e6.out.1]; exact Nat.le_trans (tkr_len _ _) q5
  have q7 : l7.length ≤ 1048576 := by rw [e7.out.1]; exact Nat.le_trans (tkr_len _ _) q6
  have q8 : l8.length ≤ 1048576 := by rw [e8.out.1]; exact Nat.le_trans (tkr_len _ _) q7
  have b2 : n2 ≤ 255 := by rw [e2.out.2]; exact rdN_255 _
  have b4 : n4 ≤ 255 := by rw [e4.out.2]; exact rdN_255 _
  have b5 : n5 ≤ 255 := by rw [e5.out.2]; exact rdN_255 _
  have b6 : n6 ≤ 65535 := by rw [e6.out.2]; exact rdN_two _
  have bp : pk.length ≤ 65535 := by rw [e7.out.2]; exact Nat.le_trans (tkb_len _ _) b6
  have HL0 : Hid (((w.alloc (.cells #[.int .i64 0, .bool false, .bool false, .int .i64 0, .string ⟨#[]⟩, .int .i64 0, .slice none 0 0, .slice none 0 0] 30)).alloc (.cells #[.string s] 92)).heap[w.heap.size + 1]? = some (.cells #[.string ⟨s.data.toList.toArray⟩] 92)) := by
    have hss : (⟨s.data.toList.toArray⟩ : ByteArray) = s := data_eq rfl
    have e := heap_alloc2_new w (.cells #[.int .i64 0, .bool false, .bool false, .int .i64 0, .string ⟨#[]⟩, .int .i64 0, .slice none 0 0, .slice none 0 0] 30) (.cells #[.string s] 92)
    rw [hss]; exact e
  have HR0 : Hid (((w.alloc (.cells #[.int .i64 0, .bool false, .bool false, .int .i64 0, .string ⟨#[]⟩, .int .i64 0, .slice none 0 0, .slice none 0 0] 30)).alloc (.cells #[.string s] 92)).heap[w.heap.size]? = some (.cells #[.int .i64 0, .bool false, .bool false, .int .i64 0, .string ⟨#[]⟩, .int .i64 0, .slice none 0 0, .slice none 0 0] 30)) := by
    have e := ((Below.refl (w.alloc (.cells #[.int .i64 0, .bool false, .bool false, .int .i64 0, .string ⟨#[]⟩, .int .i64 0, .slice none 0 0, .slice none 0 0] 30)).heap.size (w.alloc (.cells #[.int .i64 0, .bool false, .bool false, .int .i64 0, .string ⟨#[]⟩, .int .i64 0, .slice none 0 0, .slice none 0 0] 30))).alloc (Nat.le_refl _) (.cells #[.string s] 92)).block w.heap.size (by simp)
    exact e.trans (blk_fresh w _)
  obtain ⟨W0, hW0⟩ : ∃ W0, W0 = (w.alloc (.cells #[.int .i64 0, .bool false, .bool false, .int .i64 0, .string ⟨#[]⟩, .int .i64 0, .slice none 0 0, .slice none 0 0] 30)).alloc (.cells #[.string s] 92) := ⟨_, rfl⟩
  have hb0 : Below w.heap.size w W0 := by rw [hW0]; exact ((Below.refl w.heap.size w).alloc (Nat.le_refl _) _).alloc (by simp) _
  have hz0 : W0.heap.size = w.heap.size + 2 := by rw [hW0]; simp
  rw [← hW0] at HL0 HR0
  have HW0 : Hid ((w.alloc (.cells #[.int .i64 0, .bool false, .bool false, .int .i64 0, .string ⟨#[]⟩, .int .i64 0, .slice none 0 0, .slice none 0 0] 30)).alloc (.cells #[.string s] 92) = W0) := hW0.symm
  clear hW0
  obtain ⟨U, hU⟩ : ∃ U, U = unp pk (1 + (n4 + n5)) 0 := ⟨_, rfl⟩
  rw [← hU]
  have HUL : Hid (∀ X, U = some X → ∃ nm r, X = nm :: r ∧ r.length = n4 + n5) := fun X h => unp_cons (by rw [← hU]; exact h)
  have HUE : Hid (U = unp pk (1 + (n4 + n5)) 0) := hU
  clear hU
  go_enter Tryz.func33, Tryz.ntmps33
  go_wp2_with fail
  rw [HW0.out]
  refine (takeMessageHead_any (w.heap.size + 1) s.data.toList l1 l2 l3 l4 l5 n1 n2 n3 n4 n5 W0 HL0.out q0 e1 e2 e3 e4 e5).mono ?_
  rintro e w1 ⟨rfl, hl1, hk1⟩
  unfold HeadV
  have HU1 : Hid (Um w (w1.alloc (.cells #[.string ⟨#[]⟩, .int .i64 0, .int .i64 (n1 : Int), .int .i64 (n2 : Int), .int .i64 (n3 : Int), .int .i64 (n4 : Int), .int .i64 (n5 : Int)] 45)) l5 w1.heap.size #[.string ⟨#[]⟩, .int .i64 0, .int .i64 (n1 : Int), .int .i64 (n2 : Int), .int .i64 (n3 : Int), .int .i64 (n4 : Int), .int .i64 (n5 : Int)]) := by
    have hz1 := hk1.size
    have hbb : Below w1.heap.size w1 (w1.alloc (.cells #[.string ⟨#[]⟩, .int .i64 0, .int .i64 (n1 : Int), .int .i64 (n2 : Int), .int .i64 (n3 : Int), .int .i64 (n4 : Int), .int .i64 (n5 : Int)] 45)) := (Below.refl w1.heap.size w1).alloc (Nat.le_refl _) _
    exact ⟨(hbb.block _ (by omega)).trans hl1, (hbb.block _ (by omega)).trans ((hk1.block _ (by omega) (by omega)).trans HR0.out), blk_fresh w1 _, (hb0.trans (hk1.below hb0.size (fun k hk => by omega))).trans (hbb.mono (by omega)), by omega, by simp⟩
  clear hl1 hk1 HL0 HR0 HW0
  have HC : Hid (∀ (m m2 : List UInt8) (k n : Nat) (W : World), m2 = tkr m k ∧ n = rdN (tkb m k) → k ≤ 4 → m.length ≤ 1048576 → W.heap[w.heap.size + 1]? = some (.cells #[.string ⟨m.toArray⟩] 92) → Calls Tryz.prog 61 #[.pointer (some ⟨w.heap.size + 1, 0, none⟩), .int .i64 (k : Int)] W fun e w' => e = .returned (.int .i64 (n : Int)) ∧ w'.heap[w.heap.size + 1]? = some (.cells #[.string ⟨m2.toArray⟩] 92) ∧ Kpt W w' (fun k => k = w.heap.size + 1)) := fun m m2 k n W he hk hm hW => by
    rw [he.1, he.2]; exact takeNumber_any (w.heap.size + 1) m k W hW hm hk
  go_wp2_with fail
  refine (HC.out l5 l6 2 n6 _ e6.out (by omega) q5 HU1.out.left).mono ?_
  rintro e w2 ⟨rfl, hl2, hk2⟩
  have HU2 : Hid (Um w w2 l6 w1.heap.size #[.string ⟨#[]⟩, .int .i64 0, .int .i64 (n1 : Int), .int .i64 (n2 : Int), .int .i64 (n3 : Int), .int .i64 (n4 : Int), .int .i64 (n5 : Int)]) := HU1.out.call hk2 hl2
  clear hl2 hk2 HU1
  have HTK : Hid (Calls Tryz.prog 60 #[.pointer (some ⟨w.heap.size + 1, 0, none⟩), .int .i64 (n6 : Int)] w2 fun e w' => e = .returned (.string ⟨pk.toArray⟩) ∧ w'.heap[w.heap.size + 1]? = some (.cells #[.string ⟨l7.toArray⟩] 92) ∧ Kpt w2 w' (fun k => k = w.heap.size + 1)) := by
    have h := take_any (w.heap.size + 1) l6 n6 w2 HU2.out.left q6 b6
    rw [← e7.out.1, ← e7.out.2] at h; exact h
  go_wp2_with fail
  refine HTK.out.mono ?_
  rintro e w3 ⟨rfl, hl3, hk3⟩
  have HU3 : Hid (Um w w3 l7 w1.heap.size #[.string ⟨#[]⟩, .int .i64 0, .int .i64 (n1 : Int), .int .i64 (n2 : Int), .int .i64 (n3 : Int), .int .i64 (n4 : Int), .int .i64 (n5 : Int)]) := HU2.out.call hk3 hl3
  clear hl3 hk3 HU2 HTK
  obtain ⟨⟨c0, c1, c2, c3, c4, c5, c6⟩, _⟩ := box7_all HU3.out.head
  have HUN : Hid (Calls Tryz.prog 62 #[.string ⟨pk.toArray⟩, .int .i64 ((1 + (n4 + n5) : Nat) : Int)] w3 fun e w' => ∃ v, e = unpVal v (unp pk (1 + (n4 + n5)) 0) ∧ w'.ownsRow w3.heap.size 9 1 v ((unp pk (1 + (n4 + n5)) 0).getD []).length (((unp pk (1 + (n4 + n5)) 0).getD []).map S) ∧ Below w3.heap.size w3 w') := unpackAll_any ⟨pk.toArray⟩ (1 + (n4 + n5)) w3 (by rw [size_list]; exact bp) (by omega) (hE.below HU3.out.below).1
  rw [show ((1 + (n4 + n5) : Nat) : Int) = 1 + (n4 : Int) + (n5 : Int) by omega] at HUN
  rw [← HUE.out] at HUN
  go_wp2_with fail
  refine HUN.out.mono ?_
  rintro e w4 ⟨v, rfl, hown4, hb4⟩
  have HU4 : Hid (Um w w4 l7 w1.heap.size #[.string ⟨#[]⟩, .int .i64 0, .int .i64 (n1 : Int), .int .i64 (n2 : Int), .int .i64 (n3 : Int), .int .i64 (n4 : Int), .int .i64 (n5 : Int)]) := HU3.out.kept hb4
  have hz3 : w1.heap.size < w3.heap.size := HU3.out.lt
  have hf3 := HU3.out.far
  clear c0 c1 c2 c3 c4 c5 c6 HU3 HUN hb4
  unfold unpVal
  rcases (show U = none ∨ ∃ X, U = some X by cases U <;> simp) with hN | ⟨X, hX⟩
  · have HN : Hid (U = none) := hN
    rw [show U.isSome = false by rw [hN]; rfl]
    clear hN
    obtain ⟨a4, cap4, hv4, _, _⟩ := own_slice hown4
    subst hv4
    clear hown4
    obtain ⟨d0, d1, d2, d3, d4, d5, d6, d7⟩ := msg_cells HU4.out.res
    obtain ⟨f0, f1, f2, f3, f4, f5, f6, f7⟩ := msg_frozen HU4.out.res
    go_wp2_with fail
    (try simp only [Exit.inBlock, Exit.then])
    refine bodyPost_ret (results_row_tmp rfl _ _ w.heap.size 30 #[.int .i64 0, .bool false, .bool false, .int .i64 0, .string ⟨#[]⟩, .int .i64 0, .slice none 0 0, .slice none 0 0] (0, 0) _ (.bool false) rfl rfl ?_ Tryz.underlying30 rfl (by kernel_rfl)) rfl (um_none HN.out ?_)
    · exact put8_heap HU4.out.res
    · exact put8_below HU4.out.below (Nat.le_refl _) _ _ _ _ _ _ _ _
  · obtain ⟨nm, r, hXe, hrl⟩ := HUL.out X hX
    subst hXe
    rw [hX, show (some (nm :: r)).getD [] = nm :: r from rfl, show (nm :: r).length = n4 + n5 + 1 by rw [List.length_cons, hrl]] at hown4
    rw [show U.isSome = true by rw [hX]; rfl]
    have HX : Hid (U = some (nm :: r)) := hX
    have HRL : Hid (r.length = n4 + n5) := hrl
    clear hX
    obtain ⟨a4, cap4, hv4, hc4, hm4⟩ := own_slice hown4
    subst hv4
    obtain ⟨g4, ha4, hg4a, hg4b, hcells⟩ : ∃ g4, a4 = some ⟨g4, 0, none⟩ ∧ w3.heap.size ≤ g4 ∧ g4 < w4.heap.size ∧ ∀ j, (hj : j < (nm :: r).length) → w4.cell? ⟨g4, j, none⟩ = some (S ((nm :: r)[j]'hj)) := by
      obtain ⟨_, ⟨h1, h2⟩ | ⟨g, c, cur, h1, h2, _⟩⟩ := id hown4
      · omega
      · have ha : a4 = some ⟨g, 0, none⟩ := by cases h1; rfl
        refine ⟨g, ha, h2, (hown4.lt g (by rw [ha]; rfl)).2, fun j hj => ?_⟩
        have hc := World.ownsRow.cellAt (by rw [← ha]; exact hown4) j (by rw [List.length_cons, hrl] at hj; omega)
        rw [hc, List.getElem?_map, List.getElem?_eq_getElem hj]; rfl
    subst ha4
    have HCL : Hid (∀ j, (hj : j < (nm :: r).length) → w4.cell? ⟨g4, j, none⟩ = some (S ((nm :: r)[j]'hj))) := hcells
    have x0 : w4.cell? ⟨g4, 0, none⟩ = some (.string ⟨nm.toArray⟩) := hcells 0 (by simp)
    clear hown4 hcells hrl
    obtain ⟨⟨c0, c1, c2, c3, c4, c5, c6⟩, ⟨f0, f1, f2, f3, f4, f5, f6⟩⟩ := box7_all HU4.out.head
    have HU5 : Hid (Um w (w4.setCell ⟨w1.heap.size, 0, none⟩ (.string ⟨nm.toArray⟩)) l7 w1.heap.size #[.string ⟨nm.toArray⟩, .int .i64 0, .int .i64 (n1 : Int), .int .i64 (n2 : Int), .int .i64 (n3 : Int), .int .i64 (n4 : Int), .int .i64 (n5 : Int)]) := HU4.out.set 0 _
    have y1 : (1 : Int) ≤ ((n4 + n5 + 1 : Nat) : Int) := by omega
    have y0 : (0 : Int) < ((n4 + n5 + 1 : Nat) : Int) := by omega
    have hne : g4 ≠ w1.heap.size := by omega
    have hne2 : w1.heap.size ≠ g4 := by omega
    go_wp2_with fail
    obtain ⟨o1, ho1⟩ : ∃ o1 : Nat, o1 = if cap4 = 1 then 0 else 1 := ⟨_, rfl⟩
    have HO1 : Hid (o1 = if cap4 = 1 then 0 else 1) := ho1
    have HRC : Hid (∀ j, (hj : j < r.length) → w4.cell? ⟨g4, o1 + j, none⟩ = some (S (r[j]'hj))) := fun j hj => by
      have h := HRL.out
      have e : o1 = 1 := by rw [ho1, if_neg (by omega)]
      have h2 := HCL.out (j + 1) (by rw [List.length_cons]; omega)
      rw [e, Nat.add_comm 1 j]; exact h2
    have y2 : (1 : Int) ≤ (n4 : Int) + (n5 : Int) + 1 := by omega
    have HXF : Hid ((w4.setCell ⟨w1.heap.size, 0, none⟩ (.string ⟨nm.toArray⟩)).drew.cell? ⟨g4, 0, none⟩ = some (.string ⟨nm.toArray⟩)) := by
      have e : (w4.setCell ⟨w1.heap.size, 0, none⟩ (.string ⟨nm.toArray⟩)).cell? ⟨g4, 0, none⟩ = some (.string ⟨nm.toArray⟩) := by
        rw [World.cell?_setCell_far _ _ _ _ (show w1.heap.size ≠ g4 from hne2)]; exact x0
      exact e
    clear ho1
    refine wp_region_noPanic ?_
    refine wp_region_held_drew (S := fun W => W.cell? ⟨g4, 0, none⟩ = some (.string ⟨nm.toArray⟩)) (by kernel_rfl) (by simpa using x0) (fun hS0 => ?_)
    refine wpAnyH_take (i := 0) (v := .slice (some ⟨g4, 0, none⟩) (n4 + n5 + 1) cap4) rfl (by kernel_rfl) (by kernel_rfl) (by kernel_rfl) (fun _ _ _ h => h) (Or.inl ⟨by rfl, ?_⟩) (by assumption) ?_
    · intro W hSW
      go_simp
      all_goals (try omega)
    simp only [Act.put]
    refine wpAnyH_take (i := 1) (v := .pointer (some ⟨g4, 0, none⟩)) rfl (by kernel_rfl) (by kernel_rfl) (by kernel_rfl) (fun _ _ _ h => h) (Or.inl ⟨by rfl, ?_⟩) (by assumption) ?_
    · intro W hSW
      go_simp
      all_goals (try omega)
    simp only [Act.put]
    refine wpAnyH_take (i := 2) (v := .string ⟨nm.toArray⟩) rfl (by kernel_rfl) (by kernel_rfl) (by kernel_rfl) (fun _ _ _ h => h) (Or.inl ⟨by rfl, ?_⟩) (by assumption) ?_
    · intro W hSW
      go_simp
      all_goals (try omega)
    simp only [Act.put]
    refine wpAnyH_take (i := 3) (v := .slice (some ⟨g4, 0, none⟩) (n4 + n5 + 1) cap4) rfl (by kernel_rfl) (by kernel_rfl) (by kernel_rfl) (fun _ _ _ h => h) (Or.inl ⟨by rfl, ?_⟩) (by assumption) ?_
    · intro W hSW
      go_simp
      all_goals (try omega)
    simp only [Act.put]
    refine wpAnyH_take (i := 4) (v := .slice (some ⟨g4, o1, none⟩) (n4 + n5) (cap4 - 1)) rfl (by kernel_rfl) (by kernel_rfl) (by kernel_rfl) (fun _ _ _ h => h) (Or.inl ⟨by rfl, ?_⟩) (by assumption) ?_
    · intro W hSW
      go_simp
      rw [HO1.out]
      by_cases h : cap4 = 1
      · rw [if_pos h, if_pos h]
      · rw [if_neg h, if_neg h]
    simp only [Act.put]
    refine wpAnyH_take (i := 5) (v := .pointer (some ⟨w1.heap.size, 0, none⟩)) rfl (by kernel_rfl) (by kernel_rfl) (by kernel_rfl) (fun _ _ _ h => h) (Or.inl ⟨by rfl, ?_⟩) (by assumption) ?_
    · intro W hSW
      go_simp
      all_goals (try omega)
    simp only [Act.put]
    refine wpAnyH_take (i := 6) (v := .pointer (some ⟨w1.heap.size, 0, none⟩)) rfl (by kernel_rfl) (by kernel_rfl) (by kernel_rfl) (fun _ _ _ h => h) (Or.inl ⟨by rfl, ?_⟩) (by assumption) ?_
    · intro W hSW
      go_simp
      all_goals (try omega)
    simp only [Act.put]
    refine wpAnyH_ready (rs := [7]) (by kernel_rfl) (by simp) ?_
    refine AllReadyH.cons rfl (fun K hK => ?_) AllReadyH.nil
    rw [if_pos (by rfl)]
    go_simp
    refine hK.out _ _ HXF.out (fun _ => ?_)
    clear hK K
    refine wpAnyH_ready (rs := [8]) (by kernel_rfl) (by simp) ?_
    refine AllReadyH.cons rfl (fun K hK => ?_) AllReadyH.nil
    rw [if_pos (by rfl)]
    go_simp
    refine hK.out _ _ HXF.out (fun _ => ?_)
    clear hK K
    refine wpAnyH_done (by kernel_rfl) ?_ _
    refine NoPanic.normal ?_
    have HU5d : Um w (w4.setCell ⟨w1.heap.size, 0, none⟩ (.string ⟨nm.toArray⟩)).drew l7 w1.heap.size #[.string ⟨nm.toArray⟩, .int .i64 0, .int .i64 (n1 : Int), .int .i64 (n2 : Int), .int .i64 (n3 : Int), .int .i64 (n4 : Int), .int .i64 (n5 : Int)] := HU5.out.kept (Below.refl _ _).drew
    have HG5 : g4 < (w4.setCell ⟨w1.heap.size, 0, none⟩ (.string ⟨nm.toArray⟩)).drew.heap.size ∧ ∀ j, (hj : j < r.length) → (w4.setCell ⟨w1.heap.size, 0, none⟩ (.string ⟨nm.toArray⟩)).drew.cell? ⟨g4, o1 + j, none⟩ = some (S (r[j]'hj)) := by
      refine ⟨by show g4 < (w4.setCell _ _).heap.size; simpa using hg4b, fun j hj => ?_⟩
      have e : (w4.setCell ⟨w1.heap.size, 0, none⟩ (.string ⟨nm.toArray⟩)).cell? ⟨g4, o1 + j, none⟩ = some (S (r[j]'hj)) := by
        rw [World.cell?_setCell_far _ _ _ _ (show w1.heap.size ≠ g4 from hne2)]; exact HRC.out j hj
      exact e
    obtain ⟨w5, hw5⟩ : ∃ w5, w5 = (w4.setCell ⟨w1.heap.size, 0, none⟩ (.string ⟨nm.toArray⟩)).drew := ⟨_, rfl⟩
    rw [← hw5] at HU5d HG5 ⊢
    have HU5e : Hid (Um w w5 l7 w1.heap.size #[.string ⟨nm.toArray⟩, .int .i64 0, .int .i64 (n1 : Int), .int .i64 (n2 : Int), .int .i64 (n3 : Int), .int .i64 (n4 : Int), .int .i64 (n5 : Int)]) := HU5d
    have HG5e : Hid (g4 < w5.heap.size ∧ ∀ j, (hj : j < r.length) → w5.cell? ⟨g4, o1 + j, none⟩ = some (S (r[j]'hj))) := HG5
    clear hw5 HU5d HG5 HU5 HXF HRC HCL x0 hS0 c0 c1 c2 c3 c4 c5 c6 f0 f1 f2 f3 f4 f5 f6 HU4 hg4b y0 y1 y2
    go_wp2_with fail
    refine (HC.out l7 l8 1 n8 _ e8.out (by omega) q7 HU5e.out.left).mono ?_
    rintro e w6 ⟨rfl, hl6, hk6⟩
    have HU6 : Um w w6 l8 w1.heap.size #[.string ⟨nm.toArray⟩, .int .i64 0, .int .i64 (n1 : Int), .int .i64 (n2 : Int), .int .i64 (n3 : Int), .int .i64 (n4 : Int), .int .i64 (n5 : Int)] := HU5e.out.call hk6 hl6
    have HU7 : Hid (Um w (w6.setCell ⟨w1.heap.size, 1, none⟩ (.int .i64 (n8 : Int))) l8 w1.heap.size #[.string ⟨nm.toArray⟩, .int .i64 (n8 : Int), .int .i64 (n1 : Int), .int .i64 (n2 : Int), .int .i64 (n3 : Int), .int .i64 (n4 : Int), .int .i64 (n5 : Int)]) := HU6.set 1 _
    have hg4p : g4 ≠ w.heap.size + 1 := by omega
    have HG7 : Hid (g4 < (w6.setCell ⟨w1.heap.size, 1, none⟩ (.int .i64 (n8 : Int))).heap.size ∧ ∀ j, (hj : j < r.length) → (w6.setCell ⟨w1.heap.size, 1, none⟩ (.int .i64 (n8 : Int))).cell? ⟨g4, o1 + j, none⟩ = some (S (r[j]'hj))) := by
      refine ⟨by have h := HG5e.out.1; have h2 := hk6.size; simp; omega, fun j hj => ?_⟩
      rw [World.cell?_setCell_far _ _ _ _ (show w1.heap.size ≠ g4 from hne2)]
      exact hk6.cell (HG5e.out.2 j hj) hg4p
    obtain ⟨⟨c0, c1, c2, c3, c4, c5, c6⟩, ⟨f0, f1, f2, f3, f4, f5, f6⟩⟩ := box7_all HU6.head
    have y3 : (n4 : Int) ≤ ((cap4 - 1 : Nat) : Int) := by omega
    clear hl6 hk6 HU6 HG5e HU5e
    go_wp2_with fail
    obtain ⟨w7, hw7⟩ : ∃ w7, w7 = w6.setCell ⟨w1.heap.size, 1, none⟩ (.int .i64 (n8 : Int)) := ⟨_, rfl⟩
    rw [← hw7] at HU7 HG7 ⊢
    clear hw7 c0 c1 c2 c3 c4 c5 c6 f0 f1 f2 f3 f4 f5 f6
    have hrl := HRL.out
    have HRW : Hid (∀ W, Kpt w7 W (fun k => k = w.heap.size + 1) → Row W (.slice (some ⟨g4, o1, none⟩) n4 (cap4 - 1)) (r.take n4)) := fun W hW => by
      have hl : (r.take n4).length = n4 := by rw [List.length_take]; omega
      have h := row_of_cells (W := W) (g := g4) (o := o1) (cap := cap4 - 1) (P := r.take n4) (.inr (Nat.lt_of_lt_of_le HG7.out.1 hW.size)) (by rw [hl]; omega) (by omega) (fun j hj => by
        rw [List.getElem_take]
        exact hW.cell (HG7.out.2 j (by rw [hl] at hj; omega)) hg4p)
      rw [hl] at h; exact h
    have HT1 := takeRecords_any (w.heap.size + 1) (.slice (some ⟨g4, o1, none⟩) n4 (cap4 - 1)) (r.take n4) l8 w7 HU7.out.left q8 (by rw [List.length_take]; omega) HRW (fun W hW => hE.below (HU7.out.below.trans (hW.below HU7.out.below.size (fun k hk => by omega))))
    refine HT1.mono ?_
    rintro e w8 ⟨v8, rfl, hown8, hl8, hk8⟩
    obtain ⟨l9, hl9⟩ : ∃ l9, l9 = rdLefts (r.take n4) l8 := ⟨_, rfl⟩
    obtain ⟨A, hA⟩ : ∃ A, A = rdRecs (r.take n4) l8 := ⟨_, rfl⟩
    rw [← hl9] at hl8
    rw [← hA] at hown8
    have HL9 : Hid (l9 = rdLefts (r.take n4) l8) := hl9
    have HA : Hid (A = rdRecs (r.take n4) l8) := hA
    have q9 : l9.length ≤ 1048576 := by
      rw [hl9]
      have h : ∀ (N : List (List UInt8)) (m : List UInt8), (rdLefts N m).length ≤ m.length := by
        intro N
        induction N with
        | nil => intro m; exact Nat.le_refl _
        | cons s r ih => intro m; rw [rdLefts]; exact Nat.le_trans (ih _) (rdLeft_len m)
      exact Nat.le_trans (h _ _) q8
    have HU8 : Hid (Um w w8 l9 w1.heap.size #[.string ⟨nm.toArray⟩, .int .i64 (n8 : Int), .int .i64 (n1 : Int), .int .i64 (n2 : Int), .int .i64 (n3 : Int), .int .i64 (n4 : Int), .int .i64 (n5 : Int)]) := HU7.out.call hk8 hl8
    have HG8 : Hid (g4 < w8.heap.size ∧ ∀ j, (hj : j < r.length) → w8.cell? ⟨g4, o1 + j, none⟩ = some (S (r[j]'hj))) := ⟨Nat.lt_of_lt_of_le HG7.out.1 hk8.size, fun j hj => hk8.cell (HG7.out.2 j hj) hg4p⟩
    have hz78 := hk8.size
    have HO8 : Hid (w8.ownsRow w7.heap.size 51 4 v8 A.length (rcells A)) := hown8
    have hf7 := HU7.out.far
    have hlt7 := HU7.out.lt
    obtain ⟨a8, cap8, hv8, hm8, _⟩ := own4_shape hown8
    subst hv8
    clear hl9 hA hl8 hk8 hown8 HT1 HRW HU7 HG7
    obtain ⟨⟨c0, c1, c2, c3, c4, c5, c6⟩, ⟨f0, f1, f2, f3, f4, f5, f6⟩⟩ := box7_all HU8.out.head
    have y4 : (n4 : Int) ≤ ((n4 + n5 : Nat) : Int) := by omega
    have y5 : (n4 : Int) ≤ (n4 : Int) + (n5 : Int) := by omega
    have HT2 : Hid (∀ a' c', (a' = some ⟨g4, o1 + n4, none⟩ ∧ c' = cap4 - 1 - n4 ∨ a' = some ⟨g4, o1, none⟩ ∧ c' = 0 ∧ n5 = 0) → Calls Tryz.prog 63 #[.pointer (some ⟨w.heap.size + 1, 0, none⟩), .slice a' n5 c'] w8 fun e w' => ∃ v, e = .returned v ∧ w'.ownsRow w8.heap.size 51 4 v (rdRecs (r.drop n4) l9).length (rcells (rdRecs (r.drop n4) l9)) ∧ w'.heap[w.heap.size + 1]? = some (.cells #[.string ⟨(rdLefts (r.drop n4) l9).toArray⟩] 92) ∧ Kpt w8 w' (fun k => k = w.heap.size + 1)) := fun a' c' hac => by
      have hdl : (r.drop n4).length = n5 := by rw [List.length_drop]; omega
      refine takeRecords_any (w.heap.size + 1) (.slice a' n5 c') (r.drop n4) l9 w8 HU8.out.left q9 (by omega) (fun W hW => ?_) (fun W hW => hE.below (HU8.out.below.trans (hW.below HU8.out.below.size (fun k hk => by omega))))
      rcases hac with ⟨rfl, rfl⟩ | ⟨rfl, rfl, h0⟩
      · have h := row_of_cells (W := W) (g := g4) (o := o1 + n4) (cap := cap4 - 1 - n4) (P := r.drop n4) (.inr (Nat.lt_of_lt_of_le HG8.out.1 hW.size)) (by omega) (by omega) (fun j hj => by
          rw [List.getElem_drop, Nat.add_assoc]
          exact hW.cell (HG8.out.2 (n4 + j) (by omega)) hg4p)
        rw [hdl] at h; exact h
      · have hnil : r.drop n4 = [] := List.length_eq_zero_iff.1 (by omega)
        rw [hnil, h0]
        exact ⟨some ⟨g4, o1, none⟩, 0, rfl, Nat.le_refl _, by unfold maxLen; omega, .inl rfl⟩
    go_wp2_with fail
    all_goals
      refine (HT2.out _ _ (by first | exact .inl ⟨rfl, rfl⟩ | exact .inr ⟨rfl, rfl, by omega⟩)).mono ?_
      rintro e w9 ⟨v9, rfl, hown9, hl9, hk9⟩
      have HU9 : Hid (Um w w9 (rdLefts (r.drop n4) l9) w1.heap.size #[.string ⟨nm.toArray⟩, .int .i64 (n8 : Int), .int .i64 (n1 : Int), .int .i64 (n2 : Int), .int .i64 (n3 : Int), .int .i64 (n4 : Int), .int .i64 (n5 : Int)]) := HU8.out.call hk9 hl9
      have HO9 : Hid (w9.ownsRow w8.heap.size 51 4 v9 (rdRecs (r.drop n4) l9).length (rcells (rdRecs (r.drop n4) l9))) := hown9
      have HO89 : Hid (w9.ownsRow w7.heap.size 51 4 (.slice a8 A.length cap8) A.length (rcells A)) := own_kpt HO8.out hk9 (fun g hg h => by have h1 := (HO8.out.lt g hg).1; omega)
      obtain ⟨a9, cap9, hv9, hm9, _⟩ := own4_shape hown9
      obtain ⟨n9, hn9⟩ : ∃ n9, n9 = (rdRecs (r.drop n4) l9).length := ⟨_, rfl⟩
      rw [← hn9] at hv9
      have HN9 : Hid (n9 = (rdRecs (r.drop n4) l9).length) := hn9
      subst hv9
      have hz89 := hk9.size
      clear c0 c1 c2 c3 c4 c5 c6 f0 f1 f2 f3 f4 f5 f6 hown9 hl9 hk9 hn9
      obtain ⟨⟨c0, c1, c2, c3, c4, c5, c6⟩, _⟩ := box7_all HU9.out.head
      have HMS : Hid (∀ W, Calls Tryz.prog 64 #[.agg #[.string ⟨nm.toArray⟩, .int .i64 (n8 : Int), .int .i64 (n1 : Int), .int .i64 (n2 : Int), .int .i64 (n3 : Int), .int .i64 (n4 : Int), .int .i64 (n5 : Int)], .slice a8 A.length cap8, .slice a9 n9 cap9] W fun e w' => e = .returned (MsgV (n1 : Int) (decide (128 ≤ n2)) (decide (n2 % 2 = 1)) (n3 : Int) ⟨nm.toArray⟩ (n8 : Int) (.slice a8 A.length cap8) (.slice a9 n9 cap9)) ∧ Below W.heap.size W w') := fun W => message_any ⟨nm.toArray⟩ (n8 : Int) (n1 : Int) n2 (n3 : Int) n4 n5 a8 a9 A.length cap8 n9 cap9 W (by omega)
      go_wp2_with fail
      refine (HMS.out _).mono ?_
      rintro e w10 ⟨rfl, hb10⟩
      unfold MsgV
      have HU10 : Hid (Um w w10 (rdLefts (r.drop n4) l9) w1.heap.size #[.string ⟨nm.toArray⟩, .int .i64 (n8 : Int), .int .i64 (n1 : Int), .int .i64 (n2 : Int), .int .i64 (n3 : Int), .int .i64 (n4 : Int), .int .i64 (n5 : Int)]) := HU9.out.kept hb10
      have HO10 : Hid (w10.ownsRow w8.heap.size 51 4 (.slice a9 n9 cap9) (rdRecs (r.drop n4) l9).length (rcells (rdRecs (r.drop n4) l9))) := own_below HO9.out hb10
      have HO810 : Hid (w10.ownsRow w7.heap.size 51 4 (.slice a8 A.length cap8) A.length (rcells A)) := own_below HO89.out hb10
      clear c0 c1 c2 c3 c4 c5 c6 hb10
      obtain ⟨d0, d1, d2, d3, d4, d5, d6, d7⟩ := msg_cells HU10.out.res
      obtain ⟨f0, f1, f2, f3, f4, f5, f6, f7⟩ := msg_frozen HU10.out.res
      go_wp2_with fail
      (try simp only [Exit.inBlock, Exit.then])
      refine bodyPost_ret (results_row_tmp rfl _ _ w.heap.size 30 #[.int .i64 (n1 : Int), .bool (decide (128 ≤ n2)), .bool (decide (n2 % 2 = 1)), .int .i64 (n3 : Int), .string ⟨nm.toArray⟩, .int .i64 (n8 : Int), .slice a8 A.length cap8, .slice a9 n9 cap9] (0, 0) _ (.bool true) rfl rfl ?_ Tryz.underlying30 rfl (by kernel_rfl)) rfl (um_some HX.out ?_ ?_)
      · exact put8_heap HU10.out.res
      · rw [← HL9.out, ← HA.out]
        have hkp : ∀ (v0 v1 v2 v3 v4 v5 v6 v7 : Value), Kpt w10 (put8 w10 w.heap.size v0 v1 v2 v3 v4 v5 v6 v7) (fun k => k = w.heap.size) := fun _ _ _ _ _ _ _ _ => kpt_put8 _ _ _ _ _ _ _ _ _ _ rfl
        have o1' := own_kpt HO810.out (hkp (.int .i64 (n1 : Int)) (.bool (decide (128 ≤ n2))) (.bool (decide (n2 % 2 = 1))) (.int .i64 (n3 : Int)) (.string ⟨nm.toArray⟩) (.int .i64 (n8 : Int)) (.slice a8 A.length cap8) (.slice a9 n9 cap9)) (fun g hg h => by have h1 := (HO810.out.lt g hg).1; omega)
        have o2' := own_kpt HO10.out (hkp (.int .i64 (n1 : Int)) (.bool (decide (128 ≤ n2))) (.bool (decide (n2 % 2 = 1))) (.int .i64 (n3 : Int)) (.string ⟨nm.toArray⟩) (.int .i64 (n8 : Int)) (.slice a8 A.length cap8) (.slice a9 n9 cap9)) (fun g hg h => by have h1 := (HO10.out.lt g hg).1; omega)
        refine ⟨.slice a8 A.length cap8, .slice a9 n9 cap9, rfl, own_q (own_mono o1' (by omega)), own_q (own_mono o2' (by omega)), fun g h1 h2 => ?_⟩
        have h3 := (HO8.out.lt g h1).2
        have h4 := (HO10.out.lt g h2).1
        omega
      · exact put8_below HU10.out.below (Nat.le_refl _) _ _ _ _ _ _ _ _
end Go.Proofs.YtphhgjdpfcmpgaaGreatDoor
