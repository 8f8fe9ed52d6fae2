import Derived.Test.YtpghpeombednkaaGreatDoorIndex
import Derived.Test.YtpghpeombednkaaGreatDoorKp
namespace Go.Proofs.YtpghpeombednkaaGreatDoor
open Go.RowKit

theorem b8_ofNat {n : Nat} (h : n ≤ 255) : B8 (UInt8.ofNat n) = .int .u8 (n : Int) := by
  unfold B8; rw [UInt8.toNat_ofNat']; congr 1; omega
theorem one_byte (n : Int) : ∀ u ∈ [Value.int .u8 n], u.oneCell' = true := by
  intro u hu; simp at hu; subst hu; rfl
theorem two_bytes (n m : Int) : ∀ u ∈ [Value.int .u8 n, .int .u8 m], u.oneCell' = true := by
  intro u hu; simp at hu; rcases hu with rfl | rfl <;> rfl
theorem cell_new_two (w : World) (x y : Value) (t : TypeId) : ∀ j u, [x, y][j]? = some u → (w.alloc (.cells #[x, y] t)).cell? ((⟨w.heap.size, 0, none⟩ : Addr).add j) = some u := by
  intro j u hj
  match j, hj with
  | 0, hj => simp at hj; subst hj; simp [Addr.add]
  | 1, hj => simp at hj; subst hj; simp [Addr.add]

theorem below_grownB {w0 wr w1 : World} {e : TypeId} {v : Value} {n : Nat} {xs : List Value} (hb : Below w0.heap.size w0 wr) (hown : wr.ownsRow w0.heap.size e 1 v n xs) (hgrow : wr.grownBy w1 v.ownBlock) : Below w0.heap.size w0 w1 :=
  hb.grown hgrow hb.size (fun k hk => (hown.lt k hk).1)

set_option maxRecDepth 20000 in
set_option maxHeartbeats 1000000 in
theorem appendLabel_any (base : Nat) (v : Value) (l x : List UInt8) (w : World) (hown : w.ownsRow base 5 1 v l.length (l.map B8)) (hbs : base ≤ w.heap.size) (hl : l.length ≤ 1048576) (hx : x.length ≤ 255) :
    Calls Tryz.prog 119 #[v, .string ⟨x.toArray⟩] w fun e w' => ∃ v', e = .returned v' ∧ w'.ownsRow base 5 1 v' (l ++ UInt8.ofNat x.length :: x).length ((l ++ UInt8.ofNat x.length :: x).map B8) ∧ Kpt w w' (fun k => v.ownBlock = some k) := by
  obtain ⟨i0, hi, hz0, hz1, hz2⟩ := info_parts info_byte
  have HSZ : Hid ((⟨x.toArray⟩ : ByteArray).size = x.length) := size_list x
  have hown1 := hown.alloc (.cells #[.int .u8 (x.length : Int)] 5)
  go_enter Tryz.func119, Tryz.ntmps119
  go_wp2_with (first | (at_builtin; refine wpList_append_own_at _ rfl (.tmp 5) (.tmp 9) 22 rfl base 5 i0 (.int .u8 0) 1 1 Tryz.underlying22 hi hz0 hz1 hz2 rfl (by decide) _ _ _ rfl hown1 ⟨w.heap.size, 0, none⟩ 1 1 [.int .u8 (x.length : Int)] rfl rfl ?d1 ?d2 ?d3 ?d4 ?d5 ?_))
  case d1 => exact cell_new_one _ _ _
  case d2 => exact one_byte _
  case d3 => unfold maxLen; omega
  case d4 => omega
  case d5 => simp; omega
  intro v1 w1 hown' hgrow _ hat
  have HK1 : Hid (Kpt w w1 (fun k => v.ownBlock = some k)) := (kpt_alloc w _ _).trans (grown_kpt hgrow)
  have HAT : Hid (∀ k, v1.ownBlock = some k → v.ownBlock = some k ∨ w.heap.size ≤ k) := fun k hk => by
    rcases hat with h | h
    · exact .inl (h ▸ hk)
    · rw [h] at hk
      have e := Option.some.inj hk
      try simp at e
      exact .inr (by omega)
  have hb1z : base ≤ w1.heap.size := Nat.le_trans hbs HK1.out.size
  clear hgrow hown hown1 hat
  go_wp2_with (first | (at_builtin; refine Lib.wpList_append_own_string _ rfl (.tmp 10) (.tmp 11) 22 9 rfl base 5 i0 Tryz.underlying22 Tryz.underlying9 hi hz0 hz1 hz2 _ _ _ rfl hown' ⟨x.toArray⟩ rfl ?e1 ?e2 ?e3 ?_))
  case e1 => rw [HSZ.out]; unfold maxLen; omega
  case e2 => rw [HSZ.out]; omega
  case e3 => exact hb1z
  intro v2 w2 hown2 hgrow2 _
  have HK2 : Hid (Kpt w w2 (fun k => v.ownBlock = some k)) := by
    have h1 : Kpt w w2 (fun k => v.ownBlock = some k ∨ w.heap.size ≤ k) := (HK1.out.mono (fun k _ h => .inl h)).trans ((grown_kpt hgrow2).mono (fun k _ h => HAT.out k h))
    exact h1.mono (fun k hk h => by rcases h with h | h; exact h; omega)
  rw [strCells_B8] at hown2; try rw [HSZ.out] at hown2
  have HO : Hid (w2.ownsRow base 5 1 v2 (l ++ UInt8.ofNat x.length :: x).length ((l ++ UInt8.ofNat x.length :: x).map B8)) := by
    have h : w2.ownsRow base 5 1 v2 (l ++ UInt8.ofNat x.length :: x).length ((l ++ UInt8.ofNat x.length :: x).map B8) := by
      rw [List.map_append, List.map_cons, b8_ofNat hx]
      simpa [Nat.add_assoc, Nat.add_comm 1] using hown2
    exact h
  clear hown2 hgrow2 hown'
  go_wp2_with fail
  go_ret
  exact ⟨_, rfl, HO.out, HK2.out⟩

/-- The two bytes that point to a place. -/
def ptr (p : Nat) : List UInt8 := [UInt8.ofNat (192 + p / 256), UInt8.ofNat (p % 256)]

set_option maxRecDepth 20000 in
set_option maxHeartbeats 1000000 in
theorem appendPointer_any (base : Nat) (v : Value) (l : List UInt8) (p : Nat) (w : World) (hown : w.ownsRow base 5 1 v l.length (l.map B8)) (hbs : base ≤ w.heap.size) (hl : l.length ≤ 1048576) (hp : p ≤ 4000) :
    Calls Tryz.prog 118 #[v, .int .i64 (p : Int)] w fun e w' => ∃ v', e = .returned v' ∧ w'.ownsRow base 5 1 v' (l ++ ptr p).length ((l ++ ptr p).map B8) ∧ Kpt w w' (fun k => v.ownBlock = some k) := by
  obtain ⟨i0, hi, hz0, hz1, hz2⟩ := info_parts info_byte
  have hown1 := hown.alloc (.cells #[.int .u8 (192 + (p : Int) / 256), .int .u8 ((p : Int) % 256)] 5)
  go_enter Tryz.func118, Tryz.ntmps118
  go_wp2_with (first | (at_builtin; refine wpList_append_own _ rfl (.tmp 5) (.tmp 13) 22 rfl base 5 i0 (.int .u8 0) 1 1 Tryz.underlying22 hi hz0 hz1 hz2 rfl (by decide) _ _ _ rfl hown1 ⟨w.heap.size, 0, none⟩ 2 2 [.int .u8 (192 + (p : Int) / 256), .int .u8 ((p : Int) % 256)] rfl rfl ?d1 ?d2 ?d3 ?d4 ?d5 ?_))
  case d1 => exact cell_new_two _ _ _ _
  case d2 => exact two_bytes _ _
  case d3 => unfold maxLen; omega
  case d4 => omega
  case d5 => simp; omega
  intro v1 w1 hown' hgrow _
  have HK1 : Hid (Kpt w w1 (fun k => v.ownBlock = some k)) := (kpt_alloc w _ _).trans (grown_kpt hgrow)
  clear hgrow hown hown1
  have HO : Hid (w1.ownsRow base 5 1 v1 (l ++ ptr p).length ((l ++ ptr p).map B8)) := by
    have h : w1.ownsRow base 5 1 v1 (l ++ ptr p).length ((l ++ ptr p).map B8) := by
      unfold ptr
      rw [List.map_append, List.map_cons, List.map_cons, b8_ofNat (by omega), b8_ofNat (by omega)]
      simpa using hown'
    exact h
  clear hown'
  go_wp2_with fail
  go_ret
  exact ⟨_, rfl, HO.out, HK1.out⟩
end Go.Proofs.YtpghpeombednkaaGreatDoor
