import Derived.Test.YtoobaaklklommaaGreatDoorZ07
import Derived.Test.YtoobaaklklommaaGreatDoorZ08
import Derived.Laws.Rows
import Derived.Maps.AppendAt
import Derived.Deep.RegionWith
import Derived.Deep.RegionHeld3
import Derived.Test.YtoobaaklklommaaGreatDoorZ04
import Derived.Test.YtoobaaklklommaaGreatDoorZ02
namespace Go.Proofs.YtoobaaklklommaaGreatDoor
open Go.RowKit

section
variable {w : World} {ops : Array Oper} {o : Oper} {a : Act} {Q : Exit → Act → World → Prop} {K : Act → World → Prop} {E : Prop}
/-- An append to a row of the call's own, as a step of a region that draws its order. -/
theorem wp_append_at (s x : Operand) (t : TypeId)
    (ho : o.op = .call { callee := .builtin .append, args := #[s, x], argTypes := #[t, t] })
    (base : Nat) (e : TypeId) (i : TypeInfo) (z : Value) (size bytes : Nat) (ht : Tryz.prog.underlying t = some (.slice e)) (hi : Tryz.prog.info? e = some i) (hz : i.zero = some z)
    (hsize : i.size = size) (hby : i.bytes = bytes) (hzs : z.cells.size = size) (hsz : 0 < size)
    (v : Value) (n : Nat) (xs : List Value) (hs : a.eval s = v) (hown : w.ownsRow base e size v n xs)
    (ad : Addr) (m c : Nat) (news : List Value) (hx : a.eval x = .slice (some ad) m c) (hl : news.length = m * size) (hnews : ∀ j u, news[j]? = some u → w.cell? (ad.add j) = some u) (h1 : ∀ u ∈ news, u.oneCell' = true)
    (h63 : n + m ≤ maxLen) (hbytes : (n + m) * bytes ≤ 140737488355328) (hbase : base ≤ w.heap.size)
    (h : ∀ v' w', w'.ownsRow base e size v' (n + m) (xs ++ news) → w.grownBy w' v.ownBlock → (v'.ownBlock = v.ownBlock ∨ v'.ownBlock = some w.heap.size) → K (a.put o.dst v') w') :
    Oper.wp Tryz.prog o a w K Q := by
  obtain ⟨v', w', hr, h2, h3, _, h5⟩ := run_append_own_at (P := Tryz.prog) w base t o.type e i z size bytes ht hi hz hsize hby hzs hsz v n xs hown ad m c news hl hnews h1 h63 hbytes hbase
  unfold Oper.wp execOp
  simp only [ho, resolve, invoke, builtin, Sem.run_bind, Sem.run_pure, Result.andThen_ok, List.map_toArray, List.map_cons, List.map_nil, hs, hx, hr]
  exact h v' w' h2 h3 h5
theorem step_append_at (hgd : o.guard = none) (s x : Operand) (t : TypeId)
    (ho : o.op = .call { callee := .builtin .append, args := #[s, x], argTypes := #[t, t] })
    (base : Nat) (e : TypeId) (i : TypeInfo) (z : Value) (size bytes : Nat) (ht : Tryz.prog.underlying t = some (.slice e)) (hi : Tryz.prog.info? e = some i) (hz : i.zero = some z)
    (hsize : i.size = size) (hby : i.bytes = bytes) (hzs : z.cells.size = size) (hsz : 0 < size)
    (v : Value) (n : Nat) (xs : List Value) (hs : a.eval s = v) (hown : w.ownsRow base e size v n xs)
    (ad : Addr) (m c : Nat) (news : List Value) (hx : a.eval x = .slice (some ad) m c) (hl : news.length = m * size) (hnews : ∀ j u, news[j]? = some u → w.cell? (ad.add j) = some u) (h1 : ∀ u ∈ news, u.oneCell' = true)
    (h63 : n + m ≤ maxLen) (hbytes : (n + m) * bytes ≤ 140737488355328) (hbase : base ≤ w.heap.size)
    (h : ∀ v' w', w'.ownsRow base e size v' (n + m) (xs ++ news) → w.grownBy w' v.ownBlock → (v'.ownBlock = v.ownBlock ∨ v'.ownBlock = some w.heap.size) → K (a.put o.dst v') w') :
    if Region.wanted o (yielded ops a.tmps) = true then Oper.wp Tryz.prog o a w K Q else E := by
  have hw : Region.wanted o (yielded ops a.tmps) = true := by simp [Region.wanted, hgd]
  rw [if_pos hw]
  exact wp_append_at s x t ho base e i z size bytes ht hi hz hsize hby hzs hsz v n xs hs hown ad m c news hx hl hnews h1 h63 hbytes hbase h
end
end Go.Proofs.YtoobaaklklommaaGreatDoor

namespace Go.Proofs.YtoobaaklklommaaGreatDoor
open Go.RowKit

theorem b8_ofNat {n : Nat} (h : n ≤ 255) : B8 (UInt8.ofNat n) = .int .u8 (n : Int) := by
  unfold B8; rw [UInt8.toNat_ofNat']; congr 1; omega
theorem one_byte (n : Int) : ∀ u ∈ [Value.int .u8 n], u.oneCell' = true := by
  intro u hu; simp at hu; subst hu; rfl
theorem two_bytes (n m : Int) : ∀ u ∈ [Value.int .u8 n, .int .u8 m], u.oneCell' = true := by
  intro u hu; simp at hu; rcases hu with rfl | rfl <;> rfl
theorem cell_new_two (w : World) (x y : Value) (t : TypeId) : ∀ j u, [x, y][j]? = some u → (w.alloc (.cells #[x, y] t)).cell? ((⟨w.heap.size, 0, none⟩ : Addr).add j) = some u := by
  intro j u hj
  match j, hj with
  | 0, hj => simp at hj; subst hj; simp [Addr.add]
  | 1, hj => simp at hj; subst hj; simp [Addr.add]

theorem below_grownB {w0 wr w1 : World} {e : TypeId} {v : Value} {n : Nat} {xs : List Value} (hb : Below w0.heap.size w0 wr) (hown : wr.ownsRow w0.heap.size e 1 v n xs) (hgrow : wr.grownBy w1 v.ownBlock) : Below w0.heap.size w0 w1 :=
  hb.grown hgrow hb.size (fun k hk => (hown.lt k hk).1)

set_option maxRecDepth 20000 in
set_option maxHeartbeats 1000000 in
theorem appendLabel_any (base : Nat) (v : Value) (l x : List UInt8) (w : World) (hown : w.ownsRow base 5 1 v l.length (l.map B8)) (hbs : base ≤ w.heap.size) (hl : l.length ≤ 1048576) (hx : x.length ≤ 255) :
    Calls Tryz.prog 308 #[v, .string ⟨x.toArray⟩] w fun e w' => ∃ v', e = .returned v' ∧ w'.ownsRow base 5 1 v' (l ++ UInt8.ofNat x.length :: x).length ((l ++ UInt8.ofNat x.length :: x).map B8) ∧ Kpt w w' (fun k => v.ownBlock = some k) := by
  obtain ⟨i0, hi, hz0, hz1, hz2⟩ := info_parts info_byte
  have HSZ : Hid ((⟨x.toArray⟩ : ByteArray).size = x.length) := size_list x
  have hown1 := hown.alloc (.cells #[.int .u8 (x.length : Int)] 5)
  go_enter Tryz.func308, Tryz.ntmps308
  go_wp2_with (first | (at_builtin; refine wpList_append_own_at _ rfl (.tmp 5) (.tmp 9) 165 rfl base 5 i0 (.int .u8 0) 1 1 Tryz.underlying165 hi hz0 hz1 hz2 rfl (by decide) _ _ _ rfl hown1 ⟨w.heap.size, 0, none⟩ 1 1 [.int .u8 (x.length : Int)] rfl rfl ?d1 ?d2 ?d3 ?d4 ?d5 ?_))
  case d1 => exact cell_new_one _ _ _
  case d2 => exact one_byte _
  case d3 => unfold maxLen; omega
  case d4 => omega
  case d5 => simp; omega
  intro v1 w1 hown' hgrow _ hat
  have HK1 : Hid (Kpt w w1 (fun k => v.ownBlock = some k)) := (kpt_alloc w _ _).trans (grown_kpt hgrow)
  have HAT : Hid (∀ k, v1.ownBlock = some k → v.ownBlock = some k ∨ w.heap.size ≤ k) := fun k hk => by
    rcases hat with h | h
    · exact .inl (h ▸ hk)
    · rw [h] at hk
      have e := Option.some.inj hk
      try simp at e
      exact .inr (by omega)
  have hb1z : base ≤ w1.heap.size := Nat.le_trans hbs HK1.out.size
  clear hgrow hown hown1 hat
  go_wp2_with (first | (at_builtin; refine Lib.wpList_append_own_string _ rfl (.tmp 10) (.tmp 11) 165 9 rfl base 5 i0 Tryz.underlying165 Tryz.underlying9 hi hz0 hz1 hz2 _ _ _ rfl hown' ⟨x.toArray⟩ rfl ?e1 ?e2 ?e3 ?_))
  case e1 => rw [HSZ.out]; unfold maxLen; omega
  case e2 => rw [HSZ.out]; omega
  case e3 => exact hb1z
  intro v2 w2 hown2 hgrow2 _
  have HK2 : Hid (Kpt w w2 (fun k => v.ownBlock = some k)) := by
    have h1 : Kpt w w2 (fun k => v.ownBlock = some k ∨ w.heap.size ≤ k) := (HK1.out.mono (fun k _ h => .inl h)).trans ((grown_kpt hgrow2).mono (fun k _ h => HAT.out k h))
    exact h1.mono (fun k hk h => by rcases h with h | h; exact h; omega)
  rw [strCells_B8] at hown2; try rw [HSZ.out] at hown2
  have HO : Hid (w2.ownsRow base 5 1 v2 (l ++ UInt8.ofNat x.length :: x).length ((l ++ UInt8.ofNat x.length :: x).map B8)) := by
    have h : w2.ownsRow base 5 1 v2 (l ++ UInt8.ofNat x.length :: x).length ((l ++ UInt8.ofNat x.length :: x).map B8) := by
      rw [List.map_append, List.map_cons, b8_ofNat hx]
      simpa [Nat.add_assoc, Nat.add_comm 1] using hown2
    exact h
  clear hown2 hgrow2 hown'
  go_wp2_with fail
  go_ret
  exact ⟨_, rfl, HO.out, HK2.out⟩

/-- The two bytes that point to a place. -/
def ptr (p : Nat) : List UInt8 := [UInt8.ofNat (192 + p / 256), UInt8.ofNat (p % 256)]

set_option maxRecDepth 20000 in
set_option maxHeartbeats 1000000 in
theorem appendPointer_any (base : Nat) (v : Value) (l : List UInt8) (p : Nat) (w : World) (hown : w.ownsRow base 5 1 v l.length (l.map B8)) (hbs : base ≤ w.heap.size) (hl : l.length ≤ 1048576) (hp : p ≤ 4000) :
    Calls Tryz.prog 307 #[v, .int .i64 (p : Int)] w fun e w' => ∃ v', e = .returned v' ∧ w'.ownsRow base 5 1 v' (l ++ ptr p).length ((l ++ ptr p).map B8) ∧ Kpt w w' (fun k => v.ownBlock = some k) := by
  obtain ⟨i0, hi, hz0, hz1, hz2⟩ := info_parts info_byte
  have hown1 := hown.alloc (.cells #[.int .u8 (192 + (p : Int) / 256), .int .u8 ((p : Int) % 256)] 5)
  go_enter Tryz.func307, Tryz.ntmps307
  go_wp2_with (first | (at_builtin; refine wpList_append_own _ rfl (.tmp 5) (.tmp 13) 165 rfl base 5 i0 (.int .u8 0) 1 1 Tryz.underlying165 hi hz0 hz1 hz2 rfl (by decide) _ _ _ rfl hown1 ⟨w.heap.size, 0, none⟩ 2 2 [.int .u8 (192 + (p : Int) / 256), .int .u8 ((p : Int) % 256)] rfl rfl ?d1 ?d2 ?d3 ?d4 ?d5 ?_))
  case d1 => exact cell_new_two _ _ _ _
  case d2 => exact two_bytes _ _
  case d3 => unfold maxLen; omega
  case d4 => omega
  case d5 => simp; omega
  intro v1 w1 hown' hgrow _
  have HK1 : Hid (Kpt w w1 (fun k => v.ownBlock = some k)) := (kpt_alloc w _ _).trans (grown_kpt hgrow)
  clear hgrow hown hown1
  have HO : Hid (w1.ownsRow base 5 1 v1 (l ++ ptr p).length ((l ++ ptr p).map B8)) := by
    have h : w1.ownsRow base 5 1 v1 (l ++ ptr p).length ((l ++ ptr p).map B8) := by
      unfold ptr
      rw [List.map_append, List.map_cons, List.map_cons, b8_ofNat (by omega), b8_ofNat (by omega)]
      simpa using hown'
    exact h
  clear hown'
  go_wp2_with fail
  go_ret
  exact ⟨_, rfl, HO.out, HK1.out⟩
end Go.Proofs.YtoobaaklklommaaGreatDoor

namespace Go.Proofs.YtoobaaklklommaaGreatDoor
open Go.RowKit

/-- A digit; a text of digits read as a number. -/
def digB (c : UInt8) : Bool := decide (48 ≤ c.toNat) && decide (c.toNat ≤ 57)
def decV (l : List UInt8) : Nat := l.foldl (fun n c => 10 * n + (c.toNat - 48)) 0
/-- What l1Int tells. -/
def intV (l : List UInt8) : Int := if 1 ≤ l.length ∧ l.length ≤ 10 ∧ ¬ (l.head? = some 48 ∧ 1 < l.length) ∧ l.all digB = true then (decV l : Int) else -1
theorem decV_snoc (l : List UInt8) (k : Nat) (h : k < l.length) : decV (l.take (k + 1)) = 10 * decV (l.take k) + (l[k].toNat - 48) := by
  unfold decV; rw [List.take_succ_eq_append_getElem h, List.foldl_append]; rfl
theorem decV_lt (l : List UInt8) : ∀ k, (l.take k).all digB = true → decV (l.take k) < 10 ^ k
  | 0, _ => by simp [decV]
  | k + 1, h => by
    by_cases hk : k < l.length
    · have hs := decV_snoc l k hk
      have ht := List.take_succ_eq_append_getElem hk
      rw [ht] at h
      simp only [List.all_append, Bool.and_eq_true] at h
      have ih := decV_lt l k h.1
      have hd : digB l[k] = true := by simpa using h.2
      unfold digB at hd
      simp only [Bool.and_eq_true, decide_eq_true_eq] at hd
      rw [hs, Nat.pow_succ]; omega
    · have e : l.take (k + 1) = l.take k := by rw [List.take_of_length_le (by omega), List.take_of_length_le (by omega)]
      rw [e] at h ⊢
      have ih := decV_lt l k h
      rw [Nat.pow_succ]; omega

/-- A number in digits. -/
def numL (n : Nat) : List UInt8 := if n < 10 then [UInt8.ofNat (48 + n)] else numL (n / 10) ++ [UInt8.ofNat (48 + n % 10)]
theorem numL_small {n : Nat} (h : n < 10) : numL n = [UInt8.ofNat (48 + n)] := by rw [numL, if_pos h]
theorem numL_big {n : Nat} (h : ¬ n < 10) : numL n = numL (n / 10) ++ [UInt8.ofNat (48 + n % 10)] := by rw [numL, if_neg h]
theorem numL_length : ∀ (k n : Nat), n < 10 ^ (k + 1) → (numL n).length ≤ k + 1
  | 0, n, h => by rw [numL_small (by simpa using h)]; simp
  | k + 1, n, h => by
    by_cases h10 : n < 10
    · rw [numL_small h10]; simp
    · rw [numL_big h10, List.length_append]
      have := numL_length k (n / 10) (by rw [Nat.pow_succ] at h; omega)
      simp; omega

theorem val_strM {x : ByteArray} {l : List UInt8} (h : x.data.toList = l) : Value.string x = .string ⟨l.toArray⟩ := by rw [data_eq h]
theorem byte_new {w : World} {n : Int} {k : Nat} (hn : n = (k : Int)) (hk : k ≤ 255) :
    Sem.run Tryz.prog (convert 165 9 (.slice (some ⟨w.heap.size, 0, none⟩) 1 1)) (w.alloc (.cells #[.int .u8 n] 5)) = .ok (.string ⟨#[UInt8.ofNat k]⟩) (w.alloc (.cells #[.int .u8 n] 5)) := by
  refine run_convert_bytes_back _ 165 9 5 ⟨w.heap.size, 0, none⟩ 1 [UInt8.ofNat k] Tryz.underlying165 Tryz.underlying5 Tryz.underlying9 (fun j hj => ?_)
  match j, hj with
  | 0, _ =>
    have := b8_ofNat hk
    unfold B8 at this
    rw [cell_new_one w (.int .u8 n) 5 0 (.int .u8 n) rfl, hn]
    exact congrArg some this.symm

theorem byte_kept {w W : World} {n : Int} {k : Nat} (hn : n = (k : Int)) (hk : k ≤ 255) (hb : Below (w.alloc (.cells #[.int .u8 n] 5)).drew.heap.size (w.alloc (.cells #[.int .u8 n] 5)).drew W) :
    Sem.run Tryz.prog (convert 165 9 (.slice (some ⟨w.heap.size, 0, none⟩) 1 1)) W = .ok (.string ⟨#[UInt8.ofNat k]⟩) W := by
  refine run_convert_bytes_back _ 165 9 5 ⟨w.heap.size, 0, none⟩ 1 [UInt8.ofNat k] Tryz.underlying165 Tryz.underlying5 Tryz.underlying9 (fun j hj => ?_)
  match j, hj with
  | 0, _ =>
    have := b8_ofNat hk
    unfold B8 at this
    have e : (w.alloc (.cells #[.int .u8 n] 5)).drew.cell? ((⟨w.heap.size, 0, none⟩ : Addr).add 0) = some (.int .u8 n) := cell_new_one w (.int .u8 n) 5 0 (.int .u8 n) rfl
    rw [hb.cell (p := (⟨w.heap.size, 0, none⟩ : Addr).add 0) (show w.heap.size < (w.alloc (.cells #[.int .u8 n] 5)).heap.size by simp), e, hn]
    exact congrArg some this.symm

theorem below_anyN {w wr w1 : World} (hb : Below w.heap.size w wr) (hb1 : Below wr.drew.heap.size wr.drew w1) : Below w.heap.size w w1 := hb.drew.trans (hb1.mono hb.size)

set_option maxRecDepth 20000 in
set_option maxHeartbeats 1000000 in
theorem l1Num_any : ∀ (m : Nat) (n : Nat) (w : World), n ≤ m → n < 9000000000000000000 →
    Calls Tryz.prog 107 #[.int .i64 (n : Int)] w fun e w' => e = .returned (.string ⟨(numL n).toArray⟩) ∧ Below w.heap.size w w' := by
  intro m
  induction m with
  | zero =>
    intro n w hm hn
    have h10 : n < 10 := by omega
    have HN : Hid (numL n = [UInt8.ofNat (48 + n)]) := numL_small h10
    have hconv := byte_new (w := w) (n := 48 + (n : Int)) (k := 48 + n) (by omega) (by omega)
    go_enter Tryz.func107, Tryz.ntmps107
    go_wp2_with fail
    go_ret
    exact ⟨congrArg Ending.returned (val_strM (by rw [HN.out]; simp)), (Below.refl _ _).alloc (Nat.le_refl _) _⟩
  | succ m ih =>
    intro n w hm hn
    by_cases h10 : n < 10
    · have HN : Hid (numL n = [UInt8.ofNat (48 + n)]) := numL_small h10
      have hconv := byte_new (w := w) (n := 48 + (n : Int)) (k := 48 + n) (by omega) (by omega)
      go_enter Tryz.func107, Tryz.ntmps107
      go_wp2_with fail
      go_ret
      exact ⟨congrArg Ending.returned (val_strM (by rw [HN.out]; simp)), (Below.refl _ _).alloc (Nat.le_refl _) _⟩
    · have HN : Hid (numL n = numL (n / 10) ++ [UInt8.ofNat (48 + n % 10)]) := numL_big h10
      have hl := numL_length 17 (n / 10) (by omega)
      have HIH0 := fun W => ih (n / 10) W (by omega) (by omega)
      obtain ⟨q, hq⟩ : ∃ q, q = n / 10 := ⟨_, rfl⟩
      have hqi : (n : Int) / 10 = (q : Int) := by omega
      have HQ : Hid ((n : Int) / 10 = (q : Int)) := hqi
      rw [← hq] at HN HIH0 hl
      obtain ⟨z, hz⟩ : ∃ z, z = numL q := ⟨_, rfl⟩
      rw [← hz] at HN HIH0 hl
      have HIH : Hid (∀ W, Calls Tryz.prog 107 #[.int .i64 (q : Int)] W fun e w' => e = .returned (.string ⟨z.toArray⟩) ∧ Below W.heap.size W w') := HIH0
      obtain ⟨d, hd⟩ : ∃ d, d = 48 + n % 10 := ⟨_, rfl⟩
      have hdi : IntKind.u8.wrap (IntKind.i64.wrap (48 + (n : Int).tmod 10)) = (d : Int) := by
        rw [Int.tmod_eq_emod_of_nonneg (by omega), wrap_small _ (by omega) (by omega), IntKind.wrap_u8]; omega
      have HWQ : Hid (IntKind.i64.wrap (q : Int) = (q : Int)) := wrap_small _ (by omega) (by omega)
      have hd5 : d ≤ 255 := by omega
      have HD : Hid (d = 48 + n % 10) := hd
      rw [← hd] at HN
      clear ih hz hq hqi HIH0 hd hn
      have HB : Hid (∀ W : World, Sem.run Tryz.prog (convert 165 9 (.slice (some ⟨W.heap.size, 0, none⟩) 1 1)) (W.alloc (.cells #[.int .u8 (IntKind.u8.wrap (IntKind.i64.wrap (48 + (n : Int).tmod 10)))] 5)) = .ok (.string ⟨#[UInt8.ofNat d]⟩) (W.alloc (.cells #[.int .u8 (IntKind.u8.wrap (IntKind.i64.wrap (48 + (n : Int).tmod 10)))] 5))) := fun W => byte_new hdi hd5
      have HBK : Hid (∀ W2 : World, Below (w.alloc (.cells #[.int .u8 (IntKind.u8.wrap (IntKind.i64.wrap (48 + (n : Int).tmod 10)))] 5)).drew.heap.size (w.alloc (.cells #[.int .u8 (IntKind.u8.wrap (IntKind.i64.wrap (48 + (n : Int).tmod 10)))] 5)).drew W2 → Sem.run Tryz.prog (convert 165 9 (.slice (some ⟨w.heap.size, 0, none⟩) 1 1)) W2 = .ok (.string ⟨#[UInt8.ofNat d]⟩) W2) := fun W2 hb => byte_kept hdi hd5 hb
      have hconv1 := HBK.out _ (Below.refl _ _)
      clear hdi
      go_enter Tryz.func107, Tryz.ntmps107
      go_wp2_with fail
      go_region_with (go_at_call 107; rw [HQ.out, HWQ.out]; refine (HIH.out _).mono ?_; rintro e w1 ⟨rfl, hb1⟩; (first | have hconv2 := HBK.out _ hb1 | have hconv2 := HB.out w1))
      all_goals
        go_wp2_with fail
        go_ret
        refine ⟨congrArg Ending.returned (val_strM (by rw [HN.out]; simp)), ?_⟩
        first
        | exact below_anyN ((Below.refl _ _).alloc (Nat.le_refl _) _) hb1
        | exact (below_anyN (Below.refl _ _) hb1).alloc (below_anyN (Below.refl _ _) hb1).size _

theorem dig_step {l : List UInt8} {k : Nat} (h : (l.take k).all digB = true) (hk : k < l.length) (ho : digB l[k] = true) : (l.take (k + 1)).all digB = true := by
  rw [List.take_succ_eq_append_getElem hk]; simp only [List.all_append, h, List.all_cons, ho, List.all_nil, Bool.and_true]
theorem dig_full {l : List UInt8} {k : Nat} (h : (l.take k).all digB = true) (hk : ¬ k < l.length) : l.all digB = true := by
  rwa [List.take_of_length_le (by omega)] at h
theorem dig_not {l : List UInt8} {k : Nat} (hk : k < l.length) (ho : digB l[k] = false) : l.all digB = false := by
  rw [Bool.eq_false_iff]; intro h
  have := List.all_eq_true.1 h l[k] (List.getElem_mem _)
  rw [ho] at this; cases this
theorem intV_bad {l : List UInt8} (h : l.all digB = false) : intV l = -1 := by unfold intV; rw [if_neg]; rintro ⟨_, _, _, h4⟩; rw [h] at h4; cases h4
theorem pow10 {k : Nat} (h : k ≤ 10) : 10 ^ k ≤ 10000000000 := Nat.le_trans (Nat.pow_le_pow_right (by omega) h) (by decide)

set_option maxRecDepth 20000 in
set_option maxHeartbeats 1000000 in
theorem l1Int_any (s : ByteArray) (w : World) (hs : s.size ≤ 4294967280) :
    Calls Tryz.prog 74 #[.string s] w fun e w' => e = .returned (.int .i64 (intV s.data.toList)) ∧ w' = w := by
  have HLEN : Hid (s.data.toList.length = s.size) := (by simp : s.data.toList.length = s.size)
  by_cases hin : 1 ≤ s.size ∧ s.size ≤ 10
  · have hin1 := hin.1
    have hin2 := hin.2
    have hd : (decide ((1 : Int) ≤ (s.size : Int)) && decide ((s.size : Int) ≤ 10)) = true := by
      rw [decide_eq_true (show (1 : Int) ≤ (s.size : Int) by omega), decide_eq_true (show (s.size : Int) ≤ 10 by omega)]; rfl
    have HD : Hid ((decide ((1 : Int) ≤ (s.size : Int)) && decide ((s.size : Int) ≤ 10)) = true) := hd
    clear hd hin
    have h0lt : 0 < s.size := by omega
    have HHEAD : Hid (s.data.toList.head? = some s[0]) := by
      rw [List.head?_eq_getElem?, List.getElem?_eq_getElem (by rw [HLEN.out]; exact h0lt)]; exact rfl
    by_cases hz : s[0] = 48 ∧ 1 < s.size
    · have HR : Hid (intV s.data.toList = -1) := by
        unfold intV; rw [if_neg]; exact rfl
        rintro ⟨_, _, h3, _⟩; exact h3 ⟨by rw [HHEAD.out, hz.1], by rw [HLEN.out]; exact hz.2⟩
      have e1 : ((s[0].toNat : Int) == 48) = true := by rw [hz.1]; rfl
      have hz2 := hz.2
      clear hz
      go_enter Tryz.func74, Tryz.ntmps74
      go_wp2_with fail
      refine (l1In_any _ _ _ _).mono ?_
      rintro e w1 ⟨rfl, rfl⟩
      rw [HD.out]
      go_wp2_with fail
      go_ret
      exact ⟨ret_int HR.out.symm, rfl⟩
    · have HZ : Hid (¬ (s.data.toList.head? = some 48 ∧ 1 < s.data.toList.length)) := by
        rintro ⟨h1, h2⟩
        rw [HHEAD.out] at h1
        rw [HLEN.out] at h2
        exact hz ⟨Option.some.inj h1, h2⟩
      by_cases h48 : s[0] = 48
      · have e1 : ((s[0].toNat : Int) == 48) = true := by rw [h48]; rfl
        have h1s : s.size ≤ 1 := by
          by_cases e : 1 < s.size
          · exact absurd ⟨h48, e⟩ hz
          · omega
        clear hz h48
        go_enter Tryz.func74, Tryz.ntmps74
        go_wp2_with fail
        refine (l1In_any _ _ _ _).mono ?_
        rintro e w1 ⟨rfl, rfl⟩
        rw [HD.out]
        go_wp2_with fail
        go_loop [3, 4] (fun n i => ∃ k : Nat, k ≤ s.size ∧ i = .int .i64 (k : Int) ∧ n = .int .i64 ((decV (s.data.toList.take k) : Nat) : Int) ∧ Hid ((s.data.toList.take k).all digB = true)) (fun _ i => s.size - (intOf i).toNat)
        case atStart => exact ⟨0, Nat.zero_le _, rfl, rfl, rfl⟩
        case round =>
          obtain ⟨k, hk, rfl, rfl, HA⟩ := hrel
          have hlt10 := decV_lt s.data.toList k HA.out
          have hp10 := pow10 (k := k) (by omega)
          have hdv : decV (s.data.toList.take k) < 10000000000 := by omega
          clear hlt10 hp10
          by_cases hlt : k < s.size
          · have hkl : k < s.data.toList.length := by rw [HLEN.out]; exact hlt
            have hc255 : s[k].toNat < 256 := s[k].toNat_lt
            have HST : Hid (decV (s.data.toList.take (k + 1)) = 10 * decV (s.data.toList.take k) + (s[k].toNat - 48)) := decV_snoc s.data.toList k hkl
            have HNO : Hid (digB s[k] = false → intV s.data.toList = -1) := fun h => intV_bad (dig_not hkl h)
            have HYES : Hid (digB s[k] = true → (s.data.toList.take (k + 1)).all digB = true) := fun h => dig_step HA.out hkl h
            obtain ⟨v, hv⟩ : ∃ v, v = decV (s.data.toList.take k) := ⟨_, rfl⟩
            rw [← hv] at hdv HST ⊢
            clear hv
            rcases (show (s[k].toNat : Int) < 48 ∨ (57 : Int) < (s[k].toNat : Int) ∨ ((48 : Int) ≤ (s[k].toNat : Int) ∧ (s[k].toNat : Int) ≤ 57) by omega) with g | g | ⟨g1, g2⟩
            · have HR : Hid (intV s.data.toList = -1) := HNO.out (by unfold digB; rw [decide_eq_false (by omega)]; rfl)
              go_wp2_with fail
              go_ret
              exact ⟨ret_int HR.out.symm, rfl⟩
            · have HR : Hid (intV s.data.toList = -1) := HNO.out (by unfold digB; rw [decide_eq_false (p := s[k].toNat ≤ 57) (by omega), Bool.and_false])
              go_wp2_with fail
              go_ret
              exact ⟨ret_int HR.out.symm, rfl⟩
            · have HAN : Hid ((s.data.toList.take (k + 1)).all digB = true) := HYES.out (by unfold digB; rw [decide_eq_true (by omega), decide_eq_true (by omega)]; rfl)
              have hsub : 48 ≤ s[k].toNat := by omega
              go_wp2_with fail
              go_round
              case rel => exact ⟨k + 1, by omega, by go_num, by rw [HST.out]; congr 1; omega, HAN⟩
              case measure => simp [intOf]; omega
          · have hfull : s.data.toList.take k = s.data.toList := List.take_of_length_le (by rw [HLEN.out]; omega)
            have HR : Hid (intV s.data.toList = ((decV (s.data.toList.take k) : Nat) : Int)) := by
              have h1 := dig_full HA.out (by rw [HLEN.out]; exact hlt)
              rw [hfull]
              exact if_pos ⟨by rw [HLEN.out]; exact hin1, by rw [HLEN.out]; exact hin2, HZ.out, h1⟩
            clear hfull
            obtain ⟨v, hv⟩ : ∃ v, v = decV (s.data.toList.take k) := ⟨_, rfl⟩
            rw [← hv] at hdv HR ⊢
            clear hv
            go_wp2_with fail
            go_ret
            exact ⟨ret_int HR.out.symm, rfl⟩
      · have e1 : ((s[0].toNat : Int) == 48) = false := by
          rw [beq_eq_false_iff_ne]; intro h; exact h48 (UInt8.toNat_inj.1 (by show s[0].toNat = 48; omega))
        clear hz h48
        go_enter Tryz.func74, Tryz.ntmps74
        go_wp2_with fail
        refine (l1In_any _ _ _ _).mono ?_
        rintro e w1 ⟨rfl, rfl⟩
        rw [HD.out]
        go_wp2_with fail
        go_loop [3, 4] (fun n i => ∃ k : Nat, k ≤ s.size ∧ i = .int .i64 (k : Int) ∧ n = .int .i64 ((decV (s.data.toList.take k) : Nat) : Int) ∧ Hid ((s.data.toList.take k).all digB = true)) (fun _ i => s.size - (intOf i).toNat)
        case atStart => exact ⟨0, Nat.zero_le _, rfl, rfl, rfl⟩
        case round =>
          obtain ⟨k, hk, rfl, rfl, HA⟩ := hrel
          have hlt10 := decV_lt s.data.toList k HA.out
          have hp10 := pow10 (k := k) (by omega)
          have hdv : decV (s.data.toList.take k) < 10000000000 := by omega
          clear hlt10 hp10
          by_cases hlt : k < s.size
          · have hkl : k < s.data.toList.length := by rw [HLEN.out]; exact hlt
            have hc255 : s[k].toNat < 256 := s[k].toNat_lt
            have HST : Hid (decV (s.data.toList.take (k + 1)) = 10 * decV (s.data.toList.take k) + (s[k].toNat - 48)) := decV_snoc s.data.toList k hkl
            have HNO : Hid (digB s[k] = false → intV s.data.toList = -1) := fun h => intV_bad (dig_not hkl h)
            have HYES : Hid (digB s[k] = true → (s.data.toList.take (k + 1)).all digB = true) := fun h => dig_step HA.out hkl h
            obtain ⟨v, hv⟩ : ∃ v, v = decV (s.data.toList.take k) := ⟨_, rfl⟩
            rw [← hv] at hdv HST ⊢
            clear hv
            rcases (show (s[k].toNat : Int) < 48 ∨ (57 : Int) < (s[k].toNat : Int) ∨ ((48 : Int) ≤ (s[k].toNat : Int) ∧ (s[k].toNat : Int) ≤ 57) by omega) with g | g | ⟨g1, g2⟩
            · have HR : Hid (intV s.data.toList = -1) := HNO.out (by unfold digB; rw [decide_eq_false (by omega)]; rfl)
              go_wp2_with fail
              go_ret
              exact ⟨ret_int HR.out.symm, rfl⟩
            · have HR : Hid (intV s.data.toList = -1) := HNO.out (by unfold digB; rw [decide_eq_false (p := s[k].toNat ≤ 57) (by omega), Bool.and_false])
              go_wp2_with fail
              go_ret
              exact ⟨ret_int HR.out.symm, rfl⟩
            · have HAN : Hid ((s.data.toList.take (k + 1)).all digB = true) := HYES.out (by unfold digB; rw [decide_eq_true (by omega), decide_eq_true (by omega)]; rfl)
              have hsub : 48 ≤ s[k].toNat := by omega
              go_wp2_with fail
              go_round
              case rel => exact ⟨k + 1, by omega, by go_num, by rw [HST.out]; congr 1; omega, HAN⟩
              case measure => simp [intOf]; omega
          · have hfull : s.data.toList.take k = s.data.toList := List.take_of_length_le (by rw [HLEN.out]; omega)
            have HR : Hid (intV s.data.toList = ((decV (s.data.toList.take k) : Nat) : Int)) := by
              have h1 := dig_full HA.out (by rw [HLEN.out]; exact hlt)
              rw [hfull]
              exact if_pos ⟨by rw [HLEN.out]; exact hin1, by rw [HLEN.out]; exact hin2, HZ.out, h1⟩
            clear hfull
            obtain ⟨v, hv⟩ : ∃ v, v = decV (s.data.toList.take k) := ⟨_, rfl⟩
            rw [← hv] at hdv HR ⊢
            clear hv
            go_wp2_with fail
            go_ret
            exact ⟨ret_int HR.out.symm, rfl⟩
  · have HR : Hid (intV s.data.toList = -1) := by
      unfold intV; rw [if_neg]; exact rfl
      rintro ⟨h1, h2, _⟩; rw [HLEN.out] at h1 h2; exact hin ⟨h1, h2⟩
    have hd : (decide ((1 : Int) ≤ (s.size : Int)) && decide ((s.size : Int) ≤ 10)) = false := by
      simp only [Bool.and_eq_false_iff, decide_eq_false_iff_not]; omega
    have HD : Hid ((decide ((1 : Int) ≤ (s.size : Int)) && decide ((s.size : Int) ≤ 10)) = false) := hd
    clear hd hin
    go_enter Tryz.func74, Tryz.ntmps74
    go_wp2_with fail
    refine (l1In_any _ _ _ _).mono ?_
    rintro e w1 ⟨rfl, rfl⟩
    rw [HD.out]
    go_wp2_with fail
    go_ret
    exact ⟨ret_int HR.out.symm, rfl⟩
end Go.Proofs.YtoobaaklklommaaGreatDoor
