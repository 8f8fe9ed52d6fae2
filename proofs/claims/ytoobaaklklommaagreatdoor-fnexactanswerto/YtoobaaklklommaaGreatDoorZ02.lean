import Derived.Test.YtoobaaklklommaaGreatDoorZ00
import Derived.Test.YtoobaaklklommaaGreatDoorZ01
namespace Go.Proofs.YtoobaaklklommaaGreatDoor
open Go.RowKit

/-- A list of bytes as Go's text. -/
def S (p : List UInt8) : Value := .string ⟨p.toArray⟩
theorem info_string : (Tryz.prog.info? 9).map (fun i => (i.zero, i.size, i.bytes)) = some (some (.string ByteArray.empty), 1, 16) := by kernel_rfl

theorem cell_new_one (w : World) (x : Value) (t : TypeId) : ∀ j u, [x][j]? = some u → (w.alloc (.cells #[x] t)).cell? ((⟨w.heap.size, 0, none⟩ : Addr).add j) = some u := by
  intro j u hj
  match j, hj with
  | 0, hj => simp at hj; subst hj; simp [Addr.add]
theorem one_string (x : ByteArray) : ∀ u ∈ [Value.string x], u.oneCell' = true := by
  intro u hu; simp at hu; subst hu; rfl

theorem extract_S (s : ByteArray) (a b : Nat) : Value.string (s.extract a b) = S ((s.data.toList.take b).drop a) := by
  unfold S
  have : (s.extract a b).data.toList = (s.data.toList.take b).drop a := by
    rw [Lib.extract_data, List.drop_take]
  rw [← this]

theorem below_append {w wr w1 : World} {v : Value} {n : Nat} {xs : List Value} {o : Obj} (hb : Below w.heap.size w wr) (hown : wr.ownsRow w.heap.size 9 1 v n xs) (hgrow : (wr.alloc o).grownBy w1 v.ownBlock) : Below w.heap.size w w1 :=
  (hb.alloc hb.size o).grown hgrow (by have := hb.size; simp; omega) (fun k hk => (hown.lt k hk).1)

theorem split_keep {w wr w1 : World} {s : ByteArray} {c : UInt8} {k fr : Nat} {out : List (List UInt8)} {v v' : Value} {t : TypeId} (h : Cutting c s.data.toList k fr out) (hk : k < s.data.toList.length) (hc : s.data.toList[k] = c)
    (hown : wr.ownsRow w.heap.size 9 1 v out.length (out.map S)) (hb : Below w.heap.size w wr)
    (hown' : w1.ownsRow w.heap.size 9 1 v' (out.length + 1) (out.map S ++ [.string (s.extract fr k)])) (hgrow : (wr.alloc (.cells #[.string (s.extract fr k)] t)).grownBy w1 v.ownBlock) :
    Cutting c s.data.toList (k + 1) (k + 1) (out ++ [(s.data.toList.take k).drop fr]) ∧ w1.ownsRow w.heap.size 9 1 v' (out ++ [(s.data.toList.take k).drop fr]).length ((out ++ [(s.data.toList.take k).drop fr]).map S) ∧ Below w.heap.size w w1 := by
  refine ⟨cutting_hit h hk hc, ?_, below_append hb hown hgrow⟩
  rw [extract_S] at hown'
  simpa using hown'

theorem split_last {w wr w1 : World} {s : ByteArray} {c : UInt8} {k fr : Nat} {out : List (List UInt8)} {v v' : Value} {t : TypeId} (h : Cutting c s.data.toList k fr out) (hk : ¬ k < s.data.toList.length)
    (hown : wr.ownsRow w.heap.size 9 1 v out.length (out.map S)) (hb : Below w.heap.size w wr)
    (hown' : w1.ownsRow w.heap.size 9 1 v' (out.length + 1) (out.map S ++ [.string (s.extract fr s.size)])) (hgrow : (wr.alloc (.cells #[.string (s.extract fr s.size)] t)).grownBy w1 v.ownBlock) :
    w1.ownsRow w.heap.size 9 1 v' (cut c s.data.toList).length ((cut c s.data.toList).map S) ∧ Below w.heap.size w w1 := by
  refine ⟨?_, below_append hb hown hgrow⟩
  rw [extract_S] at hown'
  rw [cutting_end h (by omega)]
  have e : s.data.toList.take s.size = s.data.toList := List.take_of_length_le (by simp)
  rw [e] at hown'
  simpa using hown'

set_option maxRecDepth 20000 in
set_option maxHeartbeats 1000000 in
theorem l1Split_any (s : ByteArray) (c : UInt8) (n : Int) (w : World) (hs : s.size ≤ 4294967280) (hn : Hid (n = (c.toNat : Int))) :
    Calls Tryz.prog 73 #[.string s, .int .u8 n] w fun e w' => ∃ v, e = .returned v ∧ w'.ownsRow w.heap.size 9 1 v (cut c s.data.toList).length ((cut c s.data.toList).map S) ∧ Below w.heap.size w w' := by
  obtain ⟨i0, hi, hz0, hz1, hz2⟩ := info_parts info_string
  go_enter Tryz.func73, Tryz.ntmps73
  go_wp2_with fail
  go_loopw [5, 6, 7] (fun v f i wr => ∃ (k fr : Nat) (out : List (List UInt8)), k ≤ s.size ∧ i = .int .i64 k ∧ f = .int .i64 fr ∧ fr ≤ k ∧ Hid (Cutting c s.data.toList k fr out) ∧ wr.ownsRow w.heap.size 9 1 v out.length (out.map S) ∧ Below w.heap.size w wr) (fun _ _ i _ => s.size - (intOf i).toNat)
  case atStart => exact ⟨0, 0, [], Nat.zero_le _, rfl, rfl, Nat.le_refl _, cutting_start _ _, World.ownsRow_nil _ _ _ _, Below.refl _ _⟩
  case round =>
    obtain ⟨k, fr, out, hk, rfl, rfl, hfr, HC, hown, hb⟩ := hrel
    have hbz := hb.size
    have hol : out.length ≤ k := cutting_length HC.out (by simpa using hk)
    by_cases hlt : k < s.size
    · by_cases hc : s[k] = c
      · have e1 : ((s[k].toNat : Int) == n) = true := by rw [hn.out, hc]; simp
        have HC2 : Hid (s[k] = c) := hc
        clear hc
        go_wp2_with (at_builtin; refine wpList_append_own _ rfl _ _ 104 rfl w.heap.size 9 i0 (.string ByteArray.empty) 1 16 Tryz.underlying104 hi hz0 hz1 hz2 rfl (by decide) _ _ _ rfl (hown.alloc _) ⟨wr.heap.size, 0, none⟩ 1 1 [.string (s.extract fr k)] rfl rfl ?c1 ?c2 ?c3 ?c4 ?c5 ?_)
        case c1 => exact cell_new_one _ _ _
        case c2 => exact one_string _
        case c3 => unfold maxLen; omega
        case c4 => omega
        case c5 => simp; omega
        intro v' w1 hown' hgrow _
        have R := split_keep HC.out (by simpa using hlt) HC2.out hown hb hown' hgrow
        clear hown' hgrow hown hb
        go_wp2_with fail
        go_roundw
        case rel => exact ⟨k + 1, k + 1, out ++ [(s.data.toList.take k).drop fr], by omega, by go_num, by go_num, Nat.le_refl _, R.1, R.2.1, R.2.2⟩
        case measure => simp [intOf]; omega
      · have e1 : ((s[k].toNat : Int) == n) = false := by
          rw [hn.out, beq_eq_false_iff_ne]; intro h; exact hc (UInt8.toNat_inj.1 (by omega))
        have R := cutting_miss HC.out (by simpa using hlt) hc
        have HR : Hid (Cutting c s.data.toList (k + 1) fr out) := R
        clear hc R
        go_wp2_with fail
        go_roundw
        case rel => exact ⟨k + 1, fr, out, by omega, by go_num, rfl, by omega, HR, hown, hb⟩
        case measure => simp [intOf]; omega
    · go_wp2_with (at_builtin; refine wpList_append_own _ rfl _ _ 104 rfl w.heap.size 9 i0 (.string ByteArray.empty) 1 16 Tryz.underlying104 hi hz0 hz1 hz2 rfl (by decide) _ _ _ rfl (hown.alloc _) ⟨wr.heap.size, 0, none⟩ 1 1 [.string (s.extract fr s.size)] rfl rfl ?d1 ?d2 ?d3 ?d4 ?d5 ?_)
      case d1 => exact cell_new_one _ _ _
      case d2 => exact one_string _
      case d3 => unfold maxLen; omega
      case d4 => omega
      case d5 => simp; omega
      intro v' w1 hown' hgrow _
      have R := split_last HC.out (by simpa using hlt) hown hb hown' hgrow
      clear hown' hgrow hown hb
      go_wp2_with fail
      go_ret
      exact ⟨_, rfl, R.1, R.2⟩
end Go.Proofs.YtoobaaklklommaaGreatDoor
