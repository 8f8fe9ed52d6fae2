import Derived.Test.YtbcgalhegkhmbaaGreatDoorZ29
import Derived.Test.YtbcgalhegkhmbaaGreatDoorZ49
import Derived.Test.YtbcgalhegkhmbaaGreatDoorZ24
import Derived.Test.YtbcgalhegkhmbaaGreatDoorZ23
namespace Go.Proofs.YtbcgalhegkhmbaaGreatDoor
open Go.RowKit


set_option maxRecDepth 20000 in
set_option maxHeartbeats 2000000 in
theorem l9Has_any (v : Value) (L : List (List UInt8 × Int × Int × List UInt8)) (r : List UInt8 × Int × Int × List UInt8) (w : World) (hr : RRow w v L) :
    Calls Tryz.prog 27 #[v, .agg #[.string ⟨r.1.toArray⟩, .int .i64 r.2.1, .int .i64 r.2.2.1, .string ⟨r.2.2.2.toArray⟩]] w fun e w' => e = .returned (.bool (hasR L r)) ∧ Below w.heap.size w w' := by
  obtain ⟨a, cap, rfl, hcap, hmax, HROW⟩ := rrow_value hr
  clear hr
  obtain ⟨q, hq⟩ : ∃ q, q = hasR L r := ⟨_, rfl⟩
  have HQ : Hid (q = hasR L r) := hq
  rw [← hq]
  clear hq
  go_enter Tryz.func27, Tryz.ntmps27
  go_wp2_with fail
  have hk0 : (w.alloc (.cells #[.string ⟨r.1.toArray⟩, .int .i64 r.2.1, .int .i64 r.2.2.1, .string ⟨r.2.2.2.toArray⟩] 51)).heap[w.heap.size]? = some (.cells #[.string ⟨r.1.toArray⟩, .int .i64 r.2.1, .int .i64 r.2.2.1, .string ⟨r.2.2.2.toArray⟩] 51) := blk_new _ _
  have HB0 : Hid (Below w.heap.size w (w.alloc (.cells #[.string ⟨r.1.toArray⟩, .int .i64 r.2.1, .int .i64 r.2.2.1, .string ⟨r.2.2.2.toArray⟩] 51))) := (Below.refl _ _).alloc (Nat.le_refl _) _
  go_loopw [9] (fun i wr => ∃ k : Nat, k ≤ L.length ∧ i = .int .i64 (k : Int) ∧ Hid (∀ j, (hj : j < L.length) → j < k → L[j] ≠ r) ∧ Hid (wr.heap[w.heap.size]? = some (.cells #[.string ⟨r.1.toArray⟩, .int .i64 r.2.1, .int .i64 r.2.2.1, .string ⟨r.2.2.2.toArray⟩] 51)) ∧ Below w.heap.size w wr) (fun i _ => L.length - (intOf i).toNat)
  case atStart => exact ⟨0, Nat.zero_le _, rfl, fun j _ h => absurd h (Nat.not_lt_zero _), hk0, HB0.out⟩
  case round =>
    obtain ⟨k, hk, rfl, HA, HK, hb⟩ := hrel
    clear hk0 HB0
    by_cases hlt : k < L.length
    · obtain ⟨b, o, ha, hbl, hcel⟩ := HROW.out (by omega)
      rw [ha]
      have hcx := (hcel k hlt).kept hb
      have HHIT : Hid ((L[k]'hlt) = r → q = true) := fun h => HQ.out.trans (hasR_hit k hlt h)
      have HUP : Hid ((L[k]'hlt) ≠ r → ∀ j, (hj : j < L.length) → j < k + 1 → L[j] ≠ r) := fun h j hj hj2 => by
        rcases Nat.lt_or_ge j k with h' | h'
        · exact HA.out j hj h'
        · obtain rfl : j = k := by omega
          exact h
      obtain ⟨x, hxe⟩ : ∃ x, x = L[k]'hlt := ⟨_, rfl⟩
      rw [← hxe] at hcx HHIT HUP
      unfold RecAt at hcx
      obtain ⟨c0, c1, c2, c3⟩ := hcx
      obtain ⟨⟨d0, d1, d2, d3⟩, _⟩ := dif_cells HK.out
      have hz : w.heap.size < wr.heap.size := (Array.getElem?_eq_some_iff.1 HK.out).1
      have HA2 : Hid (Below w.heap.size w (wr.alloc (.cells #[.string ⟨x.1.toArray⟩, .int .i64 x.2.1, .int .i64 x.2.2.1, .string ⟨x.2.2.2.toArray⟩] 51))) := hb.alloc hb.size _
      have HK2 : Hid ((wr.alloc (.cells #[.string ⟨x.1.toArray⟩, .int .i64 x.2.1, .int .i64 x.2.2.1, .string ⟨x.2.2.2.toArray⟩] 51)).heap[w.heap.size]? = some (.cells #[.string ⟨r.1.toArray⟩, .int .i64 r.2.1, .int .i64 r.2.2.1, .string ⟨r.2.2.2.toArray⟩] 51)) := (((Below.refl wr.heap.size wr).alloc (Nat.le_refl _) _).block _ hz).trans HK.out
      have hG := guard_rec
      clear hcel hxe
      by_cases hh : x = r
      · have HF : Hid (q = true) := HHIT.out hh
        have hE : ∀ W, (Op.equalIn 10000 51 (.agg #[.string ⟨x.1.toArray⟩, .int .i64 x.2.1, .int .i64 x.2.2.1, .string ⟨x.2.2.2.toArray⟩]) (.agg #[.string ⟨r.1.toArray⟩, .int .i64 r.2.1, .int .i64 r.2.2.1, .string ⟨r.2.2.2.toArray⟩])).run Tryz.prog W = .ok true W := fun W => by rw [eq_rec x r W, decide_eq_true hh]
        clear HHIT HUP hh
        go_wp2_with fail
        go_ret
        exact ⟨ret_bool HF.out.symm, HA2.out⟩
      · have HU : Hid (∀ j, (hj : j < L.length) → j < k + 1 → L[j] ≠ r) := HUP.out hh
        have hE : ∀ W, (Op.equalIn 10000 51 (.agg #[.string ⟨x.1.toArray⟩, .int .i64 x.2.1, .int .i64 x.2.2.1, .string ⟨x.2.2.2.toArray⟩]) (.agg #[.string ⟨r.1.toArray⟩, .int .i64 r.2.1, .int .i64 r.2.2.1, .string ⟨r.2.2.2.toArray⟩])).run Tryz.prog W = .ok false W := fun W => by rw [eq_rec x r W, decide_eq_false hh]
        clear HHIT HUP hh
        go_wp2_with fail
        go_roundw
        case rel => exact ⟨k + 1, by omega, by go_num, HU, HK2, HA2.out⟩
        case measure => simp [intOf]; omega
    · have HF : Hid (q = false) := HQ.out.trans (hasR_none (fun j hj => HA.out j hj (by omega)))
      go_wp2_with fail
      go_ret
      exact ⟨ret_bool HF.out.symm, hb⟩
end Go.Proofs.YtbcgalhegkhmbaaGreatDoor
