import Derived.Test.YtphhgjdpfcmpgaaGreatDoorZ27
import Derived.Test.YtphhgjdpfcmpgaaGreatDoorZ18
import Derived.Maps.AppendAt
import Derived.Deep.RegionHeld3
namespace Go.Proofs.YtphhgjdpfcmpgaaGreatDoor
open Go.RowKit

/-- A byte's number. -/
def bt (l : List UInt8) (i : Nat) : Nat := (l.getD i 0).toNat
theorem bt_lt (l : List UInt8) (i : Nat) : bt l i < 256 := by unfold bt; exact (l.getD i 0).toNat_lt
theorem bt_get (s : ByteArray) (i : Nat) (h : i < s.size) : bt s.data.toList i = s[i].toNat := by
  have hz : s.data.toList.length = s.size := data_len s
  unfold bt
  rw [List.getD_eq_getElem?_getD, List.getElem?_eq_getElem (by omega)]
  simp [ByteArray.getElem_eq_getElem_data]
/-- Records out of the names and what stands behind them. -/
def recsM (pk : List UInt8) : Nat → Nat → List UInt8 → Option (List (List UInt8 × Int × Int × List UInt8))
  | 0, _, _ => some []
  | n + 1, at_, tl => match takeN pk at_ with
    | none => none
    | some (s, e, _) => if tl.length < 5 ∨ tl.length < 5 + bt tl 4 then none else match readR (bt tl 0 : Int) ((tl.drop 5).take (bt tl 4)) with
      | none => none
      | some d => (recsM pk n e (tl.drop (5 + bt tl 4))).map (fun r => (s, (bt tl 0 : Int), ((rdN ((tl.drop 1).take 3) : Nat) : Int), d) :: r)
/-- The name and the records of bytes. -/
def candM (pk tl : List UInt8) (many : Nat) : Option (List UInt8 × List (List UInt8 × Int × Int × List UInt8)) := match takeN pk 0 with
  | none => none
  | some (nm, e, _) => (recsM pk many e tl).map (fun r => (nm, r))
/-- The head of bytes is such that they may be a message's. -/
def headB (b : List UInt8) : Bool := decide (10 ≤ b.length) && (decide (b.length ≤ 4000) && (decide (bt b 4 ≤ 12) && (decide (bt b 5 ≤ 12) && decide (9 + rdN ((b.drop 6).take 2) ≤ b.length))))
def pkM (b : List UInt8) : List UInt8 := (b.drop 8).take (rdN ((b.drop 6).take 2))
def tlM (b : List UInt8) : List UInt8 := b.drop (9 + rdN ((b.drop 6).take 2))
def tyM (b : List UInt8) : Nat := bt b (8 + rdN ((b.drop 6).take 2))
def rpM (b : List UInt8) : Bool := decide (128 ≤ bt b 2)
def ctM (b : List UInt8) : Bool := decide (bt b 2 % 2 = 1)
/-- The message with these bytes: its name, its records. -/
def readM (b : List UInt8) : Option (List UInt8 × List (List UInt8 × Int × Int × List UInt8)) :=
  if headB b = true then match candM (pkM b) (tlM b) (bt b 4 + bt b 5) with
    | none => none
    | some (nm, L) => if msgB ((rdN (b.take 2) : Nat) : Int) (rpM b) (ctM b) (bt b 3 : Int) nm (tyM b : Int) (L.take (bt b 4)) (L.drop (bt b 4)) = true ∧ msgW ((rdN (b.take 2) : Nat) : Int) (rpM b) (ctM b) (bt b 3 : Int) nm (tyM b : Int) (L.take (bt b 4)) (L.drop (bt b 4)) = b then some (nm, L) else none
  else none

theorem take_len {l : List UInt8} {a : Nat} {nm : List UInt8} {e : Nat} {q : List Nat} (h : takeN l a = some (nm, e, q)) : nm.length ≤ 60 := by
  unfold takeN at h
  cases hr : takeR l a with
  | none => rw [hr] at h; cases h
  | some x =>
    obtain ⟨R, e', q'⟩ := x
    rw [hr] at h
    unfold nmR at h
    simp only at h
    split at h
    · rename_i hn
      simp only [Option.some.injEq, Prod.mk.injEq] at h
      rw [← h.1]
      rw [nameOf_eq] at hn
      simp only [Bool.and_eq_true, decide_eq_true_eq] at hn
      exact hn.2
    · cases h
theorem nameP_len (b : List UInt8) : (nameP b).length ≤ 60 := by
  unfold nameP
  split
  · simp
  · split
    · simp
    · rename_i nm e q h
      split
      · exact take_len h
      · simp
theorem nums_len : ∀ b : List UInt8, tot (b.map (fun c => numL c.toNat)) ≤ 11 * b.length
  | [] => by simp [tot]
  | c :: r => by
    have ih := nums_len r
    have h1 := numL_length 10 c.toNat (by have := c.toNat_lt; omega)
    have e : tot ((c :: r).map (fun c => numL c.toNat)) = (numL c.toNat).length + tot (r.map (fun c => numL c.toNat)) := by simp [tot]
    rw [e, List.length_cons]; omega
theorem rdN_small {l : List UInt8} {k : Nat} (h : l.length ≤ k) (hk : k ≤ 4) : rdN l < 4294967296 := by
  have h1 := rdN_lt l l.length (Nat.le_refl _)
  rw [List.take_length] at h1
  have h2 : (256 : Nat) ^ l.length ≤ 256 ^ 4 := Nat.pow_le_pow_right (by omega) (by omega)
  omega
theorem candP_len (k : Int) {b : List UInt8} (hb : b.length ≤ 600) : (candP k b).length ≤ 10000 := by
  unfold candP
  split
  · have h1 := joinD_tot (b.map (fun c => numL c.toNat))
    have h2 := nums_len b
    rw [List.length_map] at h1
    omega
  · split
    · have := nameP_len b; omega
    · split
      · split
        · have h1 := numL_length 10 (rdN b) (by have := rdN_small (l := b) (k := 4) (by omega) (by omega); omega)
          omega
        · simp
      · split
        · split
          · have h1 := numL_length 10 (rdN (b.take 2)) (by have := rdN_small (l := b.take 2) (k := 2) (by rw [List.length_take]; omega) (by omega); omega)
            have h2 := nameP_len (b.drop 2)
            simp only [List.length_append, List.length_cons]; omega
          · simp
        · split
          · rw [List.length_drop]; omega
          · simp
theorem readR_len {k : Int} {b d : List UInt8} (h : readR k b = some d) : d.length ≤ 10000 := by
  unfold readR at h
  split at h
  · rename_i hc
    simp only [Option.some.injEq] at h
    rw [← h]; exact candP_len k hc.1
  · cases h
/-- Each record that was read is small. -/
theorem recsM_small (pk : List UInt8) : ∀ (n a : Nat) (tl : List UInt8) (L : List (List UInt8 × Int × Int × List UInt8)), recsM pk n a tl = some L → L.length = n ∧ ∀ x ∈ L, x.1.length ≤ 10000 ∧ x.2.2.2.length ≤ 10000
  | 0, a, tl, L, h => by
    unfold recsM at h
    cases h
    exact ⟨rfl, fun x hx => by cases hx⟩
  | n + 1, a, tl, L, h => by
    unfold recsM at h
    split at h
    · cases h
    · rename_i s e q ht
      split at h
      · cases h
      · split at h
        · cases h
        · rename_i d hd
          cases hr : recsM pk n e (tl.drop (5 + bt tl 4)) with
          | none => rw [hr] at h; cases h
          | some r =>
            rw [hr] at h
            simp only [Option.map_some, Option.some.injEq] at h
            obtain ⟨h1, h2⟩ := recsM_small pk n e _ r hr
            subst h
            refine ⟨by simp [h1], fun x hx => ?_⟩
            rcases List.mem_cons.1 hx with rfl | hx
            · have h3 := take_len ht
              have h4 := readR_len hd
              exact ⟨by show s.length ≤ 10000; omega, h4⟩
            · exact h2 x hx

/-- The state of a reading that tells R: so many records read. -/
def GoR (pk : List UInt8) (many : Nat) (R : Option (List UInt8 × List (List UInt8 × Int × Int × List UInt8))) (a : Nat) (tl : List UInt8) (nm : List UInt8) (Q : List (List UInt8 × Int × Int × List UInt8)) : Prop :=
  Q.length ≤ many ∧ nm.length ≤ 60 ∧ (∀ x ∈ Q, x.1.length ≤ 10000 ∧ x.2.2.2.length ≤ 10000) ∧ R = (recsM pk (many - Q.length) a tl).map (fun r => (nm, Q ++ r))
section
variable {pk : List UInt8} {many : Nat} {R : Option (List UInt8 × List (List UInt8 × Int × Int × List UInt8))} {a : Nat} {tl nm : List UInt8} {Q : List (List UInt8 × Int × Int × List UInt8)}
theorem goR_start {tl0 : List UInt8} (h : R = candM pk tl0 many) {s : List UInt8} {e : Nat} {q : List Nat} (ht : takeN pk 0 = some (s, e, q)) : GoR pk many R e tl0 s [] := by
  refine ⟨Nat.zero_le _, take_len ht, fun x hx => (by cases hx), ?_⟩
  rw [h, candM, ht]; simp
theorem goR_first {tl0 : List UInt8} (h : R = candM pk tl0 many) (ht : takeN pk 0 = none) : R = none := by rw [h, candM, ht]
theorem goR_end (g : GoR pk many R a tl nm Q) (h : ¬ Q.length < many) : R = some (nm, Q) ∧ Q.length = many := by
  obtain ⟨h1, _, _, hr⟩ := g
  have e : many - Q.length = 0 := by omega
  rw [e, recsM] at hr
  exact ⟨by rw [hr]; simp, by omega⟩
theorem recsM_step {n : Nat} : recsM pk (n + 1) a tl = (match takeN pk a with
    | none => none
    | some (s, e, _) => if tl.length < 5 ∨ tl.length < 5 + bt tl 4 then none else match readR (bt tl 0 : Int) ((tl.drop 5).take (bt tl 4)) with
      | none => none
      | some d => (recsM pk n e (tl.drop (5 + bt tl 4))).map (fun r => (s, (bt tl 0 : Int), ((rdN ((tl.drop 1).take 3) : Nat) : Int), d) :: r)) := rfl
theorem goR_no (g : GoR pk many R a tl nm Q) (h : Q.length < many) (ht : takeN pk a = none) : R = none := by
  obtain ⟨_, _, _, hr⟩ := g
  obtain ⟨n, hn⟩ : ∃ n, many - Q.length = n + 1 := ⟨many - Q.length - 1, by omega⟩
  rw [hn, recsM_step, ht] at hr; exact hr
theorem goR_short (g : GoR pk many R a tl nm Q) (h : Q.length < many) {s : List UInt8} {e : Nat} {q : List Nat} (ht : takeN pk a = some (s, e, q)) (hs : tl.length < 5 ∨ tl.length < 5 + bt tl 4) : R = none := by
  obtain ⟨_, _, _, hr⟩ := g
  obtain ⟨n, hn⟩ : ∃ n, many - Q.length = n + 1 := ⟨many - Q.length - 1, by omega⟩
  rw [hn, recsM_step, ht] at hr
  simp only [if_pos hs] at hr; exact hr
theorem goR_data (g : GoR pk many R a tl nm Q) (h : Q.length < many) {s : List UInt8} {e : Nat} {q : List Nat} (ht : takeN pk a = some (s, e, q)) (hs : ¬ (tl.length < 5 ∨ tl.length < 5 + bt tl 4)) (hd : readR (bt tl 0 : Int) ((tl.drop 5).take (bt tl 4)) = none) : R = none := by
  obtain ⟨_, _, _, hr⟩ := g
  obtain ⟨n, hn⟩ : ∃ n, many - Q.length = n + 1 := ⟨many - Q.length - 1, by omega⟩
  rw [hn, recsM_step, ht] at hr
  simp only [if_neg hs, hd] at hr; exact hr
theorem goR_next (g : GoR pk many R a tl nm Q) (h : Q.length < many) {s : List UInt8} {e : Nat} {q : List Nat} (ht : takeN pk a = some (s, e, q)) (hs : ¬ (tl.length < 5 ∨ tl.length < 5 + bt tl 4)) {d : List UInt8} (hd : readR (bt tl 0 : Int) ((tl.drop 5).take (bt tl 4)) = some d) :
    GoR pk many R e (tl.drop (5 + bt tl 4)) nm (Q ++ [(s, (bt tl 0 : Int), ((rdN ((tl.drop 1).take 3) : Nat) : Int), d)]) := by
  obtain ⟨h1, h2, h3, hr⟩ := g
  obtain ⟨n, hn⟩ : ∃ n, many - Q.length = n + 1 := ⟨many - Q.length - 1, by omega⟩
  rw [hn, recsM_step, ht] at hr
  simp only [if_neg hs, hd] at hr
  refine ⟨by simp; omega, h2, fun x hx => ?_, ?_⟩
  · rcases List.mem_append.1 hx with hx | hx
    · exact h3 x hx
    · have hx' := List.mem_singleton.1 hx
      subst hx'
      exact ⟨by have := take_len ht; show s.length ≤ 10000; omega, readR_len hd⟩
  · rw [hr, List.length_append, show many - (Q.length + [(s, (bt tl 0 : Int), ((rdN ((tl.drop 1).take 3) : Nat) : Int), d)].length) = n by simp; omega]
    rw [Option.map_map]
    congr 1
    funext r
    simp
end
end Go.Proofs.YtphhgjdpfcmpgaaGreatDoor

namespace Go.Proofs.YtphhgjdpfcmpgaaGreatDoor
open Go.RowKit

/-- A message that is being read, as it lies in memory. -/
structure RdI (w0 : World) (mi : Int) (rp ct : Bool) (cd ty : Int) (an : Nat) (W : World) (nm : List UInt8) (Q : List (List UInt8 × Int × Int × List UInt8)) (v6 v7 : Value) : Prop where
  msg : W.heap[w0.heap.size + 1]? = some (.cells #[.int .i64 mi, .bool rp, .bool ct, .int .i64 cd, .string ⟨nm.toArray⟩, .int .i64 ty, v6, v7] 30)
  res : W.heap[w0.heap.size]? = some (.cells #[.int .i64 0, .bool false, .bool false, .int .i64 0, .string ⟨#[]⟩, .int .i64 0, .slice none 0 0, .slice none 0 0] 30)
  below : Below w0.heap.size w0 W
  big : w0.heap.size + 2 ≤ W.heap.size
  own6 : W.ownsRow (w0.heap.size + 2) 51 4 v6 (Q.take an).length (rcells (Q.take an))
  own7 : W.ownsRow (w0.heap.size + 2) 51 4 v7 (Q.drop an).length (rcells (Q.drop an))
  ap : ∀ g, v6.ownBlock = some g → v7.ownBlock ≠ some g
section
variable {w0 : World} {mi : Int} {rp ct : Bool} {cd ty : Int} {an : Nat} {W W2 : World} {nm : List UInt8} {Q : List (List UInt8 × Int × Int × List UInt8)} {v6 v7 : Value}
theorem RdI.kept (h : RdI w0 mi rp ct cd ty an W nm Q v6 v7) (hb : Below W.heap.size W W2) : RdI w0 mi rp ct cd ty an W2 nm Q v6 v7 :=
  ⟨(hb.block _ (by have := h.big; omega)).trans h.msg, (hb.block _ (by have := h.big; omega)).trans h.res, h.below.trans (hb.mono h.below.size), Nat.le_trans h.big hb.size, own_below h.own6 hb, own_below h.own7 hb, h.ap⟩
theorem own_set {base g k n : Nat} {e : TypeId} {v u : Value} {xs : List Value} (h : W.ownsRow base e 4 v n xs) (hg : g < base) : (W.setCell ⟨g, k, none⟩ u).ownsRow base e 4 v n xs :=
  h.kept (grown_set (grown_refl W _)) (.inr (fun hc => by have := (h.lt g hc).1; omega))
theorem RdI.name (h : RdI w0 mi rp ct cd ty an W nm Q v6 v7) (nm2 : List UInt8) : RdI w0 mi rp ct cd ty an (W.setCell ⟨w0.heap.size + 1, 4, none⟩ (.string ⟨nm2.toArray⟩)) nm2 Q v6 v7 := by
  have K : Kpt W (W.setCell ⟨w0.heap.size + 1, 4, none⟩ (.string ⟨nm2.toArray⟩)) (fun k => k = w0.heap.size + 1) := kpt_set _ _ _ _ rfl
  have hz := h.big
  refine ⟨?_, (K.block _ (by omega) (by omega)).trans h.res, h.below.trans (K.below h.below.size (fun j hj => by omega)), Nat.le_trans hz K.size, own_set h.own6 (by omega), own_set h.own7 (by omega), h.ap⟩
  have e1 := heap_setCell_same _ _ 4 _ _ (.string ⟨nm2.toArray⟩) h.msg
  exact e1.trans (by rfl)
theorem RdI.ans (h : RdI w0 mi rp ct cd ty an W nm Q v6 v7) (o : Obj) {w' : World} {u : Value} (x : List UInt8 × Int × Int × List UInt8) (hQ : Q.length < an) (hown : w'.ownsRow (w0.heap.size + 2) 51 4 u ((Q.take an).length + 1) (rcells (Q.take an) ++ rcs x))
    (hg : (W.alloc o).grownBy w' v6.ownBlock) (hu : u.ownBlock = v6.ownBlock ∨ u.ownBlock = some (W.alloc o).heap.size) : RdI w0 mi rp ct cd ty an (w'.setCell ⟨w0.heap.size + 1, 6, none⟩ u) nm (Q ++ [x]) u v7 := by
  have hz := h.big
  have K0 : Kpt W w' (fun k => v6.ownBlock = some k) := (kpt_alloc W o _).trans (grown_kpt hg)
  have K : Kpt W (w'.setCell ⟨w0.heap.size + 1, 6, none⟩ u) (fun k => v6.ownBlock = some k ∨ k = w0.heap.size + 1) := (K0.mono (fun k _ hk => .inl hk)).trans (kpt_set _ _ _ _ (.inr rfl))
  have hl : ∀ k, v6.ownBlock = some k → w0.heap.size + 2 ≤ k ∧ k < W.heap.size := fun k hk => h.own6.lt k hk
  have hlow : ∀ k, (v6.ownBlock = some k ∨ k = w0.heap.size + 1) → w0.heap.size + 1 ≤ k := fun k hk => hk.elim (fun h => by have := hl k h; omega) (fun h => by omega)
  have eT : (Q ++ [x]).take an = Q.take an ++ [x] := by rw [List.take_append, List.take_of_length_le (by omega : Q.length ≤ an), List.take_of_length_le (by simp; omega)]
  have eD : (Q ++ [x]).drop an = Q.drop an := by rw [List.drop_of_length_le (by simp; omega), List.drop_of_length_le (by omega)]
  refine ⟨?_, (K.block _ (by omega) (fun hk => by have := hlow _ hk; omega)).trans h.res, h.below.trans (K.below h.below.size (fun j hj hk => by have := hlow _ hk; omega)), Nat.le_trans hz K.size, ?_, ?_, ?_⟩
  · have e0 := (K0.block (w0.heap.size + 1) (by omega) (fun hk => by have := hl _ hk; omega)).trans h.msg
    have e1 := heap_setCell_same _ _ 6 _ _ u e0
    exact e1.trans (by rfl)
  · rw [eT, List.length_append, rcells_app]
    exact own_set (by simpa [rcells] using hown) (by omega)
  · rw [eD]
    exact own_set ((h.own7.alloc o).kept hg (by
      cases hc : v7.ownBlock with
      | none => exact .inl rfl
      | some g => exact .inr (fun e => h.ap g e.symm hc))) (by omega)
  · intro g h1 h2
    rcases hu with hu | hu
    · exact h.ap g (hu ▸ h1) h2
    · rw [hu] at h1
      have := (h.own7.lt g h2).2
      simp at h1; omega
theorem RdI.auth (h : RdI w0 mi rp ct cd ty an W nm Q v6 v7) (o : Obj) {w' : World} {u : Value} (x : List UInt8 × Int × Int × List UInt8) (hQ : an ≤ Q.length) (hown : w'.ownsRow (w0.heap.size + 2) 51 4 u ((Q.drop an).length + 1) (rcells (Q.drop an) ++ rcs x))
    (hg : (W.alloc o).grownBy w' v7.ownBlock) (hu : u.ownBlock = v7.ownBlock ∨ u.ownBlock = some (W.alloc o).heap.size) : RdI w0 mi rp ct cd ty an (w'.setCell ⟨w0.heap.size + 1, 7, none⟩ u) nm (Q ++ [x]) v6 u := by
  have hz := h.big
  have K0 : Kpt W w' (fun k => v7.ownBlock = some k) := (kpt_alloc W o _).trans (grown_kpt hg)
  have K : Kpt W (w'.setCell ⟨w0.heap.size + 1, 7, none⟩ u) (fun k => v7.ownBlock = some k ∨ k = w0.heap.size + 1) := (K0.mono (fun k _ hk => .inl hk)).trans (kpt_set _ _ _ _ (.inr rfl))
  have hl : ∀ k, v7.ownBlock = some k → w0.heap.size + 2 ≤ k ∧ k < W.heap.size := fun k hk => h.own7.lt k hk
  have hlow : ∀ k, (v7.ownBlock = some k ∨ k = w0.heap.size + 1) → w0.heap.size + 1 ≤ k := fun k hk => hk.elim (fun h => by have := hl k h; omega) (fun h => by omega)
  have eT : (Q ++ [x]).take an = Q.take an := by rw [List.take_append_of_le_length hQ]
  have eD : (Q ++ [x]).drop an = Q.drop an ++ [x] := by rw [List.drop_append_of_le_length hQ]
  refine ⟨?_, (K.block _ (by omega) (fun hk => by have := hlow _ hk; omega)).trans h.res, h.below.trans (K.below h.below.size (fun j hj hk => by have := hlow _ hk; omega)), Nat.le_trans hz K.size, ?_, ?_, ?_⟩
  · have e0 := (K0.block (w0.heap.size + 1) (by omega) (fun hk => by have := hl _ hk; omega)).trans h.msg
    have e1 := heap_setCell_same _ _ 7 _ _ u e0
    exact e1.trans (by rfl)
  · rw [eT]
    exact own_set ((h.own6.alloc o).kept hg (by
      cases hc : v6.ownBlock with
      | none => exact .inl rfl
      | some g => exact .inr (fun e => h.ap g hc e.symm))) (by omega)
  · rw [eD, List.length_append, rcells_app]
    exact own_set (by simpa [rcells] using hown) (by omega)
  · intro g h1 h2
    rcases hu with hu | hu
    · exact h.ap g h1 (hu ▸ h2)
    · rw [hu] at h2
      have := (h.own6.lt g h1).2
      simp at h2; omega
end
end Go.Proofs.YtphhgjdpfcmpgaaGreatDoor

namespace Go.Proofs.YtphhgjdpfcmpgaaGreatDoor
open Go.RowKit

theorem and128 {n : Nat} (h : n < 256) : (bits BinOp.and .u8 (n : Int) 128 != 0) = decide (128 ≤ n) := by
  have : ∀ n : Fin 256, (bits BinOp.and .u8 ((n.val : Nat) : Int) 128 != 0) = decide (128 ≤ n.val) := by decide +kernel
  exact this ⟨n, h⟩
theorem and1 {n : Nat} (h : n < 256) : (bits BinOp.and .u8 (n : Int) 1 != 0) = decide (n % 2 = 1) := by
  have : ∀ n : Fin 256, (bits BinOp.and .u8 ((n.val : Nat) : Int) 1 != 0) = decide (n.val % 2 = 1) := by decide +kernel
  exact this ⟨n, h⟩
theorem ext_list (s : ByteArray) (a c : Nat) : (s.extract a c).data.toList = (s.data.toList.drop a).take (c - a) := by
  rw [ByteArray.data_extract, Array.toList_extract, List.extract_eq_take_drop]
theorem news_one (w : World) (x : List UInt8 × Int × Int × List UInt8) (t : TypeId) (b : Nat) (e : b = w.heap.size) : ∀ j u, (rcs x)[j]? = some u → (w.alloc (.cells #[.string ⟨x.1.toArray⟩, .int .i64 x.2.1, .int .i64 x.2.2.1, .string ⟨x.2.2.2.toArray⟩] t)).cell? ((⟨b, 0, none⟩ : Addr).add j) = some u := by
  subst e
  have h := rows_news (w := w.alloc (.cells #[.string ⟨x.1.toArray⟩, .int .i64 x.2.1, .int .i64 x.2.2.1, .string ⟨x.2.2.2.toArray⟩] t)) (b := w.heap.size) (o := 0) (L := [x]) (fun j hj => by
    obtain rfl : j = 0 := by simpa using hj
    unfold RecAt
    simp)
  simpa [rcells] using h
/-- What ReadMessage tells. -/
def RdRes (w' : World) (b : List UInt8) (e : Ending) : Prop :=
  (readM b = none → MRes w' false 0 false false 0 ⟨#[]⟩ 0 [] [] e) ∧ ∀ nm L, readM b = some (nm, L) → MRes w' true ((rdN (b.take 2) : Nat) : Int) (rpM b) (ctM b) (bt b 3 : Int) ⟨nm.toArray⟩ (tyM b : Int) (L.take (bt b 4)) (L.drop (bt b 4)) e
theorem rd_no {w' : World} {b : List UInt8} (h : readM b = none) : RdRes w' b (.returned (.tuple #[noMsg, .bool false])) :=
  ⟨fun _ => mres_no _, fun nm L h2 => by rw [h] at h2; cases h2⟩

set_option maxRecDepth 20000 in
set_option maxHeartbeats 32000000 in
theorem sReadMessage_any (s : ByteArray) (w : World) (hs : s.size ≤ 1048576) :
    Calls Tryz.prog 10 #[.string s] w fun e w' => RdRes w' s.data.toList e ∧ Below w.heap.size w w' := by
  by_cases hh : 10 ≤ s.size ∧ s.size ≤ 4000
  · have hs2 : 2 < s.size := by omega
    have hs3 : 3 < s.size := by omega
    have hs4 : 4 < s.size := by omega
    have hs5 : 5 < s.size := by omega
    obtain ⟨b, hb⟩ : ∃ b, b = s.data.toList := ⟨_, rfl⟩
    have HX2 : bt s.data.toList 2 = s[2].toNat := bt_get s 2 (by omega)
    have HX3 : bt s.data.toList 3 = s[3].toNat := bt_get s 3 (by omega)
    have HX4 : bt s.data.toList 4 = s[4].toNat := bt_get s 4 (by omega)
    have HX5 : bt s.data.toList 5 = s[5].toNat := bt_get s 5 (by omega)
    have HE1 : rdN (s.extract 0 2).data.toList = rdN (b.take 2) := by rw [ext_list, hb]; simp
    have HE2 : rdN (s.extract 6 8).data.toList = rdN ((b.drop 6).take 2) := by rw [ext_list, hb]
    rw [← hb] at HX2 HX3 HX4 HX5
    have hz : b.length = s.size := by rw [hb]; exact data_len s
    have h256 := bt_lt b 2
    have h4 := bt_lt b 4
    have h5 := bt_lt b 5
    have h3 := bt_lt b 3
    have ha1 := and128 h256
    have ha2 := and1 h256
    obtain ⟨mi, hmi⟩ : ∃ mi, mi = rdN (b.take 2) := ⟨_, rfl⟩
    obtain ⟨sz, hsz⟩ : ∃ sz, sz = rdN ((b.drop 6).take 2) := ⟨_, rfl⟩
    have hszl : sz < 4294967296 := by rw [hsz]; exact rdN_small (k := 2) (by rw [List.length_take]; omega) (by omega)
    obtain ⟨fl, hfl⟩ : ∃ fl, fl = bt b 2 := ⟨_, rfl⟩
    obtain ⟨cd, hcd⟩ : ∃ cd, cd = bt b 3 := ⟨_, rfl⟩
    obtain ⟨an, han⟩ : ∃ an, an = bt b 4 := ⟨_, rfl⟩
    obtain ⟨ath, hath⟩ : ∃ ath, ath = bt b 5 := ⟨_, rfl⟩
    rw [← hfl] at HX2 ha1 ha2 h256
    rw [← hcd] at HX3 h3
    rw [← han] at HX4 h4
    rw [← hath] at HX5 h5
    have HRP : Hid (rpM b = decide (128 ≤ fl)) := by unfold rpM; rw [← hfl]; exact rfl
    have HCT : Hid (ctM b = decide (fl % 2 = 1)) := by unfold ctM; rw [← hfl]; exact rfl
    have HL1 : Hid (∀ W, Calls Tryz.prog 30 #[.string (s.extract 0 2)] W fun e w' => e = .returned (.int .i64 ((mi : Nat) : Int)) ∧ w' = W) := fun W => by
      have h := l3Read_any (s.extract 0 2) W (by simp [ByteArray.size_extract]; omega)
      rw [HE1, ← hmi] at h; exact h
    have HL2 : Hid (∀ W, Calls Tryz.prog 30 #[.string (s.extract 6 8)] W fun e w' => e = .returned (.int .i64 ((sz : Nat) : Int)) ∧ w' = W) := fun W => by
      have h := l3Read_any (s.extract 6 8) W (by simp [ByteArray.size_extract]; omega)
      rw [HE2, ← hsz] at h; exact h
    have i2 : s[2].toNat = fl := HX2.symm
    have i3 : s[3].toNat = cd := HX3.symm
    have i4 : s[4].toNat = an := HX4.symm
    have i5 : s[5].toNat = ath := HX5.symm
    have hin : (decide ((10 : Int) ≤ (s.size : Int)) && decide ((s.size : Int) ≤ 4000)) = true := by simp; omega
    obtain ⟨W0, hW0⟩ : ∃ W0, W0 = w.alloc (.cells #[.int .i64 0, .bool false, .bool false, .int .i64 0, .string ⟨#[]⟩, .int .i64 0, .slice none 0 0, .slice none 0 0] 30) := ⟨_, rfl⟩
    have HW0 : Hid (w.alloc (.cells #[.int .i64 0, .bool false, .bool false, .int .i64 0, .string ⟨#[]⟩, .int .i64 0, .slice none 0 0, .slice none 0 0] 30) = W0) := hW0.symm
    have HZ0 : Hid (W0.heap[w.heap.size]? = some (.cells #[.int .i64 0, .bool false, .bool false, .int .i64 0, .string ⟨#[]⟩, .int .i64 0, .slice none 0 0, .slice none 0 0] 30) ∧ Below w.heap.size w W0 ∧ W0.heap.size = w.heap.size + 1) := by rw [hW0]; exact ⟨blk_new _ _, (Below.refl w.heap.size w).alloc (Nat.le_refl _) _, by simp⟩
    have hbz : Below W0.heap.size W0 W0 := Below.refl _ _
    have hbd : Below W0.heap.size W0 W0.drew := (Below.refl _ _).drew
    have HMI : Hid (mi = rdN (b.take 2)) := hmi
    have HSZ : Hid (sz = rdN ((b.drop 6).take 2)) := hsz
    have HFL : Hid (fl = bt b 2) := hfl
    have HCD : Hid (cd = bt b 3) := hcd
    have HAN : Hid (an = bt b 4) := han
    have HAT : Hid (ath = bt b 5) := hath
    have HBB : Hid (b = s.data.toList) := hb
    have j2 : (2 : Int) ≤ (s.size : Int) := by omega
    have j3 : (3 : Int) ≤ (s.size : Int) := by omega
    have j8 : (8 : Int) ≤ (s.size : Int) := by omega
    have k2 : (2 : Int) < (s.size : Int) := by omega
    have k3 : (3 : Int) < (s.size : Int) := by omega
    have k4 : (4 : Int) < (s.size : Int) := by omega
    have k5 : (5 : Int) < (s.size : Int) := by omega
    have HBL : Hid (b.length = s.size) := hz
    have wcd : IntKind.i64.wrap (cd : Int) = (cd : Int) := wrap_small _ (by omega) (by omega)
    have wan : IntKind.i64.wrap (an : Int) = (an : Int) := wrap_small _ (by omega) (by omega)
    have wat : IntKind.i64.wrap (ath : Int) = (ath : Int) := wrap_small _ (by omega) (by omega)
    have waa : IntKind.i64.wrap ((an : Int) + (ath : Int)) = (an : Int) + (ath : Int) := wrap_small _ (by omega) (by omega)
    clear HX2 HX3 HX4 HX5 HE1 HE2 hW0 hmi hsz hfl hcd han hath hb hz
    go_enter Tryz.func10, Tryz.ntmps10
    go_wp2_with fail
    refine (l1In_any (s.size : Int) 10 4000 _).mono ?_
    rintro e w1 ⟨rfl, rfl⟩
    rw [hin]
    go_wp2_with fail
    rw [HW0.out]
    refine' (fun (key : Hid _) => ?_) ?_
    rotate_left
    · refine wp_region_noPanic ?_
      refine wp_region_held_drew (S := fun W => Below W0.heap.size W0 W) (by kernel_rfl) hbd (fun hHeld => ?_)
      refine wpAnyH_take (i := 0) (v := .string s) rfl (by kernel_rfl) (by kernel_rfl) (by kernel_rfl) (fun _ _ _ h => h) (Or.inl ⟨by rfl, ?_⟩) (by assumption) ?_
      · intro W hSW
        go_simp
        all_goals (try omega)
      simp only [Act.put]
      refine wpAnyH_take (i := 1) (v := .string (s.extract 0 2)) rfl (by kernel_rfl) (by kernel_rfl) (by kernel_rfl) (fun _ _ _ h => h) (Or.inl ⟨by rfl, ?_⟩) (by assumption) ?_
      · intro W hSW
        go_simp
        all_goals (try omega)
      simp only [Act.put]
      refine wpAnyH_take (i := 3) (v := .string s) rfl (by kernel_rfl) (by kernel_rfl) (by kernel_rfl) (fun _ _ _ h => h) (Or.inl ⟨by rfl, ?_⟩) (by assumption) ?_
      · intro W hSW
        go_simp
        all_goals (try omega)
      simp only [Act.put]
      refine wpAnyH_take (i := 4) (v := .int .u8 (fl : Int)) rfl (by kernel_rfl) (by kernel_rfl) (by kernel_rfl) (fun _ _ _ h => h) (Or.inl ⟨by rfl, ?_⟩) (by assumption) ?_
      · intro W hSW
        go_simp
        all_goals (try omega)
      simp only [Act.put]
      refine wpAnyH_take (i := 5) (v := .int .u8 (bits BinOp.and .u8 (fl : Int) 128)) rfl (by kernel_rfl) (by kernel_rfl) (by kernel_rfl) (fun _ _ _ h => h) (Or.inl ⟨by rfl, ?_⟩) (by assumption) ?_
      · intro W hSW
        go_simp
        all_goals (try omega)
      simp only [Act.put]
      refine wpAnyH_take (i := 6) (v := .bool (decide (128 ≤ fl))) rfl (by kernel_rfl) (by kernel_rfl) (by kernel_rfl) (fun _ _ _ h => h) (Or.inl ⟨by rfl, ?_⟩) (by assumption) ?_
      · intro W hSW
        go_simp
        all_goals (try omega)
      simp only [Act.put]
      refine wpAnyH_take (i := 7) (v := .string s) rfl (by kernel_rfl) (by kernel_rfl) (by kernel_rfl) (fun _ _ _ h => h) (Or.inl ⟨by rfl, ?_⟩) (by assumption) ?_
      · intro W hSW
        go_simp
        all_goals (try omega)
      simp only [Act.put]
      refine wpAnyH_take (i := 8) (v := .int .u8 (fl : Int)) rfl (by kernel_rfl) (by kernel_rfl) (by kernel_rfl) (fun _ _ _ h => h) (Or.inl ⟨by rfl, ?_⟩) (by assumption) ?_
      · intro W hSW
        go_simp
        all_goals (try omega)
      simp only [Act.put]
      refine wpAnyH_take (i := 9) (v := .int .u8 (bits BinOp.and .u8 (fl : Int) 1)) rfl (by kernel_rfl) (by kernel_rfl) (by kernel_rfl) (fun _ _ _ h => h) (Or.inl ⟨by rfl, ?_⟩) (by assumption) ?_
      · intro W hSW
        go_simp
        all_goals (try omega)
      simp only [Act.put]
      refine wpAnyH_take (i := 10) (v := .bool (decide (fl % 2 = 1))) rfl (by kernel_rfl) (by kernel_rfl) (by kernel_rfl) (fun _ _ _ h => h) (Or.inl ⟨by rfl, ?_⟩) (by assumption) ?_
      · intro W hSW
        go_simp
        all_goals (try omega)
      simp only [Act.put]
      refine wpAnyH_take (i := 11) (v := .string s) rfl (by kernel_rfl) (by kernel_rfl) (by kernel_rfl) (fun _ _ _ h => h) (Or.inl ⟨by rfl, ?_⟩) (by assumption) ?_
      · intro W hSW
        go_simp
        all_goals (try omega)
      simp only [Act.put]
      refine wpAnyH_take (i := 12) (v := .int .u8 (cd : Int)) rfl (by kernel_rfl) (by kernel_rfl) (by kernel_rfl) (fun _ _ _ h => h) (Or.inl ⟨by rfl, ?_⟩) (by assumption) ?_
      · intro W hSW
        go_simp
        all_goals (try omega)
      simp only [Act.put]
      refine wpAnyH_take (i := 13) (v := .int .i64 (cd : Int)) rfl (by kernel_rfl) (by kernel_rfl) (by kernel_rfl) (fun _ _ _ h => h) (Or.inl ⟨by rfl, ?_⟩) (by assumption) ?_
      · intro W hSW
        go_simp
        all_goals (try omega)
      simp only [Act.put]
      refine wpAnyH_ready (rs := [2, 15]) (by kernel_rfl) (by simp) ?_
      refine AllReadyH.cons rfl (fun K hK => ?_) (AllReadyH.cons rfl (fun K hK => ?_) AllReadyH.nil)
      · rw [if_pos (by rfl)]
        go_simp
        refine (HL1.out _).mono ?_
        rintro e w2 ⟨rfl, rfl⟩
        go_simp
        refine hK.out _ _ hbd (fun hS => ?_)
        clear hK
        refine wpAnyH_take (i := 14) (v := .agg #[.int .i64 (mi : Int), .bool (decide (128 ≤ fl)), .bool (decide (fl % 2 = 1)), .int .i64 (cd : Int), .string ⟨#[]⟩, .int .i64 0, .slice none 0 0, .slice none 0 0]) rfl (by kernel_rfl) (by kernel_rfl) (by kernel_rfl) (fun _ _ _ h => h) (Or.inl ⟨by rfl, ?_⟩) (by assumption) ?_
        · intro W hSW
          go_simp
          all_goals (try omega)
        simp only [Act.put]
        refine wpAnyH_ready (rs := [15]) (by kernel_rfl) (by simp) ?_
        refine AllReadyH.cons rfl (fun K hK => ?_) AllReadyH.nil
        rw [if_pos (by rfl)]
        go_simp
        refine hK.out _ _ ((hbz.alloc (Nat.le_refl _) _).drew) (fun hS2 => ?_)
        clear hK
        refine wpAnyH_ready (rs := [16]) (by kernel_rfl) (by simp) ?_
        refine AllReadyH.cons rfl (fun K hK => ?_) AllReadyH.nil
        rw [if_pos (by rfl)]
        go_simp
        refine hK.out _ _ ((hbz.alloc (Nat.le_refl _) _).drew) (fun hS3 => ?_)
        clear hK
        refine wpAnyH_done (by kernel_rfl) ?_ _
        refine NoPanic.normal ?_
        exact key.out
      · rw [if_pos (by rfl)]
        go_simp
        refine hK.out _ _ ((hbz.alloc (Nat.le_refl _) _).drew) (fun hS2 => ?_)
        clear hK
        refine wpAnyH_ready (rs := [2]) (by kernel_rfl) (by simp) ?_
        refine AllReadyH.cons rfl (fun K hK => ?_) AllReadyH.nil
        rw [if_pos (by rfl)]
        go_simp
        refine (HL1.out _).mono ?_
        rintro e w2 ⟨rfl, rfl⟩
        go_simp
        refine hK.out _ _ ((hbz.alloc (Nat.le_refl _) _).drew) (fun hS => ?_)
        clear hK
        refine wpAnyH_take (i := 14) (v := .agg #[.int .i64 (mi : Int), .bool (decide (128 ≤ fl)), .bool (decide (fl % 2 = 1)), .int .i64 (cd : Int), .string ⟨#[]⟩, .int .i64 0, .slice none 0 0, .slice none 0 0]) rfl (by kernel_rfl) (by kernel_rfl) (by kernel_rfl) (fun _ _ _ h => h) (Or.inl ⟨by rfl, ?_⟩) (by assumption) ?_
        · intro W hSW
          go_simp
          all_goals (try omega)
        simp only [Act.put]
        refine wpAnyH_ready (rs := [16]) (by kernel_rfl) (by simp) ?_
        refine AllReadyH.cons rfl (fun K hK => ?_) AllReadyH.nil
        rw [if_pos (by rfl)]
        go_simp
        refine hK.out _ _ ((hbz.alloc (Nat.le_refl _) _).drew) (fun hS3 => ?_)
        clear hK
        refine wpAnyH_done (by kernel_rfl) ?_ _
        refine NoPanic.normal ?_
        exact key.out
    unfold Hid
    obtain ⟨W3, hW3⟩ : ∃ W3, W3 = (W0.alloc (.cells #[.int .i64 (mi : Int), .bool (decide (128 ≤ fl)), .bool (decide (fl % 2 = 1)), .int .i64 (cd : Int), .string ⟨#[]⟩, .int .i64 0, .slice none 0 0, .slice none 0 0] 30)).drew := ⟨_, rfl⟩
    rw [← hW3]
    have HM3 : Hid (W3.heap[w.heap.size + 1]? = some (.cells #[.int .i64 (mi : Int), .bool (decide (128 ≤ fl)), .bool (decide (fl % 2 = 1)), .int .i64 (cd : Int), .string ⟨#[]⟩, .int .i64 0, .slice none 0 0, .slice none 0 0] 30)) := by
      rw [hW3, ← HZ0.out.2.2]; exact blk_new _ _
    have HR3 : Hid (W3.heap[w.heap.size]? = some (.cells #[.int .i64 0, .bool false, .bool false, .int .i64 0, .string ⟨#[]⟩, .int .i64 0, .slice none 0 0, .slice none 0 0] 30)) := by
      rw [hW3]; exact ((hbz.alloc (Nat.le_refl _) _).block w.heap.size (by have h := HZ0.out.2.2; omega)).trans HZ0.out.1
    have hbw3 : Below w.heap.size w W3 := by
      have h1 := HZ0.out.2.1
      rw [hW3]; exact h1.trans ((hbz.alloc (Nat.le_refl _) _).drew.mono h1.size)
    have hz3 : w.heap.size + 2 ≤ W3.heap.size := by
      have h1 := HZ0.out.2.2
      rw [hW3]; show _ ≤ (W0.alloc _).heap.size; simp; omega
    rw [HZ0.out.2.2]
    clear hW3 HW0 HZ0 hbz hbd HL1 ha1 ha2 W0
    go_wp2_with fail
    refine (HL2.out _).mono ?_
    rintro e w4 ⟨rfl, rfl⟩
    clear HL2
    by_cases c1 : an ≤ 12
    · by_cases c2 : ath ≤ 12
      · by_cases c3 : 9 + sz ≤ s.size
        · have ht8 : 8 + sz < s.size := by omega
          have HT8 : bt s.data.toList (8 + sz) = s[8 + sz].toNat := bt_get s (8 + sz) ht8
          obtain ⟨tyv, htyv⟩ : ∃ tyv, tyv = bt b (8 + sz) := ⟨_, rfl⟩
          have hty256 : tyv < 256 := by rw [htyv]; exact bt_lt _ _
          have i8 : s[8 + sz].toNat = tyv := by rw [htyv, HBB.out]; exact HT8.symm
          have HTY : Hid (tyv = tyM b) := by rw [htyv]; unfold tyM; rw [← HSZ.out]; exact rfl
          obtain ⟨pk, hpk⟩ : ∃ pk, pk = pkM b := ⟨_, rfl⟩
          obtain ⟨tl0, htl0⟩ : ∃ tl0, tl0 = tlM b := ⟨_, rfl⟩
          have hpx : s.extract 8 (8 + sz) = ⟨pk.toArray⟩ := data_eq (by rw [ext_list, hpk, ← HBB.out]; unfold pkM; rw [← HSZ.out]; congr 1; omega)
          have htx : s.extract (8 + sz + 1) s.size = ⟨tl0.toArray⟩ := data_eq (by
            rw [ext_list, htl0, ← HBB.out]; unfold tlM; rw [← HSZ.out, List.take_of_length_le (by rw [List.length_drop, HBL.out]; omega)]; congr 1; omega)
          have hpl : pk.length = sz := by rw [hpk]; unfold pkM; rw [← HSZ.out, List.length_take, List.length_drop, HBL.out]; omega
          have htl : tl0.length ≤ 4000 := by rw [htl0]; unfold tlM; rw [List.length_drop, HBL.out]; omega
          have HREAD : Hid (readM b = match candM pk tl0 (an + ath) with
              | none => none
              | some (nm, L) => if msgB (mi : Int) (decide (128 ≤ fl)) (decide (fl % 2 = 1)) (cd : Int) nm (tyv : Int) (L.take an) (L.drop an) = true ∧ msgW (mi : Int) (decide (128 ≤ fl)) (decide (fl % 2 = 1)) (cd : Int) nm (tyv : Int) (L.take an) (L.drop an) = b then some (nm, L) else none) := by
            unfold readM
            rw [if_pos (by
              unfold headB
              rw [← HAN.out, ← HAT.out, ← HSZ.out, HBL.out]
              simp only [Bool.and_eq_true, decide_eq_true_eq]
              omega), ← hpk, ← htl0, ← HAN.out, ← HAT.out, ← HMI.out, ← HCD.out, ← HTY.out, HRP.out, HCT.out]
            exact rfl
          have g1 : ¬ (12 : Int) < (an : Int) := by omega
          have g2 : ¬ (12 : Int) < (ath : Int) := by omega
          have g3 : ¬ (s.size : Int) < 8 + (sz : Int) + 1 := by omega
          have ws1 : IntKind.i64.wrap ((an : Int) + (ath : Int) - (an : Int)) = (ath : Int) := by rw [show (an : Int) + (ath : Int) - (an : Int) = (ath : Int) by omega]; exact wat
          have ws2 : IntKind.i64.wrap (8 + (sz : Int)) = 8 + (sz : Int) := wrap_small _ (by omega) (by omega)
          have ws3 : IntKind.i64.wrap (8 + (sz : Int) + 1) = 8 + (sz : Int) + 1 := wrap_small _ (by omega) (by omega)
          have wty : IntKind.i64.wrap (tyv : Int) = (tyv : Int) := wrap_small _ (by omega) (by omega)
          have j9 : 8 + (sz : Int) ≤ (s.size : Int) := by omega
          have j10 : 8 + (sz : Int) + 1 ≤ (s.size : Int) := by omega
          have j11 : 8 + (sz : Int) < (s.size : Int) := by omega
          have t8 : (8 + (sz : Int)).toNat = 8 + sz := by omega
          have t9 : (8 + (sz : Int) + 1).toNat = 8 + sz + 1 := by omega
          obtain ⟨c0, c1, c2, c3, c4, c5, c6, c7⟩ := msg_cells HM3.out
          obtain ⟨f0, f1, f2, f3, f4, f5, f6, f7⟩ := msg_frozen HM3.out
          clear htyv HT8 hpk htl0
          go_wp2_with fail
          have HI0 : Hid (RdI w (mi : Int) (decide (128 ≤ fl)) (decide (fl % 2 = 1)) (cd : Int) (tyv : Int) an (w4.setCell ⟨w.heap.size + 1, 5, none⟩ (.int .i64 (tyv : Int))) [] [] (.slice none 0 0) (.slice none 0 0)) := by
            have K : Kpt w4 (w4.setCell ⟨w.heap.size + 1, 5, none⟩ (.int .i64 (tyv : Int))) (fun k => k = w.heap.size + 1) := kpt_set _ _ _ _ rfl
            refine ⟨?_, (K.block _ (by omega) (by omega)).trans HR3.out, hbw3.trans (K.below hbw3.size (fun j hj => by omega)), Nat.le_trans hz3 K.size, by simpa [rcells] using World.ownsRow_nil _ _ _ _, by simpa [rcells] using World.ownsRow_nil _ _ _ _, fun g hg => by cases hg⟩
            have e1 := heap_setCell_same _ _ 5 _ _ (.int .i64 (tyv : Int)) HM3.out
            exact e1.trans (by rfl)
          obtain ⟨R, hR⟩ : ∃ R, R = candM pk tl0 (an + ath) := ⟨_, rfl⟩
          rw [← hR] at HREAD
          have HRC : Hid (R = candM pk tl0 (an + ath)) := hR
          have HNO : Hid (R = none → readM s.data.toList = none) := fun h => by rw [← HBB.out, HREAD.out, h]
          clear hR c0 c1 c2 c3 c4 c5 c6 c7 f0 f1 f2 f3 f4 f5 f6 f7 HM3 HR3 hbw3 hz3 i2 i3 i4 i5 i8 hs2 hs3 hs4 hs5 ht8 j2 j3 j8 j9 j10 j11 k2 k3 k4 k5 t8 t9 ws1 ws2 ws3 hpx htx hin g1 g2 g3
          go_loopw [9, 10, 11] (fun vtl va vi wr => ∃ (i a : Nat) (tl nm : List UInt8) (Q : List (List UInt8 × Int × Int × List UInt8)) (v6 v7 : Value), vi = .int .i64 (i : Int) ∧ va = .int .i64 (a : Int) ∧ vtl = .string ⟨tl.toArray⟩ ∧ a ≤ 5000 ∧ tl.length ≤ 4000 ∧ i ≤ 25 ∧ Hid (RdI w (mi : Int) (decide (128 ≤ fl)) (decide (fl % 2 = 1)) (cd : Int) (tyv : Int) an wr nm Q v6 v7) ∧ Hid ((i = 0 ∧ a = 0 ∧ Q = [] ∧ tl = tl0) ∨ (i = Q.length + 1 ∧ GoR pk (an + ath) R a tl nm Q))) (fun _ _ i _ => 30 - (intOf i).toNat)
          case atStart => exact ⟨0, 0, tl0, [], [], _, _, rfl, rfl, rfl, by omega, htl, by omega, HI0, .inl ⟨rfl, rfl, rfl, rfl⟩⟩
          case round =>
            obtain ⟨i, a, tl, nm, Q, v6, v7, rfl, rfl, rfl, ha5, htl4, hi25, HI, HG⟩ := hrel
            by_cases hi : i ≤ an + ath
            · have hii : (i : Int) ≤ (an : Int) + (ath : Int) := by omega
              by_cases hap : a < pk.length
              · have hai : ¬ (pk.length : Int) ≤ (a : Int) := by omega
                have HTK : Hid (Calls Tryz.prog 31 #[.string ⟨pk.toArray⟩, .int .i64 (a : Int)] wr fun e w' => TkSpec wr (takeN pk a) e w') := l2Take_any ⟨pk.toArray⟩ a wr (by rw [size_list]; omega) (by omega)
                go_wp2_with fail
                refine HTK.out.mono ?_
                rintro e w5 ⟨htn, hts, hb5⟩
                cases hT : takeN pk a with
                | none =>
                  obtain ⟨x, n, v, rfl⟩ := htn hT
                  have HN : Hid (readM s.data.toList = none) := HNO.out (by
                    rcases HG.out with ⟨_, h2, _, _⟩ | ⟨h1, h2⟩
                    · rw [h2] at hT; exact goR_first HRC.out hT
                    · exact goR_no h2 (by omega) hT)
                  have HIX : Hid (RdI w (mi : Int) (decide (128 ≤ fl)) (decide (fl % 2 = 1)) (cd : Int) (tyv : Int) an w5 nm Q v6 v7) := HI.out.kept hb5
                  clear htn hts hT hb5 HTK
                  obtain ⟨d0, d1, d2, d3, d4, d5, d6, d7⟩ := msg_cells HIX.out.res
                  obtain ⟨f0, f1, f2, f3, f4, f5, f6, f7⟩ := msg_frozen HIX.out.res
                  go_wp2_with fail
                  (try simp only [Exit.inBlock, Exit.then])
                  refine bodyPost_ret (results_row_tmp rfl _ _ w.heap.size 30 #[.int .i64 0, .bool false, .bool false, .int .i64 0, .string ⟨#[]⟩, .int .i64 0, .slice none 0 0, .slice none 0 0] (0, 0) _ (.bool false) rfl rfl ?_ Tryz.underlying30 rfl (by kernel_rfl)) rfl ⟨rd_no HN.out, ?_⟩
                  · exact put8_heap HIX.out.res
                  · exact put8_below HIX.out.below (Nat.le_refl _) _ _ _ _ _ _ _ _
                | some y =>
                  obtain ⟨nm2, en, pl⟩ := y
                  obtain ⟨vpl, rfl, _⟩ := hts nm2 en pl hT
                  have HT2 : Hid (takeN pk a = some (nm2, en, pl)) := hT
                  have hen : en ≤ 4000 := by have h := (take_bounds hT).2.1; omega
                  have HI5 : Hid (RdI w (mi : Int) (decide (128 ≤ fl)) (decide (fl % 2 = 1)) (cd : Int) (tyv : Int) an w5 nm Q v6 v7) := HI.out.kept hb5
                  clear htn hts hT hb5 HTK HI
                  by_cases hi0 : i = 0
                  · subst hi0
                    have HG2 : Hid (GoR pk (an + ath) R en tl nm2 [] ∧ Q = []) := by
                      rcases HG.out with ⟨_, h2, h3, h4⟩ | ⟨h1, _⟩
                      · have h5 := HT2.out
                        rw [h2] at h5
                        exact ⟨by rw [h4]; exact goR_start HRC.out h5, h3⟩
                      · omega
                    have HI6 : Hid (RdI w (mi : Int) (decide (128 ≤ fl)) (decide (fl % 2 = 1)) (cd : Int) (tyv : Int) an (w5.setCell ⟨w.heap.size + 1, 4, none⟩ (.string ⟨nm2.toArray⟩)) nm2 Q v6 v7) := HI5.out.name nm2
                    obtain ⟨c0, c1, c2, c3, c4, c5, c6, c7⟩ := msg_cells HI5.out.msg
                    obtain ⟨f0, f1, f2, f3, f4, f5, f6, f7⟩ := msg_frozen HI5.out.msg
                    go_wp2_with fail
                    go_roundw
                    case rel => exact ⟨1, en, tl, nm2, Q, v6, v7, by go_num, rfl, rfl, by omega, htl4, by omega, HI6, .inr ⟨by rw [HG2.out.2]; rfl, by rw [HG2.out.2]; exact HG2.out.1⟩⟩
                    case measure => simp [intOf]
                  · have HGR : Hid (i = Q.length + 1 ∧ GoR pk (an + ath) R a tl nm Q) := by
                      rcases HG.out with ⟨h1, _⟩ | h
                      · exact absurd h1 hi0
                      · exact h
                    have hi1 : ¬ (i : Int) = 0 := by omega
                    have hi2 : ((i : Int) == 0) = false := by simp; omega
                    obtain ⟨T, hTT⟩ : ∃ T : ByteArray, T = ⟨tl.toArray⟩ := ⟨_, rfl⟩
                    have HTT : Hid (T.data.toList = tl) := by rw [hTT]; exact rfl
                    have HTZ : Hid (T.size = tl.length) := by rw [hTT]; exact size_list _
                    rw [← hTT]
                    clear hTT
                    by_cases t5 : T.size < 5
                    · have HN : Hid (readM s.data.toList = none) := HNO.out (goR_short HGR.out.2 (by have h := HGR.out.1; omega) HT2.out (.inl (by have h := HTZ.out; omega)))
                      have t5i : (T.size : Int) < 5 := by omega
                      obtain ⟨d0, d1, d2, d3, d4, d5, d6, d7⟩ := msg_cells HI5.out.res
                      obtain ⟨f0, f1, f2, f3, f4, f5, f6, f7⟩ := msg_frozen HI5.out.res
                      go_wp2_with fail
                      (try simp only [Exit.inBlock, Exit.then])
                      refine bodyPost_ret (results_row_tmp rfl _ _ w.heap.size 30 #[.int .i64 0, .bool false, .bool false, .int .i64 0, .string ⟨#[]⟩, .int .i64 0, .slice none 0 0, .slice none 0 0] (0, 0) _ (.bool false) rfl rfl ?_ Tryz.underlying30 rfl (by kernel_rfl)) rfl ⟨rd_no HN.out, ?_⟩
                      · exact put8_heap HI5.out.res
                      · exact put8_below HI5.out.below (Nat.le_refl _) _ _ _ _ _ _ _ _
                    · have t5i : ¬ (T.size : Int) < 5 := by omega
                      have l4 : 4 < T.size := by omega
                      have l0 : 0 < T.size := by omega
                      have z4 : (4 : Int) < (T.size : Int) := by omega
                      have z5 : (5 : Int) ≤ (T.size : Int) := by omega
                      obtain ⟨d, hd⟩ : ∃ d, d = bt tl 4 := ⟨_, rfl⟩
                      have y4 : T[4].toNat = d := by rw [hd, ← HTT.out]; exact (bt_get T 4 l4).symm
                      have hd256 : d < 256 := by rw [hd]; exact bt_lt _ _
                      have HD4 : Hid (d = bt tl 4) := hd
                      have wd : IntKind.i64.wrap (d : Int) = (d : Int) := wrap_small _ (by omega) (by omega)
                      have wd5 : IntKind.i64.wrap (5 + (d : Int)) = 5 + (d : Int) := wrap_small _ (by omega) (by omega)
                      clear hd
                      by_cases t6 : T.size < 5 + d
                      · have HN : Hid (readM s.data.toList = none) := HNO.out (goR_short HGR.out.2 (by have h := HGR.out.1; omega) HT2.out (.inr (by rw [← HD4.out]; have h := HTZ.out; omega)))
                        have t6i : (T.size : Int) < 5 + (d : Int) := by omega
                        obtain ⟨d0, d1, d2, d3, d4, d5, d6, d7⟩ := msg_cells HI5.out.res
                        obtain ⟨f0, f1, f2, f3, f4, f5, f6, f7⟩ := msg_frozen HI5.out.res
                        go_wp2_with fail
                        (try simp only [Exit.inBlock, Exit.then])
                        refine bodyPost_ret (results_row_tmp rfl _ _ w.heap.size 30 #[.int .i64 0, .bool false, .bool false, .int .i64 0, .string ⟨#[]⟩, .int .i64 0, .slice none 0 0, .slice none 0 0] (0, 0) _ (.bool false) rfl rfl ?_ Tryz.underlying30 rfl (by kernel_rfl)) rfl ⟨rd_no HN.out, ?_⟩
                        · exact put8_heap HI5.out.res
                        · exact put8_below HI5.out.below (Nat.le_refl _) _ _ _ _ _ _ _ _
                      · have t6i : ¬ (T.size : Int) < 5 + (d : Int) := by omega
                        have l04 : 0 < T.size := by omega
                        have z1 : (1 : Int) ≤ (T.size : Int) := by omega
                        have z44 : (4 : Int) ≤ (T.size : Int) := by omega
                        obtain ⟨ty0, hty0⟩ : ∃ ty0, ty0 = bt tl 0 := ⟨_, rfl⟩
                        have y0 : T[0].toNat = ty0 := by rw [hty0, ← HTT.out]; exact (bt_get T 0 l04).symm
                        have hy256 : ty0 < 256 := by rw [hty0]; exact bt_lt _ _
                        have HTY0 : Hid (ty0 = bt tl 0) := hty0
                        have wty0 : IntKind.i64.wrap (ty0 : Int) = (ty0 : Int) := wrap_small _ (by omega) (by omega)
                        obtain ⟨tt0, htt0⟩ : ∃ tt0, tt0 = rdN ((tl.drop 1).take 3) := ⟨_, rfl⟩
                        have HTT0 : Hid (tt0 = rdN ((tl.drop 1).take 3)) := htt0
                        have htt32 : tt0 < 4294967296 := by rw [htt0]; exact rdN_small (k := 3) (by rw [List.length_take]; omega) (by omega)
                        have HL3 : Hid (∀ W, Calls Tryz.prog 30 #[.string (T.extract 1 4)] W fun e w' => e = .returned (.int .i64 ((tt0 : Nat) : Int)) ∧ w' = W) := fun W => by
                          have h := l3Read_any (T.extract 1 4) W (by simp [ByteArray.size_extract]; omega)
                          rw [ext_list, HTT.out, ← htt0] at h; exact h
                        have hbz5 : Below w5.heap.size w5 w5 := Below.refl _ _
                        have hbd5 : Below w5.heap.size w5 w5.drew := (Below.refl _ _).drew
                        clear hty0 htt0
                        go_wp2_with fail
                        refine' (fun (key : Hid _) => ?_) ?_
                        rotate_left
                        · refine wp_region_noPanic ?_
                          refine wp_region_held_drew (S := fun W => Below w5.heap.size w5 W) (by kernel_rfl) hbd5 (fun hHeld => ?_)
                          refine wpAnyH_take (i := 0) (v := .string ⟨nm2.toArray⟩) rfl (by kernel_rfl) (by kernel_rfl) (by kernel_rfl) (fun _ _ _ h => h) (Or.inl ⟨by rfl, ?_⟩) (by assumption) ?_
                          · intro W hSW
                            go_simp
                            all_goals (try omega)
                          simp only [Act.put]
                          refine wpAnyH_take (i := 1) (v := .string T) rfl (by kernel_rfl) (by kernel_rfl) (by kernel_rfl) (fun _ _ _ h => h) (Or.inl ⟨by rfl, ?_⟩) (by assumption) ?_
                          · intro W hSW
                            go_simp
                            all_goals (try omega)
                          simp only [Act.put]
                          refine wpAnyH_take (i := 2) (v := .int .u8 (ty0 : Int)) rfl (by kernel_rfl) (by kernel_rfl) (by kernel_rfl) (fun _ _ _ h => h) (Or.inl ⟨by rfl, ?_⟩) (by assumption) ?_
                          · intro W hSW
                            go_simp
                            all_goals (try omega)
                          simp only [Act.put]
                          refine wpAnyH_take (i := 3) (v := .int .i64 (ty0 : Int)) rfl (by kernel_rfl) (by kernel_rfl) (by kernel_rfl) (fun _ _ _ h => h) (Or.inl ⟨by rfl, ?_⟩) (by assumption) ?_
                          · intro W hSW
                            go_simp
                            all_goals (try omega)
                          simp only [Act.put]
                          refine wpAnyH_take (i := 4) (v := .string T) rfl (by kernel_rfl) (by kernel_rfl) (by kernel_rfl) (fun _ _ _ h => h) (Or.inl ⟨by rfl, ?_⟩) (by assumption) ?_
                          · intro W hSW
                            go_simp
                            all_goals (try omega)
                          simp only [Act.put]
                          refine wpAnyH_take (i := 5) (v := .string (T.extract 1 4)) rfl (by kernel_rfl) (by kernel_rfl) (by kernel_rfl) (fun _ _ _ h => h) (Or.inl ⟨by rfl, ?_⟩) (by assumption) ?_
                          · intro W hSW
                            go_simp
                            all_goals (try omega)
                          simp only [Act.put]
                          refine wpAnyH_ready (rs := [6, 8]) (by kernel_rfl) (by simp) ?_
                          refine AllReadyH.cons rfl (fun K hK => ?_) (AllReadyH.cons rfl (fun K hK => ?_) AllReadyH.nil)
                          · rw [if_pos (by rfl)]
                            go_simp
                            refine (HL3.out _).mono ?_
                            rintro e w2 ⟨rfl, rfl⟩
                            go_simp
                            refine hK.out _ _ hbd5 (fun hS => ?_)
                            clear hK
                            refine wpAnyH_take (i := 7) (v := .agg #[.string ⟨nm2.toArray⟩, .int .i64 (ty0 : Int), .int .i64 (tt0 : Int), .string ⟨#[]⟩]) rfl (by kernel_rfl) (by kernel_rfl) (by kernel_rfl) (fun _ _ _ h => h) (Or.inl ⟨by rfl, ?_⟩) (by assumption) ?_
                            · intro W hSW
                              go_simp
                              all_goals (try omega)
                            simp only [Act.put]
                            refine wpAnyH_ready (rs := [8]) (by kernel_rfl) (by simp) ?_
                            refine AllReadyH.cons rfl (fun K hK => ?_) AllReadyH.nil
                            rw [if_pos (by rfl)]
                            go_simp
                            refine hK.out _ _ ((hbz5.alloc (Nat.le_refl _) _).drew) (fun hS2 => ?_)
                            clear hK
                            refine wpAnyH_ready (rs := [9]) (by kernel_rfl) (by simp) ?_
                            refine AllReadyH.cons rfl (fun K hK => ?_) AllReadyH.nil
                            rw [if_pos (by rfl)]
                            go_simp
                            refine hK.out _ _ ((hbz5.alloc (Nat.le_refl _) _).drew) (fun hS3 => ?_)
                            clear hK
                            refine wpAnyH_done (by kernel_rfl) ?_ _
                            refine NoPanic.normal ?_
                            exact key.out
                          · rw [if_pos (by rfl)]
                            go_simp
                            refine hK.out _ _ ((hbz5.alloc (Nat.le_refl _) _).drew) (fun hS2 => ?_)
                            clear hK
                            refine wpAnyH_ready (rs := [6]) (by kernel_rfl) (by simp) ?_
                            refine AllReadyH.cons rfl (fun K hK => ?_) AllReadyH.nil
                            rw [if_pos (by rfl)]
                            go_simp
                            refine (HL3.out _).mono ?_
                            rintro e w2 ⟨rfl, rfl⟩
                            go_simp
                            refine hK.out _ _ ((hbz5.alloc (Nat.le_refl _) _).drew) (fun hS => ?_)
                            clear hK
                            refine wpAnyH_take (i := 7) (v := .agg #[.string ⟨nm2.toArray⟩, .int .i64 (ty0 : Int), .int .i64 (tt0 : Int), .string ⟨#[]⟩]) rfl (by kernel_rfl) (by kernel_rfl) (by kernel_rfl) (fun _ _ _ h => h) (Or.inl ⟨by rfl, ?_⟩) (by assumption) ?_
                            · intro W hSW
                              go_simp
                              all_goals (try omega)
                            simp only [Act.put]
                            refine wpAnyH_ready (rs := [9]) (by kernel_rfl) (by simp) ?_
                            refine AllReadyH.cons rfl (fun K hK => ?_) AllReadyH.nil
                            rw [if_pos (by rfl)]
                            go_simp
                            refine hK.out _ _ ((hbz5.alloc (Nat.le_refl _) _).drew) (fun hS3 => ?_)
                            clear hK
                            refine wpAnyH_done (by kernel_rfl) ?_ _
                            refine NoPanic.normal ?_
                            exact key.out
                        unfold Hid
                        obtain ⟨W6, hW6⟩ : ∃ W6, W6 = (w5.alloc (.cells #[.string ⟨nm2.toArray⟩, .int .i64 (ty0 : Int), .int .i64 (tt0 : Int), .string ⟨#[]⟩] 51)).drew := ⟨_, rfl⟩
                        have hS0 : (fun W : World => (∃ u, W.heap[w5.heap.size]? = some (.cells #[.string ⟨nm2.toArray⟩, .int .i64 (ty0 : Int), .int .i64 (tt0 : Int), u] 51)) ∧ Below w5.heap.size w5 W ∧ w5.heap.size < W.heap.size) W6.drew := by
                          rw [hW6]
                          refine ⟨⟨_, blk_new w5 _⟩, ((hbz5.alloc (Nat.le_refl _) _).drew).drew, ?_⟩
                          show _ < (w5.alloc _).heap.size
                          simp
                        rw [← hW6]
                        clear hW6
                        obtain ⟨D, hD⟩ : ∃ D, D = readR (ty0 : Int) ((tl.drop 5).take d) := ⟨_, rfl⟩
                        have HRD : Hid (∀ W, Calls Tryz.prog 32 #[.int .i64 (ty0 : Int), .string (T.extract 5 (5 + d))] W fun e w' => e = .returned (.tuple #[.string ⟨(D.getD []).toArray⟩, .bool D.isSome]) ∧ Below W.heap.size W w') := fun W => by
                          have h := sReadData_any (ty0 : Int) (T.extract 5 (5 + d)) W
                          rw [ext_list, HTT.out, show 5 + d - 5 = d by omega, ← hD] at h; exact h
                        have HDD : Hid (D = readR (ty0 : Int) ((tl.drop 5).take d)) := hD
                        have z6 : 5 + (d : Int) ≤ (T.size : Int) := by omega
                        have t5d : (5 + (d : Int)).toNat = 5 + d := by omega
                        have z7 : (0 : Int) ≤ 5 + (d : Int) := by omega
                        have z8 : (5 : Int) ≤ 5 + (d : Int) := by omega
                        clear hD
                        go_wp2_with fail
                        refine wp_region_noPanic ?_
                        refine wp_region_held_drew (S := fun W => (∃ u, W.heap[w5.heap.size]? = some (.cells #[.string ⟨nm2.toArray⟩, .int .i64 (ty0 : Int), .int .i64 (tt0 : Int), u] 51)) ∧ Below w5.heap.size w5 W ∧ w5.heap.size < W.heap.size) (by kernel_rfl) hS0 (fun hHeld => ?_)
                        refine wpAnyH_take (i := 0) (v := .pointer (some ⟨w5.heap.size, 1, none⟩)) rfl (by kernel_rfl) (by kernel_rfl) (by kernel_rfl) (fun _ _ _ h => h) (Or.inl ⟨by rfl, ?_⟩) (by assumption) ?_
                        · intro W hSW
                          go_simp
                          all_goals (try omega)
                        simp only [Act.put]
                        refine wpAnyH_take (i := 1) (v := .int .i64 (ty0 : Int)) rfl (by kernel_rfl) (by kernel_rfl) (by kernel_rfl) (fun _ _ _ h => h) (Or.inl ⟨by rfl, ?_⟩) (by assumption) ?_
                        · intro W hSW
                          obtain ⟨u, hu⟩ := hSW.1
                          have q1 := (rec_cells4 hu).2.1
                          go_simp
                          all_goals (try omega)
                        simp only [Act.put]
                        refine wpAnyH_take (i := 2) (v := .string T) rfl (by kernel_rfl) (by kernel_rfl) (by kernel_rfl) (fun _ _ _ h => h) (Or.inl ⟨by rfl, ?_⟩) (by assumption) ?_
                        · intro W hSW
                          go_simp
                          all_goals (try omega)
                        simp only [Act.put]
                        refine wpAnyH_take (i := 3) (v := .int .i64 (5 + (d : Int))) rfl (by kernel_rfl) (by kernel_rfl) (by kernel_rfl) (fun _ _ _ h => h) (Or.inl ⟨by rfl, ?_⟩) (by assumption) ?_
                        · intro W hSW
                          go_simp
                          all_goals (try omega)
                        simp only [Act.put]
                        refine wpAnyH_take (i := 4) (v := .string (T.extract 5 (5 + d))) rfl (by kernel_rfl) (by kernel_rfl) (by kernel_rfl) (fun _ _ _ h => h) (Or.inl ⟨by rfl, ?_⟩) (by assumption) ?_
                        · intro W hSW
                          go_simp
                          all_goals (try omega)
                        simp only [Act.put]
                        refine wpAnyH_ready (rs := [5]) (by kernel_rfl) (by simp) ?_
                        refine AllReadyH.cons rfl (fun K hK => ?_) AllReadyH.nil
                        rw [if_pos (by rfl)]
                        go_simp
                        refine (HRD.out _).mono ?_
                        rintro e w7 ⟨rfl, hb7⟩
                        go_simp
                        obtain ⟨⟨u0, hu0⟩, hbw6, hlt6⟩ := hS0
                        have HU7 : w7.heap[w5.heap.size]? = some (.cells #[.string ⟨nm2.toArray⟩, .int .i64 (ty0 : Int), .int .i64 (tt0 : Int), u0] 51) := (hb7.block w5.heap.size hlt6).trans hu0
                        have HB7 : Below w5.heap.size w5 w7 := hbw6.trans (hb7.mono (Nat.le_of_lt hlt6))
                        have hlt7 : w5.heap.size < w7.heap.size := Nat.lt_of_lt_of_le hlt6 hb7.size
                        refine hK.out _ _ ⟨⟨_, HU7⟩, HB7, hlt7⟩ (fun hS => ?_)
                        clear hK
                        refine wpAnyH_take (i := 6) (v := .tuple #[.string ⟨(D.getD []).toArray⟩, .bool D.isSome]) rfl (by kernel_rfl) (by kernel_rfl) (by kernel_rfl) (fun _ _ _ h => h) (Or.inl ⟨by rfl, ?_⟩) (by assumption) ?_
                        · intro W hSW
                          go_simp
                        simp only [Act.put]
                        refine wpAnyH_take (i := 7) (v := .string ⟨(D.getD []).toArray⟩) rfl (by kernel_rfl) (by kernel_rfl) (by kernel_rfl) (fun _ _ _ h => h) (Or.inl ⟨by rfl, ?_⟩) (by assumption) ?_
                        · intro W hSW
                          go_simp
                        simp only [Act.put]
                        refine wpAnyH_take (i := 8) (v := .bool D.isSome) rfl (by kernel_rfl) (by kernel_rfl) (by kernel_rfl) (fun _ _ _ h => h) (Or.inl ⟨by rfl, ?_⟩) (by assumption) ?_
                        · intro W hSW
                          go_simp
                        simp only [Act.put]
                        refine wpAnyH_take (i := 9) (v := .pointer (some ⟨w5.heap.size, 3, none⟩)) rfl (by kernel_rfl) (by kernel_rfl) (by kernel_rfl) (fun _ _ _ h => h) (Or.inl ⟨by rfl, ?_⟩) (by assumption) ?_
                        · intro W hSW
                          go_simp
                        simp only [Act.put]
                        refine wpAnyH_ready (rs := [10]) (by kernel_rfl) (by simp) ?_
                        refine AllReadyH.cons rfl (fun K hK => ?_) AllReadyH.nil
                        rw [if_pos (by rfl)]
                        have q3 := (rec_cells4 HU7).2.2.2
                        have f3 : w7.frozen? ⟨w5.heap.size, 3, none⟩ = false := by unfold World.frozen?; rw [HU7]; simp
                        go_simp
                        have HU8 : Hid ((w7.setCell ⟨w5.heap.size, 3, none⟩ (.string ⟨(D.getD []).toArray⟩)).heap[w5.heap.size]? = some (.cells #[.string ⟨nm2.toArray⟩, .int .i64 (ty0 : Int), .int .i64 (tt0 : Int), .string ⟨(D.getD []).toArray⟩] 51)) := by
                          have e1 := heap_setCell_same _ _ 3 _ _ (.string ⟨(D.getD []).toArray⟩) HU7
                          exact e1.trans (by rfl)
                        have HB8 : Below w5.heap.size w5 (w7.setCell ⟨w5.heap.size, 3, none⟩ (.string ⟨(D.getD []).toArray⟩)) := HB7.setCell (p := ⟨w5.heap.size, 3, none⟩) (Nat.le_refl _) _
                        refine hK.out _ _ ⟨⟨_, HU8.out⟩, HB8, by simpa using hlt7⟩ (fun hS3 => ?_)
                        clear hK
                        refine wpAnyH_ready (rs := [11]) (by kernel_rfl) (by simp) ?_
                        refine AllReadyH.cons rfl (fun K hK => ?_) AllReadyH.nil
                        rw [if_pos (by rfl)]
                        go_simp
                        refine hK.out _ _ ⟨⟨_, HU8.out⟩, HB8, by simpa using hlt7⟩ (fun hS4 => ?_)
                        clear hK
                        refine wpAnyH_done (by kernel_rfl) ?_ _
                        refine NoPanic.normal ?_
                        obtain ⟨w8, hw8⟩ : ∃ w8, w8 = w7.setCell ⟨w5.heap.size, 3, none⟩ (.string ⟨(D.getD []).toArray⟩) := ⟨_, rfl⟩
                        rw [← hw8] at HU8 HB8 ⊢
                        have hlt8 : w5.heap.size < w8.heap.size := by rw [hw8]; simpa using hlt7
                        have HI8 : Hid (RdI w (mi : Int) (decide (128 ≤ fl)) (decide (fl % 2 = 1)) (cd : Int) (tyv : Int) an w8 nm Q v6 v7) := HI5.out.kept HB8
                        clear hw8 hS hS3 hS4 hHeld hu0 hbw6 hb7 HU7 HB7 q3 f3 hlt7 hlt6 HRD HL3 HI5
                        cases D with
                        | none =>
                          have HN : Hid (readM s.data.toList = none) := HNO.out (goR_data HGR.out.2 (by have h := HGR.out.1; omega) HT2.out (by rw [← HD4.out]; have h := HTZ.out; omega) (by rw [← HTY0.out, ← HD4.out]; exact HDD.out.symm))
                          obtain ⟨d0, d1, d2, d3, d4, d5, d6, d7⟩ := msg_cells HI8.out.res
                          obtain ⟨f0, f1, f2, f3, f4, f5, f6, f7⟩ := msg_frozen HI8.out.res
                          rw [show (none : Option (List UInt8)).isSome = false from rfl]
                          go_wp2_with fail
                          (try simp only [Exit.inBlock, Exit.then])
                          refine bodyPost_ret (results_row_tmp rfl _ _ w.heap.size 30 #[.int .i64 0, .bool false, .bool false, .int .i64 0, .string ⟨#[]⟩, .int .i64 0, .slice none 0 0, .slice none 0 0] (0, 0) _ (.bool false) rfl rfl ?_ Tryz.underlying30 rfl (by kernel_rfl)) rfl ⟨rd_no HN.out, ?_⟩
                          · exact put8_heap HI8.out.res
                          · exact put8_below HI8.out.below (Nat.le_refl _) _ _ _ _ _ _ _ _
                        | some dd =>
                          have HG9 : Hid (GoR pk (an + ath) R en (tl.drop (5 + d)) nm (Q ++ [(nm2, (ty0 : Int), ((tt0 : Nat) : Int), dd)])) := by
                            have h := goR_next HGR.out.2 (by have h := HGR.out.1; omega) HT2.out (by rw [← HD4.out]; have h := HTZ.out; omega) (d := dd) (by rw [← HTY0.out, ← HD4.out]; exact HDD.out.symm)
                            rw [← HTY0.out, ← HD4.out, ← HTT0.out] at h; exact h
                          rw [show (some dd).isSome = true from rfl]
                          rw [show (some dd).getD [] = dd from rfl] at HU8
                          obtain ⟨r0, r1, r2, r3⟩ := rec_cells4 HU8.out
                          obtain ⟨c0, c1, c2, c3, c4, c5, c6, c7⟩ := msg_cells HI8.out.msg
                          obtain ⟨f0, f1, f2, f3, f4, f5, f6, f7⟩ := msg_frozen HI8.out.msg
                          have z9 : 5 + (d : Int) ≤ (T.size : Int) := by omega
                          obtain ⟨i0, hi, hz0, hz1, hz2⟩ := info_parts info_rec
                          have HTX : Hid (Value.string (T.extract (5 + d) T.size) = .string ⟨(tl.drop (5 + d)).toArray⟩) := by
                            have e : T.extract (5 + d) T.size = ⟨(tl.drop (5 + d)).toArray⟩ := data_eq (by
                              rw [ext_list, HTT.out, List.take_of_length_le (by rw [List.length_drop]; have h := HTZ.out; omega)])
                            exact congrArg Value.string e
                          have HQL : Hid ((Q.take an).length ≤ 30 ∧ (Q.drop an).length ≤ 30) := by
                            have h := HGR.out.1
                            exact ⟨by rw [List.length_take]; omega, by rw [List.length_drop]; omega⟩
                          by_cases hia : i ≤ an
                          · have hiai : (i : Int) ≤ (an : Int) := by omega
                            go_wp2_with (first | (at_builtin; refine wpList_append_own_at _ rfl (.tmp 152) (.tmp 154) 28 rfl (w.heap.size + 2) 51 i0 _ 4 48 Tryz.underlying28 hi hz0 hz1 hz2 rfl (by decide) v6 _ _ rfl (HI8.out.own6.alloc _) ⟨w8.heap.size, 0, none⟩ 1 1 (rcs (nm2, (ty0 : Int), ((tt0 : Nat) : Int), dd)) rfl rfl ?k16 ?k26 ?k36 ?k46 ?k56 ?_))
                            case k16 => first | exact news_one w8 (nm2, (ty0 : Int), ((tt0 : Nat) : Int), dd) _ _ rfl | exact fun j u h => h
                            case k26 => exact fun u hu => rcells_one [(nm2, (ty0 : Int), ((tt0 : Nat) : Int), dd)] u (by simpa [rcells] using hu)
                            case k36 => unfold maxLen; have h := HQL.out; omega
                            case k46 => have h := HQL.out; omega
                            case k56 => have h := HI8.out.big; simp; omega
                            intro u9 w9 hown9 hgrow9 _ hob9
                            obtain ⟨a9, cap9, hv9, _, _⟩ := own4_shape hown9
                            obtain ⟨n9, hn9⟩ : ∃ n9, u9 = .slice a9 n9 cap9 := ⟨_, hv9⟩
                            clear hv9
                            subst hn9
                            have HM9 : w9.heap[w.heap.size + 1]? = some (.cells #[.int .i64 (mi : Int), .bool (decide (128 ≤ fl)), .bool (decide (fl % 2 = 1)), .int .i64 (cd : Int), .string ⟨nm.toArray⟩, .int .i64 (tyv : Int), v6, v7] 30) := by
                              have hb := HI8.out.big
                              exact (((kpt_alloc w8 _ _).trans (grown_kpt hgrow9)).block (w.heap.size + 1) (by omega) (fun h => by have h1 := (HI8.out.own6.lt _ h).1; omega)).trans HI8.out.msg
                            have HI9 : Hid (RdI w (mi : Int) (decide (128 ≤ fl)) (decide (fl % 2 = 1)) (cd : Int) (tyv : Int) an (w9.setCell ⟨w.heap.size + 1, 6, none⟩ (.slice a9 n9 cap9)) nm (Q ++ [(nm2, (ty0 : Int), ((tt0 : Nat) : Int), dd)]) (.slice a9 n9 cap9) v7) := HI8.out.ans _ (nm2, (ty0 : Int), ((tt0 : Nat) : Int), dd) (by have h := HGR.out.1; omega) (by rw [List.length_take]; exact hown9) hgrow9 (hob9.imp id (fun h => by rw [h]; simp))
                            clear c0 c1 c2 c3 c4 c5 c6 c7 f0 f1 f2 f3 f4 f5 f6 f7 r0 r1 r2 r3 hown9 hgrow9 hob9
                            obtain ⟨c0, c1, c2, c3, c4, c5, c6, c7⟩ := msg_cells HM9
                            obtain ⟨f0, f1, f2, f3, f4, f5, f6, f7⟩ := msg_frozen HM9
                            clear HM9
                            go_wp2_with fail
                            go_roundw
                            case rel => exact ⟨i + 1, en, tl.drop (5 + d), nm, Q ++ [(nm2, (ty0 : Int), ((tt0 : Nat) : Int), dd)], .slice a9 n9 cap9, v7, by go_num, rfl, HTX.out, by omega, by rw [List.length_drop]; omega, by omega, HI9, .inr ⟨by rw [List.length_append]; have h := HGR.out.1; simp; omega, HG9.out⟩⟩
                            case measure => simp [intOf]; omega
                          · have hiai : ¬ (i : Int) ≤ (an : Int) := by omega
                            go_wp2_with (first | (at_builtin; refine wpList_append_own_at _ rfl (.tmp 158) (.tmp 160) 28 rfl (w.heap.size + 2) 51 i0 _ 4 48 Tryz.underlying28 hi hz0 hz1 hz2 rfl (by decide) v7 _ _ rfl (HI8.out.own7.alloc _) ⟨w8.heap.size, 0, none⟩ 1 1 (rcs (nm2, (ty0 : Int), ((tt0 : Nat) : Int), dd)) rfl rfl ?k17 ?k27 ?k37 ?k47 ?k57 ?_))
                            case k17 => first | exact news_one w8 (nm2, (ty0 : Int), ((tt0 : Nat) : Int), dd) _ _ rfl | exact fun j u h => h
                            case k27 => exact fun u hu => rcells_one [(nm2, (ty0 : Int), ((tt0 : Nat) : Int), dd)] u (by simpa [rcells] using hu)
                            case k37 => unfold maxLen; have h := HQL.out.2; rw [List.length_drop] at h; (try rw [List.length_drop]); omega
                            case k47 => have h := HQL.out.2; rw [List.length_drop] at h; (try rw [List.length_drop]); omega
                            case k57 => have h := HI8.out.big; simp; omega
                            intro u9 w9 hown9 hgrow9 _ hob9
                            obtain ⟨a9, cap9, hv9, _, _⟩ := own4_shape hown9
                            obtain ⟨n9, hn9⟩ : ∃ n9, u9 = .slice a9 n9 cap9 := ⟨_, hv9⟩
                            clear hv9
                            subst hn9
                            have HM9 : w9.heap[w.heap.size + 1]? = some (.cells #[.int .i64 (mi : Int), .bool (decide (128 ≤ fl)), .bool (decide (fl % 2 = 1)), .int .i64 (cd : Int), .string ⟨nm.toArray⟩, .int .i64 (tyv : Int), v6, v7] 30) := by
                              have hb := HI8.out.big
                              exact (((kpt_alloc w8 _ _).trans (grown_kpt hgrow9)).block (w.heap.size + 1) (by omega) (fun h => by have h1 := (HI8.out.own7.lt _ h).1; omega)).trans HI8.out.msg
                            have HI9 : Hid (RdI w (mi : Int) (decide (128 ≤ fl)) (decide (fl % 2 = 1)) (cd : Int) (tyv : Int) an (w9.setCell ⟨w.heap.size + 1, 7, none⟩ (.slice a9 n9 cap9)) nm (Q ++ [(nm2, (ty0 : Int), ((tt0 : Nat) : Int), dd)]) v6 (.slice a9 n9 cap9)) := HI8.out.auth _ (nm2, (ty0 : Int), ((tt0 : Nat) : Int), dd) (by have h := HGR.out.1; omega) (by rw [List.length_drop]; exact hown9) hgrow9 (hob9.imp id (fun h => by rw [h]; simp))
                            clear c0 c1 c2 c3 c4 c5 c6 c7 f0 f1 f2 f3 f4 f5 f6 f7 r0 r1 r2 r3 hown9 hgrow9 hob9
                            obtain ⟨c0, c1, c2, c3, c4, c5, c6, c7⟩ := msg_cells HM9
                            obtain ⟨f0, f1, f2, f3, f4, f5, f6, f7⟩ := msg_frozen HM9
                            clear HM9
                            go_wp2_with fail
                            go_roundw
                            case rel => exact ⟨i + 1, en, tl.drop (5 + d), nm, Q ++ [(nm2, (ty0 : Int), ((tt0 : Nat) : Int), dd)], v6, .slice a9 n9 cap9, by go_num, rfl, HTX.out, by omega, by rw [List.length_drop]; omega, by omega, HI9, .inr ⟨by rw [List.length_append]; have h := HGR.out.1; simp; omega, HG9.out⟩⟩
                            case measure => simp [intOf]; omega
              · have HN : Hid (readM s.data.toList = none) := HNO.out (by
                  have hT : takeN pk a = none := going_out (going_start pk a (by omega)) hap
                  rcases HG.out with ⟨_, h2, _, _⟩ | ⟨h1, h2⟩
                  · rw [h2] at hT; exact goR_first HRC.out hT
                  · exact goR_no h2 (by omega) hT)
                have hai : (pk.length : Int) ≤ (a : Int) := by omega
                have HIX : Hid (RdI w (mi : Int) (decide (128 ≤ fl)) (decide (fl % 2 = 1)) (cd : Int) (tyv : Int) an wr nm Q v6 v7) := HI.out
                obtain ⟨d0, d1, d2, d3, d4, d5, d6, d7⟩ := msg_cells HIX.out.res
                obtain ⟨f0, f1, f2, f3, f4, f5, f6, f7⟩ := msg_frozen HIX.out.res
                go_wp2_with fail
                (try simp only [Exit.inBlock, Exit.then])
                refine bodyPost_ret (results_row_tmp rfl _ _ w.heap.size 30 #[.int .i64 0, .bool false, .bool false, .int .i64 0, .string ⟨#[]⟩, .int .i64 0, .slice none 0 0, .slice none 0 0] (0, 0) _ (.bool false) rfl rfl ?_ Tryz.underlying30 rfl (by kernel_rfl)) rfl ⟨rd_no HN.out, ?_⟩
                · exact put8_heap HIX.out.res
                · exact put8_below HIX.out.below (Nat.le_refl _) _ _ _ _ _ _ _ _
            · have hii : ¬ (i : Int) ≤ (an : Int) + (ath : Int) := by omega
              have HGR : Hid (R = some (nm, Q) ∧ Q.length = an + ath ∧ nm.length ≤ 60 ∧ ∀ x ∈ Q, x.1.length ≤ 10000 ∧ x.2.2.2.length ≤ 10000) := by
                rcases HG.out with ⟨h1, _⟩ | ⟨h1, h2⟩
                · exact absurd h1 (by omega)
                · have h3 := h2.1
                  have h4 := goR_end h2 (by omega)
                  exact ⟨h4.1, h4.2, h2.2.1, h2.2.2.1⟩
              have HX6 : Hid (∀ x ∈ Q.take an, x.1.length ≤ 1048576 ∧ x.2.2.2.length ≤ 1048576) := fun x hx => by have h := HGR.out.2.2.2 x (List.mem_of_mem_take hx); omega
              have HX7 : Hid (∀ x ∈ Q.drop an, x.1.length ≤ 1048576 ∧ x.2.2.2.length ≤ 1048576) := fun x hx => by have h := HGR.out.2.2.2 x (List.mem_of_mem_drop hx); omega
              have HO6 : Hid (wr.ownsRow (w.heap.size + 2) 51 4 v6 (Q.take an).length (rcells (Q.take an))) := HI.out.own6
              have HO7 : Hid (wr.ownsRow (w.heap.size + 2) 51 4 v7 (Q.drop an).length (rcells (Q.drop an))) := HI.out.own7
              obtain ⟨QA, hQA⟩ : ∃ QA, QA = Q.take an := ⟨_, rfl⟩
              obtain ⟨QU, hQU⟩ : ∃ QU, QU = Q.drop an := ⟨_, rfl⟩
              rw [← hQA] at HX6 HO6
              rw [← hQU] at HX7 HO7
              have HQA : Hid (QA = Q.take an) := hQA
              have HQU : Hid (QU = Q.drop an) := hQU
              clear hQA hQU
              obtain ⟨a6, cap6, hv6, _, hn6⟩ := own4_shape HO6.out
              obtain ⟨a7, cap7, hv7, _, hn7⟩ := own4_shape HO7.out
              have HR6 : Hid (∀ W, Below wr.heap.size wr W → RRow W v6 QA) := fun W hW => (own_q HO6.out).row.kept hW
              have HR7 : Hid (∀ W, Below wr.heap.size wr W → RRow W v7 QU) := fun W hW => (own_q HO7.out).row.kept hW
              have HGM : Hid (Calls Tryz.prog 15 #[MsgV (mi : Int) (decide (128 ≤ fl)) (decide (fl % 2 = 1)) (cd : Int) ⟨nm.toArray⟩ (tyv : Int) v6 v7] wr fun e w' => e = .returned (.bool (msgB (mi : Int) (decide (128 ≤ fl)) (decide (fl % 2 = 1)) (cd : Int) nm (tyv : Int) QA QU)) ∧ Below wr.heap.size wr w') := sGoodMessage_any (mi : Int) (decide (128 ≤ fl)) (decide (fl % 2 = 1)) (cd : Int) ⟨nm.toArray⟩ (tyv : Int) v6 v7 QA QU wr (by rw [size_list]; have h := HGR.out.2.2.1; omega) (HR6.out _ (Below.refl _ _)) (HR7.out _ (Below.refl _ _)) HX6 HX7
              have HLB : Hid (msgB (mi : Int) (decide (128 ≤ fl)) (decide (fl % 2 = 1)) (cd : Int) nm (tyv : Int) QA QU = true → ∀ W, Below wr.heap.size wr W → Calls Tryz.prog 16 #[MsgV (mi : Int) (decide (128 ≤ fl)) (decide (fl % 2 = 1)) (cd : Int) ⟨nm.toArray⟩ (tyv : Int) v6 v7] W fun e w' => e = .returned (.string ⟨(msgW (mi : Int) (decide (128 ≤ fl)) (decide (fl % 2 = 1)) (cd : Int) nm (tyv : Int) QA QU).toArray⟩) ∧ Below W.heap.size W w') := fun hm W hW => l4Bytes_any (mi : Int) (decide (128 ≤ fl)) (decide (fl % 2 = 1)) (cd : Int) ⟨nm.toArray⟩ (tyv : Int) v6 v7 QA QU W (goodM hm) (HR6.out W hW) (HR7.out W hW) (fun x hx => by
                rcases List.mem_append.1 hx with h | h
                · exact (HX6.out x h).2
                · exact (HX7.out x h).2) hn6 hn7
              have HRD : Hid (readM s.data.toList = if msgB (mi : Int) (decide (128 ≤ fl)) (decide (fl % 2 = 1)) (cd : Int) nm (tyv : Int) QA QU = true ∧ msgW (mi : Int) (decide (128 ≤ fl)) (decide (fl % 2 = 1)) (cd : Int) nm (tyv : Int) QA QU = s.data.toList then some (nm, Q) else none) := by
                rw [← HBB.out, HREAD.out, HGR.out.1, HQA.out, HQU.out]; exact rfl
              unfold MsgV at HGM HLB
              clear hn6 hn7
              obtain ⟨c0, c1, c2, c3, c4, c5, c6, c7⟩ := msg_cells HI.out.msg
              subst hv6
              subst hv7
              cases hB : msgB (mi : Int) (decide (128 ≤ fl)) (decide (fl % 2 = 1)) (cd : Int) nm (tyv : Int) QA QU with
              | false =>
                have HN : Hid (readM s.data.toList = none) := by rw [HRD.out, hB]; exact if_neg (fun h => by cases h.1)
                rw [hB] at HGM
                clear hB HLB HRD
                go_wp2_with fail
                refine HGM.out.mono ?_
                rintro e w5 ⟨rfl, hb5⟩
                have HI5 : Hid (RdI w (mi : Int) (decide (128 ≤ fl)) (decide (fl % 2 = 1)) (cd : Int) (tyv : Int) an w5 nm Q _ _) := HI.out.kept hb5
                clear c0 c1 c2 c3 c4 c5 c6 c7
                obtain ⟨d0, d1, d2, d3, d4, d5, d6, d7⟩ := msg_cells HI5.out.res
                obtain ⟨f0, f1, f2, f3, f4, f5, f6, f7⟩ := msg_frozen HI5.out.res
                go_wp2_with fail
                (try simp only [Exit.inBlock, Exit.then])
                refine bodyPost_ret (results_row_tmp rfl _ _ w.heap.size 30 #[.int .i64 0, .bool false, .bool false, .int .i64 0, .string ⟨#[]⟩, .int .i64 0, .slice none 0 0, .slice none 0 0] (0, 0) _ (.bool false) rfl rfl ?_ Tryz.underlying30 rfl (by kernel_rfl)) rfl ⟨rd_no HN.out, ?_⟩
                · exact put8_heap HI5.out.res
                · exact put8_below HI5.out.below (Nat.le_refl _) _ _ _ _ _ _ _ _
              | true =>
                have HL2 : Hid (∀ W, Below wr.heap.size wr W → Calls Tryz.prog 16 #[.agg #[.int .i64 (mi : Int), .bool (decide (128 ≤ fl)), .bool (decide (fl % 2 = 1)), .int .i64 (cd : Int), .string ⟨nm.toArray⟩, .int .i64 (tyv : Int), .slice a6 QA.length cap6, .slice a7 QU.length cap7]] W fun e w' => e = .returned (.string ⟨(msgW (mi : Int) (decide (128 ≤ fl)) (decide (fl % 2 = 1)) (cd : Int) nm (tyv : Int) QA QU).toArray⟩) ∧ Below W.heap.size W w') := HLB.out hB
                rw [hB] at HGM HRD
                clear hB HLB
                obtain ⟨mw, hmw⟩ : ∃ mw, mw = msgW (mi : Int) (decide (128 ≤ fl)) (decide (fl % 2 = 1)) (cd : Int) nm (tyv : Int) QA QU := ⟨_, rfl⟩
                rw [← hmw] at HL2 HRD
                clear hmw
                go_wp2_with fail
                refine HGM.out.mono ?_
                rintro e w5 ⟨rfl, hb5⟩
                have HI5 : Hid (RdI w (mi : Int) (decide (128 ≤ fl)) (decide (fl % 2 = 1)) (cd : Int) (tyv : Int) an w5 nm Q _ _) := HI.out.kept hb5
                clear c0 c1 c2 c3 c4 c5 c6 c7
                obtain ⟨c0, c1, c2, c3, c4, c5, c6, c7⟩ := msg_cells HI5.out.msg
                go_wp2_with fail
                refine (HL2.out _ hb5).mono ?_
                rintro e w6 ⟨rfl, hb6⟩
                have HI6 : Hid (RdI w (mi : Int) (decide (128 ≤ fl)) (decide (fl % 2 = 1)) (cd : Int) (tyv : Int) an w6 nm Q _ _) := HI5.out.kept hb6
                have HO66 : Hid (w6.ownsRow (w.heap.size + 2) 51 4 (.slice a6 QA.length cap6) QA.length (rcells QA)) := own_below HO6.out (hb5.trans (hb6.mono hb5.size))
                have HO76 : Hid (w6.ownsRow (w.heap.size + 2) 51 4 (.slice a7 QU.length cap7) QU.length (rcells QU)) := own_below HO7.out (hb5.trans (hb6.mono hb5.size))
                clear c0 c1 c2 c3 c4 c5 c6 c7
                obtain ⟨c0, c1, c2, c3, c4, c5, c6, c7⟩ := msg_cells HI6.out.msg
                obtain ⟨d0, d1, d2, d3, d4, d5, d6, d7⟩ := msg_cells HI6.out.res
                obtain ⟨f0, f1, f2, f3, f4, f5, f6, f7⟩ := msg_frozen HI6.out.res
                by_cases hyb : mw = s.data.toList
                · have HY : Hid (readM s.data.toList = some (nm, Q)) := by rw [HRD.out]; exact if_pos ⟨by first | trivial | rfl, hyb⟩
                  rw [show (⟨mw.toArray⟩ : ByteArray) = s from data_eq hyb]
                  have e9 : (s.toList != s.toList) = false := by simp
                  clear hyb
                  go_wp2_with fail
                  (try simp only [Exit.inBlock, Exit.then])
                  refine bodyPost_ret (results_row_tmp rfl _ _ w.heap.size 30 #[.int .i64 (mi : Int), .bool (decide (128 ≤ fl)), .bool (decide (fl % 2 = 1)), .int .i64 (cd : Int), .string ⟨nm.toArray⟩, .int .i64 (tyv : Int), .slice a6 QA.length cap6, .slice a7 QU.length cap7] (0, 0) _ (.bool true) rfl rfl ?_ Tryz.underlying30 rfl (by kernel_rfl)) rfl ⟨⟨fun h => (by rw [HY.out] at h; cases h), fun nm' L' h => ?_⟩, ?_⟩
                  · exact put8_heap HI6.out.res
                  · rw [HY.out] at h
                    simp only [Option.some.injEq, Prod.mk.injEq] at h
                    obtain ⟨rfl, rfl⟩ := h
                    rw [← HBB.out, HRP.out, HCT.out, ← HMI.out, ← HCD.out, ← HTY.out, ← HAN.out, ← HQA.out, ← HQU.out]
                    refine ⟨_, _, rfl, ?_, ?_⟩
                    · exact ((own_q HO66.out).kpt (kpt_put8 w6 w.heap.size _ _ _ _ _ _ _ _ (S := fun k => k = w.heap.size) rfl) (fun g hg h => by have h1 := (own_q HO66.out).lt g hg; omega)).row
                    · exact ((own_q HO76.out).kpt (kpt_put8 w6 w.heap.size _ _ _ _ _ _ _ _ (S := fun k => k = w.heap.size) rfl) (fun g hg h => by have h1 := (own_q HO76.out).lt g hg; omega)).row
                  · exact put8_below HI6.out.below (Nat.le_refl _) _ _ _ _ _ _ _ _
                · have HN : Hid (readM s.data.toList = none) := by rw [HRD.out]; exact if_neg (fun h => hyb h.2)
                  have e5 : (mw == s.toList) = false := by rw [ByteArray.toList_eq]; simpa using hyb
                  clear hyb
                  go_wp2_with fail
                  (try simp only [Exit.inBlock, Exit.then])
                  refine bodyPost_ret (results_row_tmp rfl _ _ w.heap.size 30 #[.int .i64 0, .bool false, .bool false, .int .i64 0, .string ⟨#[]⟩, .int .i64 0, .slice none 0 0, .slice none 0 0] (0, 0) _ (.bool false) rfl rfl ?_ Tryz.underlying30 rfl (by kernel_rfl)) rfl ⟨rd_no HN.out, ?_⟩
                  · exact put8_heap HI6.out.res
                  · exact put8_below HI6.out.below (Nat.le_refl _) _ _ _ _ _ _ _ _
        · have HN : Hid (readM s.data.toList = none) := by
            rw [← HBB.out]; unfold readM
            rw [if_neg]
            · exact rfl
            · unfold headB
              rw [← HSZ.out, HBL.out]
              simp only [Bool.and_eq_true, decide_eq_true_eq]
              omega
          have g1 : ¬ (12 : Int) < (an : Int) := by omega
          have g2 : ¬ (12 : Int) < (ath : Int) := by omega
          have g3 : (s.size : Int) < 8 + (sz : Int) + 1 := by omega
          have ws1 : IntKind.i64.wrap ((an : Int) + (ath : Int) - (an : Int)) = (ath : Int) := by rw [show (an : Int) + (ath : Int) - (an : Int) = (ath : Int) by omega]; exact wat
          have ws2 : IntKind.i64.wrap (8 + (sz : Int)) = 8 + (sz : Int) := wrap_small _ (by omega) (by omega)
          have ws3 : IntKind.i64.wrap (8 + (sz : Int) + 1) = 8 + (sz : Int) + 1 := wrap_small _ (by omega) (by omega)
          obtain ⟨c0, c1, c2, c3, c4, c5, c6, c7⟩ := msg_cells HR3.out
          obtain ⟨f0, f1, f2, f3, f4, f5, f6, f7⟩ := msg_frozen HR3.out
          go_wp2_with fail
          (try simp only [Exit.inBlock, Exit.then])
          refine bodyPost_ret (results_row_tmp rfl _ _ w.heap.size 30 #[.int .i64 0, .bool false, .bool false, .int .i64 0, .string ⟨#[]⟩, .int .i64 0, .slice none 0 0, .slice none 0 0] (0, 0) _ (.bool false) rfl rfl ?_ Tryz.underlying30 rfl (by kernel_rfl)) rfl ⟨rd_no HN.out, ?_⟩
          · exact put8_heap HR3.out
          · exact put8_below hbw3 (Nat.le_refl _) _ _ _ _ _ _ _ _
      · have HN : Hid (readM s.data.toList = none) := by
          rw [← HBB.out]; unfold readM
          rw [if_neg]
          · exact rfl
          · unfold headB
            rw [← HAT.out]
            simp only [Bool.and_eq_true, decide_eq_true_eq]
            omega
        have g1 : ¬ (12 : Int) < (an : Int) := by omega
        have g2 : (12 : Int) < (ath : Int) := by omega
        have ws1 : IntKind.i64.wrap ((an : Int) + (ath : Int) - (an : Int)) = (ath : Int) := by rw [show (an : Int) + (ath : Int) - (an : Int) = (ath : Int) by omega]; exact wat
        obtain ⟨c0, c1, c2, c3, c4, c5, c6, c7⟩ := msg_cells HR3.out
        obtain ⟨f0, f1, f2, f3, f4, f5, f6, f7⟩ := msg_frozen HR3.out
        go_wp2_with fail
        (try simp only [Exit.inBlock, Exit.then])
        refine bodyPost_ret (results_row_tmp rfl _ _ w.heap.size 30 #[.int .i64 0, .bool false, .bool false, .int .i64 0, .string ⟨#[]⟩, .int .i64 0, .slice none 0 0, .slice none 0 0] (0, 0) _ (.bool false) rfl rfl ?_ Tryz.underlying30 rfl (by kernel_rfl)) rfl ⟨rd_no HN.out, ?_⟩
        · exact put8_heap HR3.out
        · exact put8_below hbw3 (Nat.le_refl _) _ _ _ _ _ _ _ _
    · have HN : Hid (readM s.data.toList = none) := by
        rw [← HBB.out]; unfold readM
        rw [if_neg]
        · exact rfl
        · unfold headB
          rw [← HAN.out]
          simp only [Bool.and_eq_true, decide_eq_true_eq]
          omega
      have g1 : (12 : Int) < (an : Int) := by omega
      obtain ⟨c0, c1, c2, c3, c4, c5, c6, c7⟩ := msg_cells HR3.out
      obtain ⟨f0, f1, f2, f3, f4, f5, f6, f7⟩ := msg_frozen HR3.out
      go_wp2_with fail
      (try simp only [Exit.inBlock, Exit.then])
      refine bodyPost_ret (results_row_tmp rfl _ _ w.heap.size 30 #[.int .i64 0, .bool false, .bool false, .int .i64 0, .string ⟨#[]⟩, .int .i64 0, .slice none 0 0, .slice none 0 0] (0, 0) _ (.bool false) rfl rfl ?_ Tryz.underlying30 rfl (by kernel_rfl)) rfl ⟨rd_no HN.out, ?_⟩
      · exact put8_heap HR3.out
      · exact put8_below hbw3 (Nat.le_refl _) _ _ _ _ _ _ _ _
  · have hz : s.data.toList.length = s.size := data_len s
    have HN : Hid (readM s.data.toList = none) := by
      unfold readM
      rw [if_neg]
      · exact rfl
      · unfold headB
        simp only [Bool.and_eq_true, decide_eq_true_eq]
        omega
    have hin : (decide ((10 : Int) ≤ (s.size : Int)) && decide ((s.size : Int) ≤ 4000)) = false := by
      cases h1 : decide ((10 : Int) ≤ (s.size : Int)) with
      | false => rfl
      | true =>
        simp only [decide_eq_true_eq] at h1
        simp; omega
    go_enter Tryz.func10, Tryz.ntmps10
    go_wp2_with fail
    refine (l1In_any (s.size : Int) 10 4000 _).mono ?_
    rintro e w1 ⟨rfl, rfl⟩
    rw [hin]
    go_wp2_with fail
    (try simp only [Exit.inBlock, Exit.then])
    refine bodyPost_ret (results_row_tmp rfl _ _ w.heap.size 30 #[.int .i64 0, .bool false, .bool false, .int .i64 0, .string ⟨#[]⟩, .int .i64 0, .slice none 0 0, .slice none 0 0] (0, 0) _ (.bool false) rfl rfl ?_ Tryz.underlying30 rfl (by kernel_rfl)) rfl ⟨rd_no HN.out, ?_⟩
    · exact blk_new _ _
    · exact (Below.refl w.heap.size w).alloc (Nat.le_refl _) _
end Go.Proofs.YtphhgjdpfcmpgaaGreatDoor
