import Derived.Test.YtdmellmmhipncaaGreatDoorZ18
import Derived.Test.YtdmellmmhipncaaGreatDoorZ17
import Derived.Test.YtdmellmmhipncaaGreatDoorZ13
import Derived.Laws.ResultCell
namespace Go.Proofs.YtdmellmmhipncaaGreatDoor
open Go.RowKit

/-- A record in a box of its own. -/
def RBox (W : World) (b : Nat) (nm : ByteArray) (ty ttl : Int) (d : ByteArray) : Prop := W.heap[b]? = some (.cells #[.string nm, .int .i64 ty, .int .i64 ttl, .string d] 24)
theorem RBox.cells {W : World} {b : Nat} {nm d : ByteArray} {ty ttl : Int} (h : RBox W b nm ty ttl d) : W.cell? ⟨b, 0, none⟩ = some (.string nm) ∧ W.cell? ⟨b, 1, none⟩ = some (.int .i64 ty) ∧ W.cell? ⟨b, 2, none⟩ = some (.int .i64 ttl) ∧ W.cell? ⟨b, 3, none⟩ = some (.string d) := by
  unfold RBox at h
  refine ⟨?_, ?_, ?_, ?_⟩ <;> (unfold World.cell?; rw [h]; rfl)
theorem RBox.free {W : World} {b : Nat} {nm d : ByteArray} {ty ttl : Int} (h : RBox W b nm ty ttl d) : W.frozen? ⟨b, 0, none⟩ = false ∧ W.frozen? ⟨b, 1, none⟩ = false ∧ W.frozen? ⟨b, 2, none⟩ = false ∧ W.frozen? ⟨b, 3, none⟩ = false := by
  unfold RBox at h
  refine ⟨?_, ?_, ?_, ?_⟩ <;> (unfold World.frozen?; rw [h]; simp)
theorem RBox.lt {W : World} {b : Nat} {nm d : ByteArray} {ty ttl : Int} (h : RBox W b nm ty ttl d) : b < W.heap.size := (Array.getElem?_eq_some_iff.1 h).1
theorem RBox.kpt {W W' : World} {b : Nat} {nm d : ByteArray} {ty ttl : Int} {S : Nat → Prop} (h : RBox W b nm ty ttl d) (hk : Kpt W W' S) (hn : ¬ S b) : RBox W' b nm ty ttl d := (hk.block b h.lt hn).trans h
theorem rbox_new {w : World} {nm d : ByteArray} {ty ttl : Int} : RBox (w.alloc (.cells #[.string nm, .int .i64 ty, .int .i64 ttl, .string d] 24)) w.heap.size nm ty ttl d := (MapKept.heap_alloc w _).1
theorem RBox.set1 {W : World} {b : Nat} {nm d : ByteArray} {ty ttl : Int} (h : RBox W b nm ty ttl d) (x : Int) : RBox (W.setCell ⟨b, 1, none⟩ (.int .i64 x)) b nm x ttl d := heap_set h
theorem RBox.set2 {W : World} {b : Nat} {nm d : ByteArray} {ty ttl : Int} (h : RBox W b nm ty ttl d) (x : Int) : RBox (W.setCell ⟨b, 2, none⟩ (.int .i64 x)) b nm ty x d := heap_set h
theorem RBox.set3 {W : World} {b : Nat} {nm d : ByteArray} {ty ttl : Int} (h : RBox W b nm ty ttl d) (x : ByteArray) : RBox (W.setCell ⟨b, 3, none⟩ (.string x)) b nm ty ttl x := heap_set h
theorem RBox.set0 {W : World} {b : Nat} {nm d : ByteArray} {ty ttl : Int} (h : RBox W b nm ty ttl d) (x : ByteArray) : RBox (W.setCell ⟨b, 0, none⟩ (.string x)) b x ty ttl d := heap_set h

theorem RBox.put {W : World} {b : Nat} {n e : ByteArray} {t l : Int} (h : RBox W b n t l e) (nm : ByteArray) (ty ttl : Int) (d : ByteArray) : RBox ((((W.setCell ⟨b, 0, none⟩ (.string nm)).setCell ⟨b, 1, none⟩ (.int .i64 ty)).setCell ⟨b, 2, none⟩ (.int .i64 ttl)).setCell ⟨b, 3, none⟩ (.string d)) b nm ty ttl d := (((h.set0 nm).set1 ty).set2 ttl).set3 d
/-- The bounds of a drawn record. -/
def RSm (nm : ByteArray) (ty ttl : Int) (d : ByteArray) : Prop := nm.size ≤ 30 ∧ d.size ≤ 60 ∧ (0 ≤ ty ∧ ty ≤ 20) ∧ (-1 ≤ ttl ∧ ttl ≤ 100001)

set_option maxRecDepth 20000 in
set_option maxHeartbeats 1000000 in
theorem target_any (g : Nat) (v : Value) (P : List Int) (B : Nat) (w : World) (hc : CurB w g v P B) (hB : B ≤ 900000000000) (hl : P.length ≤ 9223372036854775807) :
    Calls Tryz.prog 62 #[.pointer (some ⟨g, 0, none⟩)] w fun e w' => ∃ x : ByteArray, e = .returned (.string x) ∧ x.size ≤ 20 ∧ CurB w' g v P (B + 2) ∧ Kpt w w' (· = g) := by
  have HC : Hid (CurB w g v P B) := hc
  clear hc
  go_enter Tryz.func62, Tryz.ntmps62
  go_wp2_with fail
  refine (of_any _ [[97, 46, 101, 120, 46, 99, 111, 109], [98, 46, 101, 120, 46, 99, 111, 109], [110, 115, 46, 101, 120, 46, 99, 111, 109], [119, 119, 119, 46, 99, 111, 109], [120, 49, 46, 115, 117, 98, 46, 101, 120, 46, 99, 111, 109]] g v P B _ (alloc_cur HC.out _) (by omega) hl (lit_rowS (L := [[97, 46, 101, 120, 46, 99, 111, 109], [98, 46, 101, 120, 46, 99, 111, 109], [110, 115, 46, 101, 120, 46, 99, 111, 109], [119, 119, 119, 46, 99, 111, 109], [120, 49, 46, 115, 117, 98, 46, 101, 120, 46, 99, 111, 109]]) (by decide)) (by decide) (lit_ne HC.out)).mono ?_
  rintro e w1 ⟨y, rfl, hm, hc, hk⟩
  have hz : (⟨y.toArray⟩ : ByteArray).size ≤ 20 := by rw [size_of]; exact all_le (n := 20) (by decide) hm
  have HC1 : Hid (CurB w1 g v P (B + 2)) := hc
  have HK1 : Hid (Kpt w w1 (· = g)) := (kpt_alloc w _ _).trans hk
  clear hc hk hm
  go_wp2_with fail
  go_ret
  exact ⟨_, rfl, hz, HC1.out, HK1.out⟩

set_option maxRecDepth 20000 in
set_option maxHeartbeats 16000000 in
theorem record_any (g : Nat) (v : Value) (P : List Int) (B : Nat) (w : World) (hc : CurB w g v P B) (hB : B ≤ 800000000) (hl : P.length ≤ 9223372036854775807) (HCL : Hid (0 < P.length → ∀ k, v.ownBlock = some k → k < w.heap.size)) :
    Calls Tryz.prog 32 #[.pointer (some ⟨g, 0, none⟩)] w fun e w' => ∃ (nm : ByteArray) (ty ttl : Int) (d : ByteArray), e = .returned (RecV nm ty ttl d) ∧ RSm nm ty ttl d ∧ CurB w' g v P (B + 100) ∧ Kpt w w' (· = g) := by
  have hgw : g < w.heap.size := hc.lt
  have HC0 : Hid (CurB (w.alloc (.cells #[.string ⟨#[]⟩, .int .i64 0, .int .i64 0, .string ⟨#[]⟩] 24)) g v P B) := alloc_cur hc _
  have HK0 : Hid (Kpt w (w.alloc (.cells #[.string ⟨#[]⟩, .int .i64 0, .int .i64 0, .string ⟨#[]⟩] 24)) (fun k => k = g ∨ w.heap.size ≤ k)) := kpt_alloc w _ _
  have HX0 : Hid (RBox (w.alloc (.cells #[.string ⟨#[]⟩, .int .i64 0, .int .i64 0, .string ⟨#[]⟩] 24)) w.heap.size ⟨#[]⟩ 0 0 ⟨#[]⟩) := rbox_new
  have HGN : Hid (w.heap.size ≠ g) := show _ ≠ _ by omega
  have HKE : Hid (∀ W, Kpt w W (fun k => k = g ∨ w.heap.size ≤ k) → Kpt w W (· = g)) := fun W h => h.mono (fun k hk hs => by omega)
  have HGK : Hid (∀ W W', Kpt w W (fun k => k = g ∨ w.heap.size ≤ k) → Kpt W W' (· = g) → Kpt w W' (fun k => k = g ∨ w.heap.size ≤ k)) := fun W W' h k => h.trans (k.mono (fun _ _ e => Or.inl e))
  clear hc
  go_enter Tryz.func32, Tryz.ntmps32
  go_wp2_with fail
  obtain ⟨W0, hW0⟩ : ∃ W0, W0 = w.alloc (.cells #[.string ⟨#[]⟩, .int .i64 0, .int .i64 0, .string ⟨#[]⟩] 24) := ⟨_, rfl⟩
  rw [← hW0] at HC0 HK0 HX0
  rw [← hW0]
  clear hW0
  obtain ⟨b2, hb2⟩ : ∃ b, b = w.heap.size := ⟨_, rfl⟩
  rw [← hb2] at HX0 HGN ⊢
  have hb2w : w.heap.size ≤ b2 := by omega
  clear hb2
  refine (name_any g v P B _ HC0.out (by omega) hl).mono ?_
  rintro e w1 ⟨nm, rfl, hnm, hc1, hk1⟩
  have HC1 : Hid (CurB w1 g v P (B + 20)) := hc1
  have HK1 : Hid (Kpt w w1 (fun k => k = g ∨ w.heap.size ≤ k)) := HGK.out _ _ HK0.out hk1
  have HX1 : Hid (RBox w1 b2 ⟨#[]⟩ 0 0 ⟨#[]⟩) := HX0.out.kpt hk1 HGN.out
  clear hc1 hk1 HC0 HK0 HX0
  go_wp2_with fail
  refine (among_any _ [1, 1, 1, 2, 5, 15, 16, 6] g v P (B + 20) _ (alloc_cur HC1.out _) (by omega) hl (lit_row (w := w1) (L := [1, 1, 1, 2, 5, 15, 16, 6]) (by decide)) (by decide) (lit_ne HC1.out)).mono ?_
  rintro e w2 ⟨ty, rfl, hty, hcn, hkn⟩
  have hkn : Kpt w1 w2 (· = g) := (kpt_alloc w1 _ _).trans hkn
  have HC2 : Hid (CurB w2 g v P (B + 22)) := hcn
  have HK2 : Hid (Kpt w w2 (fun k => k = g ∨ w.heap.size ≤ k)) := HGK.out _ _ HK1.out hkn
  have HX2 : Hid (RBox w2 b2 ⟨#[]⟩ 0 0 ⟨#[]⟩) := HX1.out.kpt hkn HGN.out
  clear hcn hkn HC1 HK1 HX1
  go_wp2_with fail
  refine (among_any _ [5, 60, 60, 300] g v P (B + 22) _ (alloc_cur HC2.out _) (by omega) hl (lit_row (w := w2) (L := [5, 60, 60, 300]) (by decide)) (by decide) (lit_ne HC2.out)).mono ?_
  rintro e w3 ⟨ttl, rfl, httl, hcn, hkn⟩
  have hkn : Kpt w2 w3 (· = g) := (kpt_alloc w2 _ _).trans hkn
  have HC3 : Hid (CurB w3 g v P (B + 24)) := hcn
  have HK3 : Hid (Kpt w w3 (fun k => k = g ∨ w.heap.size ≤ k)) := HGK.out _ _ HK2.out hkn
  have HX3 : Hid (RBox w3 b2 ⟨#[]⟩ 0 0 ⟨#[]⟩) := HX2.out.kpt hkn HGN.out
  clear hcn hkn HC2 HK2 HX2
  have httl2 : -1 ≤ ttl ∧ ttl ≤ 100001 := by simp only [List.mem_cons, List.not_mem_nil, or_false] at httl; omega
  have hty2 : ty = 1 ∨ ty = 2 ∨ ty = 5 ∨ ty = 6 ∨ ty = 15 ∨ ty = 16 := by simp only [List.mem_cons, List.not_mem_nil, or_false] at hty; omega
  clear httl hty
  rcases hty2 with rfl | rfl | rfl | rfl | rfl | rfl
  · skip
    have HC4 : Hid (CurB (w3.alloc (.cells #[.string nm, .int .i64 1, .int .i64 ttl, .string ⟨#[]⟩] 24)) g v P (B + 24)) := alloc_cur HC3.out _
    have HK4 : Hid (Kpt w (w3.alloc (.cells #[.string nm, .int .i64 1, .int .i64 ttl, .string ⟨#[]⟩] 24)) (fun k => k = g ∨ w.heap.size ≤ k)) := HK3.out.trans (kpt_alloc w3 _ _)
    have HX4 : Hid (RBox (w3.alloc (.cells #[.string nm, .int .i64 1, .int .i64 ttl, .string ⟨#[]⟩] 24)) b2 ⟨#[]⟩ 0 0 ⟨#[]⟩) := HX3.out.kpt (kpt_alloc w3 _ (fun _ => False)) id
    have HY4 : Hid (RBox (w3.alloc (.cells #[.string nm, .int .i64 1, .int .i64 ttl, .string ⟨#[]⟩] 24)) w3.heap.size nm 1 ttl ⟨#[]⟩) := rbox_new
    have hlt3 : b2 < w3.heap.size := HX3.out.lt
    have hsz3 : w.heap.size ≤ w3.heap.size := HK3.out.size
    have HG3 : Hid (w3.heap.size ≠ g) := show _ ≠ _ by omega
    have HB3 : Hid (b2 ≠ w3.heap.size) := show _ ≠ _ by omega
    go_wp2_with fail
    have hs4 : w3.heap.size + 1 = (w3.alloc (.cells #[.string nm, .int .i64 1, .int .i64 ttl, .string ⟨#[]⟩] 24)).heap.size := by simp
    obtain ⟨w4, hw4⟩ : ∃ W, W = w3.alloc (.cells #[.string nm, .int .i64 1, .int .i64 ttl, .string ⟨#[]⟩] 24) := ⟨_, rfl⟩
    rw [← hw4] at HC4 HK4 HX4 HY4 hs4
    rw [← hw4]
    clear hw4
    obtain ⟨b3, hb3⟩ : ∃ b, b = w3.heap.size := ⟨_, rfl⟩
    rw [← hb3] at HY4 HG3 HB3 hlt3 hsz3 hs4 ⊢
    clear hb3 HC3 HK3 HX3
    rw [hs4]
    clear hs4
    have hbn : ¬ b3 = b2 := fun e => HB3.out e.symm
    have hbm : ¬ b2 = b3 := HB3.out
    have HKS : Hid (∀ W k u, Kpt w W (fun k => k = g ∨ w.heap.size ≤ k) → Kpt w (W.setCell ⟨b3, k, none⟩ u) (fun k => k = g ∨ w.heap.size ≤ k)) := fun W k u h => h.trans (kpt_set W b3 k u (Or.inr hsz3))
    have HCS : Hid (∀ W k u n, CurB W g v P n → CurB (W.setCell ⟨b3, k, none⟩ u) g v P n) := fun W k u n h => h.kpt (kpt_set W b3 k u (S := (· = b3)) rfl) (fun e => HG3.out e.symm) (fun h0 k hk e => by have := HCL.out h0 k hk; omega)
    have HXS : Hid (∀ W k u, RBox W b2 ⟨#[]⟩ 0 0 ⟨#[]⟩ → RBox (W.setCell ⟨b3, k, none⟩ u) b2 ⟨#[]⟩ 0 0 ⟨#[]⟩) := fun W k u h => h.kpt (kpt_set W b3 k u (S := (· = b3)) rfl) HB3.out
    have HK2 : Hid (∀ W k u, Kpt w W (fun k => k = g ∨ w.heap.size ≤ k) → Kpt w (W.setCell ⟨b2, k, none⟩ u) (fun k => k = g ∨ w.heap.size ≤ k)) := fun W k u h => h.trans (kpt_set W b2 k u (Or.inr hb2w))
    have HC2 : Hid (∀ W k u n, CurB W g v P n → CurB (W.setCell ⟨b2, k, none⟩ u) g v P n) := fun W k u n h => h.kpt (kpt_set W b2 k u (S := (· = b2)) rfl) (fun e => HGN.out e.symm) (fun h0 k hk e => by have := HCL.out h0 k hk; omega)
    clear HCL
    refine (of_any _ [[49, 46, 50, 46, 51, 46, 52], [49, 46, 50, 46, 51, 46, 53], [49, 48, 46, 48, 46, 48, 46, 49], [57, 46, 57, 46, 57, 46, 57]] g v P (B + 24) _ (alloc_cur HC4.out _) (by omega) hl (lit_rowS (L := [[49, 46, 50, 46, 51, 46, 52], [49, 46, 50, 46, 51, 46, 53], [49, 48, 46, 48, 46, 48, 46, 49], [57, 46, 57, 46, 57, 46, 57]]) (by decide)) (by decide) (lit_ne HC4.out)).mono ?_
    rintro e w5 ⟨y, rfl, hm, hcn, hkn⟩
    have hkn : Kpt w4 w5 (· = g) := (kpt_alloc w4 _ _).trans hkn
    have HC5 : Hid (CurB w5 g v P (B + 26)) := hcn
    have HK5 : Hid (Kpt w w5 (fun k => k = g ∨ w.heap.size ≤ k)) := HGK.out _ _ HK4.out hkn
    have HX5 : Hid (RBox w5 b2 ⟨#[]⟩ 0 0 ⟨#[]⟩) := HX4.out.kpt hkn HGN.out
    have HY5 : Hid (RBox w5 b3 nm 1 ttl ⟨#[]⟩) := HY4.out.kpt hkn HG3.out
    clear hcn hkn HC4 HK4 HX4 HY4
    have hd : (⟨y.toArray⟩ : ByteArray).size ≤ 20 := by rw [size_of]; exact all_le (n := 20) (by decide) hm
    obtain ⟨d, hdd⟩ : ∃ d : ByteArray, d = ⟨y.toArray⟩ := ⟨_, rfl⟩
    rw [← hdd] at hd ⊢
    clear hdd hm
    obtain ⟨c0, c1, c2, c3⟩ := HY5.out.cells
    obtain ⟨f0, f1, f2, f3⟩ := HY5.out.free
    go_wp2_with fail
    clear c0 c1 c2 c3 f0 f1 f2 f3
    have HC6 : Hid (CurB (w5.setCell ⟨b3, 3, none⟩ (.string d)) g v P (B + 60)) := HCS.out _ _ _ _ (HC5.out.mono (by omega))
    have HK6 : Hid (Kpt w (w5.setCell ⟨b3, 3, none⟩ (.string d)) (fun k => k = g ∨ w.heap.size ≤ k)) := HKS.out _ _ _ HK5.out
    have HX6 : Hid (RBox (w5.setCell ⟨b3, 3, none⟩ (.string d)) b2 ⟨#[]⟩ 0 0 ⟨#[]⟩) := HXS.out _ _ _ HX5.out
    have HY6 : Hid (RBox (w5.setCell ⟨b3, 3, none⟩ (.string d)) b3 nm 1 ttl d) := HY5.out.set3 _
    obtain ⟨w6, hw6⟩ : ∃ W, W = (w5.setCell ⟨b3, 3, none⟩ (.string d)) := ⟨_, rfl⟩
    rw [← hw6] at HC6 HK6 HX6 HY6
    rw [← hw6]
    clear hw6 HC5 HK5 HX5 HY5
    refine (pick_any _ g v P (B + 60) _ HC6.out (by omega) hl (by omega)).mono ?_
    rintro e w7 ⟨x, rfl, hx, hcn, hkn⟩
    have hkn : Kpt w6 w7 (· = g) := hkn
    have HC7 : Hid (CurB w7 g v P (B + 62)) := hcn
    have HK7 : Hid (Kpt w w7 (fun k => k = g ∨ w.heap.size ≤ k)) := HGK.out _ _ HK6.out hkn
    have HX7 : Hid (RBox w7 b2 ⟨#[]⟩ 0 0 ⟨#[]⟩) := HX6.out.kpt hkn HGN.out
    have HY7 : Hid (RBox w7 b3 nm 1 ttl d) := HY6.out.kpt hkn HG3.out
    clear hcn hkn HC6 HK6 HX6 HY6
    by_cases h0 : x = 0
    · subst h0
      clear hx
      go_wp2_with fail
      refine (among_any _ [-1, 0, 100000, 100001] g v P (B + 62) _ (alloc_cur HC7.out _) (by omega) hl (lit_row (w := w7) (L := [-1, 0, 100000, 100001]) (by decide)) (by decide) (lit_ne HC7.out)).mono ?_
      rintro e w8 ⟨l2, rfl, hl2, hcn, hkn⟩
      have hkn : Kpt w7 w8 (· = g) := (kpt_alloc w7 _ _).trans hkn
      have HC8 : Hid (CurB w8 g v P (B + 64)) := hcn
      have HK8 : Hid (Kpt w w8 (fun k => k = g ∨ w.heap.size ≤ k)) := HGK.out _ _ HK7.out hkn
      have HX8 : Hid (RBox w8 b2 ⟨#[]⟩ 0 0 ⟨#[]⟩) := HX7.out.kpt hkn HGN.out
      have HY8 : Hid (RBox w8 b3 nm 1 ttl d) := HY7.out.kpt hkn HG3.out
      clear hcn hkn HC7 HK7 HX7 HY7
      have hl3 : -1 ≤ l2 ∧ l2 ≤ 100001 := by simp only [List.mem_cons, List.not_mem_nil, or_false] at hl2; omega
      clear hl2
      obtain ⟨c0, c1, c2, c3⟩ := HY8.out.cells
      obtain ⟨f0, f1, f2, f3⟩ := HY8.out.free
      obtain ⟨x0, x1, x2, x3⟩ := HX8.out.cells
      obtain ⟨y0, y1, y2, y3⟩ := HX8.out.free
      go_wp2_with fail
      (try simp only [Exit.inBlock, Exit.then])
      refine bodyPost_ret (results_cell_row rfl _ _ b2 24 #[.string nm, .int .i64 1, .int .i64 l2, .string d] (0, 0) _ rfl ((HXS.out _ _ _ HX8.out).put _ _ _ _) Tryz.underlying24 rfl (by kernel_rfl)) rfl ⟨nm, 1, l2, d, rfl, ⟨hnm, by omega, by omega, by omega⟩, HC2.out _ _ _ _ (HC2.out _ _ _ _ (HC2.out _ _ _ _ (HC2.out _ _ _ _ (HCS.out _ _ _ _ (HC8.out.mono (by omega)))))), HKE.out _ (HK2.out _ _ _ (HK2.out _ _ _ (HK2.out _ _ _ (HK2.out _ _ _ (HKS.out _ _ _ HK8.out)))))⟩
    · by_cases h1 : x = 1
      · subst h1
        clear hx h0
        go_wp2_with fail
        refine (of_any _ [[49, 46, 50, 46, 51], [50, 53, 54, 46, 49, 46, 49, 46, 49], [42], [52, 50, 57, 52, 57, 54, 55, 50, 57, 53], [52, 50, 57, 52, 57, 54, 55, 50, 57, 54], [55, 48, 48, 48, 48, 32, 97, 46, 98], [48, 49, 46, 50, 46, 51, 46, 52], [1]] g v P (B + 62) _ (alloc_cur HC7.out _) (by omega) hl (lit_rowS (L := [[49, 46, 50, 46, 51], [50, 53, 54, 46, 49, 46, 49, 46, 49], [42], [52, 50, 57, 52, 57, 54, 55, 50, 57, 53], [52, 50, 57, 52, 57, 54, 55, 50, 57, 54], [55, 48, 48, 48, 48, 32, 97, 46, 98], [48, 49, 46, 50, 46, 51, 46, 52], [1]]) (by decide)) (by decide) (lit_ne HC7.out)).mono ?_
        rintro e w8 ⟨y, rfl, hm, hcn, hkn⟩
        have hkn : Kpt w7 w8 (· = g) := (kpt_alloc w7 _ _).trans hkn
        have HC8 : Hid (CurB w8 g v P (B + 64)) := hcn
        have HK8 : Hid (Kpt w w8 (fun k => k = g ∨ w.heap.size ≤ k)) := HGK.out _ _ HK7.out hkn
        have HX8 : Hid (RBox w8 b2 ⟨#[]⟩ 0 0 ⟨#[]⟩) := HX7.out.kpt hkn HGN.out
        have HY8 : Hid (RBox w8 b3 nm 1 ttl d) := HY7.out.kpt hkn HG3.out
        clear hcn hkn HC7 HK7 HX7 HY7
        have he : (⟨y.toArray⟩ : ByteArray).size ≤ 20 := by rw [size_of]; exact all_le (n := 20) (by decide) hm
        obtain ⟨d2, hdd⟩ : ∃ d : ByteArray, d = ⟨y.toArray⟩ := ⟨_, rfl⟩
        rw [← hdd] at he ⊢
        clear hdd hm
        obtain ⟨c0, c1, c2, c3⟩ := HY8.out.cells
        obtain ⟨f0, f1, f2, f3⟩ := HY8.out.free
        obtain ⟨x0, x1, x2, x3⟩ := HX8.out.cells
        obtain ⟨y0, y1, y2, y3⟩ := HX8.out.free
        go_wp2_with fail
        (try simp only [Exit.inBlock, Exit.then])
        refine bodyPost_ret (results_cell_row rfl _ _ b2 24 #[.string nm, .int .i64 1, .int .i64 ttl, .string d2] (0, 0) _ rfl ((HXS.out _ _ _ HX8.out).put _ _ _ _) Tryz.underlying24 rfl (by kernel_rfl)) rfl ⟨nm, 1, ttl, d2, rfl, ⟨hnm, by omega, by omega, by omega⟩, HC2.out _ _ _ _ (HC2.out _ _ _ _ (HC2.out _ _ _ _ (HC2.out _ _ _ _ (HCS.out _ _ _ _ (HC8.out.mono (by omega)))))), HKE.out _ (HK2.out _ _ _ (HK2.out _ _ _ (HK2.out _ _ _ (HK2.out _ _ _ (HKS.out _ _ _ HK8.out)))))⟩
      · by_cases h2 : x = 2
        · subst h2
          clear hx h0 h1
          go_wp2_with fail
          refine (pick_any _ g v P (B + 62) _ HC7.out (by omega) hl (by omega)).mono ?_
          rintro e w8 ⟨t2, rfl, ht2, hcn, hkn⟩
          have hkn : Kpt w7 w8 (· = g) := hkn
          have HC8 : Hid (CurB w8 g v P (B + 64)) := hcn
          have HK8 : Hid (Kpt w w8 (fun k => k = g ∨ w.heap.size ≤ k)) := HGK.out _ _ HK7.out hkn
          have HX8 : Hid (RBox w8 b2 ⟨#[]⟩ 0 0 ⟨#[]⟩) := HX7.out.kpt hkn HGN.out
          have HY8 : Hid (RBox w8 b3 nm 1 ttl d) := HY7.out.kpt hkn HG3.out
          clear hcn hkn HC7 HK7 HX7 HY7
          obtain ⟨c0, c1, c2, c3⟩ := HY8.out.cells
          obtain ⟨f0, f1, f2, f3⟩ := HY8.out.free
          obtain ⟨x0, x1, x2, x3⟩ := HX8.out.cells
          obtain ⟨y0, y1, y2, y3⟩ := HX8.out.free
          go_wp2_with fail
          (try simp only [Exit.inBlock, Exit.then])
          refine bodyPost_ret (results_cell_row rfl _ _ b2 24 #[.string nm, .int .i64 t2, .int .i64 ttl, .string d] (0, 0) _ rfl ((HXS.out _ _ _ HX8.out).put _ _ _ _) Tryz.underlying24 rfl (by kernel_rfl)) rfl ⟨nm, t2, ttl, d, rfl, ⟨hnm, by omega, by omega, by omega⟩, HC2.out _ _ _ _ (HC2.out _ _ _ _ (HC2.out _ _ _ _ (HC2.out _ _ _ _ (HCS.out _ _ _ _ (HC8.out.mono (by omega)))))), HKE.out _ (HK2.out _ _ _ (HK2.out _ _ _ (HK2.out _ _ _ (HK2.out _ _ _ (HKS.out _ _ _ HK8.out)))))⟩
        · skip
          clear hx
          obtain ⟨c0, c1, c2, c3⟩ := HY7.out.cells
          obtain ⟨f0, f1, f2, f3⟩ := HY7.out.free
          obtain ⟨x0, x1, x2, x3⟩ := HX7.out.cells
          obtain ⟨y0, y1, y2, y3⟩ := HX7.out.free
          go_wp2_with fail
          (try simp only [Exit.inBlock, Exit.then])
          refine bodyPost_ret (results_cell_row rfl _ _ b2 24 #[.string nm, .int .i64 1, .int .i64 ttl, .string d] (0, 0) _ rfl (HX7.out.put _ _ _ _) Tryz.underlying24 rfl (by kernel_rfl)) rfl ⟨nm, 1, ttl, d, rfl, ⟨hnm, by omega, by omega, by omega⟩, HC2.out _ _ _ _ (HC2.out _ _ _ _ (HC2.out _ _ _ _ (HC2.out _ _ _ _ (HC7.out.mono (by omega))))), HKE.out _ (HK2.out _ _ _ (HK2.out _ _ _ (HK2.out _ _ _ (HK2.out _ _ _ HK7.out))))⟩
  · skip
    have HC4 : Hid (CurB (w3.alloc (.cells #[.string nm, .int .i64 2, .int .i64 ttl, .string ⟨#[]⟩] 24)) g v P (B + 24)) := alloc_cur HC3.out _
    have HK4 : Hid (Kpt w (w3.alloc (.cells #[.string nm, .int .i64 2, .int .i64 ttl, .string ⟨#[]⟩] 24)) (fun k => k = g ∨ w.heap.size ≤ k)) := HK3.out.trans (kpt_alloc w3 _ _)
    have HX4 : Hid (RBox (w3.alloc (.cells #[.string nm, .int .i64 2, .int .i64 ttl, .string ⟨#[]⟩] 24)) b2 ⟨#[]⟩ 0 0 ⟨#[]⟩) := HX3.out.kpt (kpt_alloc w3 _ (fun _ => False)) id
    have HY4 : Hid (RBox (w3.alloc (.cells #[.string nm, .int .i64 2, .int .i64 ttl, .string ⟨#[]⟩] 24)) w3.heap.size nm 2 ttl ⟨#[]⟩) := rbox_new
    have hlt3 : b2 < w3.heap.size := HX3.out.lt
    have hsz3 : w.heap.size ≤ w3.heap.size := HK3.out.size
    have HG3 : Hid (w3.heap.size ≠ g) := show _ ≠ _ by omega
    have HB3 : Hid (b2 ≠ w3.heap.size) := show _ ≠ _ by omega
    go_wp2_with fail
    have hs4 : w3.heap.size + 1 = (w3.alloc (.cells #[.string nm, .int .i64 2, .int .i64 ttl, .string ⟨#[]⟩] 24)).heap.size := by simp
    obtain ⟨w4, hw4⟩ : ∃ W, W = w3.alloc (.cells #[.string nm, .int .i64 2, .int .i64 ttl, .string ⟨#[]⟩] 24) := ⟨_, rfl⟩
    rw [← hw4] at HC4 HK4 HX4 HY4 hs4
    rw [← hw4]
    clear hw4
    obtain ⟨b3, hb3⟩ : ∃ b, b = w3.heap.size := ⟨_, rfl⟩
    rw [← hb3] at HY4 HG3 HB3 hlt3 hsz3 hs4 ⊢
    clear hb3 HC3 HK3 HX3
    clear hs4
    have hbn : ¬ b3 = b2 := fun e => HB3.out e.symm
    have hbm : ¬ b2 = b3 := HB3.out
    have HKS : Hid (∀ W k u, Kpt w W (fun k => k = g ∨ w.heap.size ≤ k) → Kpt w (W.setCell ⟨b3, k, none⟩ u) (fun k => k = g ∨ w.heap.size ≤ k)) := fun W k u h => h.trans (kpt_set W b3 k u (Or.inr hsz3))
    have HCS : Hid (∀ W k u n, CurB W g v P n → CurB (W.setCell ⟨b3, k, none⟩ u) g v P n) := fun W k u n h => h.kpt (kpt_set W b3 k u (S := (· = b3)) rfl) (fun e => HG3.out e.symm) (fun h0 k hk e => by have := HCL.out h0 k hk; omega)
    have HXS : Hid (∀ W k u, RBox W b2 ⟨#[]⟩ 0 0 ⟨#[]⟩ → RBox (W.setCell ⟨b3, k, none⟩ u) b2 ⟨#[]⟩ 0 0 ⟨#[]⟩) := fun W k u h => h.kpt (kpt_set W b3 k u (S := (· = b3)) rfl) HB3.out
    have HK2 : Hid (∀ W k u, Kpt w W (fun k => k = g ∨ w.heap.size ≤ k) → Kpt w (W.setCell ⟨b2, k, none⟩ u) (fun k => k = g ∨ w.heap.size ≤ k)) := fun W k u h => h.trans (kpt_set W b2 k u (Or.inr hb2w))
    have HC2 : Hid (∀ W k u n, CurB W g v P n → CurB (W.setCell ⟨b2, k, none⟩ u) g v P n) := fun W k u n h => h.kpt (kpt_set W b2 k u (S := (· = b2)) rfl) (fun e => HGN.out e.symm) (fun h0 k hk e => by have := HCL.out h0 k hk; omega)
    clear HCL
    refine (target_any g v P (B + 24) _ HC4.out (by omega) hl).mono ?_
    rintro e w5 ⟨d, rfl, hd, hcn, hkn⟩
    have hkn : Kpt w4 w5 (· = g) := hkn
    have HC5 : Hid (CurB w5 g v P (B + 26)) := hcn
    have HK5 : Hid (Kpt w w5 (fun k => k = g ∨ w.heap.size ≤ k)) := HGK.out _ _ HK4.out hkn
    have HX5 : Hid (RBox w5 b2 ⟨#[]⟩ 0 0 ⟨#[]⟩) := HX4.out.kpt hkn HGN.out
    have HY5 : Hid (RBox w5 b3 nm 2 ttl ⟨#[]⟩) := HY4.out.kpt hkn HG3.out
    clear hcn hkn HC4 HK4 HX4 HY4
    obtain ⟨c0, c1, c2, c3⟩ := HY5.out.cells
    obtain ⟨f0, f1, f2, f3⟩ := HY5.out.free
    go_wp2_with fail
    clear c0 c1 c2 c3 f0 f1 f2 f3
    have HC6 : Hid (CurB (w5.setCell ⟨b3, 3, none⟩ (.string d)) g v P (B + 60)) := HCS.out _ _ _ _ (HC5.out.mono (by omega))
    have HK6 : Hid (Kpt w (w5.setCell ⟨b3, 3, none⟩ (.string d)) (fun k => k = g ∨ w.heap.size ≤ k)) := HKS.out _ _ _ HK5.out
    have HX6 : Hid (RBox (w5.setCell ⟨b3, 3, none⟩ (.string d)) b2 ⟨#[]⟩ 0 0 ⟨#[]⟩) := HXS.out _ _ _ HX5.out
    have HY6 : Hid (RBox (w5.setCell ⟨b3, 3, none⟩ (.string d)) b3 nm 2 ttl d) := HY5.out.set3 _
    obtain ⟨w6, hw6⟩ : ∃ W, W = (w5.setCell ⟨b3, 3, none⟩ (.string d)) := ⟨_, rfl⟩
    rw [← hw6] at HC6 HK6 HX6 HY6
    rw [← hw6]
    clear hw6 HC5 HK5 HX5 HY5
    refine (pick_any _ g v P (B + 60) _ HC6.out (by omega) hl (by omega)).mono ?_
    rintro e w7 ⟨x, rfl, hx, hcn, hkn⟩
    have hkn : Kpt w6 w7 (· = g) := hkn
    have HC7 : Hid (CurB w7 g v P (B + 62)) := hcn
    have HK7 : Hid (Kpt w w7 (fun k => k = g ∨ w.heap.size ≤ k)) := HGK.out _ _ HK6.out hkn
    have HX7 : Hid (RBox w7 b2 ⟨#[]⟩ 0 0 ⟨#[]⟩) := HX6.out.kpt hkn HGN.out
    have HY7 : Hid (RBox w7 b3 nm 2 ttl d) := HY6.out.kpt hkn HG3.out
    clear hcn hkn HC6 HK6 HX6 HY6
    by_cases h0 : x = 0
    · subst h0
      clear hx
      go_wp2_with fail
      refine (among_any _ [-1, 0, 100000, 100001] g v P (B + 62) _ (alloc_cur HC7.out _) (by omega) hl (lit_row (w := w7) (L := [-1, 0, 100000, 100001]) (by decide)) (by decide) (lit_ne HC7.out)).mono ?_
      rintro e w8 ⟨l2, rfl, hl2, hcn, hkn⟩
      have hkn : Kpt w7 w8 (· = g) := (kpt_alloc w7 _ _).trans hkn
      have HC8 : Hid (CurB w8 g v P (B + 64)) := hcn
      have HK8 : Hid (Kpt w w8 (fun k => k = g ∨ w.heap.size ≤ k)) := HGK.out _ _ HK7.out hkn
      have HX8 : Hid (RBox w8 b2 ⟨#[]⟩ 0 0 ⟨#[]⟩) := HX7.out.kpt hkn HGN.out
      have HY8 : Hid (RBox w8 b3 nm 2 ttl d) := HY7.out.kpt hkn HG3.out
      clear hcn hkn HC7 HK7 HX7 HY7
      have hl3 : -1 ≤ l2 ∧ l2 ≤ 100001 := by simp only [List.mem_cons, List.not_mem_nil, or_false] at hl2; omega
      clear hl2
      obtain ⟨c0, c1, c2, c3⟩ := HY8.out.cells
      obtain ⟨f0, f1, f2, f3⟩ := HY8.out.free
      obtain ⟨x0, x1, x2, x3⟩ := HX8.out.cells
      obtain ⟨y0, y1, y2, y3⟩ := HX8.out.free
      go_wp2_with fail
      (try simp only [Exit.inBlock, Exit.then])
      refine bodyPost_ret (results_cell_row rfl _ _ b2 24 #[.string nm, .int .i64 2, .int .i64 l2, .string d] (0, 0) _ rfl ((HXS.out _ _ _ HX8.out).put _ _ _ _) Tryz.underlying24 rfl (by kernel_rfl)) rfl ⟨nm, 2, l2, d, rfl, ⟨hnm, by omega, by omega, by omega⟩, HC2.out _ _ _ _ (HC2.out _ _ _ _ (HC2.out _ _ _ _ (HC2.out _ _ _ _ (HCS.out _ _ _ _ (HC8.out.mono (by omega)))))), HKE.out _ (HK2.out _ _ _ (HK2.out _ _ _ (HK2.out _ _ _ (HK2.out _ _ _ (HKS.out _ _ _ HK8.out)))))⟩
    · by_cases h1 : x = 1
      · subst h1
        clear hx h0
        go_wp2_with fail
        refine (of_any _ [[49, 46, 50, 46, 51], [50, 53, 54, 46, 49, 46, 49, 46, 49], [42], [52, 50, 57, 52, 57, 54, 55, 50, 57, 53], [52, 50, 57, 52, 57, 54, 55, 50, 57, 54], [55, 48, 48, 48, 48, 32, 97, 46, 98], [48, 49, 46, 50, 46, 51, 46, 52], [1]] g v P (B + 62) _ (alloc_cur HC7.out _) (by omega) hl (lit_rowS (L := [[49, 46, 50, 46, 51], [50, 53, 54, 46, 49, 46, 49, 46, 49], [42], [52, 50, 57, 52, 57, 54, 55, 50, 57, 53], [52, 50, 57, 52, 57, 54, 55, 50, 57, 54], [55, 48, 48, 48, 48, 32, 97, 46, 98], [48, 49, 46, 50, 46, 51, 46, 52], [1]]) (by decide)) (by decide) (lit_ne HC7.out)).mono ?_
        rintro e w8 ⟨y, rfl, hm, hcn, hkn⟩
        have hkn : Kpt w7 w8 (· = g) := (kpt_alloc w7 _ _).trans hkn
        have HC8 : Hid (CurB w8 g v P (B + 64)) := hcn
        have HK8 : Hid (Kpt w w8 (fun k => k = g ∨ w.heap.size ≤ k)) := HGK.out _ _ HK7.out hkn
        have HX8 : Hid (RBox w8 b2 ⟨#[]⟩ 0 0 ⟨#[]⟩) := HX7.out.kpt hkn HGN.out
        have HY8 : Hid (RBox w8 b3 nm 2 ttl d) := HY7.out.kpt hkn HG3.out
        clear hcn hkn HC7 HK7 HX7 HY7
        have he : (⟨y.toArray⟩ : ByteArray).size ≤ 20 := by rw [size_of]; exact all_le (n := 20) (by decide) hm
        obtain ⟨d2, hdd⟩ : ∃ d : ByteArray, d = ⟨y.toArray⟩ := ⟨_, rfl⟩
        rw [← hdd] at he ⊢
        clear hdd hm
        obtain ⟨c0, c1, c2, c3⟩ := HY8.out.cells
        obtain ⟨f0, f1, f2, f3⟩ := HY8.out.free
        obtain ⟨x0, x1, x2, x3⟩ := HX8.out.cells
        obtain ⟨y0, y1, y2, y3⟩ := HX8.out.free
        go_wp2_with fail
        (try simp only [Exit.inBlock, Exit.then])
        refine bodyPost_ret (results_cell_row rfl _ _ b2 24 #[.string nm, .int .i64 2, .int .i64 ttl, .string d2] (0, 0) _ rfl ((HXS.out _ _ _ HX8.out).put _ _ _ _) Tryz.underlying24 rfl (by kernel_rfl)) rfl ⟨nm, 2, ttl, d2, rfl, ⟨hnm, by omega, by omega, by omega⟩, HC2.out _ _ _ _ (HC2.out _ _ _ _ (HC2.out _ _ _ _ (HC2.out _ _ _ _ (HCS.out _ _ _ _ (HC8.out.mono (by omega)))))), HKE.out _ (HK2.out _ _ _ (HK2.out _ _ _ (HK2.out _ _ _ (HK2.out _ _ _ (HKS.out _ _ _ HK8.out)))))⟩
      · by_cases h2 : x = 2
        · subst h2
          clear hx h0 h1
          go_wp2_with fail
          refine (pick_any _ g v P (B + 62) _ HC7.out (by omega) hl (by omega)).mono ?_
          rintro e w8 ⟨t2, rfl, ht2, hcn, hkn⟩
          have hkn : Kpt w7 w8 (· = g) := hkn
          have HC8 : Hid (CurB w8 g v P (B + 64)) := hcn
          have HK8 : Hid (Kpt w w8 (fun k => k = g ∨ w.heap.size ≤ k)) := HGK.out _ _ HK7.out hkn
          have HX8 : Hid (RBox w8 b2 ⟨#[]⟩ 0 0 ⟨#[]⟩) := HX7.out.kpt hkn HGN.out
          have HY8 : Hid (RBox w8 b3 nm 2 ttl d) := HY7.out.kpt hkn HG3.out
          clear hcn hkn HC7 HK7 HX7 HY7
          obtain ⟨c0, c1, c2, c3⟩ := HY8.out.cells
          obtain ⟨f0, f1, f2, f3⟩ := HY8.out.free
          obtain ⟨x0, x1, x2, x3⟩ := HX8.out.cells
          obtain ⟨y0, y1, y2, y3⟩ := HX8.out.free
          go_wp2_with fail
          (try simp only [Exit.inBlock, Exit.then])
          refine bodyPost_ret (results_cell_row rfl _ _ b2 24 #[.string nm, .int .i64 t2, .int .i64 ttl, .string d] (0, 0) _ rfl ((HXS.out _ _ _ HX8.out).put _ _ _ _) Tryz.underlying24 rfl (by kernel_rfl)) rfl ⟨nm, t2, ttl, d, rfl, ⟨hnm, by omega, by omega, by omega⟩, HC2.out _ _ _ _ (HC2.out _ _ _ _ (HC2.out _ _ _ _ (HC2.out _ _ _ _ (HCS.out _ _ _ _ (HC8.out.mono (by omega)))))), HKE.out _ (HK2.out _ _ _ (HK2.out _ _ _ (HK2.out _ _ _ (HK2.out _ _ _ (HKS.out _ _ _ HK8.out)))))⟩
        · skip
          clear hx
          obtain ⟨c0, c1, c2, c3⟩ := HY7.out.cells
          obtain ⟨f0, f1, f2, f3⟩ := HY7.out.free
          obtain ⟨x0, x1, x2, x3⟩ := HX7.out.cells
          obtain ⟨y0, y1, y2, y3⟩ := HX7.out.free
          go_wp2_with fail
          (try simp only [Exit.inBlock, Exit.then])
          refine bodyPost_ret (results_cell_row rfl _ _ b2 24 #[.string nm, .int .i64 2, .int .i64 ttl, .string d] (0, 0) _ rfl (HX7.out.put _ _ _ _) Tryz.underlying24 rfl (by kernel_rfl)) rfl ⟨nm, 2, ttl, d, rfl, ⟨hnm, by omega, by omega, by omega⟩, HC2.out _ _ _ _ (HC2.out _ _ _ _ (HC2.out _ _ _ _ (HC2.out _ _ _ _ (HC7.out.mono (by omega))))), HKE.out _ (HK2.out _ _ _ (HK2.out _ _ _ (HK2.out _ _ _ (HK2.out _ _ _ HK7.out))))⟩
  · skip
    have HC4 : Hid (CurB (w3.alloc (.cells #[.string nm, .int .i64 5, .int .i64 ttl, .string ⟨#[]⟩] 24)) g v P (B + 24)) := alloc_cur HC3.out _
    have HK4 : Hid (Kpt w (w3.alloc (.cells #[.string nm, .int .i64 5, .int .i64 ttl, .string ⟨#[]⟩] 24)) (fun k => k = g ∨ w.heap.size ≤ k)) := HK3.out.trans (kpt_alloc w3 _ _)
    have HX4 : Hid (RBox (w3.alloc (.cells #[.string nm, .int .i64 5, .int .i64 ttl, .string ⟨#[]⟩] 24)) b2 ⟨#[]⟩ 0 0 ⟨#[]⟩) := HX3.out.kpt (kpt_alloc w3 _ (fun _ => False)) id
    have HY4 : Hid (RBox (w3.alloc (.cells #[.string nm, .int .i64 5, .int .i64 ttl, .string ⟨#[]⟩] 24)) w3.heap.size nm 5 ttl ⟨#[]⟩) := rbox_new
    have hlt3 : b2 < w3.heap.size := HX3.out.lt
    have hsz3 : w.heap.size ≤ w3.heap.size := HK3.out.size
    have HG3 : Hid (w3.heap.size ≠ g) := show _ ≠ _ by omega
    have HB3 : Hid (b2 ≠ w3.heap.size) := show _ ≠ _ by omega
    go_wp2_with fail
    have hs4 : w3.heap.size + 1 = (w3.alloc (.cells #[.string nm, .int .i64 5, .int .i64 ttl, .string ⟨#[]⟩] 24)).heap.size := by simp
    obtain ⟨w4, hw4⟩ : ∃ W, W = w3.alloc (.cells #[.string nm, .int .i64 5, .int .i64 ttl, .string ⟨#[]⟩] 24) := ⟨_, rfl⟩
    rw [← hw4] at HC4 HK4 HX4 HY4 hs4
    rw [← hw4]
    clear hw4
    obtain ⟨b3, hb3⟩ : ∃ b, b = w3.heap.size := ⟨_, rfl⟩
    rw [← hb3] at HY4 HG3 HB3 hlt3 hsz3 hs4 ⊢
    clear hb3 HC3 HK3 HX3
    clear hs4
    have hbn : ¬ b3 = b2 := fun e => HB3.out e.symm
    have hbm : ¬ b2 = b3 := HB3.out
    have HKS : Hid (∀ W k u, Kpt w W (fun k => k = g ∨ w.heap.size ≤ k) → Kpt w (W.setCell ⟨b3, k, none⟩ u) (fun k => k = g ∨ w.heap.size ≤ k)) := fun W k u h => h.trans (kpt_set W b3 k u (Or.inr hsz3))
    have HCS : Hid (∀ W k u n, CurB W g v P n → CurB (W.setCell ⟨b3, k, none⟩ u) g v P n) := fun W k u n h => h.kpt (kpt_set W b3 k u (S := (· = b3)) rfl) (fun e => HG3.out e.symm) (fun h0 k hk e => by have := HCL.out h0 k hk; omega)
    have HXS : Hid (∀ W k u, RBox W b2 ⟨#[]⟩ 0 0 ⟨#[]⟩ → RBox (W.setCell ⟨b3, k, none⟩ u) b2 ⟨#[]⟩ 0 0 ⟨#[]⟩) := fun W k u h => h.kpt (kpt_set W b3 k u (S := (· = b3)) rfl) HB3.out
    have HK2 : Hid (∀ W k u, Kpt w W (fun k => k = g ∨ w.heap.size ≤ k) → Kpt w (W.setCell ⟨b2, k, none⟩ u) (fun k => k = g ∨ w.heap.size ≤ k)) := fun W k u h => h.trans (kpt_set W b2 k u (Or.inr hb2w))
    have HC2 : Hid (∀ W k u n, CurB W g v P n → CurB (W.setCell ⟨b2, k, none⟩ u) g v P n) := fun W k u n h => h.kpt (kpt_set W b2 k u (S := (· = b2)) rfl) (fun e => HGN.out e.symm) (fun h0 k hk e => by have := HCL.out h0 k hk; omega)
    clear HCL
    refine (target_any g v P (B + 24) _ HC4.out (by omega) hl).mono ?_
    rintro e w5 ⟨d, rfl, hd, hcn, hkn⟩
    have hkn : Kpt w4 w5 (· = g) := hkn
    have HC5 : Hid (CurB w5 g v P (B + 26)) := hcn
    have HK5 : Hid (Kpt w w5 (fun k => k = g ∨ w.heap.size ≤ k)) := HGK.out _ _ HK4.out hkn
    have HX5 : Hid (RBox w5 b2 ⟨#[]⟩ 0 0 ⟨#[]⟩) := HX4.out.kpt hkn HGN.out
    have HY5 : Hid (RBox w5 b3 nm 5 ttl ⟨#[]⟩) := HY4.out.kpt hkn HG3.out
    clear hcn hkn HC4 HK4 HX4 HY4
    obtain ⟨c0, c1, c2, c3⟩ := HY5.out.cells
    obtain ⟨f0, f1, f2, f3⟩ := HY5.out.free
    go_wp2_with fail
    clear c0 c1 c2 c3 f0 f1 f2 f3
    have HC6 : Hid (CurB (w5.setCell ⟨b3, 3, none⟩ (.string d)) g v P (B + 60)) := HCS.out _ _ _ _ (HC5.out.mono (by omega))
    have HK6 : Hid (Kpt w (w5.setCell ⟨b3, 3, none⟩ (.string d)) (fun k => k = g ∨ w.heap.size ≤ k)) := HKS.out _ _ _ HK5.out
    have HX6 : Hid (RBox (w5.setCell ⟨b3, 3, none⟩ (.string d)) b2 ⟨#[]⟩ 0 0 ⟨#[]⟩) := HXS.out _ _ _ HX5.out
    have HY6 : Hid (RBox (w5.setCell ⟨b3, 3, none⟩ (.string d)) b3 nm 5 ttl d) := HY5.out.set3 _
    obtain ⟨w6, hw6⟩ : ∃ W, W = (w5.setCell ⟨b3, 3, none⟩ (.string d)) := ⟨_, rfl⟩
    rw [← hw6] at HC6 HK6 HX6 HY6
    rw [← hw6]
    clear hw6 HC5 HK5 HX5 HY5
    refine (pick_any _ g v P (B + 60) _ HC6.out (by omega) hl (by omega)).mono ?_
    rintro e w7 ⟨x, rfl, hx, hcn, hkn⟩
    have hkn : Kpt w6 w7 (· = g) := hkn
    have HC7 : Hid (CurB w7 g v P (B + 62)) := hcn
    have HK7 : Hid (Kpt w w7 (fun k => k = g ∨ w.heap.size ≤ k)) := HGK.out _ _ HK6.out hkn
    have HX7 : Hid (RBox w7 b2 ⟨#[]⟩ 0 0 ⟨#[]⟩) := HX6.out.kpt hkn HGN.out
    have HY7 : Hid (RBox w7 b3 nm 5 ttl d) := HY6.out.kpt hkn HG3.out
    clear hcn hkn HC6 HK6 HX6 HY6
    by_cases h0 : x = 0
    · subst h0
      clear hx
      go_wp2_with fail
      refine (among_any _ [-1, 0, 100000, 100001] g v P (B + 62) _ (alloc_cur HC7.out _) (by omega) hl (lit_row (w := w7) (L := [-1, 0, 100000, 100001]) (by decide)) (by decide) (lit_ne HC7.out)).mono ?_
      rintro e w8 ⟨l2, rfl, hl2, hcn, hkn⟩
      have hkn : Kpt w7 w8 (· = g) := (kpt_alloc w7 _ _).trans hkn
      have HC8 : Hid (CurB w8 g v P (B + 64)) := hcn
      have HK8 : Hid (Kpt w w8 (fun k => k = g ∨ w.heap.size ≤ k)) := HGK.out _ _ HK7.out hkn
      have HX8 : Hid (RBox w8 b2 ⟨#[]⟩ 0 0 ⟨#[]⟩) := HX7.out.kpt hkn HGN.out
      have HY8 : Hid (RBox w8 b3 nm 5 ttl d) := HY7.out.kpt hkn HG3.out
      clear hcn hkn HC7 HK7 HX7 HY7
      have hl3 : -1 ≤ l2 ∧ l2 ≤ 100001 := by simp only [List.mem_cons, List.not_mem_nil, or_false] at hl2; omega
      clear hl2
      obtain ⟨c0, c1, c2, c3⟩ := HY8.out.cells
      obtain ⟨f0, f1, f2, f3⟩ := HY8.out.free
      obtain ⟨x0, x1, x2, x3⟩ := HX8.out.cells
      obtain ⟨y0, y1, y2, y3⟩ := HX8.out.free
      go_wp2_with fail
      (try simp only [Exit.inBlock, Exit.then])
      refine bodyPost_ret (results_cell_row rfl _ _ b2 24 #[.string nm, .int .i64 5, .int .i64 l2, .string d] (0, 0) _ rfl ((HXS.out _ _ _ HX8.out).put _ _ _ _) Tryz.underlying24 rfl (by kernel_rfl)) rfl ⟨nm, 5, l2, d, rfl, ⟨hnm, by omega, by omega, by omega⟩, HC2.out _ _ _ _ (HC2.out _ _ _ _ (HC2.out _ _ _ _ (HC2.out _ _ _ _ (HCS.out _ _ _ _ (HC8.out.mono (by omega)))))), HKE.out _ (HK2.out _ _ _ (HK2.out _ _ _ (HK2.out _ _ _ (HK2.out _ _ _ (HKS.out _ _ _ HK8.out)))))⟩
    · by_cases h1 : x = 1
      · subst h1
        clear hx h0
        go_wp2_with fail
        refine (of_any _ [[49, 46, 50, 46, 51], [50, 53, 54, 46, 49, 46, 49, 46, 49], [42], [52, 50, 57, 52, 57, 54, 55, 50, 57, 53], [52, 50, 57, 52, 57, 54, 55, 50, 57, 54], [55, 48, 48, 48, 48, 32, 97, 46, 98], [48, 49, 46, 50, 46, 51, 46, 52], [1]] g v P (B + 62) _ (alloc_cur HC7.out _) (by omega) hl (lit_rowS (L := [[49, 46, 50, 46, 51], [50, 53, 54, 46, 49, 46, 49, 46, 49], [42], [52, 50, 57, 52, 57, 54, 55, 50, 57, 53], [52, 50, 57, 52, 57, 54, 55, 50, 57, 54], [55, 48, 48, 48, 48, 32, 97, 46, 98], [48, 49, 46, 50, 46, 51, 46, 52], [1]]) (by decide)) (by decide) (lit_ne HC7.out)).mono ?_
        rintro e w8 ⟨y, rfl, hm, hcn, hkn⟩
        have hkn : Kpt w7 w8 (· = g) := (kpt_alloc w7 _ _).trans hkn
        have HC8 : Hid (CurB w8 g v P (B + 64)) := hcn
        have HK8 : Hid (Kpt w w8 (fun k => k = g ∨ w.heap.size ≤ k)) := HGK.out _ _ HK7.out hkn
        have HX8 : Hid (RBox w8 b2 ⟨#[]⟩ 0 0 ⟨#[]⟩) := HX7.out.kpt hkn HGN.out
        have HY8 : Hid (RBox w8 b3 nm 5 ttl d) := HY7.out.kpt hkn HG3.out
        clear hcn hkn HC7 HK7 HX7 HY7
        have he : (⟨y.toArray⟩ : ByteArray).size ≤ 20 := by rw [size_of]; exact all_le (n := 20) (by decide) hm
        obtain ⟨d2, hdd⟩ : ∃ d : ByteArray, d = ⟨y.toArray⟩ := ⟨_, rfl⟩
        rw [← hdd] at he ⊢
        clear hdd hm
        obtain ⟨c0, c1, c2, c3⟩ := HY8.out.cells
        obtain ⟨f0, f1, f2, f3⟩ := HY8.out.free
        obtain ⟨x0, x1, x2, x3⟩ := HX8.out.cells
        obtain ⟨y0, y1, y2, y3⟩ := HX8.out.free
        go_wp2_with fail
        (try simp only [Exit.inBlock, Exit.then])
        refine bodyPost_ret (results_cell_row rfl _ _ b2 24 #[.string nm, .int .i64 5, .int .i64 ttl, .string d2] (0, 0) _ rfl ((HXS.out _ _ _ HX8.out).put _ _ _ _) Tryz.underlying24 rfl (by kernel_rfl)) rfl ⟨nm, 5, ttl, d2, rfl, ⟨hnm, by omega, by omega, by omega⟩, HC2.out _ _ _ _ (HC2.out _ _ _ _ (HC2.out _ _ _ _ (HC2.out _ _ _ _ (HCS.out _ _ _ _ (HC8.out.mono (by omega)))))), HKE.out _ (HK2.out _ _ _ (HK2.out _ _ _ (HK2.out _ _ _ (HK2.out _ _ _ (HKS.out _ _ _ HK8.out)))))⟩
      · by_cases h2 : x = 2
        · subst h2
          clear hx h0 h1
          go_wp2_with fail
          refine (pick_any _ g v P (B + 62) _ HC7.out (by omega) hl (by omega)).mono ?_
          rintro e w8 ⟨t2, rfl, ht2, hcn, hkn⟩
          have hkn : Kpt w7 w8 (· = g) := hkn
          have HC8 : Hid (CurB w8 g v P (B + 64)) := hcn
          have HK8 : Hid (Kpt w w8 (fun k => k = g ∨ w.heap.size ≤ k)) := HGK.out _ _ HK7.out hkn
          have HX8 : Hid (RBox w8 b2 ⟨#[]⟩ 0 0 ⟨#[]⟩) := HX7.out.kpt hkn HGN.out
          have HY8 : Hid (RBox w8 b3 nm 5 ttl d) := HY7.out.kpt hkn HG3.out
          clear hcn hkn HC7 HK7 HX7 HY7
          obtain ⟨c0, c1, c2, c3⟩ := HY8.out.cells
          obtain ⟨f0, f1, f2, f3⟩ := HY8.out.free
          obtain ⟨x0, x1, x2, x3⟩ := HX8.out.cells
          obtain ⟨y0, y1, y2, y3⟩ := HX8.out.free
          go_wp2_with fail
          (try simp only [Exit.inBlock, Exit.then])
          refine bodyPost_ret (results_cell_row rfl _ _ b2 24 #[.string nm, .int .i64 t2, .int .i64 ttl, .string d] (0, 0) _ rfl ((HXS.out _ _ _ HX8.out).put _ _ _ _) Tryz.underlying24 rfl (by kernel_rfl)) rfl ⟨nm, t2, ttl, d, rfl, ⟨hnm, by omega, by omega, by omega⟩, HC2.out _ _ _ _ (HC2.out _ _ _ _ (HC2.out _ _ _ _ (HC2.out _ _ _ _ (HCS.out _ _ _ _ (HC8.out.mono (by omega)))))), HKE.out _ (HK2.out _ _ _ (HK2.out _ _ _ (HK2.out _ _ _ (HK2.out _ _ _ (HKS.out _ _ _ HK8.out)))))⟩
        · skip
          clear hx
          obtain ⟨c0, c1, c2, c3⟩ := HY7.out.cells
          obtain ⟨f0, f1, f2, f3⟩ := HY7.out.free
          obtain ⟨x0, x1, x2, x3⟩ := HX7.out.cells
          obtain ⟨y0, y1, y2, y3⟩ := HX7.out.free
          go_wp2_with fail
          (try simp only [Exit.inBlock, Exit.then])
          refine bodyPost_ret (results_cell_row rfl _ _ b2 24 #[.string nm, .int .i64 5, .int .i64 ttl, .string d] (0, 0) _ rfl (HX7.out.put _ _ _ _) Tryz.underlying24 rfl (by kernel_rfl)) rfl ⟨nm, 5, ttl, d, rfl, ⟨hnm, by omega, by omega, by omega⟩, HC2.out _ _ _ _ (HC2.out _ _ _ _ (HC2.out _ _ _ _ (HC2.out _ _ _ _ (HC7.out.mono (by omega))))), HKE.out _ (HK2.out _ _ _ (HK2.out _ _ _ (HK2.out _ _ _ (HK2.out _ _ _ HK7.out))))⟩
  · skip
    have HC4 : Hid (CurB (w3.alloc (.cells #[.string nm, .int .i64 6, .int .i64 ttl, .string ⟨#[]⟩] 24)) g v P (B + 24)) := alloc_cur HC3.out _
    have HK4 : Hid (Kpt w (w3.alloc (.cells #[.string nm, .int .i64 6, .int .i64 ttl, .string ⟨#[]⟩] 24)) (fun k => k = g ∨ w.heap.size ≤ k)) := HK3.out.trans (kpt_alloc w3 _ _)
    have HX4 : Hid (RBox (w3.alloc (.cells #[.string nm, .int .i64 6, .int .i64 ttl, .string ⟨#[]⟩] 24)) b2 ⟨#[]⟩ 0 0 ⟨#[]⟩) := HX3.out.kpt (kpt_alloc w3 _ (fun _ => False)) id
    have HY4 : Hid (RBox (w3.alloc (.cells #[.string nm, .int .i64 6, .int .i64 ttl, .string ⟨#[]⟩] 24)) w3.heap.size nm 6 ttl ⟨#[]⟩) := rbox_new
    have hlt3 : b2 < w3.heap.size := HX3.out.lt
    have hsz3 : w.heap.size ≤ w3.heap.size := HK3.out.size
    have HG3 : Hid (w3.heap.size ≠ g) := show _ ≠ _ by omega
    have HB3 : Hid (b2 ≠ w3.heap.size) := show _ ≠ _ by omega
    go_wp2_with fail
    have hs4 : w3.heap.size + 1 = (w3.alloc (.cells #[.string nm, .int .i64 6, .int .i64 ttl, .string ⟨#[]⟩] 24)).heap.size := by simp
    obtain ⟨w4, hw4⟩ : ∃ W, W = w3.alloc (.cells #[.string nm, .int .i64 6, .int .i64 ttl, .string ⟨#[]⟩] 24) := ⟨_, rfl⟩
    rw [← hw4] at HC4 HK4 HX4 HY4 hs4
    rw [← hw4]
    clear hw4
    obtain ⟨b3, hb3⟩ : ∃ b, b = w3.heap.size := ⟨_, rfl⟩
    rw [← hb3] at HY4 HG3 HB3 hlt3 hsz3 hs4 ⊢
    clear hb3 HC3 HK3 HX3
    clear hs4
    have hbn : ¬ b3 = b2 := fun e => HB3.out e.symm
    have hbm : ¬ b2 = b3 := HB3.out
    have HKS : Hid (∀ W k u, Kpt w W (fun k => k = g ∨ w.heap.size ≤ k) → Kpt w (W.setCell ⟨b3, k, none⟩ u) (fun k => k = g ∨ w.heap.size ≤ k)) := fun W k u h => h.trans (kpt_set W b3 k u (Or.inr hsz3))
    have HCS : Hid (∀ W k u n, CurB W g v P n → CurB (W.setCell ⟨b3, k, none⟩ u) g v P n) := fun W k u n h => h.kpt (kpt_set W b3 k u (S := (· = b3)) rfl) (fun e => HG3.out e.symm) (fun h0 k hk e => by have := HCL.out h0 k hk; omega)
    have HXS : Hid (∀ W k u, RBox W b2 ⟨#[]⟩ 0 0 ⟨#[]⟩ → RBox (W.setCell ⟨b3, k, none⟩ u) b2 ⟨#[]⟩ 0 0 ⟨#[]⟩) := fun W k u h => h.kpt (kpt_set W b3 k u (S := (· = b3)) rfl) HB3.out
    have HK2 : Hid (∀ W k u, Kpt w W (fun k => k = g ∨ w.heap.size ≤ k) → Kpt w (W.setCell ⟨b2, k, none⟩ u) (fun k => k = g ∨ w.heap.size ≤ k)) := fun W k u h => h.trans (kpt_set W b2 k u (Or.inr hb2w))
    have HC2 : Hid (∀ W k u n, CurB W g v P n → CurB (W.setCell ⟨b2, k, none⟩ u) g v P n) := fun W k u n h => h.kpt (kpt_set W b2 k u (S := (· = b2)) rfl) (fun e => HGN.out e.symm) (fun h0 k hk e => by have := HCL.out h0 k hk; omega)
    clear HCL
    refine (pick_any _ g v P (B + 24) _ HC4.out (by omega) hl (by omega)).mono ?_
    rintro e w5 ⟨i0, rfl, hi0, hcn, hkn⟩
    have hkn : Kpt w4 w5 (· = g) := hkn
    have HC5 : Hid (CurB w5 g v P (B + 26)) := hcn
    have HK5 : Hid (Kpt w w5 (fun k => k = g ∨ w.heap.size ≤ k)) := HGK.out _ _ HK4.out hkn
    have HX5 : Hid (RBox w5 b2 ⟨#[]⟩ 0 0 ⟨#[]⟩) := HX4.out.kpt hkn HGN.out
    have HY5 : Hid (RBox w5 b3 nm 6 ttl ⟨#[]⟩) := HY4.out.kpt hkn HG3.out
    clear hcn hkn HC4 HK4 HX4 HY4
    obtain ⟨i, rfl⟩ : ∃ i : Nat, i0 = (i : Int) := Int.eq_ofNat_of_zero_le hi0.1
    have hi : i < 30 := by omega
    clear hi0
    go_wp2_with fail
    refine (l1Num_any i i _ (Nat.le_refl _) (by omega)).mono ?_
    rintro e w6 ⟨rfl, hbn⟩
    have hkn : Kpt w5 w6 (· = g) := below_kpt0 hbn _
    have HC6 : Hid (CurB w6 g v P (B + 26)) := HC5.out.kpt (below_kpt0 hbn (fun _ => False)) id (fun _ _ _ => id)
    have HK6 : Hid (Kpt w w6 (fun k => k = g ∨ w.heap.size ≤ k)) := HGK.out _ _ HK5.out hkn
    have HX6 : Hid (RBox w6 b2 ⟨#[]⟩ 0 0 ⟨#[]⟩) := HX5.out.kpt hkn HGN.out
    have HY6 : Hid (RBox w6 b3 nm 6 ttl ⟨#[]⟩) := HY5.out.kpt hkn HG3.out
    have hnl : (⟨(numL i).toArray⟩ : ByteArray).size ≤ 3 := by rw [size_of]; exact numL_length 2 i (by omega)
    obtain ⟨q, hq⟩ : ∃ q : ByteArray, q = ⟨(numL i).toArray⟩ := ⟨_, rfl⟩
    rw [← hq] at hnl ⊢
    clear hq hbn hkn HC5 HK5 HX5 HY5
    obtain ⟨d, hdd⟩ : ∃ d : ByteArray, d = q := ⟨_, rfl⟩
    subst hdd
    have hd : d.size ≤ 20 := by omega
    obtain ⟨c0, c1, c2, c3⟩ := HY6.out.cells
    obtain ⟨f0, f1, f2, f3⟩ := HY6.out.free
    go_wp2_with fail
    clear c0 c1 c2 c3 f0 f1 f2 f3
    have HC7 : Hid (CurB (w6.setCell ⟨b3, 3, none⟩ (.string d)) g v P (B + 60)) := HCS.out _ _ _ _ (HC6.out.mono (by omega))
    have HK7 : Hid (Kpt w (w6.setCell ⟨b3, 3, none⟩ (.string d)) (fun k => k = g ∨ w.heap.size ≤ k)) := HKS.out _ _ _ HK6.out
    have HX7 : Hid (RBox (w6.setCell ⟨b3, 3, none⟩ (.string d)) b2 ⟨#[]⟩ 0 0 ⟨#[]⟩) := HXS.out _ _ _ HX6.out
    have HY7 : Hid (RBox (w6.setCell ⟨b3, 3, none⟩ (.string d)) b3 nm 6 ttl d) := HY6.out.set3 _
    obtain ⟨w7, hw7⟩ : ∃ W, W = (w6.setCell ⟨b3, 3, none⟩ (.string d)) := ⟨_, rfl⟩
    rw [← hw7] at HC7 HK7 HX7 HY7
    rw [← hw7]
    clear hw7 HC6 HK6 HX6 HY6
    refine (pick_any _ g v P (B + 60) _ HC7.out (by omega) hl (by omega)).mono ?_
    rintro e w8 ⟨x, rfl, hx, hcn, hkn⟩
    have hkn : Kpt w7 w8 (· = g) := hkn
    have HC8 : Hid (CurB w8 g v P (B + 62)) := hcn
    have HK8 : Hid (Kpt w w8 (fun k => k = g ∨ w.heap.size ≤ k)) := HGK.out _ _ HK7.out hkn
    have HX8 : Hid (RBox w8 b2 ⟨#[]⟩ 0 0 ⟨#[]⟩) := HX7.out.kpt hkn HGN.out
    have HY8 : Hid (RBox w8 b3 nm 6 ttl d) := HY7.out.kpt hkn HG3.out
    clear hcn hkn HC7 HK7 HX7 HY7
    by_cases h0 : x = 0
    · subst h0
      clear hx
      go_wp2_with fail
      refine (among_any _ [-1, 0, 100000, 100001] g v P (B + 62) _ (alloc_cur HC8.out _) (by omega) hl (lit_row (w := w8) (L := [-1, 0, 100000, 100001]) (by decide)) (by decide) (lit_ne HC8.out)).mono ?_
      rintro e w9 ⟨l2, rfl, hl2, hcn, hkn⟩
      have hkn : Kpt w8 w9 (· = g) := (kpt_alloc w8 _ _).trans hkn
      have HC9 : Hid (CurB w9 g v P (B + 64)) := hcn
      have HK9 : Hid (Kpt w w9 (fun k => k = g ∨ w.heap.size ≤ k)) := HGK.out _ _ HK8.out hkn
      have HX9 : Hid (RBox w9 b2 ⟨#[]⟩ 0 0 ⟨#[]⟩) := HX8.out.kpt hkn HGN.out
      have HY9 : Hid (RBox w9 b3 nm 6 ttl d) := HY8.out.kpt hkn HG3.out
      clear hcn hkn HC8 HK8 HX8 HY8
      have hl3 : -1 ≤ l2 ∧ l2 ≤ 100001 := by simp only [List.mem_cons, List.not_mem_nil, or_false] at hl2; omega
      clear hl2
      obtain ⟨c0, c1, c2, c3⟩ := HY9.out.cells
      obtain ⟨f0, f1, f2, f3⟩ := HY9.out.free
      obtain ⟨x0, x1, x2, x3⟩ := HX9.out.cells
      obtain ⟨y0, y1, y2, y3⟩ := HX9.out.free
      go_wp2_with fail
      (try simp only [Exit.inBlock, Exit.then])
      refine bodyPost_ret (results_cell_row rfl _ _ b2 24 #[.string nm, .int .i64 6, .int .i64 l2, .string d] (0, 0) _ rfl ((HXS.out _ _ _ HX9.out).put _ _ _ _) Tryz.underlying24 rfl (by kernel_rfl)) rfl ⟨nm, 6, l2, d, rfl, ⟨hnm, by omega, by omega, by omega⟩, HC2.out _ _ _ _ (HC2.out _ _ _ _ (HC2.out _ _ _ _ (HC2.out _ _ _ _ (HCS.out _ _ _ _ (HC9.out.mono (by omega)))))), HKE.out _ (HK2.out _ _ _ (HK2.out _ _ _ (HK2.out _ _ _ (HK2.out _ _ _ (HKS.out _ _ _ HK9.out)))))⟩
    · by_cases h1 : x = 1
      · subst h1
        clear hx h0
        go_wp2_with fail
        refine (of_any _ [[49, 46, 50, 46, 51], [50, 53, 54, 46, 49, 46, 49, 46, 49], [42], [52, 50, 57, 52, 57, 54, 55, 50, 57, 53], [52, 50, 57, 52, 57, 54, 55, 50, 57, 54], [55, 48, 48, 48, 48, 32, 97, 46, 98], [48, 49, 46, 50, 46, 51, 46, 52], [1]] g v P (B + 62) _ (alloc_cur HC8.out _) (by omega) hl (lit_rowS (L := [[49, 46, 50, 46, 51], [50, 53, 54, 46, 49, 46, 49, 46, 49], [42], [52, 50, 57, 52, 57, 54, 55, 50, 57, 53], [52, 50, 57, 52, 57, 54, 55, 50, 57, 54], [55, 48, 48, 48, 48, 32, 97, 46, 98], [48, 49, 46, 50, 46, 51, 46, 52], [1]]) (by decide)) (by decide) (lit_ne HC8.out)).mono ?_
        rintro e w9 ⟨y, rfl, hm, hcn, hkn⟩
        have hkn : Kpt w8 w9 (· = g) := (kpt_alloc w8 _ _).trans hkn
        have HC9 : Hid (CurB w9 g v P (B + 64)) := hcn
        have HK9 : Hid (Kpt w w9 (fun k => k = g ∨ w.heap.size ≤ k)) := HGK.out _ _ HK8.out hkn
        have HX9 : Hid (RBox w9 b2 ⟨#[]⟩ 0 0 ⟨#[]⟩) := HX8.out.kpt hkn HGN.out
        have HY9 : Hid (RBox w9 b3 nm 6 ttl d) := HY8.out.kpt hkn HG3.out
        clear hcn hkn HC8 HK8 HX8 HY8
        have he : (⟨y.toArray⟩ : ByteArray).size ≤ 20 := by rw [size_of]; exact all_le (n := 20) (by decide) hm
        obtain ⟨d2, hdd⟩ : ∃ d : ByteArray, d = ⟨y.toArray⟩ := ⟨_, rfl⟩
        rw [← hdd] at he ⊢
        clear hdd hm
        obtain ⟨c0, c1, c2, c3⟩ := HY9.out.cells
        obtain ⟨f0, f1, f2, f3⟩ := HY9.out.free
        obtain ⟨x0, x1, x2, x3⟩ := HX9.out.cells
        obtain ⟨y0, y1, y2, y3⟩ := HX9.out.free
        go_wp2_with fail
        (try simp only [Exit.inBlock, Exit.then])
        refine bodyPost_ret (results_cell_row rfl _ _ b2 24 #[.string nm, .int .i64 6, .int .i64 ttl, .string d2] (0, 0) _ rfl ((HXS.out _ _ _ HX9.out).put _ _ _ _) Tryz.underlying24 rfl (by kernel_rfl)) rfl ⟨nm, 6, ttl, d2, rfl, ⟨hnm, by omega, by omega, by omega⟩, HC2.out _ _ _ _ (HC2.out _ _ _ _ (HC2.out _ _ _ _ (HC2.out _ _ _ _ (HCS.out _ _ _ _ (HC9.out.mono (by omega)))))), HKE.out _ (HK2.out _ _ _ (HK2.out _ _ _ (HK2.out _ _ _ (HK2.out _ _ _ (HKS.out _ _ _ HK9.out)))))⟩
      · by_cases h2 : x = 2
        · subst h2
          clear hx h0 h1
          go_wp2_with fail
          refine (pick_any _ g v P (B + 62) _ HC8.out (by omega) hl (by omega)).mono ?_
          rintro e w9 ⟨t2, rfl, ht2, hcn, hkn⟩
          have hkn : Kpt w8 w9 (· = g) := hkn
          have HC9 : Hid (CurB w9 g v P (B + 64)) := hcn
          have HK9 : Hid (Kpt w w9 (fun k => k = g ∨ w.heap.size ≤ k)) := HGK.out _ _ HK8.out hkn
          have HX9 : Hid (RBox w9 b2 ⟨#[]⟩ 0 0 ⟨#[]⟩) := HX8.out.kpt hkn HGN.out
          have HY9 : Hid (RBox w9 b3 nm 6 ttl d) := HY8.out.kpt hkn HG3.out
          clear hcn hkn HC8 HK8 HX8 HY8
          obtain ⟨c0, c1, c2, c3⟩ := HY9.out.cells
          obtain ⟨f0, f1, f2, f3⟩ := HY9.out.free
          obtain ⟨x0, x1, x2, x3⟩ := HX9.out.cells
          obtain ⟨y0, y1, y2, y3⟩ := HX9.out.free
          go_wp2_with fail
          (try simp only [Exit.inBlock, Exit.then])
          refine bodyPost_ret (results_cell_row rfl _ _ b2 24 #[.string nm, .int .i64 t2, .int .i64 ttl, .string d] (0, 0) _ rfl ((HXS.out _ _ _ HX9.out).put _ _ _ _) Tryz.underlying24 rfl (by kernel_rfl)) rfl ⟨nm, t2, ttl, d, rfl, ⟨hnm, by omega, by omega, by omega⟩, HC2.out _ _ _ _ (HC2.out _ _ _ _ (HC2.out _ _ _ _ (HC2.out _ _ _ _ (HCS.out _ _ _ _ (HC9.out.mono (by omega)))))), HKE.out _ (HK2.out _ _ _ (HK2.out _ _ _ (HK2.out _ _ _ (HK2.out _ _ _ (HKS.out _ _ _ HK9.out)))))⟩
        · skip
          clear hx
          obtain ⟨c0, c1, c2, c3⟩ := HY8.out.cells
          obtain ⟨f0, f1, f2, f3⟩ := HY8.out.free
          obtain ⟨x0, x1, x2, x3⟩ := HX8.out.cells
          obtain ⟨y0, y1, y2, y3⟩ := HX8.out.free
          go_wp2_with fail
          (try simp only [Exit.inBlock, Exit.then])
          refine bodyPost_ret (results_cell_row rfl _ _ b2 24 #[.string nm, .int .i64 6, .int .i64 ttl, .string d] (0, 0) _ rfl (HX8.out.put _ _ _ _) Tryz.underlying24 rfl (by kernel_rfl)) rfl ⟨nm, 6, ttl, d, rfl, ⟨hnm, by omega, by omega, by omega⟩, HC2.out _ _ _ _ (HC2.out _ _ _ _ (HC2.out _ _ _ _ (HC2.out _ _ _ _ (HC8.out.mono (by omega))))), HKE.out _ (HK2.out _ _ _ (HK2.out _ _ _ (HK2.out _ _ _ (HK2.out _ _ _ HK8.out))))⟩
  · skip
    have HC4 : Hid (CurB (w3.alloc (.cells #[.string nm, .int .i64 15, .int .i64 ttl, .string ⟨#[]⟩] 24)) g v P (B + 24)) := alloc_cur HC3.out _
    have HK4 : Hid (Kpt w (w3.alloc (.cells #[.string nm, .int .i64 15, .int .i64 ttl, .string ⟨#[]⟩] 24)) (fun k => k = g ∨ w.heap.size ≤ k)) := HK3.out.trans (kpt_alloc w3 _ _)
    have HX4 : Hid (RBox (w3.alloc (.cells #[.string nm, .int .i64 15, .int .i64 ttl, .string ⟨#[]⟩] 24)) b2 ⟨#[]⟩ 0 0 ⟨#[]⟩) := HX3.out.kpt (kpt_alloc w3 _ (fun _ => False)) id
    have HY4 : Hid (RBox (w3.alloc (.cells #[.string nm, .int .i64 15, .int .i64 ttl, .string ⟨#[]⟩] 24)) w3.heap.size nm 15 ttl ⟨#[]⟩) := rbox_new
    have hlt3 : b2 < w3.heap.size := HX3.out.lt
    have hsz3 : w.heap.size ≤ w3.heap.size := HK3.out.size
    have HG3 : Hid (w3.heap.size ≠ g) := show _ ≠ _ by omega
    have HB3 : Hid (b2 ≠ w3.heap.size) := show _ ≠ _ by omega
    go_wp2_with fail
    have hs4 : w3.heap.size + 1 = (w3.alloc (.cells #[.string nm, .int .i64 15, .int .i64 ttl, .string ⟨#[]⟩] 24)).heap.size := by simp
    obtain ⟨w4, hw4⟩ : ∃ W, W = w3.alloc (.cells #[.string nm, .int .i64 15, .int .i64 ttl, .string ⟨#[]⟩] 24) := ⟨_, rfl⟩
    rw [← hw4] at HC4 HK4 HX4 HY4 hs4
    rw [← hw4]
    clear hw4
    obtain ⟨b3, hb3⟩ : ∃ b, b = w3.heap.size := ⟨_, rfl⟩
    rw [← hb3] at HY4 HG3 HB3 hlt3 hsz3 hs4 ⊢
    clear hb3 HC3 HK3 HX3
    clear hs4
    have hbn : ¬ b3 = b2 := fun e => HB3.out e.symm
    have hbm : ¬ b2 = b3 := HB3.out
    have HKS : Hid (∀ W k u, Kpt w W (fun k => k = g ∨ w.heap.size ≤ k) → Kpt w (W.setCell ⟨b3, k, none⟩ u) (fun k => k = g ∨ w.heap.size ≤ k)) := fun W k u h => h.trans (kpt_set W b3 k u (Or.inr hsz3))
    have HCS : Hid (∀ W k u n, CurB W g v P n → CurB (W.setCell ⟨b3, k, none⟩ u) g v P n) := fun W k u n h => h.kpt (kpt_set W b3 k u (S := (· = b3)) rfl) (fun e => HG3.out e.symm) (fun h0 k hk e => by have := HCL.out h0 k hk; omega)
    have HXS : Hid (∀ W k u, RBox W b2 ⟨#[]⟩ 0 0 ⟨#[]⟩ → RBox (W.setCell ⟨b3, k, none⟩ u) b2 ⟨#[]⟩ 0 0 ⟨#[]⟩) := fun W k u h => h.kpt (kpt_set W b3 k u (S := (· = b3)) rfl) HB3.out
    have HK2 : Hid (∀ W k u, Kpt w W (fun k => k = g ∨ w.heap.size ≤ k) → Kpt w (W.setCell ⟨b2, k, none⟩ u) (fun k => k = g ∨ w.heap.size ≤ k)) := fun W k u h => h.trans (kpt_set W b2 k u (Or.inr hb2w))
    have HC2 : Hid (∀ W k u n, CurB W g v P n → CurB (W.setCell ⟨b2, k, none⟩ u) g v P n) := fun W k u n h => h.kpt (kpt_set W b2 k u (S := (· = b2)) rfl) (fun e => HGN.out e.symm) (fun h0 k hk e => by have := HCL.out h0 k hk; omega)
    clear HCL
    refine (pick_any _ g v P (B + 24) _ HC4.out (by omega) hl (by omega)).mono ?_
    rintro e w5 ⟨i0, rfl, hi0, hcn, hkn⟩
    have hkn : Kpt w4 w5 (· = g) := hkn
    have HC5 : Hid (CurB w5 g v P (B + 26)) := hcn
    have HK5 : Hid (Kpt w w5 (fun k => k = g ∨ w.heap.size ≤ k)) := HGK.out _ _ HK4.out hkn
    have HX5 : Hid (RBox w5 b2 ⟨#[]⟩ 0 0 ⟨#[]⟩) := HX4.out.kpt hkn HGN.out
    have HY5 : Hid (RBox w5 b3 nm 15 ttl ⟨#[]⟩) := HY4.out.kpt hkn HG3.out
    clear hcn hkn HC4 HK4 HX4 HY4
    obtain ⟨i, rfl⟩ : ∃ i : Nat, i0 = (i : Int) := Int.eq_ofNat_of_zero_le hi0.1
    have hi : i < 30 := by omega
    clear hi0
    go_wp2_with fail
    refine (l1Num_any i i _ (Nat.le_refl _) (by omega)).mono ?_
    rintro e w6 ⟨rfl, hbn⟩
    have hkn : Kpt w5 w6 (· = g) := below_kpt0 hbn _
    have HC6 : Hid (CurB w6 g v P (B + 26)) := HC5.out.kpt (below_kpt0 hbn (fun _ => False)) id (fun _ _ _ => id)
    have HK6 : Hid (Kpt w w6 (fun k => k = g ∨ w.heap.size ≤ k)) := HGK.out _ _ HK5.out hkn
    have HX6 : Hid (RBox w6 b2 ⟨#[]⟩ 0 0 ⟨#[]⟩) := HX5.out.kpt hkn HGN.out
    have HY6 : Hid (RBox w6 b3 nm 15 ttl ⟨#[]⟩) := HY5.out.kpt hkn HG3.out
    have hnl : (⟨(numL i).toArray⟩ : ByteArray).size ≤ 3 := by rw [size_of]; exact numL_length 2 i (by omega)
    obtain ⟨q, hq⟩ : ∃ q : ByteArray, q = ⟨(numL i).toArray⟩ := ⟨_, rfl⟩
    rw [← hq] at hnl ⊢
    clear hq hbn hkn HC5 HK5 HX5 HY5
    go_wp2_with fail
    refine (target_any g v P (B + 26) _ HC6.out (by omega) hl).mono ?_
    rintro e w7 ⟨t, rfl, ht, hcn, hkn⟩
    have hkn : Kpt w6 w7 (· = g) := hkn
    have HC7 : Hid (CurB w7 g v P (B + 28)) := hcn
    have HK7 : Hid (Kpt w w7 (fun k => k = g ∨ w.heap.size ≤ k)) := HGK.out _ _ HK6.out hkn
    have HX7 : Hid (RBox w7 b2 ⟨#[]⟩ 0 0 ⟨#[]⟩) := HX6.out.kpt hkn HGN.out
    have HY7 : Hid (RBox w7 b3 nm 15 ttl ⟨#[]⟩) := HY6.out.kpt hkn HG3.out
    clear hcn hkn HC6 HK6 HX6 HY6
    obtain ⟨d, hdd⟩ : ∃ d : ByteArray, d = q ++ ⟨#[32]⟩ ++ t := ⟨_, rfl⟩
    have hd : d.size ≤ 30 := by rw [hdd, ByteArray.size_append, ByteArray.size_append, show (⟨#[32]⟩ : ByteArray).size = 1 from rfl]; omega
    obtain ⟨c0, c1, c2, c3⟩ := HY7.out.cells
    obtain ⟨f0, f1, f2, f3⟩ := HY7.out.free
    go_wp2_with fail
    rw [← hdd]
    clear hdd
    clear c0 c1 c2 c3 f0 f1 f2 f3
    have HC8 : Hid (CurB (w7.setCell ⟨b3, 3, none⟩ (.string d)) g v P (B + 60)) := HCS.out _ _ _ _ (HC7.out.mono (by omega))
    have HK8 : Hid (Kpt w (w7.setCell ⟨b3, 3, none⟩ (.string d)) (fun k => k = g ∨ w.heap.size ≤ k)) := HKS.out _ _ _ HK7.out
    have HX8 : Hid (RBox (w7.setCell ⟨b3, 3, none⟩ (.string d)) b2 ⟨#[]⟩ 0 0 ⟨#[]⟩) := HXS.out _ _ _ HX7.out
    have HY8 : Hid (RBox (w7.setCell ⟨b3, 3, none⟩ (.string d)) b3 nm 15 ttl d) := HY7.out.set3 _
    obtain ⟨w8, hw8⟩ : ∃ W, W = (w7.setCell ⟨b3, 3, none⟩ (.string d)) := ⟨_, rfl⟩
    rw [← hw8] at HC8 HK8 HX8 HY8
    rw [← hw8]
    clear hw8 HC7 HK7 HX7 HY7
    refine (pick_any _ g v P (B + 60) _ HC8.out (by omega) hl (by omega)).mono ?_
    rintro e w9 ⟨x, rfl, hx, hcn, hkn⟩
    have hkn : Kpt w8 w9 (· = g) := hkn
    have HC9 : Hid (CurB w9 g v P (B + 62)) := hcn
    have HK9 : Hid (Kpt w w9 (fun k => k = g ∨ w.heap.size ≤ k)) := HGK.out _ _ HK8.out hkn
    have HX9 : Hid (RBox w9 b2 ⟨#[]⟩ 0 0 ⟨#[]⟩) := HX8.out.kpt hkn HGN.out
    have HY9 : Hid (RBox w9 b3 nm 15 ttl d) := HY8.out.kpt hkn HG3.out
    clear hcn hkn HC8 HK8 HX8 HY8
    by_cases h0 : x = 0
    · subst h0
      clear hx
      go_wp2_with fail
      refine (among_any _ [-1, 0, 100000, 100001] g v P (B + 62) _ (alloc_cur HC9.out _) (by omega) hl (lit_row (w := w9) (L := [-1, 0, 100000, 100001]) (by decide)) (by decide) (lit_ne HC9.out)).mono ?_
      rintro e w10 ⟨l2, rfl, hl2, hcn, hkn⟩
      have hkn : Kpt w9 w10 (· = g) := (kpt_alloc w9 _ _).trans hkn
      have HC10 : Hid (CurB w10 g v P (B + 64)) := hcn
      have HK10 : Hid (Kpt w w10 (fun k => k = g ∨ w.heap.size ≤ k)) := HGK.out _ _ HK9.out hkn
      have HX10 : Hid (RBox w10 b2 ⟨#[]⟩ 0 0 ⟨#[]⟩) := HX9.out.kpt hkn HGN.out
      have HY10 : Hid (RBox w10 b3 nm 15 ttl d) := HY9.out.kpt hkn HG3.out
      clear hcn hkn HC9 HK9 HX9 HY9
      have hl3 : -1 ≤ l2 ∧ l2 ≤ 100001 := by simp only [List.mem_cons, List.not_mem_nil, or_false] at hl2; omega
      clear hl2
      obtain ⟨c0, c1, c2, c3⟩ := HY10.out.cells
      obtain ⟨f0, f1, f2, f3⟩ := HY10.out.free
      obtain ⟨x0, x1, x2, x3⟩ := HX10.out.cells
      obtain ⟨y0, y1, y2, y3⟩ := HX10.out.free
      go_wp2_with fail
      (try simp only [Exit.inBlock, Exit.then])
      refine bodyPost_ret (results_cell_row rfl _ _ b2 24 #[.string nm, .int .i64 15, .int .i64 l2, .string d] (0, 0) _ rfl ((HXS.out _ _ _ HX10.out).put _ _ _ _) Tryz.underlying24 rfl (by kernel_rfl)) rfl ⟨nm, 15, l2, d, rfl, ⟨hnm, by omega, by omega, by omega⟩, HC2.out _ _ _ _ (HC2.out _ _ _ _ (HC2.out _ _ _ _ (HC2.out _ _ _ _ (HCS.out _ _ _ _ (HC10.out.mono (by omega)))))), HKE.out _ (HK2.out _ _ _ (HK2.out _ _ _ (HK2.out _ _ _ (HK2.out _ _ _ (HKS.out _ _ _ HK10.out)))))⟩
    · by_cases h1 : x = 1
      · subst h1
        clear hx h0
        go_wp2_with fail
        refine (of_any _ [[49, 46, 50, 46, 51], [50, 53, 54, 46, 49, 46, 49, 46, 49], [42], [52, 50, 57, 52, 57, 54, 55, 50, 57, 53], [52, 50, 57, 52, 57, 54, 55, 50, 57, 54], [55, 48, 48, 48, 48, 32, 97, 46, 98], [48, 49, 46, 50, 46, 51, 46, 52], [1]] g v P (B + 62) _ (alloc_cur HC9.out _) (by omega) hl (lit_rowS (L := [[49, 46, 50, 46, 51], [50, 53, 54, 46, 49, 46, 49, 46, 49], [42], [52, 50, 57, 52, 57, 54, 55, 50, 57, 53], [52, 50, 57, 52, 57, 54, 55, 50, 57, 54], [55, 48, 48, 48, 48, 32, 97, 46, 98], [48, 49, 46, 50, 46, 51, 46, 52], [1]]) (by decide)) (by decide) (lit_ne HC9.out)).mono ?_
        rintro e w10 ⟨y, rfl, hm, hcn, hkn⟩
        have hkn : Kpt w9 w10 (· = g) := (kpt_alloc w9 _ _).trans hkn
        have HC10 : Hid (CurB w10 g v P (B + 64)) := hcn
        have HK10 : Hid (Kpt w w10 (fun k => k = g ∨ w.heap.size ≤ k)) := HGK.out _ _ HK9.out hkn
        have HX10 : Hid (RBox w10 b2 ⟨#[]⟩ 0 0 ⟨#[]⟩) := HX9.out.kpt hkn HGN.out
        have HY10 : Hid (RBox w10 b3 nm 15 ttl d) := HY9.out.kpt hkn HG3.out
        clear hcn hkn HC9 HK9 HX9 HY9
        have he : (⟨y.toArray⟩ : ByteArray).size ≤ 20 := by rw [size_of]; exact all_le (n := 20) (by decide) hm
        obtain ⟨d2, hdd⟩ : ∃ d : ByteArray, d = ⟨y.toArray⟩ := ⟨_, rfl⟩
        rw [← hdd] at he ⊢
        clear hdd hm
        obtain ⟨c0, c1, c2, c3⟩ := HY10.out.cells
        obtain ⟨f0, f1, f2, f3⟩ := HY10.out.free
        obtain ⟨x0, x1, x2, x3⟩ := HX10.out.cells
        obtain ⟨y0, y1, y2, y3⟩ := HX10.out.free
        go_wp2_with fail
        (try simp only [Exit.inBlock, Exit.then])
        refine bodyPost_ret (results_cell_row rfl _ _ b2 24 #[.string nm, .int .i64 15, .int .i64 ttl, .string d2] (0, 0) _ rfl ((HXS.out _ _ _ HX10.out).put _ _ _ _) Tryz.underlying24 rfl (by kernel_rfl)) rfl ⟨nm, 15, ttl, d2, rfl, ⟨hnm, by omega, by omega, by omega⟩, HC2.out _ _ _ _ (HC2.out _ _ _ _ (HC2.out _ _ _ _ (HC2.out _ _ _ _ (HCS.out _ _ _ _ (HC10.out.mono (by omega)))))), HKE.out _ (HK2.out _ _ _ (HK2.out _ _ _ (HK2.out _ _ _ (HK2.out _ _ _ (HKS.out _ _ _ HK10.out)))))⟩
      · by_cases h2 : x = 2
        · subst h2
          clear hx h0 h1
          go_wp2_with fail
          refine (pick_any _ g v P (B + 62) _ HC9.out (by omega) hl (by omega)).mono ?_
          rintro e w10 ⟨t2, rfl, ht2, hcn, hkn⟩
          have hkn : Kpt w9 w10 (· = g) := hkn
          have HC10 : Hid (CurB w10 g v P (B + 64)) := hcn
          have HK10 : Hid (Kpt w w10 (fun k => k = g ∨ w.heap.size ≤ k)) := HGK.out _ _ HK9.out hkn
          have HX10 : Hid (RBox w10 b2 ⟨#[]⟩ 0 0 ⟨#[]⟩) := HX9.out.kpt hkn HGN.out
          have HY10 : Hid (RBox w10 b3 nm 15 ttl d) := HY9.out.kpt hkn HG3.out
          clear hcn hkn HC9 HK9 HX9 HY9
          obtain ⟨c0, c1, c2, c3⟩ := HY10.out.cells
          obtain ⟨f0, f1, f2, f3⟩ := HY10.out.free
          obtain ⟨x0, x1, x2, x3⟩ := HX10.out.cells
          obtain ⟨y0, y1, y2, y3⟩ := HX10.out.free
          go_wp2_with fail
          (try simp only [Exit.inBlock, Exit.then])
          refine bodyPost_ret (results_cell_row rfl _ _ b2 24 #[.string nm, .int .i64 t2, .int .i64 ttl, .string d] (0, 0) _ rfl ((HXS.out _ _ _ HX10.out).put _ _ _ _) Tryz.underlying24 rfl (by kernel_rfl)) rfl ⟨nm, t2, ttl, d, rfl, ⟨hnm, by omega, by omega, by omega⟩, HC2.out _ _ _ _ (HC2.out _ _ _ _ (HC2.out _ _ _ _ (HC2.out _ _ _ _ (HCS.out _ _ _ _ (HC10.out.mono (by omega)))))), HKE.out _ (HK2.out _ _ _ (HK2.out _ _ _ (HK2.out _ _ _ (HK2.out _ _ _ (HKS.out _ _ _ HK10.out)))))⟩
        · skip
          clear hx
          obtain ⟨c0, c1, c2, c3⟩ := HY9.out.cells
          obtain ⟨f0, f1, f2, f3⟩ := HY9.out.free
          obtain ⟨x0, x1, x2, x3⟩ := HX9.out.cells
          obtain ⟨y0, y1, y2, y3⟩ := HX9.out.free
          go_wp2_with fail
          (try simp only [Exit.inBlock, Exit.then])
          refine bodyPost_ret (results_cell_row rfl _ _ b2 24 #[.string nm, .int .i64 15, .int .i64 ttl, .string d] (0, 0) _ rfl (HX9.out.put _ _ _ _) Tryz.underlying24 rfl (by kernel_rfl)) rfl ⟨nm, 15, ttl, d, rfl, ⟨hnm, by omega, by omega, by omega⟩, HC2.out _ _ _ _ (HC2.out _ _ _ _ (HC2.out _ _ _ _ (HC2.out _ _ _ _ (HC9.out.mono (by omega))))), HKE.out _ (HK2.out _ _ _ (HK2.out _ _ _ (HK2.out _ _ _ (HK2.out _ _ _ HK9.out))))⟩
  · skip
    have HC4 : Hid (CurB (w3.alloc (.cells #[.string nm, .int .i64 16, .int .i64 ttl, .string ⟨#[]⟩] 24)) g v P (B + 24)) := alloc_cur HC3.out _
    have HK4 : Hid (Kpt w (w3.alloc (.cells #[.string nm, .int .i64 16, .int .i64 ttl, .string ⟨#[]⟩] 24)) (fun k => k = g ∨ w.heap.size ≤ k)) := HK3.out.trans (kpt_alloc w3 _ _)
    have HX4 : Hid (RBox (w3.alloc (.cells #[.string nm, .int .i64 16, .int .i64 ttl, .string ⟨#[]⟩] 24)) b2 ⟨#[]⟩ 0 0 ⟨#[]⟩) := HX3.out.kpt (kpt_alloc w3 _ (fun _ => False)) id
    have HY4 : Hid (RBox (w3.alloc (.cells #[.string nm, .int .i64 16, .int .i64 ttl, .string ⟨#[]⟩] 24)) w3.heap.size nm 16 ttl ⟨#[]⟩) := rbox_new
    have hlt3 : b2 < w3.heap.size := HX3.out.lt
    have hsz3 : w.heap.size ≤ w3.heap.size := HK3.out.size
    have HG3 : Hid (w3.heap.size ≠ g) := show _ ≠ _ by omega
    have HB3 : Hid (b2 ≠ w3.heap.size) := show _ ≠ _ by omega
    go_wp2_with fail
    have hs4 : w3.heap.size + 1 = (w3.alloc (.cells #[.string nm, .int .i64 16, .int .i64 ttl, .string ⟨#[]⟩] 24)).heap.size := by simp
    obtain ⟨w4, hw4⟩ : ∃ W, W = w3.alloc (.cells #[.string nm, .int .i64 16, .int .i64 ttl, .string ⟨#[]⟩] 24) := ⟨_, rfl⟩
    rw [← hw4] at HC4 HK4 HX4 HY4 hs4
    rw [← hw4]
    clear hw4
    obtain ⟨b3, hb3⟩ : ∃ b, b = w3.heap.size := ⟨_, rfl⟩
    rw [← hb3] at HY4 HG3 HB3 hlt3 hsz3 hs4 ⊢
    clear hb3 HC3 HK3 HX3
    rw [hs4]
    clear hs4
    have hbn : ¬ b3 = b2 := fun e => HB3.out e.symm
    have hbm : ¬ b2 = b3 := HB3.out
    have HKS : Hid (∀ W k u, Kpt w W (fun k => k = g ∨ w.heap.size ≤ k) → Kpt w (W.setCell ⟨b3, k, none⟩ u) (fun k => k = g ∨ w.heap.size ≤ k)) := fun W k u h => h.trans (kpt_set W b3 k u (Or.inr hsz3))
    have HCS : Hid (∀ W k u n, CurB W g v P n → CurB (W.setCell ⟨b3, k, none⟩ u) g v P n) := fun W k u n h => h.kpt (kpt_set W b3 k u (S := (· = b3)) rfl) (fun e => HG3.out e.symm) (fun h0 k hk e => by have := HCL.out h0 k hk; omega)
    have HXS : Hid (∀ W k u, RBox W b2 ⟨#[]⟩ 0 0 ⟨#[]⟩ → RBox (W.setCell ⟨b3, k, none⟩ u) b2 ⟨#[]⟩ 0 0 ⟨#[]⟩) := fun W k u h => h.kpt (kpt_set W b3 k u (S := (· = b3)) rfl) HB3.out
    have HK2 : Hid (∀ W k u, Kpt w W (fun k => k = g ∨ w.heap.size ≤ k) → Kpt w (W.setCell ⟨b2, k, none⟩ u) (fun k => k = g ∨ w.heap.size ≤ k)) := fun W k u h => h.trans (kpt_set W b2 k u (Or.inr hb2w))
    have HC2 : Hid (∀ W k u n, CurB W g v P n → CurB (W.setCell ⟨b2, k, none⟩ u) g v P n) := fun W k u n h => h.kpt (kpt_set W b2 k u (S := (· = b2)) rfl) (fun e => HGN.out e.symm) (fun h0 k hk e => by have := HCL.out h0 k hk; omega)
    clear HCL
    refine (of_any _ [[104, 101, 108, 108, 111], [], [118, 61, 49, 32, 120]] g v P (B + 24) _ (alloc_cur HC4.out _) (by omega) hl (lit_rowS (L := [[104, 101, 108, 108, 111], [], [118, 61, 49, 32, 120]]) (by decide)) (by decide) (lit_ne HC4.out)).mono ?_
    rintro e w5 ⟨y, rfl, hm, hcn, hkn⟩
    have hkn : Kpt w4 w5 (· = g) := (kpt_alloc w4 _ _).trans hkn
    have HC5 : Hid (CurB w5 g v P (B + 26)) := hcn
    have HK5 : Hid (Kpt w w5 (fun k => k = g ∨ w.heap.size ≤ k)) := HGK.out _ _ HK4.out hkn
    have HX5 : Hid (RBox w5 b2 ⟨#[]⟩ 0 0 ⟨#[]⟩) := HX4.out.kpt hkn HGN.out
    have HY5 : Hid (RBox w5 b3 nm 16 ttl ⟨#[]⟩) := HY4.out.kpt hkn HG3.out
    clear hcn hkn HC4 HK4 HX4 HY4
    have hd : (⟨y.toArray⟩ : ByteArray).size ≤ 20 := by rw [size_of]; exact all_le (n := 20) (by decide) hm
    obtain ⟨d, hdd⟩ : ∃ d : ByteArray, d = ⟨y.toArray⟩ := ⟨_, rfl⟩
    rw [← hdd] at hd ⊢
    clear hdd hm
    obtain ⟨c0, c1, c2, c3⟩ := HY5.out.cells
    obtain ⟨f0, f1, f2, f3⟩ := HY5.out.free
    go_wp2_with fail
    clear c0 c1 c2 c3 f0 f1 f2 f3
    have HC6 : Hid (CurB (w5.setCell ⟨b3, 3, none⟩ (.string d)) g v P (B + 60)) := HCS.out _ _ _ _ (HC5.out.mono (by omega))
    have HK6 : Hid (Kpt w (w5.setCell ⟨b3, 3, none⟩ (.string d)) (fun k => k = g ∨ w.heap.size ≤ k)) := HKS.out _ _ _ HK5.out
    have HX6 : Hid (RBox (w5.setCell ⟨b3, 3, none⟩ (.string d)) b2 ⟨#[]⟩ 0 0 ⟨#[]⟩) := HXS.out _ _ _ HX5.out
    have HY6 : Hid (RBox (w5.setCell ⟨b3, 3, none⟩ (.string d)) b3 nm 16 ttl d) := HY5.out.set3 _
    obtain ⟨w6, hw6⟩ : ∃ W, W = (w5.setCell ⟨b3, 3, none⟩ (.string d)) := ⟨_, rfl⟩
    rw [← hw6] at HC6 HK6 HX6 HY6
    rw [← hw6]
    clear hw6 HC5 HK5 HX5 HY5
    refine (pick_any _ g v P (B + 60) _ HC6.out (by omega) hl (by omega)).mono ?_
    rintro e w7 ⟨x, rfl, hx, hcn, hkn⟩
    have hkn : Kpt w6 w7 (· = g) := hkn
    have HC7 : Hid (CurB w7 g v P (B + 62)) := hcn
    have HK7 : Hid (Kpt w w7 (fun k => k = g ∨ w.heap.size ≤ k)) := HGK.out _ _ HK6.out hkn
    have HX7 : Hid (RBox w7 b2 ⟨#[]⟩ 0 0 ⟨#[]⟩) := HX6.out.kpt hkn HGN.out
    have HY7 : Hid (RBox w7 b3 nm 16 ttl d) := HY6.out.kpt hkn HG3.out
    clear hcn hkn HC6 HK6 HX6 HY6
    by_cases h0 : x = 0
    · subst h0
      clear hx
      go_wp2_with fail
      refine (among_any _ [-1, 0, 100000, 100001] g v P (B + 62) _ (alloc_cur HC7.out _) (by omega) hl (lit_row (w := w7) (L := [-1, 0, 100000, 100001]) (by decide)) (by decide) (lit_ne HC7.out)).mono ?_
      rintro e w8 ⟨l2, rfl, hl2, hcn, hkn⟩
      have hkn : Kpt w7 w8 (· = g) := (kpt_alloc w7 _ _).trans hkn
      have HC8 : Hid (CurB w8 g v P (B + 64)) := hcn
      have HK8 : Hid (Kpt w w8 (fun k => k = g ∨ w.heap.size ≤ k)) := HGK.out _ _ HK7.out hkn
      have HX8 : Hid (RBox w8 b2 ⟨#[]⟩ 0 0 ⟨#[]⟩) := HX7.out.kpt hkn HGN.out
      have HY8 : Hid (RBox w8 b3 nm 16 ttl d) := HY7.out.kpt hkn HG3.out
      clear hcn hkn HC7 HK7 HX7 HY7
      have hl3 : -1 ≤ l2 ∧ l2 ≤ 100001 := by simp only [List.mem_cons, List.not_mem_nil, or_false] at hl2; omega
      clear hl2
      obtain ⟨c0, c1, c2, c3⟩ := HY8.out.cells
      obtain ⟨f0, f1, f2, f3⟩ := HY8.out.free
      obtain ⟨x0, x1, x2, x3⟩ := HX8.out.cells
      obtain ⟨y0, y1, y2, y3⟩ := HX8.out.free
      go_wp2_with fail
      (try simp only [Exit.inBlock, Exit.then])
      refine bodyPost_ret (results_cell_row rfl _ _ b2 24 #[.string nm, .int .i64 16, .int .i64 l2, .string d] (0, 0) _ rfl ((HXS.out _ _ _ HX8.out).put _ _ _ _) Tryz.underlying24 rfl (by kernel_rfl)) rfl ⟨nm, 16, l2, d, rfl, ⟨hnm, by omega, by omega, by omega⟩, HC2.out _ _ _ _ (HC2.out _ _ _ _ (HC2.out _ _ _ _ (HC2.out _ _ _ _ (HCS.out _ _ _ _ (HC8.out.mono (by omega)))))), HKE.out _ (HK2.out _ _ _ (HK2.out _ _ _ (HK2.out _ _ _ (HK2.out _ _ _ (HKS.out _ _ _ HK8.out)))))⟩
    · by_cases h1 : x = 1
      · subst h1
        clear hx h0
        go_wp2_with fail
        refine (of_any _ [[49, 46, 50, 46, 51], [50, 53, 54, 46, 49, 46, 49, 46, 49], [42], [52, 50, 57, 52, 57, 54, 55, 50, 57, 53], [52, 50, 57, 52, 57, 54, 55, 50, 57, 54], [55, 48, 48, 48, 48, 32, 97, 46, 98], [48, 49, 46, 50, 46, 51, 46, 52], [1]] g v P (B + 62) _ (alloc_cur HC7.out _) (by omega) hl (lit_rowS (L := [[49, 46, 50, 46, 51], [50, 53, 54, 46, 49, 46, 49, 46, 49], [42], [52, 50, 57, 52, 57, 54, 55, 50, 57, 53], [52, 50, 57, 52, 57, 54, 55, 50, 57, 54], [55, 48, 48, 48, 48, 32, 97, 46, 98], [48, 49, 46, 50, 46, 51, 46, 52], [1]]) (by decide)) (by decide) (lit_ne HC7.out)).mono ?_
        rintro e w8 ⟨y, rfl, hm, hcn, hkn⟩
        have hkn : Kpt w7 w8 (· = g) := (kpt_alloc w7 _ _).trans hkn
        have HC8 : Hid (CurB w8 g v P (B + 64)) := hcn
        have HK8 : Hid (Kpt w w8 (fun k => k = g ∨ w.heap.size ≤ k)) := HGK.out _ _ HK7.out hkn
        have HX8 : Hid (RBox w8 b2 ⟨#[]⟩ 0 0 ⟨#[]⟩) := HX7.out.kpt hkn HGN.out
        have HY8 : Hid (RBox w8 b3 nm 16 ttl d) := HY7.out.kpt hkn HG3.out
        clear hcn hkn HC7 HK7 HX7 HY7
        have he : (⟨y.toArray⟩ : ByteArray).size ≤ 20 := by rw [size_of]; exact all_le (n := 20) (by decide) hm
        obtain ⟨d2, hdd⟩ : ∃ d : ByteArray, d = ⟨y.toArray⟩ := ⟨_, rfl⟩
        rw [← hdd] at he ⊢
        clear hdd hm
        obtain ⟨c0, c1, c2, c3⟩ := HY8.out.cells
        obtain ⟨f0, f1, f2, f3⟩ := HY8.out.free
        obtain ⟨x0, x1, x2, x3⟩ := HX8.out.cells
        obtain ⟨y0, y1, y2, y3⟩ := HX8.out.free
        go_wp2_with fail
        (try simp only [Exit.inBlock, Exit.then])
        refine bodyPost_ret (results_cell_row rfl _ _ b2 24 #[.string nm, .int .i64 16, .int .i64 ttl, .string d2] (0, 0) _ rfl ((HXS.out _ _ _ HX8.out).put _ _ _ _) Tryz.underlying24 rfl (by kernel_rfl)) rfl ⟨nm, 16, ttl, d2, rfl, ⟨hnm, by omega, by omega, by omega⟩, HC2.out _ _ _ _ (HC2.out _ _ _ _ (HC2.out _ _ _ _ (HC2.out _ _ _ _ (HCS.out _ _ _ _ (HC8.out.mono (by omega)))))), HKE.out _ (HK2.out _ _ _ (HK2.out _ _ _ (HK2.out _ _ _ (HK2.out _ _ _ (HKS.out _ _ _ HK8.out)))))⟩
      · by_cases h2 : x = 2
        · subst h2
          clear hx h0 h1
          go_wp2_with fail
          refine (pick_any _ g v P (B + 62) _ HC7.out (by omega) hl (by omega)).mono ?_
          rintro e w8 ⟨t2, rfl, ht2, hcn, hkn⟩
          have hkn : Kpt w7 w8 (· = g) := hkn
          have HC8 : Hid (CurB w8 g v P (B + 64)) := hcn
          have HK8 : Hid (Kpt w w8 (fun k => k = g ∨ w.heap.size ≤ k)) := HGK.out _ _ HK7.out hkn
          have HX8 : Hid (RBox w8 b2 ⟨#[]⟩ 0 0 ⟨#[]⟩) := HX7.out.kpt hkn HGN.out
          have HY8 : Hid (RBox w8 b3 nm 16 ttl d) := HY7.out.kpt hkn HG3.out
          clear hcn hkn HC7 HK7 HX7 HY7
          obtain ⟨c0, c1, c2, c3⟩ := HY8.out.cells
          obtain ⟨f0, f1, f2, f3⟩ := HY8.out.free
          obtain ⟨x0, x1, x2, x3⟩ := HX8.out.cells
          obtain ⟨y0, y1, y2, y3⟩ := HX8.out.free
          go_wp2_with fail
          (try simp only [Exit.inBlock, Exit.then])
          refine bodyPost_ret (results_cell_row rfl _ _ b2 24 #[.string nm, .int .i64 t2, .int .i64 ttl, .string d] (0, 0) _ rfl ((HXS.out _ _ _ HX8.out).put _ _ _ _) Tryz.underlying24 rfl (by kernel_rfl)) rfl ⟨nm, t2, ttl, d, rfl, ⟨hnm, by omega, by omega, by omega⟩, HC2.out _ _ _ _ (HC2.out _ _ _ _ (HC2.out _ _ _ _ (HC2.out _ _ _ _ (HCS.out _ _ _ _ (HC8.out.mono (by omega)))))), HKE.out _ (HK2.out _ _ _ (HK2.out _ _ _ (HK2.out _ _ _ (HK2.out _ _ _ (HKS.out _ _ _ HK8.out)))))⟩
        · skip
          clear hx
          obtain ⟨c0, c1, c2, c3⟩ := HY7.out.cells
          obtain ⟨f0, f1, f2, f3⟩ := HY7.out.free
          obtain ⟨x0, x1, x2, x3⟩ := HX7.out.cells
          obtain ⟨y0, y1, y2, y3⟩ := HX7.out.free
          go_wp2_with fail
          (try simp only [Exit.inBlock, Exit.then])
          refine bodyPost_ret (results_cell_row rfl _ _ b2 24 #[.string nm, .int .i64 16, .int .i64 ttl, .string d] (0, 0) _ rfl (HX7.out.put _ _ _ _) Tryz.underlying24 rfl (by kernel_rfl)) rfl ⟨nm, 16, ttl, d, rfl, ⟨hnm, by omega, by omega, by omega⟩, HC2.out _ _ _ _ (HC2.out _ _ _ _ (HC2.out _ _ _ _ (HC2.out _ _ _ _ (HC7.out.mono (by omega))))), HKE.out _ (HK2.out _ _ _ (HK2.out _ _ _ (HK2.out _ _ _ (HK2.out _ _ _ HK7.out))))⟩
end Go.Proofs.YtdmellmmhipncaaGreatDoor
