import Derived.Test.YtcjffofoheloeaaDoorRRecS
import Derived.Test.YtcjffofoheloeaaDoorRRecN
namespace Go.Proofs.YtcjffofoheloeaaDoor
open Go.RowKit

theorem sReadRecord_any (s : ByteArray) (w : World) (hs : s.size ≤ 1048576) :
    Calls Tryd.prog 4 #[.string s] w fun e w' => e = .returned (rrVal (rrO s.data.toList)) ∧ Below w.heap.size w w' := by
  by_cases h4 : (cut 32 s.data.toList).length < 4
  · exact sRead_short s w hs h4
  · obtain ⟨p, q, t, r, hl, hc, _⟩ := split_three (b := 32) (l := s.data.toList) (by omega)
    rw [rr_split hl hc]
    by_cases hp : p = [46]
    · subst hp
      rw [show nmOf [46] = [] from rfl]
      cases hG : recB [] (intV t) (intV q) r with
      | false => rw [if_neg (by rintro ⟨h, _⟩; cases h)]; exact sRead_dot_bad s q t r w hs hl hc hG
      | true =>
        by_cases hT : recT [] (intV t).toNat (intV q).toNat r = s.data.toList
        · rw [if_pos ⟨rfl, hT⟩]; exact sRead_dot_same s q t r w hs hl hc hG hT
        · rw [if_neg (fun h => hT h.2)]; exact sRead_dot_other s q t r w hs hl hc hG hT
    · rw [show nmOf p = p from if_neg hp]
      cases hG : recB p (intV t) (intV q) r with
      | false => rw [if_neg (by rintro ⟨h, _⟩; cases h)]; exact sRead_name_bad s p q t r w hs hl hc hp hG
      | true =>
        by_cases hT : recT p (intV t).toNat (intV q).toNat r = s.data.toList
        · rw [if_pos ⟨rfl, hT⟩]; exact sRead_name_same s p q t r w hs hl hc hp hG hT
        · rw [if_neg (fun h => hT h.2)]; exact sRead_name_other s p q t r w hs hl hc hp hG hT
end Go.Proofs.YtcjffofoheloeaaDoor
