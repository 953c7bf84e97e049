/- The walk of the statement MatPlaces: it returns true of all matrices, lists of numbers and places. -/
import Derived.Test.YtagahiahhgafpaaDoorPlacesL
import Derived.Test.YtagahiahhgafpaaDoorPlacesB1
import Derived.Test.YtagahiahhgafpaaDoorPlacesB2
import Derived.Test.YtagahiahhgafpaaDoorPlacesG1
import Derived.Test.YtagahiahhgafpaaDoorPlacesG2
namespace Go.Proofs.YtagahiahhgafpaaDoor
open Go.RowKit Gf
theorem places_walk (r c N0 N1 : Int) (l cap ln cn : Nat) (a an : Option Addr) (xs : List F) (ns : List Int) (w : World) (hx : l = xs.length) (hcap : l ≤ cap) (hm : cap ≤ 140737488351232) (hX : Row8 w a xs) (hna : a = none → cap = 0)
    (hv : ln = ns.length) (hcv : ln ≤ cn) (hmv : cn ≤ 17592186043904) (hV : RowI w an ns) (hnb : an = none → cn = 0) (es : List Addr) (hes : ErrsAt w gsNum es) :
    Calls Tryd.prog 4 #[.agg #[.int .i64 r, .int .i64 c, .slice a l cap], .slice an ln cn, .agg #[.int .i64 N0, .int .i64 N1]] w fun e w' => e = .returned (.bool true) ∧ Below w.heap.size w w' := by
  obtain ⟨s0, he0, hs, _⟩ := errs_at hes 1 0 rfl
  obtain ⟨s1, he1, hs1, _⟩ := errs_at hes 11 1 rfl
  by_cases h1 : 0 ≤ r ∧ r ≤ 64 ∧ 0 ≤ c ∧ c ≤ 64 ∧ (l : Int) = r * c
  · obtain ⟨r, rfl⟩ := Int.eq_ofNat_of_zero_le h1.1
    obtain ⟨c, rfl⟩ := Int.eq_ofNat_of_zero_le h1.2.2.1
    have hl : l = r * c := by have := h1.2.2.2.2; rw [← Int.natCast_mul] at this; omega
    have hr : r ≤ 64 := by omega
    have hc : c ≤ 64 := by omega
    by_cases hL : ln ≤ 64
    · by_cases hG : ∀ n ∈ ns, 0 ≤ n ∧ n < r
      · by_cases h0 : N0 < 0
        · exact places_1aG r c l cap ln cn N0 N1 a an xs ns w hr hc hl h0 hL hG hx hcap hm hX hna hv hcv hmv hV hnb es hes s0 s1 he0 he1 hs hs1
        by_cases h2 : (r : Int) ≤ N0
        · exact places_1bG r c l cap ln cn N0 N1 a an xs ns w hr hc hl h0 h2 hL hG hx hcap hm hX hna hv hcv hmv hV hnb es hes s0 s1 he0 he1 hs hs1
        obtain ⟨i, rfl⟩ := Int.eq_ofNat_of_zero_le (show 0 ≤ N0 by omega)
        have hi : i < r := by omega
        by_cases h3 : N1 < 0
        · exact places_2aG r c l cap ln cn i N1 a an xs ns w hr hc hl hi h3 hL hG hx hcap hm hX hna hv hcv hmv hV hnb es hes s0 s1 he0 he1 hs hs1
        by_cases h4 : (c : Int) ≤ N1
        · exact places_2bG r c l cap ln cn i N1 a an xs ns w hr hc hl hi h3 h4 hL hG hx hcap hm hX hna hv hcv hmv hV hnb es hes s0 s1 he0 he1 hs hs1
        obtain ⟨j, rfl⟩ := Int.eq_ofNat_of_zero_le (show 0 ≤ N1 by omega)
        exact places_3G r c l cap ln cn i j a an xs ns w hr hc hl hi (by omega) hL hG hx hcap hm hX hna hv hcv hmv hV hnb es hes s0 s1 he0 he1 hs hs1
      · by_cases h0 : N0 < 0
        · exact places_1aB r c l cap ln cn N0 N1 a an xs ns w hr hc hl h0 hL hG hx hcap hm hX hna hv hcv hmv hV hnb es hes s0 s1 he0 he1 hs hs1
        by_cases h2 : (r : Int) ≤ N0
        · exact places_1bB r c l cap ln cn N0 N1 a an xs ns w hr hc hl h0 h2 hL hG hx hcap hm hX hna hv hcv hmv hV hnb es hes s0 s1 he0 he1 hs hs1
        obtain ⟨i, rfl⟩ := Int.eq_ofNat_of_zero_le (show 0 ≤ N0 by omega)
        have hi : i < r := by omega
        by_cases h3 : N1 < 0
        · exact places_2aB r c l cap ln cn i N1 a an xs ns w hr hc hl hi h3 hL hG hx hcap hm hX hna hv hcv hmv hV hnb es hes s0 s1 he0 he1 hs hs1
        by_cases h4 : (c : Int) ≤ N1
        · exact places_2bB r c l cap ln cn i N1 a an xs ns w hr hc hl hi h3 h4 hL hG hx hcap hm hX hna hv hcv hmv hV hnb es hes s0 s1 he0 he1 hs hs1
        obtain ⟨j, rfl⟩ := Int.eq_ofNat_of_zero_le (show 0 ≤ N1 by omega)
        exact places_3B r c l cap ln cn i j a an xs ns w hr hc hl hi (by omega) hL hG hx hcap hm hX hna hv hcv hmv hV hnb es hes s0 s1 he0 he1 hs hs1
    · have hL2 : 64 < ln := by omega
      by_cases h0 : N0 < 0
      · exact places_1aL r c l cap ln cn N0 N1 a an xs ns w hr hc hl h0 hL2 hx hcap hm hX hna hv hcv hmv hV hnb es hes s0 s1 he0 he1 hs hs1
      by_cases h2 : (r : Int) ≤ N0
      · exact places_1bL r c l cap ln cn N0 N1 a an xs ns w hr hc hl h0 h2 hL2 hx hcap hm hX hna hv hcv hmv hV hnb es hes s0 s1 he0 he1 hs hs1
      obtain ⟨i, rfl⟩ := Int.eq_ofNat_of_zero_le (show 0 ≤ N0 by omega)
      have hi : i < r := by omega
      by_cases h3 : N1 < 0
      · exact places_2aL r c l cap ln cn i N1 a an xs ns w hr hc hl hi h3 hL2 hx hcap hm hX hna hv hcv hmv hV hnb es hes s0 s1 he0 he1 hs hs1
      by_cases h4 : (c : Int) ≤ N1
      · exact places_2bL r c l cap ln cn i N1 a an xs ns w hr hc hl hi h3 h4 hL2 hx hcap hm hX hna hv hcv hmv hV hnb es hes s0 s1 he0 he1 hs hs1
      obtain ⟨j, rfl⟩ := Int.eq_ofNat_of_zero_le (show 0 ≤ N1 by omega)
      exact places_3L r c l cap ln cn i j a an xs ns w hr hc hl hi (by omega) hL2 hx hcap hm hX hna hv hcv hmv hV hnb es hes s0 s1 he0 he1 hs hs1
  · exact places_A r c l cap ln cn N0 N1 a an xs ns w h1 hx hcap hm hX hna hv hcv hmv hV hnb es hes s0 s1 he0 he1 hs hs1
end Go.Proofs.YtagahiahhgafpaaDoor
