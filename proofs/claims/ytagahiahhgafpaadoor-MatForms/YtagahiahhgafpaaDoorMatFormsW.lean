/- The walk of the statement MatForms: it returns true of all matrices, lists of rows and sizes. -/
import Derived.Test.YtagahiahhgafpaaDoorFormsYA
import Derived.Test.YtagahiahhgafpaaDoorFormsYB
import Derived.Test.YtagahiahhgafpaaDoorFormsNA
import Derived.Test.YtagahiahhgafpaaDoorFormsNB
namespace Go.Proofs.YtagahiahhgafpaaDoor
open Go.RowKit Gf
theorem forms_walk (r c n0 n1 : Int) (l cap lr cr : Nat) (a ar : Option Addr) (xs : List F) (L : List (List F)) (w : World) (hx : l = xs.length) (hcap : l ≤ cap) (hm : cap ≤ 140737488351232) (hX : Row8 w a xs) (hna : a = none → cap = 0)
    (hlr : lr = L.length) (hR : Rows8 w ar L) (hcp : ∀ b off, ar = some ⟨b, off, none⟩ → ∀ j n a' cap', w.cell? ⟨b, off + j, none⟩ = some (.slice a' n cap') → j < L.length → a' = none → cap' = 0)
    (es : List Addr) (hes : ErrsAt w gsNum es) :
    Calls Tryd.prog 3 #[.agg #[.int .i64 r, .int .i64 c, .slice a l cap], .slice ar lr cr, .agg #[.int .i64 n0, .int .i64 n1]] w fun e w' => e = .returned (.bool true) ∧ Below w.heap.size w w' := by
  obtain ⟨s, hs, hs2, _⟩ := errs_at hes 1 0 rfl
  by_cases h1 : 0 ≤ r ∧ r ≤ 64 ∧ 0 ≤ c ∧ c ≤ 64 ∧ (l : Int) = r * c
  · obtain ⟨r, rfl⟩ := Int.eq_ofNat_of_zero_le h1.1
    obtain ⟨c, rfl⟩ := Int.eq_ofNat_of_zero_le h1.2.2.1
    have e1 : l = r * c := by have := h1.2.2.2.2; rw [← Int.natCast_mul] at this; omega
    by_cases h2 : sz n1
    · obtain ⟨k1, rfl⟩ := Int.eq_ofNat_of_zero_le h2.1
      have h3 : k1 ≤ 64 := by have := h2.2; omega
      by_cases h4 : lr ≤ 64
      · by_cases h5 : ∀ xs ∈ L, xs.length = k1
        · exact forms_YF r c n0 k1 l cap lr cr a ar xs L w (by omega) (by omega) e1 h3 h4 h5 hx hcap hm hX hna hlr hR hcp es s hes hs hs2
        · exact forms_YO r c n0 k1 l cap lr cr a ar xs L w (by omega) (by omega) e1 h3 h4 h5 hx hcap hm hX hna hlr hR hcp es s hes hs hs2
      · exact forms_YL r c n0 k1 l cap lr cr a ar xs L w (by omega) (by omega) e1 h3 h4 hx hcap hm hX hna hlr hR hcp es s hes hs hs2
    · exact forms_YN r c n0 n1 l cap lr cr a ar xs L w (by omega) (by omega) e1 h2 hx hcap hm hX hna hlr hR hcp es s hes hs hs2
  · by_cases h2 : sz n1
    · obtain ⟨k1, rfl⟩ := Int.eq_ofNat_of_zero_le h2.1
      have h3 : k1 ≤ 64 := by have := h2.2; omega
      by_cases h4 : lr ≤ 64
      · by_cases h5 : ∀ xs ∈ L, xs.length = k1
        · exact forms_NF r c n0 k1 l cap lr cr a ar xs L w h1 h3 h4 h5 hx hcap hm hX hna hlr hR hcp es s hes hs hs2
        · exact forms_NO r c n0 k1 l cap lr cr a ar xs L w h1 h3 h4 h5 hx hcap hm hX hna hlr hR hcp es s hes hs hs2
      · exact forms_NL r c n0 k1 l cap lr cr a ar xs L w h1 h3 h4 hx hcap hm hX hna hlr hR hcp es s hes hs hs2
    · exact forms_NN r c n0 n1 l cap lr cr a ar xs L w h1 h2 hx hcap hm hX hna hlr hR hcp es s hes hs hs2
end Go.Proofs.YtagahiahhgafpaaDoor
