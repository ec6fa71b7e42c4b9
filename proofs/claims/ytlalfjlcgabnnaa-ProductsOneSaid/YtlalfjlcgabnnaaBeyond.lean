/- Contracts of Beyond: whether the sum of some lengths is above 1048576. -/
import Derived.Test.YtlalfjlcgabnnaaCells
namespace Go.Proofs.Ytlalfjlcgabnnaa
open Go.RowKit

def sumTo (zs : List Int) (k : Nat) : Int := (zs.take k).sum

theorem sumTo_snoc (zs : List Int) (k : Nat) (h : k < zs.length) : sumTo zs (k + 1) = sumTo zs k + zs.getD k 0 := by
  have e : zs.getD k 0 = zs[k] := by simp [List.getD, h]
  rw [e, sumTo, List.take_succ_eq_append_getElem h, List.sum_append]
  simp [sumTo]

theorem sumTo_all (zs : List Int) : sumTo zs zs.length = zs.sum := by rw [sumTo, List.take_length]

theorem sum_nonneg : ∀ (l : List Int), (∀ z ∈ l, 0 ≤ z) → 0 ≤ l.sum
  | [], _ => by simp
  | z :: l, h => by
    have h1 := h z (by simp)
    have h2 := sum_nonneg l (fun x hx => h x (by simp [hx]))
    simp only [List.sum_cons]
    omega

theorem sumTo_le (zs : List Int) (k : Nat) (h : ∀ z ∈ zs, 0 ≤ z) : 0 ≤ sumTo zs k ∧ sumTo zs k ≤ zs.sum := by
  constructor
  · exact sum_nonneg _ (fun z hz => h z (List.mem_of_mem_take hz))
  · have h1 := sum_nonneg (zs.drop k) (fun z hz => h z (List.mem_of_mem_drop hz))
    have h2 : zs.sum = (zs.take k).sum + (zs.drop k).sum := by rw [← List.sum_append, List.take_append_drop]
    unfold sumTo
    omega

end Go.Proofs.Ytlalfjlcgabnnaa
