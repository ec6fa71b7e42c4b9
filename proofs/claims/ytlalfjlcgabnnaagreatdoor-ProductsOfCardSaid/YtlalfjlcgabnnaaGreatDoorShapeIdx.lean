/- Index's two answers, as one contract; lists taken from their beginning. -/
import Derived.Test.YtlalfjlcgabnnaaGreatDoorShapeIndex2
namespace Go.Proofs.YtlalfjlcgabnnaaGreatDoor
open Go.RowKit
set_option linter.unusedVariables false
set_option linter.unusedSimpArgs false

/-- Index's two answers. -/
def idxV (xs ys : List Int) : Int := if okAt xs ys = true then valI xs ys else 0

def idxE (xs ys : List Int) : Int := if okAt xs ys = true then 0 else 1

theorem take_snoc {xs : List Int} {k : Nat} (h : k < xs.length) : xs.take (k + 1) = xs.take k ++ [xs.getD k 0] := by
  have e : xs.getD k 0 = xs[k] := by simp [List.getD, h]
  rw [List.take_succ_eq_append_getElem h, ← e]

theorem prodZ_take {xs : List Int} {k : Nat} (h : k < xs.length) : prodZ (xs.take (k + 1)) = prodZ (xs.take k) * dz (xs.getD k 0) := by
  rw [take_snoc h, prodZ_append, show prodZ [xs.getD k 0] = dz (xs.getD k 0) by simp [prodZ]]

theorem allIn_snoc : ∀ {a b : List Int} (x y : Int), a.length = b.length → allIn (a ++ [x]) (b ++ [y]) = (allIn a b && (decide (0 ≤ y) && decide (y < x)))
  | [], [], x, y, _ => by simp [allIn]
  | [], _ :: _, _, _, h => by simp at h
  | _ :: _, [], _, _, h => by simp at h
  | p :: a, q :: b, x, y, h => by
    simp only [List.cons_append, allIn]
    rw [allIn_snoc x y (by simpa using h)]
    cases allIn a b <;> cases decide (0 ≤ y) <;> cases decide (y < x) <;> cases decide (0 ≤ q) <;> cases decide (q < p) <;> rfl

theorem valI_snoc : ∀ {a b : List Int} (x y : Int), a.length = b.length → valI (a ++ [x]) (b ++ [y]) = valI a b * dz x + y
  | [], [], x, y, _ => by simp [valI, prodZ]
  | [], _ :: _, _, _, h => by simp at h
  | _ :: _, [], _, _, h => by simp at h
  | p :: a, q :: b, x, y, h => by
    simp only [List.cons_append, valI]
    rw [valI_snoc x y (by simpa using h), prodZ_append, show prodZ [x] = dz x by simp [prodZ], Int.add_mul, Int.mul_right_comm (prodZ a) q]
    omega

theorem size_bad {xs : List Int} {k : Nat} (h : k < xs.length) (hx : xs.getD k 0 < 1 ∨ 64 < xs.getD k 0) : ¬ 0 < sizeI xs := by
  intro hs
  have := (size_dims hs).at h
  omega

theorem AllDim.take {xs : List Int} (h : AllDim xs) (k : Nat) : AllDim (xs.take k) := fun d hd => h d (List.mem_of_mem_take hd)

theorem sizeI_all {xs : List Int} (h : AllDim xs) (h1 : 1 ≤ xs.length) (h4 : xs.length ≤ 4) : sizeI xs = if 4096 < prodZ xs then 0 else prodZ xs := by
  rw [sizeI, if_neg (by omega)]

end Go.Proofs.YtlalfjlcgabnnaaGreatDoor
