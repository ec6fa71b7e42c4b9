/- Merged: Pr3, Mv10. -/
import Derived.Test.YtohndckbhjakfaaGreatDoorWZ16
import Derived.Test.YtohndckbhjakfaaGreatDoorWZ13
namespace Go.Proofs.YtohndckbhjakfaaGreatDoor

section
open Go.RowKit
set_option linter.unusedVariables false
set_option linter.unusedSimpArgs false
set_option maxRecDepth 100000

def of7E (s : List Int) (m : Nat) (s' : List Int) (m' : Nat) : Int := if tenOk s m = true ∧ tenOk s' m' = true then shp7E s s' else 1

def of7S (s : List Int) (m : Nat) (s' : List Int) (m' : Nat) : List Int := if of7E s m s' m' = 0 then shp7S s s' else []

def of7L (s : List Int) (m : Nat) (s' : List Int) (m' : Nat) (l l' : List Int) : List Int := if of7E s m s' m' = 0 then prodL l l' (s.getD 0 0).toNat (s.getD 1 0).toNat (s'.getD 1 0).toNat else []

theorem two_size {M N : Nat} (hM : 1 ≤ M ∧ M ≤ 64) (hN : 1 ≤ N ∧ N ≤ 64) : sizeI [(M : Int), (N : Int)] = ((M * N : Nat) : Int) ∧ 1 ≤ M * N ∧ M * N ≤ 4096 := by
  have h1 : M * N ≤ 4096 := by have := Nat.mul_le_mul hM.2 hN.2; omega
  have h2 : 1 ≤ M * N := Nat.mul_pos (by omega) (by omega)
  have e1 : dz (M : Int) = M := by unfold dz; rw [if_neg (by omega)]
  have e2 : dz (N : Int) = N := by unfold dz; rw [if_neg (by omega)]
  refine ⟨?_, h2, h1⟩
  rw [sizeI, if_neg (by simp), prodZ, prodZ, prodZ, e1, e2, Int.mul_one, ← Int.natCast_mul, if_neg (by omega)]

end

section
open Go.RowKit
set_option linter.unusedVariables false
set_option linter.unusedSimpArgs false
set_option maxRecDepth 100000

/-- The i-th coordinate of the k-th number of a shape. -/
def dg9 (t : List Int) (i k : Nat) : Nat := k / (prodZ (t.drop (i + 1))).toNat % (t.getD i 0).toNat

/-- Where the k-th number of a turned tensor stood: what its first i coordinates come to. -/
def trN (s t u : List Int) (k : Nat) : Nat → Nat
  | 0 => 0
  | i + 1 => trN s t u k i + dg9 t i k * (prodZ (s.drop ((u.getD i 0).toNat + 1))).toNat

def sumG (u : List Int) (P : Nat → Int) : Nat → Int
  | 0 => 0
  | i + 1 => sumG u P i + (P (u.getD i 0).toNat - P ((u.getD i 0).toNat + 1))

end

end Go.Proofs.YtohndckbhjakfaaGreatDoor

