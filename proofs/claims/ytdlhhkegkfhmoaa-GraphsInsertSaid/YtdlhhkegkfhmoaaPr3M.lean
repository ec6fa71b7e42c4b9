/- Contract of products.Of. -/
import Derived.Test.YtdlhhkegkfhmoaaPr2M
namespace Go.Proofs.Ytdlhhkegkfhmoaa
open Go.RowKit
set_option linter.unusedVariables false
set_option linter.unusedSimpArgs false
set_option maxRecDepth 100000

def of7E (s : List Int) (m : Nat) (s' : List Int) (m' : Nat) : Int := if tenOk s m = true ∧ tenOk s' m' = true then shp7E s s' else 1

def of7S (s : List Int) (m : Nat) (s' : List Int) (m' : Nat) : List Int := if of7E s m s' m' = 0 then shp7S s s' else []

def of7L (s : List Int) (m : Nat) (s' : List Int) (m' : Nat) (l l' : List Int) : List Int := if of7E s m s' m' = 0 then prodL l l' (s.getD 0 0).toNat (s.getD 1 0).toNat (s'.getD 1 0).toNat else []

theorem list_two {s : List Int} (h : s.length = 2) : s = [s.getD 0 0, s.getD 1 0] := by
  match s, h with
  | [a, b], _ => rfl

theorem size_two {a b : Int} (h : 0 < sizeI [a, b]) : (1 ≤ a ∧ a ≤ 64) ∧ (1 ≤ b ∧ b ≤ 64) ∧ sizeI [a, b] = a * b := by
  have h1 := size_dims h
  have ha := h1 a (by simp)
  have hb := h1 b (by simp)
  refine ⟨⟨ha.1, ha.2.1⟩, ⟨hb.1, hb.2.1⟩, ?_⟩
  rw [(sizeI_pos h).2.2, prodZ, prodZ, prodZ, ha.2.2, hb.2.2, Int.mul_one]

theorem two_size {M N : Nat} (hM : 1 ≤ M ∧ M ≤ 64) (hN : 1 ≤ N ∧ N ≤ 64) : sizeI [(M : Int), (N : Int)] = ((M * N : Nat) : Int) ∧ 1 ≤ M * N ∧ M * N ≤ 4096 := by
  have h1 : M * N ≤ 4096 := by have := Nat.mul_le_mul hM.2 hN.2; omega
  have h2 : 1 ≤ M * N := Nat.mul_pos (by omega) (by omega)
  have e1 : dz (M : Int) = M := by unfold dz; rw [if_neg (by omega)]
  have e2 : dz (N : Int) = N := by unfold dz; rw [if_neg (by omega)]
  refine ⟨?_, h2, h1⟩
  rw [sizeI, if_neg (by simp), prodZ, prodZ, prodZ, e1, e2, Int.mul_one, ← Int.natCast_mul, if_neg (by omega)]

theorem ten_two {M K m : Nat} (h : tenOk [(M : Int), (K : Int)] m = true) : (1 ≤ M ∧ M ≤ 64) ∧ (1 ≤ K ∧ K ≤ 64) ∧ m = M * K := by
  obtain ⟨q1, q2⟩ := tenOk_iff.1 h
  obtain ⟨h1, h2, h3⟩ := size_two q1
  refine ⟨by omega, by omega, ?_⟩
  rw [h3, ← Int.natCast_mul] at q2
  omega

theorem two_ten {M K : Nat} (hM : 1 ≤ M ∧ M ≤ 64) (hK : 1 ≤ K ∧ K ≤ 64) : tenOk [(M : Int), (K : Int)] (M * K) = true := by
  obtain ⟨h1, h2, h3⟩ := two_size hM hK
  exact tenOk_iff.2 ⟨by omega, h1⟩

theorem shp7_two {M K N : Nat} (hM : 1 ≤ M ∧ M ≤ 64) (hK : 1 ≤ K ∧ K ≤ 64) (hN : 1 ≤ N ∧ N ≤ 64) : shp7E [(M : Int), (K : Int)] [(K : Int), (N : Int)] = 0 ∧ shp7S [(M : Int), (K : Int)] [(K : Int), (N : Int)] = [(M : Int), (N : Int)] := by
  obtain ⟨h1, h2, h3⟩ := two_size hM hK
  obtain ⟨h4, h5, h6⟩ := two_size hK hN
  have h : shp7E [(M : Int), (K : Int)] [(K : Int), (N : Int)] = 0 := shp7E_iff.2 ⟨⟨by omega, by omega⟩, rfl, rfl, rfl⟩
  exact ⟨h, by rw [shp7S_ok h]; rfl⟩

end Go.Proofs.Ytdlhhkegkfhmoaa
