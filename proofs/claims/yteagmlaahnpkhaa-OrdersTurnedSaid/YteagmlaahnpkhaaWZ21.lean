/- Merged: Pr3, Mv10. -/
import Derived.Test.YteagmlaahnpkhaaWZ13
import Derived.Test.YteagmlaahnpkhaaWZ11
namespace Go.Proofs.Yteagmlaahnpkhaa

section
open Go.RowKit
set_option linter.unusedVariables false
set_option linter.unusedSimpArgs false
set_option maxRecDepth 100000

def of7E (s : List Int) (m : Nat) (s' : List Int) (m' : Nat) : Int := if tenOk s m = true ∧ tenOk s' m' = true then shp7E s s' else 1

def of7S (s : List Int) (m : Nat) (s' : List Int) (m' : Nat) : List Int := if of7E s m s' m' = 0 then shp7S s s' else []

def of7L (s : List Int) (m : Nat) (s' : List Int) (m' : Nat) (l l' : List Int) : List Int := if of7E s m s' m' = 0 then prodL l l' (s.getD 0 0).toNat (s.getD 1 0).toNat (s'.getD 1 0).toNat else []

theorem list_two {s : List Int} (h : s.length = 2) : s = [s.getD 0 0, s.getD 1 0] := by
  match s, h with
  | [a, b], _ => rfl

theorem size_two {a b : Int} (h : 0 < sizeI [a, b]) : (1 ≤ a ∧ a ≤ 64) ∧ (1 ≤ b ∧ b ≤ 64) ∧ sizeI [a, b] = a * b := by
  have h1 := size_dims h
  have ha := h1 a (by simp)
  have hb := h1 b (by simp)
  refine ⟨⟨ha.1, ha.2.1⟩, ⟨hb.1, hb.2.1⟩, ?_⟩
  rw [(sizeI_pos h).2.2, prodZ, prodZ, prodZ, ha.2.2, hb.2.2, Int.mul_one]

theorem two_size {M N : Nat} (hM : 1 ≤ M ∧ M ≤ 64) (hN : 1 ≤ N ∧ N ≤ 64) : sizeI [(M : Int), (N : Int)] = ((M * N : Nat) : Int) ∧ 1 ≤ M * N ∧ M * N ≤ 4096 := by
  have h1 : M * N ≤ 4096 := by have := Nat.mul_le_mul hM.2 hN.2; omega
  have h2 : 1 ≤ M * N := Nat.mul_pos (by omega) (by omega)
  have e1 : dz (M : Int) = M := by unfold dz; rw [if_neg (by omega)]
  have e2 : dz (N : Int) = N := by unfold dz; rw [if_neg (by omega)]
  refine ⟨?_, h2, h1⟩
  rw [sizeI, if_neg (by simp), prodZ, prodZ, prodZ, e1, e2, Int.mul_one, ← Int.natCast_mul, if_neg (by omega)]

theorem ten_two {M K m : Nat} (h : tenOk [(M : Int), (K : Int)] m = true) : (1 ≤ M ∧ M ≤ 64) ∧ (1 ≤ K ∧ K ≤ 64) ∧ m = M * K := by
  obtain ⟨q1, q2⟩ := tenOk_iff.1 h
  obtain ⟨h1, h2, h3⟩ := size_two q1
  refine ⟨by omega, by omega, ?_⟩
  rw [h3, ← Int.natCast_mul] at q2
  omega

theorem two_ten {M K : Nat} (hM : 1 ≤ M ∧ M ≤ 64) (hK : 1 ≤ K ∧ K ≤ 64) : tenOk [(M : Int), (K : Int)] (M * K) = true := by
  obtain ⟨h1, h2, h3⟩ := two_size hM hK
  exact tenOk_iff.2 ⟨by omega, h1⟩

theorem shp7_two {M K N : Nat} (hM : 1 ≤ M ∧ M ≤ 64) (hK : 1 ≤ K ∧ K ≤ 64) (hN : 1 ≤ N ∧ N ≤ 64) : shp7E [(M : Int), (K : Int)] [(K : Int), (N : Int)] = 0 ∧ shp7S [(M : Int), (K : Int)] [(K : Int), (N : Int)] = [(M : Int), (N : Int)] := by
  obtain ⟨h1, h2, h3⟩ := two_size hM hK
  obtain ⟨h4, h5, h6⟩ := two_size hK hN
  have h : shp7E [(M : Int), (K : Int)] [(K : Int), (N : Int)] = 0 := shp7E_iff.2 ⟨⟨by omega, by omega⟩, rfl, rfl, rfl⟩
  exact ⟨h, by rw [shp7S_ok h]; rfl⟩

end

section
open Go.RowKit
set_option linter.unusedVariables false
set_option linter.unusedSimpArgs false
set_option maxRecDepth 100000

/-- The i-th coordinate of the k-th number of a shape. -/
def dg9 (t : List Int) (i k : Nat) : Nat := k / (prodZ (t.drop (i + 1))).toNat % (t.getD i 0).toNat

/-- Where the k-th number of a turned tensor stood: what its first i coordinates come to. -/
def trN (s t u : List Int) (k : Nat) : Nat → Nat
  | 0 => 0
  | i + 1 => trN s t u k i + dg9 t i k * (prodZ (s.drop ((u.getD i 0).toNat + 1))).toNat

def sumG (u : List Int) (P : Nat → Int) : Nat → Int
  | 0 => 0
  | i + 1 => sumG u P i + (P (u.getD i 0).toNat - P ((u.getD i 0).toNat + 1))

theorem sumG_all {u : List Int} {n : Nat} (h : ordOk u n = true) (hn : n ≤ 4) (P : Nat → Int) : sumG u P n = P 0 - P n := by
  obtain ⟨hl, hm⟩ := ordOk_iff.1 h
  match n, u, hl with
  | 0, _, _ => simp [sumG]
  | 1, [a], _ =>
    have h0 := hm 0 (by omega)
    simp at h0
    subst h0
    simp [sumG]
  | 2, [a, b], _ =>
    have h0 := hm 0 (by omega)
    have h1 := hm 1 (by omega)
    simp at h0 h1
    rcases h0 with h0 | h0 <;> rcases h1 with h1 | h1 <;> first | (exfalso; omega) | (subst h0 h1; simp [sumG]; omega)
  | 3, [a, b, c], _ =>
    have h0 := hm 0 (by omega)
    have h1 := hm 1 (by omega)
    have h2 := hm 2 (by omega)
    simp at h0 h1 h2
    rcases h0 with h0 | h0 | h0 <;> rcases h1 with h1 | h1 | h1 <;> rcases h2 with h2 | h2 | h2 <;> first | (exfalso; omega) | (subst h0 h1 h2; simp [sumG]; omega)
  | 4, [a, b, c, d], _ =>
    have h0 := hm 0 (by omega)
    have h1 := hm 1 (by omega)
    have h2 := hm 2 (by omega)
    have h3 := hm 3 (by omega)
    simp at h0 h1 h2 h3
    rcases h0 with h0 | h0 | h0 | h0 <;> rcases h1 with h1 | h1 | h1 | h1 <;> first | (exfalso; omega) | (rcases h2 with h2 | h2 | h2 | h2 <;> first | (exfalso; omega) | (rcases h3 with h3 | h3 | h3 | h3 <;> first | (exfalso; omega) | (subst h0 h1 h2 h3; simp [sumG]; omega)))
  | n + 5, _, _ => omega

/-- A shape in another order comes to the same. -/
theorem trN_le {s u : List Int} {m n : Nat} (hs : 0 < sizeI s) (hl : s.length = n) (ho : ordOk u n = true) (hn : n ≤ 4) (k : Nat) : ∀ i, i ≤ n → (trN s (pickL s u) u k i : Int) ≤ sumG u (fun j => prodZ (s.drop j)) i
  | 0, _ => by simp [trN, sumG]
  | i + 1, hi => by
    have ih := trN_le (m := m) hs hl ho hn k i (by omega)
    have hu := ord_in ho hn i (by omega)
    have hul := (ordOk_iff.1 ho).1
    obtain ⟨j, hj⟩ := Int.eq_ofNat_of_zero_le hu.1
    have hjn : j < s.length := by omega
    have hd := (size_dims hs).at (k := j) hjn
    have e := prodZ_drop (xs := s) (k := j) hjn
    rw [hd.2.2] at e
    have n1 := prodZ_nonneg (s.drop (j + 1))
    obtain ⟨S, hS⟩ := Int.eq_ofNat_of_zero_le n1
    obtain ⟨K, hK⟩ := Int.eq_ofNat_of_zero_le (show 0 ≤ s.getD j 0 by omega)
    have hp : (pickL s u).getD i 0 = (K : Int) := by rw [pickL_at (by omega), hj, Int.toNat_natCast, hK]
    have hdg : dg9 (pickL s u) i k < K := by
      rw [dg9, hp, Int.toNat_natCast]
      exact Nat.mod_lt _ (by omega)
    rw [trN, sumG, hj, Int.toNat_natCast]
    simp only [hS, Int.toNat_natCast]
    rw [hS, hK] at e
    rw [← e]
    have h2 : (dg9 (pickL s u) i k + 1) * S ≤ K * S := Nat.mul_le_mul_right _ hdg
    rw [Nat.add_mul, Nat.one_mul] at h2
    have h3 : ((K * S : Nat) : Int) = (S : Int) * (K : Int) := by rw [Nat.mul_comm]; rfl
    rw [Int.natCast_add, ← h3]
    omega

theorem trN_lt {s u : List Int} {m n : Nat} (h : tenOk s m = true) (hl : s.length = n) (ho : ordOk u n = true) (hn : n ≤ 4) (k : Nat) : trN s (pickL s u) u k n < m := by
  obtain ⟨q1, q2⟩ := tenOk_iff.1 h
  have h1 := trN_le (m := m) q1 hl ho hn k n (Nat.le_refl _)
  rw [sumG_all ho hn] at h1
  have h2 := (sizeI_pos q1).2.2
  simp only [List.drop_zero] at h1
  rw [List.drop_eq_nil_of_le (by omega), prodZ] at h1
  omega

end

end Go.Proofs.Yteagmlaahnpkhaa
