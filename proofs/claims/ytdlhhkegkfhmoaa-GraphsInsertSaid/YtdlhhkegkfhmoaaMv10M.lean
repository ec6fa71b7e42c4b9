/- Contracts of turnOrigin and of its closure: where a number that is turned comes from. -/
import Derived.Test.YtdlhhkegkfhmoaaMv9M
namespace Go.Proofs.Ytdlhhkegkfhmoaa
open Go.RowKit
set_option linter.unusedVariables false
set_option linter.unusedSimpArgs false
set_option maxRecDepth 100000

/-- The i-th coordinate of the k-th number of a shape. -/
def dg9 (t : List Int) (i k : Nat) : Nat := k / (prodZ (t.drop (i + 1))).toNat % (t.getD i 0).toNat

/-- Where the k-th number of a turned tensor stood: what its first i coordinates come to. -/
def trN (s t u : List Int) (k : Nat) : Nat → Nat
  | 0 => 0
  | i + 1 => trN s t u k i + dg9 t i k * (prodZ (s.drop ((u.getD i 0).toNat + 1))).toNat

def sumG (u : List Int) (P : Nat → Int) : Nat → Int
  | 0 => 0
  | i + 1 => sumG u P i + (P (u.getD i 0).toNat - P ((u.getD i 0).toNat + 1))

theorem sumG_all {u : List Int} {n : Nat} (h : ordOk u n = true) (hn : n ≤ 4) (P : Nat → Int) : sumG u P n = P 0 - P n := by
  obtain ⟨hl, hm⟩ := ordOk_iff.1 h
  match n, u, hl with
  | 0, _, _ => simp [sumG]
  | 1, [a], _ =>
    have h0 := hm 0 (by omega)
    simp at h0
    subst h0
    simp [sumG]
  | 2, [a, b], _ =>
    have h0 := hm 0 (by omega)
    have h1 := hm 1 (by omega)
    simp at h0 h1
    rcases h0 with h0 | h0 <;> rcases h1 with h1 | h1 <;> first | (exfalso; omega) | (subst h0 h1; simp [sumG]; omega)
  | 3, [a, b, c], _ =>
    have h0 := hm 0 (by omega)
    have h1 := hm 1 (by omega)
    have h2 := hm 2 (by omega)
    simp at h0 h1 h2
    rcases h0 with h0 | h0 | h0 <;> rcases h1 with h1 | h1 | h1 <;> rcases h2 with h2 | h2 | h2 <;> first | (exfalso; omega) | (subst h0 h1 h2; simp [sumG]; omega)
  | 4, [a, b, c, d], _ =>
    have h0 := hm 0 (by omega)
    have h1 := hm 1 (by omega)
    have h2 := hm 2 (by omega)
    have h3 := hm 3 (by omega)
    simp at h0 h1 h2 h3
    rcases h0 with h0 | h0 | h0 | h0 <;> rcases h1 with h1 | h1 | h1 | h1 <;> first | (exfalso; omega) | (rcases h2 with h2 | h2 | h2 | h2 <;> first | (exfalso; omega) | (rcases h3 with h3 | h3 | h3 | h3 <;> first | (exfalso; omega) | (subst h0 h1 h2 h3; simp [sumG]; omega)))
  | n + 5, _, _ => omega

/-- A shape in another order comes to the same. -/
theorem trN_le {s u : List Int} {m n : Nat} (hs : 0 < sizeI s) (hl : s.length = n) (ho : ordOk u n = true) (hn : n ≤ 4) (k : Nat) : ∀ i, i ≤ n → (trN s (pickL s u) u k i : Int) ≤ sumG u (fun j => prodZ (s.drop j)) i
  | 0, _ => by simp [trN, sumG]
  | i + 1, hi => by
    have ih := trN_le (m := m) hs hl ho hn k i (by omega)
    have hu := ord_in ho hn i (by omega)
    have hul := (ordOk_iff.1 ho).1
    obtain ⟨j, hj⟩ := Int.eq_ofNat_of_zero_le hu.1
    have hjn : j < s.length := by omega
    have hd := (size_dims hs).at (k := j) hjn
    have e := prodZ_drop (xs := s) (k := j) hjn
    rw [hd.2.2] at e
    have n1 := prodZ_nonneg (s.drop (j + 1))
    obtain ⟨S, hS⟩ := Int.eq_ofNat_of_zero_le n1
    obtain ⟨K, hK⟩ := Int.eq_ofNat_of_zero_le (show 0 ≤ s.getD j 0 by omega)
    have hp : (pickL s u).getD i 0 = (K : Int) := by rw [pickL_at (by omega), hj, Int.toNat_natCast, hK]
    have hdg : dg9 (pickL s u) i k < K := by
      rw [dg9, hp, Int.toNat_natCast]
      exact Nat.mod_lt _ (by omega)
    rw [trN, sumG, hj, Int.toNat_natCast]
    simp only [hS, Int.toNat_natCast]
    rw [hS, hK] at e
    rw [← e]
    have h2 : (dg9 (pickL s u) i k + 1) * S ≤ K * S := Nat.mul_le_mul_right _ hdg
    rw [Nat.add_mul, Nat.one_mul] at h2
    have h3 : ((K * S : Nat) : Int) = (S : Int) * (K : Int) := by rw [Nat.mul_comm]; rfl
    rw [Int.natCast_add, ← h3]
    omega

theorem trN_lt {s u : List Int} {m n : Nat} (h : tenOk s m = true) (hl : s.length = n) (ho : ordOk u n = true) (hn : n ≤ 4) (k : Nat) : trN s (pickL s u) u k n < m := by
  obtain ⟨q1, q2⟩ := tenOk_iff.1 h
  have h1 := trN_le (m := m) q1 hl ho hn k n (Nat.le_refl _)
  rw [sumG_all ho hn] at h1
  have h2 := (sizeI_pos q1).2.2
  simp only [List.drop_zero] at h1
  rw [List.drop_eq_nil_of_le (by omega), prodZ] at h1
  omega

end Go.Proofs.Ytdlhhkegkfhmoaa
