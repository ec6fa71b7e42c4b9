/- A window of one number: what it comes to. No program is named here. -/
import Derived.Test.YtknlllpfjineaaaPm10M
namespace Go.Proofs.Ytknlllpfjineaaa
open Go.RowKit
set_option linter.unusedVariables false
set_option linter.unusedSimpArgs false

theorem mul32_nought (n : Int) : mul32 0 n = 0 := by rw [mul32, Int.zero_mul]; unfold wrap32; omega

theorem add32_nought (x n : Int) : add32 0 (mul32 x n) = mul32 x n := by
  rw [add32, Int.zero_add]
  have h := wrap32_range (x * n)
  rw [mul32]
  unfold wrap32 at *
  omega

/-- The numbers of a picture, times one. -/
def times8 (l : List Int) (n : Int) : List Int := l.map (mul32 · n)

theorem times8_len (l : List Int) (n : Int) : (times8 l n).length = l.length := by simp [times8]

theorem times8_at (l : List Int) (n : Int) {k : Nat} (hk : k < l.length) : (times8 l n).getD k 0 = mul32 (l.getD k 0) n := by
  simp [times8, List.getD, hk]

theorem win_one_at {l : List Int} {n : Int} {H W step pad Y X k : Nat} (hk : k < 1 * Y * X) :
    (winL l [n] 1 H W 1 1 1 step pad Y X).getD k 0 = mul32 (numAt l H W 0 (((k / X * step : Nat) : Int) - (pad : Int)) (((k % X * step : Nat) : Int) - (pad : Int))) n := by
  have hX : 0 < X := by
    rcases Nat.eq_zero_or_pos X with e | e
    · subst e; simp at hk
    · exact e
  rw [Nat.one_mul] at hk
  have hy : k / X < Y := Nat.div_lt_of_lt_mul (by rw [Nat.mul_comm]; exact hk)
  have hx : k % X < X := Nat.mod_lt _ hX
  have h := winL_at (l := l) (l' := [n]) (C := 1) (H := H) (W := W) (O := 1) (a := 1) (b := 1) (step := step) (pad := pad) (o := 0) (by omega) hy hx
  have e : (0 * Y + k / X) * X + k % X = k := by rw [Nat.zero_mul, Nat.zero_add]; exact Nat.div_add_mod' k X
  rw [e] at h
  rw [h]
  show covN _ _ _ _ _ _ _ _ _ (0 + 1) = _
  rw [covN, covN]
  simp only [Nat.zero_div, Nat.zero_mod, Int.ofNat_zero, Int.add_zero, Nat.zero_mul, Nat.add_zero, List.getD_cons_zero]
  exact add32_nought _ _

theorem win_one_whole {l : List Int} {n : Int} {H W : Nat} (hl : l.length = 1 * H * W) : winL l [n] 1 H W 1 1 1 1 0 H W = times8 l n := by
  apply List.ext_getElem?
  intro k
  by_cases hk : k < 1 * H * W
  · have h := win_one_at (l := l) (n := n) (H := H) (W := W) (step := 1) (pad := 0) hk
    have hW : 0 < W := by
      rcases Nat.eq_zero_or_pos W with e | e
      · subst e; simp at hk
      · exact e
    have hy : k / W < H := Nat.div_lt_of_lt_mul (by rw [Nat.mul_comm]; simpa using hk)
    have hx : k % W < W := Nat.mod_lt _ hW
    rw [numAt_in (by omega)] at h
    have e : (0 * H + (((k / W * 1 : Nat) : Int) - ((0 : Nat) : Int)).toNat) * W + (((k % W * 1 : Nat) : Int) - ((0 : Nat) : Int)).toNat = k := by
      have e1 : (((k / W * 1 : Nat) : Int) - ((0 : Nat) : Int)).toNat = k / W := by omega
      have e2 : (((k % W * 1 : Nat) : Int) - ((0 : Nat) : Int)).toNat = k % W := by omega
      rw [e1, e2, Nat.zero_mul, Nat.zero_add]; exact Nat.div_add_mod' k W
    rw [e, ← times8_at l n (by omega)] at h
    rw [List.getD_eq_getElem?_getD, List.getD_eq_getElem?_getD, List.getElem?_eq_getElem (by rw [winL_len]; exact hk), List.getElem?_eq_getElem (by rw [times8_len]; omega)] at h
    rw [List.getElem?_eq_getElem (by rw [winL_len]; exact hk), List.getElem?_eq_getElem (by rw [times8_len]; omega)]
    simpa using h
  · rw [List.getElem?_eq_none (by rw [winL_len]; omega), List.getElem?_eq_none (by rw [times8_len]; omega)]

/-- What the window of one number picks at the k-th place. -/
theorem win_one_pick {l : List Int} {n : Int} {H W step pad Y X k : Nat} (hl : l.length = 1 * H * W) (hk : k < 1 * Y * X) {r c : Int} (hr : r = ((k / X * step : Nat) : Int) - (pad : Int)) (hc : c = ((k % X * step : Nat) : Int) - (pad : Int)) :
    (winL l [n] 1 H W 1 1 1 step pad Y X).getD k 0 = if 0 ≤ r ∧ r < (H : Int) ∧ 0 ≤ c ∧ c < (W : Int) then (times8 l n).getD (r.toNat * W + c.toNat) 0 else 0 := by
  rw [win_one_at hk, ← hr, ← hc]
  split
  · rename_i h
    rw [numAt_in h, Nat.zero_mul, Nat.zero_add, times8_at l n]
    rw [hl, Nat.one_mul]
    exact place_lt (by omega) (by omega)
  · rename_i h
    rw [numAt_out h, mul32_nought]

end Go.Proofs.Ytknlllpfjineaaa
