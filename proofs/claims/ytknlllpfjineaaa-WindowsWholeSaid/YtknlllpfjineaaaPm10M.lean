/- The greatest numbers of squares: each is there and none is greater; squares of squares. No program is named here. -/
import Derived.Test.YtknlllpfjineaaaWB
namespace Go.Proofs.Ytknlllpfjineaaa
open Go.RowKit
set_option linter.unusedVariables false
set_option linter.unusedSimpArgs false

/-- M is the greatest number of the square as wide as 'wide' whose first row and column are y and x. -/
def Great8 (l : List Int) (H W c y x wide : Nat) (M : Int) : Prop :=
  (∀ i j, i < wide → j < wide → numAt l H W c ((y + i : Nat) : Int) ((x + j : Nat) : Int) ≤ M) ∧ ∃ i j, i < wide ∧ j < wide ∧ numAt l H W c ((y + i : Nat) : Int) ((x + j : Nat) : Int) = M

theorem greatN_top (l : List Int) (H W c y x wide : Nat) : ∀ k, numAt l H W c (y : Int) (x : Int) ≤ greatN l H W c y x wide k ∧ (∀ q, q < k → numAt l H W c ((y + q / wide : Nat) : Int) ((x + q % wide : Nat) : Int) ≤ greatN l H W c y x wide k) ∧
    (greatN l H W c y x wide k = numAt l H W c (y : Int) (x : Int) ∨ ∃ q, q < k ∧ numAt l H W c ((y + q / wide : Nat) : Int) ((x + q % wide : Nat) : Int) = greatN l H W c y x wide k)
  | 0 => ⟨by rw [greatN]; exact Int.le_refl _, fun q hq => absurd hq (Nat.not_lt_zero _), .inl (by rw [greatN])⟩
  | k + 1 => by
    obtain ⟨h1, h2, h3⟩ := greatN_top l H W c y x wide k
    rw [greatN]
    refine ⟨by omega, fun q hq => ?_, ?_⟩
    · by_cases e : q = k
      · subst e; omega
      · have := h2 q (by omega); omega
    · by_cases e : greatN l H W c y x wide k ≤ numAt l H W c ((y + k / wide : Nat) : Int) ((x + k % wide : Nat) : Int)
      · exact .inr ⟨k, by omega, by omega⟩
      · have em : max (greatN l H W c y x wide k) (numAt l H W c ((y + k / wide : Nat) : Int) ((x + k % wide : Nat) : Int)) = greatN l H W c y x wide k := by omega
        rw [em]
        rcases h3 with h3 | ⟨q, hq, h3⟩
        · exact .inl h3
        · exact .inr ⟨q, by omega, h3⟩

theorem greatN_is (l : List Int) (H W c y x : Nat) {wide : Nat} (hw : 0 < wide) : Great8 l H W c y x wide (greatN l H W c y x wide (wide * wide)) := by
  obtain ⟨h1, h2, h3⟩ := greatN_top l H W c y x wide (wide * wide)
  have hp : ∀ i j, i < wide → j < wide → (i * wide + j) / wide = i ∧ (i * wide + j) % wide = j := by
    intro i j hi hj
    exact ⟨by rw [Nat.mul_comm, Nat.mul_add_div (by omega), Nat.div_eq_of_lt hj]; omega, by rw [Nat.mul_comm, Nat.mul_add_mod, Nat.mod_eq_of_lt hj]⟩
  refine ⟨fun i j hi hj => ?_, ?_⟩
  · have h := h2 (i * wide + j) (place_lt hi hj)
    rwa [(hp i j hi hj).1, (hp i j hi hj).2] at h
  · rcases h3 with h3 | ⟨q, hq, h3⟩
    · exact ⟨0, 0, hw, hw, h3.symm⟩
    · exact ⟨q / wide, q % wide, Nat.div_lt_of_lt_mul hq, Nat.mod_lt _ hw, h3⟩

theorem Great8.eq {l : List Int} {H W c y x wide : Nat} {M N : Int} (h : Great8 l H W c y x wide M) (h' : Great8 l H W c y x wide N) : M = N := by
  obtain ⟨a1, i, j, hi, hj, e⟩ := h
  obtain ⟨b1, i', j', hi', hj', e'⟩ := h'
  have := a1 i' j' hi' hj'
  have := b1 i j hi hj
  omega

theorem poolL_ext {l : List Int} {C H W wide Y X : Nat} {z : List Int} (hl : z.length = C * Y * X) (h : ∀ c y x, c < C → y < Y → x < X → z.getD ((c * Y + y) * X + x) 0 = greatN l H W c (y * wide) (x * wide) wide (wide * wide)) : z = poolL l C H W wide Y X := by
  apply List.ext_getElem?
  intro k
  by_cases hk : k < C * Y * X
  · have hYX : 0 < Y * X := by
      rcases Nat.eq_zero_or_pos (Y * X) with e | e
      · rw [Nat.mul_assoc, e] at hk; omega
      · exact e
    have hY : 0 < Y := Nat.pos_of_mul_pos_right hYX
    have hX : 0 < X := Nat.pos_of_mul_pos_left hYX
    have h1 : k / (Y * X) < C := Nat.div_lt_of_lt_mul (by rw [Nat.mul_comm (Y * X), ← Nat.mul_assoc]; exact hk)
    have h2 : k / X % Y < Y := Nat.mod_lt _ hY
    have h3 : k % X < X := Nat.mod_lt _ hX
    have e : (k / (Y * X) * Y + k / X % Y) * X + k % X = k := by
      rw [Nat.mul_comm Y X, ← Nat.div_div_eq_div_mul, Nat.div_add_mod', Nat.div_add_mod']
    have g := h _ _ _ h1 h2 h3
    rw [e] at g
    rw [poolL, List.getElem?_map, List.getElem?_range hk, Option.map_some, ← g, List.getD_eq_getElem?_getD, List.getElem?_eq_getElem (by omega), Option.getD_some]
  · rw [List.getElem?_eq_none (by omega), List.getElem?_eq_none (by rw [poolL_len]; omega)]

/-- Squares of one number change nothing. -/
theorem pool_one {l : List Int} {C H W : Nat} (hl : l.length = C * H * W) : poolL l C H W 1 H W = l := by
  symm
  apply poolL_ext hl
  intro c y x hc hy hx
  have h := greatN_is l H W c (y * 1) (x * 1) (wide := 1) (by omega)
  have g : Great8 l H W c (y * 1) (x * 1) 1 (l.getD ((c * H + y) * W + x) 0) := by
    have e : numAt l H W c ((y * 1 + 0 : Nat) : Int) ((x * 1 + 0 : Nat) : Int) = l.getD ((c * H + y) * W + x) 0 := by
      rw [numAt_in (by omega)]
      congr 2
      · congr 1; omega
      · omega
    refine ⟨fun i j hi hj => ?_, 0, 0, by omega, by omega, e⟩
    obtain rfl : i = 0 := by omega
    obtain rfl : j = 0 := by omega
    exact Int.le_of_eq e
  exact g.eq h

/-- Squares of squares are squares as wide as both together. -/
theorem pool_pool {l : List Int} {C H W m n : Nat} (hm : 0 < m) (hn : 0 < n) : poolL (poolL l C H W m (H / m) (W / m)) C (H / m) (W / m) n (H / m / n) (W / m / n) = poolL l C H W (m * n) (H / (m * n)) (W / (m * n)) := by
  rw [← Nat.div_div_eq_div_mul, ← Nat.div_div_eq_div_mul]
  apply poolL_ext (by rw [poolL_len])
  intro c y x hc hy hx
  rw [poolL_at hc hy hx]
  have hmn : 0 < m * n := Nat.mul_pos hm hn
  have hyn : ∀ i, i < n → y * n + i < H / m := fun i hi => by
    have := Nat.div_mul_le_self (H / m) n
    have := Nat.mul_le_mul_right n (show y + 1 ≤ H / m / n from hy)
    rw [Nat.add_mul] at this; omega
  have hxn : ∀ i, i < n → x * n + i < W / m := fun i hi => by
    have := Nat.div_mul_le_self (W / m) n
    have := Nat.mul_le_mul_right n (show x + 1 ≤ W / m / n from hx)
    rw [Nat.add_mul] at this; omega
  have hin : ∀ i j, i < n → j < n → numAt (poolL l C H W m (H / m) (W / m)) (H / m) (W / m) c ((y * n + i : Nat) : Int) ((x * n + j : Nat) : Int) = greatN l H W c ((y * n + i) * m) ((x * n + j) * m) m (m * m) := by
    intro i j hi hj
    have a := hyn i hi
    have b := hxn j hj
    rw [numAt_in (by omega), Int.toNat_natCast, Int.toNat_natCast, poolL_at hc a b]
  have ho := greatN_is (poolL l C H W m (H / m) (W / m)) (H / m) (W / m) c (y * n) (x * n) hn
  refine Great8.eq (l := l) (H := H) (W := W) (c := c) (y := y * (m * n)) (x := x * (m * n)) (wide := m * n) ?_ (greatN_is _ _ _ _ _ _ hmn)
  obtain ⟨h1, i0, j0, hi0, hj0, h2⟩ := ho
  have hsplit : ∀ y i, y * (m * n) + i = (y * n + i / m) * m + i % m := by
    intro y i
    rw [Nat.add_mul, Nat.add_assoc, Nat.div_add_mod', Nat.mul_assoc, Nat.mul_comm n m]
  constructor
  · intro i j hi hj
    have hi1 : i / m < n := Nat.div_lt_of_lt_mul hi
    have hj1 : j / m < n := Nat.div_lt_of_lt_mul hj
    have a := h1 _ _ hi1 hj1
    rw [hin _ _ hi1 hj1] at a
    have b := (greatN_is l H W c ((y * n + i / m) * m) ((x * n + j / m) * m) hm).1 (i % m) (j % m) (Nat.mod_lt _ hm) (Nat.mod_lt _ hm)
    rw [← hsplit, ← hsplit] at b
    omega
  · rw [hin _ _ hi0 hj0] at h2
    obtain ⟨_, i1, j1, hi1, hj1, b⟩ := greatN_is l H W c ((y * n + i0) * m) ((x * n + j0) * m) hm
    have e : ∀ y i0 i1, (y * n + i0) * m + i1 = y * (m * n) + (i0 * m + i1) := by
      intro y i0 i1
      rw [Nat.add_mul, Nat.mul_assoc, Nat.mul_comm n m, Nat.add_assoc]
    rw [e, e] at b
    refine ⟨i0 * m + i1, j0 * m + j1, by rw [Nat.mul_comm m n]; exact place_lt hi0 hi1, by rw [Nat.mul_comm m n]; exact place_lt hj0 hj1, ?_⟩
    rw [b, h2]

end Go.Proofs.Ytknlllpfjineaaa
