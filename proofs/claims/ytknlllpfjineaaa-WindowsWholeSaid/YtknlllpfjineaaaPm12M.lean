/- A picture with noughts around, and windows one behind the other. No program is named here. -/
import Derived.Test.YtknlllpfjineaaaPm11M
namespace Go.Proofs.Ytknlllpfjineaaa
open Go.RowKit
set_option linter.unusedVariables false
set_option linter.unusedSimpArgs false

/-- Where the i-th number of a picture stands in the wide one. -/
def plc8 (H V p i : Nat) : Nat := (i / (H * V) * (H + 2 * p) + (i / V % H + p)) * (V + 2 * p) + (i % V + p)

/-- The wide picture, the first k numbers put in. -/
def wid8 (l : List Int) (H V p N : Nat) : Nat → List Int
  | 0 => List.replicate N 0
  | k + 1 => (wid8 l H V p N k).set (plc8 H V p k) (l.getD k 0)

theorem wid8_len (l : List Int) (H V p N : Nat) : ∀ k, (wid8 l H V p N k).length = N
  | 0 => by simp [wid8]
  | k + 1 => by rw [wid8, List.length_set, wid8_len l H V p N k]

theorem plc8_lt {C H V p i : Nat} (h : i < C * H * V) : plc8 H V p i < C * (H + 2 * p) * (V + 2 * p) := by
  have hHV : 0 < H * V := by
    rcases Nat.eq_zero_or_pos (H * V) with e | e
    · rw [Nat.mul_assoc, e] at h; omega
    · exact e
  have hH : 0 < H := Nat.pos_of_mul_pos_right hHV
  have hV : 0 < V := Nat.pos_of_mul_pos_left hHV
  have h1 : i / (H * V) < C := Nat.div_lt_of_lt_mul (by rw [Nat.mul_comm (H * V), ← Nat.mul_assoc]; exact h)
  have h2 : i / V % H < H := Nat.mod_lt _ hH
  have h3 : i % V < V := Nat.mod_lt _ hV
  exact place3_lt h1 (by omega) (by omega)

theorem wid8_at {l : List Int} {C H V p c y x : Nat} (hH : 0 < H) (hV : 0 < V) (hc : c < C) (hy : y < H + 2 * p) (hx : x < V + 2 * p) : ∀ k,
    (wid8 l H V p (C * (H + 2 * p) * (V + 2 * p)) k).getD ((c * (H + 2 * p) + y) * (V + 2 * p) + x) 0 = if p ≤ y ∧ y < H + p ∧ p ≤ x ∧ x < V + p ∧ (c * H + (y - p)) * V + (x - p) < k then l.getD ((c * H + (y - p)) * V + (x - p)) 0 else 0
  | 0 => by rw [if_neg (by omega), wid8]; simp [List.getD, List.getElem?_replicate]; split <;> rfl
  | k + 1 => by
    have hj := place3_lt hc hy hx
    have ih := wid8_at (l := l) (c := c) hH hV hc hy hx k
    have h2 : k / V % H < H := Nat.mod_lt _ hH
    have h3 : k % V < V := Nat.mod_lt _ hV
    have hk : (k / (H * V) * H + k / V % H) * V + k % V = k := by
      rw [Nat.mul_comm H V, ← Nat.div_div_eq_div_mul, Nat.div_add_mod', Nat.div_add_mod']
    by_cases e : plc8 H V p k = (c * (H + 2 * p) + y) * (V + 2 * p) + x
    · rw [wid8, e, List.getD_eq_getElem?_getD, List.getElem?_set_self (by rw [wid8_len]; exact hj), Option.getD_some]
      obtain ⟨a1, a2, a3⟩ := place3 (c := k / (H * V)) (Y := H + 2 * p) (X := V + 2 * p) (y := k / V % H + p) (x := k % V + p) (by omega) (by omega)
      obtain ⟨b1, b2, b3⟩ := place3 (c := c) hy hx
      rw [plc8] at e
      rw [e] at a1 a2 a3
      rw [b1] at a1
      rw [b2] at a2
      rw [b3] at a3
      have es : (c * H + (y - p)) * V + (x - p) = k := by
        rw [a1, a2, a3, Nat.add_sub_cancel, Nat.add_sub_cancel]; exact hk
      rw [es, if_pos (by omega)]
    · rw [wid8, List.getD_eq_getElem?_getD, List.getElem?_set_ne e, ← List.getD_eq_getElem?_getD, ih]
      by_cases hin : p ≤ y ∧ y < H + p ∧ p ≤ x ∧ x < V + p
      · by_cases es : (c * H + (y - p)) * V + (x - p) = k
        · exfalso
          apply e
          obtain ⟨b1, b2, b3⟩ := place3 (c := c) (Y := H) (X := V) (y := y - p) (x := x - p) (by omega) (by omega)
          rw [es] at b1 b2 b3
          rw [plc8, b1, b2, b3, Nat.sub_add_cancel (by omega), Nat.sub_add_cancel (by omega)]
        · congr 1
          apply propext
          constructor <;> rintro ⟨h1, h2, h3, h4, h5⟩ <;> exact ⟨h1, h2, h3, h4, by omega⟩
      · rw [if_neg (fun h => hin ⟨h.1, h.2.1, h.2.2.1, h.2.2.2.1⟩), if_neg (fun h => hin ⟨h.1, h.2.1, h.2.2.1, h.2.2.2.1⟩)]

/-- The wide picture's number at a row and a column is the picture's, p rows and columns ahead. -/
theorem wid8_num {l : List Int} {C H V p c : Nat} (hH : 0 < H) (hV : 0 < V) (hc : c < C) (y x : Int) :
    numAt (wid8 l H V p (C * (H + 2 * p) * (V + 2 * p)) (C * H * V)) (H + 2 * p) (V + 2 * p) c y x = numAt l H V c (y - p) (x - p) := by
  by_cases h : 0 ≤ y ∧ y < ((H + 2 * p : Nat) : Int) ∧ 0 ≤ x ∧ x < ((V + 2 * p : Nat) : Int)
  · obtain ⟨Y, rfl⟩ := Int.eq_ofNat_of_zero_le h.1
    obtain ⟨X, rfl⟩ := Int.eq_ofNat_of_zero_le h.2.2.1
    rw [numAt_in h, Int.toNat_natCast, Int.toNat_natCast, wid8_at hH hV hc (by omega) (by omega)]
    by_cases g : p ≤ Y ∧ Y < H + p ∧ p ≤ X ∧ X < V + p
    · have hlt := place3_lt (C := C) (Y := H) (X := V) (c := c) (y := Y - p) (x := X - p) hc (by omega) (by omega)
      rw [if_pos ⟨g.1, g.2.1, g.2.2.1, g.2.2.2, hlt⟩, numAt_in (by omega)]
      congr 1
      have e1 : ((Y : Int) - (p : Int)).toNat = Y - p := by omega
      have e2 : ((X : Int) - (p : Int)).toNat = X - p := by omega
      rw [e1, e2]
    · rw [if_neg (fun q => g ⟨q.1, q.2.1, q.2.2.1, q.2.2.2.1⟩), numAt_out (by omega)]
  · rw [numAt_out h, numAt_out (by omega)]

theorem cov_wid {l l' : List Int} {C H V p a b o : Nat} (hH : 0 < H) (hV : 0 < V) (y x : Int) : ∀ k, k ≤ C * (a * b) →
    covN (wid8 l H V p (C * (H + 2 * p) * (V + 2 * p)) (C * H * V)) l' (H + 2 * p) (V + 2 * p) a b o y x k = covN l l' H V a b o (y - p) (x - p) k
  | 0, _ => rfl
  | k + 1, hk => by
    have hc : k / (a * b) < C := Nat.div_lt_of_lt_mul (by rw [Nat.mul_comm]; omega)
    rw [covN, covN, cov_wid hH hV y x k (by omega), wid8_num hH hV hc]
    congr 3
    · omega
    · omega

/-- Noughts around are as good as a pad. -/
theorem win_wid {l l' : List Int} {C H V p O a b step Y X : Nat} (hH : 0 < H) (hV : 0 < V) :
    winL (wid8 l H V p (C * (H + 2 * p) * (V + 2 * p)) (C * H * V)) l' C (H + 2 * p) (V + 2 * p) O a b step 0 Y X = winL l l' C H V O a b step p Y X := by
  rw [winL, winL]
  apply List.map_congr_left
  intro k _
  rw [cov_wid hH hV _ _ _ (Nat.le_refl _)]
  congr 1 <;> omega

theorem cov_part {l l' : List Int} {H V a b s n : Nat} (y x : Int) : ∀ k, k ≤ n → covN l ((l'.drop s).take n) H V a b 0 y x k = covN l l' H V a b s y x k
  | 0, _ => rfl
  | k + 1, hk => by
    rw [covN, covN, cov_part y x k (by omega)]
    congr 2
    rw [List.getD_eq_getElem?_getD, List.getD_eq_getElem?_getD, List.getElem?_take_of_lt (by omega), List.getElem?_drop, Nat.zero_add]

/-- What one window makes, behind what those ahead of it make. -/
theorem win_next {l l' : List Int} {C H V O a b step pad Y X o : Nat} (ho : o < O) :
    (winL l l' C H V O a b step pad Y X).take (o * (Y * X)) ++ winL l ((l'.drop (o * (C * (a * b)))).take (C * (a * b))) C H V 1 a b step pad Y X = (winL l l' C H V O a b step pad Y X).take ((o + 1) * (Y * X)) := by
  have hle : (o + 1) * (Y * X) ≤ O * Y * X := by rw [Nat.mul_assoc]; exact Nat.mul_le_mul_right _ ho
  have hs : (o + 1) * (Y * X) = o * (Y * X) + Y * X := by rw [Nat.add_mul, Nat.one_mul]
  have hl : ((winL l l' C H V O a b step pad Y X).take (o * (Y * X))).length = o * (Y * X) := by rw [List.length_take, winL_len]; omega
  apply List.ext_getElem?
  intro j
  by_cases h1 : j < o * (Y * X)
  · rw [List.getElem?_append_left (by omega), List.getElem?_take_of_lt h1, List.getElem?_take_of_lt (by omega)]
  · rw [List.getElem?_append_right (by omega), hl]
    by_cases h2 : j < (o + 1) * (Y * X)
    · rw [List.getElem?_take_of_lt h2]
      obtain ⟨r, rfl⟩ : ∃ r, j = o * (Y * X) + r := ⟨j - o * (Y * X), by omega⟩
      have hr : r < Y * X := by omega
      rw [Nat.add_sub_cancel_left]
      have hYX : 0 < Y * X := by omega
      have hX : 0 < X := Nat.pos_of_mul_pos_left hYX
      have e0 : r / (Y * X) = 0 := Nat.div_eq_of_lt hr
      have e1 : (o * (Y * X) + r) / (Y * X) = o := by rw [Nat.mul_comm, Nat.mul_add_div hYX, e0]; omega
      have e2 : (o * (Y * X) + r) / X % Y = r / X % Y := by
        rw [← Nat.mul_assoc, Nat.mul_comm (o * Y) X, Nat.mul_add_div hX, Nat.mul_comm o Y, Nat.mul_add_mod]
      have e3 : (o * (Y * X) + r) % X = r % X := by rw [← Nat.mul_assoc, Nat.mul_comm (o * Y) X, Nat.mul_add_mod]
      rw [winL, winL, List.getElem?_map, List.getElem?_map, List.getElem?_range (by rw [Nat.one_mul]; exact hr), List.getElem?_range (by omega)]
      simp only [Option.map_some, e0, e1, e2, e3, Nat.zero_mul]
      rw [cov_part _ _ _ (Nat.le_refl _)]
    · rw [List.getElem?_eq_none (by rw [winL_len, Nat.one_mul]; omega), List.getElem?_eq_none (by rw [List.length_take]; omega)]

end Go.Proofs.Ytknlllpfjineaaa
