/- What the statements of layer 4 say, as plain facts: places of an index, and back; they rise; one direction more, turned, less. -/
import Derived.Test.YtomhbhhfbbdilaaGreatDoorShapeAt2M
namespace Go.Proofs.YtomhbhhfbbdilaaGreatDoor
open Go.RowKit
set_option linter.unusedVariables false
set_option linter.unusedSimpArgs false

theorem mod_mul (i P x : Int) (hi : 0 ≤ i) (hP : 0 < P) (hx : 0 < x) : i % P + P * (i / P % x) = i % (P * x) := by
  have h1 := Int.emod_add_mul_ediv i P
  have h2 := Int.emod_add_mul_ediv (i / P) x
  have h3 := Int.emod_nonneg i (show P ≠ 0 by omega)
  have h4 := Int.emod_lt_of_pos i hP
  have h5 := Int.emod_nonneg (i / P) (show x ≠ 0 by omega)
  have h6 := Int.emod_lt_of_pos (i / P) hx
  have e : i = (i % P + P * (i / P % x)) + (P * x) * (i / P / x) := by
    have : P * (i / P) = P * (i / P % x) + (P * x) * (i / P / x) := by
      rw [Int.mul_assoc, ← Int.mul_add, h2]
    omega
  have hb : P * (i / P % x + 1) ≤ P * x := Int.mul_le_mul_of_nonneg_left (by omega) (by omega)
  rw [Int.mul_add, Int.mul_one] at hb
  have h0 : 0 ≤ P * (i / P % x) := Int.mul_nonneg (by omega) h5
  have hr : (i % P + P * (i / P % x)) % (P * x) = i % P + P * (i / P % x) := Int.emod_eq_of_lt (by omega) (by omega)
  calc i % P + P * (i / P % x) = (i % P + P * (i / P % x)) % (P * x) := hr.symm
    _ = ((i % P + P * (i / P % x)) + (P * x) * (i / P / x)) % (P * x) := by rw [Int.add_mul_emod_self_left]
    _ = i % (P * x) := by rw [← e]

theorem valI_digs : ∀ {xs : List Int}, AllDim xs → ∀ i : Int, 0 ≤ i → valI xs (digs xs i) = i % prodZ xs
  | [], _, i, _ => by simp [valI, digs, prodZ]
  | x :: xs, h, i, hi => by
    obtain ⟨h1, _, h3⟩ := h x (List.mem_cons_self ..)
    have hp := h.tail.pos
    rw [digs, valI, valI_digs h.tail i hi, prodZ, h3, mod_mul i _ x hi (by omega) (by omega), Int.mul_comm x]

theorem digs_in : ∀ {xs : List Int}, AllDim xs → ∀ i : Int, allIn xs (digs xs i) = true
  | [], _, i => rfl
  | x :: xs, h, i => by
    obtain ⟨h1, _, h3⟩ := h x (List.mem_cons_self ..)
    have h5 := Int.emod_nonneg (i / prodZ xs) (show x ≠ 0 by omega)
    have h6 := Int.emod_lt_of_pos (i / prodZ xs) (show 0 < x by omega)
    rw [digs, allIn, digs_in h.tail i]
    simp [h5, h6]

theorem pred_mod (q x : Int) (hx : 0 < x) (hq : q % x ≠ 0) : (q - 1) % x = q % x - 1 := by
  have h1 := Int.emod_add_mul_ediv q x
  have h5 := Int.emod_nonneg q (show x ≠ 0 by omega)
  have h6 := Int.emod_lt_of_pos q hx
  have e : q - 1 = (q % x - 1) + x * (q / x) := by omega
  rw [e, Int.add_mul_emod_self_left, Int.emod_eq_of_lt (by omega) (by omega)]

theorem pred_div (i P : Int) (hP : 0 < P) (h : i % P ≠ 0) : (i - 1) / P = i / P := by
  have h1 := Int.emod_add_mul_ediv i P
  have h5 := Int.emod_nonneg i (show P ≠ 0 by omega)
  have h6 := Int.emod_lt_of_pos i hP
  have e : i - 1 = (i % P - 1) + P * (i / P) := by omega
  rw [e, Int.add_mul_ediv_left _ _ (by omega), Int.ediv_eq_zero_of_lt (by omega) (by omega)]
  omega

theorem pred_div0 (i P : Int) (hP : 0 < P) (h : i % P = 0) : (i - 1) / P = i / P - 1 := by
  have h1 := Int.emod_add_mul_ediv i P
  have e : i - 1 = (P - 1) + P * (i / P - 1) := by rw [Int.mul_sub, Int.mul_one]; omega
  rw [e, Int.add_mul_ediv_left _ _ (by omega), Int.ediv_eq_zero_of_lt (by omega) (by omega)]
  omega

theorem digs_rise : ∀ {xs : List Int}, AllDim xs → ∀ i : Int, 1 ≤ i → i % prodZ xs ≠ 0 →
    ∃ m, m < xs.length ∧ (∀ j, j < m → (digs xs (i - 1)).getD j 0 = (digs xs i).getD j 0) ∧ (digs xs (i - 1)).getD m 0 < (digs xs i).getD m 0
  | [], _, i, _, hne => by simp [prodZ, Int.emod_one] at hne
  | x :: xs, h, i, hi, hne => by
    obtain ⟨h1, _, h3⟩ := h x (List.mem_cons_self ..)
    have hp := h.tail.pos
    by_cases h0 : i % prodZ xs = 0
    · refine ⟨0, by simp, fun j hj => absurd hj (by omega), ?_⟩
      have hm := mod_mul i (prodZ xs) x (by omega) (by omega) (by omega)
      rw [prodZ, h3, Int.mul_comm x, ← hm, h0] at hne
      have hq : i / prodZ xs % x ≠ 0 := by intro e; rw [e] at hne; simp at hne
      have e := pred_mod (i / prodZ xs) x (by omega) hq
      simp only [digs, List.getD_cons_zero]
      rw [pred_div0 i _ (by omega) h0, e]
      omega
    · obtain ⟨m, hm, hpre, hlt⟩ := digs_rise h.tail i hi h0
      refine ⟨m + 1, by simpa using hm, fun j hj => ?_, ?_⟩
      · cases j with
        | zero => simp only [digs, List.getD_cons_zero]; rw [pred_div i _ (by omega) h0]
        | succ j => simpa [digs] using hpre j (by omega)
      · simpa [digs] using hlt

end Go.Proofs.YtomhbhhfbbdilaaGreatDoor
