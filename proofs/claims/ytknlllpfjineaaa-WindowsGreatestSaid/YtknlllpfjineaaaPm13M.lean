/- What the answers on squares are at pictures that may be. No program is named here. -/
import Derived.Test.YtknlllpfjineaaaPm10M
import Derived.Test.YtknlllpfjineaaaWC
namespace Go.Proofs.Ytknlllpfjineaaa
open Go.RowKit
set_option linter.unusedVariables false
set_option linter.unusedSimpArgs false

theorem pl8_yes {C H V m M : Nat} (hok : tenOk [(C : Int), (H : Int), (V : Int)] m = true) (hM : 1 ≤ M ∧ M ≤ 64) (hf : M ≤ H ∧ M ≤ V) (l : List Int) :
    pl8E [(C : Int), (H : Int), (V : Int)] m (M : Int) = 0 ∧ pl8S [(C : Int), (H : Int), (V : Int)] m (M : Int) = [(C : Int), ((H / M : Nat) : Int), ((V / M : Nat) : Int)] ∧ pl8L [(C : Int), (H : Int), (V : Int)] m l (M : Int) = poolL l C H V M (H / M) (V / M) ∧ tenOk [(C : Int), ((H / M : Nat) : Int), ((V / M : Nat) : Int)] (C * (H / M) * (V / M)) = true := by
  have hE : pp8E [(C : Int), (H : Int), (V : Int)] (M : Int) = 0 := by
    refine pp8E_iff.2 ⟨⟨(tenOk_iff.1 hok).1, by omega, by omega⟩, rfl, ?_, ?_⟩
    · simp only [List.getD_cons_zero, List.getD_cons_succ]; omega
    · simp only [List.getD_cons_zero, List.getD_cons_succ]; omega
  have hS : pp8S [(C : Int), (H : Int), (V : Int)] (M : Int) = [(C : Int), ((H / M : Nat) : Int), ((V / M : Nat) : Int)] := by
    rw [pp8S, if_pos hE]; simp
  have h0 : pl8E [(C : Int), (H : Int), (V : Int)] m (M : Int) = 0 := by rw [pl8E, if_pos hok, hE]
  refine ⟨h0, by rw [pl8S, if_pos h0, hS], by rw [pl8L, if_pos h0, hS]; simp only [List.getD_cons_zero, List.getD_cons_succ, Int.toNat_natCast], ?_⟩
  have hp := pool_size hok hE hS
  exact tenOk_iff.2 ⟨hp, by rw [(three_size hp).2.2.2.1]⟩

theorem pl8_no {C H V m M : Nat} (hok : tenOk [(C : Int), (H : Int), (V : Int)] m = true) (hM : 1 ≤ M ∧ M ≤ 64) (hf : ¬ (M ≤ H ∧ M ≤ V)) : pl8E [(C : Int), (H : Int), (V : Int)] m (M : Int) = 10 := by
  rw [pl8E, if_pos hok]
  refine pp8E_shape ⟨(tenOk_iff.1 hok).1, by omega, by omega⟩ ?_
  rintro ⟨_, h1, h2⟩
  simp only [List.getD_cons_zero, List.getD_cons_succ] at h1 h2
  exact hf ⟨by omega, by omega⟩

/-- A number of a square is a number of the picture. -/
theorem great_at {l : List Int} {C H V M c y x q : Nat} {m : Nat} (hm : m = C * H * V) (hl : l.length = m) (hc : c < C) (hy : y * M + M ≤ H) (hx : x * M + M ≤ V) (hq : q < M * M) :
    (c * H + y * M + q / M) * V + x * M + q % M < m ∧ numAt l H V c ((y * M + q / M : Nat) : Int) ((x * M + q % M : Nat) : Int) = l.getD ((c * H + y * M + q / M) * V + x * M + q % M) 0 := by
  have hM : 0 < M := by
    rcases Nat.eq_zero_or_pos M with e | e
    · rw [e] at hq; simp at hq
    · exact e
  have h1 : q / M < M := Nat.div_lt_of_lt_mul hq
  have h2 : q % M < M := Nat.mod_lt _ hM
  generalize q / M = qd at *
  generalize q % M = qm at *
  have h3 := place3_lt (C := C) (Y := H) (X := V) (c := c) (y := y * M + qd) (x := x * M + qm) hc (by omega) (by omega)
  refine ⟨by rw [hm, Nat.add_assoc (c * H), Nat.add_assoc]; exact h3, ?_⟩
  rw [numAt_in (by omega), Int.toNat_natCast, Int.toNat_natCast, Nat.add_assoc (c * H), Nat.add_assoc (_ * V)]

/-- None of the square's numbers is greater, and one is that. -/
theorem great_step {l : List Int} {H V c y x M : Nat} (hM : 0 < M) {g : Int} (hg : g = greatN l H V c y x M (M * M)) {q : Nat} (hq : q < M * M) :
    numAt l H V c ((y + q / M : Nat) : Int) ((x + q % M : Nat) : Int) ≤ g := by
  rw [hg]; exact (greatN_top l H V c y x M (M * M)).2.1 q hq

/-- Is one of the first k numbers of a square that one? -/
def seen8 (l : List Int) (H V c y x M : Nat) (g : Int) : Nat → Bool
  | 0 => false
  | q + 1 => seen8 l H V c y x M g q || (numAt l H V c ((y + q / M : Nat) : Int) ((x + q % M : Nat) : Int) == g)

theorem seen8_of {l : List Int} {H V c y x M : Nat} {g : Int} {q : Nat} (h : numAt l H V c ((y + q / M : Nat) : Int) ((x + q % M : Nat) : Int) = g) : ∀ k, q < k → seen8 l H V c y x M g k = true
  | k + 1, hk => by
    rw [seen8]
    by_cases e : q = k
    · subst e; rw [h, beq_self_eq_true, Bool.or_true]
    · rw [seen8_of h k (by omega)]; rfl

theorem seen8_all {l : List Int} {H V c y x M : Nat} (hM : 0 < M) {g : Int} (hg : g = greatN l H V c y x M (M * M)) : seen8 l H V c y x M g (M * M) = true := by
  obtain ⟨_, i, j, hi, hj, h⟩ := greatN_is l H V c y x hM
  refine seen8_of (q := i * M + j) ?_ _ (place_lt hi hj)
  rw [Nat.mul_comm i M, Nat.mul_add_div hM, Nat.div_eq_of_lt hj, Nat.mul_add_mod, Nat.mod_eq_of_lt hj, hg, ← h, Nat.add_zero]

end Go.Proofs.Ytknlllpfjineaaa
