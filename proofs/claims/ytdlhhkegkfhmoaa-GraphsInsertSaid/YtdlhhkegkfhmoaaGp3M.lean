/- A graph with one node more, as plain lists. -/
import Derived.Test.YtdlhhkegkfhmoaaGp2M
namespace Go.Proofs.Ytdlhhkegkfhmoaa
open Go.RowKit
set_option linter.unusedVariables false
set_option linter.unusedSimpArgs false
set_option maxRecDepth 100000

theorem inIx_lt {ns : List Nd} (h : 0 ≤ inIx ns) : (inIx ns).toNat < ns.length := by
  have := inIx_ge ns
  omega

/-- A graph that may be, with one node more. -/
theorem gph_snoc {ns : List Nd} {x : Nd} (hb : gphB ns = true) : gphB (ns ++ [x]) = (decide (ns.length < 32) && decide (x.kd ≠ 1) && decide (x.kd ≠ 2) && fitN x (gphS ns)) := by
  obtain ⟨he, ss, hs, e⟩ := gphB_parts hb
  obtain ⟨e1, e2, e3, e4⟩ := endsOk_parts he
  have hl := inIx_lt e2
  have hi : inIx (ns ++ [x]) = inIx ns := by rw [inIx_snoc, if_neg (by omega)]
  have hd : (ns ++ [x]).drop ((inIx ns).toNat + 1) = ns.drop ((inIx ns).toNat + 1) ++ [x] := List.drop_append_of_le_length (by omega)
  have h3 := inIx_ge (ns.drop ((inIx ns).toNat + 1))
  have h4 : inIx (ns.drop ((inIx ns).toNat + 1)) = -1 := by omega
  have hla : lastOk (ns ++ [x]) = (!(x.kd == 1) && (x.kd != 2)) := lastOk_at (by simp)
  have hall : allSh (ns ++ [x]) [] = if fitN x ss = true then some (ss ++ [shN x ss]) else none := by
    rw [allSh_append, hs]
    show allSh [x] ss = _
    rw [allSh]
    split <;> rfl
  rw [e]
  cases hq : (decide (ns.length < 32) && decide (x.kd ≠ 1) && decide (x.kd ≠ 2) && fitN x ss) with
  | true =>
    simp only [Bool.and_eq_true, decide_eq_true_eq] at hq
    obtain ⟨⟨⟨q1, q2⟩, q3⟩, q4⟩ := hq
    refine gphB_mk (endsOk_mk (by simp; omega) (by omega) ?_ ?_) (by rw [hall, if_pos q4])
    · rw [hi, hd, inIx_snoc, if_pos h4, if_neg q2]; omega
    · rw [hla]; simp [q2, q3]
  | false =>
    cases hg : gphB (ns ++ [x]) with
    | false => rfl
    | true =>
      exfalso
      obtain ⟨he2, ts, ht, _⟩ := gphB_parts hg
      obtain ⟨d1, d2, d3, d4⟩ := endsOk_parts he2
      rw [hla] at d4
      simp only [Bool.and_eq_true, Bool.not_eq_true', beq_eq_false_iff_ne, bne_iff_ne] at d4
      have hf : fitN x ss = true := by
        rw [hall] at ht
        split at ht
        · assumption
        · cases ht
      have : (decide (ns.length < 32) && decide (x.kd ≠ 1) && decide (x.kd ≠ 2) && fitN x ss) = true := by
        simp only [Bool.and_eq_true, decide_eq_true_eq]
        refine ⟨⟨⟨?_, d4.1⟩, d4.2⟩, hf⟩
        simp at d1
        omega
      rw [this] at hq
      cases hq

theorem gphS_snoc {ns : List Nd} {x : Nd} (hb : gphB ns = true) (h2 : gphB (ns ++ [x]) = true) : gphS (ns ++ [x]) = gphS ns ++ [shN x (gphS ns)] := by
  obtain ⟨_, ss, hs, e⟩ := gphB_parts hb
  obtain ⟨_, ts, ht, e2⟩ := gphB_parts h2
  rw [e, e2]
  rw [allSh_append, hs] at ht
  have ht' : allSh [x] ss = some ts := ht
  rw [allSh] at ht'
  split at ht'
  · injection ht' with h; exact h.symm
  · cases ht'

/-- Nodes that take in one, and change no shape. -/
theorem fit_relu (a : Option Addr) (N : Int) (z : Int) (ss : List (List Int)) : fitN ⟨5, a, 1, 1, none, 0, 0, N, 0, [z], []⟩ ss = (decide (N = 0) && decide (0 ≤ z ∧ z < (ss.length : Int))) := by
  have e : (5 : Int).toNat = 5 := rfl
  by_cases hN : N = 0
  · subst hN
    simp [fitN, alw, rlT, allKn, nodeE, lOk, e]
  · have : ¬ (0 ≤ N ∧ N ≤ 0) := by omega
    simp [fitN, alw, rlT, allKn, nodeE, lOk, e, hN]
    omega

theorem fit_shift (a : Option Addr) (N : Int) (z : Int) (ss : List (List Int)) : fitN ⟨6, a, 1, 1, none, 0, 0, N, 0, [z], []⟩ ss = (decide (0 ≤ N ∧ N ≤ 31) && decide (0 ≤ z ∧ z < (ss.length : Int))) := by
  have e : (6 : Int).toNat = 6 := rfl
  simp [fitN, alw, rlT, allKn, nodeE, lOk, e]

theorem fit_relu2 (a : Option Addr) (z y : Int) (ss : List (List Int)) : fitN ⟨5, a, 2, 2, none, 0, 0, 0, 0, [z, y], []⟩ ss = false := by
  have e : (5 : Int).toNat = 5 := rfl
  simp [fitN, alw, rlT, allKn, nodeE, lOk, e]

theorem sh_relu (a : Option Addr) (N : Int) (k : Nat) (ss : List (List Int)) : shN ⟨5, a, 1, 1, none, 0, 0, N, 0, [(k : Int)], []⟩ ss = ss.getD k [] := by
  show knL ss [(k : Int)] 0 = _
  have e0 : ([(k : Int)].getD 0 0).toNat = k := rfl
  rw [knL, e0, List.getD_eq_getElem?_getD]
  cases ss[k]? <;> rfl

end Go.Proofs.Ytdlhhkegkfhmoaa
