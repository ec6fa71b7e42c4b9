/- Two nodes added, a node joined with itself, as plain lists. -/
import Derived.Test.YtdlhhkegkfhmoaaGp3M
namespace Go.Proofs.Ytdlhhkegkfhmoaa
open Go.RowKit
set_option linter.unusedVariables false
set_option linter.unusedSimpArgs false
set_option maxRecDepth 100000

theorem knL_two (ss : List (List Int)) (a b : Nat) : knL ss [(a : Int), (b : Int)] 0 = ss.getD a [] ∧ knL ss [(a : Int), (b : Int)] 1 = ss.getD b [] := by
  have e0 : ([(a : Int), (b : Int)].getD 0 0).toNat = a := rfl
  have e1 : ([(a : Int), (b : Int)].getD 1 0).toNat = b := rfl
  constructor
  · rw [knL, e0, List.getD_eq_getElem?_getD]; cases ss[a]? <;> rfl
  · rw [knL, e1, List.getD_eq_getElem?_getD]; cases ss[b]? <;> rfl

theorem fit_add (A : Option Addr) (a b : Nat) (ss : List (List Int)) (ha : a < ss.length) (hb : b < ss.length) : fitN ⟨3, A, 2, 2, none, 0, 0, 0, 0, [(a : Int), (b : Int)], []⟩ ss = decide (ss.getD a [] = ss.getD b []) := by
  have e : (3 : Int).toNat = 3 := rfl
  have h1 : alw (rlT 3) ⟨3, A, 2, 2, none, 0, 0, 0, 0, [(a : Int), (b : Int)], []⟩ = true := by simp [alw, rlT, lOk]
  have h2 : allKn [(a : Int), (b : Int)] ss.length = true := by simp [allKn]; omega
  obtain ⟨k0, k1⟩ := knL_two ss a b
  simp only [fitN, e, h1, h2, nodeE, k0, k1, cmE]
  by_cases h : ss.getD a [] = ss.getD b [] <;> simp [h]

/-- A node joined with itself. -/
def twL (s : List Int) (k : Nat) : List Int := s.set k (2 * s.getD k 0)

theorem join_parts (K : Nat → List Int) (s : List Int) (k : Nat) (h0 : K 0 = s) (h1 : K 1 = s) : jAll K k 1 = true ∧ jZ K k 1 = twL s k := by
  constructor
  · simp [jAll, h0, h1]
  · rw [jZ, jA, jA, h0, h1, twL]
    congr 1
    omega

theorem fit_join (A : Option Addr) (a k : Nat) (ss : List (List Int)) (ha : a < ss.length) (hk : k ≤ 3) : fitN ⟨12, A, 2, 2, none, 0, 0, (k : Int), 0, [(a : Int), (a : Int)], []⟩ ss = (decide (k < (ss.getD a []).length) && decide (0 < sizeI (twL (ss.getD a []) k))) := by
  have e : (12 : Int).toNat = 12 := rfl
  have h1 : alw (rlT 12) ⟨12, A, 2, 2, none, 0, 0, (k : Int), 0, [(a : Int), (a : Int)], []⟩ = true := by simp [alw, rlT, lOk]; omega
  have h2 : allKn [(a : Int), (a : Int)] ss.length = true := by simp [allKn]; omega
  obtain ⟨k0, k1⟩ := knL_two ss a a
  obtain ⟨j1, j2⟩ := join_parts (knL ss [(a : Int), (a : Int)]) _ k k0 k1
  have hj : jE (knL ss [(a : Int), (a : Int)]) 2 (k : Int) = if k < (ss.getD a []).length then (if 0 < sizeI (twL (ss.getD a []) k) then 0 else 10) else 1 := by
    rw [jE, k0, Int.toNat_natCast, show (2 : Nat) - 1 = 1 from rfl, j1, j2]
    simp
  rw [fitN, e, h1, h2, nodeE]
  rw [show ([(a : Int), (a : Int)] : List Int).length = 2 from rfl, hj]
  generalize ss.getD a [] = s
  by_cases h : k < s.length
  · by_cases h' : 0 < sizeI (twL s k)
    · rw [if_pos h, if_pos h', decide_eq_true h, decide_eq_true h']; rfl
    · rw [if_pos h, if_neg h', decide_eq_true h, decide_eq_false h']; rfl
  · rw [if_neg h, decide_eq_false h]; rfl

theorem sh_join (A : Option Addr) (a k : Nat) (ss : List (List Int)) (h : fitN ⟨12, A, 2, 2, none, 0, 0, (k : Int), 0, [(a : Int), (a : Int)], []⟩ ss = true) : shN ⟨12, A, 2, 2, none, 0, 0, (k : Int), 0, [(a : Int), (a : Int)], []⟩ ss = twL (ss.getD a []) k := by
  obtain ⟨_, _, _, h4⟩ := fitN_parts h
  obtain ⟨k0, k1⟩ := knL_two ss a a
  obtain ⟨j1, j2⟩ := join_parts (knL ss [(a : Int), (a : Int)]) _ k k0 k1
  show jS (knL ss [(a : Int), (a : Int)]) 2 (k : Int) = _
  rw [jS, if_pos (by exact h4), Int.toNat_natCast, show (2 : Nat) - 1 = 1 from rfl, j2]

end Go.Proofs.Ytdlhhkegkfhmoaa
