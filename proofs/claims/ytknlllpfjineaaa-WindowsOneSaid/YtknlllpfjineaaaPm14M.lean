/- What a window of one number answers at pictures that may be. No program is named here. -/
import Derived.Test.YtknlllpfjineaaaPm11M
import Derived.Test.YtknlllpfjineaaaWC
namespace Go.Proofs.Ytknlllpfjineaaa
open Go.RowKit
set_option linter.unusedVariables false
set_option linter.unusedSimpArgs false

theorem ten_one8 : tenOk [((1 : Nat) : Int), ((1 : Nat) : Int), ((1 : Nat) : Int), ((1 : Nat) : Int)] 1 = true := by decide

theorem hm8_one {h p q : Int} (h1 : 1 ≤ h) (hp : 0 ≤ p) : hm8 (h + 2 * p) 1 q = (h + 2 * p - 1) / q + 1 := by
  unfold hm8
  rw [if_neg (by omega)]

theorem shp_one8 {H V m : Nat} {q p : Int} (hok : tenOk [((1 : Nat) : Int), (H : Int), (V : Int)] m = true) (hp : 0 ≤ p ∧ p ≤ 8) (hq : 1 ≤ q ∧ q ≤ 8) :
    shp8L [((1 : Nat) : Int), (H : Int), (V : Int)] [((1 : Nat) : Int), ((1 : Nat) : Int), ((1 : Nat) : Int), ((1 : Nat) : Int)] q p = [((1 : Nat) : Int), ((H : Int) + 2 * p - 1) / q + 1, ((V : Int) + 2 * p - 1) / q + 1] ∧
    (shp8E [((1 : Nat) : Int), (H : Int), (V : Int)] [((1 : Nat) : Int), ((1 : Nat) : Int), ((1 : Nat) : Int), ((1 : Nat) : Int)] q p = 0 ∨ shp8E [((1 : Nat) : Int), (H : Int), (V : Int)] [((1 : Nat) : Int), ((1 : Nat) : Int), ((1 : Nat) : Int), ((1 : Nat) : Int)] q p = 10) := by
  obtain ⟨_, hH, hV, _, _⟩ := ten_three hok
  constructor
  · simp only [shp8L, List.getD_cons_zero, List.getD_cons_succ, Int.natCast_one]
    rw [hm8_one (by omega) hp.1, hm8_one (by omega) hp.1]
  · have h1 := (tenOk_iff.1 hok).1
    have h2 := (tenOk_iff.1 ten_one8).1
    obtain ⟨e1, e2⟩ := shp8E_end (t := [((1 : Nat) : Int), (H : Int), (V : Int)]) (u := [((1 : Nat) : Int), ((1 : Nat) : Int), ((1 : Nat) : Int), ((1 : Nat) : Int)]) (step := q) (pad := p) ⟨h1, h2, hq.1, hq.2, hp.1, hp.2⟩ ⟨rfl, rfl, rfl⟩
    by_cases h : 0 < sizeI (shp8L [((1 : Nat) : Int), (H : Int), (V : Int)] [((1 : Nat) : Int), ((1 : Nat) : Int), ((1 : Nat) : Int), ((1 : Nat) : Int)] q p)
    · exact .inl (e1 h)
    · exact .inr (e2 h)

/-- By steps of 1, nothing around. -/
theorem shp_one8_whole {H V m : Nat} (hok : tenOk [((1 : Nat) : Int), (H : Int), (V : Int)] m = true) :
    shp8E [((1 : Nat) : Int), (H : Int), (V : Int)] [((1 : Nat) : Int), ((1 : Nat) : Int), ((1 : Nat) : Int), ((1 : Nat) : Int)] ((1 : Nat) : Int) ((0 : Nat) : Int) = 0 ∧
    shp8L [((1 : Nat) : Int), (H : Int), (V : Int)] [((1 : Nat) : Int), ((1 : Nat) : Int), ((1 : Nat) : Int), ((1 : Nat) : Int)] ((1 : Nat) : Int) ((0 : Nat) : Int) = [((1 : Nat) : Int), (H : Int), (V : Int)] := by
  obtain ⟨hL, _⟩ := shp_one8 (q := ((1 : Nat) : Int)) (p := ((0 : Nat) : Int)) hok (by omega) (by omega)
  have e : ∀ z : Int, (z + 2 * ((0 : Nat) : Int) - 1) / ((1 : Nat) : Int) + 1 = z := fun z => by
    rw [Int.natCast_one, Int.ediv_one]; omega
  rw [e, e] at hL
  refine ⟨shp8E_iff.2 ⟨⟨(tenOk_iff.1 hok).1, (tenOk_iff.1 ten_one8).1, by omega, by omega, by omega, by omega⟩, ⟨rfl, rfl, rfl⟩, ?_⟩, hL⟩
  rw [hL]; exact (tenOk_iff.1 hok).1

/-- What the window answers with a step and a pad. -/
theorem of_one8 {H V m q p : Nat} (hok : tenOk [((1 : Nat) : Int), (H : Int), (V : Int)] m = true) (hp : p ≤ 8) (hq : 1 ≤ q ∧ q ≤ 8) (l : List Int) (n : Int) :
    of8E [((1 : Nat) : Int), (H : Int), (V : Int)] m [((1 : Nat) : Int), ((1 : Nat) : Int), ((1 : Nat) : Int), ((1 : Nat) : Int)] 1 (q : Int) (p : Int) = 10 ∨
    (of8E [((1 : Nat) : Int), (H : Int), (V : Int)] m [((1 : Nat) : Int), ((1 : Nat) : Int), ((1 : Nat) : Int), ((1 : Nat) : Int)] 1 (q : Int) (p : Int) = 0 ∧ ∃ Y X : Nat, Y = (H + 2 * p - 1) / q + 1 ∧ X = (V + 2 * p - 1) / q + 1 ∧ (1 ≤ Y ∧ Y ≤ 64) ∧ (1 ≤ X ∧ X ≤ 64) ∧ 1 * Y * X ≤ 4096 ∧
      of8S [((1 : Nat) : Int), (H : Int), (V : Int)] m [((1 : Nat) : Int), ((1 : Nat) : Int), ((1 : Nat) : Int), ((1 : Nat) : Int)] 1 (q : Int) (p : Int) = [((1 : Nat) : Int), (Y : Int), (X : Int)] ∧
      of8L [((1 : Nat) : Int), (H : Int), (V : Int)] m [((1 : Nat) : Int), ((1 : Nat) : Int), ((1 : Nat) : Int), ((1 : Nat) : Int)] 1 l [n] (q : Int) (p : Int) = winL l [n] 1 H V 1 1 1 q p Y X) := by
  obtain ⟨_, hH, hV, _, _⟩ := ten_three hok
  obtain ⟨hL, hE⟩ := shp_one8 (q := (q : Int)) (p := (p : Int)) hok (by omega) (by omega)
  have e0 : of8E [((1 : Nat) : Int), (H : Int), (V : Int)] m [((1 : Nat) : Int), ((1 : Nat) : Int), ((1 : Nat) : Int), ((1 : Nat) : Int)] 1 (q : Int) (p : Int) = shp8E [((1 : Nat) : Int), (H : Int), (V : Int)] [((1 : Nat) : Int), ((1 : Nat) : Int), ((1 : Nat) : Int), ((1 : Nat) : Int)] (q : Int) (p : Int) := by rw [of8E, if_pos ⟨hok, ten_one8⟩]
  rcases hE with hE | hE
  · right
    have e1 : ∀ h : Nat, 1 ≤ h → ((h : Int) + 2 * (p : Int) - 1) / (q : Int) + 1 = (((h + 2 * p - 1) / q + 1 : Nat) : Int) := fun h hh => by
      rw [Int.natCast_add, Int.natCast_ediv, show ((h + 2 * p - 1 : Nat) : Int) = (h : Int) + 2 * (p : Int) - 1 by omega]; rfl
    rw [e1 H hH.1, e1 V hV.1] at hL
    have hz := (shp8E_iff.1 hE).2.2
    rw [hL] at hz
    obtain ⟨_, y1, x1, _, _, z1⟩ := three_size hz
    have h0 := e0.trans hE
    refine ⟨h0, _, _, rfl, rfl, y1, x1, z1, by rw [of8S, if_pos h0, hL], ?_⟩
    rw [of8L, if_pos h0, hL]
    simp only [List.getD_cons_zero, List.getD_cons_succ, Int.toNat_natCast]
  · exact .inl (e0.trans hE)

end Go.Proofs.Ytknlllpfjineaaa
