/- Merged: Wn2, Wn3. -/
import Derived.Test.YtohndckbhjakfaaGreatDoorWZ16
namespace Go.Proofs.YtohndckbhjakfaaGreatDoor

section
open Go.RowKit
set_option linter.unusedVariables false
set_option linter.unusedSimpArgs false
set_option maxRecDepth 100000

end

section
open Go.RowKit
set_option linter.unusedVariables false
set_option linter.unusedSimpArgs false
set_option maxRecDepth 100000

/-- How many places a window has along a direction. -/
def hm8 (p f step : Int) : Int := if p < f then 0 else (p - f) / step + 1

set_option maxHeartbeats 400000 in
theorem howMany_any (p f step : Int) (w : World) (hp : -1000 ≤ p ∧ p ≤ 1000) (hf : 0 ≤ f ∧ f ≤ 1000) (hs : 1 ≤ step ∧ step ≤ 8) :
    Calls Tryz.prog 134 #[.int .i64 p, .int .i64 f, .int .i64 step] w fun e w' => e = .returned (.int .i64 (hm8 p f step)) ∧ w = w' := by
  by_cases h : p < f
  · have e : hm8 p f step = 0 := by rw [hm8, if_pos h]
    rw [e]
    go_enter Tryz.func134, Tryz.ntmps134
    go_wp2
    go_ret
    exact ⟨rfl, rfl⟩
  · have e : hm8 p f step = (p - f) / step + 1 := by rw [hm8, if_neg h]
    have hq := Int.ediv_nonneg (show 0 ≤ p - f by omega) (show 0 ≤ step by omega)
    have hq2 : (p - f) / step ≤ p - f := Int.ediv_le_self _ (by omega)
    obtain ⟨u, hu⟩ : ∃ u, u = p - f := ⟨_, rfl⟩
    obtain ⟨q, hqq⟩ : ∃ q, q = u / step := ⟨_, rfl⟩
    rw [← hu, ← hqq] at e hq hq2
    have m1 : IntKind.i64.wrap (p - f) = u := by rw [hu, IntKind.wrap_i64]; omega
    have m2 : u.tdiv step = q := by rw [hqq, Int.tdiv_eq_ediv_of_nonneg (by omega)]
    have m3 : IntKind.i64.wrap q = q := by rw [IntKind.wrap_i64]; omega
    have m4 : IntKind.i64.wrap (q + 1) = q + 1 := by rw [IntKind.wrap_i64]; omega
    have hs0 : ¬ step = 0 := by omega
    rw [e]
    clear e hqq hu
    go_enter Tryz.func134, Tryz.ntmps134
    go_wp2
    go_ret
    exact ⟨rfl, rfl⟩

end

end Go.Proofs.YtohndckbhjakfaaGreatDoor

