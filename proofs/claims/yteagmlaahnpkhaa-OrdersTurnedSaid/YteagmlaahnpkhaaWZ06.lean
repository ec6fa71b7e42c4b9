/- Merged: Ma4. -/
import Derived.Test.YteagmlaahnpkhaaWZ05
namespace Go.Proofs.Yteagmlaahnpkhaa

section
open Go.RowKit
set_option linter.unusedVariables false
set_option linter.unusedSimpArgs false
set_option maxRecDepth 20000

/-- Why two tensors can't be put together. -/
def twoE (s : List Int) (m : Nat) (s' : List Int) (m' : Nat) : Int := if tenOk s m = true ∧ tenOk s' m' = true then (if s = s' then 0 else 10) else 1

theorem twoE_ok {s s' : List Int} {m m' : Nat} (h1 : tenOk s m = true) (h2 : tenOk s' m' = true) (h3 : s = s') : twoE s m s' m' = 0 := by rw [twoE, if_pos ⟨h1, h2⟩, if_pos h3]

theorem twoE_shape {s s' : List Int} {m m' : Nat} (h1 : tenOk s m = true) (h2 : tenOk s' m' = true) (h3 : ¬ s = s') : twoE s m s' m' = 10 := by rw [twoE, if_pos ⟨h1, h2⟩, if_neg h3]

theorem twoE_arg {s s' : List Int} {m m' : Nat} (h : ¬ (tenOk s m = true ∧ tenOk s' m' = true)) : twoE s m s' m' = 1 := by rw [twoE, if_neg h]

/-- What two tensors' shape is put together. -/
def twoS (s : List Int) (m : Nat) (s' : List Int) (m' : Nat) : List Int := if twoE s m s' m' = 0 then s else []

def twoL (f : Int → Int → Int) (s : List Int) (m : Nat) (s' : List Int) (m' : Nat) (l l' : List Int) : List Int := if twoE s m s' m' = 0 then List.zipWith f l l' else []

theorem twoE_iff {s s' : List Int} {m m' : Nat} : twoE s m s' m' = 0 ↔ tenOk s m = true ∧ tenOk s' m' = true ∧ s = s' := by
  unfold twoE
  by_cases h : tenOk s m = true ∧ tenOk s' m' = true
  · rw [if_pos h]
    by_cases h3 : s = s'
    · rw [if_pos h3]; exact ⟨fun _ => ⟨h.1, h.2, h3⟩, fun _ => rfl⟩
    · rw [if_neg h3]; exact ⟨fun e => absurd e (by decide), fun e => absurd e.2.2 h3⟩
  · rw [if_neg h]; exact ⟨fun e => absurd e (by decide), fun e => absurd ⟨e.1, e.2.1⟩ h⟩

end

end Go.Proofs.Yteagmlaahnpkhaa
