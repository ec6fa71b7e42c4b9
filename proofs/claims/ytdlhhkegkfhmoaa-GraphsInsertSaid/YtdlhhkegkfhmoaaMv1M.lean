/- Contract of moves.Shape: the same numbers with another shape, or refused. -/
import Derived.Test.YtdlhhkegkfhmoaaWB
import Derived.Deep.Cut
namespace Go.Proofs.Ytdlhhkegkfhmoaa
open Go.RowKit
set_option linter.unusedVariables false
set_option linter.unusedSimpArgs false
set_option maxRecDepth 100000

theorem infoN9 : (Try.prog.info? 21).map (fun i => (i.zero, i.size, i.bytes)) = some (some (.int .i32 0), 1, 4) := by kernel_rfl

theorem lies_len9 {w : World} {A : Option Addr} {n : Nat} {k : IntKind} {xs : List Int} (h : Lies w A n (xs.map (Value.int k))) : xs.length = n := by
  have := h.len
  simpa using this

/-- What moves.Shape answers. -/
def msE (s : List Int) (m : Nat) (s' : List Int) : Int := if tenOk s m = true ∧ 0 < sizeI s' then (if sizeI s' = (m : Int) then 0 else 10) else 1

def msS (s : List Int) (m : Nat) (s' : List Int) : List Int := if msE s m s' = 0 then s' else []

def msL (s : List Int) (m : Nat) (s' l : List Int) : List Int := if msE s m s' = 0 then l else []

theorem msE_iff {s s' : List Int} {m : Nat} : msE s m s' = 0 ↔ tenOk s m = true ∧ 0 < sizeI s' ∧ sizeI s' = (m : Int) := by
  unfold msE
  by_cases h : tenOk s m = true ∧ 0 < sizeI s'
  · rw [if_pos h]
    by_cases h2 : sizeI s' = (m : Int)
    · rw [if_pos h2]; exact ⟨fun _ => ⟨h.1, h.2, h2⟩, fun _ => rfl⟩
    · rw [if_neg h2]; exact ⟨fun e => absurd e (by decide), fun e => absurd e.2.2 h2⟩
  · rw [if_neg h]; exact ⟨fun e => absurd e (by decide), fun e => absurd ⟨e.1, e.2.1⟩ h⟩

theorem msE_all (s : List Int) (m : Nat) (s' : List Int) : msE s m s' = 0 ∨ msE s m s' = 1 ∨ msE s m s' = 10 := by
  unfold msE
  split
  · split
    · exact .inl rfl
    · exact .inr (.inr rfl)
  · exact .inr (.inl rfl)

end Go.Proofs.Ytdlhhkegkfhmoaa
