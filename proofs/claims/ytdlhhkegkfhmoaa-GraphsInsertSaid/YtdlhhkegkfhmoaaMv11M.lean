/- Contract of moves.Turn: another order of the directions, or refused. -/
import Derived.Test.YtdlhhkegkfhmoaaMv10M
namespace Go.Proofs.Ytdlhhkegkfhmoaa
open Go.RowKit
set_option linter.unusedVariables false
set_option linter.unusedSimpArgs false
set_option maxRecDepth 100000

theorem pick_prod {s u : List Int} {n : Nat} (hl : s.length = n) (h : ordOk u n = true) (hn : n ≤ 4) : prodZ (pickL s u) = prodZ s := by
  obtain ⟨hul, hm⟩ := ordOk_iff.1 h
  match n, s, hl, u, hul with
  | 0, [], _, [], _ => rfl
  | 1, [x0], _, [a], _ =>
    have h0 := hm 0 (by omega)
    simp at h0
    subst h0
    simp [pickL]
  | 2, [x0, x1], _, [a, b], _ =>
    have h0 := hm 0 (by omega)
    have h1 := hm 1 (by omega)
    simp at h0 h1
    rcases h0 with h0 | h0 <;> rcases h1 with h1 | h1 <;> first | (exfalso; omega) | (subst h0 h1; simp [pickL, prodZ, Int.mul_comm, Int.mul_left_comm, Int.mul_assoc])
  | 3, [x0, x1, x2], _, [a, b, c], _ =>
    have h0 := hm 0 (by omega)
    have h1 := hm 1 (by omega)
    have h2 := hm 2 (by omega)
    simp at h0 h1 h2
    rcases h0 with h0 | h0 | h0 <;> rcases h1 with h1 | h1 | h1 <;> rcases h2 with h2 | h2 | h2 <;> first | (exfalso; omega) | (subst h0 h1 h2; simp [pickL, prodZ, Int.mul_comm, Int.mul_left_comm, Int.mul_assoc])
  | 4, [x0, x1, x2, x3], _, [a, b, c, d], _ =>
    have h0 := hm 0 (by omega)
    have h1 := hm 1 (by omega)
    have h2 := hm 2 (by omega)
    have h3 := hm 3 (by omega)
    simp at h0 h1 h2 h3
    rcases h0 with h0 | h0 | h0 | h0 <;> rcases h1 with h1 | h1 | h1 | h1 <;> first | (exfalso; omega) | (rcases h2 with h2 | h2 | h2 | h2 <;> first | (exfalso; omega) | (rcases h3 with h3 | h3 | h3 | h3 <;> first | (exfalso; omega) | (subst h0 h1 h2 h3; simp [pickL, prodZ, Int.mul_comm, Int.mul_left_comm, Int.mul_assoc])))
  | n + 5, _, _, _, _ => omega

theorem pick_size {s u : List Int} {n : Nat} (hl : s.length = n) (h : ordOk u n = true) (hn : n ≤ 4) : sizeI (pickL s u) = sizeI s := by
  unfold sizeI
  rw [pick_prod hl h hn, pickL_len, (ordOk_iff.1 h).1, hl]

/-- What moves.Turn answers. -/
def tuE (s : List Int) (m : Nat) (u : List Int) : Int := if tenOk s m = true ∧ ordOk u s.length = true then 0 else 1

def turnL (s l u : List Int) (m : Nat) : List Int := (List.range m).map fun k => l.getD (trN s (pickL s u) u k s.length) 0

def tuS (s : List Int) (m : Nat) (u : List Int) : List Int := if tuE s m u = 0 then pickL s u else []

def tuL (s : List Int) (m : Nat) (l u : List Int) : List Int := if tuE s m u = 0 then turnL s l u m else []

theorem turnL_len (s l u : List Int) (m : Nat) : (turnL s l u m).length = m := by simp [turnL]

theorem turnL_at {s l u : List Int} {m k : Nat} (h : k < m) : (turnL s l u m).getD k 0 = l.getD (trN s (pickL s u) u k s.length) 0 := by
  simp [turnL, List.getD, h]

theorem tuE_iff {s : List Int} {m : Nat} {u : List Int} : tuE s m u = 0 ↔ tenOk s m = true ∧ ordOk u s.length = true := by
  unfold tuE
  by_cases h : tenOk s m = true ∧ ordOk u s.length = true
  · rw [if_pos h]; exact ⟨fun _ => h, fun _ => rfl⟩
  · rw [if_neg h]; exact ⟨fun e => absurd e (by decide), fun e => absurd e h⟩

end Go.Proofs.Ytdlhhkegkfhmoaa
