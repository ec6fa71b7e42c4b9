/- Merged: Mv1, Mv2. -/
import Derived.Test.YtohndckbhjakfaaGreatDoorWZ08
import Derived.Test.YtohndckbhjakfaaGreatDoorWZ09
import Derived.Deep.Cut
namespace Go.Proofs.YtohndckbhjakfaaGreatDoor

section
open Go.RowKit
set_option linter.unusedVariables false
set_option linter.unusedSimpArgs false
set_option maxRecDepth 100000

theorem lies_len9 {w : World} {A : Option Addr} {n : Nat} {k : IntKind} {xs : List Int} (h : Lies w A n (xs.map (Value.int k))) : xs.length = n := by
  have := h.len
  simpa using this

/-- What moves.Shape answers. -/
def msE (s : List Int) (m : Nat) (s' : List Int) : Int := if tenOk s m = true ∧ 0 < sizeI s' then (if sizeI s' = (m : Int) then 0 else 10) else 1

def msS (s : List Int) (m : Nat) (s' : List Int) : List Int := if msE s m s' = 0 then s' else []

def msL (s : List Int) (m : Nat) (s' l : List Int) : List Int := if msE s m s' = 0 then l else []

end

section
open Go.RowKit
set_option linter.unusedVariables false
set_option linter.unusedSimpArgs false
set_option maxRecDepth 100000

section
variable {w : World} {p : Nat} {v u : Value}

end

theorem own_set9 {w : World} {base : Nat} {e : TypeId} {g n c k : Nat} {xs : List Value} {v : Value} (h : w.ownsRow base e 1 (.slice (some ⟨g, 0, none⟩) n c) n xs) (hk : k < n) :
    (w.setCell ⟨g, k, none⟩ v).ownsRow base e 1 (.slice (some ⟨g, 0, none⟩) n c) n (xs.set k v) := by
  rcases h.2 with ⟨e0, _⟩ | ⟨g', cap, cur, e0, hb, hg, hm, hl, hs, ht⟩
  · cases e0
  · cases e0
    refine ⟨by simpa using h.1, .inr ⟨g, c, cur.setIfInBounds k v, rfl, hb, ?_, hm, hl, by simpa using hs, ?_⟩⟩
    · rw [setCell_eq_setRow w g k cur e (0, 0) v hg]
      exact setRow_heap w g cur _ e (0, 0) hg
    · rw [← ht, Array.toList_setIfInBounds, List.take_set]

theorem own_cells9 {w : World} {base : Nat} {e : TypeId} {g n c k : Nat} {zs : List Int} {kk : IntKind} (h : w.ownsRow base e 1 (.slice (some ⟨g, 0, none⟩) n c) n (zs.map (Value.int kk))) (hk : k < n) :
    w.cell? ⟨g, k, none⟩ = some (.int kk (zs.getD k 0)) ∧ w.frozen? ⟨g, k, none⟩ = false := by
  constructor
  · obtain ⟨b, o, e0, _, hx⟩ := byte_at (lies_of_own h) (by omega)
    cases e0
    have h1 := hx k hk
    rwa [Nat.zero_add] at h1
  · rcases h.2 with ⟨e0, _⟩ | ⟨g', cap, cur, e0, hb, hg, hm, hl, hs, ht⟩
    · cases e0
    · cases e0
      exact frozen_of_row w g k _ _ hg

theorem make_ints9 (w : World) (n : Nat) (h : n ≤ 1048576) : (Instr.makeSlice 35 (.int .i64 (n : Int)) (.int .i64 (n : Int))).run Tryz.prog w = .ok (.slice (some ⟨w.heap.size, 0, none⟩) n n) (w.alloc (.cells ((List.replicate n (0 : Int)).map (Value.int .i64)).toArray 3)) := by
  obtain ⟨i0, hi, hz0, hz1, hz2⟩ := info_parts Tryz.infoI
  have hr := run_make (P := Tryz.prog) w 35 3 i0 (.int .i64 0) Tryz.underlying35 hi hz0 .i64 .i64 (n : Int) (n : Int) (by omega) (by omega) (by rw [hz2]; omega) (by omega)
  have e : madeCells (Value.int .i64 0).cells n = ((List.replicate n (0 : Int)).map (Value.int .i64)).toArray := by
    apply Array.toList_inj.1
    have := toList_madeCells_one (.int .i64 0) n
    simpa [Value.cells] using this
  rw [hr, hz1]
  simp only [Int.toNat_natCast, Nat.mul_one]
  rw [e]

/-- The strides of a shape: what the directions behind each come to. -/
def strL : List Int → List Int
  | [] => []
  | _ :: l => prodZ l :: strL l

/-- The strides while they are laid, from the last one on. -/
def strP (s : List Int) (j : Nat) : List Int := List.replicate j 0 ++ strL (s.drop j)

end

end Go.Proofs.YtohndckbhjakfaaGreatDoor

