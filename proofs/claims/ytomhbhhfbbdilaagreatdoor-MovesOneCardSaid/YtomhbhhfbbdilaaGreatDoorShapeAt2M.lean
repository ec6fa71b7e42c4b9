/- Contracts of At of package shapes: one for each way an answer comes out; nothing that was there is changed. -/
import Derived.Test.YtomhbhhfbbdilaaGreatDoorWA
namespace Go.Proofs.YtomhbhhfbbdilaaGreatDoor
open Go.RowKit
set_option linter.unusedVariables false
set_option linter.unusedSimpArgs false

theorem make_ints (w : World) (n : Nat) (h : n ≤ 1048576) : (Instr.makeSlice 31 (.int .i64 (n : Int)) (.int .i64 (n : Int))).run Tryz.prog w = .ok (.slice (some ⟨w.heap.size, 0, none⟩) n n) (w.alloc (.cells ((List.replicate n (0 : Int)).map (Value.int .i64)).toArray 3)) := by
  obtain ⟨i0, hi, hz0, hz1, hz2⟩ := info_parts Tryz.infoI
  have hr := run_make (P := Tryz.prog) w 31 3 i0 (.int .i64 0) Tryz.underlying31 hi hz0 .i64 .i64 (n : Int) (n : Int) (by omega) (by omega) (by rw [hz2]; omega) (by omega)
  have e : madeCells (Value.int .i64 0).cells n = ((List.replicate n (0 : Int)).map (Value.int .i64)).toArray := by
    apply Array.toList_inj.1
    have := toList_madeCells_one (.int .i64 0) n
    simpa [Value.cells] using this
  rw [hr, hz1]
  simp only [Int.toNat_natCast, Nat.mul_one]
  rw [e]

/-- The places while they are laid, from the last one on. -/
def rowK (xs : List Int) (i : Int) (k : Nat) : List Value := (List.replicate k (0 : Int) ++ digs (xs.drop k) i).map (Value.int .i64)

theorem rowK_len {xs : List Int} {i : Int} {k : Nat} (h : k ≤ xs.length) : (rowK xs i k).length = xs.length := by
  simp [rowK, digs_len]; omega

theorem rowK_set {xs : List Int} {i : Int} {k : Nat} (h : k < xs.length) : (rowK xs i (k + 1)).toArray.setIfInBounds k (.int .i64 (i / prodZ (xs.drop (k + 1)) % xs.getD k 0)) = (rowK xs i k).toArray := by
  rw [List.setIfInBounds_toArray]
  congr 1
  unfold rowK
  rw [drop_at h, digs, ← List.map_set, List.set_append_left _ _ (by simp)]
  congr 1
  rw [List.replicate_succ', List.set_append_right _ _ (by simp)]
  simp

end Go.Proofs.YtomhbhhfbbdilaaGreatDoor
