/- Bytes and numbers in slices, cell by cell. -/
import Derived.Test.YtlalfjlcgabnnaaGreatDoorRows
import Derived.Test.YtlalfjlcgabnnaaGreatDoorMem
import Derived.Test.YtlalfjlcgabnnaaGreatDoorWords
import Derived.Deep.QuietTactic
import Derived.BigQuiet
namespace Go.Proofs.YtlalfjlcgabnnaaGreatDoor
open Go.RowKit

theorem Tryz.infoB : (Tryz.prog.info? 5).map (fun i => (i.zero, i.size, i.bytes)) = some (some (.int .u8 0), 1, 1) := by kernel_rfl

theorem Tryz.sizeB : (Tryz.prog.info? 5).map (·.size) = some 1 := by kernel_rfl

theorem byte_at {w : World} {A : Option Addr} {n : Nat} {bs : List Int} {k : IntKind} (h : Lies w A n (bs.map (Value.int k))) (hn : 0 < n) :
    ∃ b o, A = some ⟨b, o, none⟩ ∧ b < w.heap.size ∧ ∀ j, j < n → w.cell? ⟨b, o + j, none⟩ = some (.int k (bs.getD j 0)) := by
  obtain ⟨b, o, e, hb, hx⟩ := h.cells hn
  refine ⟨b, o, e, hb, fun j hj => ?_⟩
  have hl : j < bs.length := by have := h.len; simp at this; omega
  rw [hx j hj]
  simp [List.getD, hl]

theorem bytes_getD {bs : List Int} (h : Bytes bs) (j : Nat) : 0 ≤ bs.getD j 0 ∧ bs.getD j 0 < 256 := by
  by_cases hj : j < bs.length
  · have := h (bs[j]) (List.getElem_mem hj)
    simpa [List.getD, hj] using this
  · simp [List.getD, List.getElem?_eq_none (by omega : bs.length ≤ j)]

end Go.Proofs.YtlalfjlcgabnnaaGreatDoor
