/- Contracts of GetFour and copyWithRoom. -/
import Derived.Test.YtlalfjlcgabnnaaGreatDoorRead
import Derived.Test.YtlalfjlcgabnnaaGreatDoorCells
import Derived.Laws.CopyOwn
namespace Go.Proofs.YtlalfjlcgabnnaaGreatDoor
open Go.RowKit

/-- The number that the first four bytes are. -/
def head4 (bs : List Int) : Int := word (bs.getD 0 0) (bs.getD 1 0) (bs.getD 2 0) (bs.getD 3 0)

/-- A row of zero bytes. -/
def zeroRow (m : Nat) : List Value := List.replicate m (.int .u8 0)

theorem zeroRow_len (m : Nat) : (zeroRow m).length = m := by simp [zeroRow]

theorem make_bytes (n k : Nat) (h : n + 4 * k ≤ 281474976710656) (w : World) :
    (Instr.makeSlice 75 (.int .i64 (n : Int)) (.int .i64 ((n : Int) + 4 * (k : Int)))).run Tryz.prog w = .ok (.slice (some ⟨w.heap.size, 0, none⟩) n (n + 4 * k)) (w.alloc (.cells (zeroRow (n + 4 * k)).toArray 5)) := by
  obtain ⟨i0, hi, hz0, hz1, hz2⟩ := info_parts Tryz.infoB
  have hr := run_make (P := Tryz.prog) w 75 5 i0 (.int .u8 0) Tryz.underlying75 hi hz0 .i64 .i64 (n : Int) ((n : Int) + 4 * (k : Int)) (by omega) (by omega) (by rw [hz2]; omega) (by omega)
  have e1 : ((n : Int) + 4 * (k : Int)).toNat = n + 4 * k := by omega
  rw [hr, e1, hz1]
  have e2 : (madeCells (Value.int .u8 0).cells ((n + 4 * k) * 1)) = (zeroRow (n + 4 * k)).toArray := by
    apply Array.toList_inj.1
    show (madeCells #[Value.int .u8 0] _).toList = _
    rw [toList_madeCells_one, Nat.mul_one]; rfl
  rw [e2]
  rfl

theorem splice_zero (Z xs : List Value) (h : xs.length ≤ Z.length) : (splice Z 0 xs).length = Z.length ∧ (splice Z 0 xs).take xs.length = xs :=
  ⟨length_splice Z 0 xs (by omega), by simp [splice]⟩

end Go.Proofs.YtlalfjlcgabnnaaGreatDoor
