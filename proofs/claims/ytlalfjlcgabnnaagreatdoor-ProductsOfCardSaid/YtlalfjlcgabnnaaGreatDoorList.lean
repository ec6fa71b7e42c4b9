/- Contracts of readWords at int32 and of GetList: the numbers that a list's bytes are, in memory of the call's own, or what is wrong with the bytes. -/
import Derived.Test.YtlalfjlcgabnnaaGreatDoorPut
namespace Go.Proofs.YtlalfjlcgabnnaaGreatDoor
open Go.RowKit

/-- The j-th number, with its sign. -/
def wd (bs : List Int) (j : Nat) : Int := signed (word (bs.getD (4 * j) 0) (bs.getD (4 * j + 1) 0) (bs.getD (4 * j + 2) 0) (bs.getD (4 * j + 3) 0))

def dec (bs : List Int) (q : Nat) : List Int := (List.range q).map (wd bs)

theorem dec_len (bs : List Int) (q : Nat) : (dec bs q).length = q := by simp [dec]

/-- A row of q numbers of which the first k are read. -/
def part (bs : List Int) (q k : Nat) : List Value := (List.range q).map fun j => .int .i32 (if j < k then wd bs j else 0)

theorem part_none (bs : List Int) (q : Nat) : part bs q 0 = List.replicate q (.int .i32 0) := by
  apply List.ext_getElem <;> simp [part]

theorem part_all (bs : List Int) (q : Nat) : part bs q q = (dec bs q).map (Value.int .i32) := by
  apply List.ext_getElem
  · simp [part, dec]
  · intro j h1 h2
    have : j < q := by simpa [part] using h1
    simp [part, dec, this]

theorem part_set (bs : List Int) (q k : Nat) : (part bs q k).set k (.int .i32 (wd bs k)) = part bs q (k + 1) := by
  apply List.ext_getElem
  · simp [part]
  · intro j h1 h2
    simp only [part, List.getElem_set, List.getElem_map, List.getElem_range]
    by_cases e : k = j
    · subst e; simp
    · rw [if_neg e]
      by_cases h : j < k
      · rw [if_pos h, if_pos (by omega)]
      · rw [if_neg h, if_neg (by omega)]

theorem part_at (bs : List Int) (q k j : Nat) (h : j < q) : (part bs q k)[j]? = some (.int .i32 (if j < k then wd bs j else 0)) := by
  simp [part, h]

theorem Tryz.infoI32 : (Tryz.prog.info? 21).map (fun i => (i.zero, i.size, i.bytes)) = some (some (.int .i32 0), 1, 4) := by kernel_rfl

theorem make_nums (bs : List Int) (L : Int) (q : Nat) (hL : L = (q : Int)) (h : 4 * q ≤ 281474976710656) (w : World) :
    (Instr.makeSlice 23 (.int .i64 L) (.int .i64 L)).run Tryz.prog w = .ok (.slice (some ⟨w.heap.size, 0, none⟩) q q) (w.alloc (.cells (part bs q 0).toArray 21)) := by
  subst hL
  obtain ⟨i0, hi, hz0, hz1, hz2⟩ := info_parts Tryz.infoI32
  have hr := run_make (P := Tryz.prog) w 23 21 i0 (.int .i32 0) Tryz.underlying23 hi hz0 .i64 .i64 (q : Int) (q : Int) (by omega) (by omega) (by rw [hz2]; omega) (by omega)
  rw [hr, hz1]
  have e2 : (madeCells (Value.int .i32 0).cells ((q : Int).toNat * 1)) = (part bs q 0).toArray := by
    apply Array.toList_inj.1
    show (madeCells #[Value.int .i32 0] _).toList = _
    rw [toList_madeCells_one, Nat.mul_one, Int.toNat_natCast, part_none]
  rw [e2]
  rfl

end Go.Proofs.YtlalfjlcgabnnaaGreatDoor
