/- Contracts of readWords at int32 and of GetList: the numbers that a list's bytes are, in memory of the call's own, or what is wrong with the bytes. -/
import Derived.Test.YtkmkhjhdgickfaaGreatDoorPut
namespace Go.Proofs.YtkmkhjhdgickfaaGreatDoor
open Go.RowKit

/-- The j-th number, with its sign. -/
def wd (bs : List Int) (j : Nat) : Int := signed (word (bs.getD (4 * j) 0) (bs.getD (4 * j + 1) 0) (bs.getD (4 * j + 2) 0) (bs.getD (4 * j + 3) 0))
def dec (bs : List Int) (q : Nat) : List Int := (List.range q).map (wd bs)
theorem dec_len (bs : List Int) (q : Nat) : (dec bs q).length = q := by simp [dec]
/-- A row of q numbers of which the first k are read. -/
def part (bs : List Int) (q k : Nat) : List Value := (List.range q).map fun j => .int .i32 (if j < k then wd bs j else 0)
theorem part_none (bs : List Int) (q : Nat) : part bs q 0 = List.replicate q (.int .i32 0) := by
  apply List.ext_getElem <;> simp [part]
theorem part_all (bs : List Int) (q : Nat) : part bs q q = (dec bs q).map (Value.int .i32) := by
  apply List.ext_getElem
  · simp [part, dec]
  · intro j h1 h2
    have : j < q := by simpa [part] using h1
    simp [part, dec, this]
theorem part_set (bs : List Int) (q k : Nat) : (part bs q k).set k (.int .i32 (wd bs k)) = part bs q (k + 1) := by
  apply List.ext_getElem
  · simp [part]
  · intro j h1 h2
    simp only [part, List.getElem_set, List.getElem_map, List.getElem_range]
    by_cases e : k = j
    · subst e; simp
    · rw [if_neg e]
      by_cases h : j < k
      · rw [if_pos h, if_pos (by omega)]
      · rw [if_neg h, if_neg (by omega)]
theorem part_at (bs : List Int) (q k j : Nat) (h : j < q) : (part bs q k)[j]? = some (.int .i32 (if j < k then wd bs j else 0)) := by
  simp [part, h]

theorem Tryz.infoI : (Tryz.prog.info? 21).map (fun i => (i.zero, i.size, i.bytes)) = some (some (.int .i32 0), 1, 4) := by kernel_rfl
theorem make_ints (bs : List Int) (L : Int) (q : Nat) (hL : L = (q : Int)) (h : 4 * q ≤ 281474976710656) (w : World) :
    (Instr.makeSlice 24 (.int .i64 L) (.int .i64 L)).run Tryz.prog w = .ok (.slice (some ⟨w.heap.size, 0, none⟩) q q) (w.alloc (.cells (part bs q 0).toArray 21)) := by
  subst hL
  obtain ⟨i0, hi, hz0, hz1, hz2⟩ := info_parts Tryz.infoI
  have hr := run_make (P := Tryz.prog) w 24 21 i0 (.int .i32 0) Tryz.underlying24 hi hz0 .i64 .i64 (q : Int) (q : Int) (by omega) (by omega) (by rw [hz2]; omega) (by omega)
  rw [hr, hz1]
  have e2 : (madeCells (Value.int .i32 0).cells ((q : Int).toNat * 1)) = (part bs q 0).toArray := by
    apply Array.toList_inj.1
    show (madeCells #[Value.int .i32 0] _).toList = _
    rw [toList_madeCells_one, Nat.mul_one, Int.toNat_natCast, part_none]
  rw [e2]
  rfl

set_option maxHeartbeats 1000000 in
theorem readList (A : Option Addr) (n c q : Nat) (bs : List Int) (w : World) (h : Lies w A n (bs.map (Value.int .u8))) (hb : Bytes bs) (hnc : n ≤ c) (hq : n = 4 * q) (hn : n ≤ 281474976710656) :
    Calls Tryz.prog 74 #[.slice A n c] w fun e w' =>
      e = .returned (.slice (some ⟨w.heap.size, 0, none⟩) q q) ∧ w'.ownsRow w.heap.size 21 1 (.slice (some ⟨w.heap.size, 0, none⟩) q q) q ((dec bs q).map (Value.int .i32)) ∧ Below w.heap.size w w' := by
  have hmk := make_ints bs ((n : Int) / 4) q (by omega) (by omega)
  have hq1 : 4 * q ≤ n := by omega
  have hq2 : n ≤ 4 * q := by omega
  have HL := hide h
  have HB := hide hb
  clear h hb hq
  go_enter Tryz.func74, Tryz.ntmps74
  go_wp2
  clear hmk
  go_loopw [11] (fun i wr => ∃ k : Nat, k ≤ q ∧ i = .int .i64 k ∧ Hid (wr.ownsRow w.heap.size 21 1 (.slice (some ⟨w.heap.size, 0, none⟩) q q) q (part bs q k)) ∧ Hid (Below w.heap.size w wr))
    (fun i _ => q - (intOf i).toNat)
  case atStart => exact ⟨0, Nat.zero_le _, rfl, hide (own_of_block (Nat.le_refl _) (heap_alloc_new w _) (by simp [part]) (Nat.le_refl _) (by unfold maxLen; omega) (by rw [List.take_of_length_le (by simp [part])])), hide ((Below.refl _ _).alloc (Nat.le_refl _) _)⟩
  case round =>
    obtain ⟨k, hk, rfl, HR, HG⟩ := hrel
    by_cases hlt : k < q
    · obtain ⟨b, o, rfl, hbl, hx⟩ := byte_at (HL.out.below HG.out) (by omega)
      have HC := hide (read_i32 b (o + 4 * k) (n - 4 * k) (c - 4 * k) (bs.getD (4 * k) 0) (bs.getD (4 * k + 1) 0) (bs.getD (4 * k + 2) 0) (bs.getD (4 * k + 3) 0) wr (by omega)
        (hx _ (by omega)) (by have := hx (4 * k + 1) (by omega); rwa [← Nat.add_assoc] at this) (by have := hx (4 * k + 2) (by omega); rwa [← Nat.add_assoc] at this) (by have := hx (4 * k + 3) (by omega); rwa [← Nat.add_assoc] at this)
        (bytes_getD HB.out _) (bytes_getD HB.out _) (bytes_getD HB.out _) (bytes_getD HB.out _))
      clear hx
      have hc : ¬ c = 4 * k := by omega
      have hcell : wr.cell? ⟨w.heap.size, k, none⟩ = some (.int .i32 0) := by
        rw [HR.out.cellAt k (by omega), part_at _ _ _ _ hlt, if_neg (by omega)]
      have hfree : wr.frozen? ⟨w.heap.size, k, none⟩ = false := HR.out.frozenAt k
      go_wp2_with fail
      refine Calls.mono HC.out ?_
      rintro e w1 ⟨rfl, j, rfl⟩
      clear HC
      obtain ⟨v, hv⟩ : ∃ v, v = wd bs k := ⟨_, rfl⟩
      rw [show signed (word (bs.getD (4 * k) 0) (bs.getD (4 * k + 1) 0) (bs.getD (4 * k + 2) 0) (bs.getD (4 * k + 3) 0)) = v from hv.symm]
      have HV := hide hv
      clear hv
      go_wp2
      go_roundw
      case rel =>
        refine ⟨k + 1, by omega, by go_num, ?_, ?_⟩
        · have h1 := (HR.out.stored k (.int .i32 v)).1
          rw [HV.out, part_set] at h1
          rw [HV.out]
          exact hide (own_drewN h1 j)
        · exact hide (below_drewN (HG.out.setCell (Nat.le_refl _) _) j)
      case measure => simp [intOf]; omega
    · obtain rfl : k = q := by omega
      go_wp2
      go_ret
      have h1 := HR.out
      rw [part_all] at h1
      exact ⟨rfl, h1, HG.out⟩
end Go.Proofs.YtkmkhjhdgickfaaGreatDoor
