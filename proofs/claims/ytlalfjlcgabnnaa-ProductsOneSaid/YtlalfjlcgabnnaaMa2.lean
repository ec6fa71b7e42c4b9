/- Contracts of package maths: the pairs of two lists' numbers. -/
import Derived.Test.YtlalfjlcgabnnaaMa1
import Derived.Test.YtlalfjlcgabnnaaRowsOf
namespace Go.Proofs.Ytlalfjlcgabnnaa
open Go.RowKit
set_option linter.unusedVariables false
set_option linter.unusedSimpArgs false
set_option maxRecDepth 20000

/-- One cell of the pairs. -/
def pairN (xs ys : List Int) (j : Nat) : Int := if j % 2 = 0 then xs.getD (j / 2) 0 else ys.getD (j / 2) 0

/-- The cells of q pairs of which the first k are there. -/
def pairC (xs ys : List Int) (q k : Nat) : List Value := (List.range (q * 2)).map fun j => .int .i32 (if j / 2 < k then pairN xs ys j else 0)

section
variable {xs ys : List Int} {q k : Nat}

theorem pairC_len : (pairC xs ys q k).length = q * 2 := by simp [pairC]

theorem pairC_at {j : Nat} (h : j < q * 2) : (pairC xs ys q k)[j]? = some (.int .i32 (if j / 2 < k then pairN xs ys j else 0)) := by simp [pairC, h]

theorem pairC_none : pairC xs ys q 0 = List.replicate (q * 2) (.int .i32 0) := by
  apply List.ext_getElem <;> simp [pairC]

theorem pairC_set : ((pairC xs ys q k).set (k * 2) (.int .i32 (xs.getD k 0))).set (k * 2 + 1) (.int .i32 (ys.getD k 0)) = pairC xs ys q (k + 1) := by
  apply List.ext_getElem
  · simp [pairC]
  · intro j h1 h2
    simp only [pairC, List.getElem_set, List.getElem_map, List.getElem_range]
    by_cases e1 : k * 2 + 1 = j
    · rw [if_pos e1, if_pos (by omega), pairN, if_neg (by omega), show j / 2 = k by omega]
    · rw [if_neg e1]
      by_cases e : k * 2 = j
      · rw [if_pos e, if_pos (by omega), pairN, if_pos (by omega), show j / 2 = k by omega]
      · rw [if_neg e]
        by_cases h : j / 2 < k
        · rw [if_pos h, if_pos (by omega)]
        · rw [if_neg h, if_neg (by omega)]

end

/-- A block of pairs. -/
def PairsAt (w : World) (g q : Nat) (xs ys : List Int) (k : Nat) : Prop := w.heap[g]? = some (.cells (pairC xs ys q k).toArray 51 (0, 0))

section
variable {w : World} {g q k : Nat} {xs ys : List Int}

theorem PairsAt.cell (h : PairsAt w g q xs ys k) {j : Nat} (hj : j < q * 2) : w.cell? ⟨g, j, none⟩ = some (.int .i32 (if j / 2 < k then pairN xs ys j else 0)) := by
  rw [cell_of_row _ _ j _ _ (0, 0) h, List.getElem?_toArray, pairC_at hj]

theorem PairsAt.c0 (h : PairsAt w g q xs ys q) {i : Nat} (hi : i < q) : w.cell? ⟨g, i * 2, none⟩ = some (.int .i32 (xs.getD i 0)) := by
  rw [h.cell (by omega), if_pos (by omega), pairN, if_pos (by omega), show i * 2 / 2 = i by omega]

theorem PairsAt.c1 (h : PairsAt w g q xs ys q) {i : Nat} (hi : i < q) : w.cell? ⟨g, i * 2 + 1, none⟩ = some (.int .i32 (ys.getD i 0)) := by
  rw [h.cell (by omega), if_pos (by omega), pairN, if_neg (by omega), show (i * 2 + 1) / 2 = i by omega]

theorem PairsAt.frozen (h : PairsAt w g q xs ys k) (j : Nat) : w.frozen? ⟨g, j, none⟩ = false := frozen_of_row w g j _ _ h

theorem PairsAt.lt (h : PairsAt w g q xs ys k) : g < w.heap.size := lt_of_heap h

theorem PairsAt.set (h : PairsAt w g q xs ys k) : PairsAt ((w.setCell ⟨g, k * 2, none⟩ (.int .i32 (xs.getD k 0))).setCell ⟨g, k * 2 + 1, none⟩ (.int .i32 (ys.getD k 0))) g q xs ys (k + 1) := by
  have e1 := setCell_eq_setRow w g (k * 2) _ _ (0, 0) (.int .i32 (xs.getD k 0)) h
  have h1 := setRow_heap w g _ ((pairC xs ys q k).toArray.setIfInBounds (k * 2) (.int .i32 (xs.getD k 0))) _ _ h
  have e2 := setCell_eq_setRow (w.setRow g ((pairC xs ys q k).toArray.setIfInBounds (k * 2) (.int .i32 (xs.getD k 0)))) g (k * 2 + 1) _ _ (0, 0) (.int .i32 (ys.getD k 0)) h1
  have h2 := setRow_heap (w.setRow g ((pairC xs ys q k).toArray.setIfInBounds (k * 2) (.int .i32 (xs.getD k 0)))) g _ (((pairC xs ys q k).toArray.setIfInBounds (k * 2) (.int .i32 (xs.getD k 0))).setIfInBounds (k * 2 + 1) (.int .i32 (ys.getD k 0))) _ _ h1
  rw [e1, e2]
  unfold PairsAt
  rw [h2, ← pairC_set]
  simp

theorem PairsAt.keep (h : PairsAt w g q xs ys k) {w' : World} {B : Nat} (hb : Below B w w') (hB : g < B) : PairsAt w' g q xs ys k := (hb.block g hB).trans h

theorem PairsAt.grown (h : PairsAt w g q xs ys k) {w' : World} {r : Nat} (hg : w.grownBy w' (some r)) (hr : g ≠ r) : PairsAt w' g q xs ys k := (hg.block g h.lt (by simpa using hr)).trans h

end

theorem Try.infoPair : (Try.prog.info? 51).map (fun i => (i.zero, i.size, i.bytes)) = some (some (.agg #[.int .i32 0, .int .i32 0]), 2, 8) := by kernel_rfl

theorem make_pairs (xs ys : List Int) (q : Nat) (h : q ≤ 1048576) (w : World) :
    (Instr.makeSlice 65 (.int .i64 (q : Int)) (.int .i64 (q : Int))).run Try.prog w = .ok (.slice (some ⟨w.heap.size, 0, none⟩) q q) (w.alloc (.cells (pairC xs ys q 0).toArray 51)) := by
  obtain ⟨i0, hi, hz0, hz1, hz2⟩ := info_parts Try.infoPair
  have hr := run_make (P := Try.prog) w 65 51 i0 (.agg #[.int .i32 0, .int .i32 0]) Try.underlying65 hi hz0 .i64 .i64 (q : Int) (q : Int) (by omega) (by omega) (by rw [hz2]; omega) (by omega)
  rw [hr, hz1]
  have e2 : (madeCells (Value.agg #[.int .i32 0, .int .i32 0]).cells ((q : Int).toNat * 2)) = (pairC xs ys q 0).toArray := by
    rw [pairC_none]
    apply Array.ext
    · simp [madeCells]
    · intro j h1 h2
      have hj : j < q * 2 := by simpa using h2
      rcases Nat.mod_two_eq_zero_or_one j with e | e <;> simp [madeCells, Value.cells, e]
  rw [e2]
  rfl

set_option maxHeartbeats 1000000 in
theorem pairs_any (A B : Option Addr) (q c d : Nat) (xs ys : List Int) (w : World) (hA : Lies w A q (xs.map (Value.int .i32))) (hB : Lies w B q (ys.map (Value.int .i32))) (hq : q ≤ 1048576) :
    Calls Try.prog 29 #[.slice A q c, .slice B q d] w fun e w' => ∃ g, e = .returned (.slice (some ⟨g, 0, none⟩) q q) ∧ PairsAt w' g q xs ys q ∧ w.heap.size ≤ g ∧ Below w.heap.size w w' := by
  have hmk := make_pairs xs ys q hq w
  have HA := hide hA
  have HB := hide hB
  clear hA hB
  go_enter Try.func29, Try.ntmps29
  go_wp2
  clear hmk
  go_loopw [12] (fun i wr => ∃ k : Nat, k ≤ q ∧ i = .int .i64 k ∧ Hid (PairsAt wr w.heap.size q xs ys k) ∧ Hid (Below w.heap.size w wr)) (fun i _ => q - (intOf i).toNat)
  case atStart => exact ⟨0, Nat.zero_le _, rfl, hide (heap_alloc_new w _), hide ((Below.refl _ _).alloc (Nat.le_refl _) _)⟩
  case round =>
    obtain ⟨k, hk, rfl, HP, HW⟩ := hrel
    by_cases hlt : k < q
    · obtain ⟨b, o, rfl, hb, hx⟩ := byte_at (HA.out.below HW.out) (by omega)
      obtain ⟨b', o', rfl, hb', hy⟩ := byte_at (HB.out.below HW.out) (by omega)
      have hcx := hx k hlt
      have hcy := hy k hlt
      obtain ⟨x, hx1⟩ : ∃ x, x = xs.getD k 0 := ⟨_, rfl⟩
      obtain ⟨y, hy1⟩ : ∃ y, y = ys.getD k 0 := ⟨_, rfl⟩
      rw [← hx1] at hcx
      rw [← hy1] at hcy
      have HX := hide hx1
      have HY := hide hy1
      have p0 := HP.out.cell (j := k * 2) (by omega)
      have p1 := HP.out.cell (j := k * 2 + 1) (by omega)
      have f0 := HP.out.frozen (k * 2)
      have f1 := HP.out.frozen (k * 2 + 1)
      clear hx hy hx1 hy1
      have h0 : (0 : Int) ≤ (k : Int) := by omega
      have h3 : (k : Int) < (q : Int) := by omega
      have HN : Hid (PairsAt ((wr.setCell ⟨w.heap.size, k * 2, none⟩ (.int .i32 x)).setCell ⟨w.heap.size, k * 2 + 1, none⟩ (.int .i32 y)).drew w.heap.size q xs ys (k + 1)) := hide (by
        rw [HX.out, HY.out]
        exact HP.out.set)
      have HNB : Hid (Below w.heap.size w ((wr.setCell ⟨w.heap.size, k * 2, none⟩ (.int .i32 x)).setCell ⟨w.heap.size, k * 2 + 1, none⟩ (.int .i32 y)).drew) := hide (below_drewN ((HW.out.setCell (Nat.le_refl _) _).setCell (Nat.le_refl _) _) 1)
      go_wp2
      go_region
      go_wp2
      go_roundw
      case rel => exact ⟨k + 1, by omega, by go_num, HN, HNB⟩
      case measure => simp [intOf]; omega
    · obtain rfl : k = q := by omega
      go_wp2
      go_ret
      exact ⟨w.heap.size, rfl, HP.out, Nat.le_refl _, HW.out⟩

end Go.Proofs.Ytlalfjlcgabnnaa
