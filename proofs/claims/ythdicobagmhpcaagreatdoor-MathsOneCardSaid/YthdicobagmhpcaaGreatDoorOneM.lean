/- Merged: Ma1, Ma2, Ma3, Ma4, Ma5, Ref06, Ref06b, One6. -/
import Derived.Test.YthdicobagmhpcaaGreatDoorTen2
import Derived.Test.YthdicobagmhpcaaGreatDoorRowsOf
import Derived.Test.YthdicobagmhpcaaGreatDoorTLaw
import Derived.Test.YthdicobagmhpcaaGreatDoorRef05
import Derived.Test.YthdicobagmhpcaaGreatDoorBookT
import Derived.Test.YthdicobagmhpcaaGreatDoorBeyond
namespace Go.Proofs.YthdicobagmhpcaaGreatDoor

section
open Go.RowKit
set_option linter.unusedVariables false
set_option linter.unusedSimpArgs false
set_option maxRecDepth 20000

def add32 (x y : Int) : Int := wrap32 (x + y)
def mul32 (x y : Int) : Int := wrap32 (x * y)
def relu32 (x : Int) : Int := if x < 0 then 0 else x
/-- What a shift by n makes of x. -/
def shf (n : Nat) (x : Int) : Int := if (x + 2 ^ n / 2) / 2 ^ n < -128 then -128 else if 127 < (x + 2 ^ n / 2) / 2 ^ n then 127 else (x + 2 ^ n / 2) / 2 ^ n

/-- A block that holds two numbers. -/
def BoxP (w : World) (p : Nat) (x y : Int) : Prop := w.heap[p]? = some (.cells #[.int .i32 x, .int .i32 y] 61 (0, 0))
section
variable {w : World} {p : Nat} {x y : Int}
theorem BoxP.new (w : World) (x y : Int) : BoxP (w.alloc (.cells #[.int .i32 x, .int .i32 y] 61)) w.heap.size x y := heap_alloc_new w _
theorem BoxP.lt (h : BoxP w p x y) : p < w.heap.size := lt_of_heap h
theorem BoxP.kept (h : BoxP w p x y) {w' : World} (hb : Below w.heap.size w w') : BoxP w' p x y := (hb.block p h.lt).trans h
theorem BoxP.c0 (h : BoxP w p x y) : w.cell? ⟨p, 0, none⟩ = some (.int .i32 x) := cell_of_row _ _ 0 _ _ (0, 0) h
theorem BoxP.c1 (h : BoxP w p x y) : w.cell? ⟨p, 1, none⟩ = some (.int .i32 y) := cell_of_row _ _ 1 _ _ (0, 0) h
end

set_option maxHeartbeats 400000 in
theorem add1_any (x y : Int) (w : World) : Calls Tryz.prog 25 #[.agg #[.int .i32 x, .int .i32 y]] w fun e w' => e = .returned (.int .i32 (add32 x y)) ∧ Below w.heap.size w w' := by
  have HB := hide ((Below.refl w.heap.size w).alloc (Nat.le_refl _) (.cells #[.int .i32 x, .int .i32 y] 61))
  have h0 := (BoxP.new w x y).c0
  have h1 := (BoxP.new w x y).c1
  go_enter Tryz.func25, Tryz.ntmps25
  go_wp2
  go_ret
  exact ⟨rfl, HB.out⟩
set_option maxHeartbeats 400000 in
theorem mul1_any (x y : Int) (w : World) : Calls Tryz.prog 26 #[.agg #[.int .i32 x, .int .i32 y]] w fun e w' => e = .returned (.int .i32 (mul32 x y)) ∧ Below w.heap.size w w' := by
  have HB := hide ((Below.refl w.heap.size w).alloc (Nat.le_refl _) (.cells #[.int .i32 x, .int .i32 y] 61))
  have h0 := (BoxP.new w x y).c0
  have h1 := (BoxP.new w x y).c1
  go_enter Tryz.func26, Tryz.ntmps26
  go_wp2
  go_ret
  exact ⟨rfl, HB.out⟩
set_option maxHeartbeats 400000 in
theorem relu1_any (x : Int) (w : World) : Calls Tryz.prog 81 #[.int .i32 x] w fun e w' => e = .returned (.int .i32 (relu32 x)) ∧ w = w' := by
  by_cases h : x < 0
  · have h2 : ¬ 0 ≤ x := by omega
    have h3 : ¬ 0 < x := by omega
    have HR : Hid (relu32 x = 0) := hide (by rw [relu32, if_pos h])
    go_enter Tryz.func81, Tryz.ntmps81
    go_wp2
    go_ret
    exact ⟨by rw [HR.out]; rfl, rfl⟩
  · have h2 : 0 ≤ x := by omega
    have HR : Hid (relu32 x = x) := hide (by rw [relu32, if_neg h])
    go_enter Tryz.func81, Tryz.ntmps81
    go_wp2
    go_ret
    exact ⟨by rw [HR.out]; rfl, rfl⟩

theorem pow_bounds {n : Nat} (hn : n ≤ 31) : 1 ≤ (2 : Int) ^ n ∧ (2 : Int) ^ n ≤ 2147483648 := by
  have h1 : 2 ^ n ≤ 2 ^ 31 := Nat.pow_le_pow_right (by omega) hn
  have h2 : 0 < 2 ^ n := Nat.pow_pos (by omega)
  have h3 : ((2 ^ n : Nat) : Int) = (2 : Int) ^ n := by simp
  omega
theorem shf_parts {n : Nat} {x : Int} (hn : n ≤ 31) (hx : -2147483648 ≤ x ∧ x < 2147483648) : wrap64 (x + wrap64 (2 ^ n) / 2) / 2 ^ n = (x + 2 ^ n / 2) / 2 ^ n := by
  obtain ⟨h1, h2⟩ := pow_bounds hn
  have e1 : wrap64 ((2 : Int) ^ n) = 2 ^ n := by unfold wrap64; omega
  have e2 : wrap64 (x + (2 : Int) ^ n / 2) = x + 2 ^ n / 2 := by unfold wrap64; omega
  rw [e1, e2]

set_option maxHeartbeats 800000 in
theorem shifted_any (x : Int) (n : Nat) (w : World) (hn : n ≤ 31) (hx : -2147483648 ≤ x ∧ x < 2147483648) : Calls Tryz.prog 83 #[.int .i32 x, .int .i64 (n : Int)] w fun e w' => e = .returned (.int .i32 (shf n x)) ∧ w = w' := by
  have HP := hide (shf_parts hn hx)
  go_enter Tryz.func83, Tryz.ntmps83
  go_wp2
  all_goals
    go_ret
    refine ⟨?_, rfl⟩
    have hp := HP.out
    rename_i h1
    rw [hp] at h1 h
    simp only [Array.getD_eq_getD_getElem?, List.getElem?_toArray, hp, shf]
    simp
  all_goals
    split at h1 <;> (first | omega | ((repeat' split) <;> omega))

set_option maxHeartbeats 400000 in
theorem shift1_any (x : Int) (n : Nat) (p : Addr) (w : World) (hc : w.cell? p = some (.int .i64 (n : Int))) (hn : n ≤ 31) (hx : -2147483648 ≤ x ∧ x < 2147483648) : Calls Tryz.prog 82 #[.int .i32 x, .pointer (some p)] w fun e w' => e = .returned (.int .i32 (shf n x)) ∧ w = w' := by
  go_enter Tryz.func82, Tryz.ntmps82
  go_wp2_with fail
  refine Calls.mono (shifted_any x n w hn hx) ?_
  rintro e w2 ⟨rfl, hw⟩
  have HW := hide hw
  clear hw
  go_wp2
  go_ret
  exact ⟨rfl, HW.out⟩

end

section
open Go.RowKit
set_option linter.unusedVariables false
set_option linter.unusedSimpArgs false
set_option maxRecDepth 20000

/-- One cell of the pairs. -/
def pairN (xs ys : List Int) (j : Nat) : Int := if j % 2 = 0 then xs.getD (j / 2) 0 else ys.getD (j / 2) 0
/-- The cells of q pairs of which the first k are there. -/
def pairC (xs ys : List Int) (q k : Nat) : List Value := (List.range (q * 2)).map fun j => .int .i32 (if j / 2 < k then pairN xs ys j else 0)
section
variable {xs ys : List Int} {q k : Nat}
theorem pairC_len : (pairC xs ys q k).length = q * 2 := by simp [pairC]
theorem pairC_at {j : Nat} (h : j < q * 2) : (pairC xs ys q k)[j]? = some (.int .i32 (if j / 2 < k then pairN xs ys j else 0)) := by simp [pairC, h]
theorem pairC_none : pairC xs ys q 0 = List.replicate (q * 2) (.int .i32 0) := by
  apply List.ext_getElem <;> simp [pairC]
theorem pairC_set : ((pairC xs ys q k).set (k * 2) (.int .i32 (xs.getD k 0))).set (k * 2 + 1) (.int .i32 (ys.getD k 0)) = pairC xs ys q (k + 1) := by
  apply List.ext_getElem
  · simp [pairC]
  · intro j h1 h2
    simp only [pairC, List.getElem_set, List.getElem_map, List.getElem_range]
    by_cases e1 : k * 2 + 1 = j
    · rw [if_pos e1, if_pos (by omega), pairN, if_neg (by omega), show j / 2 = k by omega]
    · rw [if_neg e1]
      by_cases e : k * 2 = j
      · rw [if_pos e, if_pos (by omega), pairN, if_pos (by omega), show j / 2 = k by omega]
      · rw [if_neg e]
        by_cases h : j / 2 < k
        · rw [if_pos h, if_pos (by omega)]
        · rw [if_neg h, if_neg (by omega)]
end
/-- A block of pairs. -/
def PairsAt (w : World) (g q : Nat) (xs ys : List Int) (k : Nat) : Prop := w.heap[g]? = some (.cells (pairC xs ys q k).toArray 61 (0, 0))
section
variable {w : World} {g q k : Nat} {xs ys : List Int}
theorem PairsAt.cell (h : PairsAt w g q xs ys k) {j : Nat} (hj : j < q * 2) : w.cell? ⟨g, j, none⟩ = some (.int .i32 (if j / 2 < k then pairN xs ys j else 0)) := by
  rw [cell_of_row _ _ j _ _ (0, 0) h, List.getElem?_toArray, pairC_at hj]
theorem PairsAt.c0 (h : PairsAt w g q xs ys q) {i : Nat} (hi : i < q) : w.cell? ⟨g, i * 2, none⟩ = some (.int .i32 (xs.getD i 0)) := by
  rw [h.cell (by omega), if_pos (by omega), pairN, if_pos (by omega), show i * 2 / 2 = i by omega]
theorem PairsAt.c1 (h : PairsAt w g q xs ys q) {i : Nat} (hi : i < q) : w.cell? ⟨g, i * 2 + 1, none⟩ = some (.int .i32 (ys.getD i 0)) := by
  rw [h.cell (by omega), if_pos (by omega), pairN, if_neg (by omega), show (i * 2 + 1) / 2 = i by omega]
theorem PairsAt.frozen (h : PairsAt w g q xs ys k) (j : Nat) : w.frozen? ⟨g, j, none⟩ = false := frozen_of_row w g j _ _ h
theorem PairsAt.lt (h : PairsAt w g q xs ys k) : g < w.heap.size := lt_of_heap h
theorem PairsAt.set (h : PairsAt w g q xs ys k) : PairsAt ((w.setCell ⟨g, k * 2, none⟩ (.int .i32 (xs.getD k 0))).setCell ⟨g, k * 2 + 1, none⟩ (.int .i32 (ys.getD k 0))) g q xs ys (k + 1) := by
  have e1 := setCell_eq_setRow w g (k * 2) _ _ (0, 0) (.int .i32 (xs.getD k 0)) h
  have h1 := setRow_heap w g _ ((pairC xs ys q k).toArray.setIfInBounds (k * 2) (.int .i32 (xs.getD k 0))) _ _ h
  have e2 := setCell_eq_setRow (w.setRow g ((pairC xs ys q k).toArray.setIfInBounds (k * 2) (.int .i32 (xs.getD k 0)))) g (k * 2 + 1) _ _ (0, 0) (.int .i32 (ys.getD k 0)) h1
  have h2 := setRow_heap (w.setRow g ((pairC xs ys q k).toArray.setIfInBounds (k * 2) (.int .i32 (xs.getD k 0)))) g _ (((pairC xs ys q k).toArray.setIfInBounds (k * 2) (.int .i32 (xs.getD k 0))).setIfInBounds (k * 2 + 1) (.int .i32 (ys.getD k 0))) _ _ h1
  rw [e1, e2]
  unfold PairsAt
  rw [h2, ← pairC_set]
  simp
theorem PairsAt.keep (h : PairsAt w g q xs ys k) {w' : World} {B : Nat} (hb : Below B w w') (hB : g < B) : PairsAt w' g q xs ys k := (hb.block g hB).trans h
theorem PairsAt.grown (h : PairsAt w g q xs ys k) {w' : World} {r : Nat} (hg : w.grownBy w' (some r)) (hr : g ≠ r) : PairsAt w' g q xs ys k := (hg.block g h.lt (by simpa using hr)).trans h
end

theorem Tryz.infoPair : (Tryz.prog.info? 61).map (fun i => (i.zero, i.size, i.bytes)) = some (some (.agg #[.int .i32 0, .int .i32 0]), 2, 8) := by kernel_rfl
theorem make_pairs (xs ys : List Int) (q : Nat) (h : q ≤ 1048576) (w : World) :
    (Instr.makeSlice 80 (.int .i64 (q : Int)) (.int .i64 (q : Int))).run Tryz.prog w = .ok (.slice (some ⟨w.heap.size, 0, none⟩) q q) (w.alloc (.cells (pairC xs ys q 0).toArray 61)) := by
  obtain ⟨i0, hi, hz0, hz1, hz2⟩ := info_parts Tryz.infoPair
  have hr := run_make (P := Tryz.prog) w 80 61 i0 (.agg #[.int .i32 0, .int .i32 0]) Tryz.underlying80 hi hz0 .i64 .i64 (q : Int) (q : Int) (by omega) (by omega) (by rw [hz2]; omega) (by omega)
  rw [hr, hz1]
  have e2 : (madeCells (Value.agg #[.int .i32 0, .int .i32 0]).cells ((q : Int).toNat * 2)) = (pairC xs ys q 0).toArray := by
    rw [pairC_none]
    apply Array.ext
    · simp [madeCells]
    · intro j h1 h2
      have hj : j < q * 2 := by simpa using h2
      rcases Nat.mod_two_eq_zero_or_one j with e | e <;> simp [madeCells, Value.cells, e]
  rw [e2]
  rfl

set_option maxHeartbeats 1000000 in
theorem pairs_any (A B : Option Addr) (q c d : Nat) (xs ys : List Int) (w : World) (hA : Lies w A q (xs.map (Value.int .i32))) (hB : Lies w B q (ys.map (Value.int .i32))) (hq : q ≤ 1048576) :
    Calls Tryz.prog 89 #[.slice A q c, .slice B q d] w fun e w' => ∃ g, e = .returned (.slice (some ⟨g, 0, none⟩) q q) ∧ PairsAt w' g q xs ys q ∧ w.heap.size ≤ g ∧ Below w.heap.size w w' := by
  have hmk := make_pairs xs ys q hq w
  have HA := hide hA
  have HB := hide hB
  clear hA hB
  go_enter Tryz.func89, Tryz.ntmps89
  go_wp2
  clear hmk
  go_loopw [12] (fun i wr => ∃ k : Nat, k ≤ q ∧ i = .int .i64 k ∧ Hid (PairsAt wr w.heap.size q xs ys k) ∧ Hid (Below w.heap.size w wr)) (fun i _ => q - (intOf i).toNat)
  case atStart => exact ⟨0, Nat.zero_le _, rfl, hide (heap_alloc_new w _), hide ((Below.refl _ _).alloc (Nat.le_refl _) _)⟩
  case round =>
    obtain ⟨k, hk, rfl, HP, HW⟩ := hrel
    by_cases hlt : k < q
    · obtain ⟨b, o, rfl, hb, hx⟩ := byte_at (HA.out.below HW.out) (by omega)
      obtain ⟨b', o', rfl, hb', hy⟩ := byte_at (HB.out.below HW.out) (by omega)
      have hcx := hx k hlt
      have hcy := hy k hlt
      obtain ⟨x, hx1⟩ : ∃ x, x = xs.getD k 0 := ⟨_, rfl⟩
      obtain ⟨y, hy1⟩ : ∃ y, y = ys.getD k 0 := ⟨_, rfl⟩
      rw [← hx1] at hcx
      rw [← hy1] at hcy
      have HX := hide hx1
      have HY := hide hy1
      have p0 := HP.out.cell (j := k * 2) (by omega)
      have p1 := HP.out.cell (j := k * 2 + 1) (by omega)
      have f0 := HP.out.frozen (k * 2)
      have f1 := HP.out.frozen (k * 2 + 1)
      clear hx hy hx1 hy1
      have h0 : (0 : Int) ≤ (k : Int) := by omega
      have h3 : (k : Int) < (q : Int) := by omega
      have HN : Hid (PairsAt ((wr.setCell ⟨w.heap.size, k * 2, none⟩ (.int .i32 x)).setCell ⟨w.heap.size, k * 2 + 1, none⟩ (.int .i32 y)).drew w.heap.size q xs ys (k + 1)) := hide (by
        rw [HX.out, HY.out]
        exact HP.out.set)
      have HNB : Hid (Below w.heap.size w ((wr.setCell ⟨w.heap.size, k * 2, none⟩ (.int .i32 x)).setCell ⟨w.heap.size, k * 2 + 1, none⟩ (.int .i32 y)).drew) := hide (below_drewN ((HW.out.setCell (Nat.le_refl _) _).setCell (Nat.le_refl _) _) 1)
      go_wp2
      go_region
      go_wp2
      go_roundw
      case rel => exact ⟨k + 1, by omega, by go_num, HN, HNB⟩
      case measure => simp [intOf]; omega
    · obtain rfl : k = q := by omega
      go_wp2
      go_ret
      exact ⟨w.heap.size, rfl, HP.out, Nat.le_refl _, HW.out⟩

end

section
open Go.RowKit
set_option linter.unusedVariables false
set_option linter.unusedSimpArgs false
set_option maxRecDepth 20000

/-- q numbers of which the first k are those of zs, the others 0. -/
def fillN (zs : List Int) (q k : Nat) : List Value := (List.range q).map fun j => .int .i32 (if j < k then zs.getD j 0 else 0)
section
variable {zs : List Int} {q k : Nat}
theorem fillN_len : (fillN zs q k).length = q := by simp [fillN]
theorem fillN_at {j : Nat} (h : j < q) : (fillN zs q k)[j]? = some (.int .i32 (if j < k then zs.getD j 0 else 0)) := by simp [fillN, h]
theorem fillN_none : fillN zs q 0 = List.replicate q (.int .i32 0) := by
  apply List.ext_getElem <;> simp [fillN]
theorem fillN_all (h : zs.length = q) : fillN zs q q = zs.map (Value.int .i32) := by
  apply List.ext_getElem
  · simp [fillN, h]
  · intro j h1 h2
    have : j < q := by simpa [fillN] using h1
    simp [fillN, this, List.getD, h]
theorem fillN_set : (fillN zs q k).set k (.int .i32 (zs.getD k 0)) = fillN zs q (k + 1) := by
  apply List.ext_getElem
  · simp [fillN]
  · intro j h1 h2
    simp only [fillN, List.getElem_set, List.getElem_map, List.getElem_range]
    by_cases e : k = j
    · subst e; simp
    · rw [if_neg e]
      by_cases h : j < k
      · rw [if_pos h, if_pos (by omega)]
      · rw [if_neg h, if_neg (by omega)]
end
/-- A block of q numbers, of which the first k are those of zs. -/
def FillAt (w : World) (g q : Nat) (zs : List Int) (k : Nat) : Prop := w.heap[g]? = some (.cells (fillN zs q k).toArray 21 (0, 0))
section
variable {w : World} {g q k : Nat} {zs : List Int}
theorem FillAt.cell (h : FillAt w g q zs k) {j : Nat} (hj : j < q) : w.cell? ⟨g, j, none⟩ = some (.int .i32 (if j < k then zs.getD j 0 else 0)) := by
  rw [cell_of_row _ _ j _ _ (0, 0) h, List.getElem?_toArray, fillN_at hj]
theorem FillAt.frozen (h : FillAt w g q zs k) (j : Nat) : w.frozen? ⟨g, j, none⟩ = false := frozen_of_row w g j _ _ h
theorem FillAt.lt (h : FillAt w g q zs k) : g < w.heap.size := lt_of_heap h
theorem FillAt.set (h : FillAt w g q zs k) : FillAt (w.setCell ⟨g, k, none⟩ (.int .i32 (zs.getD k 0))) g q zs (k + 1) := by
  have e1 := setCell_eq_setRow w g k _ _ (0, 0) (.int .i32 (zs.getD k 0)) h
  have h1 := setRow_heap w g _ ((fillN zs q k).toArray.setIfInBounds k (.int .i32 (zs.getD k 0))) _ _ h
  rw [e1]
  unfold FillAt
  rw [h1, ← fillN_set]
  simp
theorem FillAt.below (h : FillAt w g q zs k) {w' : World} (hb : Below w.heap.size w w') : FillAt w' g q zs k := (hb.block g h.lt).trans h
theorem FillAt.of_own {base : Nat} (h : w.ownsRow base 21 1 (.slice (some ⟨g, 0, none⟩) q q) q (List.replicate q (.int .i32 0))) (zs : List Int) : FillAt w g q zs 0 := by
  obtain ⟨cur, hh, _, _, _, hs, ht⟩ := own_heap h
  unfold FillAt
  rw [hh, fillN_none, ← ht, Nat.mul_one, List.take_of_length_le (by simp; omega)]
theorem FillAt.own (h : FillAt w g q zs q) (hz : zs.length = q) {base : Nat} (hb : base ≤ g) (hq : q ≤ maxLen) : w.ownsRow base 21 1 (.slice (some ⟨g, 0, none⟩) q q) q (zs.map (Value.int .i32)) :=
  own_of_block hb h fillN_len (Nat.le_refl _) hq (by rw [fillN_all hz, List.take_of_length_le (by simp [hz])])
end
theorem grown_cell6 (w : World) (a : Addr) (v : Value) : w.grownBy (w.setCell a v) (some a.block) :=
  ⟨rfl, rfl, rfl, by simp, fun k _ hk => Below.heap_setCell w a v k (by intro e; exact hk (by rw [e]))⟩
theorem grown_lies {w w' : World} {r n : Nat} {A : Option Addr} {xs : List Value} (hg : w.grownBy w' (some r)) (h : Lies w A n xs) (hne : ∀ b o, A = some ⟨b, o, none⟩ → b ≠ r) : Lies w' A n xs :=
  h.grown hg (fun b o e => by simpa using hne b o e)
theorem lies_block {w : World} {A : Option Addr} {n B : Nat} {xs : List Value} (h : Lies w A n xs) (hn : 0 < n) (hB : w.heap.size ≤ B) : ∀ b o, A = some ⟨b, o, none⟩ → b ≠ B := by
  intro b o e
  obtain ⟨b', o', e', hb, _⟩ := h.cells hn
  rw [e] at e'
  cases e'
  omega

set_option maxHeartbeats 1000000 in
theorem apply_add (A : Option Addr) (n c q : Nat) (s : List Int) (gp : Nat) (xs ys : List Int) (w : World) (hA : Lies w A n (s.map (Value.int .i64))) (hP : PairsAt w gp q xs ys q) (hx : xs.length = q) (hy : ys.length = q) (hq : sizeI s = (q : Int)) (hp : 0 < q) :
    Calls Tryz.prog 88 #[.slice A n c, .slice (some ⟨gp, 0, none⟩) q q, .agg #[.func (.func 25) #[] #[]]] w fun e w' => ∃ g1 c1 g2, e = .returned (tenV (some ⟨g1, 0, none⟩) n c1 (some ⟨g2, 0, none⟩) q q) ∧
      w'.ownsRow w.heap.size 3 1 (.slice (some ⟨g1, 0, none⟩) n c1) n (s.map (Value.int .i64)) ∧ w'.ownsRow w.heap.size 21 1 (.slice (some ⟨g2, 0, none⟩) q q) q ((List.zipWith add32 xs ys).map (Value.int .i32)) ∧ g1 ≠ g2 ∧ Below w.heap.size w w' := by
  have hlen : s.length = n := by have := hA.len; simpa using this
  have hq4 : q ≤ 4096 := by have := sizeI_le s; omega
  have HA := hide hA
  have HQ := hide hq
  obtain ⟨zs, hzs⟩ : ∃ zs, zs = List.zipWith add32 xs ys := ⟨_, rfl⟩
  rw [← hzs]
  have HZL : Hid (zs.length = q) := hide (by rw [hzs]; simp [hx, hy])
  have HZK : Hid (∀ k, k < q → zs.getD k 0 = add32 (xs.getD k 0) (ys.getD k 0)) := hide (fun k hk => by rw [hzs]; simp [List.getD, List.getElem?_zipWith, List.getElem?_eq_getElem (show k < xs.length by omega), List.getElem?_eq_getElem (show k < ys.length by omega)])
  clear hzs
  have hgp := hP.lt
  have HP := hide hP
  clear hA hq hlen
  obtain ⟨W0, hW0⟩ : ∃ W0, W0 = (w.alloc (.cells #[.func (.func 25) #[] #[]] 64)).alloc (.cells #[.slice none 0 0, .slice none 0 0] 25) := ⟨_, rfl⟩
  have HB0 : Hid (Below w.heap.size w W0) := hide (by rw [hW0]; exact ((Below.refl w.heap.size w).alloc (Nat.le_refl _) _).alloc (by simp) _)
  have HO0 : Hid (Box1 W0 w.heap.size 64 (.func (.func 25) #[] #[])) := hide (by
    rw [hW0]
    exact (Below.heap_alloc _ _ w.heap.size (by simp)).trans (heap_alloc_new w _))
  have HR0 : Hid (BoxT W0 (w.heap.size + 1) (.slice none 0 0) (.slice none 0 0)) := hide (by
    rw [hW0]
    have h := BoxT.new (w.alloc (.cells #[.func (.func 25) #[] #[]] 64)) (.slice none 0 0) (.slice none 0 0)
    rwa [World.size_alloc] at h)
  have hs0 : W0.heap.size = w.heap.size + 2 := by rw [hW0]; simp
  have hW0' := hW0.symm
  clear hW0
  go_enter Tryz.func88, Tryz.ntmps88
  go_wp2_with fail
  refine Calls.mono (new_ok A n c q s _ (HA.out.below HB0.out) HQ.out hp) ?_
  rintro e w1 ⟨g1, c1, g2, rfl, ho1, ho2, hne, hb⟩
  have lt1 := ho1.lt g1 rfl
  have lt2 := ho2.lt g2 rfl
  obtain ⟨W1, hW1⟩ : ∃ W1, W1 = w1.alloc (.cells #[.slice (some ⟨g1, 0, none⟩) n c1, .slice (some ⟨g2, 0, none⟩) q q] 25) := ⟨_, rfl⟩
  have HB1 : Hid (Below W0.heap.size W0 W1) := hide (by rw [hW1]; exact hb.alloc hb.size _)
  have HT1 : Hid (BoxT W1 w1.heap.size (.slice (some ⟨g1, 0, none⟩) n c1) (.slice (some ⟨g2, 0, none⟩) q q)) := hide (by rw [hW1]; exact BoxT.new w1 _ _)
  have HO1 : Hid (W1.ownsRow W0.heap.size 3 1 (.slice (some ⟨g1, 0, none⟩) n c1) n (s.map (Value.int .i64))) := hide (by rw [hW1]; exact ho1.alloc _)
  have HF1 : Hid (FillAt W1 g2 q zs 0) := hide (by rw [hW1]; exact FillAt.of_own (ho2.alloc _) zs)
  have hs1 : W1.heap.size = w1.heap.size + 1 := by rw [hW1]; simp
  have hW1' := hW1.symm
  clear hW1 ho1 ho2 hb
  have HOB : Hid (Box1 W1 w.heap.size 64 (.func (.func 25) #[] #[])) := hide ((HB1.out.block w.heap.size (by omega)).trans HO0.out)
  have HRB : Hid (BoxT W1 (w.heap.size + 1) (.slice none 0 0) (.slice none 0 0)) := hide (HR0.out.kept HB1.out)
  have HB1w : Hid (Below w.heap.size w W1) := hide (HB0.out.trans (HB1.out.mono (by omega)))
  have HP1 : Hid (PairsAt W1 gp q xs ys q) := hide (HP.out.keep HB1w.out hgp)
  clear HO0 HR0
  go_wp2_with fail
  clear hW1' hW0'
  go_loopw [18] (fun i wr => ∃ k : Nat, k ≤ q ∧ i = .int .i64 k ∧ Hid (FillAt wr g2 q zs k) ∧ Hid (W1.grownBy wr (some g2))) (fun i _ => q - (intOf i).toNat)
  case atStart => exact ⟨0, Nat.zero_le _, rfl, HF1, hide (World.grownBy.refl W1 (some g2))⟩
  case round =>
    obtain ⟨k, hk, rfl, HF, HG⟩ := hrel
    have hszr := HG.out.size
    have HTr : Hid (BoxT wr w1.heap.size (.slice (some ⟨g1, 0, none⟩) n c1) (.slice (some ⟨g2, 0, none⟩) q q)) := hide ((HG.out.block w1.heap.size (by omega) (by simp; omega)).trans HT1.out)
    by_cases hlt : k < q
    · have h0 : (0 : Int) ≤ (k : Int) := by omega
      have h3 : (k : Int) < (q : Int) := by omega
      have HOr : Hid (Box1 wr w.heap.size 64 (.func (.func 25) #[] #[])) := hide ((HG.out.block w.heap.size (by omega) (by simp; omega)).trans HOB.out)
      have HPr : Hid (PairsAt wr gp q xs ys q) := hide (HP1.out.grown HG.out (by omega))
      obtain ⟨x, hx1⟩ : ∃ x, x = xs.getD k 0 := ⟨_, rfl⟩
      obtain ⟨y, hy1⟩ : ∃ y, y = ys.getD k 0 := ⟨_, rfl⟩
      obtain ⟨z, hz1⟩ : ∃ z, z = add32 x y := ⟨_, rfl⟩
      have hcx := HPr.out.c0 hlt
      have hcy := HPr.out.c1 hlt
      rw [← hx1] at hcx
      rw [← hy1] at hcy
      have HZ : Hid (z = zs.getD k 0) := hide (by rw [hz1, hx1, hy1, HZK.out k hlt])
      have HC : Hid (∀ v : World, Calls Tryz.prog 25 #[.agg #[.int .i32 x, .int .i32 y]] v fun e w' => e = .returned (.int .i32 z) ∧ Below v.heap.size v w') := hide (fun v => by rw [hz1]; exact add1_any x y v)
      clear hx1 hy1 hz1
      obtain ⟨Wx, hWx⟩ : ∃ Wx, Wx = wr.alloc (.cells #[.int .i32 x, .int .i32 y] 61) := ⟨_, rfl⟩
      have HBx : Hid (Below wr.heap.size wr Wx) := hide (by rw [hWx]; exact (Below.refl wr.heap.size wr).alloc (Nat.le_refl _) _)
      have HXx : Hid (BoxP Wx wr.heap.size x y) := hide (by rw [hWx]; exact BoxP.new wr x y)
      have hWx' := hWx.symm
      clear hWx
      have HK : Hid (∀ v, Below Wx.heap.size Wx v → v.cell? ⟨w1.heap.size, 1, none⟩ = some (.slice (some ⟨g2, 0, none⟩) q q) ∧ v.cell? ⟨w.heap.size, 0, none⟩ = some (.func (.func 25) #[] #[]) ∧ v.cell? ⟨wr.heap.size, 0, none⟩ = some (.int .i32 x) ∧ v.cell? ⟨wr.heap.size, 1, none⟩ = some (.int .i32 y)) := hide (fun v hv =>
        ⟨((HTr.out.kept HBx.out).kept hv).c1, Box1.cell ((hv.block _ (by have := HBx.out.size; have := HOr.out.lt; omega)).trans ((HBx.out.block _ HOr.out.lt).trans HOr.out)), (HXx.out.kept hv).c0, (HXx.out.kept hv).c1⟩)
      have HS : Hid (∀ v, Below wr.heap.size wr v → v.cell? ⟨g2, k, none⟩ = some (.int .i32 0) ∧ v.frozen? ⟨g2, k, none⟩ = false) := hide (fun v hv => by
        have h := HF.out.below hv
        have hc := h.cell hlt
        rw [if_neg (by omega)] at hc
        exact ⟨hc, h.frozen k⟩)
      have HKS : Hid (∀ v u, Below Wx.heap.size Wx v → (v.setCell ⟨g2, k, none⟩ u).cell? ⟨w1.heap.size, 1, none⟩ = some (.slice (some ⟨g2, 0, none⟩) q q) ∧ (v.setCell ⟨g2, k, none⟩ u).cell? ⟨w.heap.size, 0, none⟩ = some (.func (.func 25) #[] #[]) ∧ (v.setCell ⟨g2, k, none⟩ u).cell? ⟨wr.heap.size, 0, none⟩ = some (.int .i32 x) ∧ (v.setCell ⟨g2, k, none⟩ u).cell? ⟨wr.heap.size, 1, none⟩ = some (.int .i32 y)) := hide (fun v u hv => by
        obtain ⟨q0, q1, q2, q3⟩ := HK.out v hv
        exact ⟨(World.cell?_of_block (Below.heap_setCell v ⟨g2, k, none⟩ u w1.heap.size (by simp; omega))).trans q0, (World.cell?_of_block (Below.heap_setCell v ⟨g2, k, none⟩ u w.heap.size (by simp; omega))).trans q1, (World.cell?_of_block (Below.heap_setCell v ⟨g2, k, none⟩ u wr.heap.size (by simp; omega))).trans q2, (World.cell?_of_block (Below.heap_setCell v ⟨g2, k, none⟩ u wr.heap.size (by simp; omega))).trans q3⟩)
      have hbx0 : Below Wx.heap.size Wx Wx := Below.refl _ Wx
      have hbx1 : Below Wx.heap.size Wx (Wx.drewN 1) := below_drewN (Below.refl _ Wx) 1
      go_wp2
      go_region_held3 (fun v => v.cell? ⟨w1.heap.size, 1, none⟩ = some (.slice (some ⟨g2, 0, none⟩) q q) ∧ v.cell? ⟨w.heap.size, 0, none⟩ = some (.func (.func 25) #[] #[]) ∧ v.cell? ⟨wr.heap.size, 0, none⟩ = some (.int .i32 x) ∧ v.cell? ⟨wr.heap.size, 1, none⟩ = some (.int .i32 y))
        (first | (exact HKS.out _ _ hbx2) | (exact HK.out _ hbx2) | (exact HK.out _ hbx1) | (exact HK.out _ hbx0) | go_keep)
        (first | (go_at_call 25; refine Calls.mono (HC.out _) ?_; rintro e w2 ⟨rfl, hb2⟩; have hbx2 : Below Wx.heap.size Wx w2 := hbx1.trans hb2; have hbr2 : Below wr.heap.size wr w2 := HBx.out.trans (hbx2.mono HBx.out.size); obtain ⟨hs, hf⟩ := HS.out _ hbr2))
      have HNG : Hid (W1.grownBy (w2.setCell ⟨g2, k, none⟩ (.int .i32 z)) (some g2)) := hide (grown_trans (grown_trans HG.out (grown_below (hbr2) (some g2))) (grown_cell6 w2 ⟨g2, k, none⟩ _))
      have HNF : Hid (FillAt (w2.setCell ⟨g2, k, none⟩ (.int .i32 z)) g2 q zs (k + 1)) := hide (by
        have h := (HF.out.below (hbr2)).set
        rwa [← HZ.out] at h)
      go_wp2
      go_roundw
      case rel => exact ⟨k + 1, by omega, by go_num, HNF, HNG⟩
      case measure => simp [intOf]; omega
    · obtain rfl : k = q := by omega
      have t0 := HTr.out.c0
      have t1 := HTr.out.c1
      have HRr : Hid (BoxT wr (w.heap.size + 1) (.slice none 0 0) (.slice none 0 0)) := hide ((HG.out.block (w.heap.size + 1) (by omega) (by simp; omega)).trans HRB.out)
      have r0 := HRr.out.c0
      have r1 := HRr.out.c1
      have rf0 := HRr.out.f0 0
      have rf1 := HRr.out.f0 1
      go_wp2
      (try simp only [Exit.inBlock, Exit.then])
      refine ret_ten1 (p := 6) rfl rfl (w.heap.size + 1) _ rfl (HRr.out.set2 _ _) rfl ?_
      refine ⟨g1, c1, g2, rfl, ?_, ?_, hne, ?_⟩
      · refine own_base (own_setCell' (own_setCell' (HO1.out.kept (row := some g2) HG.out (.inr (by simp [Value.ownBlock]; omega))) (by simp; omega) _) (by simp; omega) _) (by omega)
      · refine own_setCell' (own_setCell' (HF.out.own HZL.out (by omega) (by unfold maxLen; omega)) (by simp; omega) _) (by simp; omega) _
      · exact ((HB1w.out.trans (below_grown HG.out (by omega) (by omega))).setCell (by simp) _).setCell (by simp) _

set_option maxHeartbeats 1000000 in
theorem apply_mul (A : Option Addr) (n c q : Nat) (s : List Int) (gp : Nat) (xs ys : List Int) (w : World) (hA : Lies w A n (s.map (Value.int .i64))) (hP : PairsAt w gp q xs ys q) (hx : xs.length = q) (hy : ys.length = q) (hq : sizeI s = (q : Int)) (hp : 0 < q) :
    Calls Tryz.prog 88 #[.slice A n c, .slice (some ⟨gp, 0, none⟩) q q, .agg #[.func (.func 26) #[] #[]]] w fun e w' => ∃ g1 c1 g2, e = .returned (tenV (some ⟨g1, 0, none⟩) n c1 (some ⟨g2, 0, none⟩) q q) ∧
      w'.ownsRow w.heap.size 3 1 (.slice (some ⟨g1, 0, none⟩) n c1) n (s.map (Value.int .i64)) ∧ w'.ownsRow w.heap.size 21 1 (.slice (some ⟨g2, 0, none⟩) q q) q ((List.zipWith mul32 xs ys).map (Value.int .i32)) ∧ g1 ≠ g2 ∧ Below w.heap.size w w' := by
  have hlen : s.length = n := by have := hA.len; simpa using this
  have hq4 : q ≤ 4096 := by have := sizeI_le s; omega
  have HA := hide hA
  have HQ := hide hq
  obtain ⟨zs, hzs⟩ : ∃ zs, zs = List.zipWith mul32 xs ys := ⟨_, rfl⟩
  rw [← hzs]
  have HZL : Hid (zs.length = q) := hide (by rw [hzs]; simp [hx, hy])
  have HZK : Hid (∀ k, k < q → zs.getD k 0 = mul32 (xs.getD k 0) (ys.getD k 0)) := hide (fun k hk => by rw [hzs]; simp [List.getD, List.getElem?_zipWith, List.getElem?_eq_getElem (show k < xs.length by omega), List.getElem?_eq_getElem (show k < ys.length by omega)])
  clear hzs
  have hgp := hP.lt
  have HP := hide hP
  clear hA hq hlen
  obtain ⟨W0, hW0⟩ : ∃ W0, W0 = (w.alloc (.cells #[.func (.func 26) #[] #[]] 64)).alloc (.cells #[.slice none 0 0, .slice none 0 0] 25) := ⟨_, rfl⟩
  have HB0 : Hid (Below w.heap.size w W0) := hide (by rw [hW0]; exact ((Below.refl w.heap.size w).alloc (Nat.le_refl _) _).alloc (by simp) _)
  have HO0 : Hid (Box1 W0 w.heap.size 64 (.func (.func 26) #[] #[])) := hide (by
    rw [hW0]
    exact (Below.heap_alloc _ _ w.heap.size (by simp)).trans (heap_alloc_new w _))
  have HR0 : Hid (BoxT W0 (w.heap.size + 1) (.slice none 0 0) (.slice none 0 0)) := hide (by
    rw [hW0]
    have h := BoxT.new (w.alloc (.cells #[.func (.func 26) #[] #[]] 64)) (.slice none 0 0) (.slice none 0 0)
    rwa [World.size_alloc] at h)
  have hs0 : W0.heap.size = w.heap.size + 2 := by rw [hW0]; simp
  have hW0' := hW0.symm
  clear hW0
  go_enter Tryz.func88, Tryz.ntmps88
  go_wp2_with fail
  refine Calls.mono (new_ok A n c q s _ (HA.out.below HB0.out) HQ.out hp) ?_
  rintro e w1 ⟨g1, c1, g2, rfl, ho1, ho2, hne, hb⟩
  have lt1 := ho1.lt g1 rfl
  have lt2 := ho2.lt g2 rfl
  obtain ⟨W1, hW1⟩ : ∃ W1, W1 = w1.alloc (.cells #[.slice (some ⟨g1, 0, none⟩) n c1, .slice (some ⟨g2, 0, none⟩) q q] 25) := ⟨_, rfl⟩
  have HB1 : Hid (Below W0.heap.size W0 W1) := hide (by rw [hW1]; exact hb.alloc hb.size _)
  have HT1 : Hid (BoxT W1 w1.heap.size (.slice (some ⟨g1, 0, none⟩) n c1) (.slice (some ⟨g2, 0, none⟩) q q)) := hide (by rw [hW1]; exact BoxT.new w1 _ _)
  have HO1 : Hid (W1.ownsRow W0.heap.size 3 1 (.slice (some ⟨g1, 0, none⟩) n c1) n (s.map (Value.int .i64))) := hide (by rw [hW1]; exact ho1.alloc _)
  have HF1 : Hid (FillAt W1 g2 q zs 0) := hide (by rw [hW1]; exact FillAt.of_own (ho2.alloc _) zs)
  have hs1 : W1.heap.size = w1.heap.size + 1 := by rw [hW1]; simp
  have hW1' := hW1.symm
  clear hW1 ho1 ho2 hb
  have HOB : Hid (Box1 W1 w.heap.size 64 (.func (.func 26) #[] #[])) := hide ((HB1.out.block w.heap.size (by omega)).trans HO0.out)
  have HRB : Hid (BoxT W1 (w.heap.size + 1) (.slice none 0 0) (.slice none 0 0)) := hide (HR0.out.kept HB1.out)
  have HB1w : Hid (Below w.heap.size w W1) := hide (HB0.out.trans (HB1.out.mono (by omega)))
  have HP1 : Hid (PairsAt W1 gp q xs ys q) := hide (HP.out.keep HB1w.out hgp)
  clear HO0 HR0
  go_wp2_with fail
  clear hW1' hW0'
  go_loopw [18] (fun i wr => ∃ k : Nat, k ≤ q ∧ i = .int .i64 k ∧ Hid (FillAt wr g2 q zs k) ∧ Hid (W1.grownBy wr (some g2))) (fun i _ => q - (intOf i).toNat)
  case atStart => exact ⟨0, Nat.zero_le _, rfl, HF1, hide (World.grownBy.refl W1 (some g2))⟩
  case round =>
    obtain ⟨k, hk, rfl, HF, HG⟩ := hrel
    have hszr := HG.out.size
    have HTr : Hid (BoxT wr w1.heap.size (.slice (some ⟨g1, 0, none⟩) n c1) (.slice (some ⟨g2, 0, none⟩) q q)) := hide ((HG.out.block w1.heap.size (by omega) (by simp; omega)).trans HT1.out)
    by_cases hlt : k < q
    · have h0 : (0 : Int) ≤ (k : Int) := by omega
      have h3 : (k : Int) < (q : Int) := by omega
      have HOr : Hid (Box1 wr w.heap.size 64 (.func (.func 26) #[] #[])) := hide ((HG.out.block w.heap.size (by omega) (by simp; omega)).trans HOB.out)
      have HPr : Hid (PairsAt wr gp q xs ys q) := hide (HP1.out.grown HG.out (by omega))
      obtain ⟨x, hx1⟩ : ∃ x, x = xs.getD k 0 := ⟨_, rfl⟩
      obtain ⟨y, hy1⟩ : ∃ y, y = ys.getD k 0 := ⟨_, rfl⟩
      obtain ⟨z, hz1⟩ : ∃ z, z = mul32 x y := ⟨_, rfl⟩
      have hcx := HPr.out.c0 hlt
      have hcy := HPr.out.c1 hlt
      rw [← hx1] at hcx
      rw [← hy1] at hcy
      have HZ : Hid (z = zs.getD k 0) := hide (by rw [hz1, hx1, hy1, HZK.out k hlt])
      have HC : Hid (∀ v : World, Calls Tryz.prog 26 #[.agg #[.int .i32 x, .int .i32 y]] v fun e w' => e = .returned (.int .i32 z) ∧ Below v.heap.size v w') := hide (fun v => by rw [hz1]; exact mul1_any x y v)
      clear hx1 hy1 hz1
      obtain ⟨Wx, hWx⟩ : ∃ Wx, Wx = wr.alloc (.cells #[.int .i32 x, .int .i32 y] 61) := ⟨_, rfl⟩
      have HBx : Hid (Below wr.heap.size wr Wx) := hide (by rw [hWx]; exact (Below.refl wr.heap.size wr).alloc (Nat.le_refl _) _)
      have HXx : Hid (BoxP Wx wr.heap.size x y) := hide (by rw [hWx]; exact BoxP.new wr x y)
      have hWx' := hWx.symm
      clear hWx
      have HK : Hid (∀ v, Below Wx.heap.size Wx v → v.cell? ⟨w1.heap.size, 1, none⟩ = some (.slice (some ⟨g2, 0, none⟩) q q) ∧ v.cell? ⟨w.heap.size, 0, none⟩ = some (.func (.func 26) #[] #[]) ∧ v.cell? ⟨wr.heap.size, 0, none⟩ = some (.int .i32 x) ∧ v.cell? ⟨wr.heap.size, 1, none⟩ = some (.int .i32 y)) := hide (fun v hv =>
        ⟨((HTr.out.kept HBx.out).kept hv).c1, Box1.cell ((hv.block _ (by have := HBx.out.size; have := HOr.out.lt; omega)).trans ((HBx.out.block _ HOr.out.lt).trans HOr.out)), (HXx.out.kept hv).c0, (HXx.out.kept hv).c1⟩)
      have HS : Hid (∀ v, Below wr.heap.size wr v → v.cell? ⟨g2, k, none⟩ = some (.int .i32 0) ∧ v.frozen? ⟨g2, k, none⟩ = false) := hide (fun v hv => by
        have h := HF.out.below hv
        have hc := h.cell hlt
        rw [if_neg (by omega)] at hc
        exact ⟨hc, h.frozen k⟩)
      have HKS : Hid (∀ v u, Below Wx.heap.size Wx v → (v.setCell ⟨g2, k, none⟩ u).cell? ⟨w1.heap.size, 1, none⟩ = some (.slice (some ⟨g2, 0, none⟩) q q) ∧ (v.setCell ⟨g2, k, none⟩ u).cell? ⟨w.heap.size, 0, none⟩ = some (.func (.func 26) #[] #[]) ∧ (v.setCell ⟨g2, k, none⟩ u).cell? ⟨wr.heap.size, 0, none⟩ = some (.int .i32 x) ∧ (v.setCell ⟨g2, k, none⟩ u).cell? ⟨wr.heap.size, 1, none⟩ = some (.int .i32 y)) := hide (fun v u hv => by
        obtain ⟨q0, q1, q2, q3⟩ := HK.out v hv
        exact ⟨(World.cell?_of_block (Below.heap_setCell v ⟨g2, k, none⟩ u w1.heap.size (by simp; omega))).trans q0, (World.cell?_of_block (Below.heap_setCell v ⟨g2, k, none⟩ u w.heap.size (by simp; omega))).trans q1, (World.cell?_of_block (Below.heap_setCell v ⟨g2, k, none⟩ u wr.heap.size (by simp; omega))).trans q2, (World.cell?_of_block (Below.heap_setCell v ⟨g2, k, none⟩ u wr.heap.size (by simp; omega))).trans q3⟩)
      have hbx0 : Below Wx.heap.size Wx Wx := Below.refl _ Wx
      have hbx1 : Below Wx.heap.size Wx (Wx.drewN 1) := below_drewN (Below.refl _ Wx) 1
      go_wp2
      go_region_held3 (fun v => v.cell? ⟨w1.heap.size, 1, none⟩ = some (.slice (some ⟨g2, 0, none⟩) q q) ∧ v.cell? ⟨w.heap.size, 0, none⟩ = some (.func (.func 26) #[] #[]) ∧ v.cell? ⟨wr.heap.size, 0, none⟩ = some (.int .i32 x) ∧ v.cell? ⟨wr.heap.size, 1, none⟩ = some (.int .i32 y))
        (first | (exact HKS.out _ _ hbx2) | (exact HK.out _ hbx2) | (exact HK.out _ hbx1) | (exact HK.out _ hbx0) | go_keep)
        (first | (go_at_call 26; refine Calls.mono (HC.out _) ?_; rintro e w2 ⟨rfl, hb2⟩; have hbx2 : Below Wx.heap.size Wx w2 := hbx1.trans hb2; have hbr2 : Below wr.heap.size wr w2 := HBx.out.trans (hbx2.mono HBx.out.size); obtain ⟨hs, hf⟩ := HS.out _ hbr2))
      have HNG : Hid (W1.grownBy (w2.setCell ⟨g2, k, none⟩ (.int .i32 z)) (some g2)) := hide (grown_trans (grown_trans HG.out (grown_below (hbr2) (some g2))) (grown_cell6 w2 ⟨g2, k, none⟩ _))
      have HNF : Hid (FillAt (w2.setCell ⟨g2, k, none⟩ (.int .i32 z)) g2 q zs (k + 1)) := hide (by
        have h := (HF.out.below (hbr2)).set
        rwa [← HZ.out] at h)
      go_wp2
      go_roundw
      case rel => exact ⟨k + 1, by omega, by go_num, HNF, HNG⟩
      case measure => simp [intOf]; omega
    · obtain rfl : k = q := by omega
      have t0 := HTr.out.c0
      have t1 := HTr.out.c1
      have HRr : Hid (BoxT wr (w.heap.size + 1) (.slice none 0 0) (.slice none 0 0)) := hide ((HG.out.block (w.heap.size + 1) (by omega) (by simp; omega)).trans HRB.out)
      have r0 := HRr.out.c0
      have r1 := HRr.out.c1
      have rf0 := HRr.out.f0 0
      have rf1 := HRr.out.f0 1
      go_wp2
      (try simp only [Exit.inBlock, Exit.then])
      refine ret_ten1 (p := 6) rfl rfl (w.heap.size + 1) _ rfl (HRr.out.set2 _ _) rfl ?_
      refine ⟨g1, c1, g2, rfl, ?_, ?_, hne, ?_⟩
      · refine own_base (own_setCell' (own_setCell' (HO1.out.kept (row := some g2) HG.out (.inr (by simp [Value.ownBlock]; omega))) (by simp; omega) _) (by simp; omega) _) (by omega)
      · refine own_setCell' (own_setCell' (HF.out.own HZL.out (by omega) (by unfold maxLen; omega)) (by simp; omega) _) (by simp; omega) _
      · exact ((HB1w.out.trans (below_grown HG.out (by omega) (by omega))).setCell (by simp) _).setCell (by simp) _

set_option maxHeartbeats 1000000 in
theorem apply_relu (A : Option Addr) (n c q : Nat) (s : List Int) (B : Option Addr) (d : Nat) (xs : List Int) (w : World) (hA : Lies w A n (s.map (Value.int .i64))) (hB : Lies w B q (xs.map (Value.int .i32))) (hq : sizeI s = (q : Int)) (hp : 0 < q) :
    Calls Tryz.prog 125 #[.slice A n c, .slice B q d, .agg #[.func (.func 81) #[] #[]]] w fun e w' => ∃ g1 c1 g2, e = .returned (tenV (some ⟨g1, 0, none⟩) n c1 (some ⟨g2, 0, none⟩) q q) ∧
      w'.ownsRow w.heap.size 3 1 (.slice (some ⟨g1, 0, none⟩) n c1) n (s.map (Value.int .i64)) ∧ w'.ownsRow w.heap.size 21 1 (.slice (some ⟨g2, 0, none⟩) q q) q ((xs.map (relu32)).map (Value.int .i32)) ∧ g1 ≠ g2 ∧ Below w.heap.size w w' := by
  have hlen : s.length = n := by have := hA.len; simpa using this
  have hq4 : q ≤ 4096 := by have := sizeI_le s; omega
  have HA := hide hA
  have HQ := hide hq
  obtain ⟨zs, hzs⟩ : ∃ zs, zs = xs.map (relu32) := ⟨_, rfl⟩
  rw [← hzs]
  have HZL : Hid (zs.length = q) := hide (by rw [hzs]; have := hB.len; simpa using this)
  have HXL : Hid (xs.length = q) := hide (by have := hB.len; simpa using this)
  have HZK : Hid (∀ k, k < q → zs.getD k 0 = relu32 (xs.getD k 0)) := hide (fun k hk => by have := HXL.out; rw [hzs]; simp [List.getD, List.getElem?_map, List.getElem?_eq_getElem (show k < xs.length by omega)])
  clear hzs
  have HB := hide hB
  clear hB
  clear hA hq hlen
  obtain ⟨W0, hW0⟩ : ∃ W0, W0 = (w.alloc (.cells #[.func (.func 81) #[] #[]] 75)).alloc (.cells #[.slice none 0 0, .slice none 0 0] 25) := ⟨_, rfl⟩
  have HB0 : Hid (Below w.heap.size w W0) := hide (by rw [hW0]; exact ((Below.refl w.heap.size w).alloc (Nat.le_refl _) _).alloc (by simp) _)
  have HO0 : Hid (Box1 W0 w.heap.size 75 (.func (.func 81) #[] #[])) := hide (by
    rw [hW0]
    exact (Below.heap_alloc _ _ w.heap.size (by simp)).trans (heap_alloc_new w _))
  have HR0 : Hid (BoxT W0 (w.heap.size + 1) (.slice none 0 0) (.slice none 0 0)) := hide (by
    rw [hW0]
    have h := BoxT.new (w.alloc (.cells #[.func (.func 81) #[] #[]] 75)) (.slice none 0 0) (.slice none 0 0)
    rwa [World.size_alloc] at h)
  have hs0 : W0.heap.size = w.heap.size + 2 := by rw [hW0]; simp
  have hW0' := hW0.symm
  clear hW0
  go_enter Tryz.func125, Tryz.ntmps125
  go_wp2_with fail
  refine Calls.mono (new_ok A n c q s _ (HA.out.below HB0.out) HQ.out hp) ?_
  rintro e w1 ⟨g1, c1, g2, rfl, ho1, ho2, hne, hb⟩
  have lt1 := ho1.lt g1 rfl
  have lt2 := ho2.lt g2 rfl
  obtain ⟨W1, hW1⟩ : ∃ W1, W1 = w1.alloc (.cells #[.slice (some ⟨g1, 0, none⟩) n c1, .slice (some ⟨g2, 0, none⟩) q q] 25) := ⟨_, rfl⟩
  have HB1 : Hid (Below W0.heap.size W0 W1) := hide (by rw [hW1]; exact hb.alloc hb.size _)
  have HT1 : Hid (BoxT W1 w1.heap.size (.slice (some ⟨g1, 0, none⟩) n c1) (.slice (some ⟨g2, 0, none⟩) q q)) := hide (by rw [hW1]; exact BoxT.new w1 _ _)
  have HO1 : Hid (W1.ownsRow W0.heap.size 3 1 (.slice (some ⟨g1, 0, none⟩) n c1) n (s.map (Value.int .i64))) := hide (by rw [hW1]; exact ho1.alloc _)
  have HF1 : Hid (FillAt W1 g2 q zs 0) := hide (by rw [hW1]; exact FillAt.of_own (ho2.alloc _) zs)
  have hs1 : W1.heap.size = w1.heap.size + 1 := by rw [hW1]; simp
  have hW1' := hW1.symm
  clear hW1 ho1 ho2 hb
  have HOB : Hid (Box1 W1 w.heap.size 75 (.func (.func 81) #[] #[])) := hide ((HB1.out.block w.heap.size (by omega)).trans HO0.out)
  have HRB : Hid (BoxT W1 (w.heap.size + 1) (.slice none 0 0) (.slice none 0 0)) := hide (HR0.out.kept HB1.out)
  have HB1w : Hid (Below w.heap.size w W1) := hide (HB0.out.trans (HB1.out.mono (by omega)))
  have HB1x : Hid (Lies W1 B q (xs.map (Value.int .i32))) := hide (HB.out.below HB1w.out)
  have HNE : Hid (∀ b o, B = some ⟨b, o, none⟩ → b ≠ g2) := hide (by
    intro b o e
    obtain ⟨b', o', e', hb, _⟩ := HB.out.cells (by omega)
    rw [e] at e'
    cases e'
    omega)
  clear HO0 HR0
  go_wp2_with fail
  clear hW1' hW0'
  go_loopw [18] (fun i wr => ∃ k : Nat, k ≤ q ∧ i = .int .i64 k ∧ Hid (FillAt wr g2 q zs k) ∧ Hid (W1.grownBy wr (some g2))) (fun i _ => q - (intOf i).toNat)
  case atStart => exact ⟨0, Nat.zero_le _, rfl, HF1, hide (World.grownBy.refl W1 (some g2))⟩
  case round =>
    obtain ⟨k, hk, rfl, HF, HG⟩ := hrel
    have hszr := HG.out.size
    have HTr : Hid (BoxT wr w1.heap.size (.slice (some ⟨g1, 0, none⟩) n c1) (.slice (some ⟨g2, 0, none⟩) q q)) := hide ((HG.out.block w1.heap.size (by omega) (by simp; omega)).trans HT1.out)
    by_cases hlt : k < q
    · have h0 : (0 : Int) ≤ (k : Int) := by omega
      have h3 : (k : Int) < (q : Int) := by omega
      have HOr : Hid (Box1 wr w.heap.size 75 (.func (.func 81) #[] #[])) := hide ((HG.out.block w.heap.size (by omega) (by simp; omega)).trans HOB.out)
      obtain ⟨b, o, rfl, hbb, hx⟩ := byte_at (grown_lies HG.out HB1x.out HNE.out) (by omega)
      have hcx := hx k hlt
      obtain ⟨x, hx1⟩ : ∃ x, x = xs.getD k 0 := ⟨_, rfl⟩
      obtain ⟨z, hz1⟩ : ∃ z, z = relu32 x := ⟨_, rfl⟩
      rw [← hx1] at hcx
      have HX := hide hx1
      have HZ : Hid (z = zs.getD k 0) := hide (by rw [hz1, hx1, HZK.out k hlt])
      have HC : Hid (∀ v : World, Below wr.heap.size wr v → Calls Tryz.prog 81 #[.int .i32 x] v fun e w' => e = .returned (.int .i32 z) ∧ Below v.heap.size v w') := hide (fun v hv => by rw [hz1]; exact (relu1_any x v).mono (by rintro e w2 ⟨rfl, rfl⟩; exact ⟨rfl, Below.refl _ _⟩))
      clear hx hx1 hz1
      have HK : Hid (∀ v, Below wr.heap.size wr v → v.cell? ⟨w1.heap.size, 1, none⟩ = some (.slice (some ⟨g2, 0, none⟩) q q) ∧ v.cell? ⟨w.heap.size, 0, none⟩ = some (.func (.func 81) #[] #[])) := hide (fun v hv =>
        ⟨(HTr.out.kept hv).c1, Box1.cell ((hv.block _ HOr.out.lt).trans HOr.out)⟩)
      have HS : Hid (∀ v, Below wr.heap.size wr v → v.cell? ⟨g2, k, none⟩ = some (.int .i32 0) ∧ v.frozen? ⟨g2, k, none⟩ = false) := hide (fun v hv => by
        have h := HF.out.below hv
        have hc := h.cell hlt
        rw [if_neg (by omega)] at hc
        exact ⟨hc, h.frozen k⟩)
      have HKS : Hid (∀ v u, Below wr.heap.size wr v → (v.setCell ⟨g2, k, none⟩ u).cell? ⟨w1.heap.size, 1, none⟩ = some (.slice (some ⟨g2, 0, none⟩) q q) ∧ (v.setCell ⟨g2, k, none⟩ u).cell? ⟨w.heap.size, 0, none⟩ = some (.func (.func 81) #[] #[])) := hide (fun v u hv => by
        obtain ⟨q0, q1⟩ := HK.out v hv
        exact ⟨(World.cell?_of_block (Below.heap_setCell v ⟨g2, k, none⟩ u w1.heap.size (by simp; omega))).trans q0, (World.cell?_of_block (Below.heap_setCell v ⟨g2, k, none⟩ u w.heap.size (by simp; omega))).trans q1⟩)
      have hbx0 : Below wr.heap.size wr wr := Below.refl _ wr
      have hbx1 : Below wr.heap.size wr (wr.drewN 1) := below_drewN (Below.refl _ wr) 1
      go_wp2
      go_region_held3 (fun v => v.cell? ⟨w1.heap.size, 1, none⟩ = some (.slice (some ⟨g2, 0, none⟩) q q) ∧ v.cell? ⟨w.heap.size, 0, none⟩ = some (.func (.func 81) #[] #[]))
        (first | (exact HKS.out _ _ hbr2) | (exact HK.out _ hbr2) | (exact HK.out _ hbx1) | (exact HK.out _ hbx0) | go_keep)
        (first | (go_at_call 81; refine Calls.mono (HC.out _ hbx1) ?_; rintro e w2 ⟨rfl, hb2⟩; have hbr2 : Below wr.heap.size wr w2 := hbx1.trans hb2; obtain ⟨hs, hf⟩ := HS.out _ hbr2))
      have HNG : Hid (W1.grownBy (w2.setCell ⟨g2, k, none⟩ (.int .i32 z)) (some g2)) := hide (grown_trans (grown_trans HG.out (grown_below (hbr2) (some g2))) (grown_cell6 w2 ⟨g2, k, none⟩ _))
      have HNF : Hid (FillAt (w2.setCell ⟨g2, k, none⟩ (.int .i32 z)) g2 q zs (k + 1)) := hide (by
        have h := (HF.out.below (hbr2)).set
        rwa [← HZ.out] at h)
      go_wp2
      go_roundw
      case rel => exact ⟨k + 1, by omega, by go_num, HNF, HNG⟩
      case measure => simp [intOf]; omega
    · obtain rfl : k = q := by omega
      have t0 := HTr.out.c0
      have t1 := HTr.out.c1
      have HRr : Hid (BoxT wr (w.heap.size + 1) (.slice none 0 0) (.slice none 0 0)) := hide ((HG.out.block (w.heap.size + 1) (by omega) (by simp; omega)).trans HRB.out)
      have r0 := HRr.out.c0
      have r1 := HRr.out.c1
      have rf0 := HRr.out.f0 0
      have rf1 := HRr.out.f0 1
      go_wp2
      (try simp only [Exit.inBlock, Exit.then])
      refine ret_ten1 (p := 6) rfl rfl (w.heap.size + 1) _ rfl (HRr.out.set2 _ _) rfl ?_
      refine ⟨g1, c1, g2, rfl, ?_, ?_, hne, ?_⟩
      · refine own_base (own_setCell' (own_setCell' (HO1.out.kept (row := some g2) HG.out (.inr (by simp [Value.ownBlock]; omega))) (by simp; omega) _) (by simp; omega) _) (by omega)
      · refine own_setCell' (own_setCell' (HF.out.own HZL.out (by omega) (by unfold maxLen; omega)) (by simp; omega) _) (by simp; omega) _
      · exact ((HB1w.out.trans (below_grown HG.out (by omega) (by omega))).setCell (by simp) _).setCell (by simp) _

set_option maxHeartbeats 1000000 in
theorem apply_shift (A : Option Addr) (n c q : Nat) (s : List Int) (B : Option Addr) (d bits : Nat) (pn : Addr) (xs : List Int) (w : World) (hA : Lies w A n (s.map (Value.int .i64))) (hB : Lies w B q (xs.map (Value.int .i32))) (hbits : bits ≤ 31) (hc : w.cell? pn = some (.int .i64 (bits : Int))) (hcb : pn.block < w.heap.size) (hw : ∀ z ∈ xs, -2147483648 ≤ z ∧ z < 2147483648) (hq : sizeI s = (q : Int)) (hp : 0 < q) :
    Calls Tryz.prog 125 #[.slice A n c, .slice B q d, .agg #[.func (.func 82) #[] #[.pointer (some pn)]]] w fun e w' => ∃ g1 c1 g2, e = .returned (tenV (some ⟨g1, 0, none⟩) n c1 (some ⟨g2, 0, none⟩) q q) ∧
      w'.ownsRow w.heap.size 3 1 (.slice (some ⟨g1, 0, none⟩) n c1) n (s.map (Value.int .i64)) ∧ w'.ownsRow w.heap.size 21 1 (.slice (some ⟨g2, 0, none⟩) q q) q ((xs.map (shf bits)).map (Value.int .i32)) ∧ g1 ≠ g2 ∧ Below w.heap.size w w' := by
  have hlen : s.length = n := by have := hA.len; simpa using this
  have hq4 : q ≤ 4096 := by have := sizeI_le s; omega
  have HA := hide hA
  have HQ := hide hq
  obtain ⟨zs, hzs⟩ : ∃ zs, zs = xs.map (shf bits) := ⟨_, rfl⟩
  rw [← hzs]
  have HZL : Hid (zs.length = q) := hide (by rw [hzs]; have := hB.len; simpa using this)
  have HXL : Hid (xs.length = q) := hide (by have := hB.len; simpa using this)
  have HZK : Hid (∀ k, k < q → zs.getD k 0 = shf bits (xs.getD k 0)) := hide (fun k hk => by have := HXL.out; rw [hzs]; simp [List.getD, List.getElem?_map, List.getElem?_eq_getElem (show k < xs.length by omega)])
  clear hzs
  have HB := hide hB
  clear hB
  have HCC := hide hc
  have HWX : Hid (∀ k, k < q → -2147483648 ≤ xs.getD k 0 ∧ xs.getD k 0 < 2147483648) := hide (fun k hk => by
    have := HXL.out
    have h := hw (xs[k]'(by omega)) (List.getElem_mem _)
    simpa [List.getD, show k < xs.length by omega] using h)
  clear hc hw
  clear hA hq hlen
  obtain ⟨W0, hW0⟩ : ∃ W0, W0 = (w.alloc (.cells #[.func (.func 82) #[] #[.pointer (some pn)]] 75)).alloc (.cells #[.slice none 0 0, .slice none 0 0] 25) := ⟨_, rfl⟩
  have HB0 : Hid (Below w.heap.size w W0) := hide (by rw [hW0]; exact ((Below.refl w.heap.size w).alloc (Nat.le_refl _) _).alloc (by simp) _)
  have HO0 : Hid (Box1 W0 w.heap.size 75 (.func (.func 82) #[] #[.pointer (some pn)])) := hide (by
    rw [hW0]
    exact (Below.heap_alloc _ _ w.heap.size (by simp)).trans (heap_alloc_new w _))
  have HR0 : Hid (BoxT W0 (w.heap.size + 1) (.slice none 0 0) (.slice none 0 0)) := hide (by
    rw [hW0]
    have h := BoxT.new (w.alloc (.cells #[.func (.func 82) #[] #[.pointer (some pn)]] 75)) (.slice none 0 0) (.slice none 0 0)
    rwa [World.size_alloc] at h)
  have hs0 : W0.heap.size = w.heap.size + 2 := by rw [hW0]; simp
  have hW0' := hW0.symm
  clear hW0
  go_enter Tryz.func125, Tryz.ntmps125
  go_wp2_with fail
  refine Calls.mono (new_ok A n c q s _ (HA.out.below HB0.out) HQ.out hp) ?_
  rintro e w1 ⟨g1, c1, g2, rfl, ho1, ho2, hne, hb⟩
  have lt1 := ho1.lt g1 rfl
  have lt2 := ho2.lt g2 rfl
  obtain ⟨W1, hW1⟩ : ∃ W1, W1 = w1.alloc (.cells #[.slice (some ⟨g1, 0, none⟩) n c1, .slice (some ⟨g2, 0, none⟩) q q] 25) := ⟨_, rfl⟩
  have HB1 : Hid (Below W0.heap.size W0 W1) := hide (by rw [hW1]; exact hb.alloc hb.size _)
  have HT1 : Hid (BoxT W1 w1.heap.size (.slice (some ⟨g1, 0, none⟩) n c1) (.slice (some ⟨g2, 0, none⟩) q q)) := hide (by rw [hW1]; exact BoxT.new w1 _ _)
  have HO1 : Hid (W1.ownsRow W0.heap.size 3 1 (.slice (some ⟨g1, 0, none⟩) n c1) n (s.map (Value.int .i64))) := hide (by rw [hW1]; exact ho1.alloc _)
  have HF1 : Hid (FillAt W1 g2 q zs 0) := hide (by rw [hW1]; exact FillAt.of_own (ho2.alloc _) zs)
  have hs1 : W1.heap.size = w1.heap.size + 1 := by rw [hW1]; simp
  have hW1' := hW1.symm
  clear hW1 ho1 ho2 hb
  have HOB : Hid (Box1 W1 w.heap.size 75 (.func (.func 82) #[] #[.pointer (some pn)])) := hide ((HB1.out.block w.heap.size (by omega)).trans HO0.out)
  have HRB : Hid (BoxT W1 (w.heap.size + 1) (.slice none 0 0) (.slice none 0 0)) := hide (HR0.out.kept HB1.out)
  have HB1w : Hid (Below w.heap.size w W1) := hide (HB0.out.trans (HB1.out.mono (by omega)))
  have HB1x : Hid (Lies W1 B q (xs.map (Value.int .i32))) := hide (HB.out.below HB1w.out)
  have HNE : Hid (∀ b o, B = some ⟨b, o, none⟩ → b ≠ g2) := hide (by
    intro b o e
    obtain ⟨b', o', e', hb, _⟩ := HB.out.cells (by omega)
    rw [e] at e'
    cases e'
    omega)
  clear HO0 HR0
  go_wp2_with fail
  clear hW1' hW0'
  go_loopw [18] (fun i wr => ∃ k : Nat, k ≤ q ∧ i = .int .i64 k ∧ Hid (FillAt wr g2 q zs k) ∧ Hid (W1.grownBy wr (some g2))) (fun i _ => q - (intOf i).toNat)
  case atStart => exact ⟨0, Nat.zero_le _, rfl, HF1, hide (World.grownBy.refl W1 (some g2))⟩
  case round =>
    obtain ⟨k, hk, rfl, HF, HG⟩ := hrel
    have hszr := HG.out.size
    have HTr : Hid (BoxT wr w1.heap.size (.slice (some ⟨g1, 0, none⟩) n c1) (.slice (some ⟨g2, 0, none⟩) q q)) := hide ((HG.out.block w1.heap.size (by omega) (by simp; omega)).trans HT1.out)
    by_cases hlt : k < q
    · have h0 : (0 : Int) ≤ (k : Int) := by omega
      have h3 : (k : Int) < (q : Int) := by omega
      have HOr : Hid (Box1 wr w.heap.size 75 (.func (.func 82) #[] #[.pointer (some pn)])) := hide ((HG.out.block w.heap.size (by omega) (by simp; omega)).trans HOB.out)
      have HCN : Hid (∀ v, Below wr.heap.size wr v → v.cell? pn = some (.int .i64 (bits : Int))) := hide (fun v hv =>
        (World.cell?_of_block ((hv.block _ (by omega)).trans ((HG.out.block _ (by omega) (by simp; omega)).trans (HB1w.out.block _ hcb)))).trans HCC.out)
      obtain ⟨b, o, rfl, hbb, hx⟩ := byte_at (grown_lies HG.out HB1x.out HNE.out) (by omega)
      have hcx := hx k hlt
      obtain ⟨x, hx1⟩ : ∃ x, x = xs.getD k 0 := ⟨_, rfl⟩
      obtain ⟨z, hz1⟩ : ∃ z, z = shf bits x := ⟨_, rfl⟩
      rw [← hx1] at hcx
      have HX := hide hx1
      have HZ : Hid (z = zs.getD k 0) := hide (by rw [hz1, hx1, HZK.out k hlt])
      have HC : Hid (∀ v : World, Below wr.heap.size wr v → Calls Tryz.prog 82 #[.int .i32 x, .pointer (some pn)] v fun e w' => e = .returned (.int .i32 z) ∧ Below v.heap.size v w') := hide (fun v hv => by rw [hz1]; exact (shift1_any x bits pn v (HCN.out v hv) hbits (by rw [hx1]; exact HWX.out k hlt)).mono (by rintro e w2 ⟨rfl, rfl⟩; exact ⟨rfl, Below.refl _ _⟩))
      clear hx hx1 hz1
      have HK : Hid (∀ v, Below wr.heap.size wr v → v.cell? ⟨w1.heap.size, 1, none⟩ = some (.slice (some ⟨g2, 0, none⟩) q q) ∧ v.cell? ⟨w.heap.size, 0, none⟩ = some (.func (.func 82) #[] #[.pointer (some pn)])) := hide (fun v hv =>
        ⟨(HTr.out.kept hv).c1, Box1.cell ((hv.block _ HOr.out.lt).trans HOr.out)⟩)
      have HS : Hid (∀ v, Below wr.heap.size wr v → v.cell? ⟨g2, k, none⟩ = some (.int .i32 0) ∧ v.frozen? ⟨g2, k, none⟩ = false) := hide (fun v hv => by
        have h := HF.out.below hv
        have hc := h.cell hlt
        rw [if_neg (by omega)] at hc
        exact ⟨hc, h.frozen k⟩)
      have HKS : Hid (∀ v u, Below wr.heap.size wr v → (v.setCell ⟨g2, k, none⟩ u).cell? ⟨w1.heap.size, 1, none⟩ = some (.slice (some ⟨g2, 0, none⟩) q q) ∧ (v.setCell ⟨g2, k, none⟩ u).cell? ⟨w.heap.size, 0, none⟩ = some (.func (.func 82) #[] #[.pointer (some pn)])) := hide (fun v u hv => by
        obtain ⟨q0, q1⟩ := HK.out v hv
        exact ⟨(World.cell?_of_block (Below.heap_setCell v ⟨g2, k, none⟩ u w1.heap.size (by simp; omega))).trans q0, (World.cell?_of_block (Below.heap_setCell v ⟨g2, k, none⟩ u w.heap.size (by simp; omega))).trans q1⟩)
      have hbx0 : Below wr.heap.size wr wr := Below.refl _ wr
      have hbx1 : Below wr.heap.size wr (wr.drewN 1) := below_drewN (Below.refl _ wr) 1
      go_wp2
      go_region_held3 (fun v => v.cell? ⟨w1.heap.size, 1, none⟩ = some (.slice (some ⟨g2, 0, none⟩) q q) ∧ v.cell? ⟨w.heap.size, 0, none⟩ = some (.func (.func 82) #[] #[.pointer (some pn)]))
        (first | (exact HKS.out _ _ hbr2) | (exact HK.out _ hbr2) | (exact HK.out _ hbx1) | (exact HK.out _ hbx0) | go_keep)
        (first | (go_at_call 82; refine Calls.mono (HC.out _ hbx1) ?_; rintro e w2 ⟨rfl, hb2⟩; have hbr2 : Below wr.heap.size wr w2 := hbx1.trans hb2; obtain ⟨hs, hf⟩ := HS.out _ hbr2))
      have HNG : Hid (W1.grownBy (w2.setCell ⟨g2, k, none⟩ (.int .i32 z)) (some g2)) := hide (grown_trans (grown_trans HG.out (grown_below (hbr2) (some g2))) (grown_cell6 w2 ⟨g2, k, none⟩ _))
      have HNF : Hid (FillAt (w2.setCell ⟨g2, k, none⟩ (.int .i32 z)) g2 q zs (k + 1)) := hide (by
        have h := (HF.out.below (hbr2)).set
        rwa [← HZ.out] at h)
      go_wp2
      go_roundw
      case rel => exact ⟨k + 1, by omega, by go_num, HNF, HNG⟩
      case measure => simp [intOf]; omega
    · obtain rfl : k = q := by omega
      have t0 := HTr.out.c0
      have t1 := HTr.out.c1
      have HRr : Hid (BoxT wr (w.heap.size + 1) (.slice none 0 0) (.slice none 0 0)) := hide ((HG.out.block (w.heap.size + 1) (by omega) (by simp; omega)).trans HRB.out)
      have r0 := HRr.out.c0
      have r1 := HRr.out.c1
      have rf0 := HRr.out.f0 0
      have rf1 := HRr.out.f0 1
      go_wp2
      (try simp only [Exit.inBlock, Exit.then])
      refine ret_ten1 (p := 6) rfl rfl (w.heap.size + 1) _ rfl (HRr.out.set2 _ _) rfl ?_
      refine ⟨g1, c1, g2, rfl, ?_, ?_, hne, ?_⟩
      · refine own_base (own_setCell' (own_setCell' (HO1.out.kept (row := some g2) HG.out (.inr (by simp [Value.ownBlock]; omega))) (by simp; omega) _) (by simp; omega) _) (by omega)
      · refine own_setCell' (own_setCell' (HF.out.own HZL.out (by omega) (by unfold maxLen; omega)) (by simp; omega) _) (by simp; omega) _
      · exact ((HB1w.out.trans (below_grown HG.out (by omega) (by omega))).setCell (by simp) _).setCell (by simp) _

end

section
open Go.RowKit
set_option linter.unusedVariables false
set_option linter.unusedSimpArgs false
set_option maxRecDepth 20000

/-- Why two tensors can't be put together. -/
def twoE (s : List Int) (m : Nat) (s' : List Int) (m' : Nat) : Int := if tenOk s m = true ∧ tenOk s' m' = true then (if s = s' then 0 else 10) else 1
theorem twoE_ok {s s' : List Int} {m m' : Nat} (h1 : tenOk s m = true) (h2 : tenOk s' m' = true) (h3 : s = s') : twoE s m s' m' = 0 := by rw [twoE, if_pos ⟨h1, h2⟩, if_pos h3]
theorem twoE_shape {s s' : List Int} {m m' : Nat} (h1 : tenOk s m = true) (h2 : tenOk s' m' = true) (h3 : ¬ s = s') : twoE s m s' m' = 10 := by rw [twoE, if_pos ⟨h1, h2⟩, if_neg h3]
theorem twoE_arg {s s' : List Int} {m m' : Nat} (h : ¬ (tenOk s m = true ∧ tenOk s' m' = true)) : twoE s m s' m' = 1 := by rw [twoE, if_neg h]
/-- What two tensors' shape is put together. -/
def twoS (s : List Int) (m : Nat) (s' : List Int) (m' : Nat) : List Int := if twoE s m s' m' = 0 then s else []
def twoL (f : Int → Int → Int) (s : List Int) (m : Nat) (s' : List Int) (m' : Nat) (l l' : List Int) : List Int := if twoE s m s' m' = 0 then List.zipWith f l l' else []
theorem twoE_iff {s s' : List Int} {m m' : Nat} : twoE s m s' m' = 0 ↔ tenOk s m = true ∧ tenOk s' m' = true ∧ s = s' := by
  unfold twoE
  by_cases h : tenOk s m = true ∧ tenOk s' m' = true
  · rw [if_pos h]
    by_cases h3 : s = s'
    · rw [if_pos h3]; exact ⟨fun _ => ⟨h.1, h.2, h3⟩, fun _ => rfl⟩
    · rw [if_neg h3]; exact ⟨fun e => absurd e (by decide), fun e => absurd e.2.2 h3⟩
  · rw [if_neg h]; exact ⟨fun e => absurd e (by decide), fun e => absurd ⟨e.1, e.2.1⟩ h⟩

set_option maxHeartbeats 1000000 in
theorem ofTwo_add_bad (A B A' B' : Option Addr) (n c m d n' c' m' d' : Nat) (s l s' l' : List Int) (w : World) (hA : Lies w A n (s.map (Value.int .i64))) (hB : Lies w B m (l.map (Value.int .i32))) (hA' : Lies w A' n' (s'.map (Value.int .i64))) (hB' : Lies w B' m' (l'.map (Value.int .i32))) (hn : n ≤ 281474976710656) (hn' : n' ≤ 281474976710656) (hbad : ¬ (tenOk s m = true ∧ tenOk s' m' = true ∧ s = s')) :
    Calls Tryz.prog 24 #[tenV A n c B m d, tenV A' n' c' B' m' d', .agg #[.func (.func 25) #[] #[]]] w fun e w' => e = .returned (.tuple #[tenV none 0 0 none 0 0, .int .i64 (twoE s m s' m')]) ∧ Below w.heap.size w w' := by
  obtain ⟨W0, hW0⟩ : ∃ W0, W0 = (((w.alloc (.cells #[.slice A n c, .slice B m d] 25)).alloc (.cells #[.slice A' n' c', .slice B' m' d'] 25)).alloc (.cells #[.func (.func 25) #[] #[]] 64)).alloc (.cells #[.slice none 0 0, .slice none 0 0] 25) := ⟨_, rfl⟩
  have HB0 : Hid (Below w.heap.size w W0) := hide (by rw [hW0]; exact ((((Below.refl w.heap.size w).alloc (Nat.le_refl _) _).alloc (by simp only [World.size_alloc]; omega) _).alloc (by simp only [World.size_alloc]; omega) _).alloc (by simp only [World.size_alloc]; omega) _)
  have hs0 : W0.heap.size = w.heap.size + 4 := by rw [hW0]; simp
  have HX0 : Hid (BoxT W0 w.heap.size (.slice A n c) (.slice B m d)) := hide (by rw [hW0]; exact (((BoxT.new w _ _).alloc _).alloc _).alloc _)
  have HX1 : Hid (BoxT W0 (w.heap.size + 1) (.slice A' n' c') (.slice B' m' d')) := hide (by
    rw [hW0]
    have h := ((BoxT.new (w.alloc (.cells #[.slice A n c, .slice B m d] 25)) (.slice A' n' c') (.slice B' m' d')).alloc (.cells #[.func (.func 25) #[] #[]] 64)).alloc (.cells #[.slice none 0 0, .slice none 0 0] 25)
    rwa [World.size_alloc] at h)
  have HXO : Hid (Box1 W0 (w.heap.size + 2) 64 (.func (.func 25) #[] #[])) := hide (by
    rw [hW0]
    have h := Box1.new ((w.alloc (.cells #[.slice A n c, .slice B m d] 25)).alloc (.cells #[.slice A' n' c', .slice B' m' d'] 25)) (.func (.func 25) #[] #[]) 64
    rw [World.size_alloc, World.size_alloc] at h
    exact (Below.heap_alloc _ _ _ (by simp only [World.size_alloc]; omega)).trans h)
  have HXR : Hid (BoxT W0 (w.heap.size + 3) (.slice none 0 0) (.slice none 0 0)) := hide (by
    rw [hW0]
    have h := BoxT.new (((w.alloc (.cells #[.slice A n c, .slice B m d] 25)).alloc (.cells #[.slice A' n' c', .slice B' m' d'] 25)).alloc (.cells #[.func (.func 25) #[] #[]] 64)) (.slice none 0 0) (.slice none 0 0)
    rwa [World.size_alloc, World.size_alloc, World.size_alloc] at h)
  have hW0' := hW0.symm
  clear hW0
  have HA := hide (hA.below HB0.out)
  have HB := hide (hB.below HB0.out)
  have HA' := hide (hA'.below HB0.out)
  have HB' := hide (hB'.below HB0.out)
  clear hA hB hA' hB'
  go_enter Tryz.func24, Tryz.ntmps24
  have a0 := (HX0.out.kept (Below.refl _ W0)).c0
  have a1 := (HX0.out.kept (Below.refl _ W0)).c1
  have b0 := (HX1.out.kept (Below.refl _ W0)).c0
  have b1 := (HX1.out.kept (Below.refl _ W0)).c1
  go_wp2_with fail
  refine Calls.mono (tcheck_any A B n c m d s _ HA.out hn) ?_
  rintro e w1 ⟨rfl, hb1⟩
  clear a0 a1 b0 b1
  have a0 := (HX0.out.kept hb1).c0
  have a1 := (HX0.out.kept hb1).c1
  have b0 := (HX1.out.kept hb1).c0
  have b1 := (HX1.out.kept hb1).c1
  have r0 := (HXR.out.kept hb1).c0
  have r1 := (HXR.out.kept hb1).c1
  have rf0 := (HXR.out.kept hb1).f0 0
  have rf1 := (HXR.out.kept hb1).f0 1
  by_cases h1 : tenOk s m = true
  · rw [h1]
    go_wp2_with fail
    refine Calls.mono (tcheck_any A' B' n' c' m' d' s' _ (HA'.out.below hb1) hn') ?_
    rintro e w2 ⟨rfl, hb20⟩
    have hb2 : Below W0.heap.size W0 w2 := hb1.trans (hb20.mono hb1.size)
    clear a0 a1 b0 b1 r0 r1 rf0 rf1 hb20
    have a0 := (HX0.out.kept hb2).c0
    have a1 := (HX0.out.kept hb2).c1
    have b0 := (HX1.out.kept hb2).c0
    have b1 := (HX1.out.kept hb2).c1
    have r0 := (HXR.out.kept hb2).c0
    have r1 := (HXR.out.kept hb2).c1
    have rf0 := (HXR.out.kept hb2).f0 0
    have rf1 := (HXR.out.kept hb2).f0 1
    by_cases h2 : tenOk s' m' = true
    · rw [h2]
      have h3 : ¬ s = s' := fun e => hbad ⟨h1, h2, e⟩
      have HE := hide (twoE_shape h1 h2 h3)
      go_wp2_with fail
      refine Calls.mono (equal_ints A A' n c n' c' s s' _ (HA.out.below hb2) (HA'.out.below hb2) hn) ?_
      rw [decide_eq_false h3]
      rintro e w3 ⟨rfl, j, hj⟩
      have hb3 : Below W0.heap.size W0 w3 := by rw [hj]; exact below_drewN hb2 j
      clear a0 a1 b0 b1 r0 r1 rf0 rf1 hj
      have a0 := (HX0.out.kept hb3).c0
      have a1 := (HX0.out.kept hb3).c1
      have b0 := (HX1.out.kept hb3).c0
      have b1 := (HX1.out.kept hb3).c1
      have r0 := (HXR.out.kept hb3).c0
      have r1 := (HXR.out.kept hb3).c1
      have rf0 := (HXR.out.kept hb3).f0 0
      have rf1 := (HXR.out.kept hb3).f0 1
      go_wp2
      (try simp only [Exit.inBlock, Exit.then])
      refine ret_ten (p := 6) (u := 7) rfl rfl (w.heap.size + 3) _ rfl ((HXR.out.kept hb3).set2 _ _) rfl ?_
      exact ⟨by rw [HE.out]; rfl, ((HB0.out.trans (hb3.mono (by omega))).setCell (by dsimp only; omega) _).setCell (by dsimp only; omega) _⟩
    · rw [show tenOk s' m' = false by simpa using h2]
      have HE := hide (twoE_arg (s := s) (m := m) (s' := s') (m' := m') (fun e => h2 e.2))
      go_wp2
      (try simp only [Exit.inBlock, Exit.then])
      refine ret_ten (p := 6) (u := 7) rfl rfl (w.heap.size + 3) _ rfl ((HXR.out.kept hb2).set2 _ _) rfl ?_
      exact ⟨by rw [HE.out]; rfl, ((HB0.out.trans (hb2.mono (by omega))).setCell (by dsimp only; omega) _).setCell (by dsimp only; omega) _⟩
  · rw [show tenOk s m = false by simpa using h1]
    have HE := hide (twoE_arg (s := s) (m := m) (s' := s') (m' := m') (fun e => h1 e.1))
    go_wp2
    (try simp only [Exit.inBlock, Exit.then])
    refine ret_ten (p := 6) (u := 7) rfl rfl (w.heap.size + 3) _ rfl ((HXR.out.kept hb1).set2 _ _) rfl ?_
    exact ⟨by rw [HE.out]; rfl, ((HB0.out.trans (hb1.mono (by omega))).setCell (by dsimp only; omega) _).setCell (by dsimp only; omega) _⟩

set_option maxHeartbeats 1000000 in
theorem ofTwo_add_ok (A B A' B' : Option Addr) (n c m d c' d' : Nat) (s l l' : List Int) (w : World) (hA : Lies w A n (s.map (Value.int .i64))) (hB : Lies w B m (l.map (Value.int .i32))) (hA' : Lies w A' n (s.map (Value.int .i64))) (hB' : Lies w B' m (l'.map (Value.int .i32)))  (hok : tenOk s m = true) :
    Calls Tryz.prog 24 #[tenV A n c B m d, tenV A' n c' B' m d', .agg #[.func (.func 25) #[] #[]]] w fun e w' => ∃ g1 c1 g2, e = .returned (.tuple #[tenV (some ⟨g1, 0, none⟩) n c1 (some ⟨g2, 0, none⟩) m m, .int .i64 0]) ∧
      w'.ownsRow w.heap.size 3 1 (.slice (some ⟨g1, 0, none⟩) n c1) n (s.map (Value.int .i64)) ∧ w'.ownsRow w.heap.size 21 1 (.slice (some ⟨g2, 0, none⟩) m m) m ((List.zipWith add32 l l').map (Value.int .i32)) ∧ g1 ≠ g2 ∧ Below w.heap.size w w' := by
  have HL : Hid (l.length = m) := hide (by have := hB.len; simpa using this)
  have HL' : Hid (l'.length = m) := hide (by have := hB'.len; simpa using this)
  have hlen : s.length = n := by have := hA.len; simpa using this
  obtain ⟨q1, q2⟩ := tenOk_iff.1 hok
  obtain ⟨hn1, hn4, _⟩ := sizeI_pos q1
  rw [hlen] at hn1 hn4
  have hm4 : m ≤ 4096 := by have := sizeI_le s; omega
  have hmp : 0 < m := by omega
  have HQ := hide q2
  clear q1 q2 hlen
  obtain ⟨W0, hW0⟩ : ∃ W0, W0 = (((w.alloc (.cells #[.slice A n c, .slice B m d] 25)).alloc (.cells #[.slice A' n c', .slice B' m d'] 25)).alloc (.cells #[.func (.func 25) #[] #[]] 64)).alloc (.cells #[.slice none 0 0, .slice none 0 0] 25) := ⟨_, rfl⟩
  have HB0 : Hid (Below w.heap.size w W0) := hide (by rw [hW0]; exact ((((Below.refl w.heap.size w).alloc (Nat.le_refl _) _).alloc (by simp only [World.size_alloc]; omega) _).alloc (by simp only [World.size_alloc]; omega) _).alloc (by simp only [World.size_alloc]; omega) _)
  have hs0 : W0.heap.size = w.heap.size + 4 := by rw [hW0]; simp
  have HX0 : Hid (BoxT W0 w.heap.size (.slice A n c) (.slice B m d)) := hide (by rw [hW0]; exact (((BoxT.new w _ _).alloc _).alloc _).alloc _)
  have HX1 : Hid (BoxT W0 (w.heap.size + 1) (.slice A' n c') (.slice B' m d')) := hide (by
    rw [hW0]
    have h := ((BoxT.new (w.alloc (.cells #[.slice A n c, .slice B m d] 25)) (.slice A' n c') (.slice B' m d')).alloc (.cells #[.func (.func 25) #[] #[]] 64)).alloc (.cells #[.slice none 0 0, .slice none 0 0] 25)
    rwa [World.size_alloc] at h)
  have HXO : Hid (Box1 W0 (w.heap.size + 2) 64 (.func (.func 25) #[] #[])) := hide (by
    rw [hW0]
    have h := Box1.new ((w.alloc (.cells #[.slice A n c, .slice B m d] 25)).alloc (.cells #[.slice A' n c', .slice B' m d'] 25)) (.func (.func 25) #[] #[]) 64
    rw [World.size_alloc, World.size_alloc] at h
    exact (Below.heap_alloc _ _ _ (by simp only [World.size_alloc]; omega)).trans h)
  have HXR : Hid (BoxT W0 (w.heap.size + 3) (.slice none 0 0) (.slice none 0 0)) := hide (by
    rw [hW0]
    have h := BoxT.new (((w.alloc (.cells #[.slice A n c, .slice B m d] 25)).alloc (.cells #[.slice A' n c', .slice B' m d'] 25)).alloc (.cells #[.func (.func 25) #[] #[]] 64)) (.slice none 0 0) (.slice none 0 0)
    rwa [World.size_alloc, World.size_alloc, World.size_alloc] at h)
  have hW0' := hW0.symm
  clear hW0
  have HA := hide (hA.below HB0.out)
  have HB := hide (hB.below HB0.out)
  have HA' := hide (hA'.below HB0.out)
  have HB' := hide (hB'.below HB0.out)
  clear hA hB hA' hB'
  have HOK := hide hok
  clear hok
  go_enter Tryz.func24, Tryz.ntmps24
  have a0 := (HX0.out.kept (Below.refl _ W0)).c0
  have a1 := (HX0.out.kept (Below.refl _ W0)).c1
  have b0 := (HX1.out.kept (Below.refl _ W0)).c0
  have b1 := (HX1.out.kept (Below.refl _ W0)).c1
  go_wp2_with fail
  refine Calls.mono (tcheck_any A B n c m d s _ HA.out (by omega)) ?_
  rintro e w1 ⟨rfl, hb1⟩
  rw [HOK.out]
  clear a0 a1 b0 b1
  have a0 := (HX0.out.kept hb1).c0
  have a1 := (HX0.out.kept hb1).c1
  have b0 := (HX1.out.kept hb1).c0
  have b1 := (HX1.out.kept hb1).c1
  go_wp2_with fail
  refine Calls.mono (tcheck_any A' B' n c' m d' s _ (HA'.out.below hb1) (by omega)) ?_
  rintro e w2 ⟨rfl, hb20⟩
  rw [HOK.out]
  have hb2 : Below W0.heap.size W0 w2 := hb1.trans (hb20.mono hb1.size)
  clear a0 a1 b0 b1 hb20
  have a0 := (HX0.out.kept hb2).c0
  have a1 := (HX0.out.kept hb2).c1
  have b0 := (HX1.out.kept hb2).c0
  have b1 := (HX1.out.kept hb2).c1
  go_wp2_with fail
  refine Calls.mono (equal_ints A A' n c n c' s s _ (HA.out.below hb2) (HA'.out.below hb2) (by omega)) ?_
  rw [show decide (s = s) = true by simp]
  rintro e w3 ⟨rfl, j, hj⟩
  have hb3 : Below W0.heap.size W0 w3 := by rw [hj]; exact below_drewN hb2 j
  clear a0 a1 b0 b1 hj hb1 hb2
  have hb4 : Below W0.heap.size W0 (w3.drewN 1) := below_drewN hb3 1
  have HK : Hid (∀ v, Below W0.heap.size W0 v → v.cell? ⟨w.heap.size, 0, none⟩ = some (.slice A n c) ∧ v.cell? ⟨w.heap.size, 1, none⟩ = some (.slice B m d) ∧ v.cell? ⟨w.heap.size + 1, 1, none⟩ = some (.slice B' m d') ∧ v.cell? ⟨w.heap.size + 2, 0, none⟩ = some (.func (.func 25) #[] #[])) := hide (fun v hv =>
    ⟨(HX0.out.kept hv).c0, (HX0.out.kept hv).c1, (HX1.out.kept hv).c1, Box1.cell ((hv.block _ HXO.out.lt).trans HXO.out)⟩)
  have HR : Hid (∀ v, Below W0.heap.size W0 v → v.cell? ⟨w.heap.size + 3, 0, none⟩ = some (.slice none 0 0) ∧ v.cell? ⟨w.heap.size + 3, 1, none⟩ = some (.slice none 0 0) ∧ v.frozen? ⟨w.heap.size + 3, 0, none⟩ = false ∧ v.frozen? ⟨w.heap.size + 3, 1, none⟩ = false) := hide (fun v hv =>
    ⟨(HXR.out.kept hv).c0, (HXR.out.kept hv).c1, (HXR.out.kept hv).f0 0, (HXR.out.kept hv).f0 1⟩)
  have HKS : Hid (∀ v x y, Below W0.heap.size W0 v → ((v.setCell ⟨w.heap.size + 3, 0, none⟩ x).setCell ⟨w.heap.size + 3, 1, none⟩ y).cell? ⟨w.heap.size, 0, none⟩ = some (.slice A n c) ∧ ((v.setCell ⟨w.heap.size + 3, 0, none⟩ x).setCell ⟨w.heap.size + 3, 1, none⟩ y).cell? ⟨w.heap.size, 1, none⟩ = some (.slice B m d) ∧ ((v.setCell ⟨w.heap.size + 3, 0, none⟩ x).setCell ⟨w.heap.size + 3, 1, none⟩ y).cell? ⟨w.heap.size + 1, 1, none⟩ = some (.slice B' m d') ∧ ((v.setCell ⟨w.heap.size + 3, 0, none⟩ x).setCell ⟨w.heap.size + 3, 1, none⟩ y).cell? ⟨w.heap.size + 2, 0, none⟩ = some (.func (.func 25) #[] #[])) := hide (fun v x y hv => by
    have hne : ∀ k, k ≠ w.heap.size + 3 → ((v.setCell ⟨w.heap.size + 3, 0, none⟩ x).setCell ⟨w.heap.size + 3, 1, none⟩ y).heap[k]? = v.heap[k]? := fun k hk => (Below.heap_setCell _ _ _ k hk).trans (Below.heap_setCell _ _ _ k hk)
    obtain ⟨k0, k1, k2, k3⟩ := HK.out v hv
    exact ⟨(World.cell?_of_block (hne _ (by simp))).trans k0, (World.cell?_of_block (hne _ (by simp))).trans k1, (World.cell?_of_block (hne _ (by simp))).trans k2, (World.cell?_of_block (hne _ (by simp))).trans k3⟩)
  obtain ⟨a0, a1, b1, o0⟩ := HK.out _ hb3
  go_wp2
  go_region_held3 (fun v => v.cell? ⟨w.heap.size, 0, none⟩ = some (.slice A n c) ∧ v.cell? ⟨w.heap.size, 1, none⟩ = some (.slice B m d) ∧ v.cell? ⟨w.heap.size + 1, 1, none⟩ = some (.slice B' m d') ∧ v.cell? ⟨w.heap.size + 2, 0, none⟩ = some (.func (.func 25) #[] #[]))
    (first | (exact HKS.out _ _ _ hb6) | (exact HK.out _ hb6) | (exact HK.out _ hb5) | (exact HK.out _ hb4) | (exact HK.out _ hb3) | go_keep)
    (first
      | (go_at_call 89; refine Calls.mono (pairs_any B B' m d d' l l' _ (HB.out.below hb4) (HB'.out.below hb4) (by omega)) ?_; rintro e w5 ⟨gp, rfl, hP, hgp, hb50⟩; have hb5 : Below W0.heap.size W0 w5 := hb4.trans (hb50.mono hb4.size))
      | (go_at_call 88; refine Calls.mono (apply_add A n c m s gp l l' _ (HA.out.below hb5) hP HL.out HL'.out HQ.out hmp) ?_; rintro e w6 ⟨g1, c1, g2, rfl, ho1, ho2, hne, hb60⟩; have hb6 : Below W0.heap.size W0 w6 := hb5.trans (hb60.mono hb5.size); obtain ⟨r0, r1, rf0, rf1⟩ := HR.out _ hb6))
  have lt1 := ho1.lt g1 rfl
  have lt2 := ho2.lt g2 rfl
  have hs5 := hb5.size
  have HBB := hide (HB0.out.trans (hb6.mono (by omega)))
  have HO1 := hide ho1
  have HO2 := hide ho2
  have HXF := hide (HXR.out.kept hb6)
  clear ho1 ho2 hP hb50 hb60
  go_wp2
  (try simp only [Exit.inBlock, Exit.then])
  refine ret_ten (p := 6) (u := 7) rfl rfl (w.heap.size + 3) _ rfl (HXF.out.set2 _ _) rfl ?_
  refine ⟨g1, c1, g2, rfl, ?_, ?_, hne, ?_⟩
  · exact own_base (own_setCell' (own_setCell' HO1.out (by dsimp only; omega) _) (by dsimp only; omega) _) (by omega)
  · exact own_base (own_setCell' (own_setCell' HO2.out (by dsimp only; omega) _) (by dsimp only; omega) _) (by omega)
  · exact (HBB.out.setCell (by dsimp only; omega) _).setCell (by dsimp only; omega) _

set_option maxHeartbeats 1000000 in
theorem ofTwo_mul_bad (A B A' B' : Option Addr) (n c m d n' c' m' d' : Nat) (s l s' l' : List Int) (w : World) (hA : Lies w A n (s.map (Value.int .i64))) (hB : Lies w B m (l.map (Value.int .i32))) (hA' : Lies w A' n' (s'.map (Value.int .i64))) (hB' : Lies w B' m' (l'.map (Value.int .i32))) (hn : n ≤ 281474976710656) (hn' : n' ≤ 281474976710656) (hbad : ¬ (tenOk s m = true ∧ tenOk s' m' = true ∧ s = s')) :
    Calls Tryz.prog 24 #[tenV A n c B m d, tenV A' n' c' B' m' d', .agg #[.func (.func 26) #[] #[]]] w fun e w' => e = .returned (.tuple #[tenV none 0 0 none 0 0, .int .i64 (twoE s m s' m')]) ∧ Below w.heap.size w w' := by
  obtain ⟨W0, hW0⟩ : ∃ W0, W0 = (((w.alloc (.cells #[.slice A n c, .slice B m d] 25)).alloc (.cells #[.slice A' n' c', .slice B' m' d'] 25)).alloc (.cells #[.func (.func 26) #[] #[]] 64)).alloc (.cells #[.slice none 0 0, .slice none 0 0] 25) := ⟨_, rfl⟩
  have HB0 : Hid (Below w.heap.size w W0) := hide (by rw [hW0]; exact ((((Below.refl w.heap.size w).alloc (Nat.le_refl _) _).alloc (by simp only [World.size_alloc]; omega) _).alloc (by simp only [World.size_alloc]; omega) _).alloc (by simp only [World.size_alloc]; omega) _)
  have hs0 : W0.heap.size = w.heap.size + 4 := by rw [hW0]; simp
  have HX0 : Hid (BoxT W0 w.heap.size (.slice A n c) (.slice B m d)) := hide (by rw [hW0]; exact (((BoxT.new w _ _).alloc _).alloc _).alloc _)
  have HX1 : Hid (BoxT W0 (w.heap.size + 1) (.slice A' n' c') (.slice B' m' d')) := hide (by
    rw [hW0]
    have h := ((BoxT.new (w.alloc (.cells #[.slice A n c, .slice B m d] 25)) (.slice A' n' c') (.slice B' m' d')).alloc (.cells #[.func (.func 26) #[] #[]] 64)).alloc (.cells #[.slice none 0 0, .slice none 0 0] 25)
    rwa [World.size_alloc] at h)
  have HXO : Hid (Box1 W0 (w.heap.size + 2) 64 (.func (.func 26) #[] #[])) := hide (by
    rw [hW0]
    have h := Box1.new ((w.alloc (.cells #[.slice A n c, .slice B m d] 25)).alloc (.cells #[.slice A' n' c', .slice B' m' d'] 25)) (.func (.func 26) #[] #[]) 64
    rw [World.size_alloc, World.size_alloc] at h
    exact (Below.heap_alloc _ _ _ (by simp only [World.size_alloc]; omega)).trans h)
  have HXR : Hid (BoxT W0 (w.heap.size + 3) (.slice none 0 0) (.slice none 0 0)) := hide (by
    rw [hW0]
    have h := BoxT.new (((w.alloc (.cells #[.slice A n c, .slice B m d] 25)).alloc (.cells #[.slice A' n' c', .slice B' m' d'] 25)).alloc (.cells #[.func (.func 26) #[] #[]] 64)) (.slice none 0 0) (.slice none 0 0)
    rwa [World.size_alloc, World.size_alloc, World.size_alloc] at h)
  have hW0' := hW0.symm
  clear hW0
  have HA := hide (hA.below HB0.out)
  have HB := hide (hB.below HB0.out)
  have HA' := hide (hA'.below HB0.out)
  have HB' := hide (hB'.below HB0.out)
  clear hA hB hA' hB'
  go_enter Tryz.func24, Tryz.ntmps24
  have a0 := (HX0.out.kept (Below.refl _ W0)).c0
  have a1 := (HX0.out.kept (Below.refl _ W0)).c1
  have b0 := (HX1.out.kept (Below.refl _ W0)).c0
  have b1 := (HX1.out.kept (Below.refl _ W0)).c1
  go_wp2_with fail
  refine Calls.mono (tcheck_any A B n c m d s _ HA.out hn) ?_
  rintro e w1 ⟨rfl, hb1⟩
  clear a0 a1 b0 b1
  have a0 := (HX0.out.kept hb1).c0
  have a1 := (HX0.out.kept hb1).c1
  have b0 := (HX1.out.kept hb1).c0
  have b1 := (HX1.out.kept hb1).c1
  have r0 := (HXR.out.kept hb1).c0
  have r1 := (HXR.out.kept hb1).c1
  have rf0 := (HXR.out.kept hb1).f0 0
  have rf1 := (HXR.out.kept hb1).f0 1
  by_cases h1 : tenOk s m = true
  · rw [h1]
    go_wp2_with fail
    refine Calls.mono (tcheck_any A' B' n' c' m' d' s' _ (HA'.out.below hb1) hn') ?_
    rintro e w2 ⟨rfl, hb20⟩
    have hb2 : Below W0.heap.size W0 w2 := hb1.trans (hb20.mono hb1.size)
    clear a0 a1 b0 b1 r0 r1 rf0 rf1 hb20
    have a0 := (HX0.out.kept hb2).c0
    have a1 := (HX0.out.kept hb2).c1
    have b0 := (HX1.out.kept hb2).c0
    have b1 := (HX1.out.kept hb2).c1
    have r0 := (HXR.out.kept hb2).c0
    have r1 := (HXR.out.kept hb2).c1
    have rf0 := (HXR.out.kept hb2).f0 0
    have rf1 := (HXR.out.kept hb2).f0 1
    by_cases h2 : tenOk s' m' = true
    · rw [h2]
      have h3 : ¬ s = s' := fun e => hbad ⟨h1, h2, e⟩
      have HE := hide (twoE_shape h1 h2 h3)
      go_wp2_with fail
      refine Calls.mono (equal_ints A A' n c n' c' s s' _ (HA.out.below hb2) (HA'.out.below hb2) hn) ?_
      rw [decide_eq_false h3]
      rintro e w3 ⟨rfl, j, hj⟩
      have hb3 : Below W0.heap.size W0 w3 := by rw [hj]; exact below_drewN hb2 j
      clear a0 a1 b0 b1 r0 r1 rf0 rf1 hj
      have a0 := (HX0.out.kept hb3).c0
      have a1 := (HX0.out.kept hb3).c1
      have b0 := (HX1.out.kept hb3).c0
      have b1 := (HX1.out.kept hb3).c1
      have r0 := (HXR.out.kept hb3).c0
      have r1 := (HXR.out.kept hb3).c1
      have rf0 := (HXR.out.kept hb3).f0 0
      have rf1 := (HXR.out.kept hb3).f0 1
      go_wp2
      (try simp only [Exit.inBlock, Exit.then])
      refine ret_ten (p := 6) (u := 7) rfl rfl (w.heap.size + 3) _ rfl ((HXR.out.kept hb3).set2 _ _) rfl ?_
      exact ⟨by rw [HE.out]; rfl, ((HB0.out.trans (hb3.mono (by omega))).setCell (by dsimp only; omega) _).setCell (by dsimp only; omega) _⟩
    · rw [show tenOk s' m' = false by simpa using h2]
      have HE := hide (twoE_arg (s := s) (m := m) (s' := s') (m' := m') (fun e => h2 e.2))
      go_wp2
      (try simp only [Exit.inBlock, Exit.then])
      refine ret_ten (p := 6) (u := 7) rfl rfl (w.heap.size + 3) _ rfl ((HXR.out.kept hb2).set2 _ _) rfl ?_
      exact ⟨by rw [HE.out]; rfl, ((HB0.out.trans (hb2.mono (by omega))).setCell (by dsimp only; omega) _).setCell (by dsimp only; omega) _⟩
  · rw [show tenOk s m = false by simpa using h1]
    have HE := hide (twoE_arg (s := s) (m := m) (s' := s') (m' := m') (fun e => h1 e.1))
    go_wp2
    (try simp only [Exit.inBlock, Exit.then])
    refine ret_ten (p := 6) (u := 7) rfl rfl (w.heap.size + 3) _ rfl ((HXR.out.kept hb1).set2 _ _) rfl ?_
    exact ⟨by rw [HE.out]; rfl, ((HB0.out.trans (hb1.mono (by omega))).setCell (by dsimp only; omega) _).setCell (by dsimp only; omega) _⟩

set_option maxHeartbeats 1000000 in
theorem ofTwo_mul_ok (A B A' B' : Option Addr) (n c m d c' d' : Nat) (s l l' : List Int) (w : World) (hA : Lies w A n (s.map (Value.int .i64))) (hB : Lies w B m (l.map (Value.int .i32))) (hA' : Lies w A' n (s.map (Value.int .i64))) (hB' : Lies w B' m (l'.map (Value.int .i32)))  (hok : tenOk s m = true) :
    Calls Tryz.prog 24 #[tenV A n c B m d, tenV A' n c' B' m d', .agg #[.func (.func 26) #[] #[]]] w fun e w' => ∃ g1 c1 g2, e = .returned (.tuple #[tenV (some ⟨g1, 0, none⟩) n c1 (some ⟨g2, 0, none⟩) m m, .int .i64 0]) ∧
      w'.ownsRow w.heap.size 3 1 (.slice (some ⟨g1, 0, none⟩) n c1) n (s.map (Value.int .i64)) ∧ w'.ownsRow w.heap.size 21 1 (.slice (some ⟨g2, 0, none⟩) m m) m ((List.zipWith mul32 l l').map (Value.int .i32)) ∧ g1 ≠ g2 ∧ Below w.heap.size w w' := by
  have HL : Hid (l.length = m) := hide (by have := hB.len; simpa using this)
  have HL' : Hid (l'.length = m) := hide (by have := hB'.len; simpa using this)
  have hlen : s.length = n := by have := hA.len; simpa using this
  obtain ⟨q1, q2⟩ := tenOk_iff.1 hok
  obtain ⟨hn1, hn4, _⟩ := sizeI_pos q1
  rw [hlen] at hn1 hn4
  have hm4 : m ≤ 4096 := by have := sizeI_le s; omega
  have hmp : 0 < m := by omega
  have HQ := hide q2
  clear q1 q2 hlen
  obtain ⟨W0, hW0⟩ : ∃ W0, W0 = (((w.alloc (.cells #[.slice A n c, .slice B m d] 25)).alloc (.cells #[.slice A' n c', .slice B' m d'] 25)).alloc (.cells #[.func (.func 26) #[] #[]] 64)).alloc (.cells #[.slice none 0 0, .slice none 0 0] 25) := ⟨_, rfl⟩
  have HB0 : Hid (Below w.heap.size w W0) := hide (by rw [hW0]; exact ((((Below.refl w.heap.size w).alloc (Nat.le_refl _) _).alloc (by simp only [World.size_alloc]; omega) _).alloc (by simp only [World.size_alloc]; omega) _).alloc (by simp only [World.size_alloc]; omega) _)
  have hs0 : W0.heap.size = w.heap.size + 4 := by rw [hW0]; simp
  have HX0 : Hid (BoxT W0 w.heap.size (.slice A n c) (.slice B m d)) := hide (by rw [hW0]; exact (((BoxT.new w _ _).alloc _).alloc _).alloc _)
  have HX1 : Hid (BoxT W0 (w.heap.size + 1) (.slice A' n c') (.slice B' m d')) := hide (by
    rw [hW0]
    have h := ((BoxT.new (w.alloc (.cells #[.slice A n c, .slice B m d] 25)) (.slice A' n c') (.slice B' m d')).alloc (.cells #[.func (.func 26) #[] #[]] 64)).alloc (.cells #[.slice none 0 0, .slice none 0 0] 25)
    rwa [World.size_alloc] at h)
  have HXO : Hid (Box1 W0 (w.heap.size + 2) 64 (.func (.func 26) #[] #[])) := hide (by
    rw [hW0]
    have h := Box1.new ((w.alloc (.cells #[.slice A n c, .slice B m d] 25)).alloc (.cells #[.slice A' n c', .slice B' m d'] 25)) (.func (.func 26) #[] #[]) 64
    rw [World.size_alloc, World.size_alloc] at h
    exact (Below.heap_alloc _ _ _ (by simp only [World.size_alloc]; omega)).trans h)
  have HXR : Hid (BoxT W0 (w.heap.size + 3) (.slice none 0 0) (.slice none 0 0)) := hide (by
    rw [hW0]
    have h := BoxT.new (((w.alloc (.cells #[.slice A n c, .slice B m d] 25)).alloc (.cells #[.slice A' n c', .slice B' m d'] 25)).alloc (.cells #[.func (.func 26) #[] #[]] 64)) (.slice none 0 0) (.slice none 0 0)
    rwa [World.size_alloc, World.size_alloc, World.size_alloc] at h)
  have hW0' := hW0.symm
  clear hW0
  have HA := hide (hA.below HB0.out)
  have HB := hide (hB.below HB0.out)
  have HA' := hide (hA'.below HB0.out)
  have HB' := hide (hB'.below HB0.out)
  clear hA hB hA' hB'
  have HOK := hide hok
  clear hok
  go_enter Tryz.func24, Tryz.ntmps24
  have a0 := (HX0.out.kept (Below.refl _ W0)).c0
  have a1 := (HX0.out.kept (Below.refl _ W0)).c1
  have b0 := (HX1.out.kept (Below.refl _ W0)).c0
  have b1 := (HX1.out.kept (Below.refl _ W0)).c1
  go_wp2_with fail
  refine Calls.mono (tcheck_any A B n c m d s _ HA.out (by omega)) ?_
  rintro e w1 ⟨rfl, hb1⟩
  rw [HOK.out]
  clear a0 a1 b0 b1
  have a0 := (HX0.out.kept hb1).c0
  have a1 := (HX0.out.kept hb1).c1
  have b0 := (HX1.out.kept hb1).c0
  have b1 := (HX1.out.kept hb1).c1
  go_wp2_with fail
  refine Calls.mono (tcheck_any A' B' n c' m d' s _ (HA'.out.below hb1) (by omega)) ?_
  rintro e w2 ⟨rfl, hb20⟩
  rw [HOK.out]
  have hb2 : Below W0.heap.size W0 w2 := hb1.trans (hb20.mono hb1.size)
  clear a0 a1 b0 b1 hb20
  have a0 := (HX0.out.kept hb2).c0
  have a1 := (HX0.out.kept hb2).c1
  have b0 := (HX1.out.kept hb2).c0
  have b1 := (HX1.out.kept hb2).c1
  go_wp2_with fail
  refine Calls.mono (equal_ints A A' n c n c' s s _ (HA.out.below hb2) (HA'.out.below hb2) (by omega)) ?_
  rw [show decide (s = s) = true by simp]
  rintro e w3 ⟨rfl, j, hj⟩
  have hb3 : Below W0.heap.size W0 w3 := by rw [hj]; exact below_drewN hb2 j
  clear a0 a1 b0 b1 hj hb1 hb2
  have hb4 : Below W0.heap.size W0 (w3.drewN 1) := below_drewN hb3 1
  have HK : Hid (∀ v, Below W0.heap.size W0 v → v.cell? ⟨w.heap.size, 0, none⟩ = some (.slice A n c) ∧ v.cell? ⟨w.heap.size, 1, none⟩ = some (.slice B m d) ∧ v.cell? ⟨w.heap.size + 1, 1, none⟩ = some (.slice B' m d') ∧ v.cell? ⟨w.heap.size + 2, 0, none⟩ = some (.func (.func 26) #[] #[])) := hide (fun v hv =>
    ⟨(HX0.out.kept hv).c0, (HX0.out.kept hv).c1, (HX1.out.kept hv).c1, Box1.cell ((hv.block _ HXO.out.lt).trans HXO.out)⟩)
  have HR : Hid (∀ v, Below W0.heap.size W0 v → v.cell? ⟨w.heap.size + 3, 0, none⟩ = some (.slice none 0 0) ∧ v.cell? ⟨w.heap.size + 3, 1, none⟩ = some (.slice none 0 0) ∧ v.frozen? ⟨w.heap.size + 3, 0, none⟩ = false ∧ v.frozen? ⟨w.heap.size + 3, 1, none⟩ = false) := hide (fun v hv =>
    ⟨(HXR.out.kept hv).c0, (HXR.out.kept hv).c1, (HXR.out.kept hv).f0 0, (HXR.out.kept hv).f0 1⟩)
  have HKS : Hid (∀ v x y, Below W0.heap.size W0 v → ((v.setCell ⟨w.heap.size + 3, 0, none⟩ x).setCell ⟨w.heap.size + 3, 1, none⟩ y).cell? ⟨w.heap.size, 0, none⟩ = some (.slice A n c) ∧ ((v.setCell ⟨w.heap.size + 3, 0, none⟩ x).setCell ⟨w.heap.size + 3, 1, none⟩ y).cell? ⟨w.heap.size, 1, none⟩ = some (.slice B m d) ∧ ((v.setCell ⟨w.heap.size + 3, 0, none⟩ x).setCell ⟨w.heap.size + 3, 1, none⟩ y).cell? ⟨w.heap.size + 1, 1, none⟩ = some (.slice B' m d') ∧ ((v.setCell ⟨w.heap.size + 3, 0, none⟩ x).setCell ⟨w.heap.size + 3, 1, none⟩ y).cell? ⟨w.heap.size + 2, 0, none⟩ = some (.func (.func 26) #[] #[])) := hide (fun v x y hv => by
    have hne : ∀ k, k ≠ w.heap.size + 3 → ((v.setCell ⟨w.heap.size + 3, 0, none⟩ x).setCell ⟨w.heap.size + 3, 1, none⟩ y).heap[k]? = v.heap[k]? := fun k hk => (Below.heap_setCell _ _ _ k hk).trans (Below.heap_setCell _ _ _ k hk)
    obtain ⟨k0, k1, k2, k3⟩ := HK.out v hv
    exact ⟨(World.cell?_of_block (hne _ (by simp))).trans k0, (World.cell?_of_block (hne _ (by simp))).trans k1, (World.cell?_of_block (hne _ (by simp))).trans k2, (World.cell?_of_block (hne _ (by simp))).trans k3⟩)
  obtain ⟨a0, a1, b1, o0⟩ := HK.out _ hb3
  go_wp2
  go_region_held3 (fun v => v.cell? ⟨w.heap.size, 0, none⟩ = some (.slice A n c) ∧ v.cell? ⟨w.heap.size, 1, none⟩ = some (.slice B m d) ∧ v.cell? ⟨w.heap.size + 1, 1, none⟩ = some (.slice B' m d') ∧ v.cell? ⟨w.heap.size + 2, 0, none⟩ = some (.func (.func 26) #[] #[]))
    (first | (exact HKS.out _ _ _ hb6) | (exact HK.out _ hb6) | (exact HK.out _ hb5) | (exact HK.out _ hb4) | (exact HK.out _ hb3) | go_keep)
    (first
      | (go_at_call 89; refine Calls.mono (pairs_any B B' m d d' l l' _ (HB.out.below hb4) (HB'.out.below hb4) (by omega)) ?_; rintro e w5 ⟨gp, rfl, hP, hgp, hb50⟩; have hb5 : Below W0.heap.size W0 w5 := hb4.trans (hb50.mono hb4.size))
      | (go_at_call 88; refine Calls.mono (apply_mul A n c m s gp l l' _ (HA.out.below hb5) hP HL.out HL'.out HQ.out hmp) ?_; rintro e w6 ⟨g1, c1, g2, rfl, ho1, ho2, hne, hb60⟩; have hb6 : Below W0.heap.size W0 w6 := hb5.trans (hb60.mono hb5.size); obtain ⟨r0, r1, rf0, rf1⟩ := HR.out _ hb6))
  have lt1 := ho1.lt g1 rfl
  have lt2 := ho2.lt g2 rfl
  have hs5 := hb5.size
  have HBB := hide (HB0.out.trans (hb6.mono (by omega)))
  have HO1 := hide ho1
  have HO2 := hide ho2
  have HXF := hide (HXR.out.kept hb6)
  clear ho1 ho2 hP hb50 hb60
  go_wp2
  (try simp only [Exit.inBlock, Exit.then])
  refine ret_ten (p := 6) (u := 7) rfl rfl (w.heap.size + 3) _ rfl (HXF.out.set2 _ _) rfl ?_
  refine ⟨g1, c1, g2, rfl, ?_, ?_, hne, ?_⟩
  · exact own_base (own_setCell' (own_setCell' HO1.out (by dsimp only; omega) _) (by dsimp only; omega) _) (by omega)
  · exact own_base (own_setCell' (own_setCell' HO2.out (by dsimp only; omega) _) (by dsimp only; omega) _) (by omega)
  · exact (HBB.out.setCell (by dsimp only; omega) _).setCell (by dsimp only; omega) _

end

section
open Go.RowKit
set_option linter.unusedVariables false
set_option linter.unusedSimpArgs false
set_option maxRecDepth 20000

set_option maxHeartbeats 1000000 in
theorem add_bad (A B A' B' : Option Addr) (n c m d n' c' m' d' : Nat) (s l s' l' : List Int) (w : World) (hA : Lies w A n (s.map (Value.int .i64))) (hB : Lies w B m (l.map (Value.int .i32))) (hA' : Lies w A' n' (s'.map (Value.int .i64))) (hB' : Lies w B' m' (l'.map (Value.int .i32))) (hn : n ≤ 281474976710656) (hn' : n' ≤ 281474976710656) (hbad : ¬ (tenOk s m = true ∧ tenOk s' m' = true ∧ s = s')) :
    Calls Tryz.prog 8 #[tenV A n c B m d, tenV A' n' c' B' m' d'] w fun e w' => e = .returned (.tuple #[tenV none 0 0 none 0 0, .int .i64 (twoE s m s' m')]) ∧ Below w.heap.size w w' := by
  obtain ⟨W0, hW0⟩ : ∃ W0, W0 = ((w.alloc (.cells #[.slice A n c, .slice B m d] 25)).alloc (.cells #[.slice A' n' c', .slice B' m' d'] 25)).alloc (.cells #[.slice none 0 0, .slice none 0 0] 25) := ⟨_, rfl⟩
  have HB0 : Hid (Below w.heap.size w W0) := hide (by rw [hW0]; exact (((Below.refl w.heap.size w).alloc (Nat.le_refl _) _).alloc (by simp only [World.size_alloc]; omega) _).alloc (by simp only [World.size_alloc]; omega) _)
  have hs0 : W0.heap.size = w.heap.size + 3 := by rw [hW0]; simp
  have HX0 : Hid (BoxT W0 w.heap.size (.slice A n c) (.slice B m d)) := hide (by rw [hW0]; exact ((BoxT.new w _ _).alloc _).alloc _)
  have HX1 : Hid (BoxT W0 (w.heap.size + 1) (.slice A' n' c') (.slice B' m' d')) := hide (by
    rw [hW0]
    have h := (BoxT.new (w.alloc (.cells #[.slice A n c, .slice B m d] 25)) (.slice A' n' c') (.slice B' m' d')).alloc (.cells #[.slice none 0 0, .slice none 0 0] 25)
    rwa [World.size_alloc] at h)
  have HXR : Hid (BoxT W0 (w.heap.size + 2) (.slice none 0 0) (.slice none 0 0)) := hide (by
    rw [hW0]
    have h := BoxT.new ((w.alloc (.cells #[.slice A n c, .slice B m d] 25)).alloc (.cells #[.slice A' n' c', .slice B' m' d'] 25)) (.slice none 0 0) (.slice none 0 0)
    rwa [World.size_alloc, World.size_alloc] at h)
  have hW0' := hW0.symm
  clear hW0
  have HA := hide (hA.below HB0.out)
  have HB := hide (hB.below HB0.out)
  have HA' := hide (hA'.below HB0.out)
  have HB' := hide (hB'.below HB0.out)
  clear hA hB hA' hB'
  have a0 := HX0.out.c0
  have a1 := HX0.out.c1
  have b0 := HX1.out.c0
  have b1 := HX1.out.c1
  obtain ⟨E, hE⟩ : ∃ E, E = twoE s m s' m' := ⟨_, rfl⟩
  have HE := hide hE
  rw [← hE]
  clear hE
  go_enter Tryz.func8, Tryz.ntmps8
  go_wp2_with fail
  refine Calls.mono (ofTwo_add_bad A B A' B' n c m d n' c' m' d' s l s' l' _ HA.out HB.out HA'.out HB'.out hn hn' hbad) ?_
  rw [← HE.out]
  rintro e w1 ⟨rfl, hb⟩
  have r0 := (HXR.out.kept hb).c0
  have r1 := (HXR.out.kept hb).c1
  have rf0 := (HXR.out.kept hb).f0 0
  have rf1 := (HXR.out.kept hb).f0 1
  have HBB := hide (HB0.out.trans (hb.mono (by omega)))
  have HXF := hide (HXR.out.kept hb)
  clear hb hbad
  go_wp2
  (try simp only [Exit.inBlock, Exit.then])
  refine ret_ten (p := 4) (u := 5) rfl rfl (w.heap.size + 2) _ rfl (HXF.out.set2 _ _) rfl ?_
  exact ⟨rfl, (HBB.out.setCell (by dsimp only; omega) _).setCell (by dsimp only; omega) _⟩

set_option maxHeartbeats 1000000 in
theorem add_ok (A B A' B' : Option Addr) (n c m d c' d' : Nat) (s l l' : List Int) (w : World) (hA : Lies w A n (s.map (Value.int .i64))) (hB : Lies w B m (l.map (Value.int .i32))) (hA' : Lies w A' n (s.map (Value.int .i64))) (hB' : Lies w B' m (l'.map (Value.int .i32))) (hok : tenOk s m = true) :
    Calls Tryz.prog 8 #[tenV A n c B m d, tenV A' n c' B' m d'] w fun e w' => ∃ g1 c1 g2, e = .returned (.tuple #[tenV (some ⟨g1, 0, none⟩) n c1 (some ⟨g2, 0, none⟩) m m, .int .i64 0]) ∧
      w'.ownsRow w.heap.size 3 1 (.slice (some ⟨g1, 0, none⟩) n c1) n (s.map (Value.int .i64)) ∧ w'.ownsRow w.heap.size 21 1 (.slice (some ⟨g2, 0, none⟩) m m) m ((List.zipWith add32 l l').map (Value.int .i32)) ∧ g1 ≠ g2 ∧ Below w.heap.size w w' := by
  obtain ⟨W0, hW0⟩ : ∃ W0, W0 = ((w.alloc (.cells #[.slice A n c, .slice B m d] 25)).alloc (.cells #[.slice A' n c', .slice B' m d'] 25)).alloc (.cells #[.slice none 0 0, .slice none 0 0] 25) := ⟨_, rfl⟩
  have HB0 : Hid (Below w.heap.size w W0) := hide (by rw [hW0]; exact (((Below.refl w.heap.size w).alloc (Nat.le_refl _) _).alloc (by simp only [World.size_alloc]; omega) _).alloc (by simp only [World.size_alloc]; omega) _)
  have hs0 : W0.heap.size = w.heap.size + 3 := by rw [hW0]; simp
  have HX0 : Hid (BoxT W0 w.heap.size (.slice A n c) (.slice B m d)) := hide (by rw [hW0]; exact ((BoxT.new w _ _).alloc _).alloc _)
  have HX1 : Hid (BoxT W0 (w.heap.size + 1) (.slice A' n c') (.slice B' m d')) := hide (by
    rw [hW0]
    have h := (BoxT.new (w.alloc (.cells #[.slice A n c, .slice B m d] 25)) (.slice A' n c') (.slice B' m d')).alloc (.cells #[.slice none 0 0, .slice none 0 0] 25)
    rwa [World.size_alloc] at h)
  have HXR : Hid (BoxT W0 (w.heap.size + 2) (.slice none 0 0) (.slice none 0 0)) := hide (by
    rw [hW0]
    have h := BoxT.new ((w.alloc (.cells #[.slice A n c, .slice B m d] 25)).alloc (.cells #[.slice A' n c', .slice B' m d'] 25)) (.slice none 0 0) (.slice none 0 0)
    rwa [World.size_alloc, World.size_alloc] at h)
  have hW0' := hW0.symm
  clear hW0
  have HA := hide (hA.below HB0.out)
  have HB := hide (hB.below HB0.out)
  have HA' := hide (hA'.below HB0.out)
  have HB' := hide (hB'.below HB0.out)
  clear hA hB hA' hB'
  have a0 := HX0.out.c0
  have a1 := HX0.out.c1
  have b0 := HX1.out.c0
  have b1 := HX1.out.c1
  go_enter Tryz.func8, Tryz.ntmps8
  go_wp2_with fail
  refine Calls.mono (ofTwo_add_ok A B A' B' n c m d c' d' s l l' _ HA.out HB.out HA'.out HB'.out hok) ?_
  rintro e w1 ⟨g1, c1, g2, rfl, ho1, ho2, hne, hb⟩
  have r0 := (HXR.out.kept hb).c0
  have r1 := (HXR.out.kept hb).c1
  have rf0 := (HXR.out.kept hb).f0 0
  have rf1 := (HXR.out.kept hb).f0 1
  have lt1 := ho1.lt g1 rfl
  have lt2 := ho2.lt g2 rfl
  have HBB := hide (HB0.out.trans (hb.mono (by omega)))
  have HXF := hide (HXR.out.kept hb)
  have HO1 := hide ho1
  have HO2 := hide ho2
  clear hb ho1 ho2
  go_wp2
  (try simp only [Exit.inBlock, Exit.then])
  refine ret_ten (p := 4) (u := 5) rfl rfl (w.heap.size + 2) _ rfl (HXF.out.set2 _ _) rfl ?_
  refine ⟨g1, c1, g2, rfl, ?_, ?_, hne, (HBB.out.setCell (by dsimp only; omega) _).setCell (by dsimp only; omega) _⟩
  · exact own_base (own_setCell' (own_setCell' HO1.out (by dsimp only; omega) _) (by dsimp only; omega) _) (by omega)
  · exact own_base (own_setCell' (own_setCell' HO2.out (by dsimp only; omega) _) (by dsimp only; omega) _) (by omega)

/-- Both ways out: what it answers lies in memory of its own. -/
theorem add_own (A B A' B' : Option Addr) (n c m d n' c' m' d' : Nat) (s l s' l' : List Int) (w : World) (hA : Lies w A n (s.map (Value.int .i64))) (hB : Lies w B m (l.map (Value.int .i32))) (hA' : Lies w A' n' (s'.map (Value.int .i64))) (hB' : Lies w B' m' (l'.map (Value.int .i32))) (hn : n ≤ 281474976710656) (hn' : n' ≤ 281474976710656) :
    Calls Tryz.prog 8 #[tenV A n c B m d, tenV A' n' c' B' m' d'] w fun e w' => ∃ A1 k1 c1 A2 k2 c2, e = .returned (.tuple #[tenV A1 k1 c1 A2 k2 c2, .int .i64 (twoE s m s' m')]) ∧
      w'.ownsRow w.heap.size 3 1 (.slice A1 k1 c1) k1 ((twoS s m s' m').map (Value.int .i64)) ∧ w'.ownsRow w.heap.size 21 1 (.slice A2 k2 c2) k2 ((twoL add32 s m s' m' l l').map (Value.int .i32)) ∧ k1 ≤ 4 ∧ k2 ≤ 4096 ∧ Below w.heap.size w w' := by
  by_cases h : tenOk s m = true ∧ tenOk s' m' = true ∧ s = s'
  · obtain ⟨h1, h2, rfl⟩ := h
    obtain ⟨q1, q2⟩ := tenOk_iff.1 h1
    obtain ⟨q3, q4⟩ := tenOk_iff.1 h2
    obtain ⟨hn1, hn4, _⟩ := sizeI_pos q1
    have hm4 : m ≤ 4096 := by have := sizeI_le s; omega
    obtain rfl : m' = m := by omega
    have hl1 : s.length = n := by have := hA.len; simpa using this
    have hl2 : s.length = n' := by have := hA'.len; simpa using this
    obtain rfl : n' = n := by omega
    refine (add_ok A B A' B' n' c m' d c' d' s l l' w hA hB hA' hB' h1).mono ?_
    rintro e w' ⟨g1, c1, g2, rfl, ho1, ho2, hne, hb⟩
    have hz := twoE_ok h1 h2 rfl
    exact ⟨_, _, _, _, _, _, by rw [hz], by rw [twoS, if_pos hz]; exact ho1, by rw [twoL, if_pos hz]; exact ho2, by omega, hm4, hb⟩
  · refine (add_bad A B A' B' n c m d n' c' m' d' s l s' l' w hA hB hA' hB' hn hn' h).mono ?_
    rintro e w' ⟨rfl, hb⟩
    have hz : ¬ twoE s m s' m' = 0 := fun e => h (twoE_iff.1 e)
    exact ⟨none, 0, 0, none, 0, 0, rfl, by rw [twoS, if_neg hz]; exact World.ownsRow_nil _ _ _ _, by rw [twoL, if_neg hz]; exact World.ownsRow_nil _ _ _ _, by omega, by omega, hb⟩

set_option maxHeartbeats 1000000 in
theorem mul_bad (A B A' B' : Option Addr) (n c m d n' c' m' d' : Nat) (s l s' l' : List Int) (w : World) (hA : Lies w A n (s.map (Value.int .i64))) (hB : Lies w B m (l.map (Value.int .i32))) (hA' : Lies w A' n' (s'.map (Value.int .i64))) (hB' : Lies w B' m' (l'.map (Value.int .i32))) (hn : n ≤ 281474976710656) (hn' : n' ≤ 281474976710656) (hbad : ¬ (tenOk s m = true ∧ tenOk s' m' = true ∧ s = s')) :
    Calls Tryz.prog 9 #[tenV A n c B m d, tenV A' n' c' B' m' d'] w fun e w' => e = .returned (.tuple #[tenV none 0 0 none 0 0, .int .i64 (twoE s m s' m')]) ∧ Below w.heap.size w w' := by
  obtain ⟨W0, hW0⟩ : ∃ W0, W0 = ((w.alloc (.cells #[.slice A n c, .slice B m d] 25)).alloc (.cells #[.slice A' n' c', .slice B' m' d'] 25)).alloc (.cells #[.slice none 0 0, .slice none 0 0] 25) := ⟨_, rfl⟩
  have HB0 : Hid (Below w.heap.size w W0) := hide (by rw [hW0]; exact (((Below.refl w.heap.size w).alloc (Nat.le_refl _) _).alloc (by simp only [World.size_alloc]; omega) _).alloc (by simp only [World.size_alloc]; omega) _)
  have hs0 : W0.heap.size = w.heap.size + 3 := by rw [hW0]; simp
  have HX0 : Hid (BoxT W0 w.heap.size (.slice A n c) (.slice B m d)) := hide (by rw [hW0]; exact ((BoxT.new w _ _).alloc _).alloc _)
  have HX1 : Hid (BoxT W0 (w.heap.size + 1) (.slice A' n' c') (.slice B' m' d')) := hide (by
    rw [hW0]
    have h := (BoxT.new (w.alloc (.cells #[.slice A n c, .slice B m d] 25)) (.slice A' n' c') (.slice B' m' d')).alloc (.cells #[.slice none 0 0, .slice none 0 0] 25)
    rwa [World.size_alloc] at h)
  have HXR : Hid (BoxT W0 (w.heap.size + 2) (.slice none 0 0) (.slice none 0 0)) := hide (by
    rw [hW0]
    have h := BoxT.new ((w.alloc (.cells #[.slice A n c, .slice B m d] 25)).alloc (.cells #[.slice A' n' c', .slice B' m' d'] 25)) (.slice none 0 0) (.slice none 0 0)
    rwa [World.size_alloc, World.size_alloc] at h)
  have hW0' := hW0.symm
  clear hW0
  have HA := hide (hA.below HB0.out)
  have HB := hide (hB.below HB0.out)
  have HA' := hide (hA'.below HB0.out)
  have HB' := hide (hB'.below HB0.out)
  clear hA hB hA' hB'
  have a0 := HX0.out.c0
  have a1 := HX0.out.c1
  have b0 := HX1.out.c0
  have b1 := HX1.out.c1
  obtain ⟨E, hE⟩ : ∃ E, E = twoE s m s' m' := ⟨_, rfl⟩
  have HE := hide hE
  rw [← hE]
  clear hE
  go_enter Tryz.func9, Tryz.ntmps9
  go_wp2_with fail
  refine Calls.mono (ofTwo_mul_bad A B A' B' n c m d n' c' m' d' s l s' l' _ HA.out HB.out HA'.out HB'.out hn hn' hbad) ?_
  rw [← HE.out]
  rintro e w1 ⟨rfl, hb⟩
  have r0 := (HXR.out.kept hb).c0
  have r1 := (HXR.out.kept hb).c1
  have rf0 := (HXR.out.kept hb).f0 0
  have rf1 := (HXR.out.kept hb).f0 1
  have HBB := hide (HB0.out.trans (hb.mono (by omega)))
  have HXF := hide (HXR.out.kept hb)
  clear hb hbad
  go_wp2
  (try simp only [Exit.inBlock, Exit.then])
  refine ret_ten (p := 4) (u := 5) rfl rfl (w.heap.size + 2) _ rfl (HXF.out.set2 _ _) rfl ?_
  exact ⟨rfl, (HBB.out.setCell (by dsimp only; omega) _).setCell (by dsimp only; omega) _⟩

set_option maxHeartbeats 1000000 in
theorem mul_ok (A B A' B' : Option Addr) (n c m d c' d' : Nat) (s l l' : List Int) (w : World) (hA : Lies w A n (s.map (Value.int .i64))) (hB : Lies w B m (l.map (Value.int .i32))) (hA' : Lies w A' n (s.map (Value.int .i64))) (hB' : Lies w B' m (l'.map (Value.int .i32))) (hok : tenOk s m = true) :
    Calls Tryz.prog 9 #[tenV A n c B m d, tenV A' n c' B' m d'] w fun e w' => ∃ g1 c1 g2, e = .returned (.tuple #[tenV (some ⟨g1, 0, none⟩) n c1 (some ⟨g2, 0, none⟩) m m, .int .i64 0]) ∧
      w'.ownsRow w.heap.size 3 1 (.slice (some ⟨g1, 0, none⟩) n c1) n (s.map (Value.int .i64)) ∧ w'.ownsRow w.heap.size 21 1 (.slice (some ⟨g2, 0, none⟩) m m) m ((List.zipWith mul32 l l').map (Value.int .i32)) ∧ g1 ≠ g2 ∧ Below w.heap.size w w' := by
  obtain ⟨W0, hW0⟩ : ∃ W0, W0 = ((w.alloc (.cells #[.slice A n c, .slice B m d] 25)).alloc (.cells #[.slice A' n c', .slice B' m d'] 25)).alloc (.cells #[.slice none 0 0, .slice none 0 0] 25) := ⟨_, rfl⟩
  have HB0 : Hid (Below w.heap.size w W0) := hide (by rw [hW0]; exact (((Below.refl w.heap.size w).alloc (Nat.le_refl _) _).alloc (by simp only [World.size_alloc]; omega) _).alloc (by simp only [World.size_alloc]; omega) _)
  have hs0 : W0.heap.size = w.heap.size + 3 := by rw [hW0]; simp
  have HX0 : Hid (BoxT W0 w.heap.size (.slice A n c) (.slice B m d)) := hide (by rw [hW0]; exact ((BoxT.new w _ _).alloc _).alloc _)
  have HX1 : Hid (BoxT W0 (w.heap.size + 1) (.slice A' n c') (.slice B' m d')) := hide (by
    rw [hW0]
    have h := (BoxT.new (w.alloc (.cells #[.slice A n c, .slice B m d] 25)) (.slice A' n c') (.slice B' m d')).alloc (.cells #[.slice none 0 0, .slice none 0 0] 25)
    rwa [World.size_alloc] at h)
  have HXR : Hid (BoxT W0 (w.heap.size + 2) (.slice none 0 0) (.slice none 0 0)) := hide (by
    rw [hW0]
    have h := BoxT.new ((w.alloc (.cells #[.slice A n c, .slice B m d] 25)).alloc (.cells #[.slice A' n c', .slice B' m d'] 25)) (.slice none 0 0) (.slice none 0 0)
    rwa [World.size_alloc, World.size_alloc] at h)
  have hW0' := hW0.symm
  clear hW0
  have HA := hide (hA.below HB0.out)
  have HB := hide (hB.below HB0.out)
  have HA' := hide (hA'.below HB0.out)
  have HB' := hide (hB'.below HB0.out)
  clear hA hB hA' hB'
  have a0 := HX0.out.c0
  have a1 := HX0.out.c1
  have b0 := HX1.out.c0
  have b1 := HX1.out.c1
  go_enter Tryz.func9, Tryz.ntmps9
  go_wp2_with fail
  refine Calls.mono (ofTwo_mul_ok A B A' B' n c m d c' d' s l l' _ HA.out HB.out HA'.out HB'.out hok) ?_
  rintro e w1 ⟨g1, c1, g2, rfl, ho1, ho2, hne, hb⟩
  have r0 := (HXR.out.kept hb).c0
  have r1 := (HXR.out.kept hb).c1
  have rf0 := (HXR.out.kept hb).f0 0
  have rf1 := (HXR.out.kept hb).f0 1
  have lt1 := ho1.lt g1 rfl
  have lt2 := ho2.lt g2 rfl
  have HBB := hide (HB0.out.trans (hb.mono (by omega)))
  have HXF := hide (HXR.out.kept hb)
  have HO1 := hide ho1
  have HO2 := hide ho2
  clear hb ho1 ho2
  go_wp2
  (try simp only [Exit.inBlock, Exit.then])
  refine ret_ten (p := 4) (u := 5) rfl rfl (w.heap.size + 2) _ rfl (HXF.out.set2 _ _) rfl ?_
  refine ⟨g1, c1, g2, rfl, ?_, ?_, hne, (HBB.out.setCell (by dsimp only; omega) _).setCell (by dsimp only; omega) _⟩
  · exact own_base (own_setCell' (own_setCell' HO1.out (by dsimp only; omega) _) (by dsimp only; omega) _) (by omega)
  · exact own_base (own_setCell' (own_setCell' HO2.out (by dsimp only; omega) _) (by dsimp only; omega) _) (by omega)

/-- Both ways out: what it answers lies in memory of its own. -/
theorem mul_own (A B A' B' : Option Addr) (n c m d n' c' m' d' : Nat) (s l s' l' : List Int) (w : World) (hA : Lies w A n (s.map (Value.int .i64))) (hB : Lies w B m (l.map (Value.int .i32))) (hA' : Lies w A' n' (s'.map (Value.int .i64))) (hB' : Lies w B' m' (l'.map (Value.int .i32))) (hn : n ≤ 281474976710656) (hn' : n' ≤ 281474976710656) :
    Calls Tryz.prog 9 #[tenV A n c B m d, tenV A' n' c' B' m' d'] w fun e w' => ∃ A1 k1 c1 A2 k2 c2, e = .returned (.tuple #[tenV A1 k1 c1 A2 k2 c2, .int .i64 (twoE s m s' m')]) ∧
      w'.ownsRow w.heap.size 3 1 (.slice A1 k1 c1) k1 ((twoS s m s' m').map (Value.int .i64)) ∧ w'.ownsRow w.heap.size 21 1 (.slice A2 k2 c2) k2 ((twoL mul32 s m s' m' l l').map (Value.int .i32)) ∧ k1 ≤ 4 ∧ k2 ≤ 4096 ∧ Below w.heap.size w w' := by
  by_cases h : tenOk s m = true ∧ tenOk s' m' = true ∧ s = s'
  · obtain ⟨h1, h2, rfl⟩ := h
    obtain ⟨q1, q2⟩ := tenOk_iff.1 h1
    obtain ⟨q3, q4⟩ := tenOk_iff.1 h2
    obtain ⟨hn1, hn4, _⟩ := sizeI_pos q1
    have hm4 : m ≤ 4096 := by have := sizeI_le s; omega
    obtain rfl : m' = m := by omega
    have hl1 : s.length = n := by have := hA.len; simpa using this
    have hl2 : s.length = n' := by have := hA'.len; simpa using this
    obtain rfl : n' = n := by omega
    refine (mul_ok A B A' B' n' c m' d c' d' s l l' w hA hB hA' hB' h1).mono ?_
    rintro e w' ⟨g1, c1, g2, rfl, ho1, ho2, hne, hb⟩
    have hz := twoE_ok h1 h2 rfl
    exact ⟨_, _, _, _, _, _, by rw [hz], by rw [twoS, if_pos hz]; exact ho1, by rw [twoL, if_pos hz]; exact ho2, by omega, hm4, hb⟩
  · refine (mul_bad A B A' B' n c m d n' c' m' d' s l s' l' w hA hB hA' hB' hn hn' h).mono ?_
    rintro e w' ⟨rfl, hb⟩
    have hz : ¬ twoE s m s' m' = 0 := fun e => h (twoE_iff.1 e)
    exact ⟨none, 0, 0, none, 0, 0, rfl, by rw [twoS, if_neg hz]; exact World.ownsRow_nil _ _ _ _, by rw [twoL, if_neg hz]; exact World.ownsRow_nil _ _ _ _, by omega, by omega, hb⟩

/-- Why a tensor can't be taken. -/
def oneE (s : List Int) (m : Nat) : Int := if tenOk s m = true then 0 else 1
def oneS (s : List Int) (m : Nat) : List Int := if tenOk s m = true then s else []
def oneL (f : Int → Int) (s : List Int) (m : Nat) (l : List Int) : List Int := if tenOk s m = true then l.map f else []
def shE (s : List Int) (m : Nat) (n : Int) : Int := if tenOk s m = true ∧ 0 ≤ n ∧ n ≤ 31 then 0 else 1
def shS (s : List Int) (m : Nat) (n : Int) : List Int := if tenOk s m = true ∧ 0 ≤ n ∧ n ≤ 31 then s else []
def shL (s : List Int) (m : Nat) (n : Int) (l : List Int) : List Int := if tenOk s m = true ∧ 0 ≤ n ∧ n ≤ 31 then l.map (shf n.toNat) else []

set_option maxHeartbeats 1000000 in
theorem ofOne_relu_bad (A B : Option Addr) (n c m d : Nat) (s l : List Int) (w : World) (hA : Lies w A n (s.map (Value.int .i64))) (hB : Lies w B m (l.map (Value.int .i32))) (hn : n ≤ 281474976710656) (hbad : tenOk s m = false) :
    Calls Tryz.prog 80 #[tenV A n c B m d, .agg #[.func (.func 81) #[] #[]]] w fun e w' => e = .returned (.tuple #[tenV none 0 0 none 0 0, .int .i64 1]) ∧ Below w.heap.size w w' := by
  obtain ⟨W0, hW0⟩ : ∃ W0, W0 = ((w.alloc (.cells #[.slice A n c, .slice B m d] 25)).alloc (.cells #[.func (.func 81) #[] #[]] 75)).alloc (.cells #[.slice none 0 0, .slice none 0 0] 25) := ⟨_, rfl⟩
  have HB0 : Hid (Below w.heap.size w W0) := hide (by rw [hW0]; exact (((Below.refl w.heap.size w).alloc (Nat.le_refl _) _).alloc (by simp only [World.size_alloc]; omega) _).alloc (by simp only [World.size_alloc]; omega) _)
  have hs0 : W0.heap.size = w.heap.size + 3 := by rw [hW0]; simp
  have HX0 : Hid (BoxT W0 w.heap.size (.slice A n c) (.slice B m d)) := hide (by rw [hW0]; exact ((BoxT.new w _ _).alloc _).alloc _)
  have HXO : Hid (Box1 W0 (w.heap.size + 1) 75 (.func (.func 81) #[] #[])) := hide (by
    rw [hW0]
    have h := Box1.new (w.alloc (.cells #[.slice A n c, .slice B m d] 25)) (.func (.func 81) #[] #[]) 75
    rw [World.size_alloc] at h
    exact (Below.heap_alloc _ _ _ (by simp only [World.size_alloc]; omega)).trans h)
  have HXR : Hid (BoxT W0 (w.heap.size + 2) (.slice none 0 0) (.slice none 0 0)) := hide (by
    rw [hW0]
    have h := BoxT.new ((w.alloc (.cells #[.slice A n c, .slice B m d] 25)).alloc (.cells #[.func (.func 81) #[] #[]] 75)) (.slice none 0 0) (.slice none 0 0)
    rwa [World.size_alloc, World.size_alloc] at h)
  have hW0' := hW0.symm
  clear hW0
  have HA := hide (hA.below HB0.out)
  have HB := hide (hB.below HB0.out)
  clear hA hB
  have a0 := HX0.out.c0
  have a1 := HX0.out.c1
  have o0 := HXO.out.cell
  go_enter Tryz.func80, Tryz.ntmps80
  go_wp2_with fail
  refine Calls.mono (tcheck_any A B n c m d s _ HA.out hn) ?_
  rw [hbad]
  rintro e w1 ⟨rfl, hb⟩
  have r0 := (HXR.out.kept hb).c0
  have r1 := (HXR.out.kept hb).c1
  have rf0 := (HXR.out.kept hb).f0 0
  have rf1 := (HXR.out.kept hb).f0 1
  have HBB := hide (HB0.out.trans (hb.mono (by omega)))
  have HXF := hide (HXR.out.kept hb)
  clear hb
  go_wp2
  (try simp only [Exit.inBlock, Exit.then])
  refine ret_ten (p := 4) (u := 5) rfl rfl (w.heap.size + 2) _ rfl (HXF.out.set2 _ _) rfl ?_
  exact ⟨rfl, (HBB.out.setCell (by dsimp only; omega) _).setCell (by dsimp only; omega) _⟩

set_option maxHeartbeats 1000000 in
theorem ofOne_relu_ok (A B : Option Addr) (n c m d : Nat) (s l : List Int) (w : World) (hA : Lies w A n (s.map (Value.int .i64))) (hB : Lies w B m (l.map (Value.int .i32))) (hok : tenOk s m = true) :
    Calls Tryz.prog 80 #[tenV A n c B m d, .agg #[.func (.func 81) #[] #[]]] w fun e w' => ∃ g1 c1 g2, e = .returned (.tuple #[tenV (some ⟨g1, 0, none⟩) n c1 (some ⟨g2, 0, none⟩) m m, .int .i64 0]) ∧
      w'.ownsRow w.heap.size 3 1 (.slice (some ⟨g1, 0, none⟩) n c1) n (s.map (Value.int .i64)) ∧ w'.ownsRow w.heap.size 21 1 (.slice (some ⟨g2, 0, none⟩) m m) m ((l.map relu32).map (Value.int .i32)) ∧ g1 ≠ g2 ∧ Below w.heap.size w w' := by
  have hlen : s.length = n := by have := hA.len; simpa using this
  obtain ⟨q1, q2⟩ := tenOk_iff.1 hok
  obtain ⟨hn1, hn4, _⟩ := sizeI_pos q1
  rw [hlen] at hn1 hn4
  have hm4 : m ≤ 4096 := by have := sizeI_le s; omega
  have hmp : 0 < m := by omega
  have HQ := hide q2
  clear q1 q2 hlen
  obtain ⟨W0, hW0⟩ : ∃ W0, W0 = ((w.alloc (.cells #[.slice A n c, .slice B m d] 25)).alloc (.cells #[.func (.func 81) #[] #[]] 75)).alloc (.cells #[.slice none 0 0, .slice none 0 0] 25) := ⟨_, rfl⟩
  have HB0 : Hid (Below w.heap.size w W0) := hide (by rw [hW0]; exact (((Below.refl w.heap.size w).alloc (Nat.le_refl _) _).alloc (by simp only [World.size_alloc]; omega) _).alloc (by simp only [World.size_alloc]; omega) _)
  have hs0 : W0.heap.size = w.heap.size + 3 := by rw [hW0]; simp
  have HX0 : Hid (BoxT W0 w.heap.size (.slice A n c) (.slice B m d)) := hide (by rw [hW0]; exact ((BoxT.new w _ _).alloc _).alloc _)
  have HXO : Hid (Box1 W0 (w.heap.size + 1) 75 (.func (.func 81) #[] #[])) := hide (by
    rw [hW0]
    have h := Box1.new (w.alloc (.cells #[.slice A n c, .slice B m d] 25)) (.func (.func 81) #[] #[]) 75
    rw [World.size_alloc] at h
    exact (Below.heap_alloc _ _ _ (by simp only [World.size_alloc]; omega)).trans h)
  have HXR : Hid (BoxT W0 (w.heap.size + 2) (.slice none 0 0) (.slice none 0 0)) := hide (by
    rw [hW0]
    have h := BoxT.new ((w.alloc (.cells #[.slice A n c, .slice B m d] 25)).alloc (.cells #[.func (.func 81) #[] #[]] 75)) (.slice none 0 0) (.slice none 0 0)
    rwa [World.size_alloc, World.size_alloc] at h)
  have hW0' := hW0.symm
  clear hW0
  have HA := hide (hA.below HB0.out)
  have HB := hide (hB.below HB0.out)
  clear hA hB
  have a0 := HX0.out.c0
  have a1 := HX0.out.c1
  have o0 := HXO.out.cell
  have HOK := hide hok
  clear hok
  go_enter Tryz.func80, Tryz.ntmps80
  go_wp2_with fail
  refine Calls.mono (tcheck_any A B n c m d s _ HA.out (by omega)) ?_
  rw [HOK.out]
  rintro e w1 ⟨rfl, hb1⟩
  clear a0 a1 o0
  have a0 := (HX0.out.kept hb1).c0
  have a1 := (HX0.out.kept hb1).c1
  have o0 := Box1.cell ((hb1.block _ HXO.out.lt).trans HXO.out)
  go_wp2_with fail
  refine Calls.mono (apply_relu A n c m s B d l _ (HA.out.below hb1) (HB.out.below hb1) HQ.out hmp) ?_
  rintro e w2 ⟨g1, c1, g2, rfl, ho1, ho2, hne, hb0⟩
  have hs1 := hb1.size
  have hb := hb1.trans (hb0.mono hb1.size)
  clear hb1 hb0
  have r0 := (HXR.out.kept hb).c0
  have r1 := (HXR.out.kept hb).c1
  have rf0 := (HXR.out.kept hb).f0 0
  have rf1 := (HXR.out.kept hb).f0 1
  have lt1 := ho1.lt g1 rfl
  have lt2 := ho2.lt g2 rfl
  have HBB := hide (HB0.out.trans (hb.mono (by omega)))
  have HXF := hide (HXR.out.kept hb)
  have HO1 := hide ho1
  have HO2 := hide ho2
  clear hb ho1 ho2
  go_wp2
  (try simp only [Exit.inBlock, Exit.then])
  refine ret_ten (p := 4) (u := 5) rfl rfl (w.heap.size + 2) _ rfl (HXF.out.set2 _ _) rfl ?_
  refine ⟨g1, c1, g2, rfl, ?_, ?_, hne, (HBB.out.setCell (by dsimp only; omega) _).setCell (by dsimp only; omega) _⟩
  · exact own_base (own_setCell' (own_setCell' HO1.out (by dsimp only; omega) _) (by dsimp only; omega) _) (by omega)
  · exact own_base (own_setCell' (own_setCell' HO2.out (by dsimp only; omega) _) (by dsimp only; omega) _) (by omega)

set_option maxHeartbeats 1000000 in
theorem ofOne_shift_bad (A B : Option Addr) (n c m d : Nat) (s l : List Int) (w : World) (hA : Lies w A n (s.map (Value.int .i64))) (hB : Lies w B m (l.map (Value.int .i32))) (pn : Addr) (hn : n ≤ 281474976710656) (hbad : tenOk s m = false) :
    Calls Tryz.prog 80 #[tenV A n c B m d, .agg #[.func (.func 82) #[] #[.pointer (some pn)]]] w fun e w' => e = .returned (.tuple #[tenV none 0 0 none 0 0, .int .i64 1]) ∧ Below w.heap.size w w' := by
  obtain ⟨W0, hW0⟩ : ∃ W0, W0 = ((w.alloc (.cells #[.slice A n c, .slice B m d] 25)).alloc (.cells #[.func (.func 82) #[] #[.pointer (some pn)]] 75)).alloc (.cells #[.slice none 0 0, .slice none 0 0] 25) := ⟨_, rfl⟩
  have HB0 : Hid (Below w.heap.size w W0) := hide (by rw [hW0]; exact (((Below.refl w.heap.size w).alloc (Nat.le_refl _) _).alloc (by simp only [World.size_alloc]; omega) _).alloc (by simp only [World.size_alloc]; omega) _)
  have hs0 : W0.heap.size = w.heap.size + 3 := by rw [hW0]; simp
  have HX0 : Hid (BoxT W0 w.heap.size (.slice A n c) (.slice B m d)) := hide (by rw [hW0]; exact ((BoxT.new w _ _).alloc _).alloc _)
  have HXO : Hid (Box1 W0 (w.heap.size + 1) 75 (.func (.func 82) #[] #[.pointer (some pn)])) := hide (by
    rw [hW0]
    have h := Box1.new (w.alloc (.cells #[.slice A n c, .slice B m d] 25)) (.func (.func 82) #[] #[.pointer (some pn)]) 75
    rw [World.size_alloc] at h
    exact (Below.heap_alloc _ _ _ (by simp only [World.size_alloc]; omega)).trans h)
  have HXR : Hid (BoxT W0 (w.heap.size + 2) (.slice none 0 0) (.slice none 0 0)) := hide (by
    rw [hW0]
    have h := BoxT.new ((w.alloc (.cells #[.slice A n c, .slice B m d] 25)).alloc (.cells #[.func (.func 82) #[] #[.pointer (some pn)]] 75)) (.slice none 0 0) (.slice none 0 0)
    rwa [World.size_alloc, World.size_alloc] at h)
  have hW0' := hW0.symm
  clear hW0
  have HA := hide (hA.below HB0.out)
  have HB := hide (hB.below HB0.out)
  clear hA hB
  have a0 := HX0.out.c0
  have a1 := HX0.out.c1
  have o0 := HXO.out.cell
  go_enter Tryz.func80, Tryz.ntmps80
  go_wp2_with fail
  refine Calls.mono (tcheck_any A B n c m d s _ HA.out hn) ?_
  rw [hbad]
  rintro e w1 ⟨rfl, hb⟩
  have r0 := (HXR.out.kept hb).c0
  have r1 := (HXR.out.kept hb).c1
  have rf0 := (HXR.out.kept hb).f0 0
  have rf1 := (HXR.out.kept hb).f0 1
  have HBB := hide (HB0.out.trans (hb.mono (by omega)))
  have HXF := hide (HXR.out.kept hb)
  clear hb
  go_wp2
  (try simp only [Exit.inBlock, Exit.then])
  refine ret_ten (p := 4) (u := 5) rfl rfl (w.heap.size + 2) _ rfl (HXF.out.set2 _ _) rfl ?_
  exact ⟨rfl, (HBB.out.setCell (by dsimp only; omega) _).setCell (by dsimp only; omega) _⟩

set_option maxHeartbeats 1000000 in
theorem ofOne_shift_ok (A B : Option Addr) (n c m d : Nat) (s l : List Int) (w : World) (hA : Lies w A n (s.map (Value.int .i64))) (hB : Lies w B m (l.map (Value.int .i32))) (bits : Nat) (pn : Addr) (hbits : bits ≤ 31) (hc : w.cell? pn = some (.int .i64 (bits : Int))) (hcb : pn.block < w.heap.size) (hw : ∀ z ∈ l, -2147483648 ≤ z ∧ z < 2147483648) (hok : tenOk s m = true) :
    Calls Tryz.prog 80 #[tenV A n c B m d, .agg #[.func (.func 82) #[] #[.pointer (some pn)]]] w fun e w' => ∃ g1 c1 g2, e = .returned (.tuple #[tenV (some ⟨g1, 0, none⟩) n c1 (some ⟨g2, 0, none⟩) m m, .int .i64 0]) ∧
      w'.ownsRow w.heap.size 3 1 (.slice (some ⟨g1, 0, none⟩) n c1) n (s.map (Value.int .i64)) ∧ w'.ownsRow w.heap.size 21 1 (.slice (some ⟨g2, 0, none⟩) m m) m ((l.map (shf bits)).map (Value.int .i32)) ∧ g1 ≠ g2 ∧ Below w.heap.size w w' := by
  have hlen : s.length = n := by have := hA.len; simpa using this
  obtain ⟨q1, q2⟩ := tenOk_iff.1 hok
  obtain ⟨hn1, hn4, _⟩ := sizeI_pos q1
  rw [hlen] at hn1 hn4
  have hm4 : m ≤ 4096 := by have := sizeI_le s; omega
  have hmp : 0 < m := by omega
  have HQ := hide q2
  clear q1 q2 hlen
  have HC := hide hc
  have HW := hide hw
  clear hc hw
  obtain ⟨W0, hW0⟩ : ∃ W0, W0 = ((w.alloc (.cells #[.slice A n c, .slice B m d] 25)).alloc (.cells #[.func (.func 82) #[] #[.pointer (some pn)]] 75)).alloc (.cells #[.slice none 0 0, .slice none 0 0] 25) := ⟨_, rfl⟩
  have HB0 : Hid (Below w.heap.size w W0) := hide (by rw [hW0]; exact (((Below.refl w.heap.size w).alloc (Nat.le_refl _) _).alloc (by simp only [World.size_alloc]; omega) _).alloc (by simp only [World.size_alloc]; omega) _)
  have hs0 : W0.heap.size = w.heap.size + 3 := by rw [hW0]; simp
  have HX0 : Hid (BoxT W0 w.heap.size (.slice A n c) (.slice B m d)) := hide (by rw [hW0]; exact ((BoxT.new w _ _).alloc _).alloc _)
  have HXO : Hid (Box1 W0 (w.heap.size + 1) 75 (.func (.func 82) #[] #[.pointer (some pn)])) := hide (by
    rw [hW0]
    have h := Box1.new (w.alloc (.cells #[.slice A n c, .slice B m d] 25)) (.func (.func 82) #[] #[.pointer (some pn)]) 75
    rw [World.size_alloc] at h
    exact (Below.heap_alloc _ _ _ (by simp only [World.size_alloc]; omega)).trans h)
  have HXR : Hid (BoxT W0 (w.heap.size + 2) (.slice none 0 0) (.slice none 0 0)) := hide (by
    rw [hW0]
    have h := BoxT.new ((w.alloc (.cells #[.slice A n c, .slice B m d] 25)).alloc (.cells #[.func (.func 82) #[] #[.pointer (some pn)]] 75)) (.slice none 0 0) (.slice none 0 0)
    rwa [World.size_alloc, World.size_alloc] at h)
  have hW0' := hW0.symm
  clear hW0
  have HA := hide (hA.below HB0.out)
  have HB := hide (hB.below HB0.out)
  clear hA hB
  have a0 := HX0.out.c0
  have a1 := HX0.out.c1
  have o0 := HXO.out.cell
  have HOK := hide hok
  clear hok
  go_enter Tryz.func80, Tryz.ntmps80
  go_wp2_with fail
  refine Calls.mono (tcheck_any A B n c m d s _ HA.out (by omega)) ?_
  rw [HOK.out]
  rintro e w1 ⟨rfl, hb1⟩
  clear a0 a1 o0
  have a0 := (HX0.out.kept hb1).c0
  have a1 := (HX0.out.kept hb1).c1
  have o0 := Box1.cell ((hb1.block _ HXO.out.lt).trans HXO.out)
  go_wp2_with fail
  refine Calls.mono (apply_shift A n c m s B d bits pn l _ (HA.out.below hb1) (HB.out.below hb1) hbits ((World.cell?_of_block ((hb1.block pn.block (by omega)).trans (HB0.out.block pn.block hcb))).trans HC.out) (by have := hb1.size; omega) HW.out HQ.out hmp) ?_
  rintro e w2 ⟨g1, c1, g2, rfl, ho1, ho2, hne, hb0⟩
  have hs1 := hb1.size
  have hb := hb1.trans (hb0.mono hb1.size)
  clear hb1 hb0
  have r0 := (HXR.out.kept hb).c0
  have r1 := (HXR.out.kept hb).c1
  have rf0 := (HXR.out.kept hb).f0 0
  have rf1 := (HXR.out.kept hb).f0 1
  have lt1 := ho1.lt g1 rfl
  have lt2 := ho2.lt g2 rfl
  have HBB := hide (HB0.out.trans (hb.mono (by omega)))
  have HXF := hide (HXR.out.kept hb)
  have HO1 := hide ho1
  have HO2 := hide ho2
  clear hb ho1 ho2
  go_wp2
  (try simp only [Exit.inBlock, Exit.then])
  refine ret_ten (p := 4) (u := 5) rfl rfl (w.heap.size + 2) _ rfl (HXF.out.set2 _ _) rfl ?_
  refine ⟨g1, c1, g2, rfl, ?_, ?_, hne, (HBB.out.setCell (by dsimp only; omega) _).setCell (by dsimp only; omega) _⟩
  · exact own_base (own_setCell' (own_setCell' HO1.out (by dsimp only; omega) _) (by dsimp only; omega) _) (by omega)
  · exact own_base (own_setCell' (own_setCell' HO2.out (by dsimp only; omega) _) (by dsimp only; omega) _) (by omega)

set_option maxHeartbeats 1000000 in
theorem relu_bad (A B : Option Addr) (n c m d : Nat) (s l : List Int) (w : World) (hA : Lies w A n (s.map (Value.int .i64))) (hB : Lies w B m (l.map (Value.int .i32))) (hn : n ≤ 281474976710656) (hbad : tenOk s m = false) :
    Calls Tryz.prog 16 #[tenV A n c B m d] w fun e w' => e = .returned (.tuple #[tenV none 0 0 none 0 0, .int .i64 1]) ∧ Below w.heap.size w w' := by
  obtain ⟨W0, hW0⟩ : ∃ W0, W0 = (w.alloc (.cells #[.slice A n c, .slice B m d] 25)).alloc (.cells #[.slice none 0 0, .slice none 0 0] 25) := ⟨_, rfl⟩
  have HB0 : Hid (Below w.heap.size w W0) := hide (by rw [hW0]; exact ((Below.refl w.heap.size w).alloc (Nat.le_refl _) _).alloc (by simp only [World.size_alloc]; omega) _)
  have hs0 : W0.heap.size = w.heap.size + 2 := by rw [hW0]; simp
  have HX0 : Hid (BoxT W0 w.heap.size (.slice A n c) (.slice B m d)) := hide (by rw [hW0]; exact (BoxT.new w _ _).alloc _)
  have HXR : Hid (BoxT W0 (w.heap.size + 1) (.slice none 0 0) (.slice none 0 0)) := hide (by
    rw [hW0]
    have h := BoxT.new (w.alloc (.cells #[.slice A n c, .slice B m d] 25)) (.slice none 0 0) (.slice none 0 0)
    rwa [World.size_alloc] at h)
  have hW0' := hW0.symm
  clear hW0
  have HA := hide (hA.below HB0.out)
  have HB := hide (hB.below HB0.out)
  clear hA hB
  have a0 := HX0.out.c0
  have a1 := HX0.out.c1
  go_enter Tryz.func16, Tryz.ntmps16
  go_wp2_with fail
  refine Calls.mono (ofOne_relu_bad A B n c m d s l _ HA.out HB.out hn hbad) ?_
  rintro e w1 ⟨rfl, hb⟩
  have r0 := (HXR.out.kept hb).c0
  have r1 := (HXR.out.kept hb).c1
  have rf0 := (HXR.out.kept hb).f0 0
  have rf1 := (HXR.out.kept hb).f0 1
  have HBB := hide (HB0.out.trans (hb.mono (by omega)))
  have HXF := hide (HXR.out.kept hb)
  clear hb
  go_wp2
  (try simp only [Exit.inBlock, Exit.then])
  refine ret_ten (p := 2) (u := 3) rfl rfl (w.heap.size + 1) _ rfl (HXF.out.set2 _ _) rfl ?_
  exact ⟨rfl, (HBB.out.setCell (by dsimp only; omega) _).setCell (by dsimp only; omega) _⟩

set_option maxHeartbeats 1000000 in
theorem relu_ok (A B : Option Addr) (n c m d : Nat) (s l : List Int) (w : World) (hA : Lies w A n (s.map (Value.int .i64))) (hB : Lies w B m (l.map (Value.int .i32))) (hok : tenOk s m = true) :
    Calls Tryz.prog 16 #[tenV A n c B m d] w fun e w' => ∃ g1 c1 g2, e = .returned (.tuple #[tenV (some ⟨g1, 0, none⟩) n c1 (some ⟨g2, 0, none⟩) m m, .int .i64 0]) ∧
      w'.ownsRow w.heap.size 3 1 (.slice (some ⟨g1, 0, none⟩) n c1) n (s.map (Value.int .i64)) ∧ w'.ownsRow w.heap.size 21 1 (.slice (some ⟨g2, 0, none⟩) m m) m ((l.map relu32).map (Value.int .i32)) ∧ g1 ≠ g2 ∧ Below w.heap.size w w' := by
  obtain ⟨W0, hW0⟩ : ∃ W0, W0 = (w.alloc (.cells #[.slice A n c, .slice B m d] 25)).alloc (.cells #[.slice none 0 0, .slice none 0 0] 25) := ⟨_, rfl⟩
  have HB0 : Hid (Below w.heap.size w W0) := hide (by rw [hW0]; exact ((Below.refl w.heap.size w).alloc (Nat.le_refl _) _).alloc (by simp only [World.size_alloc]; omega) _)
  have hs0 : W0.heap.size = w.heap.size + 2 := by rw [hW0]; simp
  have HX0 : Hid (BoxT W0 w.heap.size (.slice A n c) (.slice B m d)) := hide (by rw [hW0]; exact (BoxT.new w _ _).alloc _)
  have HXR : Hid (BoxT W0 (w.heap.size + 1) (.slice none 0 0) (.slice none 0 0)) := hide (by
    rw [hW0]
    have h := BoxT.new (w.alloc (.cells #[.slice A n c, .slice B m d] 25)) (.slice none 0 0) (.slice none 0 0)
    rwa [World.size_alloc] at h)
  have hW0' := hW0.symm
  clear hW0
  have HA := hide (hA.below HB0.out)
  have HB := hide (hB.below HB0.out)
  clear hA hB
  have a0 := HX0.out.c0
  have a1 := HX0.out.c1
  go_enter Tryz.func16, Tryz.ntmps16
  go_wp2_with fail
  refine Calls.mono (ofOne_relu_ok A B n c m d s l _ HA.out HB.out hok) ?_
  rintro e w1 ⟨g1, c1, g2, rfl, ho1, ho2, hne, hb⟩
  have r0 := (HXR.out.kept hb).c0
  have r1 := (HXR.out.kept hb).c1
  have rf0 := (HXR.out.kept hb).f0 0
  have rf1 := (HXR.out.kept hb).f0 1
  have lt1 := ho1.lt g1 rfl
  have lt2 := ho2.lt g2 rfl
  have HBB := hide (HB0.out.trans (hb.mono (by omega)))
  have HXF := hide (HXR.out.kept hb)
  have HO1 := hide ho1
  have HO2 := hide ho2
  clear hb ho1 ho2
  go_wp2
  (try simp only [Exit.inBlock, Exit.then])
  refine ret_ten (p := 2) (u := 3) rfl rfl (w.heap.size + 1) _ rfl (HXF.out.set2 _ _) rfl ?_
  refine ⟨g1, c1, g2, rfl, ?_, ?_, hne, (HBB.out.setCell (by dsimp only; omega) _).setCell (by dsimp only; omega) _⟩
  · exact own_base (own_setCell' (own_setCell' HO1.out (by dsimp only; omega) _) (by dsimp only; omega) _) (by omega)
  · exact own_base (own_setCell' (own_setCell' HO2.out (by dsimp only; omega) _) (by dsimp only; omega) _) (by omega)

set_option maxHeartbeats 1000000 in
theorem shift_bad (A B : Option Addr) (n c m d : Nat) (s l : List Int) (w : World) (hA : Lies w A n (s.map (Value.int .i64))) (hB : Lies w B m (l.map (Value.int .i32))) (hn : n ≤ 281474976710656) (z : Int) (hbad : ¬ (tenOk s m = true ∧ 0 ≤ z ∧ z ≤ 31)) :
    Calls Tryz.prog 17 #[tenV A n c B m d, .int .i64 z] w fun e w' => e = .returned (.tuple #[tenV none 0 0 none 0 0, .int .i64 1]) ∧ Below w.heap.size w w' := by
  obtain ⟨W0, hW0⟩ : ∃ W0, W0 = ((w.alloc (.cells #[.slice A n c, .slice B m d] 25)).alloc (.cells #[.int .i64 z] 3)).alloc (.cells #[.slice none 0 0, .slice none 0 0] 25) := ⟨_, rfl⟩
  have HB0 : Hid (Below w.heap.size w W0) := hide (by rw [hW0]; exact (((Below.refl w.heap.size w).alloc (Nat.le_refl _) _).alloc (by simp only [World.size_alloc]; omega) _).alloc (by simp only [World.size_alloc]; omega) _)
  have hs0 : W0.heap.size = w.heap.size + 3 := by rw [hW0]; simp
  have HX0 : Hid (BoxT W0 w.heap.size (.slice A n c) (.slice B m d)) := hide (by rw [hW0]; exact ((BoxT.new w _ _).alloc _).alloc _)
  have HXN : Hid (Box1 W0 (w.heap.size + 1) 3 (.int .i64 z)) := hide (by
    rw [hW0]
    have h := Box1.new (w.alloc (.cells #[.slice A n c, .slice B m d] 25)) (.int .i64 z) 3
    rw [World.size_alloc] at h
    exact (Below.heap_alloc _ _ _ (by simp only [World.size_alloc]; omega)).trans h)
  have HXR : Hid (BoxT W0 (w.heap.size + 2) (.slice none 0 0) (.slice none 0 0)) := hide (by
    rw [hW0]
    have h := BoxT.new ((w.alloc (.cells #[.slice A n c, .slice B m d] 25)).alloc (.cells #[.int .i64 z] 3)) (.slice none 0 0) (.slice none 0 0)
    rwa [World.size_alloc, World.size_alloc] at h)
  have hW0' := hW0.symm
  clear hW0
  have HA := hide (hA.below HB0.out)
  have HB := hide (hB.below HB0.out)
  clear hA hB
  have a0 := HX0.out.c0
  have a1 := HX0.out.c1
  have n0 := HXN.out.cell
  have hb : Below W0.heap.size W0 W0 := Below.refl _ W0
  have r0 := (HXR.out.kept hb).c0
  have r1 := (HXR.out.kept hb).c1
  have rf0 := (HXR.out.kept hb).f0 0
  have rf1 := (HXR.out.kept hb).f0 1
  go_enter Tryz.func17, Tryz.ntmps17
  by_cases h0 : z < 0
  · have HBB := hide (HB0.out.trans (hb.mono (by omega)))
    have HXF := hide (HXR.out.kept hb)
    clear hb
    go_wp2
    (try simp only [Exit.inBlock, Exit.then])
    refine ret_ten (p := 4) (u := 5) rfl rfl (w.heap.size + 2) _ rfl (HXF.out.set2 _ _) rfl ?_
    exact ⟨rfl, (HBB.out.setCell (by dsimp only; omega) _).setCell (by dsimp only; omega) _⟩
  · have h0' : 0 ≤ z := by omega
    by_cases h1 : 31 < z
    · have HBB := hide (HB0.out.trans (hb.mono (by omega)))
      have HXF := hide (HXR.out.kept hb)
      clear hb
      go_wp2
      (try simp only [Exit.inBlock, Exit.then])
      refine ret_ten (p := 4) (u := 5) rfl rfl (w.heap.size + 2) _ rfl (HXF.out.set2 _ _) rfl ?_
      exact ⟨rfl, (HBB.out.setCell (by dsimp only; omega) _).setCell (by dsimp only; omega) _⟩
    · have h1' : z ≤ 31 := by omega
      have hbad2 : tenOk s m = false := by
        cases h : tenOk s m with
        | false => rfl
        | true => exact absurd ⟨h, h0', h1'⟩ hbad
      clear hb r0 r1 rf0 rf1 hbad
      go_wp2_with fail
      refine Calls.mono (ofOne_shift_bad A B n c m d s l _ HA.out HB.out ⟨w.heap.size + 1, 0, none⟩ hn hbad2) ?_
      rintro e w1 ⟨rfl, hb⟩
      have r0 := (HXR.out.kept hb).c0
      have r1 := (HXR.out.kept hb).c1
      have rf0 := (HXR.out.kept hb).f0 0
      have rf1 := (HXR.out.kept hb).f0 1
      have HBB := hide (HB0.out.trans (hb.mono (by omega)))
      have HXF := hide (HXR.out.kept hb)
      clear hb
      go_wp2
      (try simp only [Exit.inBlock, Exit.then])
      refine ret_ten (p := 4) (u := 5) rfl rfl (w.heap.size + 2) _ rfl (HXF.out.set2 _ _) rfl ?_
      exact ⟨rfl, (HBB.out.setCell (by dsimp only; omega) _).setCell (by dsimp only; omega) _⟩

set_option maxHeartbeats 1000000 in
theorem shift_ok (A B : Option Addr) (n c m d : Nat) (s l : List Int) (w : World) (hA : Lies w A n (s.map (Value.int .i64))) (hB : Lies w B m (l.map (Value.int .i32))) (bits : Nat) (hbits : bits ≤ 31) (hw : ∀ z ∈ l, -2147483648 ≤ z ∧ z < 2147483648) (hok : tenOk s m = true) :
    Calls Tryz.prog 17 #[tenV A n c B m d, .int .i64 (bits : Int)] w fun e w' => ∃ g1 c1 g2, e = .returned (.tuple #[tenV (some ⟨g1, 0, none⟩) n c1 (some ⟨g2, 0, none⟩) m m, .int .i64 0]) ∧
      w'.ownsRow w.heap.size 3 1 (.slice (some ⟨g1, 0, none⟩) n c1) n (s.map (Value.int .i64)) ∧ w'.ownsRow w.heap.size 21 1 (.slice (some ⟨g2, 0, none⟩) m m) m ((l.map (shf bits)).map (Value.int .i32)) ∧ g1 ≠ g2 ∧ Below w.heap.size w w' := by
  obtain ⟨W0, hW0⟩ : ∃ W0, W0 = ((w.alloc (.cells #[.slice A n c, .slice B m d] 25)).alloc (.cells #[.int .i64 (bits : Int)] 3)).alloc (.cells #[.slice none 0 0, .slice none 0 0] 25) := ⟨_, rfl⟩
  have HB0 : Hid (Below w.heap.size w W0) := hide (by rw [hW0]; exact (((Below.refl w.heap.size w).alloc (Nat.le_refl _) _).alloc (by simp only [World.size_alloc]; omega) _).alloc (by simp only [World.size_alloc]; omega) _)
  have hs0 : W0.heap.size = w.heap.size + 3 := by rw [hW0]; simp
  have HX0 : Hid (BoxT W0 w.heap.size (.slice A n c) (.slice B m d)) := hide (by rw [hW0]; exact ((BoxT.new w _ _).alloc _).alloc _)
  have HXN : Hid (Box1 W0 (w.heap.size + 1) 3 (.int .i64 (bits : Int))) := hide (by
    rw [hW0]
    have h := Box1.new (w.alloc (.cells #[.slice A n c, .slice B m d] 25)) (.int .i64 (bits : Int)) 3
    rw [World.size_alloc] at h
    exact (Below.heap_alloc _ _ _ (by simp only [World.size_alloc]; omega)).trans h)
  have HXR : Hid (BoxT W0 (w.heap.size + 2) (.slice none 0 0) (.slice none 0 0)) := hide (by
    rw [hW0]
    have h := BoxT.new ((w.alloc (.cells #[.slice A n c, .slice B m d] 25)).alloc (.cells #[.int .i64 (bits : Int)] 3)) (.slice none 0 0) (.slice none 0 0)
    rwa [World.size_alloc, World.size_alloc] at h)
  have hW0' := hW0.symm
  clear hW0
  have HA := hide (hA.below HB0.out)
  have HB := hide (hB.below HB0.out)
  clear hA hB
  have a0 := HX0.out.c0
  have a1 := HX0.out.c1
  have n0 := HXN.out.cell
  have HW := hide hw
  have h0 : (0 : Int) ≤ (bits : Int) := by omega
  have h1 : (bits : Int) ≤ 31 := by omega
  clear hw
  go_enter Tryz.func17, Tryz.ntmps17
  go_wp2_with fail
  refine Calls.mono (ofOne_shift_ok A B n c m d s l _ HA.out HB.out bits ⟨w.heap.size + 1, 0, none⟩ hbits HXN.out.cell (by dsimp only; omega) HW.out hok) ?_
  rintro e w1 ⟨g1, c1, g2, rfl, ho1, ho2, hne, hb⟩
  have r0 := (HXR.out.kept hb).c0
  have r1 := (HXR.out.kept hb).c1
  have rf0 := (HXR.out.kept hb).f0 0
  have rf1 := (HXR.out.kept hb).f0 1
  have lt1 := ho1.lt g1 rfl
  have lt2 := ho2.lt g2 rfl
  have HBB := hide (HB0.out.trans (hb.mono (by omega)))
  have HXF := hide (HXR.out.kept hb)
  have HO1 := hide ho1
  have HO2 := hide ho2
  clear hb ho1 ho2
  go_wp2
  (try simp only [Exit.inBlock, Exit.then])
  refine ret_ten (p := 4) (u := 5) rfl rfl (w.heap.size + 2) _ rfl (HXF.out.set2 _ _) rfl ?_
  refine ⟨g1, c1, g2, rfl, ?_, ?_, hne, (HBB.out.setCell (by dsimp only; omega) _).setCell (by dsimp only; omega) _⟩
  · exact own_base (own_setCell' (own_setCell' HO1.out (by dsimp only; omega) _) (by dsimp only; omega) _) (by omega)
  · exact own_base (own_setCell' (own_setCell' HO2.out (by dsimp only; omega) _) (by dsimp only; omega) _) (by omega)

theorem relu_own (A B : Option Addr) (n c m d : Nat) (s l : List Int) (w : World) (hA : Lies w A n (s.map (Value.int .i64))) (hB : Lies w B m (l.map (Value.int .i32))) (hn : n ≤ 281474976710656) :
    Calls Tryz.prog 16 #[tenV A n c B m d] w fun e w' => ∃ A1 k1 c1 A2 k2 c2, e = .returned (.tuple #[tenV A1 k1 c1 A2 k2 c2, .int .i64 (oneE s m)]) ∧
      w'.ownsRow w.heap.size 3 1 (.slice A1 k1 c1) k1 ((oneS s m).map (Value.int .i64)) ∧ w'.ownsRow w.heap.size 21 1 (.slice A2 k2 c2) k2 ((oneL relu32 s m l).map (Value.int .i32)) ∧ k1 ≤ 4 ∧ k2 ≤ 4096 ∧ Below w.heap.size w w' := by
  by_cases h : tenOk s m = true
  · obtain ⟨q1, q2⟩ := tenOk_iff.1 h
    obtain ⟨hn1, hn4, _⟩ := sizeI_pos q1
    have hm4 : m ≤ 4096 := by have := sizeI_le s; omega
    have hl1 : s.length = n := by have := hA.len; simpa using this
    refine (relu_ok A B n c m d s l w hA hB h).mono ?_
    rintro e w' ⟨g1, c1, g2, rfl, ho1, ho2, hne, hb⟩
    exact ⟨_, _, _, _, _, _, by rw [oneE, if_pos h], by rw [oneS, if_pos h]; exact ho1, by rw [oneL, if_pos h]; exact ho2, by omega, hm4, hb⟩
  · refine (relu_bad A B n c m d s l w hA hB hn (by simpa using h)).mono ?_
    rintro e w' ⟨rfl, hb⟩
    exact ⟨none, 0, 0, none, 0, 0, by rw [oneE, if_neg h], by rw [oneS, if_neg h]; exact World.ownsRow_nil _ _ _ _, by rw [oneL, if_neg h]; exact World.ownsRow_nil _ _ _ _, by omega, by omega, hb⟩
theorem shift_own (A B : Option Addr) (n c m d : Nat) (s l : List Int) (w : World) (hA : Lies w A n (s.map (Value.int .i64))) (hB : Lies w B m (l.map (Value.int .i32))) (hn : n ≤ 281474976710656) (z : Int) (hw : ∀ z ∈ l, -2147483648 ≤ z ∧ z < 2147483648) :
    Calls Tryz.prog 17 #[tenV A n c B m d, .int .i64 z] w fun e w' => ∃ A1 k1 c1 A2 k2 c2, e = .returned (.tuple #[tenV A1 k1 c1 A2 k2 c2, .int .i64 (shE s m z)]) ∧
      w'.ownsRow w.heap.size 3 1 (.slice A1 k1 c1) k1 ((shS s m z).map (Value.int .i64)) ∧ w'.ownsRow w.heap.size 21 1 (.slice A2 k2 c2) k2 ((shL s m z l).map (Value.int .i32)) ∧ k1 ≤ 4 ∧ k2 ≤ 4096 ∧ Below w.heap.size w w' := by
  by_cases h : tenOk s m = true ∧ 0 ≤ z ∧ z ≤ 31
  · obtain ⟨q1, q2⟩ := tenOk_iff.1 h.1
    obtain ⟨hn1, hn4, _⟩ := sizeI_pos q1
    have hm4 : m ≤ 4096 := by have := sizeI_le s; omega
    have hl1 : s.length = n := by have := hA.len; simpa using this
    obtain ⟨bits, rfl⟩ : ∃ bits : Nat, z = (bits : Int) := ⟨z.toNat, by omega⟩
    refine (shift_ok A B n c m d s l w hA hB bits (by omega) hw h.1).mono ?_
    rintro e w' ⟨g1, c1, g2, rfl, ho1, ho2, hne, hb⟩
    exact ⟨_, _, _, _, _, _, by rw [shE, if_pos h], by rw [shS, if_pos h]; exact ho1, by rw [shL, if_pos h]; exact ho2, by omega, hm4, hb⟩
  · refine (shift_bad A B n c m d s l w hA hB hn z h).mono ?_
    rintro e w' ⟨rfl, hb⟩
    exact ⟨none, 0, 0, none, 0, 0, by rw [shE, if_neg h], by rw [shS, if_neg h]; exact World.ownsRow_nil _ _ _ _, by rw [shL, if_neg h]; exact World.ownsRow_nil _ _ _ _, by omega, by omega, hb⟩

end

section
open Go.RowKit
set_option linter.unusedVariables false
set_option linter.unusedSimpArgs false
set_option maxRecDepth 100000
theorem below_al7 {W v : World} {o : Obj} (h : Below W.heap.size W v) : Below W.heap.size W (v.alloc o) := h.alloc h.size o
theorem below_nx7 {W v w' : World} (h : Below W.heap.size W v) (k : Below v.heap.size v w') : Below W.heap.size W w' := h.trans (k.mono h.size)

set_option maxHeartbeats 800000 in
theorem rtnew_own (A : Option Addr) (n c q : Nat) (s : List Int) (w : World) (h : Lies w A n (s.map (Value.int .i64))) (hnil : A = none → c = 0) (hq : sizeI s = (q : Int)) (hp : 0 < q) :
    Calls Tryz.prog 28 #[.slice A n c] w fun e w' => ∃ A1 c1 g2, e = .returned (.tuple #[tenV A1 n c1 (some ⟨g2, 0, none⟩) q q, .int .i64 0]) ∧
      Lies w' A1 n (s.map (Value.int .i64)) ∧ w'.ownsRow w.heap.size 21 1 (.slice (some ⟨g2, 0, none⟩) q q) q (List.replicate q (.int .i32 0)) ∧ (∀ b o, A1 = some ⟨b, o, none⟩ → b ≠ g2) ∧ Below w.heap.size w w' := by
  have hlen : s.length = n := by have := h.len; simpa using this
  obtain ⟨hn1, hn4, _⟩ := sizeI_pos (xs := s) (by omega)
  rw [hlen] at hn1 hn4
  have hq4 := sizeI_le s
  have HA := hide h
  have HD : Hid (decide (0 < sizeI s) = true) := hide (decide_eq_true (by omega))
  have HQ := hide hq
  have HNIL := hide hnil
  obtain ⟨i0, hi, hz0, hz1, hz2⟩ := info_parts Tryz.infoI
  have HI := hide hi
  have HZ0 := hide hz0
  have HZ1 := hide hz1
  have HZ2 := hide hz2
  clear h hq hlen hi hz0 hz1 hz2 hnil
  obtain ⟨W, hW⟩ : ∃ W, W = w.alloc (.cells #[.slice none 0 0, .slice none 0 0] 25) := ⟨_, rfl⟩
  have HBX : Hid (BoxT W w.heap.size (.slice none 0 0) (.slice none 0 0)) := hide (by rw [hW]; exact BoxT.new w _ _)
  have HBB : Hid (Below w.heap.size w W) := hide (by rw [hW]; exact (Below.refl w.heap.size w).alloc (Nat.le_refl _) _)
  have hW' := hW.symm
  clear hW
  go_enter Tryz.func28, Tryz.ntmps28
  go_wp2_with fail
  refine Calls.mono (rcheck_any A n c s _ (HA.out.below HBB.out) (by omega)) ?_
  rintro e w2 ⟨rfl, rfl⟩
  rw [HD.out]
  go_wp2_with (at_builtin; with_reducible refine wpList_append_nil rfl (.const (.slice none 0 0)) (.tmp 8) 22 rfl 3 i0 (.int .i64 0) 8 Tryz.underlying22 HI.out HZ0.out HZ1.out HZ2.out rfl rfl A n c .i64 s rfl (HA.out.below HBB.out) HNIL.out (by omega) (by unfold maxLen; omega) ?_)
  intro A1 c1 w3 ho1 hb3
  have hs23 := hb3.size
  have HBX3 := hide (HBX.out.kept hb3)
  have hlt3 := HBX.out.lt
  have HB3 := hide (HBB.out.trans (hb3.mono HBB.out.size))
  have HO1 := hide ho1
  clear ho1 hb3 HBX
  go_wp2_with fail
  refine Calls.mono (rsize_any A n c s w3 (HA.out.below HB3.out) (by omega)) ?_
  rintro e w4 ⟨rfl, rfl⟩
  have hsz := HB3.out.size
  rw [HQ.out]
  have hmk := make_nums [] (q : Int) q rfl (by have := HQ.out; omega) w3
  have HBX5 := hide (HBX3.out.alloc (.cells (part [] q 0).toArray 21))
  have hmk5 := heap_alloc_new w3 (.cells (part [] q 0).toArray 21)
  have HMK := hide hmk5
  clear HBX3 hmk5
  go_wp2_with (refine wpList_store_row rfl 25 _ _ rfl w.heap.size #[.slice A1 n c1, .slice (some ⟨w3.heap.size, 0, none⟩) q q] rfl rfl 25 _ HBX5.out sizeT rfl (by simp [Value.oneCell']) ?_)
  (try simp only [Exit.inBlock, Exit.then])
  refine ret_ten (p := 2) (u := 3) rfl rfl w.heap.size _ rfl (HBX5.out.set _ _) rfl ?_
  refine ⟨A1, c1, w3.heap.size, rfl, ?_, ?_, ?_, below_setRow (HB3.out.alloc (by omega) _) (Nat.le_refl _) _⟩
  · exact lies_of_own (own_setRow (HO1.out.alloc _) hlt3 _)
  · have h0 : World.ownsRow (w3.alloc (.cells (part [] q 0).toArray 21)) w3.heap.size 21 1 (.slice (some ⟨w3.heap.size, 0, none⟩) q q) q (List.replicate q (.int .i32 0)) := own_of_block (Nat.le_refl _) HMK.out (by rw [part_none]; simp) (Nat.le_refl _) (by unfold maxLen; have := HQ.out; omega) (by rw [part_none]; simp)
    have hne : w.heap.size ≠ w3.heap.size := by omega
    exact own_base (own_setRow h0 (by omega) _) (by omega)
  · intro b o e
    have h := HO1.out
    rcases own_addr h with rfl | ⟨g, rfl⟩
    · cases e
    · cases e
      have := (h.lt b rfl).2
      omega

set_option maxHeartbeats 1000000 in
theorem both_any (A B A' B' : Option Addr) (n c m d n' c' m' d' : Nat) (s l s' l' : List Int) (w : World) (hA : Lies w A n (s.map (Value.int .i64))) (hB : Lies w B m (l.map (Value.int .i32))) (hA' : Lies w A' n' (s'.map (Value.int .i64))) (hB' : Lies w B' m' (l'.map (Value.int .i32))) (hn : n ≤ 281474976710656) (hn' : n' ≤ 281474976710656) :
    Calls Tryz.prog 27 #[tenV A n c B m d, tenV A' n' c' B' m' d'] w fun e w' => e = .returned (.int .i64 (twoE s m s' m')) ∧ Below w.heap.size w w' := by
  obtain ⟨W0, hW0⟩ : ∃ W0, W0 = ((w.alloc (.cells #[.slice A n c, .slice B m d] 25)).alloc (.cells #[.slice A' n' c', .slice B' m' d'] 25)) := ⟨_, rfl⟩
  have HB0 : Hid (Below w.heap.size w W0) := hide (by rw [hW0]; exact ((Below.refl w.heap.size w).alloc (Nat.le_refl _) _).alloc (by simp only [World.size_alloc]; omega) _)
  have hs0 : W0.heap.size = w.heap.size + 2 := by rw [hW0]; simp
  have HX0 : Hid (BoxT W0 w.heap.size (.slice A n c) (.slice B m d)) := hide (by rw [hW0]; exact ((BoxT.new w _ _).alloc _))
  have HX1 : Hid (BoxT W0 (w.heap.size + 1) (.slice A' n' c') (.slice B' m' d')) := hide (by
    rw [hW0]
    have h := (BoxT.new (w.alloc (.cells #[.slice A n c, .slice B m d] 25)) (.slice A' n' c') (.slice B' m' d'))
    rwa [World.size_alloc] at h)
  have hW0' := hW0.symm
  clear hW0
  have HA := hide (hA.below HB0.out)
  have HB := hide (hB.below HB0.out)
  have HA' := hide (hA'.below HB0.out)
  have HB' := hide (hB'.below HB0.out)
  clear hA hB hA' hB'
  have a0 := HX0.out.c0
  have a1 := HX0.out.c1
  have b0 := HX1.out.c0
  have b1 := HX1.out.c1
  go_enter Tryz.func27, Tryz.ntmps27
  go_wp2_with fail
  refine Calls.mono (rtcheck_any A B n c m d s _ HA.out hn) ?_
  rintro e w1 ⟨rfl, hb⟩
  have hb1 := hb
  clear a0 a1 b0 b1 hb
  have b0 := (HX1.out.kept hb1).c0
  have b1 := (HX1.out.kept hb1).c1
  by_cases h1 : tenOk s m = true
  · rw [h1]
    go_wp2_with fail
    refine Calls.mono (rtcheck_any A' B' n' c' m' d' s' _ (HA'.out.below hb1) hn') ?_
    rintro e w2 ⟨rfl, hb⟩
    have hb2 := below_nx7 hb1 hb
    clear b0 b1 hb
    by_cases h2 : tenOk s' m' = true
    · rw [h2]
      have a0 := (HX0.out.kept hb2).c0
      have b0 := (HX1.out.kept hb2).c0
      go_wp2_with fail
      refine Calls.mono (rsame_ints A A' n c n' c' s s' _ (HA.out.below hb2) (HA'.out.below hb2) hn) ?_
      rintro e w3 ⟨rfl, hj⟩
      have hb3 : Below W0.heap.size W0 w3 := by first | (obtain ⟨j, hj⟩ := hj; rw [hj]; exact below_drewN hb2 j) | (rw [← hj]; exact hb2) | (rw [hj]; exact hb2)
      have HBB := hide (HB0.out.trans (hb3.mono (by omega)))
      clear hj a0 b0
      by_cases h3 : s = s'
      · have HE := hide (twoE_ok h1 h2 h3)
        rw [decide_eq_true h3]
        go_wp2
        go_ret
        exact ⟨by rw [HE.out]; rfl, HBB.out⟩
      · have HE := hide (twoE_shape h1 h2 h3)
        rw [decide_eq_false h3]
        go_wp2
        go_ret
        exact ⟨by rw [HE.out]; rfl, HBB.out⟩
    · have HE := hide (twoE_arg (s := s) (m := m) (s' := s') (m' := m') (fun e => h2 e.2))
      have HBB := hide (HB0.out.trans (hb2.mono (by omega)))
      rw [show tenOk s' m' = false by simpa using h2]
      go_wp2
      go_ret
      exact ⟨by rw [HE.out]; rfl, HBB.out⟩
  · have HE := hide (twoE_arg (s := s) (m := m) (s' := s') (m' := m') (fun e => h1 e.1))
    have HBB := hide (HB0.out.trans (hb1.mono (by omega)))
    rw [show tenOk s m = false by simpa using h1]
    go_wp2
    go_ret
    exact ⟨by rw [HE.out]; rfl, HBB.out⟩

set_option maxHeartbeats 2000000 in
theorem radd_any (A B A' B' : Option Addr) (n c m d n' c' m' d' : Nat) (s l s' l' : List Int) (w : World) (hA : Lies w A n (s.map (Value.int .i64))) (hB : Lies w B m (l.map (Value.int .i32))) (hA' : Lies w A' n' (s'.map (Value.int .i64))) (hB' : Lies w B' m' (l'.map (Value.int .i32))) (hn : n ≤ 281474976710656) (hn' : n' ≤ 281474976710656) (hnil : A = none → c = 0) :
    Calls Tryz.prog 10 #[tenV A n c B m d, tenV A' n' c' B' m' d'] w fun e w' => ∃ A1 k1 c1 A2 k2 c2, e = .returned (.tuple #[tenV A1 k1 c1 A2 k2 c2, .int .i64 (twoE s m s' m')]) ∧
      Lies w' A1 k1 ((twoS s m s' m').map (Value.int .i64)) ∧ Lies w' A2 k2 ((twoL add32 s m s' m' l l').map (Value.int .i32)) ∧ Below w.heap.size w w' := by
  obtain ⟨W0, hW0⟩ : ∃ W0, W0 = ((w.alloc (.cells #[.slice A n c, .slice B m d] 25)).alloc (.cells #[.slice A' n' c', .slice B' m' d'] 25)).alloc (.cells #[.slice none 0 0, .slice none 0 0] 25) := ⟨_, rfl⟩
  have HB0 : Hid (Below w.heap.size w W0) := hide (by rw [hW0]; exact (((Below.refl w.heap.size w).alloc (Nat.le_refl _) _).alloc (by simp only [World.size_alloc]; omega) _).alloc (by simp only [World.size_alloc]; omega) _)
  have hs0 : W0.heap.size = w.heap.size + 3 := by rw [hW0]; simp
  have HX0 : Hid (BoxT W0 w.heap.size (.slice A n c) (.slice B m d)) := hide (by rw [hW0]; exact ((BoxT.new w _ _).alloc _).alloc _)
  have HX1 : Hid (BoxT W0 (w.heap.size + 1) (.slice A' n' c') (.slice B' m' d')) := hide (by
    rw [hW0]
    have h := (BoxT.new (w.alloc (.cells #[.slice A n c, .slice B m d] 25)) (.slice A' n' c') (.slice B' m' d')).alloc (.cells #[.slice none 0 0, .slice none 0 0] 25)
    rwa [World.size_alloc] at h)
  have HXR : Hid (BoxT W0 (w.heap.size + 2) (.slice none 0 0) (.slice none 0 0)) := hide (by
    rw [hW0]
    have h := BoxT.new ((w.alloc (.cells #[.slice A n c, .slice B m d] 25)).alloc (.cells #[.slice A' n' c', .slice B' m' d'] 25)) (.slice none 0 0) (.slice none 0 0)
    rwa [World.size_alloc, World.size_alloc] at h)
  have hW0' := hW0.symm
  clear hW0
  have HA := hide (hA.below HB0.out)
  have HB := hide (hB.below HB0.out)
  have HA' := hide (hA'.below HB0.out)
  have HB' := hide (hB'.below HB0.out)
  clear hA hB hA' hB'
  have a0 := HX0.out.c0
  have a1 := HX0.out.c1
  have b0 := HX1.out.c0
  have b1 := HX1.out.c1
  have HL : Hid (l.length = m) := hide (by have := HB.out.len; simpa using this)
  have HL' : Hid (l'.length = m') := hide (by have := HB'.out.len; simpa using this)
  have hslen : s.length = n := by have := HA.out.len; simpa using this
  go_enter Tryz.func10, Tryz.ntmps10
  go_wp2_with fail
  refine Calls.mono (both_any A B A' B' n c m d n' c' m' d' s l s' l' _ HA.out HB.out HA'.out HB'.out hn hn') ?_
  rintro e w1 ⟨rfl, hb1⟩
  clear a0 a1 b0 b1
  by_cases hz : twoE s m s' m' = 0
  rotate_left
  · have r0 := (HXR.out.kept hb1).c0
    have r1 := (HXR.out.kept hb1).c1
    have rf0 := (HXR.out.kept hb1).f0 0
    have rf1 := (HXR.out.kept hb1).f0 1
    have HXF := hide (HXR.out.kept hb1)
    have HBB := hide (HB0.out.trans (hb1.mono (by omega)))
    have HTS : Hid (twoS s m s' m' = [] ∧ twoL add32 s m s' m' l l' = []) := hide (by rw [twoS, twoL, if_neg hz, if_neg hz]; exact ⟨rfl, rfl⟩)
    obtain ⟨E, hE⟩ : ∃ E, E = twoE s m s' m' := ⟨_, rfl⟩
    have HEE := hide hE
    rw [← hE] at hz ⊢
    have hz1 : (E == 0) = false := beq_eq_false_iff_ne.2 hz
    clear hE hb1
    go_wp2
    (try simp only [Exit.inBlock, Exit.then])
    refine ret_ten (p := 4) (u := 5) rfl rfl (w.heap.size + 2) _ rfl (HXF.out.set2 _ _) rfl ?_
    exact ⟨none, 0, 0, none, 0, 0, by rw [← HEE.out]; rfl, by rw [HTS.out.1]; exact Lies.nothing, by rw [HTS.out.2]; exact Lies.nothing, (HBB.out.setCell (by dsimp only; omega) _).setCell (by dsimp only; omega) _⟩
  · obtain ⟨hok, hok', rfl⟩ := twoE_iff.1 hz
    obtain ⟨q1, q2⟩ := tenOk_iff.1 hok
    obtain ⟨q3, q4⟩ := tenOk_iff.1 hok'
    obtain ⟨hn1, hn4, _⟩ := sizeI_pos q1
    rw [hslen] at hn1 hn4
    have hm4 : m ≤ 4096 := by have := sizeI_le s; omega
    obtain rfl : m' = m := by omega
    have hmp : 0 < m' := by omega
    have HQ := hide q2
    have HZ0 : Hid (twoE s m' s m' = 0) := hide hz
    have HTS : Hid (twoS s m' s m' = s ∧ twoL add32 s m' s m' l l' = List.zipWith add32 l l') := hide (by rw [twoS, twoL, if_pos hz, if_pos hz]; exact ⟨rfl, rfl⟩)
    rw [hz]
    clear q1 q2 q3 q4 hz hok hok'
    have a0 := (HX0.out.kept hb1).c0
    have a1 := (HX0.out.kept hb1).c1
    go_wp2_with fail
    refine Calls.mono (rtnew_own A n c m' s _ (HA.out.below hb1) hnil HQ.out hmp) ?_
    rintro e u ⟨A1, c1, g2, rfl, hl1, ho2, hne, hb⟩
    have lt2 := ho2.lt g2 rfl
    obtain ⟨zs, hzs⟩ : ∃ zs, zs = List.zipWith add32 l l' := ⟨_, rfl⟩
    have HZL : Hid (zs.length = m') := hide (by rw [hzs, List.length_zipWith, HL.out, HL'.out]; simp)
    have HZK : Hid (∀ k, k < m' → zs.getD k 0 = add32 (l.getD k 0) (l'.getD k 0)) := hide (fun k hk => by rw [hzs]; simp [List.getD, List.getElem?_zipWith, List.getElem?_eq_getElem (show k < l.length by rw [HL.out]; exact hk), List.getElem?_eq_getElem (show k < l'.length by rw [HL'.out]; exact hk)])
    have HZS := hide hzs
    clear hzs
    obtain ⟨W1, hW1⟩ : ∃ W1, W1 = u.alloc (.cells #[.slice A1 n c1, .slice (some ⟨g2, 0, none⟩) m' m'] 25) := ⟨_, rfl⟩
    have HB1 : Hid (Below W0.heap.size W0 W1) := hide (by rw [hW1]; exact below_al7 (below_nx7 hb1 hb))
    have HT1 : Hid (BoxT W1 u.heap.size (.slice A1 n c1) (.slice (some ⟨g2, 0, none⟩) m' m')) := hide (by rw [hW1]; exact BoxT.new u _ _)
    have HS1 : Hid (Lies W1 A1 n (s.map (Value.int .i64))) := hide (by rw [hW1]; exact hl1.alloc _)
    have HF1 : Hid (FillAt W1 g2 m' zs 0) := hide (by rw [hW1]; exact FillAt.of_own (ho2.alloc _) zs)
    have hs1 : W1.heap.size = u.heap.size + 1 := by rw [hW1]; simp
    have hsb1 := hb1.size
    have HNE := hide hne
    have hW1' := hW1.symm
    clear hW1 hl1 ho2 hne hb hb1 a0 a1
    have HX0w := hide (HX0.out.kept HB1.out)
    have HX1w := hide (HX1.out.kept HB1.out)
    have HXRw := hide (HXR.out.kept HB1.out)
    have HB1l := hide (HB.out.below HB1.out)
    have HB1l' := hide (HB'.out.below HB1.out)
    have HBw := hide (HB0.out.trans (HB1.out.mono (by omega)))
    have HN1 : Hid (∀ b o, B = some ⟨b, o, none⟩ → b ≠ g2) := hide (fun b o e => by
      obtain ⟨b', o', e', hb, _⟩ := HB.out.cells hmp
      rw [e] at e'
      cases e'
      omega)
    have HN2 : Hid (∀ b o, B' = some ⟨b, o, none⟩ → b ≠ g2) := hide (fun b o e => by
      obtain ⟨b', o', e', hb, _⟩ := HB'.out.cells hmp
      rw [e] at e'
      cases e'
      omega)
    go_wp2
    go_loopw [9] (fun i wr => ∃ k : Nat, k ≤ m' ∧ i = .int .i64 k ∧ Hid (FillAt wr g2 m' zs k) ∧ Hid (W1.grownBy wr (some g2))) (fun i _ => m' - (intOf i).toNat)
    case atStart => exact ⟨0, Nat.zero_le _, rfl, HF1, hide (World.grownBy.refl W1 (some g2))⟩
    case round =>
      obtain ⟨k, hk, rfl, HF, HG⟩ := hrel
      have hszr := HG.out.size
      have HTr : Hid (BoxT wr u.heap.size (.slice A1 n c1) (.slice (some ⟨g2, 0, none⟩) m' m')) := hide ((HG.out.block u.heap.size (by omega) (by simp; omega)).trans HT1.out)
      have t1 := HTr.out.c1
      by_cases hlt : k < m'
      · have h0 : (0 : Int) ≤ (k : Int) := by omega
        have h3 : (k : Int) < (m' : Int) := by omega
        have HX0r : Hid (BoxT wr w.heap.size (.slice A n c) (.slice B m' d)) := hide ((HG.out.block w.heap.size (by omega) (by simp; omega)).trans HX0w.out)
        have HX1r : Hid (BoxT wr (w.heap.size + 1) (.slice A' n' c') (.slice B' m' d')) := hide ((HG.out.block (w.heap.size + 1) (by omega) (by simp; omega)).trans HX1w.out)
        have a1 := HX0r.out.c1
        have b1 := HX1r.out.c1
        obtain ⟨b, o, rfl, _, hx⟩ := byte_at (grown_lies HG.out HB1l.out HN1.out) (by omega)
        obtain ⟨b', o', rfl, _, hy⟩ := byte_at (grown_lies HG.out HB1l'.out HN2.out) (by omega)
        have hcx := hx k hlt
        have hcy := hy k hlt
        obtain ⟨x, hxe⟩ : ∃ x, x = l.getD k 0 := ⟨_, rfl⟩
        obtain ⟨y, hye⟩ : ∃ y, y = l'.getD k 0 := ⟨_, rfl⟩
        rw [← hxe] at hcx
        rw [← hye] at hcy
        obtain ⟨v, hv⟩ : ∃ v, v = wrap32 (x + y) := ⟨_, rfl⟩
        have HV : Hid (v = zs.getD k 0) := hide (by rw [hv, HZK.out k hlt, ← hxe, ← hye]; rfl)
        have hv' := hv.symm
        have hcg := HF.out.cell hlt
        have hfg := HF.out.frozen k
        clear hx hy hxe hye hv
        have HNG : Hid (W1.grownBy (wr.setCell ⟨g2, k, none⟩ (.int .i32 v)).drew (some g2)) := hide (by
          have h := grown_trans HG.out (grown_cell6 wr ⟨g2, k, none⟩ (.int .i32 v))
          exact ⟨h.os, h.tape, h.output, h.size, h.block⟩)
        have HNF : Hid (FillAt (wr.setCell ⟨g2, k, none⟩ (.int .i32 v)).drew g2 m' zs (k + 1)) := hide (by
          have h := HF.out.set
          rwa [← HV.out] at h)
        go_wp2
        go_region
        (try rw [hv'])
        go_wp2
        go_roundw
        case rel => exact ⟨k + 1, by omega, by go_num, HNF, HNG⟩
        case measure => simp [intOf]; omega
      · obtain rfl : m' = k := by omega
        have t0 := HTr.out.c0
        have HRr : Hid (BoxT wr (w.heap.size + 2) (.slice none 0 0) (.slice none 0 0)) := hide ((HG.out.block (w.heap.size + 2) (by omega) (by simp; omega)).trans HXRw.out)
        have r0 := HRr.out.c0
        have r1 := HRr.out.c1
        have rf0 := HRr.out.f0 0
        have rf1 := HRr.out.f0 1
        have HLS := hide (grown_lies HG.out HS1.out HNE.out)
        have HLF : Hid (Lies wr (some ⟨g2, 0, none⟩) m' (zs.map (Value.int .i32))) := hide (lies_of_own (HF.out.own HZL.out (base := 0) (by omega) (by unfold maxLen; omega)))
        go_wp2
        (try simp only [Exit.inBlock, Exit.then])
        refine ret_ten (p := 4) (u := 5) rfl rfl (w.heap.size + 2) _ rfl (HRr.out.set2 _ _) rfl ?_
        refine ⟨A1, n, c1, some ⟨g2, 0, none⟩, m', m', by rw [HZ0.out]; rfl, ?_, ?_, ?_⟩
        · rw [HTS.out.1]
          refine HLS.out.keep (by simp) (fun bb oo e hbb j => ?_)
          by_cases e3 : bb = w.heap.size + 2
          · exfalso
            subst e3
            obtain ⟨b4, o4, e4, h4, h5⟩ := HLS.out.cells (by omega)
            rw [e] at e4
            cases e4
            have h6 := h5 0 (by omega)
            have h7 := HRr.out
            unfold BoxT at h7
            rw [cell_of_row _ _ _ _ _ (0, 0) h7] at h6
            obtain ⟨z0, hz0⟩ : ∃ z, (s.map (Value.int .i64))[0]? = some (.int .i64 z) := ⟨s[0]'(by omega), by simp [show 0 < s.length by omega]⟩
            rw [hz0] at h6
            have h8 : (#[Value.slice none 0 0, Value.slice none 0 0] : Array Value)[oo + 0]? = some (.int .i64 z0) := h6
            have h9 := Array.mem_of_getElem? h8
            simp at h9
          · exact World.cell?_of_block ((Below.heap_setCell _ _ _ _ e3).trans (Below.heap_setCell _ _ _ _ e3))
        · rw [HTS.out.2, ← HZS.out]
          exact HLF.out.keep (by simp) (fun bb oo e hbb j => by
            cases e
            exact World.cell?_of_block ((Below.heap_setCell _ _ _ _ (by dsimp only; omega)).trans (Below.heap_setCell _ _ _ _ (by dsimp only; omega))))
        · exact ((HBw.out.trans (below_grown HG.out (by omega) (by omega))).setCell (by dsimp only; omega) _).setCell (by dsimp only; omega) _

set_option maxHeartbeats 2000000 in
theorem rmul_any (A B A' B' : Option Addr) (n c m d n' c' m' d' : Nat) (s l s' l' : List Int) (w : World) (hA : Lies w A n (s.map (Value.int .i64))) (hB : Lies w B m (l.map (Value.int .i32))) (hA' : Lies w A' n' (s'.map (Value.int .i64))) (hB' : Lies w B' m' (l'.map (Value.int .i32))) (hn : n ≤ 281474976710656) (hn' : n' ≤ 281474976710656) (hnil : A = none → c = 0) :
    Calls Tryz.prog 11 #[tenV A n c B m d, tenV A' n' c' B' m' d'] w fun e w' => ∃ A1 k1 c1 A2 k2 c2, e = .returned (.tuple #[tenV A1 k1 c1 A2 k2 c2, .int .i64 (twoE s m s' m')]) ∧
      Lies w' A1 k1 ((twoS s m s' m').map (Value.int .i64)) ∧ Lies w' A2 k2 ((twoL mul32 s m s' m' l l').map (Value.int .i32)) ∧ Below w.heap.size w w' := by
  obtain ⟨W0, hW0⟩ : ∃ W0, W0 = ((w.alloc (.cells #[.slice A n c, .slice B m d] 25)).alloc (.cells #[.slice A' n' c', .slice B' m' d'] 25)).alloc (.cells #[.slice none 0 0, .slice none 0 0] 25) := ⟨_, rfl⟩
  have HB0 : Hid (Below w.heap.size w W0) := hide (by rw [hW0]; exact (((Below.refl w.heap.size w).alloc (Nat.le_refl _) _).alloc (by simp only [World.size_alloc]; omega) _).alloc (by simp only [World.size_alloc]; omega) _)
  have hs0 : W0.heap.size = w.heap.size + 3 := by rw [hW0]; simp
  have HX0 : Hid (BoxT W0 w.heap.size (.slice A n c) (.slice B m d)) := hide (by rw [hW0]; exact ((BoxT.new w _ _).alloc _).alloc _)
  have HX1 : Hid (BoxT W0 (w.heap.size + 1) (.slice A' n' c') (.slice B' m' d')) := hide (by
    rw [hW0]
    have h := (BoxT.new (w.alloc (.cells #[.slice A n c, .slice B m d] 25)) (.slice A' n' c') (.slice B' m' d')).alloc (.cells #[.slice none 0 0, .slice none 0 0] 25)
    rwa [World.size_alloc] at h)
  have HXR : Hid (BoxT W0 (w.heap.size + 2) (.slice none 0 0) (.slice none 0 0)) := hide (by
    rw [hW0]
    have h := BoxT.new ((w.alloc (.cells #[.slice A n c, .slice B m d] 25)).alloc (.cells #[.slice A' n' c', .slice B' m' d'] 25)) (.slice none 0 0) (.slice none 0 0)
    rwa [World.size_alloc, World.size_alloc] at h)
  have hW0' := hW0.symm
  clear hW0
  have HA := hide (hA.below HB0.out)
  have HB := hide (hB.below HB0.out)
  have HA' := hide (hA'.below HB0.out)
  have HB' := hide (hB'.below HB0.out)
  clear hA hB hA' hB'
  have a0 := HX0.out.c0
  have a1 := HX0.out.c1
  have b0 := HX1.out.c0
  have b1 := HX1.out.c1
  have HL : Hid (l.length = m) := hide (by have := HB.out.len; simpa using this)
  have HL' : Hid (l'.length = m') := hide (by have := HB'.out.len; simpa using this)
  have hslen : s.length = n := by have := HA.out.len; simpa using this
  go_enter Tryz.func11, Tryz.ntmps11
  go_wp2_with fail
  refine Calls.mono (both_any A B A' B' n c m d n' c' m' d' s l s' l' _ HA.out HB.out HA'.out HB'.out hn hn') ?_
  rintro e w1 ⟨rfl, hb1⟩
  clear a0 a1 b0 b1
  by_cases hz : twoE s m s' m' = 0
  rotate_left
  · have r0 := (HXR.out.kept hb1).c0
    have r1 := (HXR.out.kept hb1).c1
    have rf0 := (HXR.out.kept hb1).f0 0
    have rf1 := (HXR.out.kept hb1).f0 1
    have HXF := hide (HXR.out.kept hb1)
    have HBB := hide (HB0.out.trans (hb1.mono (by omega)))
    have HTS : Hid (twoS s m s' m' = [] ∧ twoL mul32 s m s' m' l l' = []) := hide (by rw [twoS, twoL, if_neg hz, if_neg hz]; exact ⟨rfl, rfl⟩)
    obtain ⟨E, hE⟩ : ∃ E, E = twoE s m s' m' := ⟨_, rfl⟩
    have HEE := hide hE
    rw [← hE] at hz ⊢
    have hz1 : (E == 0) = false := beq_eq_false_iff_ne.2 hz
    clear hE hb1
    go_wp2
    (try simp only [Exit.inBlock, Exit.then])
    refine ret_ten (p := 4) (u := 5) rfl rfl (w.heap.size + 2) _ rfl (HXF.out.set2 _ _) rfl ?_
    exact ⟨none, 0, 0, none, 0, 0, by rw [← HEE.out]; rfl, by rw [HTS.out.1]; exact Lies.nothing, by rw [HTS.out.2]; exact Lies.nothing, (HBB.out.setCell (by dsimp only; omega) _).setCell (by dsimp only; omega) _⟩
  · obtain ⟨hok, hok', rfl⟩ := twoE_iff.1 hz
    obtain ⟨q1, q2⟩ := tenOk_iff.1 hok
    obtain ⟨q3, q4⟩ := tenOk_iff.1 hok'
    obtain ⟨hn1, hn4, _⟩ := sizeI_pos q1
    rw [hslen] at hn1 hn4
    have hm4 : m ≤ 4096 := by have := sizeI_le s; omega
    obtain rfl : m' = m := by omega
    have hmp : 0 < m' := by omega
    have HQ := hide q2
    have HZ0 : Hid (twoE s m' s m' = 0) := hide hz
    have HTS : Hid (twoS s m' s m' = s ∧ twoL mul32 s m' s m' l l' = List.zipWith mul32 l l') := hide (by rw [twoS, twoL, if_pos hz, if_pos hz]; exact ⟨rfl, rfl⟩)
    rw [hz]
    clear q1 q2 q3 q4 hz hok hok'
    have a0 := (HX0.out.kept hb1).c0
    have a1 := (HX0.out.kept hb1).c1
    go_wp2_with fail
    refine Calls.mono (rtnew_own A n c m' s _ (HA.out.below hb1) hnil HQ.out hmp) ?_
    rintro e u ⟨A1, c1, g2, rfl, hl1, ho2, hne, hb⟩
    have lt2 := ho2.lt g2 rfl
    obtain ⟨zs, hzs⟩ : ∃ zs, zs = List.zipWith mul32 l l' := ⟨_, rfl⟩
    have HZL : Hid (zs.length = m') := hide (by rw [hzs, List.length_zipWith, HL.out, HL'.out]; simp)
    have HZK : Hid (∀ k, k < m' → zs.getD k 0 = mul32 (l.getD k 0) (l'.getD k 0)) := hide (fun k hk => by rw [hzs]; simp [List.getD, List.getElem?_zipWith, List.getElem?_eq_getElem (show k < l.length by rw [HL.out]; exact hk), List.getElem?_eq_getElem (show k < l'.length by rw [HL'.out]; exact hk)])
    have HZS := hide hzs
    clear hzs
    obtain ⟨W1, hW1⟩ : ∃ W1, W1 = u.alloc (.cells #[.slice A1 n c1, .slice (some ⟨g2, 0, none⟩) m' m'] 25) := ⟨_, rfl⟩
    have HB1 : Hid (Below W0.heap.size W0 W1) := hide (by rw [hW1]; exact below_al7 (below_nx7 hb1 hb))
    have HT1 : Hid (BoxT W1 u.heap.size (.slice A1 n c1) (.slice (some ⟨g2, 0, none⟩) m' m')) := hide (by rw [hW1]; exact BoxT.new u _ _)
    have HS1 : Hid (Lies W1 A1 n (s.map (Value.int .i64))) := hide (by rw [hW1]; exact hl1.alloc _)
    have HF1 : Hid (FillAt W1 g2 m' zs 0) := hide (by rw [hW1]; exact FillAt.of_own (ho2.alloc _) zs)
    have hs1 : W1.heap.size = u.heap.size + 1 := by rw [hW1]; simp
    have hsb1 := hb1.size
    have HNE := hide hne
    have hW1' := hW1.symm
    clear hW1 hl1 ho2 hne hb hb1 a0 a1
    have HX0w := hide (HX0.out.kept HB1.out)
    have HX1w := hide (HX1.out.kept HB1.out)
    have HXRw := hide (HXR.out.kept HB1.out)
    have HB1l := hide (HB.out.below HB1.out)
    have HB1l' := hide (HB'.out.below HB1.out)
    have HBw := hide (HB0.out.trans (HB1.out.mono (by omega)))
    have HN1 : Hid (∀ b o, B = some ⟨b, o, none⟩ → b ≠ g2) := hide (fun b o e => by
      obtain ⟨b', o', e', hb, _⟩ := HB.out.cells hmp
      rw [e] at e'
      cases e'
      omega)
    have HN2 : Hid (∀ b o, B' = some ⟨b, o, none⟩ → b ≠ g2) := hide (fun b o e => by
      obtain ⟨b', o', e', hb, _⟩ := HB'.out.cells hmp
      rw [e] at e'
      cases e'
      omega)
    go_wp2
    go_loopw [9] (fun i wr => ∃ k : Nat, k ≤ m' ∧ i = .int .i64 k ∧ Hid (FillAt wr g2 m' zs k) ∧ Hid (W1.grownBy wr (some g2))) (fun i _ => m' - (intOf i).toNat)
    case atStart => exact ⟨0, Nat.zero_le _, rfl, HF1, hide (World.grownBy.refl W1 (some g2))⟩
    case round =>
      obtain ⟨k, hk, rfl, HF, HG⟩ := hrel
      have hszr := HG.out.size
      have HTr : Hid (BoxT wr u.heap.size (.slice A1 n c1) (.slice (some ⟨g2, 0, none⟩) m' m')) := hide ((HG.out.block u.heap.size (by omega) (by simp; omega)).trans HT1.out)
      have t1 := HTr.out.c1
      by_cases hlt : k < m'
      · have h0 : (0 : Int) ≤ (k : Int) := by omega
        have h3 : (k : Int) < (m' : Int) := by omega
        have HX0r : Hid (BoxT wr w.heap.size (.slice A n c) (.slice B m' d)) := hide ((HG.out.block w.heap.size (by omega) (by simp; omega)).trans HX0w.out)
        have HX1r : Hid (BoxT wr (w.heap.size + 1) (.slice A' n' c') (.slice B' m' d')) := hide ((HG.out.block (w.heap.size + 1) (by omega) (by simp; omega)).trans HX1w.out)
        have a1 := HX0r.out.c1
        have b1 := HX1r.out.c1
        obtain ⟨b, o, rfl, _, hx⟩ := byte_at (grown_lies HG.out HB1l.out HN1.out) (by omega)
        obtain ⟨b', o', rfl, _, hy⟩ := byte_at (grown_lies HG.out HB1l'.out HN2.out) (by omega)
        have hcx := hx k hlt
        have hcy := hy k hlt
        obtain ⟨x, hxe⟩ : ∃ x, x = l.getD k 0 := ⟨_, rfl⟩
        obtain ⟨y, hye⟩ : ∃ y, y = l'.getD k 0 := ⟨_, rfl⟩
        rw [← hxe] at hcx
        rw [← hye] at hcy
        obtain ⟨v, hv⟩ : ∃ v, v = wrap32 (x * y) := ⟨_, rfl⟩
        have HV : Hid (v = zs.getD k 0) := hide (by rw [hv, HZK.out k hlt, ← hxe, ← hye]; rfl)
        have hv' := hv.symm
        have hcg := HF.out.cell hlt
        have hfg := HF.out.frozen k
        clear hx hy hxe hye hv
        have HNG : Hid (W1.grownBy (wr.setCell ⟨g2, k, none⟩ (.int .i32 v)).drew (some g2)) := hide (by
          have h := grown_trans HG.out (grown_cell6 wr ⟨g2, k, none⟩ (.int .i32 v))
          exact ⟨h.os, h.tape, h.output, h.size, h.block⟩)
        have HNF : Hid (FillAt (wr.setCell ⟨g2, k, none⟩ (.int .i32 v)).drew g2 m' zs (k + 1)) := hide (by
          have h := HF.out.set
          rwa [← HV.out] at h)
        go_wp2
        go_region
        (try rw [hv'])
        go_wp2
        go_roundw
        case rel => exact ⟨k + 1, by omega, by go_num, HNF, HNG⟩
        case measure => simp [intOf]; omega
      · obtain rfl : m' = k := by omega
        have t0 := HTr.out.c0
        have HRr : Hid (BoxT wr (w.heap.size + 2) (.slice none 0 0) (.slice none 0 0)) := hide ((HG.out.block (w.heap.size + 2) (by omega) (by simp; omega)).trans HXRw.out)
        have r0 := HRr.out.c0
        have r1 := HRr.out.c1
        have rf0 := HRr.out.f0 0
        have rf1 := HRr.out.f0 1
        have HLS := hide (grown_lies HG.out HS1.out HNE.out)
        have HLF : Hid (Lies wr (some ⟨g2, 0, none⟩) m' (zs.map (Value.int .i32))) := hide (lies_of_own (HF.out.own HZL.out (base := 0) (by omega) (by unfold maxLen; omega)))
        go_wp2
        (try simp only [Exit.inBlock, Exit.then])
        refine ret_ten (p := 4) (u := 5) rfl rfl (w.heap.size + 2) _ rfl (HRr.out.set2 _ _) rfl ?_
        refine ⟨A1, n, c1, some ⟨g2, 0, none⟩, m', m', by rw [HZ0.out]; rfl, ?_, ?_, ?_⟩
        · rw [HTS.out.1]
          refine HLS.out.keep (by simp) (fun bb oo e hbb j => ?_)
          by_cases e3 : bb = w.heap.size + 2
          · exfalso
            subst e3
            obtain ⟨b4, o4, e4, h4, h5⟩ := HLS.out.cells (by omega)
            rw [e] at e4
            cases e4
            have h6 := h5 0 (by omega)
            have h7 := HRr.out
            unfold BoxT at h7
            rw [cell_of_row _ _ _ _ _ (0, 0) h7] at h6
            obtain ⟨z0, hz0⟩ : ∃ z, (s.map (Value.int .i64))[0]? = some (.int .i64 z) := ⟨s[0]'(by omega), by simp [show 0 < s.length by omega]⟩
            rw [hz0] at h6
            have h8 : (#[Value.slice none 0 0, Value.slice none 0 0] : Array Value)[oo + 0]? = some (.int .i64 z0) := h6
            have h9 := Array.mem_of_getElem? h8
            simp at h9
          · exact World.cell?_of_block ((Below.heap_setCell _ _ _ _ e3).trans (Below.heap_setCell _ _ _ _ e3))
        · rw [HTS.out.2, ← HZS.out]
          exact HLF.out.keep (by simp) (fun bb oo e hbb j => by
            cases e
            exact World.cell?_of_block ((Below.heap_setCell _ _ _ _ (by dsimp only; omega)).trans (Below.heap_setCell _ _ _ _ (by dsimp only; omega))))
        · exact ((HBw.out.trans (below_grown HG.out (by omega) (by omega))).setCell (by dsimp only; omega) _).setCell (by dsimp only; omega) _

end

section
open Go.RowKit
set_option linter.unusedVariables false
set_option linter.unusedSimpArgs false
set_option maxRecDepth 100000

theorem shf_rng (n : Nat) (x : Int) : -128 ≤ shf n x ∧ shf n x ≤ 127 := by
  unfold shf
  split
  · omega
  · split <;> omega
theorem down_parts {x P : Int} (hP : 1 ≤ P) : (Int.tmod x P < 0 → x / P = Int.tdiv x P - 1) ∧ (¬ Int.tmod x P < 0 → x / P = Int.tdiv x P) := by
  have h1 := Int.tdiv_mul_add_tmod x P
  have h2 : -P < Int.tmod x P := by
    have := Int.lt_tmod_of_pos x (show 0 < P by omega)
    omega
  have h3 : Int.tmod x P < P := Int.tmod_lt_of_pos x (by omega)
  obtain ⟨q, hq⟩ : ∃ q, q = Int.tdiv x P := ⟨_, rfl⟩
  obtain ⟨r, hr⟩ : ∃ r, r = Int.tmod x P := ⟨_, rfl⟩
  rw [← hq, ← hr] at h1
  rw [← hr] at h2 h3
  rw [← hq, ← hr]
  constructor
  · intro h
    have e : x = (r + P) + (q - 1) * P := by rw [← h1, Int.sub_mul]; omega
    rw [e, Int.add_mul_ediv_right _ _ (by omega), Int.ediv_eq_zero_of_lt (by omega) (by omega)]
    omega
  · intro h
    have e : x = r + q * P := by rw [← h1]; omega
    rw [e, Int.add_mul_ediv_right _ _ (by omega), Int.ediv_eq_zero_of_lt (by omega) (by omega)]
    omega

set_option maxHeartbeats 800000 in
theorem down_any (x P R : Int) (w : World) (hP : 1 ≤ P ∧ P ≤ 2147483648) (hx : -8589934592 ≤ x ∧ x ≤ 8589934592) (hR : R = x / P) :
    Calls Tryz.prog 85 #[.int .i64 x, .int .i64 P] w fun e w' => e = .returned (.int .i64 R) ∧ w = w' := by
  obtain ⟨d1, d2⟩ := down_parts (x := x) hP.1
  obtain ⟨q, hq⟩ : ∃ q, q = Int.tdiv x P := ⟨_, rfl⟩
  obtain ⟨r, hr⟩ : ∃ r, r = Int.tmod x P := ⟨_, rfl⟩
  have hrr := Int.tmod_lt_of_pos x (show 0 < P by omega)
  have hrl : -P < Int.tmod x P := by have := Int.lt_tmod_of_pos x (show 0 < P by omega); omega
  have hRb : -8589934593 ≤ x / P ∧ x / P ≤ 8589934593 := by
    have h1 : x / P * P ≤ x := Int.ediv_mul_le x (by omega)
    have h2 := Int.lt_ediv_add_one_mul_self x (show 0 < P by omega)
    constructor
    · by_cases h : x / P ≤ -8589934594
      · have : (x / P + 1) * P ≤ -8589934593 * P := Int.mul_le_mul_of_nonneg_right (by omega) (by omega)
        omega
      · omega
    · by_cases h : 8589934594 ≤ x / P
      · have : 8589934594 * P ≤ x / P * P := Int.mul_le_mul_of_nonneg_right h (by omega)
        omega
      · omega
  rw [← hq, ← hr] at d1 d2
  rw [← hr] at hrr hrl
  rw [← hR] at d1 d2 hRb
  obtain ⟨p0, p1⟩ := hP
  obtain ⟨x0, x1⟩ := hx
  have hP0 : ¬ P = 0 := by omega
  have hq' := hq.symm
  have hr' := hr.symm
  clear hq hr hR
  by_cases hn : r < 0
  · have e1 := d1 hn
    have b1 : -9000000000 ≤ q := by omega
    have b2 : q ≤ 9000000000 := by omega
    have HE : Hid (R = q - 1) := hide e1
    clear d1 d2 e1 hRb
    go_enter Tryz.func85, Tryz.ntmps85
    go_wp2
    go_ret
    exact ⟨by rw [HE.out]; rfl, rfl⟩
  · have e1 := d2 hn
    have b1 : -9000000000 ≤ q := by omega
    have b2 : q ≤ 9000000000 := by omega
    have HE : Hid (R = q) := hide e1
    clear d1 d2 e1 hRb
    go_enter Tryz.func85, Tryz.ntmps85
    go_wp2
    go_ret
    exact ⟨by rw [HE.out]; rfl, rfl⟩

set_option maxHeartbeats 4000000 in
theorem rrelu_any (A B : Option Addr) (n c m d : Nat) (s l : List Int) (w : World) (hA : Lies w A n (s.map (Value.int .i64))) (hB : Lies w B m (l.map (Value.int .i32))) (hn : n ≤ 281474976710656) (hnil : A = none → c = 0) :
    Calls Tryz.prog 18 #[tenV A n c B m d] w fun e w' => ∃ A1 k1 c1 A2 k2 c2, e = .returned (.tuple #[tenV A1 k1 c1 A2 k2 c2, .int .i64 (oneE s m)]) ∧
      Lies w' A1 k1 ((oneS s m).map (Value.int .i64)) ∧ Lies w' A2 k2 ((oneL relu32 s m l).map (Value.int .i32)) ∧ Below w.heap.size w w' := by
  obtain ⟨W0, hW0⟩ : ∃ W0, W0 = (w.alloc (.cells #[.slice A n c, .slice B m d] 25)).alloc (.cells #[.slice none 0 0, .slice none 0 0] 25) := ⟨_, rfl⟩
  have HB0 : Hid (Below w.heap.size w W0) := hide (by rw [hW0]; exact ((Below.refl w.heap.size w).alloc (Nat.le_refl _) _).alloc (by simp only [World.size_alloc]; omega) _)
  have hs0 : W0.heap.size = w.heap.size + 2 := by rw [hW0]; simp
  have HX0 : Hid (BoxT W0 w.heap.size (.slice A n c) (.slice B m d)) := hide (by rw [hW0]; exact (BoxT.new w _ _).alloc _)
  have HXR : Hid (BoxT W0 (w.heap.size + 1) (.slice none 0 0) (.slice none 0 0)) := hide (by
    rw [hW0]
    have h := BoxT.new (w.alloc (.cells #[.slice A n c, .slice B m d] 25)) (.slice none 0 0) (.slice none 0 0)
    rwa [World.size_alloc] at h)
  have hW0' := hW0.symm
  clear hW0
  have HA := hide (hA.below HB0.out)
  have HB := hide (hB.below HB0.out)
  clear hA hB
  have HL : Hid (l.length = m) := hide (by have := HB.out.len; simpa using this)
  have hslen : s.length = n := by have := HA.out.len; simpa using this
  have a0 := HX0.out.c0
  have a1 := HX0.out.c1
  go_enter Tryz.func18, Tryz.ntmps18
  go_wp2_with fail
  refine Calls.mono (rtcheck_any A B n c m d s _ HA.out hn) ?_
  rintro e w1 ⟨rfl, hb1⟩
  by_cases hok : tenOk s m = true
  rotate_left
  · rw [show tenOk s m = false by simpa using hok]
    have HTS : Hid (oneE s m = 1 ∧ oneS s m = [] ∧ oneL relu32 s m l = []) := hide (by rw [oneE, oneS, oneL, if_neg hok, if_neg hok, if_neg hok]; exact ⟨rfl, rfl, rfl⟩)
    have r0 := (HXR.out.kept hb1).c0
    have r1 := (HXR.out.kept hb1).c1
    have rf0 := (HXR.out.kept hb1).f0 0
    have rf1 := (HXR.out.kept hb1).f0 1
    have HXF := hide (HXR.out.kept hb1)
    have HBB := hide (HB0.out.trans (hb1.mono (by omega)))
    clear hb1 a0 a1
    go_wp2
    (try simp only [Exit.inBlock, Exit.then])
    refine ret_ten (p := 2) (u := 3) rfl rfl (w.heap.size + 1) _ rfl (HXF.out.set2 _ _) rfl ?_
    exact ⟨none, 0, 0, none, 0, 0, by rw [HTS.out.1]; rfl, by rw [HTS.out.2.1]; exact Lies.nothing, by rw [HTS.out.2.2]; exact Lies.nothing, (HBB.out.setCell (by dsimp only; omega) _).setCell (by dsimp only; omega) _⟩
  · rw [hok]
    have HTS : Hid (oneE s m = 0 ∧ oneS s m = s ∧ oneL relu32 s m l = l.map relu32) := hide (by rw [oneE, oneS, oneL, if_pos hok, if_pos hok, if_pos hok]; exact ⟨rfl, rfl, rfl⟩)
    obtain ⟨q1, q2⟩ := tenOk_iff.1 hok
    obtain ⟨hn1, hn4, _⟩ := sizeI_pos q1
    rw [hslen] at hn1 hn4
    have hm4 : m ≤ 4096 := by have := sizeI_le s; omega
    have hmp : 0 < m := by omega
    have HQ := hide q2
    clear q1 q2 a0 a1
    have a0 := (HX0.out.kept hb1).c0
    have a1 := (HX0.out.kept hb1).c1

    go_wp2_with fail
    refine Calls.mono (rtnew_own A n c m s _ (HA.out.below hb1) hnil HQ.out hmp) ?_
    rintro e u ⟨A1, c1, g2, rfl, hl1, ho2, hne, hb⟩
    have lt2 := ho2.lt g2 rfl
    obtain ⟨zs, hzs⟩ : ∃ zs, zs = l.map relu32 := ⟨_, rfl⟩
    have HZL : Hid (zs.length = m) := hide (by rw [hzs, List.length_map, HL.out])
    have HZK : Hid (∀ k, k < m → zs.getD k 0 = relu32 (l.getD k 0)) := hide (fun k hk => by rw [hzs]; simp [List.getD, List.getElem?_map, List.getElem?_eq_getElem (show k < l.length by rw [HL.out]; exact hk)])
    have HZS := hide hzs
    clear hzs
    obtain ⟨W1, hW1⟩ : ∃ W1, W1 = u.alloc (.cells #[.slice A1 n c1, .slice (some ⟨g2, 0, none⟩) m m] 25) := ⟨_, rfl⟩
    have HB1 : Hid (Below W0.heap.size W0 W1) := hide (by rw [hW1]; exact below_al7 (below_nx7 hb1 hb))
    have HT1 : Hid (BoxT W1 u.heap.size (.slice A1 n c1) (.slice (some ⟨g2, 0, none⟩) m m)) := hide (by rw [hW1]; exact BoxT.new u _ _)
    have HS1 : Hid (Lies W1 A1 n (s.map (Value.int .i64))) := hide (by rw [hW1]; exact hl1.alloc _)
    have HF1 : Hid (FillAt W1 g2 m zs 0) := hide (by rw [hW1]; exact FillAt.of_own (ho2.alloc _) zs)
    have hs1 : W1.heap.size = u.heap.size + 1 := by rw [hW1]; simp
    have hsb1 := hb1.size
    have HNE := hide hne
    have hW1' := hW1.symm
    clear hW1 hl1 ho2 hne hb hb1 a0 a1
    have HX0w := hide (HX0.out.kept HB1.out)
    have HXRw := hide (HXR.out.kept HB1.out)
    have HB1l := hide (HB.out.below HB1.out)
    have HBw := hide (HB0.out.trans (HB1.out.mono (by omega)))
    have HN1 : Hid (∀ b o, B = some ⟨b, o, none⟩ → b ≠ g2) := hide (fun b o e => by
      obtain ⟨b', o', e', hb, _⟩ := HB.out.cells hmp
      rw [e] at e'
      cases e'
      omega)
    go_wp2
    go_loopw [6] (fun i wr => ∃ k : Nat, k ≤ m ∧ i = .int .i64 k ∧ Hid (FillAt wr g2 m zs k) ∧ Hid (W1.grownBy wr (some g2))) (fun i _ => m - (intOf i).toNat)
    case atStart => exact ⟨0, Nat.zero_le _, rfl, HF1, hide (World.grownBy.refl W1 (some g2))⟩
    case round =>
      obtain ⟨k, hk, rfl, HF, HG⟩ := hrel
      have hszr := HG.out.size
      have HTr : Hid (BoxT wr u.heap.size (.slice A1 n c1) (.slice (some ⟨g2, 0, none⟩) m m)) := hide ((HG.out.block u.heap.size (by omega) (by simp; omega)).trans HT1.out)
      have t1 := HTr.out.c1
      by_cases hlt : k < m
      · have h0 : (0 : Int) ≤ (k : Int) := by omega
        have h3 : (k : Int) < (m : Int) := by omega
        have HX0r : Hid (BoxT wr w.heap.size (.slice A n c) (.slice B m d)) := hide ((HG.out.block w.heap.size (by omega) (by simp; omega)).trans HX0w.out)
        have a1 := HX0r.out.c1
        obtain ⟨b, o, rfl, hbl, hx⟩ := byte_at (grown_lies HG.out HB1l.out HN1.out) (by omega)
        have hbn : b ≠ g2 := HN1.out b o rfl
        have hcx := hx k hlt
        obtain ⟨x, hxe⟩ : ∃ x, x = l.getD k 0 := ⟨_, rfl⟩
        rw [← hxe] at hcx
        have hcg := HF.out.cell hlt
        rw [if_neg (by omega)] at hcg
        have hfg := HF.out.frozen k
        have HXE := hide hxe
        clear hx hxe
        by_cases hx0 : x < 0
        · have hx1 : ¬ 0 ≤ x := by omega
          have hx2 : ¬ 0 < x := by omega
          have hx3 : x ≤ 0 := by omega
          have HV : Hid (0 = zs.getD k 0) := hide (by rw [HZK.out k hlt, ← HXE.out]; rw [relu32, if_pos hx0])
          have HNG : Hid (W1.grownBy (wr.setCell ⟨g2, k, none⟩ (.int .i32 0)).drew (some g2)) := hide (by
            have h := grown_trans HG.out (grown_cell6 wr ⟨g2, k, none⟩ (.int .i32 0))
            exact ⟨h.os, h.tape, h.output, h.size, h.block⟩)
          have HNF : Hid (FillAt (wr.setCell ⟨g2, k, none⟩ (.int .i32 0)).drew g2 m zs (k + 1)) := hide (by
            have h := HF.out.set
            rwa [← HV.out] at h)
          go_wp2
          go_region
          go_wp2
          go_roundw
          case rel => exact ⟨k + 1, by omega, by go_num, HNF, HNG⟩
          case measure => simp [intOf]; omega
        · by_cases hxz : x = 0
          · subst hxz
            have HV : Hid (0 = zs.getD k 0) := hide (by rw [HZK.out k hlt, ← HXE.out]; rw [relu32, if_neg (by omega)])
            have HNG : Hid (W1.grownBy (wr.setCell ⟨g2, k, none⟩ (.int .i32 0)).drew (some g2)) := hide (by
              have h := grown_trans HG.out (grown_cell6 wr ⟨g2, k, none⟩ (.int .i32 0))
              exact ⟨h.os, h.tape, h.output, h.size, h.block⟩)
            have HNF : Hid (FillAt (wr.setCell ⟨g2, k, none⟩ (.int .i32 0)).drew g2 m zs (k + 1)) := hide (by
              have h := HF.out.set
              rwa [← HV.out] at h)
            go_wp2
            go_region
            go_wp2
            go_roundw
            case rel => exact ⟨k + 1, by omega, by go_num, HNF, HNG⟩
            case measure => simp [intOf]; omega
          · have hx1 : 0 ≤ x := by omega
            have hx2 : 0 < x := by omega
            have hx3 : ¬ x ≤ 0 := by omega
            have HV : Hid (x = zs.getD k 0) := hide (by rw [HZK.out k hlt, ← HXE.out]; rw [relu32, if_neg hx0])
            have HNG : Hid (W1.grownBy (wr.setCell ⟨g2, k, none⟩ (.int .i32 x)).drew (some g2)) := hide (by
              have h := grown_trans HG.out (grown_cell6 wr ⟨g2, k, none⟩ (.int .i32 x))
              exact ⟨h.os, h.tape, h.output, h.size, h.block⟩)
            have HNF : Hid (FillAt (wr.setCell ⟨g2, k, none⟩ (.int .i32 x)).drew g2 m zs (k + 1)) := hide (by
              have h := HF.out.set
              rwa [← HV.out] at h)
            clear hxz
            go_wp2
            go_region
            go_wp2
            go_roundw
            case rel => exact ⟨k + 1, by omega, by go_num, HNF, HNG⟩
            case measure => simp [intOf]; omega
      · obtain rfl : m = k := by omega
        have t0 := HTr.out.c0
        have HRr : Hid (BoxT wr (w.heap.size + 1) (.slice none 0 0) (.slice none 0 0)) := hide ((HG.out.block (w.heap.size + 1) (by omega) (by simp; omega)).trans HXRw.out)
        have r0 := HRr.out.c0
        have r1 := HRr.out.c1
        have rf0 := HRr.out.f0 0
        have rf1 := HRr.out.f0 1
        have HLS := hide (grown_lies HG.out HS1.out HNE.out)
        have HLF : Hid (Lies wr (some ⟨g2, 0, none⟩) m (zs.map (Value.int .i32))) := hide (lies_of_own (HF.out.own HZL.out (base := 0) (by omega) (by unfold maxLen; omega)))
        go_wp2
        (try simp only [Exit.inBlock, Exit.then])
        refine ret_ten (p := 2) (u := 3) rfl rfl (w.heap.size + 1) _ rfl (HRr.out.set2 _ _) rfl ?_
        refine ⟨A1, n, c1, some ⟨g2, 0, none⟩, m, m, by rw [HTS.out.1]; rfl, ?_, ?_, ?_⟩
        · rw [HTS.out.2.1]
          refine HLS.out.keep (by simp) (fun bb oo e hbb j => ?_)
          by_cases e3 : bb = w.heap.size + 1
          · exfalso
            subst e3
            obtain ⟨b4, o4, e4, h4, h5⟩ := HLS.out.cells (by omega)
            rw [e] at e4
            cases e4
            have h6 := h5 0 (by omega)
            have h7 := HRr.out
            unfold BoxT at h7
            rw [cell_of_row _ _ _ _ _ (0, 0) h7] at h6
            obtain ⟨z0, hz0⟩ : ∃ z, (s.map (Value.int .i64))[0]? = some (.int .i64 z) := ⟨s[0]'(by omega), by simp [show 0 < s.length by omega]⟩
            rw [hz0] at h6
            have h8 : (#[Value.slice none 0 0, Value.slice none 0 0] : Array Value)[oo + 0]? = some (.int .i64 z0) := h6
            have h9 := Array.mem_of_getElem? h8
            simp at h9
          · exact World.cell?_of_block ((Below.heap_setCell _ _ _ _ e3).trans (Below.heap_setCell _ _ _ _ e3))
        · rw [HTS.out.2.2, ← HZS.out]
          exact HLF.out.keep (by simp) (fun bb oo e hbb j => by
            cases e
            exact World.cell?_of_block ((Below.heap_setCell _ _ _ _ (by dsimp only; omega)).trans (Below.heap_setCell _ _ _ _ (by dsimp only; omega))))
        · exact ((HBw.out.trans (below_grown HG.out (by omega) (by omega))).setCell (by dsimp only; omega) _).setCell (by dsimp only; omega) _

set_option maxHeartbeats 8000000 in
theorem rshift_any (A B : Option Addr) (n c m d : Nat) (s l : List Int) (z : Int) (w : World) (hA : Lies w A n (s.map (Value.int .i64))) (hB : Lies w B m (l.map (Value.int .i32))) (hn : n ≤ 281474976710656) (hnil : A = none → c = 0) (wl : ∀ z ∈ l, -2147483648 ≤ z ∧ z < 2147483648) :
    Calls Tryz.prog 19 #[tenV A n c B m d, .int .i64 z] w fun e w' => ∃ A1 k1 c1 A2 k2 c2, e = .returned (.tuple #[tenV A1 k1 c1 A2 k2 c2, .int .i64 (shE s m z)]) ∧
      Lies w' A1 k1 ((shS s m z).map (Value.int .i64)) ∧ Lies w' A2 k2 ((shL s m z l).map (Value.int .i32)) ∧ Below w.heap.size w w' := by
  obtain ⟨W0, hW0⟩ : ∃ W0, W0 = (w.alloc (.cells #[.slice A n c, .slice B m d] 25)).alloc (.cells #[.slice none 0 0, .slice none 0 0] 25) := ⟨_, rfl⟩
  have HB0 : Hid (Below w.heap.size w W0) := hide (by rw [hW0]; exact ((Below.refl w.heap.size w).alloc (Nat.le_refl _) _).alloc (by simp only [World.size_alloc]; omega) _)
  have hs0 : W0.heap.size = w.heap.size + 2 := by rw [hW0]; simp
  have HX0 : Hid (BoxT W0 w.heap.size (.slice A n c) (.slice B m d)) := hide (by rw [hW0]; exact (BoxT.new w _ _).alloc _)
  have HXR : Hid (BoxT W0 (w.heap.size + 1) (.slice none 0 0) (.slice none 0 0)) := hide (by
    rw [hW0]
    have h := BoxT.new (w.alloc (.cells #[.slice A n c, .slice B m d] 25)) (.slice none 0 0) (.slice none 0 0)
    rwa [World.size_alloc] at h)
  have hW0' := hW0.symm
  clear hW0
  have HA := hide (hA.below HB0.out)
  have HB := hide (hB.below HB0.out)
  clear hA hB
  have HL : Hid (l.length = m) := hide (by have := HB.out.len; simpa using this)
  have hslen : s.length = n := by have := HA.out.len; simpa using this
  have a0 := HX0.out.c0
  have a1 := HX0.out.c1
  have HWL : Hid (∀ k, k < m → -2147483648 ≤ l.getD k 0 ∧ l.getD k 0 < 2147483648) := hide (fun k hk => by
    have hkl : k < l.length := by rw [HL.out]; exact hk
    have h := wl (l[k]'hkl) (List.getElem_mem _)
    simpa [List.getD, hkl] using h)
  clear wl
  go_enter Tryz.func19, Tryz.ntmps19
  go_wp2_with fail
  refine Calls.mono (rtcheck_any A B n c m d s _ HA.out hn) ?_
  rintro e w1 ⟨rfl, hb1⟩
  by_cases hok : tenOk s m = true
  rotate_left
  · rw [show tenOk s m = false by simpa using hok]
    have HTS : Hid (shE s m z = 1 ∧ shS s m z = [] ∧ shL s m z l = []) := hide (by rw [shE, shS, shL, if_neg (fun h => hok h.1), if_neg (fun h => hok h.1), if_neg (fun h => hok h.1)]; exact ⟨rfl, rfl, rfl⟩)
    have r0 := (HXR.out.kept hb1).c0
    have r1 := (HXR.out.kept hb1).c1
    have rf0 := (HXR.out.kept hb1).f0 0
    have rf1 := (HXR.out.kept hb1).f0 1
    have HXF := hide (HXR.out.kept hb1)
    have HBB := hide (HB0.out.trans (hb1.mono (by omega)))
    clear hb1 a0 a1
    go_wp2
    (try simp only [Exit.inBlock, Exit.then])
    refine ret_ten (p := 4) (u := 5) rfl rfl (w.heap.size + 1) _ rfl (HXF.out.set2 _ _) rfl ?_
    exact ⟨none, 0, 0, none, 0, 0, by rw [HTS.out.1]; rfl, by rw [HTS.out.2.1]; exact Lies.nothing, by rw [HTS.out.2.2]; exact Lies.nothing, (HBB.out.setCell (by dsimp only; omega) _).setCell (by dsimp only; omega) _⟩
  · rw [hok]
    by_cases hz0 : z < 0
    · have HTS : Hid (shE s m z = 1 ∧ shS s m z = [] ∧ shL s m z l = []) := hide (by rw [shE, shS, shL, if_neg (fun h => by omega), if_neg (fun h => by omega), if_neg (fun h => by omega)]; exact ⟨rfl, rfl, rfl⟩)
      have r0 := (HXR.out.kept hb1).c0
      have r1 := (HXR.out.kept hb1).c1
      have rf0 := (HXR.out.kept hb1).f0 0
      have rf1 := (HXR.out.kept hb1).f0 1
      have HXF := hide (HXR.out.kept hb1)
      have HBB := hide (HB0.out.trans (hb1.mono (by omega)))
      clear hb1 a0 a1
      go_wp2
      (try simp only [Exit.inBlock, Exit.then])
      refine ret_ten (p := 4) (u := 5) rfl rfl (w.heap.size + 1) _ rfl (HXF.out.set2 _ _) rfl ?_
      exact ⟨none, 0, 0, none, 0, 0, by rw [HTS.out.1]; rfl, by rw [HTS.out.2.1]; exact Lies.nothing, by rw [HTS.out.2.2]; exact Lies.nothing, (HBB.out.setCell (by dsimp only; omega) _).setCell (by dsimp only; omega) _⟩
    have hz0' : 0 ≤ z := by omega
    by_cases hz1 : 31 < z
    · have HTS : Hid (shE s m z = 1 ∧ shS s m z = [] ∧ shL s m z l = []) := hide (by rw [shE, shS, shL, if_neg (fun h => by omega), if_neg (fun h => by omega), if_neg (fun h => by omega)]; exact ⟨rfl, rfl, rfl⟩)
      have r0 := (HXR.out.kept hb1).c0
      have r1 := (HXR.out.kept hb1).c1
      have rf0 := (HXR.out.kept hb1).f0 0
      have rf1 := (HXR.out.kept hb1).f0 1
      have HXF := hide (HXR.out.kept hb1)
      have HBB := hide (HB0.out.trans (hb1.mono (by omega)))
      clear hb1 a0 a1
      go_wp2
      (try simp only [Exit.inBlock, Exit.then])
      refine ret_ten (p := 4) (u := 5) rfl rfl (w.heap.size + 1) _ rfl (HXF.out.set2 _ _) rfl ?_
      exact ⟨none, 0, 0, none, 0, 0, by rw [HTS.out.1]; rfl, by rw [HTS.out.2.1]; exact Lies.nothing, by rw [HTS.out.2.2]; exact Lies.nothing, (HBB.out.setCell (by dsimp only; omega) _).setCell (by dsimp only; omega) _⟩
    have hz1' : z ≤ 31 := by omega
    obtain ⟨bits, rfl⟩ : ∃ bits : Nat, z = (bits : Int) := ⟨z.toNat, by omega⟩
    have hbb : bits ≤ 31 := by omega
    have HTS : Hid (shE s m bits = 0 ∧ shS s m bits = s ∧ shL s m bits l = l.map (shf bits)) := hide (by rw [shE, shS, shL, if_pos ⟨hok, hz0', hz1'⟩, if_pos ⟨hok, hz0', hz1'⟩, if_pos ⟨hok, hz0', hz1'⟩]; exact ⟨rfl, rfl, rfl⟩)
    clear hz0 hz1
    obtain ⟨q1, q2⟩ := tenOk_iff.1 hok
    obtain ⟨hn1, hn4, _⟩ := sizeI_pos q1
    rw [hslen] at hn1 hn4
    have hm4 : m ≤ 4096 := by have := sizeI_le s; omega
    have hmp : 0 < m := by omega
    have HQ := hide q2
    clear q1 q2 a0 a1
    have a0 := (HX0.out.kept hb1).c0
    have a1 := (HX0.out.kept hb1).c1
    go_wp2
    go_loopw [6, 7] (fun y i wr => ∃ j : Nat, j ≤ bits ∧ i = .int .i64 j ∧ y = .int .i64 ((2 : Int) ^ j) ∧ wr = w1) (fun _ i _ => bits - (intOf i).toNat)
    case atStart => exact ⟨0, Nat.zero_le _, rfl, rfl, rfl⟩
    case round =>
     obtain ⟨j, hj, rfl, rfl, rfl⟩ := hrel
     by_cases hjl : j < bits
     · have hjb : (j : Int) < (bits : Int) := by omega
       obtain ⟨p0, p1⟩ := pow_bounds (n := j) (by omega)
       have hps : (2 : Int) ^ (j + 1) = 2 * 2 ^ j := by rw [Int.pow_succ, Int.mul_comm]
       obtain ⟨Pj, hPj⟩ : ∃ P, P = (2 : Int) ^ j := ⟨_, rfl⟩
       rw [← hPj] at p0 p1 hps ⊢
       have HPS := hide hps
       clear hps hPj
       go_wp2
       go_roundw
       case rel => exact ⟨j + 1, by omega, by go_num, by rw [HPS.out], by first | rfl | trivial⟩
       case measure => simp [intOf]; omega
     · obtain rfl : bits = j := by omega
       obtain ⟨hP0, hP1⟩ := pow_bounds (n := bits) (by omega)
       obtain ⟨P, hPE⟩ : ∃ P, P = (2 : Int) ^ bits := ⟨_, rfl⟩
       rw [← hPE] at hP0 hP1 ⊢
       have HPE := hide hPE
       clear hPE

       go_wp2_with fail
       refine Calls.mono (rtnew_own A n c m s _ (HA.out.below hb1) hnil HQ.out hmp) ?_
       rintro e u ⟨A1, c1, g2, rfl, hl1, ho2, hne, hb⟩
       have lt2 := ho2.lt g2 rfl
       obtain ⟨zs, hzs⟩ : ∃ zs, zs = l.map (shf bits) := ⟨_, rfl⟩
       have HZL : Hid (zs.length = m) := hide (by rw [hzs, List.length_map, HL.out])
       have HZK : Hid (∀ k, k < m → zs.getD k 0 = (shf bits) (l.getD k 0)) := hide (fun k hk => by rw [hzs]; simp [List.getD, List.getElem?_map, List.getElem?_eq_getElem (show k < l.length by rw [HL.out]; exact hk)])
       have HZS := hide hzs
       clear hzs
       obtain ⟨W1, hW1⟩ : ∃ W1, W1 = u.alloc (.cells #[.slice A1 n c1, .slice (some ⟨g2, 0, none⟩) m m] 25) := ⟨_, rfl⟩
       have HB1 : Hid (Below W0.heap.size W0 W1) := hide (by rw [hW1]; exact below_al7 (below_nx7 hb1 hb))
       have HT1 : Hid (BoxT W1 u.heap.size (.slice A1 n c1) (.slice (some ⟨g2, 0, none⟩) m m)) := hide (by rw [hW1]; exact BoxT.new u _ _)
       have HS1 : Hid (Lies W1 A1 n (s.map (Value.int .i64))) := hide (by rw [hW1]; exact hl1.alloc _)
       have HF1 : Hid (FillAt W1 g2 m zs 0) := hide (by rw [hW1]; exact FillAt.of_own (ho2.alloc _) zs)
       have hs1 : W1.heap.size = u.heap.size + 1 := by rw [hW1]; simp
       have hsb1 := hb1.size
       have HNE := hide hne
       have hW1' := hW1.symm
       clear hW1 hl1 ho2 hne hb hb1 a0 a1
       have HX0w := hide (HX0.out.kept HB1.out)
       have HXRw := hide (HXR.out.kept HB1.out)
       have HB1l := hide (HB.out.below HB1.out)
       have HBw := hide (HB0.out.trans (HB1.out.mono (by omega)))
       have HN1 : Hid (∀ b o, B = some ⟨b, o, none⟩ → b ≠ g2) := hide (fun b o e => by
         obtain ⟨b', o', e', hb, _⟩ := HB.out.cells hmp
         rw [e] at e'
         cases e'
         omega)
       go_wp2
       go_loopw [10] (fun i wr => ∃ k : Nat, k ≤ m ∧ i = .int .i64 k ∧ Hid (FillAt wr g2 m zs k) ∧ Hid (W1.grownBy wr (some g2))) (fun i _ => m - (intOf i).toNat)
       case atStart => exact ⟨0, Nat.zero_le _, rfl, HF1, hide (World.grownBy.refl W1 (some g2))⟩
       case round =>
         obtain ⟨k, hk, rfl, HF, HG⟩ := hrel
         have hszr := HG.out.size
         have HTr : Hid (BoxT wr u.heap.size (.slice A1 n c1) (.slice (some ⟨g2, 0, none⟩) m m)) := hide ((HG.out.block u.heap.size (by omega) (by simp; omega)).trans HT1.out)
         have t1 := HTr.out.c1
         by_cases hlt : k < m
         · have h0 : (0 : Int) ≤ (k : Int) := by omega
           have h3 : (k : Int) < (m : Int) := by omega
           have HX0r : Hid (BoxT wr w.heap.size (.slice A n c) (.slice B m d)) := hide ((HG.out.block w.heap.size (by omega) (by simp; omega)).trans HX0w.out)
           have a1 := HX0r.out.c1
           obtain ⟨b, o, rfl, hbl, hx⟩ := byte_at (grown_lies HG.out HB1l.out HN1.out) (by omega)
           have hbn : b ≠ g2 := HN1.out b o rfl
           have hcx := hx k hlt
           obtain ⟨x, hxe⟩ : ∃ x, x = l.getD k 0 := ⟨_, rfl⟩
           rw [← hxe] at hcx
           have hcg := HF.out.cell hlt
           rw [if_neg (by omega)] at hcg
           have hfg := HF.out.frozen k
           have HXE := hide hxe
           clear hx hxe
           have hxr := HWL.out k hlt
           rw [← HXE.out] at hxr
           obtain ⟨hx0, hx1⟩ := hxr
           obtain ⟨H, hH⟩ : ∃ H, H = P / 2 := ⟨_, rfl⟩
           obtain ⟨D, hD⟩ : ∃ D, D = x + H := ⟨_, rfl⟩
           obtain ⟨R, hR⟩ : ∃ R, R = D / P := ⟨_, rfl⟩
           have hH2 : Int.tdiv P 2 = H := by rw [hH, Int.tdiv_eq_ediv_of_nonneg (by omega)]
           have hHa : 0 ≤ H ∧ H ≤ 1073741824 := by omega
           obtain ⟨hHb, hHc⟩ := hHa
           have hHd : IntKind.i64.wrap H = H := by rw [IntKind.wrap_i64]; omega
           have hDd : IntKind.i64.wrap (x + H) = D := by rw [IntKind.wrap_i64]; omega
           have hxx : IntKind.i64.wrap x = x := by rw [IntKind.wrap_i64]; omega
           have HSH : Hid (shf bits x = if R < -128 then -128 else if 127 < R then 127 else R) := hide (by rw [hR, hD, hH, HPE.out]; rfl)
           have HD : Hid (∀ v : World, Calls Tryz.prog 85 #[.int .i64 D, .int .i64 P] v fun e w' => e = .returned (.int .i64 R) ∧ v = w') := hide (fun v => down_any D P R v ⟨hP0, hP1⟩ (by omega) hR)
           have HK0 : Hid (wr.cell? ⟨u.heap.size, 1, none⟩ = some (.slice (some ⟨g2, 0, none⟩) m m) ∧ wr.cell? ⟨w.heap.size, 1, none⟩ = some (.slice (some ⟨b, o, none⟩) m d) ∧ wr.cell? ⟨b, o + k, none⟩ = some (.int .i32 x)) := hide ⟨t1, a1, hcx⟩
           have HK1 : Hid ((wr.drewN 1).cell? ⟨u.heap.size, 1, none⟩ = some (.slice (some ⟨g2, 0, none⟩) m m) ∧ (wr.drewN 1).cell? ⟨w.heap.size, 1, none⟩ = some (.slice (some ⟨b, o, none⟩) m d) ∧ (wr.drewN 1).cell? ⟨b, o + k, none⟩ = some (.int .i32 x)) := hide ⟨t1, a1, hcx⟩
           have HKW : Hid (∀ v, wr.drewN 1 = v → v.cell? ⟨u.heap.size, 1, none⟩ = some (.slice (some ⟨g2, 0, none⟩) m m) ∧ v.cell? ⟨w.heap.size, 1, none⟩ = some (.slice (some ⟨b, o, none⟩) m d) ∧ v.cell? ⟨b, o + k, none⟩ = some (.int .i32 x)) := hide (fun v hv => by subst hv; exact HK1.out)
           have HKS : Hid (∀ y, (wr.setCell ⟨g2, k, none⟩ y).drew.cell? ⟨u.heap.size, 1, none⟩ = some (.slice (some ⟨g2, 0, none⟩) m m) ∧ (wr.setCell ⟨g2, k, none⟩ y).drew.cell? ⟨w.heap.size, 1, none⟩ = some (.slice (some ⟨b, o, none⟩) m d) ∧ (wr.setCell ⟨g2, k, none⟩ y).drew.cell? ⟨b, o + k, none⟩ = some (.int .i32 x)) := hide (fun y => by
             exact ⟨(World.cell?_of_block (Below.heap_setCell _ _ _ _ (by dsimp only; omega))).trans t1, (World.cell?_of_block (Below.heap_setCell _ _ _ _ (by dsimp only; omega))).trans a1, (World.cell?_of_block (Below.heap_setCell _ _ _ _ (by dsimp only; exact hbn))).trans hcx⟩)
           clear hH hD hR
           obtain ⟨M, hM⟩ : ∃ M, M = if -128 < R then R else -128 := ⟨_, rfl⟩
           obtain ⟨v, hv⟩ : ∃ v, v = if M < 127 then M else 127 := ⟨_, rfl⟩
           have HVS : Hid (v = shf bits x) := hide (by rw [HSH.out, hv, hM]; (repeat' split) <;> omega)
           have hv0 : IntKind.i32.wrap v = v := by
             have h := shf_rng bits x
             rw [← HVS.out] at h
             rw [IntKind.wrap_i32]; omega
           have hM' := hM.symm
           have hv' := hv.symm
           clear hM hv
           have HV : Hid (v = zs.getD k 0) := hide (by rw [HZK.out k hlt, ← HXE.out]; rw [HVS.out])
           have HNG : Hid (W1.grownBy (wr.setCell ⟨g2, k, none⟩ (.int .i32 v)).drew (some g2)) := hide (by
             have h := grown_trans HG.out (grown_cell6 wr ⟨g2, k, none⟩ (.int .i32 v))
             exact ⟨h.os, h.tape, h.output, h.size, h.block⟩)
           have HNF : Hid (FillAt (wr.setCell ⟨g2, k, none⟩ (.int .i32 v)).drew g2 m zs (k + 1)) := hide (by
             have h := HF.out.set
             rwa [← HV.out] at h)
           go_wp2
           go_region_held3 (fun v => v.cell? ⟨u.heap.size, 1, none⟩ = some (.slice (some ⟨g2, 0, none⟩) m m) ∧ v.cell? ⟨w.heap.size, 1, none⟩ = some (.slice (some ⟨b, o, none⟩) m d) ∧ v.cell? ⟨b, o + k, none⟩ = some (.int .i32 x))
             (first | (exact HKS.out _) | (exact HK1.out) | (exact HK0.out) | go_keep)
             (first | (go_at_call 85; refine Calls.mono (HD.out _) ?_; rintro e w2 ⟨rfl, rfl⟩))
           (try rw [hv'])
           go_wp2
           go_roundw
           case rel => exact ⟨k + 1, by omega, by go_num, HNF, HNG⟩
           case measure => simp [intOf]; omega
         · obtain rfl : m = k := by omega
           have t0 := HTr.out.c0
           have HRr : Hid (BoxT wr (w.heap.size + 1) (.slice none 0 0) (.slice none 0 0)) := hide ((HG.out.block (w.heap.size + 1) (by omega) (by simp; omega)).trans HXRw.out)
           have r0 := HRr.out.c0
           have r1 := HRr.out.c1
           have rf0 := HRr.out.f0 0
           have rf1 := HRr.out.f0 1
           have HLS := hide (grown_lies HG.out HS1.out HNE.out)
           have HLF : Hid (Lies wr (some ⟨g2, 0, none⟩) m (zs.map (Value.int .i32))) := hide (lies_of_own (HF.out.own HZL.out (base := 0) (by omega) (by unfold maxLen; omega)))
           go_wp2
           (try simp only [Exit.inBlock, Exit.then])
           refine ret_ten (p := 4) (u := 5) rfl rfl (w.heap.size + 1) _ rfl (HRr.out.set2 _ _) rfl ?_
           refine ⟨A1, n, c1, some ⟨g2, 0, none⟩, m, m, by rw [HTS.out.1]; rfl, ?_, ?_, ?_⟩
           · rw [HTS.out.2.1]
             refine HLS.out.keep (by simp) (fun bb oo e hbb j => ?_)
             by_cases e3 : bb = w.heap.size + 1
             · exfalso
               subst e3
               obtain ⟨b4, o4, e4, h4, h5⟩ := HLS.out.cells (by omega)
               rw [e] at e4
               cases e4
               have h6 := h5 0 (by omega)
               have h7 := HRr.out
               unfold BoxT at h7
               rw [cell_of_row _ _ _ _ _ (0, 0) h7] at h6
               obtain ⟨z0, hz0⟩ : ∃ z, (s.map (Value.int .i64))[0]? = some (.int .i64 z) := ⟨s[0]'(by omega), by simp [show 0 < s.length by omega]⟩
               rw [hz0] at h6
               have h8 : (#[Value.slice none 0 0, Value.slice none 0 0] : Array Value)[oo + 0]? = some (.int .i64 z0) := h6
               have h9 := Array.mem_of_getElem? h8
               simp at h9
             · exact World.cell?_of_block ((Below.heap_setCell _ _ _ _ e3).trans (Below.heap_setCell _ _ _ _ e3))
           · rw [HTS.out.2.2, ← HZS.out]
             exact HLF.out.keep (by simp) (fun bb oo e hbb j => by
               cases e
               exact World.cell?_of_block ((Below.heap_setCell _ _ _ _ (by dsimp only; omega)).trans (Below.heap_setCell _ _ _ _ (by dsimp only; omega))))
           · exact ((HBw.out.trans (below_grown HG.out (by omega) (by omega))).setCell (by dsimp only; omega) _).setCell (by dsimp only; omega) _

end

section
open Go.RowKit
set_option linter.unusedVariables false
set_option linter.unusedSimpArgs false
set_option maxRecDepth 100000

theorem book_new6 (w : World) {base : Nat} (hb : base ≤ w.heap.size) : BkAt (w.alloc (.cells #[Value.int .i64 0, Value.slice none 0 0, Value.slice none 0 0, Value.slice none 0 0, Value.slice none 0 0, Value.slice none 0 0, Value.slice none 0 0, Value.slice none 0 0, Value.slice none 0 0, Value.slice none 0 0, Value.slice none 0 0, Value.slice none 0 0, Value.slice none 0 0, Value.slice none 0 0, Value.slice none 0 0, Value.slice none 0 0] 49)) w.heap.size base 0 none 0 [] none 0 [] none 0 [] :=
  ⟨heap_alloc_new w _, World.ownsRow_nil _ _ _ _, ⟨fun i t ht => by simp at ht, fun i j t u _ ht => by simp at ht⟩, Nat.le_refl _, fun i t ht => by simp at ht,
    World.ownsRow_nil _ _ _ _, ⟨fun i t ht => by simp at ht, fun i j t u _ ht => by simp at ht⟩, Nat.le_refl _, fun i t ht => by simp at ht,
    World.ownsRow_nil _ _ _ _, ⟨fun i t ht => by simp at ht, fun i j t u _ ht => by simp at ht⟩, Nat.le_refl _, fun i t ht => by simp at ht, by simp; omega, hb, by omega⟩
theorem tsz_nn7 (n m : Nat) : 0 ≤ (tsz n m : Int) := by omega
theorem tsz_hi7 {n m N : Nat} (hn : n ≤ N) (hm : m ≤ N) : (tsz n m : Int) ≤ 1 + 2 * N := by unfold tsz; split <;> omega
theorem tsz_lo7 {n m : Nat} (h : tsz n m ≤ 1048576) : n ≤ 1048576 ∧ m ≤ 1048576 := by unfold tsz at h; split at h <;> omega
/-- Its block is made ahead of N; behind N. -/
def Bef (v : Value) (N : Nat) : Prop := ∀ g, v.ownBlock = some g → g < N
def Aft (v : Value) (N : Nat) : Prop := ∀ g, v.ownBlock = some g → N ≤ g
theorem Bef.le {v : Value} {N M : Nat} (h : Bef v N) (hN : N ≤ M) : Bef v M := fun g hg => Nat.lt_of_lt_of_le (h g hg) hN
theorem bef_of {w : World} {base : Nat} {e : TypeId} {v : Value} {n : Nat} {xs : List Value} (h : w.ownsRow base e 1 v n xs) : Bef v w.heap.size := fun g hg => (h.lt g hg).2
theorem aft_of {w : World} {base : Nat} {e : TypeId} {v : Value} {n : Nat} {xs : List Value} (h : w.ownsRow base e 1 v n xs) : Aft v base := fun g hg => (h.lt g hg).1
theorem apart_ba {x : It} {v : Value} {N : Nat} (h1 : Bef x.l N) (h2 : Aft v N) : (x.l.ownBlock = none ∨ x.l.ownBlock ≠ v.ownBlock) ∧ (v.ownBlock = none ∨ v.ownBlock ≠ x.l.ownBlock) := by
  cases hx : x.l.ownBlock with
  | none => exact ⟨.inl rfl, by cases hv : v.ownBlock with
      | none => exact .inl rfl
      | some g => exact .inr (by simp)⟩
  | some a => cases hv : v.ownBlock with
    | none => exact ⟨.inr (by simp), .inl rfl⟩
    | some b =>
      have := h1 a hx
      have := h2 b hv
      exact ⟨.inr (by simp; omega), .inr (by simp; omega)⟩
/-- A tensor in a box, seen by what is there. -/
def TenB (w : World) (p : Nat) (A B : Option Addr) (n c m d : Nat) (s l : List Int) : Prop := BoxT w p (.slice A n c) (.slice B m d) ∧ Lies w A n (s.map (Value.int .i64)) ∧ Lies w B m (l.map (Value.int .i32))
theorem TenB.kept {w : World} {p : Nat} {A B : Option Addr} {n c m d : Nat} {s l : List Int} (h : TenB w p A B n c m d s l) {w' : World} (hb : Below w.heap.size w w') : TenB w' p A B n c m d s l := ⟨h.1.kept hb, h.2.1.below hb, h.2.2.below hb⟩

set_option maxHeartbeats 8000000 in
theorem one6_far (A B : Option Addr) (n c m d : Nat) (s l : List Int) (z : Int) (w : World) (hA : Lies w A n (s.map (Value.int .i64))) (hB : Lies w B m (l.map (Value.int .i32))) (wl : ∀ z ∈ l, -2147483648 ≤ z ∧ z < 2147483648)
    (hn : n ≤ 70368744177664) (hm : m ≤ 70368744177664) (hnil : A = none → c = 0) (hz : -9223372036854775808 ≤ z ∧ z < 9223372036854775808) (hfar : 1048576 < tsz n m) :
    Calls Tryz.prog 4 #[tenV A n c B m d, .int .i64 z] w fun e w' => e = .returned (.bool true) ∧ Below w.heap.size w w' := by
  obtain ⟨W0, hW0⟩ : ∃ W0, W0 = w.alloc (.cells #[.slice A n c, .slice B m d] 25) := ⟨_, rfl⟩
  have HBW : Hid (Below w.heap.size w W0) := hide (by rw [hW0]; exact (Below.refl w.heap.size w).alloc (Nat.le_refl _) _)
  have HT_a : Hid (TenB W0 w.heap.size A B n c m d s l) := hide (by rw [hW0]; exact ⟨BoxT.new w _ _, hA.alloc _, hB.alloc _⟩)
  have HL : Hid (l.length = m) := hide (by have := hB.len; simpa using this)
  have HSL : Hid (s.length = n) := hide (by have := hA.len; simpa using this)
  have HWL := hide wl
  have hW0' := hW0.symm
  clear hW0 hA hB wl
  have hsW := HBW.out.size
  have HWS : Hid (W0.heap.size ≤ W0.heap.size) := hide (Nat.le_refl _)
  have ht0 := tsz_nn7 n m
  have ht1 := tsz_hi7 hn hm
  go_enter Tryz.func4, Tryz.ntmps4
  have cxa0 := HT_a.out.1.c0
  have cxa1 := HT_a.out.1.c1
  go_wp2_with fail
  refine Calls.mono (tsize_any A B n c m d _ (by omega) (by omega)) ?_
  rintro e u1 ⟨rfl, hb⟩
  replace HT_a := hide (HT_a.out.kept hb)
  replace HBW := hide (HBW.out.trans (hb.mono HBW.out.size))
  have HZ0 := hide hb.size
  clear cxa0 cxa1 hb
  go_wp2_with fail
  refine Calls.mono (beyond_yes (some ⟨u1.heap.size, 0, none⟩) 1 1 [(tsz n m : Int)] _ (lies_lit u1 .i64 [(tsz n m : Int)] 3) (by intro z hz; simp at hz; omega) (by simp; omega) (by omega)) ?_
  rintro e u2 ⟨rfl, hw3⟩
  have hb : Below u1.heap.size u1 u2 := by rw [← hw3]; exact below_al7 (Below.refl _ _)
  replace HT_a := hide (HT_a.out.kept hb)
  replace HBW := hide (HBW.out.trans (hb.mono HBW.out.size))
  have HZ1 := hide hb.size
  clear hb hw3 ht0 ht1
  replace HWS : Hid (W0.heap.size ≤ u2.heap.size) := hide (by have h1 := HWS.out; have h2 := HZ1.out; have h3 := HZ0.out; omega)
  go_wp2
  go_ret
  exact ⟨rfl, HBW.out⟩

set_option maxHeartbeats 8000000 in
theorem one6_near (A B : Option Addr) (n c m d : Nat) (s l : List Int) (z : Int) (w : World) (hA : Lies w A n (s.map (Value.int .i64))) (hB : Lies w B m (l.map (Value.int .i32))) (wl : ∀ z ∈ l, -2147483648 ≤ z ∧ z < 2147483648)
    (hn : n ≤ 70368744177664) (hm : m ≤ 70368744177664) (hnil : A = none → c = 0) (hz : -9223372036854775808 ≤ z ∧ z < 9223372036854775808) (hfar : tsz n m ≤ 1048576) :
    Calls Tryz.prog 4 #[tenV A n c B m d, .int .i64 z] w fun e w' => e = .returned (.bool true) ∧ Below w.heap.size w w' := by
  obtain ⟨W0, hW0⟩ : ∃ W0, W0 = w.alloc (.cells #[.slice A n c, .slice B m d] 25) := ⟨_, rfl⟩
  have HBW : Hid (Below w.heap.size w W0) := hide (by rw [hW0]; exact (Below.refl w.heap.size w).alloc (Nat.le_refl _) _)
  have HT_a : Hid (TenB W0 w.heap.size A B n c m d s l) := hide (by rw [hW0]; exact ⟨BoxT.new w _ _, hA.alloc _, hB.alloc _⟩)
  have HL : Hid (l.length = m) := hide (by have := hB.len; simpa using this)
  have HSL : Hid (s.length = n) := hide (by have := hA.len; simpa using this)
  have HWL := hide wl
  have hW0' := hW0.symm
  clear hW0 hA hB wl
  have hsW := HBW.out.size
  have HWS : Hid (W0.heap.size ≤ W0.heap.size) := hide (Nat.le_refl _)
  have ht0 := tsz_nn7 n m
  have ht1 := tsz_hi7 hn hm
  go_enter Tryz.func4, Tryz.ntmps4
  have cxa0 := HT_a.out.1.c0
  have cxa1 := HT_a.out.1.c1
  go_wp2_with fail
  refine Calls.mono (tsize_any A B n c m d _ (by omega) (by omega)) ?_
  rintro e u3 ⟨rfl, hb⟩
  replace HT_a := hide (HT_a.out.kept hb)
  replace HBW := hide (HBW.out.trans (hb.mono HBW.out.size))
  have HZ0 := hide hb.size
  clear cxa0 cxa1 hb
  go_wp2_with fail
  refine Calls.mono (beyond_no (some ⟨u3.heap.size, 0, none⟩) 1 1 [(tsz n m : Int)] _ (lies_lit u3 .i64 [(tsz n m : Int)] 3) (by intro z hz; simp at hz; omega) (by simp; omega) (by omega)) ?_
  rintro e u4 ⟨rfl, hw3⟩
  have hb : Below u3.heap.size u3 u4 := by rw [← hw3]; exact below_al7 (Below.refl _ _)
  replace HT_a := hide (HT_a.out.kept hb)
  replace HBW := hide (HBW.out.trans (hb.mono HBW.out.size))
  have HZ1 := hide hb.size
  clear hb hw3 ht0 ht1
  replace HWS : Hid (W0.heap.size ≤ u4.heap.size) := hide (by have h1 := HWS.out; have h2 := HZ1.out; have h3 := HZ0.out; omega)
  obtain ⟨hn2, hm2⟩ := tsz_lo7 (n := n) (m := m) (by omega)
  clear hfar
  have HNIL := hide hnil
  clear hnil
  obtain ⟨E, hE⟩ : ∃ E, E = oneE s m := ⟨_, rfl⟩
  have HE := hide hE
  clear hE
  obtain ⟨E2, hE2⟩ : ∃ E, E = shE s m z := ⟨_, rfl⟩
  have HE2 := hide hE2
  clear hE2
  have cxa0 := HT_a.out.1.c0
  have cxa1 := HT_a.out.1.c1
  go_wp2_with fail
  refine Calls.mono (twinT_any A B n c m d s l _ HT_a.out.2.1 HT_a.out.2.2 (by omega) (by omega)) ?_
  rintro e u5 ⟨g1t, g2t, rfl, ho1, ho2, hnet, hb0⟩
  obtain ⟨V6, hV6⟩ : ∃ W, W = u5.alloc (.cells #[.slice (some ⟨g1t, 0, none⟩) n (n + 1), .slice (some ⟨g2t, 0, none⟩) m (m + 1)] 25) := ⟨_, rfl⟩
  have hb : Below u4.heap.size u4 V6 := by rw [hV6]; exact below_al7 hb0
  have hsvV6 : V6.heap.size = u5.heap.size + 1 := by rw [hV6]; simp
  have HSVV6 := hide hsvV6
  clear hsvV6
  have hw0 := HBW.out.size
  have hq1 := own_part ho1 (n := n) (by simp [HSL.out]) (by omega)
  have hq2 := own_part ho2 (n := m) (by simp [HL.out]) (by omega)
  have HT_t : Hid (TenB V6 u5.heap.size (some ⟨g1t, 0, none⟩) (some ⟨g2t, 0, none⟩) n (n + 1) m (m + 1) s l) := hide (by rw [hV6]; exact ⟨BoxT.new _ _ _, (lies_of_own hq1).alloc _, (lies_of_own hq2).alloc _⟩)
  have HOS_t : Hid (V6.ownsRow W0.heap.size 3 1 (.slice (some ⟨g1t, 0, none⟩) (n + 1) (n + 1)) (n + 1) (s.map (Value.int .i64) ++ [.int .i64 77])) := hide (by rw [hV6]; exact own_base (ho1.alloc _) HWS.out)
  have HON_t : Hid (V6.ownsRow W0.heap.size 21 1 (.slice (some ⟨g2t, 0, none⟩) (m + 1) (m + 1)) (m + 1) (l.map (Value.int .i32) ++ [.int .i32 77])) := hide (by rw [hV6]; exact own_base (ho2.alloc _) HWS.out)
  have HBS_t : Hid (Bef (.slice (some ⟨g1t, 0, none⟩) n (n + 1)) u5.heap.size) := hide (bef_of hq1)
  have HBN_t : Hid (Bef (.slice (some ⟨g2t, 0, none⟩) m (m + 1)) u5.heap.size) := hide (bef_of hq2)
  have HAS_t : Hid (Aft (.slice (some ⟨g1t, 0, none⟩) n (n + 1)) u4.heap.size) := hide (aft_of hq1)
  have HAN_t : Hid (Aft (.slice (some ⟨g2t, 0, none⟩) m (m + 1)) u4.heap.size) := hide (aft_of hq2)
  replace HT_a := hide (HT_a.out.kept hb)
  replace HBW := hide (HBW.out.trans (hb.mono HBW.out.size))
  have HZ3 := hide hb.size
  have hV6' := hV6.symm
  clear cxa0 cxa1 hV6 hb hb0 ho1 ho2 hq1 hq2 hw0
  replace HWS : Hid (W0.heap.size ≤ V6.heap.size) := hide (by have h1 := HWS.out; have h2 := HZ3.out; omega)
  have cxt0 := HT_t.out.1.c0
  have cxt1 := HT_t.out.1.c1
  go_wp2_with fail
  refine Calls.mono (relu_own (some ⟨g1t, 0, none⟩) (some ⟨g2t, 0, none⟩) n (n + 1) m (m + 1) s l _ HT_t.out.2.1 HT_t.out.2.2 (by omega)) ?_
  rw [← HE.out]
  rintro e u7 ⟨A1x, k1x, c1x, A2x, k2x, c2x, rfl, ho1, ho2, hk1x, hk2x, hb0⟩
  obtain ⟨V8, hV8⟩ : ∃ W, W = u7.alloc (.cells #[.slice A1x k1x c1x, .slice A2x k2x c2x] 25) := ⟨_, rfl⟩
  have hb : Below V6.heap.size V6 V8 := by rw [hV8]; exact below_al7 hb0
  have hsvV8 : V8.heap.size = u7.heap.size + 1 := by rw [hV8]; simp
  have HSVV8 := hide hsvV8
  clear hsvV8
  have HT_x : Hid (TenB V8 u7.heap.size A1x A2x k1x c1x k2x c2x (oneS s m) (oneL relu32 s m l)) := hide (by rw [hV8]; exact ⟨BoxT.new _ _ _, (lies_of_own ho1).alloc _, (lies_of_own ho2).alloc _⟩)
  have hl1x : (oneS s m).length = k1x := by have := ho1.1; simpa using this
  have hl2x : (oneL relu32 s m l).length = k2x := by have := ho2.1; simpa using this
  have HOS_x : Hid (V8.ownsRow W0.heap.size 3 1 (.slice A1x k1x c1x) k1x ((oneS s m).map (Value.int .i64))) := hide (by rw [hV8]; exact own_base (ho1.alloc _) HWS.out)
  have HON_x : Hid (V8.ownsRow W0.heap.size 21 1 (.slice A2x k2x c2x) k2x ((oneL relu32 s m l).map (Value.int .i32))) := hide (by rw [hV8]; exact own_base (ho2.alloc _) HWS.out)
  have HBS_x := hide (bef_of ho1)
  have HBN_x := hide (bef_of ho2)
  have HAS_x := hide (aft_of ho1)
  have HAN_x := hide (aft_of ho2)
  replace HT_a := hide (HT_a.out.kept hb)
  replace HT_t := hide (HT_t.out.kept hb)
  replace HOS_t := hide (own_below HOS_t.out hb)
  replace HON_t := hide (own_below HON_t.out hb)
  replace HBW := hide (HBW.out.trans (hb.mono HBW.out.size))
  have HZ5 := hide hb.size
  have hV8' := hV8.symm
  clear cxt0 cxt1 hV8 hb hb0 ho1 ho2
  replace HWS : Hid (W0.heap.size ≤ V8.heap.size) := hide (by have h1 := HWS.out; have h2 := HZ5.out; omega)
  have cxt0 := HT_t.out.1.c0
  have cxt1 := HT_t.out.1.c1
  go_wp2_with fail
  refine Calls.mono (shift_own (some ⟨g1t, 0, none⟩) (some ⟨g2t, 0, none⟩) n (n + 1) m (m + 1) s l _ HT_t.out.2.1 HT_t.out.2.2 (by omega) z HWL.out) ?_
  rw [← HE2.out]
  rintro e u9 ⟨A1y, k1y, c1y, A2y, k2y, c2y, rfl, ho1, ho2, hk1y, hk2y, hb0⟩
  obtain ⟨V10, hV10⟩ : ∃ W, W = u9.alloc (.cells #[.slice A1y k1y c1y, .slice A2y k2y c2y] 25) := ⟨_, rfl⟩
  have hb : Below V8.heap.size V8 V10 := by rw [hV10]; exact below_al7 hb0
  have hsvV10 : V10.heap.size = u9.heap.size + 1 := by rw [hV10]; simp
  have HSVV10 := hide hsvV10
  clear hsvV10
  have HT_y : Hid (TenB V10 u9.heap.size A1y A2y k1y c1y k2y c2y (shS s m z) (shL s m z l)) := hide (by rw [hV10]; exact ⟨BoxT.new _ _ _, (lies_of_own ho1).alloc _, (lies_of_own ho2).alloc _⟩)
  have hl1y : (shS s m z).length = k1y := by have := ho1.1; simpa using this
  have hl2y : (shL s m z l).length = k2y := by have := ho2.1; simpa using this
  have HOS_y : Hid (V10.ownsRow W0.heap.size 3 1 (.slice A1y k1y c1y) k1y ((shS s m z).map (Value.int .i64))) := hide (by rw [hV10]; exact own_base (ho1.alloc _) HWS.out)
  have HON_y : Hid (V10.ownsRow W0.heap.size 21 1 (.slice A2y k2y c2y) k2y ((shL s m z l).map (Value.int .i32))) := hide (by rw [hV10]; exact own_base (ho2.alloc _) HWS.out)
  have HBS_y := hide (bef_of ho1)
  have HBN_y := hide (bef_of ho2)
  have HAS_y := hide (aft_of ho1)
  have HAN_y := hide (aft_of ho2)
  replace HT_a := hide (HT_a.out.kept hb)
  replace HT_t := hide (HT_t.out.kept hb)
  replace HT_x := hide (HT_x.out.kept hb)
  replace HOS_t := hide (own_below HOS_t.out hb)
  replace HON_t := hide (own_below HON_t.out hb)
  replace HOS_x := hide (own_below HOS_x.out hb)
  replace HON_x := hide (own_below HON_x.out hb)
  replace HBW := hide (HBW.out.trans (hb.mono HBW.out.size))
  have HZ7 := hide hb.size
  have hV10' := hV10.symm
  clear cxt0 cxt1 hV10 hb hb0 ho1 ho2
  replace HWS : Hid (W0.heap.size ≤ V10.heap.size) := hide (by have h1 := HWS.out; have h2 := HZ7.out; omega)
  have cxa0 := HT_a.out.1.c0
  have cxa1 := HT_a.out.1.c1
  go_wp2_with fail
  refine Calls.mono (rrelu_any A B n c m d s l _ HT_a.out.2.1 HT_a.out.2.2 (by omega) HNIL.out) ?_
  rw [← HE.out]
  rintro e u11 ⟨A1p, k1p, c1p, A2p, k2p, c2p, rfl, h1, h2, hb0⟩
  obtain rfl : k1p = k1x := by have := h1.len; simp only [List.length_map] at this; omega
  obtain rfl : k2p = k2x := by have := h2.len; simp only [List.length_map] at this; omega
  obtain ⟨V12, hV12⟩ : ∃ W, W = u11.alloc (.cells #[.slice A1p k1p c1p, .slice A2p k2p c2p] 25) := ⟨_, rfl⟩
  have hb : Below V10.heap.size V10 V12 := by rw [hV12]; exact below_al7 hb0
  have hsvV12 : V12.heap.size = u11.heap.size + 1 := by rw [hV12]; simp
  have HSVV12 := hide hsvV12
  clear hsvV12
  have HT_p : Hid (TenB V12 u11.heap.size A1p A2p k1p c1p k2p c2p (oneS s m) (oneL relu32 s m l)) := hide (by rw [hV12]; exact ⟨BoxT.new _ _ _, h1.alloc _, h2.alloc _⟩)
  replace HT_a := hide (HT_a.out.kept hb)
  replace HT_t := hide (HT_t.out.kept hb)
  replace HT_x := hide (HT_x.out.kept hb)
  replace HT_y := hide (HT_y.out.kept hb)
  replace HOS_t := hide (own_below HOS_t.out hb)
  replace HON_t := hide (own_below HON_t.out hb)
  replace HOS_x := hide (own_below HOS_x.out hb)
  replace HON_x := hide (own_below HON_x.out hb)
  replace HOS_y := hide (own_below HOS_y.out hb)
  replace HON_y := hide (own_below HON_y.out hb)
  replace HBW := hide (HBW.out.trans (hb.mono HBW.out.size))
  have HZ9 := hide hb.size
  have hV12' := hV12.symm
  clear cxa0 cxa1 hV12 hb hb0 h1 h2
  replace HWS : Hid (W0.heap.size ≤ V12.heap.size) := hide (by have h1 := HWS.out; have h2 := HZ9.out; omega)
  have cxa0 := HT_a.out.1.c0
  have cxa1 := HT_a.out.1.c1
  go_wp2_with fail
  refine Calls.mono (rshift_any A B n c m d s l z _ HT_a.out.2.1 HT_a.out.2.2 (by omega) HNIL.out HWL.out) ?_
  rw [← HE2.out]
  rintro e u13 ⟨A1q, k1q, c1q, A2q, k2q, c2q, rfl, h1, h2, hb0⟩
  obtain rfl : k1q = k1y := by have := h1.len; simp only [List.length_map] at this; omega
  obtain rfl : k2q = k2y := by have := h2.len; simp only [List.length_map] at this; omega
  obtain ⟨V14, hV14⟩ : ∃ W, W = u13.alloc (.cells #[.slice A1q k1q c1q, .slice A2q k2q c2q] 25) := ⟨_, rfl⟩
  have hb : Below V12.heap.size V12 V14 := by rw [hV14]; exact below_al7 hb0
  have hsvV14 : V14.heap.size = u13.heap.size + 1 := by rw [hV14]; simp
  have HSVV14 := hide hsvV14
  clear hsvV14
  have HT_q : Hid (TenB V14 u13.heap.size A1q A2q k1q c1q k2q c2q (shS s m z) (shL s m z l)) := hide (by rw [hV14]; exact ⟨BoxT.new _ _ _, h1.alloc _, h2.alloc _⟩)
  replace HT_a := hide (HT_a.out.kept hb)
  replace HT_t := hide (HT_t.out.kept hb)
  replace HT_x := hide (HT_x.out.kept hb)
  replace HT_y := hide (HT_y.out.kept hb)
  replace HT_p := hide (HT_p.out.kept hb)
  replace HOS_t := hide (own_below HOS_t.out hb)
  replace HON_t := hide (own_below HON_t.out hb)
  replace HOS_x := hide (own_below HOS_x.out hb)
  replace HON_x := hide (own_below HON_x.out hb)
  replace HOS_y := hide (own_below HOS_y.out hb)
  replace HON_y := hide (own_below HON_y.out hb)
  replace HBW := hide (HBW.out.trans (hb.mono HBW.out.size))
  have HZ11 := hide hb.size
  have hV14' := hV14.symm
  clear cxa0 cxa1 hV14 hb hb0 h1 h2
  replace HWS : Hid (W0.heap.size ≤ V14.heap.size) := hide (by have h1 := HWS.out; have h2 := HZ11.out; omega)
  have cxx0 := HT_x.out.1.c0
  have cxx1 := HT_x.out.1.c1
  have cxp0 := HT_p.out.1.c0
  have cxp1 := HT_p.out.1.c1
  go_wp2_with fail
  refine Calls.mono (sameT_yes A1x A2x A1p A2p k1p c1x k2p c2x c1p c2p (oneS s m) (oneL relu32 s m l) _ HT_x.out.2.1 HT_x.out.2.2 HT_p.out.2.1 HT_p.out.2.2 (by omega) (by omega)) ?_
  rintro e u15 ⟨rfl, hb⟩
  replace HT_a := hide (HT_a.out.kept hb)
  replace HT_t := hide (HT_t.out.kept hb)
  replace HT_x := hide (HT_x.out.kept hb)
  replace HT_y := hide (HT_y.out.kept hb)
  replace HT_p := hide (HT_p.out.kept hb)
  replace HT_q := hide (HT_q.out.kept hb)
  replace HOS_t := hide (own_below HOS_t.out hb)
  replace HON_t := hide (own_below HON_t.out hb)
  replace HOS_x := hide (own_below HOS_x.out hb)
  replace HON_x := hide (own_below HON_x.out hb)
  replace HOS_y := hide (own_below HOS_y.out hb)
  replace HON_y := hide (own_below HON_y.out hb)
  replace HBW := hide (HBW.out.trans (hb.mono HBW.out.size))
  have HZ12 := hide hb.size
  clear cxx0 cxx1 cxp0 cxp1 hb
  have cxy0 := HT_y.out.1.c0
  have cxy1 := HT_y.out.1.c1
  have cxq0 := HT_q.out.1.c0
  have cxq1 := HT_q.out.1.c1
  go_wp2_with fail
  refine Calls.mono (sameT_yes A1y A2y A1q A2q k1q c1y k2q c2y c1q c2q (shS s m z) (shL s m z l) _ HT_y.out.2.1 HT_y.out.2.2 HT_q.out.2.1 HT_q.out.2.2 (by omega) (by omega)) ?_
  rintro e u16 ⟨rfl, hb⟩
  replace HT_a := hide (HT_a.out.kept hb)
  replace HT_t := hide (HT_t.out.kept hb)
  replace HT_x := hide (HT_x.out.kept hb)
  replace HT_y := hide (HT_y.out.kept hb)
  replace HT_p := hide (HT_p.out.kept hb)
  replace HT_q := hide (HT_q.out.kept hb)
  replace HOS_t := hide (own_below HOS_t.out hb)
  replace HON_t := hide (own_below HON_t.out hb)
  replace HOS_x := hide (own_below HOS_x.out hb)
  replace HON_x := hide (own_below HON_x.out hb)
  replace HOS_y := hide (own_below HOS_y.out hb)
  replace HON_y := hide (own_below HON_y.out hb)
  replace HBW := hide (HBW.out.trans (hb.mono HBW.out.size))
  have HZ13 := hide hb.size
  clear cxy0 cxy1 cxq0 cxq1 hb
  have cxt0 := HT_t.out.1.c0
  have cxt1 := HT_t.out.1.c1
  have cxa0 := HT_a.out.1.c0
  have cxa1 := HT_a.out.1.c1
  go_wp2_with fail
  refine Calls.mono (leftT_yes g1t g2t A B n m c d s l _ (lies_of_own HOS_t.out) (lies_of_own HON_t.out) HT_a.out.2.1 HT_a.out.2.2 (by omega) (by omega)) ?_
  rintro e u17 ⟨rfl, hb⟩
  replace HT_a := hide (HT_a.out.kept hb)
  replace HT_t := hide (HT_t.out.kept hb)
  replace HT_x := hide (HT_x.out.kept hb)
  replace HT_y := hide (HT_y.out.kept hb)
  replace HT_p := hide (HT_p.out.kept hb)
  replace HT_q := hide (HT_q.out.kept hb)
  replace HOS_t := hide (own_below HOS_t.out hb)
  replace HON_t := hide (own_below HON_t.out hb)
  replace HOS_x := hide (own_below HOS_x.out hb)
  replace HON_x := hide (own_below HON_x.out hb)
  replace HOS_y := hide (own_below HOS_y.out hb)
  replace HON_y := hide (own_below HON_y.out hb)
  replace HBW := hide (HBW.out.trans (hb.mono HBW.out.size))
  have HZ14 := hide hb.size
  clear cxt0 cxt1 cxa0 cxa1 hb
  have hbk : Below u17.heap.size u17 (u17.alloc (.cells #[Value.int .i64 0, Value.slice none 0 0, Value.slice none 0 0, Value.slice none 0 0, Value.slice none 0 0, Value.slice none 0 0, Value.slice none 0 0, Value.slice none 0 0, Value.slice none 0 0, Value.slice none 0 0, Value.slice none 0 0, Value.slice none 0 0, Value.slice none 0 0, Value.slice none 0 0, Value.slice none 0 0, Value.slice none 0 0] 49)) := below_al7 (Below.refl _ _)
  have HWF : Hid (W0.heap.size ≤ u17.heap.size) := hide (by have h0 := HWS.out; have h1 := HZ7.out; have h2 := HSVV12.out; have h3 := HZ9.out; have h4 := HSVV14.out; have h5 := HZ11.out; have h6 := HZ12.out; have h7 := HZ13.out; have h8 := HZ14.out; omega)
  have HBOOK := hide (book_new6 u17 HWF.out)
  have HRS_t := hide (own_below (own_part HOS_t.out (n := n) (by simp [HSL.out]) (by omega)) hbk)
  have HRN_t := hide (own_below (own_part HON_t.out (n := m) (by simp [HL.out]) (by omega)) hbk)
  have HXB_t := hide (HT_t.out.1.kept hbk)
  have HRS_x := hide (own_below HOS_x.out hbk)
  have HRN_x := hide (own_below HON_x.out hbk)
  have HXB_x := hide (HT_x.out.1.kept hbk)
  have HRS_y := hide (own_below HOS_y.out hbk)
  have HRN_y := hide (own_below HON_y.out hbk)
  have HXB_y := hide (HT_y.out.1.kept hbk)
  have HWW := hide (HBW.out.trans (hbk.mono (by have := HBW.out.size; omega)))
  clear hbk HT_a HT_t HT_x HT_y HT_p HT_q HOS_t HON_t HOS_x HON_x HOS_y HON_y
  have hz0 := HZ0.out
  have hz1 := HZ1.out
  have hz2 := HSVV6.out
  have hz3 := HZ3.out
  have hz4 := HSVV8.out
  have hz5 := HZ5.out
  have hz6 := HSVV10.out
  have hz7 := HZ7.out
  have hz8 := HSVV12.out
  have hz9 := HZ9.out
  have hz10 := HSVV14.out
  have hz11 := HZ11.out
  have hz12 := HZ12.out
  have hz13 := HZ13.out
  have hz14 := HZ14.out
  clear HZ0 HZ1 HSVV6 HZ3 HSVV8 HZ5 HSVV10 HZ7 HSVV12 HZ9 HSVV14 HZ11 HZ12 HZ13 HZ14
  have t0 := BoxT.c0 HXB_t.out
  have t1 := BoxT.c1 HXB_t.out
  go_wp2_with fail
  refine Calls.mono (book_tensor _ u17.heap.size W0.heap.size 0 none 0 [] none 0 [] none 0 [] (some ⟨g1t, 0, none⟩) (some ⟨g2t, 0, none⟩) n (n + 1) m (m + 1) _ _ HBOOK.out HRS_t.out HRN_t.out (by omega) (by omega) (by omega) (fun i t ht => by simp at ht) (fun i t ht => by simp at ht)) ?_
  rintro e b0 ⟨rfl, ⟨Hi0, ci0, Hn0, cn0, hk⟩, hT, hb⟩
  have HK0 := hide hk
  replace HWW := hide (HWW.out.trans (hb.mono hsW))
  replace HRS_x := hide (hT.own HRS_x.out (by decide))
  replace HRN_x := hide (hT.own HRN_x.out (by decide))
  replace HXB_x := hide (hT.blk HXB_x.out (by decide))
  replace HRS_y := hide (hT.own HRS_y.out (by decide))
  replace HRN_y := hide (hT.own HRN_y.out (by decide))
  replace HXB_y := hide (hT.blk HXB_y.out (by decide))
  clear hk hT hb t0 t1 HBOOK HRS_t HRN_t HXB_t
  have t0 := BoxT.c0 HXB_x.out
  have t1 := BoxT.c1 HXB_x.out
  go_wp2_with fail
  refine Calls.mono (book_tensor _ u17.heap.size W0.heap.size 2 none 0 [] Hi0 ci0 _ Hn0 cn0 _ A1x A2x k1p c1x k2p c2x _ _ HK0.out HRS_x.out HRN_x.out (by omega) (by omega) (by omega) (fun i t ht => by have hm := List.mem_of_getElem? ht; simp at hm; subst hm; exact apart_ba (HBS_t.out.le (by omega)) HAS_x.out) (fun i t ht => by have hm := List.mem_of_getElem? ht; simp at hm; subst hm; exact apart_ba (HBN_t.out.le (by omega)) HAN_x.out)) ?_
  rintro e b1 ⟨rfl, ⟨Hi1, ci1, Hn1, cn1, hk⟩, hT, hb⟩
  have HK1 := hide hk
  replace HWW := hide (HWW.out.trans (hb.mono hsW))
  replace HRS_y := hide (hT.own HRS_y.out (by decide))
  replace HRN_y := hide (hT.own HRN_y.out (by decide))
  replace HXB_y := hide (hT.blk HXB_y.out (by decide))
  clear hk hT hb t0 t1 HK0 HRS_x HRN_x HXB_x
  have t0 := BoxT.c0 HXB_y.out
  have t1 := BoxT.c1 HXB_y.out
  go_wp2_with fail
  refine Calls.mono (book_tensor _ u17.heap.size W0.heap.size 4 none 0 [] Hi1 ci1 _ Hn1 cn1 _ A1y A2y k1q c1y k2q c2y _ _ HK1.out HRS_y.out HRN_y.out (by omega) (by omega) (by omega) (fun i t ht => by
        have hm := List.mem_of_getElem? ht
        simp at hm
        rcases hm with hm | hm
        · subst hm; exact apart_ba (HBS_t.out.le (by omega)) HAS_y.out
        · subst hm; exact apart_ba (HBS_x.out.le (by omega)) HAS_y.out) (fun i t ht => by
        have hm := List.mem_of_getElem? ht
        simp at hm
        rcases hm with hm | hm
        · subst hm; exact apart_ba (HBN_t.out.le (by omega)) HAN_y.out
        · subst hm; exact apart_ba (HBN_x.out.le (by omega)) HAN_y.out)) ?_
  rintro e b2 ⟨rfl, ⟨Hi2, ci2, Hn2, cn2, hk⟩, hT, hb⟩
  have HK2 := hide hk
  replace HWW := hide (HWW.out.trans (hb.mono hsW))
  clear hk hT hb t0 t1 HK1 HRS_y HRN_y HXB_y
  go_wp2_with fail
  refine Calls.mono (apart_any _ _ _ _ _ _ _ _ _ _ _ _ _ HK2.out) ?_
  rintro e bz ⟨rfl, hb⟩
  have HBz := hide (HWW.out.trans (hb.mono hsW))
  clear hb
  go_wp2
  go_ret
  exact ⟨rfl, HBz.out⟩

theorem one6_any (A B : Option Addr) (n c m d : Nat) (s l : List Int) (z : Int) (w : World) (hA : Lies w A n (s.map (Value.int .i64))) (hB : Lies w B m (l.map (Value.int .i32))) (wl : ∀ z ∈ l, -2147483648 ≤ z ∧ z < 2147483648)
    (hn : n ≤ 70368744177664) (hm : m ≤ 70368744177664) (hnil : A = none → c = 0) (hz : -9223372036854775808 ≤ z ∧ z < 9223372036854775808) :
    Calls Tryz.prog 4 #[tenV A n c B m d, .int .i64 z] w fun e w' => e = .returned (.bool true) ∧ Below w.heap.size w w' := by
  by_cases h : tsz n m ≤ 1048576
  · exact one6_near A B n c m d s l z w hA hB wl hn hm hnil hz h
  · exact one6_far A B n c m d s l z w hA hB wl hn hm hnil hz (by omega)

end
end Go.Proofs.YthdicobagmhpcaaGreatDoor
