/- Contracts of package maths: what comes of one number, or of two. -/
import Derived.Test.YthdicobagmhpcaaTen2
namespace Go.Proofs.Ythdicobagmhpcaa
open Go.RowKit
set_option linter.unusedVariables false
set_option linter.unusedSimpArgs false
set_option maxRecDepth 20000

def add32 (x y : Int) : Int := wrap32 (x + y)
def mul32 (x y : Int) : Int := wrap32 (x * y)
def relu32 (x : Int) : Int := if x < 0 then 0 else x
/-- What a shift by n makes of x. -/
def shf (n : Nat) (x : Int) : Int := if (x + 2 ^ n / 2) / 2 ^ n < -128 then -128 else if 127 < (x + 2 ^ n / 2) / 2 ^ n then 127 else (x + 2 ^ n / 2) / 2 ^ n

/-- A block that holds two numbers. -/
def BoxP (w : World) (p : Nat) (x y : Int) : Prop := w.heap[p]? = some (.cells #[.int .i32 x, .int .i32 y] 48 (0, 0))
section
variable {w : World} {p : Nat} {x y : Int}
theorem BoxP.new (w : World) (x y : Int) : BoxP (w.alloc (.cells #[.int .i32 x, .int .i32 y] 48)) w.heap.size x y := heap_alloc_new w _
theorem BoxP.lt (h : BoxP w p x y) : p < w.heap.size := lt_of_heap h
theorem BoxP.kept (h : BoxP w p x y) {w' : World} (hb : Below w.heap.size w w') : BoxP w' p x y := (hb.block p h.lt).trans h
theorem BoxP.c0 (h : BoxP w p x y) : w.cell? ⟨p, 0, none⟩ = some (.int .i32 x) := cell_of_row _ _ 0 _ _ (0, 0) h
theorem BoxP.c1 (h : BoxP w p x y) : w.cell? ⟨p, 1, none⟩ = some (.int .i32 y) := cell_of_row _ _ 1 _ _ (0, 0) h
end

set_option maxHeartbeats 400000 in
theorem add1_any (x y : Int) (w : World) : Calls Try.prog 25 #[.agg #[.int .i32 x, .int .i32 y]] w fun e w' => e = .returned (.int .i32 (add32 x y)) ∧ Below w.heap.size w w' := by
  have HB := hide ((Below.refl w.heap.size w).alloc (Nat.le_refl _) (.cells #[.int .i32 x, .int .i32 y] 48))
  have h0 := (BoxP.new w x y).c0
  have h1 := (BoxP.new w x y).c1
  go_enter Try.func25, Try.ntmps25
  go_wp2
  go_ret
  exact ⟨rfl, HB.out⟩
set_option maxHeartbeats 400000 in
theorem mul1_any (x y : Int) (w : World) : Calls Try.prog 28 #[.agg #[.int .i32 x, .int .i32 y]] w fun e w' => e = .returned (.int .i32 (mul32 x y)) ∧ Below w.heap.size w w' := by
  have HB := hide ((Below.refl w.heap.size w).alloc (Nat.le_refl _) (.cells #[.int .i32 x, .int .i32 y] 48))
  have h0 := (BoxP.new w x y).c0
  have h1 := (BoxP.new w x y).c1
  go_enter Try.func28, Try.ntmps28
  go_wp2
  go_ret
  exact ⟨rfl, HB.out⟩
set_option maxHeartbeats 400000 in
theorem relu1_any (x : Int) (w : World) : Calls Try.prog 37 #[.int .i32 x] w fun e w' => e = .returned (.int .i32 (relu32 x)) ∧ w = w' := by
  by_cases h : x < 0
  · have h2 : ¬ 0 ≤ x := by omega
    have h3 : ¬ 0 < x := by omega
    have HR : Hid (relu32 x = 0) := hide (by rw [relu32, if_pos h])
    go_enter Try.func37, Try.ntmps37
    go_wp2
    go_ret
    exact ⟨by rw [HR.out]; rfl, rfl⟩
  · have h2 : 0 ≤ x := by omega
    have HR : Hid (relu32 x = x) := hide (by rw [relu32, if_neg h])
    go_enter Try.func37, Try.ntmps37
    go_wp2
    go_ret
    exact ⟨by rw [HR.out]; rfl, rfl⟩

theorem pow_bounds {n : Nat} (hn : n ≤ 31) : 1 ≤ (2 : Int) ^ n ∧ (2 : Int) ^ n ≤ 2147483648 := by
  have h1 : 2 ^ n ≤ 2 ^ 31 := Nat.pow_le_pow_right (by omega) hn
  have h2 : 0 < 2 ^ n := Nat.pow_pos (by omega)
  have h3 : ((2 ^ n : Nat) : Int) = (2 : Int) ^ n := by simp
  omega
theorem shf_parts {n : Nat} {x : Int} (hn : n ≤ 31) (hx : -2147483648 ≤ x ∧ x < 2147483648) : wrap64 (x + wrap64 (2 ^ n) / 2) / 2 ^ n = (x + 2 ^ n / 2) / 2 ^ n := by
  obtain ⟨h1, h2⟩ := pow_bounds hn
  have e1 : wrap64 ((2 : Int) ^ n) = 2 ^ n := by unfold wrap64; omega
  have e2 : wrap64 (x + (2 : Int) ^ n / 2) = x + 2 ^ n / 2 := by unfold wrap64; omega
  rw [e1, e2]

set_option maxHeartbeats 800000 in
theorem shifted_any (x : Int) (n : Nat) (w : World) (hn : n ≤ 31) (hx : -2147483648 ≤ x ∧ x < 2147483648) : Calls Try.prog 39 #[.int .i32 x, .int .i64 (n : Int)] w fun e w' => e = .returned (.int .i32 (shf n x)) ∧ w = w' := by
  have HP := hide (shf_parts hn hx)
  go_enter Try.func39, Try.ntmps39
  go_wp2
  all_goals
    go_ret
    refine ⟨?_, rfl⟩
    have hp := HP.out
    rename_i h1
    rw [hp] at h1 h
    simp only [Array.getD_eq_getD_getElem?, List.getElem?_toArray, hp, shf]
    simp
  all_goals
    split at h1 <;> (first | omega | ((repeat' split) <;> omega))

set_option maxHeartbeats 400000 in
theorem shift1_any (x : Int) (n : Nat) (p : Addr) (w : World) (hc : w.cell? p = some (.int .i64 (n : Int))) (hn : n ≤ 31) (hx : -2147483648 ≤ x ∧ x < 2147483648) : Calls Try.prog 38 #[.int .i32 x, .pointer (some p)] w fun e w' => e = .returned (.int .i32 (shf n x)) ∧ w = w' := by
  go_enter Try.func38, Try.ntmps38
  go_wp2_with fail
  refine Calls.mono (shifted_any x n w hn hx) ?_
  rintro e w2 ⟨rfl, hw⟩
  have HW := hide hw
  clear hw
  go_wp2
  go_ret
  exact ⟨rfl, HW.out⟩
end Go.Proofs.Ythdicobagmhpcaa
