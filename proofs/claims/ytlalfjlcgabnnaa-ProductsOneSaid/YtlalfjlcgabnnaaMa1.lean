/- Contracts of package maths: what comes of one number, or of two. -/
import Derived.Test.YtlalfjlcgabnnaaTen2
namespace Go.Proofs.Ytlalfjlcgabnnaa
open Go.RowKit
set_option linter.unusedVariables false
set_option linter.unusedSimpArgs false
set_option maxRecDepth 20000

def add32 (x y : Int) : Int := wrap32 (x + y)

def mul32 (x y : Int) : Int := wrap32 (x * y)

def relu32 (x : Int) : Int := if x < 0 then 0 else x

/-- What a shift by n makes of x. -/
def shf (n : Nat) (x : Int) : Int := if (x + 2 ^ n / 2) / 2 ^ n < -128 then -128 else if 127 < (x + 2 ^ n / 2) / 2 ^ n then 127 else (x + 2 ^ n / 2) / 2 ^ n

/-- A block that holds two numbers. -/
def BoxP (w : World) (p : Nat) (x y : Int) : Prop := w.heap[p]? = some (.cells #[.int .i32 x, .int .i32 y] 51 (0, 0))

section
variable {w : World} {p : Nat} {x y : Int}

theorem BoxP.new (w : World) (x y : Int) : BoxP (w.alloc (.cells #[.int .i32 x, .int .i32 y] 51)) w.heap.size x y := heap_alloc_new w _

theorem BoxP.lt (h : BoxP w p x y) : p < w.heap.size := lt_of_heap h

theorem BoxP.kept (h : BoxP w p x y) {w' : World} (hb : Below w.heap.size w w') : BoxP w' p x y := (hb.block p h.lt).trans h

theorem BoxP.c0 (h : BoxP w p x y) : w.cell? ⟨p, 0, none⟩ = some (.int .i32 x) := cell_of_row _ _ 0 _ _ (0, 0) h

theorem BoxP.c1 (h : BoxP w p x y) : w.cell? ⟨p, 1, none⟩ = some (.int .i32 y) := cell_of_row _ _ 1 _ _ (0, 0) h

end

set_option maxHeartbeats 400000 in
theorem add1_any (x y : Int) (w : World) : Calls Try.prog 21 #[.agg #[.int .i32 x, .int .i32 y]] w fun e w' => e = .returned (.int .i32 (add32 x y)) ∧ Below w.heap.size w w' := by
  have HB := hide ((Below.refl w.heap.size w).alloc (Nat.le_refl _) (.cells #[.int .i32 x, .int .i32 y] 51))
  have h0 := (BoxP.new w x y).c0
  have h1 := (BoxP.new w x y).c1
  go_enter Try.func21, Try.ntmps21
  go_wp2
  go_ret
  exact ⟨rfl, HB.out⟩

theorem pow_bounds {n : Nat} (hn : n ≤ 31) : 1 ≤ (2 : Int) ^ n ∧ (2 : Int) ^ n ≤ 2147483648 := by
  have h1 : 2 ^ n ≤ 2 ^ 31 := Nat.pow_le_pow_right (by omega) hn
  have h2 : 0 < 2 ^ n := Nat.pow_pos (by omega)
  have h3 : ((2 ^ n : Nat) : Int) = (2 : Int) ^ n := by simp
  omega

theorem shf_parts {n : Nat} {x : Int} (hn : n ≤ 31) (hx : -2147483648 ≤ x ∧ x < 2147483648) : wrap64 (x + wrap64 (2 ^ n) / 2) / 2 ^ n = (x + 2 ^ n / 2) / 2 ^ n := by
  obtain ⟨h1, h2⟩ := pow_bounds hn
  have e1 : wrap64 ((2 : Int) ^ n) = 2 ^ n := by unfold wrap64; omega
  have e2 : wrap64 (x + (2 : Int) ^ n / 2) = x + 2 ^ n / 2 := by unfold wrap64; omega
  rw [e1, e2]

end Go.Proofs.Ytlalfjlcgabnnaa
