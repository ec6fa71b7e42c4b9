/- Contracts of package shapes: what a dimension counts for, and what each visit does at one place. -/
import Derived.Test.YtlalfjlcgabnnaaGreatDoorVisit
import Derived.Deep.RegionLaw
namespace Go.Proofs.YtlalfjlcgabnnaaGreatDoor
open Go.RowKit
set_option linter.unusedVariables false
set_option linter.unusedSimpArgs false

/-- What a dimension counts for: 0 if it can't be one. -/
def dz (d : Int) : Int := if d < 1 ∨ 64 < d then 0 else d

theorem dz_nonneg (d : Int) : 0 ≤ dz d := by unfold dz; split <;> omega

theorem dz_le (d : Int) : dz d ≤ 64 := by unfold dz; split <;> omega

theorem dz_any (d : Int) (w : World) : Calls Tryz.prog 115 #[.int .i64 d] w fun e w' => e = .returned (.int .i64 (dz d)) ∧ w' = w := by
  go_enter Tryz.func115, Tryz.ntmps115
  by_cases h1 : d < 1
  · go_wp2
    go_ret
    exact ⟨by simp [dz, h1], rfl⟩
  · by_cases h2 : 64 < d
    · go_wp2
      go_ret
      exact ⟨by simp [dz, h2], rfl⟩
    · go_wp2
      go_ret
      exact ⟨by rw [dz, if_neg (by omega)]; rfl, rfl⟩

/-- A variable of one cell, at block p. -/
def Box1 (w : World) (p : Nat) (t : TypeId) (v : Value) : Prop := w.heap[p]? = some (.cells #[v] t (0, 0))

section
variable {w : World} {p : Nat} {t : TypeId} {v : Value}

theorem Box1.cell (h : Box1 w p t v) : w.cell? ⟨p, 0, none⟩ = some v := by
  have h' : w.heap[p]? = some (.cells #[v] t (0, 0)) := h
  simp [World.cell?, h']

theorem Box1.frozen (h : Box1 w p t v) : w.frozen? ⟨p, 0, none⟩ = false := by
  have h' : w.heap[p]? = some (.cells #[v] t (0, 0)) := h
  simp [World.frozen?, h']

theorem Box1.lt (h : Box1 w p t v) : p < w.heap.size := lt_of_heap h

theorem Box1.set (h : Box1 w p t v) (u : Value) : Box1 (w.setCell ⟨p, 0, none⟩ u) p t u := one_setCell h

theorem Box1.other (h : Box1 w p t v) {a : Addr} (hne : p ≠ a.block) (u : Value) : Box1 (w.setCell a u) p t v := (Below.heap_setCell w a u p hne).trans h

theorem Box1.alloc (h : Box1 w p t v) (o : Obj) : Box1 (w.alloc o) p t v := ((Below.refl w.heap.size w).alloc (Nat.le_refl _) o).block p h.lt |>.trans h

theorem Box1.below (h : Box1 w p t v) {B : Nat} {w' : World} (hb : Below B w w') (hB : p < B) : Box1 w' p t v := (hb.block p hB).trans h

theorem Box1.new (w : World) (v : Value) (t : TypeId) : Box1 (w.alloc (.cells #[v] t)) w.heap.size t v := heap_alloc_new w _

end

set_option maxRecDepth 100000 in
set_option maxHeartbeats 1000000 in
theorem size_step (p : Nat) (a d k : Int) (w : World) (h : Box1 w p 3 (.int .i64 a)) (h1 : 0 ≤ a) (h2 : a ≤ 1099511627776) :
    Calls Tryz.prog 114 #[.int .i64 k, .int .i64 d, .pointer (some ⟨p, 0, none⟩)] w fun e w' => e = .returned voidV ∧ ∃ q, w' = (w.setCell ⟨p, 0, none⟩ (.int .i64 (a * dz d))).drewN q := by
  have hc := h.cell
  have hf := h.frozen
  have HD := fun w => hide (dz_any d w)
  have hz0 := dz_nonneg d
  have hz1 := dz_le d
  have hm0 : 0 ≤ a * dz d := Int.mul_nonneg h1 hz0
  have hm1 : a * dz d ≤ 70368744177664 := by
    have := Int.mul_le_mul h2 hz1 hz0 (by omega)
    omega
  clear h
  obtain ⟨z, hz⟩ : ∃ z, z = dz d := ⟨_, rfl⟩
  rw [← hz] at hm0 hm1
  have hw : IntKind.i64.wrap (a * z) = a * z := IntWalk.i64_in _ (by omega)
  have HZ := hide hz
  clear hz hz0 hz1 hm0 hm1
  go_enter Tryz.func114, Tryz.ntmps114
  go_wp2
  go_region_law (first | (go_simp; go_at_call 115; refine Calls.mono (HD _).out ?_; rintro e w4 ⟨rfl, rfl⟩; rw [← HZ.out]))
  all_goals
    go_wp2
    go_end0
    exact ⟨rfl, 1, by rw [← HZ.out]; rfl⟩

end Go.Proofs.YtlalfjlcgabnnaaGreatDoor
