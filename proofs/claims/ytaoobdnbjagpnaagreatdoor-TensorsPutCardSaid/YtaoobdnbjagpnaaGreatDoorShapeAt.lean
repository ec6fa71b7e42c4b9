/- What the visits of Index, isInside and At do at one place. -/
import Derived.Test.YtaoobdnbjagpnaaGreatDoorShapeSize
namespace Go.Proofs.YtaoobdnbjagpnaaGreatDoor
open Go.RowKit
set_option linter.unusedVariables false
set_option linter.unusedSimpArgs false

set_option maxRecDepth 100000 in
set_option maxHeartbeats 1000000 in
theorem index_step (p q r : Nat) (x st : Int) (ys : List Int) (B : Option Addr) (m c k : Nat) (d : Int) (w : World)
    (h : Box1 w p 3 (.int .i64 x)) (hq : Box1 w q 3 (.int .i64 st)) (hr : Box1 w r 22 (.slice B m c)) (hpq : p ≠ q) (hpr : p ≠ r) (hqr : q ≠ r)
    (hB : Lies w B m (ys.map (Value.int .i64))) (hBp : ∀ b o, B = some ⟨b, o, none⟩ → b ≠ p) (hk : k < m) (hm : m ≤ 281474976710656)
    (hx0 : 0 ≤ x) (hx1 : x ≤ 16777216) (hs0 : 0 ≤ st) (hs1 : st ≤ 16777216) (hy0 : 0 ≤ ys.getD k 0) (hy1 : ys.getD k 0 ≤ 64) (hd0 : 0 ≤ d) (hd1 : d ≤ 64) :
    Calls Tryz.prog 102 #[.int .i64 (k : Int), .int .i64 d, .pointer (some ⟨p, 0, none⟩), .pointer (some ⟨q, 0, none⟩), .pointer (some ⟨r, 0, none⟩)] w fun e w' =>
      e = .returned voidV ∧ ∃ j, w' = ((w.setCell ⟨p, 0, none⟩ (.int .i64 (x + st * ys.getD k 0))).setCell ⟨q, 0, none⟩ (.int .i64 (st * d))).drewN j := by
  obtain ⟨b, o, rfl, _, hxs⟩ := byte_at hB (by omega)
  have hcy := hxs k hk
  have hbp := hBp b o rfl
  obtain ⟨y, hy⟩ : ∃ y, y = ys.getD k 0 := ⟨_, rfl⟩
  rw [← hy] at hcy hy0 hy1 ⊢
  have hcp := h.cell
  have hfp := h.frozen
  have hcq := hq.cell
  have hcr := hr.cell
  have hcq2 := (hq.other (a := ⟨p, 0, none⟩) (fun e => hpq e.symm) (.int .i64 (x + st * y))).cell
  have hfq2 := (hq.other (a := ⟨p, 0, none⟩) (fun e => hpq e.symm) (.int .i64 (x + st * y))).frozen
  have hm1 : 0 ≤ st * y := Int.mul_nonneg hs0 hy0
  have hm2 : st * y ≤ 16777216 * 64 := Int.mul_le_mul hs1 hy1 hy0 (by omega)
  have hm3 : 0 ≤ st * d := Int.mul_nonneg hs0 hd0
  have hm4 : st * d ≤ 16777216 * 64 := Int.mul_le_mul hs1 hd1 hd0 (by omega)
  have hw1 : IntKind.i64.wrap (st * y) = st * y := IntWalk.i64_in _ (by omega)
  have hw2 : IntKind.i64.wrap (x + st * y) = x + st * y := IntWalk.i64_in _ (by omega)
  have hw3 : IntKind.i64.wrap (st * d) = st * d := IntWalk.i64_in _ (by omega)
  have h0 : (0 : Int) ≤ (k : Int) := by omega
  have h3 : (k : Int) < (m : Int) := by omega
  clear hxs h hq hr hB hBp hm1 hm2 hm3 hm4 hx0 hx1 hs0 hs1 hy0 hy1 hd0 hd1 hpq hpr hqr hy hbp
  go_enter Tryz.func102, Tryz.ntmps102
  go_wp2
  go_region_law (fail)
  all_goals
    go_wp2
    go_end0
    first | exact ⟨rfl, 1, rfl⟩ | exact ⟨rfl, 2, rfl⟩

set_option maxRecDepth 100000 in
set_option maxHeartbeats 1000000 in
theorem inside_step (p r : Nat) (v : Bool) (ys : List Int) (B : Option Addr) (m c k : Nat) (d : Int) (w : World)
    (h : Box1 w p 4 (.bool v)) (hr : Box1 w r 22 (.slice B m c)) 
    (hB : Lies w B m (ys.map (Value.int .i64))) (hk : k < m) (hm : m ≤ 281474976710656) :
    Calls Tryz.prog 140 #[.int .i64 (k : Int), .int .i64 d, .pointer (some ⟨p, 0, none⟩), .pointer (some ⟨r, 0, none⟩)] w fun e w' =>
      e = .returned voidV ∧ ∃ j, w' = (w.setCell ⟨p, 0, none⟩ (.bool (v && decide (0 ≤ ys.getD k 0) && decide (ys.getD k 0 < d)))).drewN j := by
  obtain ⟨b, o, rfl, _, hxs⟩ := byte_at hB (by omega)
  have hcy := hxs k hk
  obtain ⟨y, hy⟩ : ∃ y, y = ys.getD k 0 := ⟨_, rfl⟩
  rw [← hy] at hcy ⊢
  have hcp := h.cell
  have hfp := h.frozen
  have hcr := hr.cell
  have h0 : (0 : Int) ≤ (k : Int) := by omega
  have h3 : (k : Int) < (m : Int) := by omega
  clear hxs h hr hB hy
  cases v
  · go_enter Tryz.func140, Tryz.ntmps140
    go_wp2
    go_end0
    exact ⟨rfl, 0, rfl⟩
  · by_cases h1 : 0 ≤ y
    · by_cases h2 : y < d
      · rw [decide_eq_true h1, decide_eq_true h2]
        go_enter Tryz.func140, Tryz.ntmps140
        go_wp2
        go_end0
        exact ⟨rfl, 0, rfl⟩
      · rw [decide_eq_true h1, decide_eq_false h2]
        go_enter Tryz.func140, Tryz.ntmps140
        go_wp2
        go_end0
        exact ⟨rfl, 0, rfl⟩
    · rw [decide_eq_false h1]
      go_enter Tryz.func140, Tryz.ntmps140
      go_wp2
      go_end0
      exact ⟨rfl, 0, rfl⟩

end Go.Proofs.YtaoobdnbjagpnaaGreatDoor
