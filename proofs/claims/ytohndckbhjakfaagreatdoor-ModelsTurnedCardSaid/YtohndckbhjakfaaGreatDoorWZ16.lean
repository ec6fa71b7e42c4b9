/- Merged: Pr2, Pm8, Wn1. -/
import Derived.Test.YtohndckbhjakfaaGreatDoorWZ15
import Derived.Test.YtohndckbhjakfaaGreatDoorWZ14
import Derived.Test.YtohndckbhjakfaaGreatDoorWZ09
import Derived.Deep.QuietTactic
import Derived.BigQuiet
namespace Go.Proofs.YtohndckbhjakfaaGreatDoor

section
open Go.RowKit
set_option linter.unusedVariables false
set_option linter.unusedSimpArgs false
set_option maxRecDepth 100000

def shp7E (a b : List Int) : Int := if 0 < sizeI a ∧ 0 < sizeI b then (if a.length = 2 ∧ b.length = 2 ∧ a.getD 1 0 = b.getD 0 0 then 0 else 10) else 1

def shp7S (a b : List Int) : List Int := if shp7E a b = 0 then [a.getD 0 0, b.getD 1 0] else []

theorem shp7E_iff {a b : List Int} : shp7E a b = 0 ↔ (0 < sizeI a ∧ 0 < sizeI b) ∧ a.length = 2 ∧ b.length = 2 ∧ a.getD 1 0 = b.getD 0 0 := by
  unfold shp7E
  by_cases h : 0 < sizeI a ∧ 0 < sizeI b
  · rw [if_pos h]
    by_cases h3 : a.length = 2 ∧ b.length = 2 ∧ a.getD 1 0 = b.getD 0 0
    · rw [if_pos h3]; exact ⟨fun _ => ⟨h, h3⟩, fun _ => rfl⟩
    · rw [if_neg h3]; exact ⟨fun e => absurd e (by decide), fun e => absurd e.2 h3⟩
  · rw [if_neg h]; exact ⟨fun e => absurd e (by decide), fun e => absurd e.1 h⟩

theorem shp7E_arg {a b : List Int} (h : ¬ (0 < sizeI a ∧ 0 < sizeI b)) : shp7E a b = 1 := by rw [shp7E, if_neg h]

theorem shp7E_shape {a b : List Int} (h : 0 < sizeI a ∧ 0 < sizeI b) (h2 : ¬ (a.length = 2 ∧ b.length = 2 ∧ a.getD 1 0 = b.getD 0 0)) : shp7E a b = 10 := by rw [shp7E, if_pos h, if_neg h2]

theorem shp7S_bad {a b : List Int} (h : shp7E a b ≠ 0) : shp7S a b = [] := by rw [shp7S, if_neg h]

theorem shp7S_ok {a b : List Int} (h : shp7E a b = 0) : shp7S a b = [a.getD 0 0, b.getD 1 0] := by rw [shp7S, if_pos h]

theorem below_al7x {w v : World} {o : Obj} (h : Below w.heap.size w v) : Below w.heap.size w (v.alloc o) := h.alloc h.size o

set_option maxHeartbeats 2000000 in
theorem pshape_any (A A' : Option Addr) (n c n' c' : Nat) (s s' : List Int) (w : World) (hA : Lies w A n (s.map (Value.int .i64))) (hA' : Lies w A' n' (s'.map (Value.int .i64))) (hn : n ≤ 281474976710656) (hn' : n' ≤ 281474976710656) :
    Calls Tryz.prog 119 #[.slice A n c, .slice A' n' c'] w fun e w' => ∃ R k kc, e = .returned (.tuple #[.slice R k kc, .int .i64 (shp7E s s')]) ∧ w'.ownsRow w.heap.size 3 1 (.slice R k kc) k ((shp7S s s').map (Value.int .i64)) ∧ k ≤ 2 ∧ Below w.heap.size w w' := by
  have hl1 : s.length = n := by have := hA.len; simpa using this
  have hl2 : s'.length = n' := by have := hA'.len; simpa using this
  have HL1 := hide hl1
  have HL2 := hide hl2
  have HA := hide hA
  have HA' := hide hA'
  clear hA hA' hl1 hl2
  have HBAD : Hid (∀ v, shp7E s s' ≠ 0 → Below w.heap.size w v → ∃ R k kc, Ending.returned (.tuple #[.slice none 0 0, .int .i64 (shp7E s s')]) = .returned (.tuple #[.slice R k kc, .int .i64 (shp7E s s')]) ∧ v.ownsRow w.heap.size 3 1 (.slice R k kc) k ((shp7S s s').map (Value.int .i64)) ∧ k ≤ 2 ∧ Below w.heap.size w v) := hide (fun v h hb => ⟨none, 0, 0, rfl, by rw [shp7S_bad h]; exact World.ownsRow_nil _ _ _ _, by omega, hb⟩)
  go_enter Tryz.func119, Tryz.ntmps119
  go_wp2_with fail
  refine Calls.mono (check_any A n c s _ HA.out hn) ?_
  rintro e w1 ⟨rfl, hb1⟩
  by_cases h1 : 0 < sizeI s
  rotate_left
  · rw [decide_eq_false h1]
    have HE : Hid (shp7E s s' = 1) := hide (shp7E_arg fun h => h1 h.1)
    have HB := hide hb1
    clear h1 hb1
    go_wp2
    go_ret2
    have h := HBAD.out _ (by rw [HE.out]; decide) HB.out
    rw [HE.out] at h ⊢
    exact h
  rw [decide_eq_true h1]
  go_wp2_with fail
  refine Calls.mono (check_any A' n' c' s' _ (HA'.out.below hb1) hn') ?_
  rintro e w2 ⟨rfl, hb20⟩
  have hb2 : Below w.heap.size w w2 := hb1.trans (hb20.mono hb1.size)
  clear hb20 hb1
  by_cases h2 : 0 < sizeI s'
  rotate_left
  · rw [decide_eq_false h2]
    have HE : Hid (shp7E s s' = 1) := hide (shp7E_arg fun h => h2 h.2)
    have HB := hide hb2
    clear h1 h2 hb2
    go_wp2
    go_ret2
    have h := HBAD.out _ (by rw [HE.out]; decide) HB.out
    rw [HE.out] at h ⊢
    exact h
  rw [decide_eq_true h2]
  have HOK := hide (show 0 < sizeI s ∧ 0 < sizeI s' from ⟨h1, h2⟩)
  clear h1 h2
  have HBD : Hid (Below w.heap.size w (w2.drewN 1)) := hide (below_drewN hb2 1)
  by_cases h3 : n = 2
  rotate_left
  · have HE : Hid (shp7E s s' = 10) := hide (shp7E_shape HOK.out (by rw [HL1.out]; exact fun h => h3 h.1))
    have e1 : ((n : Int) == 2) = false := by simpa using (by omega : ¬ (n : Int) = 2)
    have e2 : ((n : Int) != 2) = true := by simpa using (by omega : ¬ (n : Int) = 2)
    go_wp2
    have hS0 : Hid (True) := hide (trivial)
    refine wp_region_U (fun _ v => True) 99 (by kernel_rfl) ?_
    refine wpAnyU_take (i := 0) (oi := { dst := some 14, op := _, type := _, pos := _, after := _, guard := none }) (v := .slice A n c) rfl (by kernel_rfl) (by kernel_rfl) (by kernel_rfl) (by kernel_rfl) (fun _ _ _ h => h) (yields_take rfl (fun w' hw => by go_simp)) hS0.out ?_
    simp only [Act.put, List.setIfInBounds_toArray, List.set_cons_zero, List.set_cons_succ]
    refine wpAnyU_take (i := 1) (oi := { dst := some 15, op := _, type := _, pos := _, after := _, guard := none }) (v := .int .i64 (n : Int)) rfl (by kernel_rfl) (by kernel_rfl) (by kernel_rfl) (by kernel_rfl) (fun _ _ _ h => h) (yields_take rfl (fun w' hw => by go_simp)) hS0.out ?_
    simp only [Act.put, List.setIfInBounds_toArray, List.set_cons_zero, List.set_cons_succ]
    refine wpAnyU_take (i := 2) (oi := { dst := some 16, op := _, type := _, pos := _, after := _, guard := none }) (v := .bool true) rfl (by kernel_rfl) (by kernel_rfl) (by kernel_rfl) (by kernel_rfl) (fun _ _ _ h => h) (yields_take rfl (fun w' hw => by go_simp)) hS0.out ?_
    simp only [Act.put, List.setIfInBounds_toArray, List.set_cons_zero, List.set_cons_succ]
    refine wpAnyU_take (i := 3) (oi := { dst := some 17, op := _, type := _, pos := _, after := _, guard := none }) (v := .bool true) rfl (by kernel_rfl) (by kernel_rfl) (by kernel_rfl) (by kernel_rfl) (fun _ _ _ h => h) (yields_take rfl (fun w' hw => by go_simp)) hS0.out ?_
    simp only [Act.put, List.setIfInBounds_toArray, List.set_cons_zero, List.set_cons_succ]
    refine wpAnyU_take (i := 4) (oi := { dst := some 18, op := _, type := _, pos := _, after := _, guard := some (3, false) }) (v := undef) rfl (by kernel_rfl) (by kernel_rfl) (by kernel_rfl) (by kernel_rfl) (fun _ _ _ h => h) (.inr ⟨rfl, rfl⟩) hS0.out ?_
    simp only [Act.put, List.setIfInBounds_toArray, List.set_cons_zero, List.set_cons_succ]
    refine wpAnyU_take (i := 5) (oi := { dst := some 19, op := _, type := _, pos := _, after := _, guard := some (3, false) }) (v := undef) rfl (by kernel_rfl) (by kernel_rfl) (by kernel_rfl) (by kernel_rfl) (fun _ _ _ h => h) (.inr ⟨rfl, rfl⟩) hS0.out ?_
    simp only [Act.put, List.setIfInBounds_toArray, List.set_cons_zero, List.set_cons_succ]
    refine wpAnyU_take (i := 6) (oi := { dst := some 20, op := _, type := _, pos := _, after := _, guard := some (3, false) }) (v := undef) rfl (by kernel_rfl) (by kernel_rfl) (by kernel_rfl) (by kernel_rfl) (fun _ _ _ h => h) (.inr ⟨rfl, rfl⟩) hS0.out ?_
    simp only [Act.put, List.setIfInBounds_toArray, List.set_cons_zero, List.set_cons_succ]
    refine wpAnyU_take (i := 7) (oi := { dst := some 21, op := _, type := _, pos := _, after := _, guard := none }) (v := .bool true) rfl (by kernel_rfl) (by kernel_rfl) (by kernel_rfl) (by kernel_rfl) (fun _ _ _ h => h) (yields_take rfl (fun w' hw => by go_simp)) hS0.out ?_
    simp only [Act.put, List.setIfInBounds_toArray, List.set_cons_zero, List.set_cons_succ]
    refine wpAnyU_take (i := 8) (oi := { dst := some 22, op := _, type := _, pos := _, after := _, guard := none }) (v := .bool true) rfl (by kernel_rfl) (by kernel_rfl) (by kernel_rfl) (by kernel_rfl) (fun _ _ _ h => h) (yields_take rfl (fun w' hw => by go_simp)) hS0.out ?_
    simp only [Act.put, List.setIfInBounds_toArray, List.set_cons_zero, List.set_cons_succ]
    refine wpAnyU_take (i := 9) (oi := { dst := some 23, op := _, type := _, pos := _, after := _, guard := some (8, false) }) (v := undef) rfl (by kernel_rfl) (by kernel_rfl) (by kernel_rfl) (by kernel_rfl) (fun _ _ _ h => h) (.inr ⟨rfl, rfl⟩) hS0.out ?_
    simp only [Act.put, List.setIfInBounds_toArray, List.set_cons_zero, List.set_cons_succ]
    refine wpAnyU_take (i := 10) (oi := { dst := some 24, op := _, type := _, pos := _, after := _, guard := some (8, false) }) (v := undef) rfl (by kernel_rfl) (by kernel_rfl) (by kernel_rfl) (by kernel_rfl) (fun _ _ _ h => h) (.inr ⟨rfl, rfl⟩) hS0.out ?_
    simp only [Act.put, List.setIfInBounds_toArray, List.set_cons_zero, List.set_cons_succ]
    refine wpAnyU_take (i := 11) (oi := { dst := some 25, op := _, type := _, pos := _, after := _, guard := some (8, false) }) (v := undef) rfl (by kernel_rfl) (by kernel_rfl) (by kernel_rfl) (by kernel_rfl) (fun _ _ _ h => h) (.inr ⟨rfl, rfl⟩) hS0.out ?_
    simp only [Act.put, List.setIfInBounds_toArray, List.set_cons_zero, List.set_cons_succ]
    refine wpAnyU_take (i := 12) (oi := { dst := some 26, op := _, type := _, pos := _, after := _, guard := some (8, false) }) (v := undef) rfl (by kernel_rfl) (by kernel_rfl) (by kernel_rfl) (by kernel_rfl) (fun _ _ _ h => h) (.inr ⟨rfl, rfl⟩) hS0.out ?_
    simp only [Act.put, List.setIfInBounds_toArray, List.set_cons_zero, List.set_cons_succ]
    refine wpAnyU_take (i := 13) (oi := { dst := some 27, op := _, type := _, pos := _, after := _, guard := some (8, false) }) (v := undef) rfl (by kernel_rfl) (by kernel_rfl) (by kernel_rfl) (by kernel_rfl) (fun _ _ _ h => h) (.inr ⟨rfl, rfl⟩) hS0.out ?_
    simp only [Act.put, List.setIfInBounds_toArray, List.set_cons_zero, List.set_cons_succ]
    refine wpAnyU_take (i := 14) (oi := { dst := some 28, op := _, type := _, pos := _, after := _, guard := some (8, false) }) (v := undef) rfl (by kernel_rfl) (by kernel_rfl) (by kernel_rfl) (by kernel_rfl) (fun _ _ _ h => h) (.inr ⟨rfl, rfl⟩) hS0.out ?_
    simp only [Act.put, List.setIfInBounds_toArray, List.set_cons_zero, List.set_cons_succ]
    refine wpAnyU_take (i := 15) (oi := { dst := some 29, op := _, type := _, pos := _, after := _, guard := some (8, false) }) (v := undef) rfl (by kernel_rfl) (by kernel_rfl) (by kernel_rfl) (by kernel_rfl) (fun _ _ _ h => h) (.inr ⟨rfl, rfl⟩) hS0.out ?_
    simp only [Act.put, List.setIfInBounds_toArray, List.set_cons_zero, List.set_cons_succ]
    refine wpAnyU_take (i := 16) (oi := { dst := some 30, op := _, type := _, pos := _, after := _, guard := none }) (v := .bool true) rfl (by kernel_rfl) (by kernel_rfl) (by kernel_rfl) (by kernel_rfl) (fun _ _ _ h => h) (yields_take rfl (fun w' hw => by go_simp)) hS0.out ?_
    simp only [Act.put, List.setIfInBounds_toArray, List.set_cons_zero, List.set_cons_succ]
    refine wpAnyU_done (by kernel_rfl) ?_ _
    clear hS0
    go_wp2
    go_ret2
    have h := HBAD.out _ (by rw [HE.out]; decide) HBD.out
    rw [HE.out] at h ⊢
    exact h
  subst h3
  by_cases h4 : n' = 2
  rotate_left
  · have HE : Hid (shp7E s s' = 10) := hide (shp7E_shape HOK.out (by rw [HL2.out]; exact fun h => h4 h.2.1))
    have e1 : ((n' : Int) == 2) = false := by simpa using (by omega : ¬ (n' : Int) = 2)
    have e2 : ((n' : Int) != 2) = true := by simpa using (by omega : ¬ (n' : Int) = 2)
    go_wp2
    have hS0 : Hid (True) := hide (trivial)
    refine wp_region_U (fun _ v => True) 99 (by kernel_rfl) ?_
    refine wpAnyU_take (i := 0) (oi := { dst := some 14, op := _, type := _, pos := _, after := _, guard := none }) (v := .slice A 2 c) rfl (by kernel_rfl) (by kernel_rfl) (by kernel_rfl) (by kernel_rfl) (fun _ _ _ h => h) (yields_take rfl (fun w' hw => by go_simp)) hS0.out ?_
    simp only [Act.put, List.setIfInBounds_toArray, List.set_cons_zero, List.set_cons_succ]
    refine wpAnyU_take (i := 1) (oi := { dst := some 15, op := _, type := _, pos := _, after := _, guard := none }) (v := .int .i64 2) rfl (by kernel_rfl) (by kernel_rfl) (by kernel_rfl) (by kernel_rfl) (fun _ _ _ h => h) (yields_take rfl (fun w' hw => by go_simp)) hS0.out ?_
    simp only [Act.put, List.setIfInBounds_toArray, List.set_cons_zero, List.set_cons_succ]
    refine wpAnyU_take (i := 2) (oi := { dst := some 16, op := _, type := _, pos := _, after := _, guard := none }) (v := .bool false) rfl (by kernel_rfl) (by kernel_rfl) (by kernel_rfl) (by kernel_rfl) (fun _ _ _ h => h) (yields_take rfl (fun w' hw => by go_simp)) hS0.out ?_
    simp only [Act.put, List.setIfInBounds_toArray, List.set_cons_zero, List.set_cons_succ]
    refine wpAnyU_take (i := 3) (oi := { dst := some 17, op := _, type := _, pos := _, after := _, guard := none }) (v := .bool false) rfl (by kernel_rfl) (by kernel_rfl) (by kernel_rfl) (by kernel_rfl) (fun _ _ _ h => h) (yields_take rfl (fun w' hw => by go_simp)) hS0.out ?_
    simp only [Act.put, List.setIfInBounds_toArray, List.set_cons_zero, List.set_cons_succ]
    refine wpAnyU_take (i := 4) (oi := { dst := some 18, op := _, type := _, pos := _, after := _, guard := some (3, false) }) (v := .slice A' n' c') rfl (by kernel_rfl) (by kernel_rfl) (by kernel_rfl) (by kernel_rfl) (fun _ _ _ h => h) (yields_take rfl (fun w' hw => by go_simp)) hS0.out ?_
    simp only [Act.put, List.setIfInBounds_toArray, List.set_cons_zero, List.set_cons_succ]
    refine wpAnyU_take (i := 5) (oi := { dst := some 19, op := _, type := _, pos := _, after := _, guard := some (3, false) }) (v := .int .i64 (n' : Int)) rfl (by kernel_rfl) (by kernel_rfl) (by kernel_rfl) (by kernel_rfl) (fun _ _ _ h => h) (yields_take rfl (fun w' hw => by go_simp)) hS0.out ?_
    simp only [Act.put, List.setIfInBounds_toArray, List.set_cons_zero, List.set_cons_succ]
    refine wpAnyU_take (i := 6) (oi := { dst := some 20, op := _, type := _, pos := _, after := _, guard := some (3, false) }) (v := .bool true) rfl (by kernel_rfl) (by kernel_rfl) (by kernel_rfl) (by kernel_rfl) (fun _ _ _ h => h) (yields_take rfl (fun w' hw => by go_simp)) hS0.out ?_
    simp only [Act.put, List.setIfInBounds_toArray, List.set_cons_zero, List.set_cons_succ]
    refine wpAnyU_take (i := 7) (oi := { dst := some 21, op := _, type := _, pos := _, after := _, guard := none }) (v := .bool true) rfl (by kernel_rfl) (by kernel_rfl) (by kernel_rfl) (by kernel_rfl) (fun _ _ _ h => h) (yields_take rfl (fun w' hw => by go_simp)) hS0.out ?_
    simp only [Act.put, List.setIfInBounds_toArray, List.set_cons_zero, List.set_cons_succ]
    refine wpAnyU_take (i := 8) (oi := { dst := some 22, op := _, type := _, pos := _, after := _, guard := none }) (v := .bool true) rfl (by kernel_rfl) (by kernel_rfl) (by kernel_rfl) (by kernel_rfl) (fun _ _ _ h => h) (yields_take rfl (fun w' hw => by go_simp)) hS0.out ?_
    simp only [Act.put, List.setIfInBounds_toArray, List.set_cons_zero, List.set_cons_succ]
    refine wpAnyU_take (i := 9) (oi := { dst := some 23, op := _, type := _, pos := _, after := _, guard := some (8, false) }) (v := undef) rfl (by kernel_rfl) (by kernel_rfl) (by kernel_rfl) (by kernel_rfl) (fun _ _ _ h => h) (.inr ⟨rfl, rfl⟩) hS0.out ?_
    simp only [Act.put, List.setIfInBounds_toArray, List.set_cons_zero, List.set_cons_succ]
    refine wpAnyU_take (i := 10) (oi := { dst := some 24, op := _, type := _, pos := _, after := _, guard := some (8, false) }) (v := undef) rfl (by kernel_rfl) (by kernel_rfl) (by kernel_rfl) (by kernel_rfl) (fun _ _ _ h => h) (.inr ⟨rfl, rfl⟩) hS0.out ?_
    simp only [Act.put, List.setIfInBounds_toArray, List.set_cons_zero, List.set_cons_succ]
    refine wpAnyU_take (i := 11) (oi := { dst := some 25, op := _, type := _, pos := _, after := _, guard := some (8, false) }) (v := undef) rfl (by kernel_rfl) (by kernel_rfl) (by kernel_rfl) (by kernel_rfl) (fun _ _ _ h => h) (.inr ⟨rfl, rfl⟩) hS0.out ?_
    simp only [Act.put, List.setIfInBounds_toArray, List.set_cons_zero, List.set_cons_succ]
    refine wpAnyU_take (i := 12) (oi := { dst := some 26, op := _, type := _, pos := _, after := _, guard := some (8, false) }) (v := undef) rfl (by kernel_rfl) (by kernel_rfl) (by kernel_rfl) (by kernel_rfl) (fun _ _ _ h => h) (.inr ⟨rfl, rfl⟩) hS0.out ?_
    simp only [Act.put, List.setIfInBounds_toArray, List.set_cons_zero, List.set_cons_succ]
    refine wpAnyU_take (i := 13) (oi := { dst := some 27, op := _, type := _, pos := _, after := _, guard := some (8, false) }) (v := undef) rfl (by kernel_rfl) (by kernel_rfl) (by kernel_rfl) (by kernel_rfl) (fun _ _ _ h => h) (.inr ⟨rfl, rfl⟩) hS0.out ?_
    simp only [Act.put, List.setIfInBounds_toArray, List.set_cons_zero, List.set_cons_succ]
    refine wpAnyU_take (i := 14) (oi := { dst := some 28, op := _, type := _, pos := _, after := _, guard := some (8, false) }) (v := undef) rfl (by kernel_rfl) (by kernel_rfl) (by kernel_rfl) (by kernel_rfl) (fun _ _ _ h => h) (.inr ⟨rfl, rfl⟩) hS0.out ?_
    simp only [Act.put, List.setIfInBounds_toArray, List.set_cons_zero, List.set_cons_succ]
    refine wpAnyU_take (i := 15) (oi := { dst := some 29, op := _, type := _, pos := _, after := _, guard := some (8, false) }) (v := undef) rfl (by kernel_rfl) (by kernel_rfl) (by kernel_rfl) (by kernel_rfl) (fun _ _ _ h => h) (.inr ⟨rfl, rfl⟩) hS0.out ?_
    simp only [Act.put, List.setIfInBounds_toArray, List.set_cons_zero, List.set_cons_succ]
    refine wpAnyU_take (i := 16) (oi := { dst := some 30, op := _, type := _, pos := _, after := _, guard := none }) (v := .bool true) rfl (by kernel_rfl) (by kernel_rfl) (by kernel_rfl) (by kernel_rfl) (fun _ _ _ h => h) (yields_take rfl (fun w' hw => by go_simp)) hS0.out ?_
    simp only [Act.put, List.setIfInBounds_toArray, List.set_cons_zero, List.set_cons_succ]
    refine wpAnyU_done (by kernel_rfl) ?_ _
    clear hS0
    go_wp2
    go_ret2
    have h := HBAD.out _ (by rw [HE.out]; decide) HBD.out
    rw [HE.out] at h ⊢
    exact h
  subst h4
  obtain ⟨b1, o1, rfl, hbk1, hx1⟩ := byte_at HA.out (by omega)
  obtain ⟨b2, o2, rfl, hbk2, hx2⟩ := byte_at HA'.out (by omega)
  have c10 := hx1 0 (by omega)
  have c11 := hx1 1 (by omega)
  have c20 := hx2 0 (by omega)
  have c21 := hx2 1 (by omega)
  obtain ⟨p, hp⟩ : ∃ p, p = s.getD 0 0 := ⟨_, rfl⟩
  obtain ⟨x, hx⟩ : ∃ x, x = s.getD 1 0 := ⟨_, rfl⟩
  obtain ⟨y, hy⟩ : ∃ y, y = s'.getD 0 0 := ⟨_, rfl⟩
  obtain ⟨q, hq⟩ : ∃ q, q = s'.getD 1 0 := ⟨_, rfl⟩
  rw [← hp] at c10
  rw [← hx] at c11
  rw [← hy] at c20
  rw [← hq] at c21
  have HK1 : Hid (∀ v, Below w.heap.size w v → v.cell? ⟨b1, o1 + 1, none⟩ = some (.int .i64 x) ∧ v.cell? ⟨b2, o2, none⟩ = some (.int .i64 y)) := hide (fun v hv => ⟨(hv.cell (p := ⟨b1, o1 + 1, none⟩) hbk1).trans c11, (hv.cell (p := ⟨b2, o2, none⟩) hbk2).trans c20⟩)
  have HK2 : Hid (∀ v, Below w.heap.size w v → v.cell? ⟨b1, o1, none⟩ = some (.int .i64 p) ∧ v.cell? ⟨b2, o2 + 1, none⟩ = some (.int .i64 q)) := hide (fun v hv => ⟨(hv.cell (p := ⟨b1, o1, none⟩) hbk1).trans c10, (hv.cell (p := ⟨b2, o2 + 1, none⟩) hbk2).trans c21⟩)
  have HXY := hide (And.intro hx hy)
  have HPQ := hide (And.intro hp hq)
  clear hx1 hx2 c10 c11 c20 c21 hp hq hx hy
  by_cases h5 : x = y
  rotate_left
  · have HE : Hid (shp7E s s' = 10) := hide (shp7E_shape HOK.out (by rw [← HXY.out.1, ← HXY.out.2]; exact fun h => h5 h.2.2))
    have e1 : (x == y) = false := by simpa using h5
    have e2 : (x != y) = true := by simpa using h5
    go_wp2
    have hS0 : Hid ((w2.drew).cell? ⟨b1, o1 + 1, none⟩ = some (.int .i64 x) ∧ (w2.drew).cell? ⟨b2, o2, none⟩ = some (.int .i64 y)) := hide (HK1.out _ (below_drewN hb2 1))
    refine wp_region_U (fun _ v => v.cell? ⟨b1, o1 + 1, none⟩ = some (.int .i64 x) ∧ v.cell? ⟨b2, o2, none⟩ = some (.int .i64 y)) 99 (by kernel_rfl) ?_
    refine wpAnyU_take (i := 0) (oi := { dst := some 14, op := _, type := _, pos := _, after := _, guard := none }) (v := .slice (some ⟨b1, o1, none⟩) 2 c) rfl (by kernel_rfl) (by kernel_rfl) (by kernel_rfl) (by kernel_rfl) (fun _ _ _ h => h) (yields_take rfl (fun w' hw => by obtain ⟨h1, h2⟩ := hw.const; go_simp)) hS0.out ?_
    simp only [Act.put, List.setIfInBounds_toArray, List.set_cons_zero, List.set_cons_succ]
    refine wpAnyU_take (i := 1) (oi := { dst := some 15, op := _, type := _, pos := _, after := _, guard := none }) (v := .int .i64 2) rfl (by kernel_rfl) (by kernel_rfl) (by kernel_rfl) (by kernel_rfl) (fun _ _ _ h => h) (yields_take rfl (fun w' hw => by obtain ⟨h1, h2⟩ := hw.const; go_simp)) hS0.out ?_
    simp only [Act.put, List.setIfInBounds_toArray, List.set_cons_zero, List.set_cons_succ]
    refine wpAnyU_take (i := 2) (oi := { dst := some 16, op := _, type := _, pos := _, after := _, guard := none }) (v := .bool false) rfl (by kernel_rfl) (by kernel_rfl) (by kernel_rfl) (by kernel_rfl) (fun _ _ _ h => h) (yields_take rfl (fun w' hw => by obtain ⟨h1, h2⟩ := hw.const; go_simp)) hS0.out ?_
    simp only [Act.put, List.setIfInBounds_toArray, List.set_cons_zero, List.set_cons_succ]
    refine wpAnyU_take (i := 3) (oi := { dst := some 17, op := _, type := _, pos := _, after := _, guard := none }) (v := .bool false) rfl (by kernel_rfl) (by kernel_rfl) (by kernel_rfl) (by kernel_rfl) (fun _ _ _ h => h) (yields_take rfl (fun w' hw => by obtain ⟨h1, h2⟩ := hw.const; go_simp)) hS0.out ?_
    simp only [Act.put, List.setIfInBounds_toArray, List.set_cons_zero, List.set_cons_succ]
    refine wpAnyU_take (i := 4) (oi := { dst := some 18, op := _, type := _, pos := _, after := _, guard := some (3, false) }) (v := .slice (some ⟨b2, o2, none⟩) 2 c') rfl (by kernel_rfl) (by kernel_rfl) (by kernel_rfl) (by kernel_rfl) (fun _ _ _ h => h) (yields_take rfl (fun w' hw => by obtain ⟨h1, h2⟩ := hw.const; go_simp)) hS0.out ?_
    simp only [Act.put, List.setIfInBounds_toArray, List.set_cons_zero, List.set_cons_succ]
    refine wpAnyU_take (i := 5) (oi := { dst := some 19, op := _, type := _, pos := _, after := _, guard := some (3, false) }) (v := .int .i64 2) rfl (by kernel_rfl) (by kernel_rfl) (by kernel_rfl) (by kernel_rfl) (fun _ _ _ h => h) (yields_take rfl (fun w' hw => by obtain ⟨h1, h2⟩ := hw.const; go_simp)) hS0.out ?_
    simp only [Act.put, List.setIfInBounds_toArray, List.set_cons_zero, List.set_cons_succ]
    refine wpAnyU_take (i := 6) (oi := { dst := some 20, op := _, type := _, pos := _, after := _, guard := some (3, false) }) (v := .bool false) rfl (by kernel_rfl) (by kernel_rfl) (by kernel_rfl) (by kernel_rfl) (fun _ _ _ h => h) (yields_take rfl (fun w' hw => by obtain ⟨h1, h2⟩ := hw.const; go_simp)) hS0.out ?_
    simp only [Act.put, List.setIfInBounds_toArray, List.set_cons_zero, List.set_cons_succ]
    refine wpAnyU_take (i := 7) (oi := { dst := some 21, op := _, type := _, pos := _, after := _, guard := none }) (v := .bool false) rfl (by kernel_rfl) (by kernel_rfl) (by kernel_rfl) (by kernel_rfl) (fun _ _ _ h => h) (yields_take rfl (fun w' hw => by obtain ⟨h1, h2⟩ := hw.const; go_simp)) hS0.out ?_
    simp only [Act.put, List.setIfInBounds_toArray, List.set_cons_zero, List.set_cons_succ]
    refine wpAnyU_take (i := 8) (oi := { dst := some 22, op := _, type := _, pos := _, after := _, guard := none }) (v := .bool false) rfl (by kernel_rfl) (by kernel_rfl) (by kernel_rfl) (by kernel_rfl) (fun _ _ _ h => h) (yields_take rfl (fun w' hw => by obtain ⟨h1, h2⟩ := hw.const; go_simp)) hS0.out ?_
    simp only [Act.put, List.setIfInBounds_toArray, List.set_cons_zero, List.set_cons_succ]
    refine wpAnyU_take (i := 9) (oi := { dst := some 23, op := _, type := _, pos := _, after := _, guard := some (8, false) }) (v := .slice (some ⟨b1, o1, none⟩) 2 c) rfl (by kernel_rfl) (by kernel_rfl) (by kernel_rfl) (by kernel_rfl) (fun _ _ _ h => h) (yields_take rfl (fun w' hw => by obtain ⟨h1, h2⟩ := hw.const; go_simp)) hS0.out ?_
    simp only [Act.put, List.setIfInBounds_toArray, List.set_cons_zero, List.set_cons_succ]
    refine wpAnyU_take (i := 10) (oi := { dst := some 24, op := _, type := _, pos := _, after := _, guard := some (8, false) }) (v := .pointer (some ⟨b1, o1 + 1, none⟩)) rfl (by kernel_rfl) (by kernel_rfl) (by kernel_rfl) (by kernel_rfl) (fun _ _ _ h => h) (yields_take rfl (fun w' hw => by obtain ⟨h1, h2⟩ := hw.const; go_simp)) hS0.out ?_
    simp only [Act.put, List.setIfInBounds_toArray, List.set_cons_zero, List.set_cons_succ]
    refine wpAnyU_take (i := 11) (oi := { dst := some 25, op := _, type := _, pos := _, after := _, guard := some (8, false) }) (v := .int .i64 x) rfl (by kernel_rfl) (by kernel_rfl) (by kernel_rfl) (by kernel_rfl) (fun _ _ _ h => h) (yields_take rfl (fun w' hw => by obtain ⟨h1, h2⟩ := hw.const; go_simp)) hS0.out ?_
    simp only [Act.put, List.setIfInBounds_toArray, List.set_cons_zero, List.set_cons_succ]
    refine wpAnyU_take (i := 12) (oi := { dst := some 26, op := _, type := _, pos := _, after := _, guard := some (8, false) }) (v := .slice (some ⟨b2, o2, none⟩) 2 c') rfl (by kernel_rfl) (by kernel_rfl) (by kernel_rfl) (by kernel_rfl) (fun _ _ _ h => h) (yields_take rfl (fun w' hw => by obtain ⟨h1, h2⟩ := hw.const; go_simp)) hS0.out ?_
    simp only [Act.put, List.setIfInBounds_toArray, List.set_cons_zero, List.set_cons_succ]
    refine wpAnyU_take (i := 13) (oi := { dst := some 27, op := _, type := _, pos := _, after := _, guard := some (8, false) }) (v := .pointer (some ⟨b2, o2, none⟩)) rfl (by kernel_rfl) (by kernel_rfl) (by kernel_rfl) (by kernel_rfl) (fun _ _ _ h => h) (yields_take rfl (fun w' hw => by obtain ⟨h1, h2⟩ := hw.const; go_simp)) hS0.out ?_
    simp only [Act.put, List.setIfInBounds_toArray, List.set_cons_zero, List.set_cons_succ]
    refine wpAnyU_take (i := 14) (oi := { dst := some 28, op := _, type := _, pos := _, after := _, guard := some (8, false) }) (v := .int .i64 y) rfl (by kernel_rfl) (by kernel_rfl) (by kernel_rfl) (by kernel_rfl) (fun _ _ _ h => h) (yields_take rfl (fun w' hw => by obtain ⟨h1, h2⟩ := hw.const; go_simp)) hS0.out ?_
    simp only [Act.put, List.setIfInBounds_toArray, List.set_cons_zero, List.set_cons_succ]
    refine wpAnyU_take (i := 15) (oi := { dst := some 29, op := _, type := _, pos := _, after := _, guard := some (8, false) }) (v := .bool true) rfl (by kernel_rfl) (by kernel_rfl) (by kernel_rfl) (by kernel_rfl) (fun _ _ _ h => h) (yields_take rfl (fun w' hw => by obtain ⟨h1, h2⟩ := hw.const; go_simp)) hS0.out ?_
    simp only [Act.put, List.setIfInBounds_toArray, List.set_cons_zero, List.set_cons_succ]
    refine wpAnyU_take (i := 16) (oi := { dst := some 30, op := _, type := _, pos := _, after := _, guard := none }) (v := .bool true) rfl (by kernel_rfl) (by kernel_rfl) (by kernel_rfl) (by kernel_rfl) (fun _ _ _ h => h) (yields_take rfl (fun w' hw => by obtain ⟨h1, h2⟩ := hw.const; go_simp)) hS0.out ?_
    simp only [Act.put, List.setIfInBounds_toArray, List.set_cons_zero, List.set_cons_succ]
    refine wpAnyU_done (by kernel_rfl) ?_ _
    clear hS0
    go_wp2
    go_ret2
    have h := HBAD.out _ (by rw [HE.out]; decide) HBD.out
    rw [HE.out] at h ⊢
    exact h
  have HE : Hid (shp7E s s' = 0) := hide (shp7E_iff.2 ⟨HOK.out, HL1.out, HL2.out, by rw [← HXY.out.1, ← HXY.out.2]; exact h5⟩)
  subst h5
  have hsz := hb2.size
  go_wp2
  have hS0 : Hid ((w2.drew).cell? ⟨b1, o1 + 1, none⟩ = some (.int .i64 x) ∧ (w2.drew).cell? ⟨b2, o2, none⟩ = some (.int .i64 x)) := hide (HK1.out _ (below_drewN hb2 1))
  refine wp_region_U (fun _ v => v.cell? ⟨b1, o1 + 1, none⟩ = some (.int .i64 x) ∧ v.cell? ⟨b2, o2, none⟩ = some (.int .i64 x)) 99 (by kernel_rfl) ?_
  refine wpAnyU_take (i := 0) (oi := { dst := some 14, op := _, type := _, pos := _, after := _, guard := none }) (v := .slice (some ⟨b1, o1, none⟩) 2 c) rfl (by kernel_rfl) (by kernel_rfl) (by kernel_rfl) (by kernel_rfl) (fun _ _ _ h => h) (yields_take rfl (fun w' hw => by obtain ⟨h1, h2⟩ := hw.const; go_simp)) hS0.out ?_
  simp only [Act.put, List.setIfInBounds_toArray, List.set_cons_zero, List.set_cons_succ]
  refine wpAnyU_take (i := 1) (oi := { dst := some 15, op := _, type := _, pos := _, after := _, guard := none }) (v := .int .i64 2) rfl (by kernel_rfl) (by kernel_rfl) (by kernel_rfl) (by kernel_rfl) (fun _ _ _ h => h) (yields_take rfl (fun w' hw => by obtain ⟨h1, h2⟩ := hw.const; go_simp)) hS0.out ?_
  simp only [Act.put, List.setIfInBounds_toArray, List.set_cons_zero, List.set_cons_succ]
  refine wpAnyU_take (i := 2) (oi := { dst := some 16, op := _, type := _, pos := _, after := _, guard := none }) (v := .bool false) rfl (by kernel_rfl) (by kernel_rfl) (by kernel_rfl) (by kernel_rfl) (fun _ _ _ h => h) (yields_take rfl (fun w' hw => by obtain ⟨h1, h2⟩ := hw.const; go_simp)) hS0.out ?_
  simp only [Act.put, List.setIfInBounds_toArray, List.set_cons_zero, List.set_cons_succ]
  refine wpAnyU_take (i := 3) (oi := { dst := some 17, op := _, type := _, pos := _, after := _, guard := none }) (v := .bool false) rfl (by kernel_rfl) (by kernel_rfl) (by kernel_rfl) (by kernel_rfl) (fun _ _ _ h => h) (yields_take rfl (fun w' hw => by obtain ⟨h1, h2⟩ := hw.const; go_simp)) hS0.out ?_
  simp only [Act.put, List.setIfInBounds_toArray, List.set_cons_zero, List.set_cons_succ]
  refine wpAnyU_take (i := 4) (oi := { dst := some 18, op := _, type := _, pos := _, after := _, guard := some (3, false) }) (v := .slice (some ⟨b2, o2, none⟩) 2 c') rfl (by kernel_rfl) (by kernel_rfl) (by kernel_rfl) (by kernel_rfl) (fun _ _ _ h => h) (yields_take rfl (fun w' hw => by obtain ⟨h1, h2⟩ := hw.const; go_simp)) hS0.out ?_
  simp only [Act.put, List.setIfInBounds_toArray, List.set_cons_zero, List.set_cons_succ]
  refine wpAnyU_take (i := 5) (oi := { dst := some 19, op := _, type := _, pos := _, after := _, guard := some (3, false) }) (v := .int .i64 2) rfl (by kernel_rfl) (by kernel_rfl) (by kernel_rfl) (by kernel_rfl) (fun _ _ _ h => h) (yields_take rfl (fun w' hw => by obtain ⟨h1, h2⟩ := hw.const; go_simp)) hS0.out ?_
  simp only [Act.put, List.setIfInBounds_toArray, List.set_cons_zero, List.set_cons_succ]
  refine wpAnyU_take (i := 6) (oi := { dst := some 20, op := _, type := _, pos := _, after := _, guard := some (3, false) }) (v := .bool false) rfl (by kernel_rfl) (by kernel_rfl) (by kernel_rfl) (by kernel_rfl) (fun _ _ _ h => h) (yields_take rfl (fun w' hw => by obtain ⟨h1, h2⟩ := hw.const; go_simp)) hS0.out ?_
  simp only [Act.put, List.setIfInBounds_toArray, List.set_cons_zero, List.set_cons_succ]
  refine wpAnyU_take (i := 7) (oi := { dst := some 21, op := _, type := _, pos := _, after := _, guard := none }) (v := .bool false) rfl (by kernel_rfl) (by kernel_rfl) (by kernel_rfl) (by kernel_rfl) (fun _ _ _ h => h) (yields_take rfl (fun w' hw => by obtain ⟨h1, h2⟩ := hw.const; go_simp)) hS0.out ?_
  simp only [Act.put, List.setIfInBounds_toArray, List.set_cons_zero, List.set_cons_succ]
  refine wpAnyU_take (i := 8) (oi := { dst := some 22, op := _, type := _, pos := _, after := _, guard := none }) (v := .bool false) rfl (by kernel_rfl) (by kernel_rfl) (by kernel_rfl) (by kernel_rfl) (fun _ _ _ h => h) (yields_take rfl (fun w' hw => by obtain ⟨h1, h2⟩ := hw.const; go_simp)) hS0.out ?_
  simp only [Act.put, List.setIfInBounds_toArray, List.set_cons_zero, List.set_cons_succ]
  refine wpAnyU_take (i := 9) (oi := { dst := some 23, op := _, type := _, pos := _, after := _, guard := some (8, false) }) (v := .slice (some ⟨b1, o1, none⟩) 2 c) rfl (by kernel_rfl) (by kernel_rfl) (by kernel_rfl) (by kernel_rfl) (fun _ _ _ h => h) (yields_take rfl (fun w' hw => by obtain ⟨h1, h2⟩ := hw.const; go_simp)) hS0.out ?_
  simp only [Act.put, List.setIfInBounds_toArray, List.set_cons_zero, List.set_cons_succ]
  refine wpAnyU_take (i := 10) (oi := { dst := some 24, op := _, type := _, pos := _, after := _, guard := some (8, false) }) (v := .pointer (some ⟨b1, o1 + 1, none⟩)) rfl (by kernel_rfl) (by kernel_rfl) (by kernel_rfl) (by kernel_rfl) (fun _ _ _ h => h) (yields_take rfl (fun w' hw => by obtain ⟨h1, h2⟩ := hw.const; go_simp)) hS0.out ?_
  simp only [Act.put, List.setIfInBounds_toArray, List.set_cons_zero, List.set_cons_succ]
  refine wpAnyU_take (i := 11) (oi := { dst := some 25, op := _, type := _, pos := _, after := _, guard := some (8, false) }) (v := .int .i64 x) rfl (by kernel_rfl) (by kernel_rfl) (by kernel_rfl) (by kernel_rfl) (fun _ _ _ h => h) (yields_take rfl (fun w' hw => by obtain ⟨h1, h2⟩ := hw.const; go_simp)) hS0.out ?_
  simp only [Act.put, List.setIfInBounds_toArray, List.set_cons_zero, List.set_cons_succ]
  refine wpAnyU_take (i := 12) (oi := { dst := some 26, op := _, type := _, pos := _, after := _, guard := some (8, false) }) (v := .slice (some ⟨b2, o2, none⟩) 2 c') rfl (by kernel_rfl) (by kernel_rfl) (by kernel_rfl) (by kernel_rfl) (fun _ _ _ h => h) (yields_take rfl (fun w' hw => by obtain ⟨h1, h2⟩ := hw.const; go_simp)) hS0.out ?_
  simp only [Act.put, List.setIfInBounds_toArray, List.set_cons_zero, List.set_cons_succ]
  refine wpAnyU_take (i := 13) (oi := { dst := some 27, op := _, type := _, pos := _, after := _, guard := some (8, false) }) (v := .pointer (some ⟨b2, o2, none⟩)) rfl (by kernel_rfl) (by kernel_rfl) (by kernel_rfl) (by kernel_rfl) (fun _ _ _ h => h) (yields_take rfl (fun w' hw => by obtain ⟨h1, h2⟩ := hw.const; go_simp)) hS0.out ?_
  simp only [Act.put, List.setIfInBounds_toArray, List.set_cons_zero, List.set_cons_succ]
  refine wpAnyU_take (i := 14) (oi := { dst := some 28, op := _, type := _, pos := _, after := _, guard := some (8, false) }) (v := .int .i64 x) rfl (by kernel_rfl) (by kernel_rfl) (by kernel_rfl) (by kernel_rfl) (fun _ _ _ h => h) (yields_take rfl (fun w' hw => by obtain ⟨h1, h2⟩ := hw.const; go_simp)) hS0.out ?_
  simp only [Act.put, List.setIfInBounds_toArray, List.set_cons_zero, List.set_cons_succ]
  refine wpAnyU_take (i := 15) (oi := { dst := some 29, op := _, type := _, pos := _, after := _, guard := some (8, false) }) (v := .bool false) rfl (by kernel_rfl) (by kernel_rfl) (by kernel_rfl) (by kernel_rfl) (fun _ _ _ h => h) (yields_take rfl (fun w' hw => by obtain ⟨h1, h2⟩ := hw.const; go_simp)) hS0.out ?_
  simp only [Act.put, List.setIfInBounds_toArray, List.set_cons_zero, List.set_cons_succ]
  refine wpAnyU_take (i := 16) (oi := { dst := some 30, op := _, type := _, pos := _, after := _, guard := none }) (v := .bool false) rfl (by kernel_rfl) (by kernel_rfl) (by kernel_rfl) (by kernel_rfl) (fun _ _ _ h => h) (yields_take rfl (fun w' hw => by obtain ⟨h1, h2⟩ := hw.const; go_simp)) hS0.out ?_
  simp only [Act.put, List.setIfInBounds_toArray, List.set_cons_zero, List.set_cons_succ]
  refine wpAnyU_done (by kernel_rfl) ?_ _
  clear hS0
  go_wp2
  have hS0 : Hid (((w2.drewN 1).drew).cell? ⟨b1, o1, none⟩ = some (.int .i64 p) ∧ ((w2.drewN 1).drew).cell? ⟨b2, o2 + 1, none⟩ = some (.int .i64 q)) := hide (HK2.out _ (below_drewN hb2 2))
  refine wp_region_U (fun _ v => v.cell? ⟨b1, o1, none⟩ = some (.int .i64 p) ∧ v.cell? ⟨b2, o2 + 1, none⟩ = some (.int .i64 q)) 99 (by kernel_rfl) ?_
  refine wpAnyU_take (i := 0) (oi := { dst := some 31, op := _, type := _, pos := _, after := _, guard := none }) (v := .slice (some ⟨b1, o1, none⟩) 2 c) rfl (by kernel_rfl) (by kernel_rfl) (by kernel_rfl) (by kernel_rfl) (fun _ _ _ h => h) (yields_take rfl (fun w' hw => by obtain ⟨h1, h2⟩ := hw.const; go_simp)) hS0.out ?_
  simp only [Act.put, List.setIfInBounds_toArray, List.set_cons_zero, List.set_cons_succ]
  refine wpAnyU_take (i := 1) (oi := { dst := some 32, op := _, type := _, pos := _, after := _, guard := none }) (v := .pointer (some ⟨b1, o1, none⟩)) rfl (by kernel_rfl) (by kernel_rfl) (by kernel_rfl) (by kernel_rfl) (fun _ _ _ h => h) (yields_take rfl (fun w' hw => by obtain ⟨h1, h2⟩ := hw.const; go_simp)) hS0.out ?_
  simp only [Act.put, List.setIfInBounds_toArray, List.set_cons_zero, List.set_cons_succ]
  refine wpAnyU_take (i := 2) (oi := { dst := some 33, op := _, type := _, pos := _, after := _, guard := none }) (v := .int .i64 p) rfl (by kernel_rfl) (by kernel_rfl) (by kernel_rfl) (by kernel_rfl) (fun _ _ _ h => h) (yields_take rfl (fun w' hw => by obtain ⟨h1, h2⟩ := hw.const; go_simp)) hS0.out ?_
  simp only [Act.put, List.setIfInBounds_toArray, List.set_cons_zero, List.set_cons_succ]
  refine wpAnyU_take (i := 3) (oi := { dst := some 34, op := _, type := _, pos := _, after := _, guard := none }) (v := .slice (some ⟨b2, o2, none⟩) 2 c') rfl (by kernel_rfl) (by kernel_rfl) (by kernel_rfl) (by kernel_rfl) (fun _ _ _ h => h) (yields_take rfl (fun w' hw => by obtain ⟨h1, h2⟩ := hw.const; go_simp)) hS0.out ?_
  simp only [Act.put, List.setIfInBounds_toArray, List.set_cons_zero, List.set_cons_succ]
  refine wpAnyU_take (i := 4) (oi := { dst := some 35, op := _, type := _, pos := _, after := _, guard := none }) (v := .pointer (some ⟨b2, o2 + 1, none⟩)) rfl (by kernel_rfl) (by kernel_rfl) (by kernel_rfl) (by kernel_rfl) (fun _ _ _ h => h) (yields_take rfl (fun w' hw => by obtain ⟨h1, h2⟩ := hw.const; go_simp)) hS0.out ?_
  simp only [Act.put, List.setIfInBounds_toArray, List.set_cons_zero, List.set_cons_succ]
  refine wpAnyU_take (i := 5) (oi := { dst := some 36, op := _, type := _, pos := _, after := _, guard := none }) (v := .int .i64 q) rfl (by kernel_rfl) (by kernel_rfl) (by kernel_rfl) (by kernel_rfl) (fun _ _ _ h => h) (yields_take rfl (fun w' hw => by obtain ⟨h1, h2⟩ := hw.const; go_simp)) hS0.out ?_
  simp only [Act.put, List.setIfInBounds_toArray, List.set_cons_zero, List.set_cons_succ]
  refine wpAnyU_one (i := 6) (by kernel_rfl) rfl ?_
  intro K hK
  go_simp
  have hb4 : Below w.heap.size w ((((w2.drewN 1).drew).alloc (.cells #[.int .i64 p, .int .i64 q] 3))) := below_al7x (below_drewN hb2 2)
  have hS1 : Hid ((((w2.drewN 1).drew).alloc (.cells #[.int .i64 p, .int .i64 q] 3)).cell? ⟨b1, o1, none⟩ = some (.int .i64 p) ∧ (((w2.drewN 1).drew).alloc (.cells #[.int .i64 p, .int .i64 q] 3)).cell? ⟨b2, o2 + 1, none⟩ = some (.int .i64 q)) := hide (HK2.out _ hb4)
  refine hK.out _ _ hS1.out (fun _ => ?_)
  clear hK K hS0
  refine wpAnyU_take (i := 7) (oi := { dst := some 4, op := _, type := _, pos := _, after := _, guard := none }) (v := .slice (some ⟨w2.heap.size, 0, none⟩) 2 2) rfl (by kernel_rfl) (by kernel_rfl) (by kernel_rfl) (by kernel_rfl) (fun _ _ _ h => h) (yields_take rfl (fun w' hw => by obtain ⟨h1, h2⟩ := hw.const; go_simp)) hS1.out ?_
  simp only [Act.put, List.setIfInBounds_toArray, List.set_cons_zero, List.set_cons_succ]
  refine wpAnyU_take (i := 8) (oi := { dst := some 5, op := _, type := _, pos := _, after := _, guard := none }) (v := .int .i64 0) rfl (by kernel_rfl) (by kernel_rfl) (by kernel_rfl) (by kernel_rfl) (fun _ _ _ h => h) (yields_take rfl (fun w' hw => by obtain ⟨h1, h2⟩ := hw.const; go_simp)) hS1.out ?_
  simp only [Act.put, List.setIfInBounds_toArray, List.set_cons_zero, List.set_cons_succ]
  refine wpAnyU_done (by kernel_rfl) ?_ _
  clear hS1
  have HBF := hide hb4
  go_wp2
  go_ret2
  refine ⟨some ⟨w2.heap.size, 0, none⟩, 2, 2, by rw [HE.out]; rfl, ?_, by omega, HBF.out⟩
  rw [shp7S_ok HE.out, ← HPQ.out.1, ← HPQ.out.2]
  exact own_of_block hsz (heap_alloc_new _ _) rfl (Nat.le_refl _) (by decide) rfl

end

section
open Go.RowKit
set_option linter.unusedVariables false
set_option linter.unusedSimpArgs false

/-- The number of a picture at a row and a column of its c-th sheet; 0 beyond it. -/
def numAt (l : List Int) (H W c : Nat) (y x : Int) : Int :=
  if 0 ≤ y ∧ y < (H : Int) ∧ 0 ≤ x ∧ x < (W : Int) then l.getD ((c * H + y.toNat) * W + x.toNat) 0 else 0

/-- What the first k places of a window of a rows and b columns come to, whose first row and column are y and x; its own numbers begin at o. -/
def covN (l l' : List Int) (H W a b o : Nat) (y x : Int) : Nat → Int
  | 0 => 0
  | q + 1 => add32 (covN l l' H W a b o y x q) (mul32 (numAt l H W (q / (a * b)) (y + ((q / b % a : Nat) : Int)) (x + ((q % b : Nat) : Int))) (l'.getD (o + q) 0))

/-- The numbers of a convolution: O windows, Y rows and X columns of places. -/
def winL (l l' : List Int) (C H W O a b step pad Y X : Nat) : List Int :=
  (List.range (O * Y * X)).map fun k => covN l l' H W a b (k / (Y * X) * (C * (a * b))) (((k / X % Y * step : Nat) : Int) - (pad : Int)) (((k % X * step : Nat) : Int) - (pad : Int)) (C * (a * b))

/-- The greatest of the first number of a square and its first k ones. -/
def greatN (l : List Int) (H W c y x wide : Nat) : Nat → Int
  | 0 => numAt l H W c (y : Int) (x : Int)
  | q + 1 => max (greatN l H W c y x wide q) (numAt l H W c ((y + q / wide : Nat) : Int) ((x + q % wide : Nat) : Int))

def poolL (l : List Int) (C H W wide Y X : Nat) : List Int :=
  (List.range (C * Y * X)).map fun k => greatN l H W (k / (Y * X)) (k / X % Y * wide) (k % X * wide) wide (wide * wide)

theorem place3_lt {C Y X c y x : Nat} (hc : c < C) (hy : y < Y) (hx : x < X) : (c * Y + y) * X + x < C * Y * X :=
  place_lt (place_lt hc hy) hx

theorem numAt_in {l : List Int} {H W c : Nat} {y x : Int} (h : 0 ≤ y ∧ y < (H : Int) ∧ 0 ≤ x ∧ x < (W : Int)) : numAt l H W c y x = l.getD ((c * H + y.toNat) * W + x.toNat) 0 := by rw [numAt, if_pos h]

theorem numAt_out {l : List Int} {H W c : Nat} {y x : Int} (h : ¬ (0 ≤ y ∧ y < (H : Int) ∧ 0 ≤ x ∧ x < (W : Int))) : numAt l H W c y x = 0 := by rw [numAt, if_neg h]

end

section
open Go.RowKit
set_option linter.unusedVariables false
set_option linter.unusedSimpArgs false
set_option maxRecDepth 100000

/-- What a window covers, as a value: the picture, the first row and column. -/
abbrev coverV (A : Option Addr) (n c : Nat) (B : Option Addr) (m d : Nat) (y x : Int) : Value := .agg #[.slice A n c, .slice B m d, .int .i64 y, .int .i64 x]

end

end Go.Proofs.YtohndckbhjakfaaGreatDoor

