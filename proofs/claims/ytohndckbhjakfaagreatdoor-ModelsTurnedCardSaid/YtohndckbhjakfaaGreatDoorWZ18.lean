/- Merged: Wn4. -/
import Derived.Test.YtohndckbhjakfaaGreatDoorWZ17
import Derived.Test.YtohndckbhjakfaaGreatDoorWZ09
namespace Go.Proofs.YtohndckbhjakfaaGreatDoor

section
open Go.RowKit
set_option linter.unusedVariables false
set_option linter.unusedSimpArgs false
set_option maxRecDepth 100000

def shp8L (t u : List Int) (step pad : Int) : List Int := [u.getD 0 0, hm8 (t.getD 1 0 + 2 * pad) (u.getD 2 0) step, hm8 (t.getD 2 0 + 2 * pad) (u.getD 3 0) step]

def shp8E (t u : List Int) (step pad : Int) : Int :=
  if 0 < sizeI t ∧ 0 < sizeI u ∧ 1 ≤ step ∧ step ≤ 8 ∧ 0 ≤ pad ∧ pad ≤ 8 then (if t.length = 3 ∧ u.length = 4 ∧ t.getD 0 0 = u.getD 1 0 then (if 0 < sizeI (shp8L t u step pad) then 0 else 10) else 10) else 1

def shp8S (t u : List Int) (step pad : Int) : List Int := if shp8E t u step pad = 0 then shp8L t u step pad else []

theorem shp8E_arg {t u : List Int} {step pad : Int} (h : ¬ (0 < sizeI t ∧ 0 < sizeI u ∧ 1 ≤ step ∧ step ≤ 8 ∧ 0 ≤ pad ∧ pad ≤ 8)) : shp8E t u step pad = 1 := by rw [shp8E, if_neg h]

theorem shp8E_shape {t u : List Int} {step pad : Int} (h : 0 < sizeI t ∧ 0 < sizeI u ∧ 1 ≤ step ∧ step ≤ 8 ∧ 0 ≤ pad ∧ pad ≤ 8) (h2 : ¬ (t.length = 3 ∧ u.length = 4 ∧ t.getD 0 0 = u.getD 1 0)) : shp8E t u step pad = 10 := by rw [shp8E, if_pos h, if_neg h2]

theorem shp8E_end {t u : List Int} {step pad : Int} (h : 0 < sizeI t ∧ 0 < sizeI u ∧ 1 ≤ step ∧ step ≤ 8 ∧ 0 ≤ pad ∧ pad ≤ 8) (h2 : t.length = 3 ∧ u.length = 4 ∧ t.getD 0 0 = u.getD 1 0) : (0 < sizeI (shp8L t u step pad) → shp8E t u step pad = 0) ∧ (¬ 0 < sizeI (shp8L t u step pad) → shp8E t u step pad = 10) := by
  rw [shp8E, if_pos h, if_pos h2]
  exact ⟨fun h => if_pos h, fun h => if_neg h⟩

theorem shp8E_iff {t u : List Int} {step pad : Int} : shp8E t u step pad = 0 ↔ (0 < sizeI t ∧ 0 < sizeI u ∧ 1 ≤ step ∧ step ≤ 8 ∧ 0 ≤ pad ∧ pad ≤ 8) ∧ (t.length = 3 ∧ u.length = 4 ∧ t.getD 0 0 = u.getD 1 0) ∧ 0 < sizeI (shp8L t u step pad) := by
  unfold shp8E
  by_cases h : 0 < sizeI t ∧ 0 < sizeI u ∧ 1 ≤ step ∧ step ≤ 8 ∧ 0 ≤ pad ∧ pad ≤ 8
  · rw [if_pos h]
    by_cases h3 : t.length = 3 ∧ u.length = 4 ∧ t.getD 0 0 = u.getD 1 0
    · rw [if_pos h3]
      by_cases h4 : 0 < sizeI (shp8L t u step pad)
      · rw [if_pos h4]; exact ⟨fun _ => ⟨h, h3, h4⟩, fun _ => rfl⟩
      · rw [if_neg h4]; exact ⟨fun e => absurd e (by decide), fun e => absurd e.2.2 h4⟩
    · rw [if_neg h3]; exact ⟨fun e => absurd e (by decide), fun e => absurd e.2.1 h3⟩
  · rw [if_neg h]; exact ⟨fun e => absurd e (by decide), fun e => absurd e.1 h⟩

theorem shp8S_bad {t u : List Int} {step pad : Int} (h : shp8E t u step pad ≠ 0) : shp8S t u step pad = [] := by rw [shp8S, if_neg h]

theorem below_al8x {w v : World} {o : Obj} (h : Below w.heap.size w v) : Below w.heap.size w (v.alloc o) := h.alloc h.size o

set_option maxHeartbeats 4000000 in
theorem wshape_any (A A' : Option Addr) (n c n' c' : Nat) (s s' : List Int) (step pad : Int) (w : World) (hA : Lies w A n (s.map (Value.int .i64))) (hA' : Lies w A' n' (s'.map (Value.int .i64))) (hn : n ≤ 281474976710656) (hn' : n' ≤ 281474976710656) :
    Calls Tryz.prog 120 #[.slice A n c, .slice A' n' c', .int .i64 step, .int .i64 pad] w fun e w' => ∃ R k kc, e = .returned (.tuple #[.slice R k kc, .int .i64 (shp8E s s' step pad)]) ∧ w'.ownsRow w.heap.size 3 1 (.slice R k kc) k ((shp8S s s' step pad).map (Value.int .i64)) ∧ k ≤ 3 ∧ Below w.heap.size w w' := by
  have hl1 : s.length = n := by have := hA.len; simpa using this
  have hl2 : s'.length = n' := by have := hA'.len; simpa using this
  have HL1 := hide hl1
  have HL2 := hide hl2
  have HA := hide hA
  have HA' := hide hA'
  clear hA hA' hl1 hl2
  have HBAD : Hid (∀ v, shp8E s s' step pad ≠ 0 → Below w.heap.size w v → ∃ R k kc, Ending.returned (.tuple #[.slice none 0 0, .int .i64 (shp8E s s' step pad)]) = .returned (.tuple #[.slice R k kc, .int .i64 (shp8E s s' step pad)]) ∧ v.ownsRow w.heap.size 3 1 (.slice R k kc) k ((shp8S s s' step pad).map (Value.int .i64)) ∧ k ≤ 3 ∧ Below w.heap.size w v) := hide (fun v h hb => ⟨none, 0, 0, rfl, by rw [shp8S_bad h]; exact World.ownsRow_nil _ _ _ _, by omega, hb⟩)
  go_enter Tryz.func120, Tryz.ntmps120
  go_wp2_with fail
  refine Calls.mono (check_any A n c s _ HA.out hn) ?_
  rintro e w1 ⟨rfl, hb1⟩
  by_cases h1 : 0 < sizeI s
  rotate_left
  · rw [decide_eq_false h1]
    have HE : Hid (shp8E s s' step pad = 1) := hide (shp8E_arg fun h => h1 h.1)
    have HB := hide hb1
    clear h1 hb1
    go_wp2
    go_ret2
    have h := HBAD.out _ (by rw [HE.out]; decide) HB.out
    rw [HE.out] at h ⊢
    exact h
  rw [decide_eq_true h1]
  go_wp2_with fail
  refine Calls.mono (check_any A' n' c' s' _ (HA'.out.below hb1) hn') ?_
  rintro e w2 ⟨rfl, hb20⟩
  have hb2 : Below w.heap.size w w2 := hb1.trans (hb20.mono hb1.size)
  clear hb20 hb1
  by_cases h2 : 0 < sizeI s'
  rotate_left
  · rw [decide_eq_false h2]
    have HE : Hid (shp8E s s' step pad = 1) := hide (shp8E_arg fun h => h2 h.2.1)
    have HB := hide hb2
    clear h1 h2 hb2
    go_wp2
    go_ret2
    have h := HBAD.out _ (by rw [HE.out]; decide) HB.out
    rw [HE.out] at h ⊢
    exact h
  rw [decide_eq_true h2]
  by_cases g1 : step < 1
  · have HB0 := hide h1
    have HB0' := hide h2
    clear h1 h2
    have HE : Hid (shp8E s s' step pad = 1) := hide (shp8E_arg fun h => absurd h.2.2.1 (by omega))
    have HB := hide hb2
    clear hb2
    go_wp2
    go_ret2
    have h := HBAD.out _ (by rw [HE.out]; decide) HB.out
    rw [HE.out] at h ⊢
    exact h
  by_cases g2 : 8 < step
  · have HB0 := hide h1
    have HB0' := hide h2
    clear h1 h2
    have HE : Hid (shp8E s s' step pad = 1) := hide (shp8E_arg fun h => absurd h.2.2.2.1 (by omega))
    have HB := hide hb2
    clear hb2
    go_wp2
    go_ret2
    have h := HBAD.out _ (by rw [HE.out]; decide) HB.out
    rw [HE.out] at h ⊢
    exact h
  by_cases g3 : pad < 0
  · have HB0 := hide h1
    have HB0' := hide h2
    clear h1 h2
    have HE : Hid (shp8E s s' step pad = 1) := hide (shp8E_arg fun h => absurd h.2.2.2.2.1 (by omega))
    have HB := hide hb2
    clear hb2
    go_wp2
    go_ret2
    have h := HBAD.out _ (by rw [HE.out]; decide) HB.out
    rw [HE.out] at h ⊢
    exact h
  by_cases g4 : 8 < pad
  · have HB0 := hide h1
    have HB0' := hide h2
    clear h1 h2
    have HE : Hid (shp8E s s' step pad = 1) := hide (shp8E_arg fun h => absurd h.2.2.2.2.2 (by omega))
    have HB := hide hb2
    clear hb2
    go_wp2
    go_ret2
    have h := HBAD.out _ (by rw [HE.out]; decide) HB.out
    rw [HE.out] at h ⊢
    exact h
  have HOK : Hid (0 < sizeI s ∧ 0 < sizeI s' ∧ 1 ≤ step ∧ step ≤ 8 ∧ 0 ≤ pad ∧ pad ≤ 8) := hide ⟨h1, h2, by omega, by omega, by omega, by omega⟩
  clear h1 h2
  have HBD : Hid (Below w.heap.size w (w2.drewN 1)) := hide (below_drewN hb2 1)
  by_cases h3 : n = 3
  rotate_left
  · have HE : Hid (shp8E s s' step pad = 10) := hide (shp8E_shape HOK.out (by rw [HL1.out]; exact fun h => h3 h.1))
    have e1 : ((n : Int) == 3) = false := by simpa using (by omega : ¬ (n : Int) = 3)
    have e2 : ((n : Int) != 3) = true := by simpa using (by omega : ¬ (n : Int) = 3)
    go_wp2
    have hS0 : Hid (True) := hide (trivial)
    refine wp_region_U (fun _ v => True) 99 (by kernel_rfl) ?_
    refine wpAnyU_take (i := 0) (oi := { dst := some 35, op := _, type := _, pos := _, after := _, guard := none }) (v := .slice A n c) rfl (by kernel_rfl) (by kernel_rfl) (by kernel_rfl) (by kernel_rfl) (fun _ _ _ h => h) (yields_take rfl (fun w' hw => by go_simp)) hS0.out ?_
    simp only [Act.put, List.setIfInBounds_toArray, List.set_cons_zero, List.set_cons_succ]
    refine wpAnyU_take (i := 1) (oi := { dst := some 36, op := _, type := _, pos := _, after := _, guard := none }) (v := .int .i64 (n : Int)) rfl (by kernel_rfl) (by kernel_rfl) (by kernel_rfl) (by kernel_rfl) (fun _ _ _ h => h) (yields_take rfl (fun w' hw => by go_simp)) hS0.out ?_
    simp only [Act.put, List.setIfInBounds_toArray, List.set_cons_zero, List.set_cons_succ]
    refine wpAnyU_take (i := 2) (oi := { dst := some 37, op := _, type := _, pos := _, after := _, guard := none }) (v := .bool true) rfl (by kernel_rfl) (by kernel_rfl) (by kernel_rfl) (by kernel_rfl) (fun _ _ _ h => h) (yields_take rfl (fun w' hw => by go_simp)) hS0.out ?_
    simp only [Act.put, List.setIfInBounds_toArray, List.set_cons_zero, List.set_cons_succ]
    refine wpAnyU_take (i := 3) (oi := { dst := some 38, op := _, type := _, pos := _, after := _, guard := none }) (v := .bool true) rfl (by kernel_rfl) (by kernel_rfl) (by kernel_rfl) (by kernel_rfl) (fun _ _ _ h => h) (yields_take rfl (fun w' hw => by go_simp)) hS0.out ?_
    simp only [Act.put, List.setIfInBounds_toArray, List.set_cons_zero, List.set_cons_succ]
    refine wpAnyU_take (i := 4) (oi := { dst := some 39, op := _, type := _, pos := _, after := _, guard := some (3, false) }) (v := undef) rfl (by kernel_rfl) (by kernel_rfl) (by kernel_rfl) (by kernel_rfl) (fun _ _ _ h => h) (.inr ⟨rfl, rfl⟩) hS0.out ?_
    simp only [Act.put, List.setIfInBounds_toArray, List.set_cons_zero, List.set_cons_succ]
    refine wpAnyU_take (i := 5) (oi := { dst := some 40, op := _, type := _, pos := _, after := _, guard := some (3, false) }) (v := undef) rfl (by kernel_rfl) (by kernel_rfl) (by kernel_rfl) (by kernel_rfl) (fun _ _ _ h => h) (.inr ⟨rfl, rfl⟩) hS0.out ?_
    simp only [Act.put, List.setIfInBounds_toArray, List.set_cons_zero, List.set_cons_succ]
    refine wpAnyU_take (i := 6) (oi := { dst := some 41, op := _, type := _, pos := _, after := _, guard := some (3, false) }) (v := undef) rfl (by kernel_rfl) (by kernel_rfl) (by kernel_rfl) (by kernel_rfl) (fun _ _ _ h => h) (.inr ⟨rfl, rfl⟩) hS0.out ?_
    simp only [Act.put, List.setIfInBounds_toArray, List.set_cons_zero, List.set_cons_succ]
    refine wpAnyU_take (i := 7) (oi := { dst := some 42, op := _, type := _, pos := _, after := _, guard := none }) (v := .bool true) rfl (by kernel_rfl) (by kernel_rfl) (by kernel_rfl) (by kernel_rfl) (fun _ _ _ h => h) (yields_take rfl (fun w' hw => by go_simp)) hS0.out ?_
    simp only [Act.put, List.setIfInBounds_toArray, List.set_cons_zero, List.set_cons_succ]
    refine wpAnyU_take (i := 8) (oi := { dst := some 43, op := _, type := _, pos := _, after := _, guard := none }) (v := .bool true) rfl (by kernel_rfl) (by kernel_rfl) (by kernel_rfl) (by kernel_rfl) (fun _ _ _ h => h) (yields_take rfl (fun w' hw => by go_simp)) hS0.out ?_
    simp only [Act.put, List.setIfInBounds_toArray, List.set_cons_zero, List.set_cons_succ]
    refine wpAnyU_take (i := 9) (oi := { dst := some 44, op := _, type := _, pos := _, after := _, guard := some (8, false) }) (v := undef) rfl (by kernel_rfl) (by kernel_rfl) (by kernel_rfl) (by kernel_rfl) (fun _ _ _ h => h) (.inr ⟨rfl, rfl⟩) hS0.out ?_
    simp only [Act.put, List.setIfInBounds_toArray, List.set_cons_zero, List.set_cons_succ]
    refine wpAnyU_take (i := 10) (oi := { dst := some 45, op := _, type := _, pos := _, after := _, guard := some (8, false) }) (v := undef) rfl (by kernel_rfl) (by kernel_rfl) (by kernel_rfl) (by kernel_rfl) (fun _ _ _ h => h) (.inr ⟨rfl, rfl⟩) hS0.out ?_
    simp only [Act.put, List.setIfInBounds_toArray, List.set_cons_zero, List.set_cons_succ]
    refine wpAnyU_take (i := 11) (oi := { dst := some 46, op := _, type := _, pos := _, after := _, guard := some (8, false) }) (v := undef) rfl (by kernel_rfl) (by kernel_rfl) (by kernel_rfl) (by kernel_rfl) (fun _ _ _ h => h) (.inr ⟨rfl, rfl⟩) hS0.out ?_
    simp only [Act.put, List.setIfInBounds_toArray, List.set_cons_zero, List.set_cons_succ]
    refine wpAnyU_take (i := 12) (oi := { dst := some 47, op := _, type := _, pos := _, after := _, guard := some (8, false) }) (v := undef) rfl (by kernel_rfl) (by kernel_rfl) (by kernel_rfl) (by kernel_rfl) (fun _ _ _ h => h) (.inr ⟨rfl, rfl⟩) hS0.out ?_
    simp only [Act.put, List.setIfInBounds_toArray, List.set_cons_zero, List.set_cons_succ]
    refine wpAnyU_take (i := 13) (oi := { dst := some 48, op := _, type := _, pos := _, after := _, guard := some (8, false) }) (v := undef) rfl (by kernel_rfl) (by kernel_rfl) (by kernel_rfl) (by kernel_rfl) (fun _ _ _ h => h) (.inr ⟨rfl, rfl⟩) hS0.out ?_
    simp only [Act.put, List.setIfInBounds_toArray, List.set_cons_zero, List.set_cons_succ]
    refine wpAnyU_take (i := 14) (oi := { dst := some 49, op := _, type := _, pos := _, after := _, guard := some (8, false) }) (v := undef) rfl (by kernel_rfl) (by kernel_rfl) (by kernel_rfl) (by kernel_rfl) (fun _ _ _ h => h) (.inr ⟨rfl, rfl⟩) hS0.out ?_
    simp only [Act.put, List.setIfInBounds_toArray, List.set_cons_zero, List.set_cons_succ]
    refine wpAnyU_take (i := 15) (oi := { dst := some 50, op := _, type := _, pos := _, after := _, guard := some (8, false) }) (v := undef) rfl (by kernel_rfl) (by kernel_rfl) (by kernel_rfl) (by kernel_rfl) (fun _ _ _ h => h) (.inr ⟨rfl, rfl⟩) hS0.out ?_
    simp only [Act.put, List.setIfInBounds_toArray, List.set_cons_zero, List.set_cons_succ]
    refine wpAnyU_take (i := 16) (oi := { dst := some 51, op := _, type := _, pos := _, after := _, guard := none }) (v := .bool true) rfl (by kernel_rfl) (by kernel_rfl) (by kernel_rfl) (by kernel_rfl) (fun _ _ _ h => h) (yields_take rfl (fun w' hw => by go_simp)) hS0.out ?_
    simp only [Act.put, List.setIfInBounds_toArray, List.set_cons_zero, List.set_cons_succ]
    refine wpAnyU_done (by kernel_rfl) ?_ _
    clear hS0
    go_wp2
    go_ret2
    have h := HBAD.out _ (by rw [HE.out]; decide) HBD.out
    rw [HE.out] at h ⊢
    exact h
  subst h3
  by_cases h4 : n' = 4
  rotate_left
  · have HE : Hid (shp8E s s' step pad = 10) := hide (shp8E_shape HOK.out (by rw [HL2.out]; exact fun h => h4 h.2.1))
    have e1 : ((n' : Int) == 4) = false := by simpa using (by omega : ¬ (n' : Int) = 4)
    have e2 : ((n' : Int) != 4) = true := by simpa using (by omega : ¬ (n' : Int) = 4)
    go_wp2
    have hS0 : Hid (True) := hide (trivial)
    refine wp_region_U (fun _ v => True) 99 (by kernel_rfl) ?_
    refine wpAnyU_take (i := 0) (oi := { dst := some 35, op := _, type := _, pos := _, after := _, guard := none }) (v := .slice A 3 c) rfl (by kernel_rfl) (by kernel_rfl) (by kernel_rfl) (by kernel_rfl) (fun _ _ _ h => h) (yields_take rfl (fun w' hw => by go_simp)) hS0.out ?_
    simp only [Act.put, List.setIfInBounds_toArray, List.set_cons_zero, List.set_cons_succ]
    refine wpAnyU_take (i := 1) (oi := { dst := some 36, op := _, type := _, pos := _, after := _, guard := none }) (v := .int .i64 3) rfl (by kernel_rfl) (by kernel_rfl) (by kernel_rfl) (by kernel_rfl) (fun _ _ _ h => h) (yields_take rfl (fun w' hw => by go_simp)) hS0.out ?_
    simp only [Act.put, List.setIfInBounds_toArray, List.set_cons_zero, List.set_cons_succ]
    refine wpAnyU_take (i := 2) (oi := { dst := some 37, op := _, type := _, pos := _, after := _, guard := none }) (v := .bool false) rfl (by kernel_rfl) (by kernel_rfl) (by kernel_rfl) (by kernel_rfl) (fun _ _ _ h => h) (yields_take rfl (fun w' hw => by go_simp)) hS0.out ?_
    simp only [Act.put, List.setIfInBounds_toArray, List.set_cons_zero, List.set_cons_succ]
    refine wpAnyU_take (i := 3) (oi := { dst := some 38, op := _, type := _, pos := _, after := _, guard := none }) (v := .bool false) rfl (by kernel_rfl) (by kernel_rfl) (by kernel_rfl) (by kernel_rfl) (fun _ _ _ h => h) (yields_take rfl (fun w' hw => by go_simp)) hS0.out ?_
    simp only [Act.put, List.setIfInBounds_toArray, List.set_cons_zero, List.set_cons_succ]
    refine wpAnyU_take (i := 4) (oi := { dst := some 39, op := _, type := _, pos := _, after := _, guard := some (3, false) }) (v := .slice A' n' c') rfl (by kernel_rfl) (by kernel_rfl) (by kernel_rfl) (by kernel_rfl) (fun _ _ _ h => h) (yields_take rfl (fun w' hw => by go_simp)) hS0.out ?_
    simp only [Act.put, List.setIfInBounds_toArray, List.set_cons_zero, List.set_cons_succ]
    refine wpAnyU_take (i := 5) (oi := { dst := some 40, op := _, type := _, pos := _, after := _, guard := some (3, false) }) (v := .int .i64 (n' : Int)) rfl (by kernel_rfl) (by kernel_rfl) (by kernel_rfl) (by kernel_rfl) (fun _ _ _ h => h) (yields_take rfl (fun w' hw => by go_simp)) hS0.out ?_
    simp only [Act.put, List.setIfInBounds_toArray, List.set_cons_zero, List.set_cons_succ]
    refine wpAnyU_take (i := 6) (oi := { dst := some 41, op := _, type := _, pos := _, after := _, guard := some (3, false) }) (v := .bool true) rfl (by kernel_rfl) (by kernel_rfl) (by kernel_rfl) (by kernel_rfl) (fun _ _ _ h => h) (yields_take rfl (fun w' hw => by go_simp)) hS0.out ?_
    simp only [Act.put, List.setIfInBounds_toArray, List.set_cons_zero, List.set_cons_succ]
    refine wpAnyU_take (i := 7) (oi := { dst := some 42, op := _, type := _, pos := _, after := _, guard := none }) (v := .bool true) rfl (by kernel_rfl) (by kernel_rfl) (by kernel_rfl) (by kernel_rfl) (fun _ _ _ h => h) (yields_take rfl (fun w' hw => by go_simp)) hS0.out ?_
    simp only [Act.put, List.setIfInBounds_toArray, List.set_cons_zero, List.set_cons_succ]
    refine wpAnyU_take (i := 8) (oi := { dst := some 43, op := _, type := _, pos := _, after := _, guard := none }) (v := .bool true) rfl (by kernel_rfl) (by kernel_rfl) (by kernel_rfl) (by kernel_rfl) (fun _ _ _ h => h) (yields_take rfl (fun w' hw => by go_simp)) hS0.out ?_
    simp only [Act.put, List.setIfInBounds_toArray, List.set_cons_zero, List.set_cons_succ]
    refine wpAnyU_take (i := 9) (oi := { dst := some 44, op := _, type := _, pos := _, after := _, guard := some (8, false) }) (v := undef) rfl (by kernel_rfl) (by kernel_rfl) (by kernel_rfl) (by kernel_rfl) (fun _ _ _ h => h) (.inr ⟨rfl, rfl⟩) hS0.out ?_
    simp only [Act.put, List.setIfInBounds_toArray, List.set_cons_zero, List.set_cons_succ]
    refine wpAnyU_take (i := 10) (oi := { dst := some 45, op := _, type := _, pos := _, after := _, guard := some (8, false) }) (v := undef) rfl (by kernel_rfl) (by kernel_rfl) (by kernel_rfl) (by kernel_rfl) (fun _ _ _ h => h) (.inr ⟨rfl, rfl⟩) hS0.out ?_
    simp only [Act.put, List.setIfInBounds_toArray, List.set_cons_zero, List.set_cons_succ]
    refine wpAnyU_take (i := 11) (oi := { dst := some 46, op := _, type := _, pos := _, after := _, guard := some (8, false) }) (v := undef) rfl (by kernel_rfl) (by kernel_rfl) (by kernel_rfl) (by kernel_rfl) (fun _ _ _ h => h) (.inr ⟨rfl, rfl⟩) hS0.out ?_
    simp only [Act.put, List.setIfInBounds_toArray, List.set_cons_zero, List.set_cons_succ]
    refine wpAnyU_take (i := 12) (oi := { dst := some 47, op := _, type := _, pos := _, after := _, guard := some (8, false) }) (v := undef) rfl (by kernel_rfl) (by kernel_rfl) (by kernel_rfl) (by kernel_rfl) (fun _ _ _ h => h) (.inr ⟨rfl, rfl⟩) hS0.out ?_
    simp only [Act.put, List.setIfInBounds_toArray, List.set_cons_zero, List.set_cons_succ]
    refine wpAnyU_take (i := 13) (oi := { dst := some 48, op := _, type := _, pos := _, after := _, guard := some (8, false) }) (v := undef) rfl (by kernel_rfl) (by kernel_rfl) (by kernel_rfl) (by kernel_rfl) (fun _ _ _ h => h) (.inr ⟨rfl, rfl⟩) hS0.out ?_
    simp only [Act.put, List.setIfInBounds_toArray, List.set_cons_zero, List.set_cons_succ]
    refine wpAnyU_take (i := 14) (oi := { dst := some 49, op := _, type := _, pos := _, after := _, guard := some (8, false) }) (v := undef) rfl (by kernel_rfl) (by kernel_rfl) (by kernel_rfl) (by kernel_rfl) (fun _ _ _ h => h) (.inr ⟨rfl, rfl⟩) hS0.out ?_
    simp only [Act.put, List.setIfInBounds_toArray, List.set_cons_zero, List.set_cons_succ]
    refine wpAnyU_take (i := 15) (oi := { dst := some 50, op := _, type := _, pos := _, after := _, guard := some (8, false) }) (v := undef) rfl (by kernel_rfl) (by kernel_rfl) (by kernel_rfl) (by kernel_rfl) (fun _ _ _ h => h) (.inr ⟨rfl, rfl⟩) hS0.out ?_
    simp only [Act.put, List.setIfInBounds_toArray, List.set_cons_zero, List.set_cons_succ]
    refine wpAnyU_take (i := 16) (oi := { dst := some 51, op := _, type := _, pos := _, after := _, guard := none }) (v := .bool true) rfl (by kernel_rfl) (by kernel_rfl) (by kernel_rfl) (by kernel_rfl) (fun _ _ _ h => h) (yields_take rfl (fun w' hw => by go_simp)) hS0.out ?_
    simp only [Act.put, List.setIfInBounds_toArray, List.set_cons_zero, List.set_cons_succ]
    refine wpAnyU_done (by kernel_rfl) ?_ _
    clear hS0
    go_wp2
    go_ret2
    have h := HBAD.out _ (by rw [HE.out]; decide) HBD.out
    rw [HE.out] at h ⊢
    exact h
  subst h4
  obtain ⟨b1, o1, rfl, hbk1, hx1⟩ := byte_at HA.out (by omega)
  obtain ⟨b2, o2, rfl, hbk2, hx2⟩ := byte_at HA'.out (by omega)
  have hd1 := size_dims HOK.out.1
  have hd2 := size_dims HOK.out.2.1
  have q11 := hd1.at (k := 1) (by rw [HL1.out]; omega)
  have q12 := hd1.at (k := 2) (by rw [HL1.out]; omega)
  have q22 := hd2.at (k := 2) (by rw [HL2.out]; omega)
  have q23 := hd2.at (k := 3) (by rw [HL2.out]; omega)
  obtain ⟨x, hx⟩ : ∃ z, z = s.getD 0 0 := ⟨_, rfl⟩
  obtain ⟨h, hh⟩ : ∃ z, z = s.getD 1 0 := ⟨_, rfl⟩
  obtain ⟨vv, hv⟩ : ∃ z, z = s.getD 2 0 := ⟨_, rfl⟩
  obtain ⟨p, hp0⟩ : ∃ z, z = s'.getD 0 0 := ⟨_, rfl⟩
  obtain ⟨y, hy⟩ : ∃ z, z = s'.getD 1 0 := ⟨_, rfl⟩
  obtain ⟨e, he⟩ : ∃ z, z = s'.getD 2 0 := ⟨_, rfl⟩
  obtain ⟨g, hg⟩ : ∃ z, z = s'.getD 3 0 := ⟨_, rfl⟩
  have c10 := hx1 0 (by omega)
  have c11 := hx1 1 (by omega)
  have c12 := hx1 2 (by omega)
  have c20 := hx2 0 (by omega)
  have c21 := hx2 1 (by omega)
  have c22 := hx2 2 (by omega)
  have c23 := hx2 3 (by omega)
  rw [← hx] at c10
  rw [← hh] at c11 q11
  rw [← hv] at c12 q12
  rw [← hp0] at c20
  rw [← hy] at c21
  rw [← he] at c22 q22
  rw [← hg] at c23 q23
  have HK1 : Hid (∀ u, Below w.heap.size w u → u.cell? ⟨b1, o1, none⟩ = some (.int .i64 x) ∧ u.cell? ⟨b2, o2 + 1, none⟩ = some (.int .i64 y)) := hide (fun u hu => ⟨(hu.cell (p := ⟨b1, o1, none⟩) hbk1).trans c10, (hu.cell (p := ⟨b2, o2 + 1, none⟩) hbk2).trans c21⟩)
  have HK2 : Hid (∀ u, Below w.heap.size w u → u.cell? ⟨b1, o1 + 1, none⟩ = some (.int .i64 h) ∧ u.cell? ⟨b1, o1 + 2, none⟩ = some (.int .i64 vv) ∧ u.cell? ⟨b2, o2, none⟩ = some (.int .i64 p) ∧ u.cell? ⟨b2, o2 + 2, none⟩ = some (.int .i64 e) ∧ u.cell? ⟨b2, o2 + 3, none⟩ = some (.int .i64 g)) := hide (fun u hu => ⟨(hu.cell (p := ⟨b1, o1 + 1, none⟩) hbk1).trans c11, (hu.cell (p := ⟨b1, o1 + 2, none⟩) hbk1).trans c12, (hu.cell (p := ⟨b2, o2, none⟩) hbk2).trans c20, (hu.cell (p := ⟨b2, o2 + 2, none⟩) hbk2).trans c22, (hu.cell (p := ⟨b2, o2 + 3, none⟩) hbk2).trans c23⟩)
  have HXY := hide (And.intro hx hy)
  obtain ⟨pp, hpp⟩ : ∃ z, z = 2 * pad := ⟨_, rfl⟩
  obtain ⟨hp, hhp⟩ : ∃ z, z = h + pp := ⟨_, rfl⟩
  obtain ⟨vp, hvp⟩ : ∃ z, z = vv + pp := ⟨_, rfl⟩
  obtain ⟨q1, hq1⟩ : ∃ z, z = hm8 hp e step := ⟨_, rfl⟩
  obtain ⟨q2, hq2⟩ : ∃ z, z = hm8 vp g step := ⟨_, rfl⟩
  have m1 : IntKind.i64.wrap (2 * pad) = pp := by rw [hpp, IntKind.wrap_i64]; omega
  have m2 : IntKind.i64.wrap (h + pp) = hp := by rw [hhp, IntKind.wrap_i64]; omega
  have m3 : IntKind.i64.wrap (vv + pp) = vp := by rw [hvp, IntKind.wrap_i64]; omega
  have HB1 : Hid (-1000 ≤ hp ∧ hp ≤ 1000) := hide (by omega)
  have HB2 : Hid (-1000 ≤ vp ∧ vp ≤ 1000) := hide (by omega)
  have HB3 : Hid (0 ≤ e ∧ e ≤ 1000) := hide (by omega)
  have HB4 : Hid (0 ≤ g ∧ g ≤ 1000) := hide (by omega)
  have HST : Hid (1 ≤ step ∧ step ≤ 8) := hide (by omega)
  have HQ1 := hide hq1.symm
  have HQ2 := hide hq2.symm
  have HLL : Hid (shp8L s s' step pad = [p, q1, q2]) := hide (by rw [shp8L, ← hh, ← hv, ← hp0, ← he, ← hg, ← hpp, ← hhp, ← hvp, ← hq1, ← hq2])
  clear hx1 hx2 c10 c11 c12 c20 c21 c22 c23 hp0 hx hy hh hv he hg hpp hhp hvp hq1 hq2 q11 q12 q22 q23 hd1 hd2
  by_cases h5 : x = y
  rotate_left
  · have HE : Hid (shp8E s s' step pad = 10) := hide (shp8E_shape HOK.out (by rw [← HXY.out.1, ← HXY.out.2]; exact fun h => h5 h.2.2))
    have e1 : (x == y) = false := by simpa using h5
    have e2 : (x != y) = true := by simpa using h5
    go_wp2
    have hS0 : Hid ((w2.drew).cell? ⟨b1, o1, none⟩ = some (.int .i64 x) ∧ (w2.drew).cell? ⟨b2, o2 + 1, none⟩ = some (.int .i64 y)) := hide (HK1.out _ (below_drewN hb2 1))
    refine wp_region_U (fun _ v => v.cell? ⟨b1, o1, none⟩ = some (.int .i64 x) ∧ v.cell? ⟨b2, o2 + 1, none⟩ = some (.int .i64 y)) 99 (by kernel_rfl) ?_
    refine wpAnyU_take (i := 0) (oi := { dst := some 35, op := _, type := _, pos := _, after := _, guard := none }) (v := .slice (some ⟨b1, o1, none⟩) 3 c) rfl (by kernel_rfl) (by kernel_rfl) (by kernel_rfl) (by kernel_rfl) (fun _ _ _ h => h) (yields_take rfl (fun w' hw => by obtain ⟨h1, h2⟩ := hw.const; go_simp)) hS0.out ?_
    simp only [Act.put, List.setIfInBounds_toArray, List.set_cons_zero, List.set_cons_succ]
    refine wpAnyU_take (i := 1) (oi := { dst := some 36, op := _, type := _, pos := _, after := _, guard := none }) (v := .int .i64 3) rfl (by kernel_rfl) (by kernel_rfl) (by kernel_rfl) (by kernel_rfl) (fun _ _ _ h => h) (yields_take rfl (fun w' hw => by obtain ⟨h1, h2⟩ := hw.const; go_simp)) hS0.out ?_
    simp only [Act.put, List.setIfInBounds_toArray, List.set_cons_zero, List.set_cons_succ]
    refine wpAnyU_take (i := 2) (oi := { dst := some 37, op := _, type := _, pos := _, after := _, guard := none }) (v := .bool false) rfl (by kernel_rfl) (by kernel_rfl) (by kernel_rfl) (by kernel_rfl) (fun _ _ _ h => h) (yields_take rfl (fun w' hw => by obtain ⟨h1, h2⟩ := hw.const; go_simp)) hS0.out ?_
    simp only [Act.put, List.setIfInBounds_toArray, List.set_cons_zero, List.set_cons_succ]
    refine wpAnyU_take (i := 3) (oi := { dst := some 38, op := _, type := _, pos := _, after := _, guard := none }) (v := .bool false) rfl (by kernel_rfl) (by kernel_rfl) (by kernel_rfl) (by kernel_rfl) (fun _ _ _ h => h) (yields_take rfl (fun w' hw => by obtain ⟨h1, h2⟩ := hw.const; go_simp)) hS0.out ?_
    simp only [Act.put, List.setIfInBounds_toArray, List.set_cons_zero, List.set_cons_succ]
    refine wpAnyU_take (i := 4) (oi := { dst := some 39, op := _, type := _, pos := _, after := _, guard := some (3, false) }) (v := .slice (some ⟨b2, o2, none⟩) 4 c') rfl (by kernel_rfl) (by kernel_rfl) (by kernel_rfl) (by kernel_rfl) (fun _ _ _ h => h) (yields_take rfl (fun w' hw => by obtain ⟨h1, h2⟩ := hw.const; go_simp)) hS0.out ?_
    simp only [Act.put, List.setIfInBounds_toArray, List.set_cons_zero, List.set_cons_succ]
    refine wpAnyU_take (i := 5) (oi := { dst := some 40, op := _, type := _, pos := _, after := _, guard := some (3, false) }) (v := .int .i64 4) rfl (by kernel_rfl) (by kernel_rfl) (by kernel_rfl) (by kernel_rfl) (fun _ _ _ h => h) (yields_take rfl (fun w' hw => by obtain ⟨h1, h2⟩ := hw.const; go_simp)) hS0.out ?_
    simp only [Act.put, List.setIfInBounds_toArray, List.set_cons_zero, List.set_cons_succ]
    refine wpAnyU_take (i := 6) (oi := { dst := some 41, op := _, type := _, pos := _, after := _, guard := some (3, false) }) (v := .bool false) rfl (by kernel_rfl) (by kernel_rfl) (by kernel_rfl) (by kernel_rfl) (fun _ _ _ h => h) (yields_take rfl (fun w' hw => by obtain ⟨h1, h2⟩ := hw.const; go_simp)) hS0.out ?_
    simp only [Act.put, List.setIfInBounds_toArray, List.set_cons_zero, List.set_cons_succ]
    refine wpAnyU_take (i := 7) (oi := { dst := some 42, op := _, type := _, pos := _, after := _, guard := none }) (v := .bool false) rfl (by kernel_rfl) (by kernel_rfl) (by kernel_rfl) (by kernel_rfl) (fun _ _ _ h => h) (yields_take rfl (fun w' hw => by obtain ⟨h1, h2⟩ := hw.const; go_simp)) hS0.out ?_
    simp only [Act.put, List.setIfInBounds_toArray, List.set_cons_zero, List.set_cons_succ]
    refine wpAnyU_take (i := 8) (oi := { dst := some 43, op := _, type := _, pos := _, after := _, guard := none }) (v := .bool false) rfl (by kernel_rfl) (by kernel_rfl) (by kernel_rfl) (by kernel_rfl) (fun _ _ _ h => h) (yields_take rfl (fun w' hw => by obtain ⟨h1, h2⟩ := hw.const; go_simp)) hS0.out ?_
    simp only [Act.put, List.setIfInBounds_toArray, List.set_cons_zero, List.set_cons_succ]
    refine wpAnyU_take (i := 9) (oi := { dst := some 44, op := _, type := _, pos := _, after := _, guard := some (8, false) }) (v := .slice (some ⟨b1, o1, none⟩) 3 c) rfl (by kernel_rfl) (by kernel_rfl) (by kernel_rfl) (by kernel_rfl) (fun _ _ _ h => h) (yields_take rfl (fun w' hw => by obtain ⟨h1, h2⟩ := hw.const; go_simp)) hS0.out ?_
    simp only [Act.put, List.setIfInBounds_toArray, List.set_cons_zero, List.set_cons_succ]
    refine wpAnyU_take (i := 10) (oi := { dst := some 45, op := _, type := _, pos := _, after := _, guard := some (8, false) }) (v := .pointer (some ⟨b1, o1, none⟩)) rfl (by kernel_rfl) (by kernel_rfl) (by kernel_rfl) (by kernel_rfl) (fun _ _ _ h => h) (yields_take rfl (fun w' hw => by obtain ⟨h1, h2⟩ := hw.const; go_simp)) hS0.out ?_
    simp only [Act.put, List.setIfInBounds_toArray, List.set_cons_zero, List.set_cons_succ]
    refine wpAnyU_take (i := 11) (oi := { dst := some 46, op := _, type := _, pos := _, after := _, guard := some (8, false) }) (v := .int .i64 x) rfl (by kernel_rfl) (by kernel_rfl) (by kernel_rfl) (by kernel_rfl) (fun _ _ _ h => h) (yields_take rfl (fun w' hw => by obtain ⟨h1, h2⟩ := hw.const; go_simp)) hS0.out ?_
    simp only [Act.put, List.setIfInBounds_toArray, List.set_cons_zero, List.set_cons_succ]
    refine wpAnyU_take (i := 12) (oi := { dst := some 47, op := _, type := _, pos := _, after := _, guard := some (8, false) }) (v := .slice (some ⟨b2, o2, none⟩) 4 c') rfl (by kernel_rfl) (by kernel_rfl) (by kernel_rfl) (by kernel_rfl) (fun _ _ _ h => h) (yields_take rfl (fun w' hw => by obtain ⟨h1, h2⟩ := hw.const; go_simp)) hS0.out ?_
    simp only [Act.put, List.setIfInBounds_toArray, List.set_cons_zero, List.set_cons_succ]
    refine wpAnyU_take (i := 13) (oi := { dst := some 48, op := _, type := _, pos := _, after := _, guard := some (8, false) }) (v := .pointer (some ⟨b2, o2 + 1, none⟩)) rfl (by kernel_rfl) (by kernel_rfl) (by kernel_rfl) (by kernel_rfl) (fun _ _ _ h => h) (yields_take rfl (fun w' hw => by obtain ⟨h1, h2⟩ := hw.const; go_simp)) hS0.out ?_
    simp only [Act.put, List.setIfInBounds_toArray, List.set_cons_zero, List.set_cons_succ]
    refine wpAnyU_take (i := 14) (oi := { dst := some 49, op := _, type := _, pos := _, after := _, guard := some (8, false) }) (v := .int .i64 y) rfl (by kernel_rfl) (by kernel_rfl) (by kernel_rfl) (by kernel_rfl) (fun _ _ _ h => h) (yields_take rfl (fun w' hw => by obtain ⟨h1, h2⟩ := hw.const; go_simp)) hS0.out ?_
    simp only [Act.put, List.setIfInBounds_toArray, List.set_cons_zero, List.set_cons_succ]
    refine wpAnyU_take (i := 15) (oi := { dst := some 50, op := _, type := _, pos := _, after := _, guard := some (8, false) }) (v := .bool true) rfl (by kernel_rfl) (by kernel_rfl) (by kernel_rfl) (by kernel_rfl) (fun _ _ _ h => h) (yields_take rfl (fun w' hw => by obtain ⟨h1, h2⟩ := hw.const; go_simp)) hS0.out ?_
    simp only [Act.put, List.setIfInBounds_toArray, List.set_cons_zero, List.set_cons_succ]
    refine wpAnyU_take (i := 16) (oi := { dst := some 51, op := _, type := _, pos := _, after := _, guard := none }) (v := .bool true) rfl (by kernel_rfl) (by kernel_rfl) (by kernel_rfl) (by kernel_rfl) (fun _ _ _ h => h) (yields_take rfl (fun w' hw => by obtain ⟨h1, h2⟩ := hw.const; go_simp)) hS0.out ?_
    simp only [Act.put, List.setIfInBounds_toArray, List.set_cons_zero, List.set_cons_succ]
    refine wpAnyU_done (by kernel_rfl) ?_ _
    clear hS0
    go_wp2
    go_ret2
    have h := HBAD.out _ (by rw [HE.out]; decide) HBD.out
    rw [HE.out] at h ⊢
    exact h
  have HEE := hide (shp8E_end HOK.out ⟨HL1.out, HL2.out, by rw [← HXY.out.1, ← HXY.out.2]; exact h5⟩)
  rw [HLL.out] at HEE
  subst h5
  have hsz := hb2.size
  go_wp2
  have hS0 : Hid ((w2.drew).cell? ⟨b1, o1, none⟩ = some (.int .i64 x) ∧ (w2.drew).cell? ⟨b2, o2 + 1, none⟩ = some (.int .i64 x)) := hide (HK1.out _ (below_drewN hb2 1))
  refine wp_region_U (fun _ v => v.cell? ⟨b1, o1, none⟩ = some (.int .i64 x) ∧ v.cell? ⟨b2, o2 + 1, none⟩ = some (.int .i64 x)) 99 (by kernel_rfl) ?_
  refine wpAnyU_take (i := 0) (oi := { dst := some 35, op := _, type := _, pos := _, after := _, guard := none }) (v := .slice (some ⟨b1, o1, none⟩) 3 c) rfl (by kernel_rfl) (by kernel_rfl) (by kernel_rfl) (by kernel_rfl) (fun _ _ _ h => h) (yields_take rfl (fun w' hw => by obtain ⟨h1, h2⟩ := hw.const; go_simp)) hS0.out ?_
  simp only [Act.put, List.setIfInBounds_toArray, List.set_cons_zero, List.set_cons_succ]
  refine wpAnyU_take (i := 1) (oi := { dst := some 36, op := _, type := _, pos := _, after := _, guard := none }) (v := .int .i64 3) rfl (by kernel_rfl) (by kernel_rfl) (by kernel_rfl) (by kernel_rfl) (fun _ _ _ h => h) (yields_take rfl (fun w' hw => by obtain ⟨h1, h2⟩ := hw.const; go_simp)) hS0.out ?_
  simp only [Act.put, List.setIfInBounds_toArray, List.set_cons_zero, List.set_cons_succ]
  refine wpAnyU_take (i := 2) (oi := { dst := some 37, op := _, type := _, pos := _, after := _, guard := none }) (v := .bool false) rfl (by kernel_rfl) (by kernel_rfl) (by kernel_rfl) (by kernel_rfl) (fun _ _ _ h => h) (yields_take rfl (fun w' hw => by obtain ⟨h1, h2⟩ := hw.const; go_simp)) hS0.out ?_
  simp only [Act.put, List.setIfInBounds_toArray, List.set_cons_zero, List.set_cons_succ]
  refine wpAnyU_take (i := 3) (oi := { dst := some 38, op := _, type := _, pos := _, after := _, guard := none }) (v := .bool false) rfl (by kernel_rfl) (by kernel_rfl) (by kernel_rfl) (by kernel_rfl) (fun _ _ _ h => h) (yields_take rfl (fun w' hw => by obtain ⟨h1, h2⟩ := hw.const; go_simp)) hS0.out ?_
  simp only [Act.put, List.setIfInBounds_toArray, List.set_cons_zero, List.set_cons_succ]
  refine wpAnyU_take (i := 4) (oi := { dst := some 39, op := _, type := _, pos := _, after := _, guard := some (3, false) }) (v := .slice (some ⟨b2, o2, none⟩) 4 c') rfl (by kernel_rfl) (by kernel_rfl) (by kernel_rfl) (by kernel_rfl) (fun _ _ _ h => h) (yields_take rfl (fun w' hw => by obtain ⟨h1, h2⟩ := hw.const; go_simp)) hS0.out ?_
  simp only [Act.put, List.setIfInBounds_toArray, List.set_cons_zero, List.set_cons_succ]
  refine wpAnyU_take (i := 5) (oi := { dst := some 40, op := _, type := _, pos := _, after := _, guard := some (3, false) }) (v := .int .i64 4) rfl (by kernel_rfl) (by kernel_rfl) (by kernel_rfl) (by kernel_rfl) (fun _ _ _ h => h) (yields_take rfl (fun w' hw => by obtain ⟨h1, h2⟩ := hw.const; go_simp)) hS0.out ?_
  simp only [Act.put, List.setIfInBounds_toArray, List.set_cons_zero, List.set_cons_succ]
  refine wpAnyU_take (i := 6) (oi := { dst := some 41, op := _, type := _, pos := _, after := _, guard := some (3, false) }) (v := .bool false) rfl (by kernel_rfl) (by kernel_rfl) (by kernel_rfl) (by kernel_rfl) (fun _ _ _ h => h) (yields_take rfl (fun w' hw => by obtain ⟨h1, h2⟩ := hw.const; go_simp)) hS0.out ?_
  simp only [Act.put, List.setIfInBounds_toArray, List.set_cons_zero, List.set_cons_succ]
  refine wpAnyU_take (i := 7) (oi := { dst := some 42, op := _, type := _, pos := _, after := _, guard := none }) (v := .bool false) rfl (by kernel_rfl) (by kernel_rfl) (by kernel_rfl) (by kernel_rfl) (fun _ _ _ h => h) (yields_take rfl (fun w' hw => by obtain ⟨h1, h2⟩ := hw.const; go_simp)) hS0.out ?_
  simp only [Act.put, List.setIfInBounds_toArray, List.set_cons_zero, List.set_cons_succ]
  refine wpAnyU_take (i := 8) (oi := { dst := some 43, op := _, type := _, pos := _, after := _, guard := none }) (v := .bool false) rfl (by kernel_rfl) (by kernel_rfl) (by kernel_rfl) (by kernel_rfl) (fun _ _ _ h => h) (yields_take rfl (fun w' hw => by obtain ⟨h1, h2⟩ := hw.const; go_simp)) hS0.out ?_
  simp only [Act.put, List.setIfInBounds_toArray, List.set_cons_zero, List.set_cons_succ]
  refine wpAnyU_take (i := 9) (oi := { dst := some 44, op := _, type := _, pos := _, after := _, guard := some (8, false) }) (v := .slice (some ⟨b1, o1, none⟩) 3 c) rfl (by kernel_rfl) (by kernel_rfl) (by kernel_rfl) (by kernel_rfl) (fun _ _ _ h => h) (yields_take rfl (fun w' hw => by obtain ⟨h1, h2⟩ := hw.const; go_simp)) hS0.out ?_
  simp only [Act.put, List.setIfInBounds_toArray, List.set_cons_zero, List.set_cons_succ]
  refine wpAnyU_take (i := 10) (oi := { dst := some 45, op := _, type := _, pos := _, after := _, guard := some (8, false) }) (v := .pointer (some ⟨b1, o1, none⟩)) rfl (by kernel_rfl) (by kernel_rfl) (by kernel_rfl) (by kernel_rfl) (fun _ _ _ h => h) (yields_take rfl (fun w' hw => by obtain ⟨h1, h2⟩ := hw.const; go_simp)) hS0.out ?_
  simp only [Act.put, List.setIfInBounds_toArray, List.set_cons_zero, List.set_cons_succ]
  refine wpAnyU_take (i := 11) (oi := { dst := some 46, op := _, type := _, pos := _, after := _, guard := some (8, false) }) (v := .int .i64 x) rfl (by kernel_rfl) (by kernel_rfl) (by kernel_rfl) (by kernel_rfl) (fun _ _ _ h => h) (yields_take rfl (fun w' hw => by obtain ⟨h1, h2⟩ := hw.const; go_simp)) hS0.out ?_
  simp only [Act.put, List.setIfInBounds_toArray, List.set_cons_zero, List.set_cons_succ]
  refine wpAnyU_take (i := 12) (oi := { dst := some 47, op := _, type := _, pos := _, after := _, guard := some (8, false) }) (v := .slice (some ⟨b2, o2, none⟩) 4 c') rfl (by kernel_rfl) (by kernel_rfl) (by kernel_rfl) (by kernel_rfl) (fun _ _ _ h => h) (yields_take rfl (fun w' hw => by obtain ⟨h1, h2⟩ := hw.const; go_simp)) hS0.out ?_
  simp only [Act.put, List.setIfInBounds_toArray, List.set_cons_zero, List.set_cons_succ]
  refine wpAnyU_take (i := 13) (oi := { dst := some 48, op := _, type := _, pos := _, after := _, guard := some (8, false) }) (v := .pointer (some ⟨b2, o2 + 1, none⟩)) rfl (by kernel_rfl) (by kernel_rfl) (by kernel_rfl) (by kernel_rfl) (fun _ _ _ h => h) (yields_take rfl (fun w' hw => by obtain ⟨h1, h2⟩ := hw.const; go_simp)) hS0.out ?_
  simp only [Act.put, List.setIfInBounds_toArray, List.set_cons_zero, List.set_cons_succ]
  refine wpAnyU_take (i := 14) (oi := { dst := some 49, op := _, type := _, pos := _, after := _, guard := some (8, false) }) (v := .int .i64 x) rfl (by kernel_rfl) (by kernel_rfl) (by kernel_rfl) (by kernel_rfl) (fun _ _ _ h => h) (yields_take rfl (fun w' hw => by obtain ⟨h1, h2⟩ := hw.const; go_simp)) hS0.out ?_
  simp only [Act.put, List.setIfInBounds_toArray, List.set_cons_zero, List.set_cons_succ]
  refine wpAnyU_take (i := 15) (oi := { dst := some 50, op := _, type := _, pos := _, after := _, guard := some (8, false) }) (v := .bool false) rfl (by kernel_rfl) (by kernel_rfl) (by kernel_rfl) (by kernel_rfl) (fun _ _ _ h => h) (yields_take rfl (fun w' hw => by obtain ⟨h1, h2⟩ := hw.const; go_simp)) hS0.out ?_
  simp only [Act.put, List.setIfInBounds_toArray, List.set_cons_zero, List.set_cons_succ]
  refine wpAnyU_take (i := 16) (oi := { dst := some 51, op := _, type := _, pos := _, after := _, guard := none }) (v := .bool false) rfl (by kernel_rfl) (by kernel_rfl) (by kernel_rfl) (by kernel_rfl) (fun _ _ _ h => h) (yields_take rfl (fun w' hw => by obtain ⟨h1, h2⟩ := hw.const; go_simp)) hS0.out ?_
  simp only [Act.put, List.setIfInBounds_toArray, List.set_cons_zero, List.set_cons_succ]
  refine wpAnyU_done (by kernel_rfl) ?_ _
  clear hS0
  go_wp2
  have hS0 : Hid (((w2.drewN 1).drew).cell? ⟨b1, o1 + 1, none⟩ = some (.int .i64 h) ∧ ((w2.drewN 1).drew).cell? ⟨b1, o1 + 2, none⟩ = some (.int .i64 vv) ∧ ((w2.drewN 1).drew).cell? ⟨b2, o2, none⟩ = some (.int .i64 p) ∧ ((w2.drewN 1).drew).cell? ⟨b2, o2 + 2, none⟩ = some (.int .i64 e) ∧ ((w2.drewN 1).drew).cell? ⟨b2, o2 + 3, none⟩ = some (.int .i64 g)) := hide (HK2.out _ (below_drewN hb2 2))
  refine wp_region_U (fun _ v => v.cell? ⟨b1, o1 + 1, none⟩ = some (.int .i64 h) ∧ v.cell? ⟨b1, o1 + 2, none⟩ = some (.int .i64 vv) ∧ v.cell? ⟨b2, o2, none⟩ = some (.int .i64 p) ∧ v.cell? ⟨b2, o2 + 2, none⟩ = some (.int .i64 e) ∧ v.cell? ⟨b2, o2 + 3, none⟩ = some (.int .i64 g)) 99 (by kernel_rfl) ?_
  refine wpAnyU_take (i := 0) (oi := { dst := some 52, op := _, type := _, pos := _, after := _, guard := none }) (v := .slice (some ⟨b2, o2, none⟩) 4 c') rfl (by kernel_rfl) (by kernel_rfl) (by kernel_rfl) (by kernel_rfl) (fun _ _ _ h => h) (yields_take rfl (fun w' hw => by obtain ⟨h1, h2, h3, h4, h5⟩ := hw.const; go_simp)) hS0.out ?_
  simp only [Act.put, List.setIfInBounds_toArray, List.set_cons_zero, List.set_cons_succ]
  refine wpAnyU_take (i := 1) (oi := { dst := some 53, op := _, type := _, pos := _, after := _, guard := none }) (v := .pointer (some ⟨b2, o2, none⟩)) rfl (by kernel_rfl) (by kernel_rfl) (by kernel_rfl) (by kernel_rfl) (fun _ _ _ h => h) (yields_take rfl (fun w' hw => by obtain ⟨h1, h2, h3, h4, h5⟩ := hw.const; go_simp)) hS0.out ?_
  simp only [Act.put, List.setIfInBounds_toArray, List.set_cons_zero, List.set_cons_succ]
  refine wpAnyU_take (i := 2) (oi := { dst := some 54, op := _, type := _, pos := _, after := _, guard := none }) (v := .int .i64 p) rfl (by kernel_rfl) (by kernel_rfl) (by kernel_rfl) (by kernel_rfl) (fun _ _ _ h => h) (yields_take rfl (fun w' hw => by obtain ⟨h1, h2, h3, h4, h5⟩ := hw.const; go_simp)) hS0.out ?_
  simp only [Act.put, List.setIfInBounds_toArray, List.set_cons_zero, List.set_cons_succ]
  refine wpAnyU_take (i := 3) (oi := { dst := some 55, op := _, type := _, pos := _, after := _, guard := none }) (v := .slice (some ⟨b1, o1, none⟩) 3 c) rfl (by kernel_rfl) (by kernel_rfl) (by kernel_rfl) (by kernel_rfl) (fun _ _ _ h => h) (yields_take rfl (fun w' hw => by obtain ⟨h1, h2, h3, h4, h5⟩ := hw.const; go_simp)) hS0.out ?_
  simp only [Act.put, List.setIfInBounds_toArray, List.set_cons_zero, List.set_cons_succ]
  refine wpAnyU_take (i := 4) (oi := { dst := some 56, op := _, type := _, pos := _, after := _, guard := none }) (v := .pointer (some ⟨b1, o1 + 1, none⟩)) rfl (by kernel_rfl) (by kernel_rfl) (by kernel_rfl) (by kernel_rfl) (fun _ _ _ h => h) (yields_take rfl (fun w' hw => by obtain ⟨h1, h2, h3, h4, h5⟩ := hw.const; go_simp)) hS0.out ?_
  simp only [Act.put, List.setIfInBounds_toArray, List.set_cons_zero, List.set_cons_succ]
  refine wpAnyU_take (i := 5) (oi := { dst := some 57, op := _, type := _, pos := _, after := _, guard := none }) (v := .int .i64 h) rfl (by kernel_rfl) (by kernel_rfl) (by kernel_rfl) (by kernel_rfl) (fun _ _ _ h => h) (yields_take rfl (fun w' hw => by obtain ⟨h1, h2, h3, h4, h5⟩ := hw.const; go_simp)) hS0.out ?_
  simp only [Act.put, List.setIfInBounds_toArray, List.set_cons_zero, List.set_cons_succ]
  refine wpAnyU_take (i := 6) (oi := { dst := some 58, op := _, type := _, pos := _, after := _, guard := none }) (v := .int .i64 pad) rfl (by kernel_rfl) (by kernel_rfl) (by kernel_rfl) (by kernel_rfl) (fun _ _ _ h => h) (yields_take rfl (fun w' hw => by obtain ⟨h1, h2, h3, h4, h5⟩ := hw.const; go_simp)) hS0.out ?_
  simp only [Act.put, List.setIfInBounds_toArray, List.set_cons_zero, List.set_cons_succ]
  refine wpAnyU_take (i := 7) (oi := { dst := some 59, op := _, type := _, pos := _, after := _, guard := none }) (v := .int .i64 pp) rfl (by kernel_rfl) (by kernel_rfl) (by kernel_rfl) (by kernel_rfl) (fun _ _ _ h => h) (yields_take rfl (fun w' hw => by obtain ⟨h1, h2, h3, h4, h5⟩ := hw.const; go_simp)) hS0.out ?_
  simp only [Act.put, List.setIfInBounds_toArray, List.set_cons_zero, List.set_cons_succ]
  refine wpAnyU_take (i := 8) (oi := { dst := some 60, op := _, type := _, pos := _, after := _, guard := none }) (v := .int .i64 hp) rfl (by kernel_rfl) (by kernel_rfl) (by kernel_rfl) (by kernel_rfl) (fun _ _ _ h => h) (yields_take rfl (fun w' hw => by obtain ⟨h1, h2, h3, h4, h5⟩ := hw.const; go_simp)) hS0.out ?_
  simp only [Act.put, List.setIfInBounds_toArray, List.set_cons_zero, List.set_cons_succ]
  refine wpAnyU_take (i := 9) (oi := { dst := some 61, op := _, type := _, pos := _, after := _, guard := none }) (v := .slice (some ⟨b2, o2, none⟩) 4 c') rfl (by kernel_rfl) (by kernel_rfl) (by kernel_rfl) (by kernel_rfl) (fun _ _ _ h => h) (yields_take rfl (fun w' hw => by obtain ⟨h1, h2, h3, h4, h5⟩ := hw.const; go_simp)) hS0.out ?_
  simp only [Act.put, List.setIfInBounds_toArray, List.set_cons_zero, List.set_cons_succ]
  refine wpAnyU_take (i := 10) (oi := { dst := some 62, op := _, type := _, pos := _, after := _, guard := none }) (v := .pointer (some ⟨b2, o2 + 2, none⟩)) rfl (by kernel_rfl) (by kernel_rfl) (by kernel_rfl) (by kernel_rfl) (fun _ _ _ h => h) (yields_take rfl (fun w' hw => by obtain ⟨h1, h2, h3, h4, h5⟩ := hw.const; go_simp)) hS0.out ?_
  simp only [Act.put, List.setIfInBounds_toArray, List.set_cons_zero, List.set_cons_succ]
  refine wpAnyU_take (i := 11) (oi := { dst := some 63, op := _, type := _, pos := _, after := _, guard := none }) (v := .int .i64 e) rfl (by kernel_rfl) (by kernel_rfl) (by kernel_rfl) (by kernel_rfl) (fun _ _ _ h => h) (yields_take rfl (fun w' hw => by obtain ⟨h1, h2, h3, h4, h5⟩ := hw.const; go_simp)) hS0.out ?_
  simp only [Act.put, List.setIfInBounds_toArray, List.set_cons_zero, List.set_cons_succ]
  refine wpAnyU_take (i := 12) (oi := { dst := some 64, op := _, type := _, pos := _, after := _, guard := none }) (v := .int .i64 step) rfl (by kernel_rfl) (by kernel_rfl) (by kernel_rfl) (by kernel_rfl) (fun _ _ _ h => h) (yields_take rfl (fun w' hw => by obtain ⟨h1, h2, h3, h4, h5⟩ := hw.const; go_simp)) hS0.out ?_
  simp only [Act.put, List.setIfInBounds_toArray, List.set_cons_zero, List.set_cons_succ]
  refine wpAnyU_take (i := 14) (oi := { dst := some 66, op := _, type := _, pos := _, after := _, guard := none }) (v := .slice (some ⟨b1, o1, none⟩) 3 c) rfl (by kernel_rfl) (by kernel_rfl) (by kernel_rfl) (by kernel_rfl) (fun _ _ _ h => h) (yields_take rfl (fun w' hw => by obtain ⟨h1, h2, h3, h4, h5⟩ := hw.const; go_simp)) hS0.out ?_
  simp only [Act.put, List.setIfInBounds_toArray, List.set_cons_zero, List.set_cons_succ]
  refine wpAnyU_take (i := 15) (oi := { dst := some 67, op := _, type := _, pos := _, after := _, guard := none }) (v := .pointer (some ⟨b1, o1 + 2, none⟩)) rfl (by kernel_rfl) (by kernel_rfl) (by kernel_rfl) (by kernel_rfl) (fun _ _ _ h => h) (yields_take rfl (fun w' hw => by obtain ⟨h1, h2, h3, h4, h5⟩ := hw.const; go_simp)) hS0.out ?_
  simp only [Act.put, List.setIfInBounds_toArray, List.set_cons_zero, List.set_cons_succ]
  refine wpAnyU_take (i := 16) (oi := { dst := some 68, op := _, type := _, pos := _, after := _, guard := none }) (v := .int .i64 vv) rfl (by kernel_rfl) (by kernel_rfl) (by kernel_rfl) (by kernel_rfl) (fun _ _ _ h => h) (yields_take rfl (fun w' hw => by obtain ⟨h1, h2, h3, h4, h5⟩ := hw.const; go_simp)) hS0.out ?_
  simp only [Act.put, List.setIfInBounds_toArray, List.set_cons_zero, List.set_cons_succ]
  refine wpAnyU_take (i := 17) (oi := { dst := some 69, op := _, type := _, pos := _, after := _, guard := none }) (v := .int .i64 pad) rfl (by kernel_rfl) (by kernel_rfl) (by kernel_rfl) (by kernel_rfl) (fun _ _ _ h => h) (yields_take rfl (fun w' hw => by obtain ⟨h1, h2, h3, h4, h5⟩ := hw.const; go_simp)) hS0.out ?_
  simp only [Act.put, List.setIfInBounds_toArray, List.set_cons_zero, List.set_cons_succ]
  refine wpAnyU_take (i := 18) (oi := { dst := some 70, op := _, type := _, pos := _, after := _, guard := none }) (v := .int .i64 pp) rfl (by kernel_rfl) (by kernel_rfl) (by kernel_rfl) (by kernel_rfl) (fun _ _ _ h => h) (yields_take rfl (fun w' hw => by obtain ⟨h1, h2, h3, h4, h5⟩ := hw.const; go_simp)) hS0.out ?_
  simp only [Act.put, List.setIfInBounds_toArray, List.set_cons_zero, List.set_cons_succ]
  refine wpAnyU_take (i := 19) (oi := { dst := some 71, op := _, type := _, pos := _, after := _, guard := none }) (v := .int .i64 vp) rfl (by kernel_rfl) (by kernel_rfl) (by kernel_rfl) (by kernel_rfl) (fun _ _ _ h => h) (yields_take rfl (fun w' hw => by obtain ⟨h1, h2, h3, h4, h5⟩ := hw.const; go_simp)) hS0.out ?_
  simp only [Act.put, List.setIfInBounds_toArray, List.set_cons_zero, List.set_cons_succ]
  refine wpAnyU_take (i := 20) (oi := { dst := some 72, op := _, type := _, pos := _, after := _, guard := none }) (v := .slice (some ⟨b2, o2, none⟩) 4 c') rfl (by kernel_rfl) (by kernel_rfl) (by kernel_rfl) (by kernel_rfl) (fun _ _ _ h => h) (yields_take rfl (fun w' hw => by obtain ⟨h1, h2, h3, h4, h5⟩ := hw.const; go_simp)) hS0.out ?_
  simp only [Act.put, List.setIfInBounds_toArray, List.set_cons_zero, List.set_cons_succ]
  refine wpAnyU_take (i := 21) (oi := { dst := some 73, op := _, type := _, pos := _, after := _, guard := none }) (v := .pointer (some ⟨b2, o2 + 3, none⟩)) rfl (by kernel_rfl) (by kernel_rfl) (by kernel_rfl) (by kernel_rfl) (fun _ _ _ h => h) (yields_take rfl (fun w' hw => by obtain ⟨h1, h2, h3, h4, h5⟩ := hw.const; go_simp)) hS0.out ?_
  simp only [Act.put, List.setIfInBounds_toArray, List.set_cons_zero, List.set_cons_succ]
  refine wpAnyU_take (i := 22) (oi := { dst := some 74, op := _, type := _, pos := _, after := _, guard := none }) (v := .int .i64 g) rfl (by kernel_rfl) (by kernel_rfl) (by kernel_rfl) (by kernel_rfl) (fun _ _ _ h => h) (yields_take rfl (fun w' hw => by obtain ⟨h1, h2, h3, h4, h5⟩ := hw.const; go_simp)) hS0.out ?_
  simp only [Act.put, List.setIfInBounds_toArray, List.set_cons_zero, List.set_cons_succ]
  refine wpAnyU_take (i := 23) (oi := { dst := some 75, op := _, type := _, pos := _, after := _, guard := none }) (v := .int .i64 step) rfl (by kernel_rfl) (by kernel_rfl) (by kernel_rfl) (by kernel_rfl) (fun _ _ _ h => h) (yields_take rfl (fun w' hw => by obtain ⟨h1, h2, h3, h4, h5⟩ := hw.const; go_simp)) hS0.out ?_
  simp only [Act.put, List.setIfInBounds_toArray, List.set_cons_zero, List.set_cons_succ]
  refine wpAnyU_one (i := 13) (by kernel_rfl) rfl ?_
  intro K hK
  go_simp
  refine Calls.mono (howMany_any hp e step _ HB1.out HB3.out HST.out) ?_
  rintro e0 _ ⟨rfl, rfl⟩
  dsimp only
  rw [HQ1.out]
  have hS8 := hS0
  refine hK _ _ hS8.out (fun _ => ?_)
  clear hK K
  refine wpAnyU_one (i := 24) (by kernel_rfl) rfl ?_
  intro K hK
  go_simp
  refine Calls.mono (howMany_any vp g step _ HB2.out HB4.out HST.out) ?_
  rintro e0 _ ⟨rfl, rfl⟩
  dsimp only
  rw [HQ2.out]
  refine hK _ _ hS8.out (fun _ => ?_)
  clear hK K
  refine wpAnyU_one (i := 25) (by kernel_rfl) rfl ?_
  intro K hK
  go_simp
  have hb4 : Below w.heap.size w (((w2.drewN 1).drew).alloc (.cells #[.int .i64 p, .int .i64 q1, .int .i64 q2] 3)) := below_al8x (below_drewN hb2 2)
  have hS1 : Hid ((((w2.drewN 1).drew).alloc (.cells #[.int .i64 p, .int .i64 q1, .int .i64 q2] 3)).cell? ⟨b1, o1 + 1, none⟩ = some (.int .i64 h) ∧ (((w2.drewN 1).drew).alloc (.cells #[.int .i64 p, .int .i64 q1, .int .i64 q2] 3)).cell? ⟨b1, o1 + 2, none⟩ = some (.int .i64 vv) ∧ (((w2.drewN 1).drew).alloc (.cells #[.int .i64 p, .int .i64 q1, .int .i64 q2] 3)).cell? ⟨b2, o2, none⟩ = some (.int .i64 p) ∧ (((w2.drewN 1).drew).alloc (.cells #[.int .i64 p, .int .i64 q1, .int .i64 q2] 3)).cell? ⟨b2, o2 + 2, none⟩ = some (.int .i64 e) ∧ (((w2.drewN 1).drew).alloc (.cells #[.int .i64 p, .int .i64 q1, .int .i64 q2] 3)).cell? ⟨b2, o2 + 3, none⟩ = some (.int .i64 g)) := hide (HK2.out _ hb4)
  refine hK.out _ _ hS1.out (fun _ => ?_)
  clear hK K hS8
  refine wpAnyU_take (i := 26) (oi := { dst := some 10, op := _, type := _, pos := _, after := _, guard := none }) (v := .slice (some ⟨w2.heap.size, 0, none⟩) 3 3) rfl (by kernel_rfl) (by kernel_rfl) (by kernel_rfl) (by kernel_rfl) (fun _ _ _ h => h) (yields_take rfl (fun w' hw => by obtain ⟨h1, h2, h3, h4, h5⟩ := hw.const; go_simp)) hS1.out ?_
  simp only [Act.put, List.setIfInBounds_toArray, List.set_cons_zero, List.set_cons_succ]
  refine wpAnyU_done (by kernel_rfl) ?_ _
  clear hS1
  have HBF := hide hb4
  obtain ⟨W4, hW4⟩ : ∃ W4, W4 = (w2.alloc (.cells #[.int .i64 p, .int .i64 q1, .int .i64 q2] 3)).drew.drew := ⟨_, rfl⟩
  have HH4 : Hid (W4.heap[w2.heap.size]? = some (.cells #[.int .i64 p, .int .i64 q1, .int .i64 q2] 3 (0, 0))) := hide (by rw [hW4]; exact heap_alloc_new w2 _)
  have HO4 : Hid (W4.ownsRow w.heap.size 3 1 (.slice (some ⟨w2.heap.size, 0, none⟩) 3 3) 3 (([p, q1, q2] : List Int).map (Value.int .i64))) := hide (own_of_block hsz HH4.out rfl (Nat.le_refl _) (by decide) rfl)
  have HB5 : Hid (Below w.heap.size w W4) := hide (by rw [hW4]; exact below_drewN (hb2.alloc hsz _) 2)
  have hW4' := hW4.symm
  clear hW4 HBF hb4
  go_wp2_with fail
  refine Calls.mono (check_any (some ⟨w2.heap.size, 0, none⟩) 3 3 [p, q1, q2] _ (lies_of_own HO4.out) (by omega)) ?_
  rintro e0 w5 ⟨rfl, hb50⟩
  have hb5 : Below w.heap.size w w5 := HB5.out.trans (hb50.mono HB5.out.size)
  have HO5 := hide (own_below HO4.out hb50)
  by_cases hz : 0 < sizeI [p, q1, q2]
  · rw [decide_eq_true hz]
    have HE : Hid (shp8E s s' step pad = 0) := hide (HEE.out.1 hz)
    have HBX := hide hb5
    clear hb5 hb50 hz hW4'
    go_wp2
    go_ret2
    refine ⟨some ⟨w2.heap.size, 0, none⟩, 3, 3, by rw [HE.out]; rfl, ?_, by omega, HBX.out⟩
    rw [shp8S, if_pos HE.out, HLL.out]
    exact HO5.out
  · rw [decide_eq_false hz]
    have HE : Hid (shp8E s s' step pad = 10) := hide (HEE.out.2 (Int.not_lt.1 hz))
    have HBX := hide hb5
    clear hb5 hb50 hz hW4'
    go_wp2
    go_ret2
    have h := HBAD.out _ (by rw [HE.out]; decide) HBX.out
    rw [HE.out] at h ⊢
    exact h

end

end Go.Proofs.YtohndckbhjakfaaGreatDoor

