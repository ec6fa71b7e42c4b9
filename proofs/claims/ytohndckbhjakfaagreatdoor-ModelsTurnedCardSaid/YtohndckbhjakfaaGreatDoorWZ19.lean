/- Merged: Wn5. -/
import Derived.Test.YtohndckbhjakfaaGreatDoorWZ18
namespace Go.Proofs.YtohndckbhjakfaaGreatDoor

section
open Go.RowKit
set_option linter.unusedVariables false
set_option linter.unusedSimpArgs false
set_option maxRecDepth 100000

def pp8E (s : List Int) (wide : Int) : Int := if 0 < sizeI s ∧ 1 ≤ wide ∧ wide ≤ 64 then (if s.length = 3 ∧ wide ≤ s.getD 1 0 ∧ wide ≤ s.getD 2 0 then 0 else 10) else 1

def pp8S (s : List Int) (wide : Int) : List Int := if pp8E s wide = 0 then [s.getD 0 0, s.getD 1 0 / wide, s.getD 2 0 / wide] else []

theorem pp8E_iff {s : List Int} {wide : Int} : pp8E s wide = 0 ↔ (0 < sizeI s ∧ 1 ≤ wide ∧ wide ≤ 64) ∧ s.length = 3 ∧ wide ≤ s.getD 1 0 ∧ wide ≤ s.getD 2 0 := by
  unfold pp8E
  by_cases h : 0 < sizeI s ∧ 1 ≤ wide ∧ wide ≤ 64
  · rw [if_pos h]
    by_cases h3 : s.length = 3 ∧ wide ≤ s.getD 1 0 ∧ wide ≤ s.getD 2 0
    · rw [if_pos h3]; exact ⟨fun _ => ⟨h, h3⟩, fun _ => rfl⟩
    · rw [if_neg h3]; exact ⟨fun e => absurd e (by decide), fun e => absurd e.2 h3⟩
  · rw [if_neg h]; exact ⟨fun e => absurd e (by decide), fun e => absurd e.1 h⟩

theorem pp8E_arg {s : List Int} {wide : Int} (h : ¬ (0 < sizeI s ∧ 1 ≤ wide ∧ wide ≤ 64)) : pp8E s wide = 1 := by rw [pp8E, if_neg h]

theorem pp8E_shape {s : List Int} {wide : Int} (h : 0 < sizeI s ∧ 1 ≤ wide ∧ wide ≤ 64) (h2 : ¬ (s.length = 3 ∧ wide ≤ s.getD 1 0 ∧ wide ≤ s.getD 2 0)) : pp8E s wide = 10 := by rw [pp8E, if_pos h, if_neg h2]

theorem pp8S_bad {s : List Int} {wide : Int} (h : pp8E s wide ≠ 0) : pp8S s wide = [] := by rw [pp8S, if_neg h]

set_option maxHeartbeats 2000000 in
theorem poolshape_any (A : Option Addr) (n c : Nat) (s : List Int) (wide : Int) (w : World) (hA : Lies w A n (s.map (Value.int .i64))) (hn : n ≤ 281474976710656) :
    Calls Tryz.prog 121 #[.slice A n c, .int .i64 wide] w fun e w' => ∃ R k kc, e = .returned (.tuple #[.slice R k kc, .int .i64 (pp8E s wide)]) ∧ w'.ownsRow w.heap.size 3 1 (.slice R k kc) k ((pp8S s wide).map (Value.int .i64)) ∧ k ≤ 3 ∧ Below w.heap.size w w' := by
  have hl1 : s.length = n := by have := hA.len; simpa using this
  have HL1 := hide hl1
  have HA := hide hA
  clear hA hl1
  have HBAD : Hid (∀ v, pp8E s wide ≠ 0 → Below w.heap.size w v → ∃ R k kc, Ending.returned (.tuple #[.slice none 0 0, .int .i64 (pp8E s wide)]) = .returned (.tuple #[.slice R k kc, .int .i64 (pp8E s wide)]) ∧ v.ownsRow w.heap.size 3 1 (.slice R k kc) k ((pp8S s wide).map (Value.int .i64)) ∧ k ≤ 3 ∧ Below w.heap.size w v) := hide (fun v h hb => ⟨none, 0, 0, rfl, by rw [pp8S_bad h]; exact World.ownsRow_nil _ _ _ _, by omega, hb⟩)
  go_enter Tryz.func121, Tryz.ntmps121
  go_wp2_with fail
  refine Calls.mono (check_any A n c s _ HA.out hn) ?_
  rintro e w1 ⟨rfl, hb1⟩
  by_cases h1 : 0 < sizeI s
  rotate_left
  · rw [decide_eq_false h1]
    have HE : Hid (pp8E s wide = 1) := hide (pp8E_arg fun h => h1 h.1)
    have HB := hide hb1
    clear h1 hb1
    go_wp2
    go_ret2
    have h := HBAD.out _ (by rw [HE.out]; decide) HB.out
    rw [HE.out] at h ⊢
    exact h
  rw [decide_eq_true h1]
  by_cases g1 : wide < 1
  · have HE : Hid (pp8E s wide = 1) := hide (pp8E_arg fun h => absurd h.2.1 (by omega))
    have HB := hide hb1
    clear h1 hb1
    go_wp2
    go_ret2
    have h := HBAD.out _ (by rw [HE.out]; decide) HB.out
    rw [HE.out] at h ⊢
    exact h
  by_cases g2 : 64 < wide
  · have HE : Hid (pp8E s wide = 1) := hide (pp8E_arg fun h => absurd h.2.2 (by omega))
    have HB := hide hb1
    clear h1 hb1
    go_wp2
    go_ret2
    have h := HBAD.out _ (by rw [HE.out]; decide) HB.out
    rw [HE.out] at h ⊢
    exact h
  have HOK : Hid (0 < sizeI s ∧ 1 ≤ wide ∧ wide ≤ 64) := hide ⟨h1, by omega, by omega⟩
  clear h1
  by_cases h3 : n = 3
  rotate_left
  · have HE : Hid (pp8E s wide = 10) := hide (pp8E_shape HOK.out (by rw [HL1.out]; exact fun h => h3 h.1))
    have e1 : ((n : Int) == 3) = false := by simpa using (by omega : ¬ (n : Int) = 3)
    have e2 : ((n : Int) != 3) = true := by simpa using (by omega : ¬ (n : Int) = 3)
    have HB := hide hb1
    clear hb1
    go_wp2
    go_ret2
    have h := HBAD.out _ (by rw [HE.out]; decide) HB.out
    rw [HE.out] at h ⊢
    exact h
  subst h3
  obtain ⟨b1, o1, rfl, hbk1, hx1⟩ := byte_at HA.out (by omega)
  have hd1 := size_dims HOK.out.1
  have q11 := hd1.at (k := 1) (by rw [HL1.out]; omega)
  have q12 := hd1.at (k := 2) (by rw [HL1.out]; omega)
  obtain ⟨x, hx⟩ : ∃ z, z = s.getD 0 0 := ⟨_, rfl⟩
  obtain ⟨h, hh⟩ : ∃ z, z = s.getD 1 0 := ⟨_, rfl⟩
  obtain ⟨z, hz⟩ : ∃ z, z = s.getD 2 0 := ⟨_, rfl⟩
  have c10 := hx1 0 (by omega)
  have c11 := hx1 1 (by omega)
  have c12 := hx1 2 (by omega)
  rw [← hx] at c10
  rw [← hh] at c11 q11
  rw [← hz] at c12 q12
  have d0 := (hb1.cell (p := ⟨b1, o1, none⟩) hbk1).trans c10
  have d1 := (hb1.cell (p := ⟨b1, o1 + 1, none⟩) hbk1).trans c11
  have d2 := (hb1.cell (p := ⟨b1, o1 + 2, none⟩) hbk1).trans c12
  have HK : Hid (∀ v, Below w.heap.size w v → v.cell? ⟨b1, o1, none⟩ = some (.int .i64 x) ∧ v.cell? ⟨b1, o1 + 1, none⟩ = some (.int .i64 h) ∧ v.cell? ⟨b1, o1 + 2, none⟩ = some (.int .i64 z)) := hide (fun v hv => ⟨(hv.cell (p := ⟨b1, o1, none⟩) hbk1).trans c10, (hv.cell (p := ⟨b1, o1 + 1, none⟩) hbk1).trans c11, (hv.cell (p := ⟨b1, o1 + 2, none⟩) hbk1).trans c12⟩)
  have HXY := hide (And.intro hx (And.intro hh hz))
  clear hx1 c10 c11 c12 hx hh hz hd1
  by_cases g3 : h < wide
  · have HE : Hid (pp8E s wide = 10) := hide (pp8E_shape HOK.out (by rw [← HXY.out.2.1]; exact fun h => absurd h.2.1 (by omega)))
    have HB := hide hb1
    clear hb1
    go_wp2
    go_ret2
    have h := HBAD.out _ (by rw [HE.out]; decide) HB.out
    rw [HE.out] at h ⊢
    exact h
  by_cases g4 : z < wide
  · have HE : Hid (pp8E s wide = 10) := hide (pp8E_shape HOK.out (by rw [← HXY.out.2.2]; exact fun h => absurd h.2.2 (by omega)))
    have HB := hide hb1
    clear hb1
    go_wp2
    go_ret2
    have h := HBAD.out _ (by rw [HE.out]; decide) HB.out
    rw [HE.out] at h ⊢
    exact h
  have HE : Hid (pp8E s wide = 0) := hide (pp8E_iff.2 ⟨HOK.out, HL1.out, by rw [← HXY.out.2.1]; omega, by rw [← HXY.out.2.2]; omega⟩)
  have hq1a := Int.ediv_nonneg (show 0 ≤ h by omega) (show 0 ≤ wide by omega)
  have hq1b : h / wide ≤ h := Int.ediv_le_self _ (by omega)
  have hq2a := Int.ediv_nonneg (show 0 ≤ z by omega) (show 0 ≤ wide by omega)
  have hq2b : z / wide ≤ z := Int.ediv_le_self _ (by omega)
  obtain ⟨q1, hq1⟩ : ∃ q, q = h / wide := ⟨_, rfl⟩
  obtain ⟨q2, hq2⟩ : ∃ q, q = z / wide := ⟨_, rfl⟩
  rw [← hq1] at hq1a hq1b
  rw [← hq2] at hq2a hq2b
  have m1 : h.tdiv wide = q1 := by rw [hq1, Int.tdiv_eq_ediv_of_nonneg (by omega)]
  have m2 : z.tdiv wide = q2 := by rw [hq2, Int.tdiv_eq_ediv_of_nonneg (by omega)]
  have m3 : IntKind.i64.wrap q1 = q1 := by rw [IntKind.wrap_i64]; omega
  have m4 : IntKind.i64.wrap q2 = q2 := by rw [IntKind.wrap_i64]; omega
  have hs0 : ¬ wide = 0 := by omega
  have hsz := hb1.size
  have HQ := hide (And.intro hq1 hq2)
  clear hq1 hq2
  go_wp2
  have hS0 : Hid (w1.drew.cell? ⟨b1, o1, none⟩ = some (.int .i64 x) ∧ w1.drew.cell? ⟨b1, o1 + 1, none⟩ = some (.int .i64 h) ∧ w1.drew.cell? ⟨b1, o1 + 2, none⟩ = some (.int .i64 z)) := hide (HK.out _ (below_drewN hb1 1))
  refine wp_region_U (fun _ v => v.cell? ⟨b1, o1, none⟩ = some (.int .i64 x) ∧ v.cell? ⟨b1, o1 + 1, none⟩ = some (.int .i64 h) ∧ v.cell? ⟨b1, o1 + 2, none⟩ = some (.int .i64 z)) 99 (by kernel_rfl) ?_
  refine wpAnyU_take (i := 0) (oi := { dst := some 34, op := _, type := _, pos := _, after := _, guard := none }) (v := .slice (some ⟨b1, o1, none⟩) 3 c) rfl (by kernel_rfl) (by kernel_rfl) (by kernel_rfl) (by kernel_rfl) (fun _ _ _ h => h) (yields_take rfl (fun w' hw => by obtain ⟨h1, h2, h3⟩ := hw.const; go_simp)) hS0.out ?_
  simp only [Act.put, List.setIfInBounds_toArray, List.set_cons_zero, List.set_cons_succ]
  refine wpAnyU_take (i := 1) (oi := { dst := some 35, op := _, type := _, pos := _, after := _, guard := none }) (v := .pointer (some ⟨b1, o1, none⟩)) rfl (by kernel_rfl) (by kernel_rfl) (by kernel_rfl) (by kernel_rfl) (fun _ _ _ h => h) (yields_take rfl (fun w' hw => by obtain ⟨h1, h2, h3⟩ := hw.const; go_simp)) hS0.out ?_
  simp only [Act.put, List.setIfInBounds_toArray, List.set_cons_zero, List.set_cons_succ]
  refine wpAnyU_take (i := 2) (oi := { dst := some 36, op := _, type := _, pos := _, after := _, guard := none }) (v := .int .i64 x) rfl (by kernel_rfl) (by kernel_rfl) (by kernel_rfl) (by kernel_rfl) (fun _ _ _ h => h) (yields_take rfl (fun w' hw => by obtain ⟨h1, h2, h3⟩ := hw.const; go_simp)) hS0.out ?_
  simp only [Act.put, List.setIfInBounds_toArray, List.set_cons_zero, List.set_cons_succ]
  refine wpAnyU_take (i := 3) (oi := { dst := some 37, op := _, type := _, pos := _, after := _, guard := none }) (v := .slice (some ⟨b1, o1, none⟩) 3 c) rfl (by kernel_rfl) (by kernel_rfl) (by kernel_rfl) (by kernel_rfl) (fun _ _ _ h => h) (yields_take rfl (fun w' hw => by obtain ⟨h1, h2, h3⟩ := hw.const; go_simp)) hS0.out ?_
  simp only [Act.put, List.setIfInBounds_toArray, List.set_cons_zero, List.set_cons_succ]
  refine wpAnyU_take (i := 4) (oi := { dst := some 38, op := _, type := _, pos := _, after := _, guard := none }) (v := .pointer (some ⟨b1, o1 + 1, none⟩)) rfl (by kernel_rfl) (by kernel_rfl) (by kernel_rfl) (by kernel_rfl) (fun _ _ _ h => h) (yields_take rfl (fun w' hw => by obtain ⟨h1, h2, h3⟩ := hw.const; go_simp)) hS0.out ?_
  simp only [Act.put, List.setIfInBounds_toArray, List.set_cons_zero, List.set_cons_succ]
  refine wpAnyU_take (i := 5) (oi := { dst := some 39, op := _, type := _, pos := _, after := _, guard := none }) (v := .int .i64 h) rfl (by kernel_rfl) (by kernel_rfl) (by kernel_rfl) (by kernel_rfl) (fun _ _ _ h => h) (yields_take rfl (fun w' hw => by obtain ⟨h1, h2, h3⟩ := hw.const; go_simp)) hS0.out ?_
  simp only [Act.put, List.setIfInBounds_toArray, List.set_cons_zero, List.set_cons_succ]
  refine wpAnyU_take (i := 6) (oi := { dst := some 40, op := _, type := _, pos := _, after := _, guard := none }) (v := .int .i64 wide) rfl (by kernel_rfl) (by kernel_rfl) (by kernel_rfl) (by kernel_rfl) (fun _ _ _ h => h) (yields_take rfl (fun w' hw => by obtain ⟨h1, h2, h3⟩ := hw.const; go_simp)) hS0.out ?_
  simp only [Act.put, List.setIfInBounds_toArray, List.set_cons_zero, List.set_cons_succ]
  refine wpAnyU_take (i := 7) (oi := { dst := some 41, op := _, type := _, pos := _, after := _, guard := none }) (v := .int .i64 q1) rfl (by kernel_rfl) (by kernel_rfl) (by kernel_rfl) (by kernel_rfl) (fun _ _ _ h => h) (yields_take rfl (fun w' hw => by obtain ⟨h1, h2, h3⟩ := hw.const; go_simp)) hS0.out ?_
  simp only [Act.put, List.setIfInBounds_toArray, List.set_cons_zero, List.set_cons_succ]
  refine wpAnyU_take (i := 8) (oi := { dst := some 42, op := _, type := _, pos := _, after := _, guard := none }) (v := .slice (some ⟨b1, o1, none⟩) 3 c) rfl (by kernel_rfl) (by kernel_rfl) (by kernel_rfl) (by kernel_rfl) (fun _ _ _ h => h) (yields_take rfl (fun w' hw => by obtain ⟨h1, h2, h3⟩ := hw.const; go_simp)) hS0.out ?_
  simp only [Act.put, List.setIfInBounds_toArray, List.set_cons_zero, List.set_cons_succ]
  refine wpAnyU_take (i := 9) (oi := { dst := some 43, op := _, type := _, pos := _, after := _, guard := none }) (v := .pointer (some ⟨b1, o1 + 2, none⟩)) rfl (by kernel_rfl) (by kernel_rfl) (by kernel_rfl) (by kernel_rfl) (fun _ _ _ h => h) (yields_take rfl (fun w' hw => by obtain ⟨h1, h2, h3⟩ := hw.const; go_simp)) hS0.out ?_
  simp only [Act.put, List.setIfInBounds_toArray, List.set_cons_zero, List.set_cons_succ]
  refine wpAnyU_take (i := 10) (oi := { dst := some 44, op := _, type := _, pos := _, after := _, guard := none }) (v := .int .i64 z) rfl (by kernel_rfl) (by kernel_rfl) (by kernel_rfl) (by kernel_rfl) (fun _ _ _ h => h) (yields_take rfl (fun w' hw => by obtain ⟨h1, h2, h3⟩ := hw.const; go_simp)) hS0.out ?_
  simp only [Act.put, List.setIfInBounds_toArray, List.set_cons_zero, List.set_cons_succ]
  refine wpAnyU_take (i := 11) (oi := { dst := some 45, op := _, type := _, pos := _, after := _, guard := none }) (v := .int .i64 wide) rfl (by kernel_rfl) (by kernel_rfl) (by kernel_rfl) (by kernel_rfl) (fun _ _ _ h => h) (yields_take rfl (fun w' hw => by obtain ⟨h1, h2, h3⟩ := hw.const; go_simp)) hS0.out ?_
  simp only [Act.put, List.setIfInBounds_toArray, List.set_cons_zero, List.set_cons_succ]
  refine wpAnyU_take (i := 12) (oi := { dst := some 46, op := _, type := _, pos := _, after := _, guard := none }) (v := .int .i64 q2) rfl (by kernel_rfl) (by kernel_rfl) (by kernel_rfl) (by kernel_rfl) (fun _ _ _ h => h) (yields_take rfl (fun w' hw => by obtain ⟨h1, h2, h3⟩ := hw.const; go_simp)) hS0.out ?_
  simp only [Act.put, List.setIfInBounds_toArray, List.set_cons_zero, List.set_cons_succ]
  refine wpAnyU_one (i := 13) (by kernel_rfl) rfl ?_
  intro K hK
  go_simp
  have hb4 : Below w.heap.size w ((w1.drew).alloc (.cells #[.int .i64 x, .int .i64 q1, .int .i64 q2] 3)) := below_al8x (below_drewN hb1 1)
  have hS1 : Hid (((w1.drew).alloc (.cells #[.int .i64 x, .int .i64 q1, .int .i64 q2] 3)).cell? ⟨b1, o1, none⟩ = some (.int .i64 x) ∧ ((w1.drew).alloc (.cells #[.int .i64 x, .int .i64 q1, .int .i64 q2] 3)).cell? ⟨b1, o1 + 1, none⟩ = some (.int .i64 h) ∧ ((w1.drew).alloc (.cells #[.int .i64 x, .int .i64 q1, .int .i64 q2] 3)).cell? ⟨b1, o1 + 2, none⟩ = some (.int .i64 z)) := hide (HK.out _ hb4)
  refine hK.out _ _ hS1.out (fun _ => ?_)
  clear hK K hS0
  refine wpAnyU_take (i := 14) (oi := { dst := some 4, op := _, type := _, pos := _, after := _, guard := none }) (v := .slice (some ⟨w1.heap.size, 0, none⟩) 3 3) rfl (by kernel_rfl) (by kernel_rfl) (by kernel_rfl) (by kernel_rfl) (fun _ _ _ h => h) (yields_take rfl (fun w' hw => by obtain ⟨h1, h2, h3⟩ := hw.const; go_simp)) hS1.out ?_
  simp only [Act.put, List.setIfInBounds_toArray, List.set_cons_zero, List.set_cons_succ]
  refine wpAnyU_take (i := 15) (oi := { dst := some 5, op := _, type := _, pos := _, after := _, guard := none }) (v := .int .i64 0) rfl (by kernel_rfl) (by kernel_rfl) (by kernel_rfl) (by kernel_rfl) (fun _ _ _ h => h) (yields_take rfl (fun w' hw => by obtain ⟨h1, h2, h3⟩ := hw.const; go_simp)) hS1.out ?_
  simp only [Act.put, List.setIfInBounds_toArray, List.set_cons_zero, List.set_cons_succ]
  refine wpAnyU_done (by kernel_rfl) ?_ _
  clear hS1
  have HBF := hide hb4
  go_wp2
  go_ret2
  refine ⟨some ⟨w1.heap.size, 0, none⟩, 3, 3, by rw [HE.out]; rfl, ?_, by omega, HBF.out⟩
  rw [pp8S, if_pos HE.out, ← HXY.out.1, ← HXY.out.2.1, ← HXY.out.2.2, ← HQ.out.1, ← HQ.out.2]
  exact own_of_block hsz (heap_alloc_new _ _) rfl (Nat.le_refl _) (by decide) rfl

end

end Go.Proofs.YtohndckbhjakfaaGreatDoor

