/- Contract of without: a shape without one of its directions. -/
import Derived.Test.YtomhbhhfbbdilaaGreatDoorMv5M
namespace Go.Proofs.YtomhbhhfbbdilaaGreatDoor
open Go.RowKit
set_option linter.unusedVariables false
set_option linter.unusedSimpArgs false
set_option maxRecDepth 100000

/-- A shape without one of its directions; of none 1. -/
def woL (s : List Int) (a : Nat) : List Int := if s.length = 1 then [1] else s.take a ++ s.drop (a + 1)

theorem woL_one {s : List Int} {a : Nat} (h : s.length = 1) : woL s a = [1] := by rw [woL, if_pos h]

theorem woL_more {s : List Int} {a : Nat} (h : ¬ s.length = 1) : woL s a = s.take a ++ s.drop (a + 1) := by rw [woL, if_neg h]

set_option maxHeartbeats 4000000 in
theorem without_ok (A : Option Addr) (n c a : Nat) (s : List Int) (w : World) (hA : Lies w A n (s.map (Value.int .i64))) (ha : a < n) (hc : n ≤ c) (hn : n ≤ 4) :
    Calls Tryz.prog 115 #[.agg #[.slice A n c], .int .i64 (a : Int)] w fun e w' => ∃ g k c', e = .returned (.slice (some ⟨g, 0, none⟩) k c') ∧ k = (woL s a).length ∧ w'.ownsRow w.heap.size 3 1 (.slice (some ⟨g, 0, none⟩) k c') k ((woL s a).map (Value.int .i64)) ∧ Below w.heap.size w w' := by
  have hlen : s.length = n := by have := hA.len; simpa using this
  obtain ⟨W0, hW0⟩ : ∃ W0, W0 = w.alloc (.cells #[.slice A n c] 109) := ⟨_, rfl⟩
  have HB0 : Hid (Below w.heap.size w W0) := hide (by rw [hW0]; exact below_al6 (Below.refl _ _))
  have HR : Hid (W0.heap[w.heap.size]? = some (.cells #[.slice A n c] 109 (0, 0))) := hide (by rw [hW0]; exact heap_alloc_new w _)
  have HA := hide (hA.below HB0.out)
  have HLEN := hide hlen
  have hW0' := hW0.symm
  obtain ⟨b, o, rfl, _, _⟩ := byte_at hA (by omega)
  clear hA hW0 hlen
  have HC : Hid (∀ v, Below W0.heap.size W0 v → v.cell? ⟨w.heap.size, 0, none⟩ = some (.slice (some ⟨b, o, none⟩) n c)) := hide (fun v hv => cell_of_row _ _ 0 _ _ (0, 0) ((hv.block _ (lt_of_heap HR.out)).trans HR.out))
  have a0 := HC.out _ (Below.refl _ _)
  by_cases h1 : n = 1
  · subst h1
    have HW := hide (woL_one (a := a) HLEN.out)
    have HL : Hid ((W0.alloc (.cells (([1] : List Int).map (Value.int .i64)).toArray 3)).ownsRow w.heap.size 3 1 (.slice (some ⟨W0.heap.size, 0, none⟩) 1 1) 1 (([1] : List Int).map (Value.int .i64))) := hide (own_of_block HB0.out.size (heap_alloc_new W0 _) (by simp) (Nat.le_refl _) (by unfold maxLen; omega) (by simp))
    have HBW : Hid (Below w.heap.size w (W0.alloc (.cells (([1] : List Int).map (Value.int .i64)).toArray 3))) := hide (HB0.out.alloc HB0.out.size _)
    go_enter Tryz.func115, Tryz.ntmps115
    go_wp2
    go_ret
    exact ⟨W0.heap.size, 1, 1, rfl, by rw [HW.out]; rfl, by rw [HW.out]; exact HL.out, HBW.out⟩
  have HW := hide (woL_more (a := a) (show ¬ s.length = 1 by rw [HLEN.out]; exact h1))
  have e1 : ((n : Int) == 1) = false := by simpa using (by omega : ¬ (n : Int) = 1)
  have e2 : ¬ (n : Int) = 1 := by omega
  obtain ⟨a2, ha2⟩ : ∃ z, z = a + 1 := ⟨_, rfl⟩
  obtain ⟨r, hr⟩ : ∃ z, z = n - a2 := ⟨_, rfl⟩
  obtain ⟨rc, hrc⟩ : ∃ z, z = c - a2 := ⟨_, rfl⟩
  have m1 : IntKind.i64.wrap ((a : Int) + 1) = (a2 : Int) := by rw [IntKind.wrap_i64]; omega
  have k1 : (0 : Int) ≤ (a : Int) := by omega
  have k2 : (a : Int) ≤ (c : Int) := by omega
  have k3 : (0 : Int) ≤ (a2 : Int) := by omega
  have k4 : (a2 : Int) ≤ (n : Int) := by omega
  have k5 : (n : Int) ≤ (c : Int) := by omega
  have k6 : a ≤ c := by omega
  have k7 : a2 ≤ n := by omega
  have k8 : n ≤ c := hc
  have k9 : n - a2 = r := hr.symm
  have k10 : c - a2 = rc := hrc.symm
  have HA2 := hide ha2
  have hra : a + r ≤ 4 ∧ 1 ≤ a + r := by omega
  clear ha2 hr hrc
  obtain ⟨A2, hA2⟩ : ∃ z : Option Addr, z = (if c = a2 then some ⟨b, o, none⟩ else some ⟨b, o + a2, none⟩) := ⟨_, rfl⟩
  have HD : Hid (∀ v, Below W0.heap.size W0 v → Lies v A2 r ((s.drop a2).map (Value.int .i64))) := hide (fun v hv => by
    have h := (HA.out.below hv).drop (k := a2) (cap := c) k7 hc
    rw [← List.map_drop, k9] at h
    rw [hA2]
    by_cases e : c = a2
    · rw [if_pos e] at h ⊢; exact h
    · rw [if_neg e] at h ⊢; simpa [Addr.add_lit] using h)
  have HT : Hid (∀ v, Below W0.heap.size W0 v → Lies v (some ⟨b, o, none⟩) a ((s.take a).map (Value.int .i64))) := hide (fun v hv => by
    have h := (HA.out.below hv).take (k := a) (by omega)
    rwa [← List.map_take] at h)
  have HNN : Hid (A2 = none → rc = 0) := hide (fun e => by rw [hA2] at e; split at e <;> cases e)
  have hd0 : Below W0.heap.size W0 W0.drew := below_drewN (Below.refl _ _) 1
  go_enter Tryz.func115, Tryz.ntmps115
  go_wp2
  clear a0
  by_cases e : c = a2
  · rw [if_pos e] at hA2
    subst hA2
    obtain rfl : a2 = c := e.symm
    obtain rfl : 0 = rc := by omega
    have hS0 : Hid (W0.drew.cell? ⟨w.heap.size, 0, none⟩ = some (.slice (some ⟨b, o, none⟩) n a2)) := hide (HC.out _ hd0)
    refine wp_region_U (fun _ v => v.cell? ⟨w.heap.size, 0, none⟩ = some (.slice (some ⟨b, o, none⟩) n a2)) 99 (by kernel_rfl) ?_
    refine wpAnyU_take (i := 0) (oi := { dst := some 10, op := _, type := _, pos := _, after := _, guard := none }) (v := .pointer (some ⟨w.heap.size, 0, none⟩)) rfl (by kernel_rfl) (by kernel_rfl) (by kernel_rfl) (by kernel_rfl) (fun _ _ _ h => h) (yields_take rfl (fun w' hw => by have h1 := hw.const; go_simp)) hS0.out ?_
    simp only [Act.put, List.setIfInBounds_toArray, List.set_cons_zero, List.set_cons_succ]
    refine wpAnyU_take (i := 1) (oi := { dst := some 11, op := _, type := _, pos := _, after := _, guard := none }) (v := .slice (some ⟨b, o, none⟩) n a2) rfl (by kernel_rfl) (by kernel_rfl) (by kernel_rfl) (by kernel_rfl) (fun _ _ _ h => h) (yields_take rfl (fun w' hw => by have h1 := hw.const; go_simp)) hS0.out ?_
    simp only [Act.put, List.setIfInBounds_toArray, List.set_cons_zero, List.set_cons_succ]
    refine wpAnyU_take (i := 2) (oi := { dst := some 12, op := _, type := _, pos := _, after := _, guard := none }) (v := .int .i64 (a : Int)) rfl (by kernel_rfl) (by kernel_rfl) (by kernel_rfl) (by kernel_rfl) (fun _ _ _ h => h) (yields_take rfl (fun w' hw => by have h1 := hw.const; go_simp)) hS0.out ?_
    simp only [Act.put, List.setIfInBounds_toArray, List.set_cons_zero, List.set_cons_succ]
    refine wpAnyU_take (i := 3) (oi := { dst := some 13, op := _, type := _, pos := _, after := _, guard := none }) (v := .slice (some ⟨b, o, none⟩) a a2) rfl (by kernel_rfl) (by kernel_rfl) (by kernel_rfl) (by kernel_rfl) (fun _ _ _ h => h) (yields_take rfl (fun w' hw => by have h1 := hw.const; go_simp)) hS0.out ?_
    simp only [Act.put, List.setIfInBounds_toArray, List.set_cons_zero, List.set_cons_succ]
    refine wpAnyU_take (i := 4) (oi := { dst := some 14, op := _, type := _, pos := _, after := _, guard := none }) (v := .pointer (some ⟨w.heap.size, 0, none⟩)) rfl (by kernel_rfl) (by kernel_rfl) (by kernel_rfl) (by kernel_rfl) (fun _ _ _ h => h) (yields_take rfl (fun w' hw => by have h1 := hw.const; go_simp)) hS0.out ?_
    simp only [Act.put, List.setIfInBounds_toArray, List.set_cons_zero, List.set_cons_succ]
    refine wpAnyU_take (i := 5) (oi := { dst := some 15, op := _, type := _, pos := _, after := _, guard := none }) (v := .slice (some ⟨b, o, none⟩) n a2) rfl (by kernel_rfl) (by kernel_rfl) (by kernel_rfl) (by kernel_rfl) (fun _ _ _ h => h) (yields_take rfl (fun w' hw => by have h1 := hw.const; go_simp)) hS0.out ?_
    simp only [Act.put, List.setIfInBounds_toArray, List.set_cons_zero, List.set_cons_succ]
    refine wpAnyU_take (i := 6) (oi := { dst := some 16, op := _, type := _, pos := _, after := _, guard := none }) (v := .int .i64 (a : Int)) rfl (by kernel_rfl) (by kernel_rfl) (by kernel_rfl) (by kernel_rfl) (fun _ _ _ h => h) (yields_take rfl (fun w' hw => by have h1 := hw.const; go_simp)) hS0.out ?_
    simp only [Act.put, List.setIfInBounds_toArray, List.set_cons_zero, List.set_cons_succ]
    refine wpAnyU_take (i := 7) (oi := { dst := some 17, op := _, type := _, pos := _, after := _, guard := none }) (v := .int .i64 (a2 : Int)) rfl (by kernel_rfl) (by kernel_rfl) (by kernel_rfl) (by kernel_rfl) (fun _ _ _ h => h) (yields_take rfl (fun w' hw => by have h1 := hw.const; go_simp)) hS0.out ?_
    simp only [Act.put, List.setIfInBounds_toArray, List.set_cons_zero, List.set_cons_succ]
    refine wpAnyU_take (i := 8) (oi := { dst := some 18, op := _, type := _, pos := _, after := _, guard := none }) (v := .slice (some ⟨b, o, none⟩) r 0) rfl (by kernel_rfl) (by kernel_rfl) (by kernel_rfl) (by kernel_rfl) (fun _ _ _ h => h) (yields_take rfl (fun w' hw => by have h1 := hw.const; go_simp)) hS0.out ?_
    simp only [Act.put, List.setIfInBounds_toArray, List.set_cons_zero, List.set_cons_succ]
    generalize hU0 : W0.drew = U0
    have he : Below W0.heap.size W0 U0 := by rw [← hU0]; exact hd0
    rw [hU0] at hS0
    clear hU0
    refine wpAnyU_one (i := 9) (by kernel_rfl) rfl ?_
    intro K hK
    go_simp
    have hd1 : Below W0.heap.size W0 (U0.alloc (.cells #[.slice (some ⟨b, o, none⟩) a a2, .slice (some ⟨b, o, none⟩) r 0] 31)) := below_al6 he
    have hS1 : Hid ((U0.alloc (.cells #[.slice (some ⟨b, o, none⟩) a a2, .slice (some ⟨b, o, none⟩) r 0] 31)).cell? ⟨w.heap.size, 0, none⟩ = some (.slice (some ⟨b, o, none⟩) n a2)) := hide (HC.out _ hd1)
    refine hK.out _ _ hS1.out (fun _ => ?_)
    clear hK K hS0
    refine wpAnyU_one (i := 10) (by kernel_rfl) rfl ?_
    intro K hK
    go_simp
    refine Calls.mono (concat_two U0.heap.size (some ⟨b, o, none⟩) (some ⟨b, o, none⟩) a a2 r 0 (s.take a) (s.drop a2) _ (heap_alloc_new U0 _) (HT.out _ hd1) (HD.out _ hd1) (fun e => by cases e) HNN.out hra.2 (by omega)) ?_
    rintro e w2 ⟨g, c9, rfl, ho, hb⟩
    dsimp only
    have hd2 : Below W0.heap.size W0 w2 := below_nx6 hd1 hb
    have hS2 : Hid (w2.cell? ⟨w.heap.size, 0, none⟩ = some (.slice (some ⟨b, o, none⟩) n a2)) := hide (HC.out _ hd2)
    refine hK.out _ _ hS2.out (fun _ => ?_)
    clear hK K hS1
    refine wpAnyU_take (i := 11) (oi := { dst := some 4, op := _, type := _, pos := _, after := _, guard := none }) (v := .slice (some ⟨g, 0, none⟩) (a + r) c9) rfl (by kernel_rfl) (by kernel_rfl) (by kernel_rfl) (by kernel_rfl) (fun _ _ _ h => h) (yields_take rfl (fun w' hw => by have h1 := hw.const; go_simp)) hS2.out ?_
    simp only [Act.put, List.setIfInBounds_toArray, List.set_cons_zero, List.set_cons_succ]
    refine wpAnyU_done (by kernel_rfl) ?_ _
    clear hS2
    have HO := hide (own_base (base' := w.heap.size) ho (by have := hd1.size; have := HB0.out.size; omega))
    have HBE := hide (HB0.out.trans (hd2.mono HB0.out.size))
    clear hd0 hd1 hd2 ho hb
    go_wp2
    go_ret
    refine ⟨g, a + r, c9, rfl, ?_, by rw [HW.out, ← HA2.out]; exact HO.out, HBE.out⟩
    rw [HW.out, ← HA2.out, List.length_append, List.length_take, List.length_drop, HLEN.out]
    omega
  · rw [if_neg e] at hA2
    subst hA2
    have hS0 : Hid (W0.drew.cell? ⟨w.heap.size, 0, none⟩ = some (.slice (some ⟨b, o, none⟩) n c)) := hide (HC.out _ hd0)
    refine wp_region_U (fun _ v => v.cell? ⟨w.heap.size, 0, none⟩ = some (.slice (some ⟨b, o, none⟩) n c)) 99 (by kernel_rfl) ?_
    refine wpAnyU_take (i := 0) (oi := { dst := some 10, op := _, type := _, pos := _, after := _, guard := none }) (v := .pointer (some ⟨w.heap.size, 0, none⟩)) rfl (by kernel_rfl) (by kernel_rfl) (by kernel_rfl) (by kernel_rfl) (fun _ _ _ h => h) (yields_take rfl (fun w' hw => by have h1 := hw.const; go_simp)) hS0.out ?_
    simp only [Act.put, List.setIfInBounds_toArray, List.set_cons_zero, List.set_cons_succ]
    refine wpAnyU_take (i := 1) (oi := { dst := some 11, op := _, type := _, pos := _, after := _, guard := none }) (v := .slice (some ⟨b, o, none⟩) n c) rfl (by kernel_rfl) (by kernel_rfl) (by kernel_rfl) (by kernel_rfl) (fun _ _ _ h => h) (yields_take rfl (fun w' hw => by have h1 := hw.const; go_simp)) hS0.out ?_
    simp only [Act.put, List.setIfInBounds_toArray, List.set_cons_zero, List.set_cons_succ]
    refine wpAnyU_take (i := 2) (oi := { dst := some 12, op := _, type := _, pos := _, after := _, guard := none }) (v := .int .i64 (a : Int)) rfl (by kernel_rfl) (by kernel_rfl) (by kernel_rfl) (by kernel_rfl) (fun _ _ _ h => h) (yields_take rfl (fun w' hw => by have h1 := hw.const; go_simp)) hS0.out ?_
    simp only [Act.put, List.setIfInBounds_toArray, List.set_cons_zero, List.set_cons_succ]
    refine wpAnyU_take (i := 3) (oi := { dst := some 13, op := _, type := _, pos := _, after := _, guard := none }) (v := .slice (some ⟨b, o, none⟩) a c) rfl (by kernel_rfl) (by kernel_rfl) (by kernel_rfl) (by kernel_rfl) (fun _ _ _ h => h) (yields_take rfl (fun w' hw => by have h1 := hw.const; go_simp)) hS0.out ?_
    simp only [Act.put, List.setIfInBounds_toArray, List.set_cons_zero, List.set_cons_succ]
    refine wpAnyU_take (i := 4) (oi := { dst := some 14, op := _, type := _, pos := _, after := _, guard := none }) (v := .pointer (some ⟨w.heap.size, 0, none⟩)) rfl (by kernel_rfl) (by kernel_rfl) (by kernel_rfl) (by kernel_rfl) (fun _ _ _ h => h) (yields_take rfl (fun w' hw => by have h1 := hw.const; go_simp)) hS0.out ?_
    simp only [Act.put, List.setIfInBounds_toArray, List.set_cons_zero, List.set_cons_succ]
    refine wpAnyU_take (i := 5) (oi := { dst := some 15, op := _, type := _, pos := _, after := _, guard := none }) (v := .slice (some ⟨b, o, none⟩) n c) rfl (by kernel_rfl) (by kernel_rfl) (by kernel_rfl) (by kernel_rfl) (fun _ _ _ h => h) (yields_take rfl (fun w' hw => by have h1 := hw.const; go_simp)) hS0.out ?_
    simp only [Act.put, List.setIfInBounds_toArray, List.set_cons_zero, List.set_cons_succ]
    refine wpAnyU_take (i := 6) (oi := { dst := some 16, op := _, type := _, pos := _, after := _, guard := none }) (v := .int .i64 (a : Int)) rfl (by kernel_rfl) (by kernel_rfl) (by kernel_rfl) (by kernel_rfl) (fun _ _ _ h => h) (yields_take rfl (fun w' hw => by have h1 := hw.const; go_simp)) hS0.out ?_
    simp only [Act.put, List.setIfInBounds_toArray, List.set_cons_zero, List.set_cons_succ]
    refine wpAnyU_take (i := 7) (oi := { dst := some 17, op := _, type := _, pos := _, after := _, guard := none }) (v := .int .i64 (a2 : Int)) rfl (by kernel_rfl) (by kernel_rfl) (by kernel_rfl) (by kernel_rfl) (fun _ _ _ h => h) (yields_take rfl (fun w' hw => by have h1 := hw.const; go_simp)) hS0.out ?_
    simp only [Act.put, List.setIfInBounds_toArray, List.set_cons_zero, List.set_cons_succ]
    refine wpAnyU_take (i := 8) (oi := { dst := some 18, op := _, type := _, pos := _, after := _, guard := none }) (v := .slice (some ⟨b, o + a2, none⟩) r rc) rfl (by kernel_rfl) (by kernel_rfl) (by kernel_rfl) (by kernel_rfl) (fun _ _ _ h => h) (yields_take rfl (fun w' hw => by have h1 := hw.const; go_simp)) hS0.out ?_
    simp only [Act.put, List.setIfInBounds_toArray, List.set_cons_zero, List.set_cons_succ]
    generalize hU0 : W0.drew = U0
    have he : Below W0.heap.size W0 U0 := by rw [← hU0]; exact hd0
    rw [hU0] at hS0
    clear hU0
    refine wpAnyU_one (i := 9) (by kernel_rfl) rfl ?_
    intro K hK
    go_simp
    have hd1 : Below W0.heap.size W0 (U0.alloc (.cells #[.slice (some ⟨b, o, none⟩) a c, .slice (some ⟨b, o + a2, none⟩) r rc] 31)) := below_al6 he
    have hS1 : Hid ((U0.alloc (.cells #[.slice (some ⟨b, o, none⟩) a c, .slice (some ⟨b, o + a2, none⟩) r rc] 31)).cell? ⟨w.heap.size, 0, none⟩ = some (.slice (some ⟨b, o, none⟩) n c)) := hide (HC.out _ hd1)
    refine hK.out _ _ hS1.out (fun _ => ?_)
    clear hK K hS0
    refine wpAnyU_one (i := 10) (by kernel_rfl) rfl ?_
    intro K hK
    go_simp
    refine Calls.mono (concat_two U0.heap.size (some ⟨b, o, none⟩) (some ⟨b, o + a2, none⟩) a c r rc (s.take a) (s.drop a2) _ (heap_alloc_new U0 _) (HT.out _ hd1) (HD.out _ hd1) (fun e => by cases e) HNN.out hra.2 (by omega)) ?_
    rintro e w2 ⟨g, c9, rfl, ho, hb⟩
    dsimp only
    have hd2 : Below W0.heap.size W0 w2 := below_nx6 hd1 hb
    have hS2 : Hid (w2.cell? ⟨w.heap.size, 0, none⟩ = some (.slice (some ⟨b, o, none⟩) n c)) := hide (HC.out _ hd2)
    refine hK.out _ _ hS2.out (fun _ => ?_)
    clear hK K hS1
    refine wpAnyU_take (i := 11) (oi := { dst := some 4, op := _, type := _, pos := _, after := _, guard := none }) (v := .slice (some ⟨g, 0, none⟩) (a + r) c9) rfl (by kernel_rfl) (by kernel_rfl) (by kernel_rfl) (by kernel_rfl) (fun _ _ _ h => h) (yields_take rfl (fun w' hw => by have h1 := hw.const; go_simp)) hS2.out ?_
    simp only [Act.put, List.setIfInBounds_toArray, List.set_cons_zero, List.set_cons_succ]
    refine wpAnyU_done (by kernel_rfl) ?_ _
    clear hS2
    have HO := hide (own_base (base' := w.heap.size) ho (by have := hd1.size; have := HB0.out.size; omega))
    have HBE := hide (HB0.out.trans (hd2.mono HB0.out.size))
    clear hd0 hd1 hd2 ho hb
    go_wp2
    go_ret
    refine ⟨g, a + r, c9, rfl, ?_, by rw [HW.out, ← HA2.out]; exact HO.out, HBE.out⟩
    rw [HW.out, ← HA2.out, List.length_append, List.length_take, List.length_drop, HLEN.out]
    omega

end Go.Proofs.YtomhbhhfbbdilaaGreatDoor
