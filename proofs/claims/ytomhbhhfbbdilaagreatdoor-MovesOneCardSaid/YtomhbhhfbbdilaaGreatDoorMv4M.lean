/- Contracts of sumOrigin and of its closure: where a number that is summed comes from. -/
import Derived.Test.YtomhbhhfbbdilaaGreatDoorMv3M
namespace Go.Proofs.YtomhbhhfbbdilaaGreatDoor
open Go.RowKit
set_option linter.unusedVariables false
set_option linter.unusedSimpArgs false
set_option maxRecDepth 100000

set_option maxHeartbeats 2000000 in
theorem sumOrigin_ok (A B : Option Addr) (n c k e : Nat) (t : List Int) (a st : Nat) (w : World) (hB : Lies w B k (t.map (Value.int .i64))) (hak : a < k) (hst : t.getD a 0 = (st : Int)) :
    Calls Tryz.prog 116 #[.agg #[.slice A n c, .slice B k e], .int .i64 (a : Int)] w fun e' w' => e' = .returned (.func (.func 194) #[] #[.pointer (some ⟨w.heap.size, 0, none⟩), .pointer (some ⟨w.heap.size + 1, 0, none⟩), .pointer (some ⟨w.heap.size + 2, 0, none⟩)]) ∧
      w' = ((w.alloc (.cells #[.slice A n c, .slice B k e] 111)).alloc (.cells #[.int .i64 (a : Int)] 3)).alloc (.cells #[.int .i64 (st : Int)] 3) := by
  obtain ⟨W1, hW1⟩ : ∃ W, W = w.alloc (.cells #[.slice A n c, .slice B k e] 111) := ⟨_, rfl⟩
  obtain ⟨W2, hW2⟩ : ∃ W, W = W1.alloc (.cells #[.int .i64 (a : Int)] 3) := ⟨_, rfl⟩
  obtain ⟨W3, hW3⟩ : ∃ W, W = W2.alloc (.cells #[.int .i64 (st : Int)] 3) := ⟨_, rfl⟩
  have HE : Hid (W3 = ((w.alloc (.cells #[.slice A n c, .slice B k e] 111)).alloc (.cells #[.int .i64 (a : Int)] 3)).alloc (.cells #[.int .i64 (st : Int)] 3)) := hide (by rw [hW3, hW2, hW1])
  have hs1 : W1.heap.size = w.heap.size + 1 := by rw [hW1]; simp
  have hs2 : W2.heap.size = w.heap.size + 2 := by rw [hW2]; simp; omega
  have HX : BoxL W2 w.heap.size (.slice A n c) (.slice B k e) := by rw [hW2, hW1]; exact (BoxL.new w _ _).alloc _
  have x0 := HX.c0
  have x1 := HX.c1
  have y0 : W2.cell? ⟨w.heap.size + 1, 0, none⟩ = some (.int .i64 (a : Int)) := by rw [hW2, ← hs1]; exact cell_of_row _ _ 0 _ _ (0, 0) (heap_alloc_new W1 _)
  have hB2 : Lies W2 B k (t.map (Value.int .i64)) := by rw [hW2, hW1]; exact (hB.alloc _).alloc _
  obtain ⟨bB, oB, rfl, _, xB⟩ := byte_at hB2 (by omega)
  have yB := xB a hak
  rw [hst] at yB
  have h0 : (0 : Int) ≤ (a : Int) := by omega
  have h2 : (a : Int) < (k : Int) := by omega
  have hW1' := hW1.symm
  have hW2' := hW2.symm
  have hW3' := hW3.symm
  clear xB hB hB2 hst hW1 hW2 hW3 HX
  go_enter Tryz.func116, Tryz.ntmps116
  go_wp2
  go_ret
  exact ⟨rfl, HE.out⟩

set_option maxHeartbeats 2000000 in
theorem sumOrig_ok (p q r : Nat) (A B : Option Addr) (n c k e : Nat) (s t : List Int) (a KK st i nth : Nat) (w : World) (hX : BoxL w p (.slice A n c) (.slice B k e)) (hq : w.heap[q]? = some (.cells #[.int .i64 (a : Int)] 3 (0, 0))) (hr : w.heap[r]? = some (.cells #[.int .i64 (st : Int)] 3 (0, 0)))
    (hA : Lies w A n (s.map (Value.int .i64))) (hB : Lies w B k (t.map (Value.int .i64))) (ha : a < n) (hak : a < k) (hK : s.getD a 0 = (KK : Int)) (hst : t.getD a 0 = (st : Int)) (hst1 : 1 ≤ st) (hi : i ≤ 1000000) (hlim : (i / st * KK + nth) * st + i % st ≤ 1000000) :
    Calls Tryz.prog 194 #[.int .i64 (i : Int), .int .i64 (nth : Int), .pointer (some ⟨p, 0, none⟩), .pointer (some ⟨q, 0, none⟩), .pointer (some ⟨r, 0, none⟩)] w fun e' w' => e' = .returned (.int .i64 (((i / st * KK + nth) * st + i % st : Nat) : Int)) ∧ Below w.heap.size w w' := by
  have HC : Hid (∀ v, Below w.heap.size w v → v.cell? ⟨p, 0, none⟩ = some (.slice A n c) ∧ v.cell? ⟨p, 1, none⟩ = some (.slice B k e) ∧ v.cell? ⟨q, 0, none⟩ = some (.int .i64 (a : Int)) ∧ v.cell? ⟨r, 0, none⟩ = some (.int .i64 (st : Int))) := hide (fun v hv => ⟨(hX.kept hv).c0, (hX.kept hv).c1, cell_of_row _ _ 0 _ _ (0, 0) ((hv.block _ (lt_of_heap hq)).trans hq), cell_of_row _ _ 0 _ _ (0, 0) ((hv.block _ (lt_of_heap hr)).trans hr)⟩)
  have HA := hide hA
  have HB := hide hB
  obtain ⟨u1, hu1⟩ : ∃ z, z = i / st := ⟨_, rfl⟩
  obtain ⟨u2, hu2⟩ : ∃ z, z = i % st := ⟨_, rfl⟩
  rw [← hu1, ← hu2] at hlim ⊢
  have l1 : u1 ≤ i := by rw [hu1]; exact Nat.div_le_self _ _
  have l2 : u2 ≤ i := by rw [hu2]; exact Nat.mod_le _ _
  have m1 : (i : Int).tdiv (st : Int) = (u1 : Int) := by rw [hu1]; rfl
  have m2 : (i : Int).tmod (st : Int) = (u2 : Int) := by rw [hu2]; rfl
  have q1 : IntKind.i64.wrap (u1 : Int) = (u1 : Int) := by rw [IntKind.wrap_i64]; omega
  have q2 : IntKind.i64.wrap (u2 : Int) = (u2 : Int) := by rw [IntKind.wrap_i64]; omega
  have n1 : ¬ (st : Int) = 0 := by omega
  have n1' : ¬ st = 0 := by omega
  have hd0 : Below w.heap.size w w.drew := below_drewN (Below.refl _ _) 1
  obtain ⟨rs, hrs⟩ : ∃ z, z = (u1 * KK + nth) * st + u2 := ⟨_, rfl⟩
  have HCL : Hid (∀ v, Below w.heap.size w v → Calls Tryz.prog 195 #[.agg #[.slice A n c, .slice B k e], .int .i64 (a : Int), .int .i64 (u1 : Int), .int .i64 (nth : Int), .int .i64 (u2 : Int)] v fun e' w' => e' = .returned (.int .i64 (rs : Int)) ∧ Below v.heap.size v w') := hide (fun v hv => by
    rw [hrs]
    exact lindex_ok A B n c k e s t a KK st u1 nth u2 v (HA.out.below hv) (HB.out.below hv) ha hak hK hst hlim hst1)
  rw [← hrs]
  clear hX hq hr hA hB hu1 hu2 hrs
  go_enter Tryz.func194, Tryz.ntmps194
  go_wp2
  have hS0 : Hid (w.drew.cell? ⟨p, 0, none⟩ = some (.slice A n c) ∧ w.drew.cell? ⟨p, 1, none⟩ = some (.slice B k e) ∧ w.drew.cell? ⟨q, 0, none⟩ = some (.int .i64 (a : Int)) ∧ w.drew.cell? ⟨r, 0, none⟩ = some (.int .i64 (st : Int))) := hide (HC.out _ hd0)
  refine wp_region_U (fun _ v => v.cell? ⟨p, 0, none⟩ = some (.slice A n c) ∧ v.cell? ⟨p, 1, none⟩ = some (.slice B k e) ∧ v.cell? ⟨q, 0, none⟩ = some (.int .i64 (a : Int)) ∧ v.cell? ⟨r, 0, none⟩ = some (.int .i64 (st : Int))) 99 (by kernel_rfl) ?_
  refine wpAnyU_take (i := 0) (oi := { dst := some 8, op := _, type := _, pos := _, after := _, guard := none }) (v := .agg #[.slice A n c, .slice B k e]) rfl (by kernel_rfl) (by kernel_rfl) (by kernel_rfl) (by kernel_rfl) (fun _ _ _ h => h) (yields_take rfl (fun w' hw => by obtain ⟨h1, h2, h3, h4⟩ := hw.const; go_simp)) hS0.out ?_
  simp only [Act.put, List.setIfInBounds_toArray, List.set_cons_zero, List.set_cons_succ]
  refine wpAnyU_take (i := 1) (oi := { dst := some 9, op := _, type := _, pos := _, after := _, guard := none }) (v := .int .i64 (a : Int)) rfl (by kernel_rfl) (by kernel_rfl) (by kernel_rfl) (by kernel_rfl) (fun _ _ _ h => h) (yields_take rfl (fun w' hw => by obtain ⟨h1, h2, h3, h4⟩ := hw.const; go_simp)) hS0.out ?_
  simp only [Act.put, List.setIfInBounds_toArray, List.set_cons_zero, List.set_cons_succ]
  refine wpAnyU_take (i := 2) (oi := { dst := some 10, op := _, type := _, pos := _, after := _, guard := none }) (v := .int .i64 (i : Int)) rfl (by kernel_rfl) (by kernel_rfl) (by kernel_rfl) (by kernel_rfl) (fun _ _ _ h => h) (yields_take rfl (fun w' hw => by obtain ⟨h1, h2, h3, h4⟩ := hw.const; go_simp)) hS0.out ?_
  simp only [Act.put, List.setIfInBounds_toArray, List.set_cons_zero, List.set_cons_succ]
  refine wpAnyU_take (i := 3) (oi := { dst := some 11, op := _, type := _, pos := _, after := _, guard := none }) (v := .int .i64 (st : Int)) rfl (by kernel_rfl) (by kernel_rfl) (by kernel_rfl) (by kernel_rfl) (fun _ _ _ h => h) (yields_take rfl (fun w' hw => by obtain ⟨h1, h2, h3, h4⟩ := hw.const; go_simp)) hS0.out ?_
  simp only [Act.put, List.setIfInBounds_toArray, List.set_cons_zero, List.set_cons_succ]
  refine wpAnyU_take (i := 4) (oi := { dst := some 12, op := _, type := _, pos := _, after := _, guard := none }) (v := .int .i64 (u1 : Int)) rfl (by kernel_rfl) (by kernel_rfl) (by kernel_rfl) (by kernel_rfl) (fun _ _ _ h => h) (yields_take rfl (fun w' hw => by obtain ⟨h1, h2, h3, h4⟩ := hw.const; go_simp)) hS0.out ?_
  simp only [Act.put, List.setIfInBounds_toArray, List.set_cons_zero, List.set_cons_succ]
  refine wpAnyU_take (i := 5) (oi := { dst := some 13, op := _, type := _, pos := _, after := _, guard := none }) (v := .int .i64 (nth : Int)) rfl (by kernel_rfl) (by kernel_rfl) (by kernel_rfl) (by kernel_rfl) (fun _ _ _ h => h) (yields_take rfl (fun w' hw => by obtain ⟨h1, h2, h3, h4⟩ := hw.const; go_simp)) hS0.out ?_
  simp only [Act.put, List.setIfInBounds_toArray, List.set_cons_zero, List.set_cons_succ]
  refine wpAnyU_take (i := 6) (oi := { dst := some 14, op := _, type := _, pos := _, after := _, guard := none }) (v := .int .i64 (i : Int)) rfl (by kernel_rfl) (by kernel_rfl) (by kernel_rfl) (by kernel_rfl) (fun _ _ _ h => h) (yields_take rfl (fun w' hw => by obtain ⟨h1, h2, h3, h4⟩ := hw.const; go_simp)) hS0.out ?_
  simp only [Act.put, List.setIfInBounds_toArray, List.set_cons_zero, List.set_cons_succ]
  refine wpAnyU_take (i := 7) (oi := { dst := some 15, op := _, type := _, pos := _, after := _, guard := none }) (v := .int .i64 (st : Int)) rfl (by kernel_rfl) (by kernel_rfl) (by kernel_rfl) (by kernel_rfl) (fun _ _ _ h => h) (yields_take rfl (fun w' hw => by obtain ⟨h1, h2, h3, h4⟩ := hw.const; go_simp)) hS0.out ?_
  simp only [Act.put, List.setIfInBounds_toArray, List.set_cons_zero, List.set_cons_succ]
  refine wpAnyU_take (i := 8) (oi := { dst := some 16, op := _, type := _, pos := _, after := _, guard := none }) (v := .int .i64 (u2 : Int)) rfl (by kernel_rfl) (by kernel_rfl) (by kernel_rfl) (by kernel_rfl) (fun _ _ _ h => h) (yields_take rfl (fun w' hw => by obtain ⟨h1, h2, h3, h4⟩ := hw.const; go_simp)) hS0.out ?_
  simp only [Act.put, List.setIfInBounds_toArray, List.set_cons_zero, List.set_cons_succ]
  refine wpAnyU_one (i := 9) (by kernel_rfl) rfl ?_
  intro K hK
  go_simp
  refine Calls.mono (HCL.out _ hd0) ?_
  rintro e w1 ⟨rfl, hb⟩
  dsimp only
  have hd1 : Below w.heap.size w w1 := below_nx6 hd0 hb
  clear hb
  have hS1 : Hid (w1.cell? ⟨p, 0, none⟩ = some (.slice A n c) ∧ w1.cell? ⟨p, 1, none⟩ = some (.slice B k e) ∧ w1.cell? ⟨q, 0, none⟩ = some (.int .i64 (a : Int)) ∧ w1.cell? ⟨r, 0, none⟩ = some (.int .i64 (st : Int))) := hide (HC.out _ hd1)
  refine hK.out _ _ hS1.out (fun _ => ?_)
  clear hK K hS0
  refine wpAnyU_take (i := 10) (oi := { dst := some 7, op := _, type := _, pos := _, after := _, guard := none }) (v := .int .i64 (rs : Int)) rfl (by kernel_rfl) (by kernel_rfl) (by kernel_rfl) (by kernel_rfl) (fun _ _ _ h => h) (yields_take rfl (fun w' hw => by obtain ⟨h1, h2, h3, h4⟩ := hw.const; go_simp)) hS1.out ?_
  simp only [Act.put, List.setIfInBounds_toArray, List.set_cons_zero, List.set_cons_succ]
  refine wpAnyU_done (by kernel_rfl) ?_ _
  clear hS1
  go_wp2
  go_ret
  exact ⟨rfl, hd1⟩

end Go.Proofs.YtomhbhhfbbdilaaGreatDoor
