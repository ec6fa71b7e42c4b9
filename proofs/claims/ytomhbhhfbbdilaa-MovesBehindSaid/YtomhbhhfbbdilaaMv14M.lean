/- Contract of areAlike: fits each shape to the first one, but along one direction? -/
import Derived.Test.YtomhbhhfbbdilaaMv13M
namespace Go.Proofs.Ytomhbhhfbbdilaa
open Go.RowKit
set_option linter.unusedVariables false
set_option linter.unusedSimpArgs false
set_option maxRecDepth 100000

def alikes9 (ts : List Tn) (s0 : List Int) (a : Nat) : Bool := ts.all (fun t => alike9 t.s s0 a)

set_option maxHeartbeats 4000000 in
theorem areAlike_any (g q a : Nat) (ts : List Tn) (t0 : Tn) (w : World) (hl : ts.length = q) (hq : 1 ≤ q ∧ q ≤ 4) (ht0 : ts[0]? = some t0) (hS : LsAt w g ts q) (hT : ∀ (j : Nat) (t : Tn), ts[j]? = some t → t.Ok w) :
    Calls Try.prog 55 #[.slice (some ⟨g, 0, none⟩) q q, .int .i64 (a : Int)] w fun e w' => e = .returned (.bool (alikes9 ts t0.s a)) ∧ Below w.heap.size w w' := by
  have HL := hide hl
  have HT := hide hT
  have HS := hide hS
  have HT0 := hide ht0
  have HQ := hide hq
  have hgl := hS.lt
  clear hl hT hS ht0
  go_enter Try.func55, Try.ntmps55
  go_wp2
  go_loopw [9] (fun i wr => ∃ k : Nat, k ≤ q ∧ i = .int .i64 (k : Int) ∧ Hid (∀ j t, j < k → ts[j]? = some t → alike9 t.s t0.s a = true) ∧ Hid (Below w.heap.size w wr)) (fun i _ => q - (intOf i).toNat)
  case atStart => exact ⟨0, Nat.zero_le _, rfl, hide (fun j t hj => absurd hj (Nat.not_lt_zero _)), hide (Below.refl _ _)⟩
  case round =>
    obtain ⟨k, hk, rfl, HN, HB⟩ := hrel
    by_cases hlt : k < q
    · have hlt' : k < ts.length := by rw [HL.out]; exact hlt
      obtain ⟨t, ht⟩ : ∃ t, ts[k]? = some t := ⟨ts[k], List.getElem?_eq_getElem hlt'⟩
      have HS1 := hide (HS.out.below HB.out)
      obtain ⟨gs, y0, y1, _⟩ := HS1.out.cells hlt ht
      obtain ⟨gs0, b0, b1, _⟩ := HS1.out.cells (j := 0) (by omega) HT0.out
      rw [Nat.zero_mul] at b0
      have h0 : (0 : Int) ≤ (k : Int) := by omega
      have h1 : (k : Int) < (q : Int) := by omega
      have h2 : (0 : Int) < (q : Int) := by omega
      have hq0 : ¬ q = 0 := by omega
      obtain ⟨V, hV⟩ : ∃ W, W = wr.alloc (.cells #[.slice t.A t.n t.c, .slice (some ⟨gs, 0, none⟩) t.n t.n] 87) := ⟨_, rfl⟩
      have hbV : Below wr.heap.size wr V := by rw [hV]; exact below_al6 (Below.refl _ _)
      have HBV : Hid (Below w.heap.size w V) := hide (HB.out.trans (hbV.mono HB.out.size))
      have HXV : Hid (BoxL V wr.heap.size (.slice t.A t.n t.c) (.slice (some ⟨gs, 0, none⟩) t.n t.n)) := hide (by rw [hV]; exact BoxL.new wr _ _)
      have HF : Hid (∀ v, Below V.heap.size V v → v.cell? ⟨wr.heap.size, 0, none⟩ = some (.slice t.A t.n t.c) ∧ v.cell? ⟨g, 0, none⟩ = some (.slice t0.A t0.n t0.c)) := hide (fun v hv => by
        obtain ⟨gz, c0, _, _⟩ := (HS.out.below (HBV.out.trans (hv.mono HBV.out.size))).cells (j := 0) (by omega) HT0.out
        rw [Nat.zero_mul] at c0
        exact ⟨(HXV.out.kept hv).c0, c0⟩)
      have HTT := hide ht
      obtain ⟨r, hr⟩ : ∃ z, z = alike9 t.s t0.s a := ⟨_, rfl⟩
      have HR := hide hr
      have HCL : Hid (∀ v, Below V.heap.size V v → Calls Try.prog 91 #[.agg #[.slice t.A t.n t.c], .agg #[.slice t0.A t0.n t0.c], .int .i64 (a : Int)] v fun e' w' => e' = .returned (.bool r) ∧ Below v.heap.size v w') := hide (fun v hv => by
        have hw := HBV.out.trans (hv.mono HBV.out.size)
        have k1 := HT.out k t HTT.out
        have k2 := HT.out 0 t0 HT0.out
        rw [hr]
        exact isAlike_any t.A t0.A t.n t.c t0.n t0.c a t.s t0.s v (k1.1.below hw) (k2.1.below hw) (by have := k1.2.2.2.2.1; omega) (by have := k2.2.2.2.2.1; omega))
      have hV' := hV.symm
      have hd0 : Below V.heap.size V V.drew := below_drewN (Below.refl _ _) 1
      clear hV hbV ht hr hlt'
      go_wp2
      clear y0 y1 b0 b1
      cases r with
      | true =>
        have hS0 : Hid (V.drew.cell? ⟨wr.heap.size, 0, none⟩ = some (.slice t.A t.n t.c) ∧ V.drew.cell? ⟨g, 0, none⟩ = some (.slice t0.A t0.n t0.c)) := hide (HF.out _ hd0)
        refine wp_region_U (fun _ v => v.cell? ⟨wr.heap.size, 0, none⟩ = some (.slice t.A t.n t.c) ∧ v.cell? ⟨g, 0, none⟩ = some (.slice t0.A t0.n t0.c)) 99 (by kernel_rfl) ?_
        refine wpAnyU_take (i := 0) (oi := { dst := some 13, op := _, type := _, pos := _, after := _, guard := none }) (v := .pointer (some ⟨wr.heap.size, 0, none⟩)) rfl (by kernel_rfl) (by kernel_rfl) (by kernel_rfl) (by kernel_rfl) (fun _ _ _ h => h) (yields_take rfl (fun w' hw => by obtain ⟨h1, h2⟩ := hw.const; go_simp)) hS0.out ?_
        simp only [Act.put, List.setIfInBounds_toArray, List.set_cons_zero, List.set_cons_succ]
        refine wpAnyU_take (i := 1) (oi := { dst := some 14, op := _, type := _, pos := _, after := _, guard := none }) (v := .agg #[.slice t.A t.n t.c]) rfl (by kernel_rfl) (by kernel_rfl) (by kernel_rfl) (by kernel_rfl) (fun _ _ _ h => h) (yields_take rfl (fun w' hw => by obtain ⟨h1, h2⟩ := hw.const; go_simp)) hS0.out ?_
        simp only [Act.put, List.setIfInBounds_toArray, List.set_cons_zero, List.set_cons_succ]
        refine wpAnyU_take (i := 2) (oi := { dst := some 15, op := _, type := _, pos := _, after := _, guard := none }) (v := .slice (some ⟨g, 0, none⟩) q q) rfl (by kernel_rfl) (by kernel_rfl) (by kernel_rfl) (by kernel_rfl) (fun _ _ _ h => h) (yields_take rfl (fun w' hw => by obtain ⟨h1, h2⟩ := hw.const; go_simp)) hS0.out ?_
        simp only [Act.put, List.setIfInBounds_toArray, List.set_cons_zero, List.set_cons_succ]
        refine wpAnyU_take (i := 3) (oi := { dst := some 16, op := _, type := _, pos := _, after := _, guard := none }) (v := .pointer (some ⟨g, 0, none⟩)) rfl (by kernel_rfl) (by kernel_rfl) (by kernel_rfl) (by kernel_rfl) (fun _ _ _ h => h) (yields_take rfl (fun w' hw => by obtain ⟨h1, h2⟩ := hw.const; go_simp)) hS0.out ?_
        simp only [Act.put, List.setIfInBounds_toArray, List.set_cons_zero, List.set_cons_succ]
        refine wpAnyU_take (i := 4) (oi := { dst := some 17, op := _, type := _, pos := _, after := _, guard := none }) (v := .pointer (some ⟨g, 0, none⟩)) rfl (by kernel_rfl) (by kernel_rfl) (by kernel_rfl) (by kernel_rfl) (fun _ _ _ h => h) (yields_take rfl (fun w' hw => by obtain ⟨h1, h2⟩ := hw.const; go_simp)) hS0.out ?_
        simp only [Act.put, List.setIfInBounds_toArray, List.set_cons_zero, List.set_cons_succ]
        refine wpAnyU_take (i := 5) (oi := { dst := some 18, op := _, type := _, pos := _, after := _, guard := none }) (v := .agg #[.slice t0.A t0.n t0.c]) rfl (by kernel_rfl) (by kernel_rfl) (by kernel_rfl) (by kernel_rfl) (fun _ _ _ h => h) (yields_take rfl (fun w' hw => by obtain ⟨h1, h2⟩ := hw.const; go_simp)) hS0.out ?_
        simp only [Act.put, List.setIfInBounds_toArray, List.set_cons_zero, List.set_cons_succ]
        refine wpAnyU_take (i := 6) (oi := { dst := some 19, op := _, type := _, pos := _, after := _, guard := none }) (v := .int .i64 (a : Int)) rfl (by kernel_rfl) (by kernel_rfl) (by kernel_rfl) (by kernel_rfl) (fun _ _ _ h => h) (yields_take rfl (fun w' hw => by obtain ⟨h1, h2⟩ := hw.const; go_simp)) hS0.out ?_
        simp only [Act.put, List.setIfInBounds_toArray, List.set_cons_zero, List.set_cons_succ]
        refine wpAnyU_one (i := 7) (by kernel_rfl) rfl ?_
        intro K hK
        go_simp
        refine Calls.mono (HCL.out _ hd0) ?_
        rintro e w9 ⟨rfl, hb⟩
        dsimp only
        have hd1 : Below V.heap.size V w9 := below_nx6 hd0 hb
        clear hb
        have hS1 : Hid (w9.cell? ⟨wr.heap.size, 0, none⟩ = some (.slice t.A t.n t.c) ∧ w9.cell? ⟨g, 0, none⟩ = some (.slice t0.A t0.n t0.c)) := hide (HF.out _ hd1)
        refine hK.out _ _ hS1.out (fun _ => ?_)
        clear hK K hS0
        refine wpAnyU_take (i := 8) (oi := { dst := some 21, op := _, type := _, pos := _, after := _, guard := none }) (v := .bool false) rfl (by kernel_rfl) (by kernel_rfl) (by kernel_rfl) (by kernel_rfl) (fun _ _ _ h => h) (yields_take rfl (fun w' hw => by obtain ⟨h1, h2⟩ := hw.const; go_simp)) hS1.out ?_
        simp only [Act.put, List.setIfInBounds_toArray, List.set_cons_zero, List.set_cons_succ]
        refine wpAnyU_done (by kernel_rfl) ?_ _
        clear hS1
        have HB2 := hide (HBV.out.trans (hd1.mono HBV.out.size))
        clear hd0 hd1
        have HN2 : Hid (∀ j t, j < k + 1 → ts[j]? = some t → alike9 t.s t0.s a = true) := hide (fun j t' hj ht' => by
          by_cases e : j = k
          · subst e
            rw [HTT.out] at ht'
            cases ht'
            exact HR.out.symm
          · exact HN.out j t' (by omega) ht')
        go_wp2
        go_roundw
        case rel => exact ⟨k + 1, by omega, by go_num, HN2, HB2⟩
        case measure => simp [intOf]; omega
      | false =>
        have hS0 : Hid (V.drew.cell? ⟨wr.heap.size, 0, none⟩ = some (.slice t.A t.n t.c) ∧ V.drew.cell? ⟨g, 0, none⟩ = some (.slice t0.A t0.n t0.c)) := hide (HF.out _ hd0)
        refine wp_region_U (fun _ v => v.cell? ⟨wr.heap.size, 0, none⟩ = some (.slice t.A t.n t.c) ∧ v.cell? ⟨g, 0, none⟩ = some (.slice t0.A t0.n t0.c)) 99 (by kernel_rfl) ?_
        refine wpAnyU_take (i := 0) (oi := { dst := some 13, op := _, type := _, pos := _, after := _, guard := none }) (v := .pointer (some ⟨wr.heap.size, 0, none⟩)) rfl (by kernel_rfl) (by kernel_rfl) (by kernel_rfl) (by kernel_rfl) (fun _ _ _ h => h) (yields_take rfl (fun w' hw => by obtain ⟨h1, h2⟩ := hw.const; go_simp)) hS0.out ?_
        simp only [Act.put, List.setIfInBounds_toArray, List.set_cons_zero, List.set_cons_succ]
        refine wpAnyU_take (i := 1) (oi := { dst := some 14, op := _, type := _, pos := _, after := _, guard := none }) (v := .agg #[.slice t.A t.n t.c]) rfl (by kernel_rfl) (by kernel_rfl) (by kernel_rfl) (by kernel_rfl) (fun _ _ _ h => h) (yields_take rfl (fun w' hw => by obtain ⟨h1, h2⟩ := hw.const; go_simp)) hS0.out ?_
        simp only [Act.put, List.setIfInBounds_toArray, List.set_cons_zero, List.set_cons_succ]
        refine wpAnyU_take (i := 2) (oi := { dst := some 15, op := _, type := _, pos := _, after := _, guard := none }) (v := .slice (some ⟨g, 0, none⟩) q q) rfl (by kernel_rfl) (by kernel_rfl) (by kernel_rfl) (by kernel_rfl) (fun _ _ _ h => h) (yields_take rfl (fun w' hw => by obtain ⟨h1, h2⟩ := hw.const; go_simp)) hS0.out ?_
        simp only [Act.put, List.setIfInBounds_toArray, List.set_cons_zero, List.set_cons_succ]
        refine wpAnyU_take (i := 3) (oi := { dst := some 16, op := _, type := _, pos := _, after := _, guard := none }) (v := .pointer (some ⟨g, 0, none⟩)) rfl (by kernel_rfl) (by kernel_rfl) (by kernel_rfl) (by kernel_rfl) (fun _ _ _ h => h) (yields_take rfl (fun w' hw => by obtain ⟨h1, h2⟩ := hw.const; go_simp)) hS0.out ?_
        simp only [Act.put, List.setIfInBounds_toArray, List.set_cons_zero, List.set_cons_succ]
        refine wpAnyU_take (i := 4) (oi := { dst := some 17, op := _, type := _, pos := _, after := _, guard := none }) (v := .pointer (some ⟨g, 0, none⟩)) rfl (by kernel_rfl) (by kernel_rfl) (by kernel_rfl) (by kernel_rfl) (fun _ _ _ h => h) (yields_take rfl (fun w' hw => by obtain ⟨h1, h2⟩ := hw.const; go_simp)) hS0.out ?_
        simp only [Act.put, List.setIfInBounds_toArray, List.set_cons_zero, List.set_cons_succ]
        refine wpAnyU_take (i := 5) (oi := { dst := some 18, op := _, type := _, pos := _, after := _, guard := none }) (v := .agg #[.slice t0.A t0.n t0.c]) rfl (by kernel_rfl) (by kernel_rfl) (by kernel_rfl) (by kernel_rfl) (fun _ _ _ h => h) (yields_take rfl (fun w' hw => by obtain ⟨h1, h2⟩ := hw.const; go_simp)) hS0.out ?_
        simp only [Act.put, List.setIfInBounds_toArray, List.set_cons_zero, List.set_cons_succ]
        refine wpAnyU_take (i := 6) (oi := { dst := some 19, op := _, type := _, pos := _, after := _, guard := none }) (v := .int .i64 (a : Int)) rfl (by kernel_rfl) (by kernel_rfl) (by kernel_rfl) (by kernel_rfl) (fun _ _ _ h => h) (yields_take rfl (fun w' hw => by obtain ⟨h1, h2⟩ := hw.const; go_simp)) hS0.out ?_
        simp only [Act.put, List.setIfInBounds_toArray, List.set_cons_zero, List.set_cons_succ]
        refine wpAnyU_one (i := 7) (by kernel_rfl) rfl ?_
        intro K hK
        go_simp
        refine Calls.mono (HCL.out _ hd0) ?_
        rintro e w9 ⟨rfl, hb⟩
        dsimp only
        have hd1 : Below V.heap.size V w9 := below_nx6 hd0 hb
        clear hb
        have hS1 : Hid (w9.cell? ⟨wr.heap.size, 0, none⟩ = some (.slice t.A t.n t.c) ∧ w9.cell? ⟨g, 0, none⟩ = some (.slice t0.A t0.n t0.c)) := hide (HF.out _ hd1)
        refine hK.out _ _ hS1.out (fun _ => ?_)
        clear hK K hS0
        refine wpAnyU_take (i := 8) (oi := { dst := some 21, op := _, type := _, pos := _, after := _, guard := none }) (v := .bool true) rfl (by kernel_rfl) (by kernel_rfl) (by kernel_rfl) (by kernel_rfl) (fun _ _ _ h => h) (yields_take rfl (fun w' hw => by obtain ⟨h1, h2⟩ := hw.const; go_simp)) hS1.out ?_
        simp only [Act.put, List.setIfInBounds_toArray, List.set_cons_zero, List.set_cons_succ]
        refine wpAnyU_done (by kernel_rfl) ?_ _
        clear hS1
        have HB2 := hide (HBV.out.trans (hd1.mono HBV.out.size))
        clear hd0 hd1
        have HF2 : Hid (alikes9 ts t0.s a = false) := hide (by
          cases h : alikes9 ts t0.s a
          · rfl
          · have := List.all_eq_true.1 h t (List.mem_of_getElem? HTT.out)
            rw [← HR.out] at this
            exact absurd this (by decide))
        go_wp2
        go_ret
        exact ⟨by rw [HF2.out]; rfl, HB2.out⟩
    · obtain rfl : q = k := by omega
      have h5 : ¬ ((q : Int) < (q : Int)) := by omega
      have HT2 : Hid (alikes9 ts t0.s a = true) := hide (List.all_eq_true.2 (fun t ht => by
        obtain ⟨j, hj, e⟩ := List.mem_iff_getElem.1 ht
        exact HN.out j t (by rw [← HL.out]; exact hj) (by rw [List.getElem?_eq_getElem hj, e])))
      go_wp2
      go_ret
      exact ⟨by rw [HT2.out]; rfl, HB.out⟩

end Go.Proofs.Ytomhbhhfbbdilaa
