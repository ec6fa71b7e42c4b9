/- Contracts of the helpers of the statements on products: of, refused, same, alive. -/
import Derived.Test.YtlalfjlcgabnnaaPr3
import Derived.Test.YtlalfjlcgabnnaaSameG
namespace Go.Proofs.Ytlalfjlcgabnnaa
open Go.RowKit
set_option linter.unusedVariables false
set_option linter.unusedSimpArgs false
set_option maxRecDepth 100000

set_option maxHeartbeats 1000000 in
theorem of7_any (x y : Int) (B : Option Addr) (m d : Nat) (w : World) : Calls Try.prog 13 #[.int .i64 x, .int .i64 y, .slice B m d] w fun e w' => ∃ g, e = .returned (tenV (some ⟨g, 0, none⟩) 2 2 B m d) ∧ Lies w' (some ⟨g, 0, none⟩) 2 (([x, y] : List Int).map (Value.int .i64)) ∧ Below w.heap.size w w' := by
  obtain ⟨W0, hW0⟩ : ∃ W0, W0 = (w.alloc (.cells #[.slice none 0 0, .slice none 0 0] 28)).alloc (.cells #[.int .i64 x, .int .i64 y] 3) := ⟨_, rfl⟩
  have HB0 : Hid (Below w.heap.size w W0) := hide (by rw [hW0]; exact ((Below.refl w.heap.size w).alloc (Nat.le_refl _) _).alloc (by simp only [World.size_alloc]; omega) _)
  have HXR : Hid (BoxT W0 w.heap.size (.slice none 0 0) (.slice none 0 0)) := hide (by rw [hW0]; exact (BoxT.new w _ _).alloc _)
  have HLS : Hid (Lies W0 (some ⟨w.heap.size + 1, 0, none⟩) 2 (([x, y] : List Int).map (Value.int .i64))) := hide (by
    rw [hW0]
    have h := lies_lit (w.alloc (.cells #[.slice none 0 0, .slice none 0 0] 28)) .i64 [x, y] 3
    rwa [World.size_alloc] at h)
  have hW0' := hW0.symm
  clear hW0
  have r0 := HXR.out.c0
  have r1 := HXR.out.c1
  have rf0 := HXR.out.f0 0
  have rf1 := HXR.out.f0 1
  go_enter Try.func13, Try.ntmps13
  go_wp2
  (try simp only [Exit.inBlock, Exit.then])
  refine ret_ten1 (p := 6) rfl rfl w.heap.size _ rfl (HXR.out.set2 _ _) rfl ?_
  refine ⟨w.heap.size + 1, rfl, ?_, (HB0.out.setCell (by dsimp only; omega) _).setCell (by dsimp only; omega) _⟩
  exact HLS.out.keep (by simp) (fun b o e hb j => by
    cases e
    exact World.cell?_of_block ((Below.heap_setCell _ _ _ _ (by simp)).trans (Below.heap_setCell _ _ _ _ (by simp))))

set_option maxHeartbeats 1000000 in
theorem refused7_yes (A A' : Option Addr) (n c n' c' : Nat) (s s' : List Int) (E : Int) (w : World) (hA : Lies w A n (s.map (Value.int .i64))) (hA' : Lies w A' n' (s'.map (Value.int .i64))) (hn : n ≤ 281474976710656) (hn' : n' ≤ 281474976710656) (hE : shp7E s s' = E) (hE0 : E ≠ 0) :
    Calls Try.prog 17 #[.slice A n c, .slice A' n' c', .int .i64 E] w fun e w' => e = .returned (.bool true) ∧ Below w.heap.size w w' := by
  have HA := hide hA
  have HA' := hide hA'
  have HS := hide (shp7S_bad (a := s) (b := s') (by rw [hE]; exact hE0))
  have HE := hide hE
  clear hA hA' hE hE0
  go_enter Try.func17, Try.ntmps17
  go_wp2_with fail
  refine Calls.mono (pshape_any A A' n c n' c' s s' _ HA.out HA'.out hn hn') ?_
  rw [HE.out, HS.out]
  rintro e w2 ⟨R, k, kc, rfl, ho, _, hb⟩
  obtain rfl : k = 0 := by have := ho.1; simpa using this.symm
  have HB := hide hb
  clear hb ho
  go_wp2
  go_ret
  exact ⟨by simp [Act.eval], HB.out⟩

set_option maxHeartbeats 1000000 in
theorem same7_yes (A B A' B' : Option Addr) (n c m d n' c' m' d' : Nat) (s l s' l' : List Int) (w : World) (hA : Lies w A n (s.map (Value.int .i64))) (hB : Lies w B m (l.map (Value.int .i32))) (hA' : Lies w A' n' (s'.map (Value.int .i64))) (hB' : Lies w B' m' (l'.map (Value.int .i32))) (hn : n ≤ 281474976710656) (hm : m ≤ 281474976710656) (h1 : s = s') (h2 : l = l') :
    Calls Try.prog 9 #[tenV A n c B m d, tenV A' n' c' B' m' d', .int .i64 0, .int .i64 0] w fun e w' => e = .returned (.bool true) ∧ Below w.heap.size w w' := by
  obtain ⟨W0, hW0⟩ : ∃ W0, W0 = (w.alloc (.cells #[.slice A n c, .slice B m d] 28)).alloc (.cells #[.slice A' n' c', .slice B' m' d'] 28) := ⟨_, rfl⟩
  have HB0 : Hid (Below w.heap.size w W0) := hide (by rw [hW0]; exact ((Below.refl w.heap.size w).alloc (Nat.le_refl _) _).alloc (by simp only [World.size_alloc]; omega) _)
  have HX0 : Hid (BoxT W0 w.heap.size (.slice A n c) (.slice B m d)) := hide (by rw [hW0]; exact (BoxT.new w _ _).alloc _)
  have HX1 : Hid (BoxT W0 (w.heap.size + 1) (.slice A' n' c') (.slice B' m' d')) := hide (by
    rw [hW0]
    have h := BoxT.new (w.alloc (.cells #[.slice A n c, .slice B m d] 28)) (.slice A' n' c') (.slice B' m' d')
    rwa [World.size_alloc] at h)
  have hW0' := hW0.symm
  clear hW0
  have HA := hide (hA.below HB0.out)
  have HB := hide (hB.below HB0.out)
  have HA' := hide (hA'.below HB0.out)
  have HB' := hide (hB'.below HB0.out)
  have HE := hide (And.intro h1 h2)
  clear hA hB hA' hB' h1 h2
  have a0 := HX0.out.c0
  have a1 := HX0.out.c1
  have b0 := HX1.out.c0
  have b1 := HX1.out.c1
  go_enter Try.func9, Try.ntmps9
  go_wp2_with fail
  refine Calls.mono (tsame_any A B A' B' n c m d n' c' m' d' s l s' l' _ HA.out HB.out HA'.out HB'.out hn hm) ?_
  rw [decide_eq_true HE.out]
  rintro e w2 ⟨rfl, hb⟩
  have HBB := hide (HB0.out.trans (hb.mono HB0.out.size))
  clear hb
  go_wp2
  go_ret
  exact ⟨rfl, HBB.out⟩

set_option maxHeartbeats 4000000 in
theorem alive7_any (w : World) : Calls Try.prog 6 #[] w fun e w' => e = .returned (.bool true) ∧ Below w.heap.size w w' := by
  go_enter Try.func6, Try.ntmps6
  go_wp2_with fail
  refine Calls.mono (of7_any 2 2 (some ⟨w.heap.size, 0, none⟩) 4 4 _) ?_
  rintro e w1 ⟨ga, rfl, hsa, hb⟩
  have HSA := hide hsa
  have HLA := hide ((lit_lies w .i32 [1, 2, 3, 4] 21).below hb)
  have hb1 : Below w.heap.size w w1 := below_nx6 (below_al6 (Below.refl _ _)) hb
  clear hb hsa
  go_wp2_with fail
  refine Calls.mono (of7_any 2 1 (some ⟨w1.heap.size, 0, none⟩) 2 2 _) ?_
  rintro e w2 ⟨gb, rfl, hsb, hb⟩
  have HSB := hide hsb
  have HLB := hide ((lit_lies w1 .i32 [5, 6] 21).below hb)
  have hb2 : Below w1.heap.size w1 w2 := below_nx6 (below_al6 (Below.refl _ _)) hb
  clear hb hsb
  go_wp2_with fail
  refine Calls.mono (pof_ok (some ⟨ga, 0, none⟩) (some ⟨w.heap.size, 0, none⟩) (some ⟨gb, 0, none⟩) (some ⟨w1.heap.size, 0, none⟩) 2 4 4 2 2 2 2 2 1 [1, 2, 3, 4] [5, 6] _ (HSA.out.below hb2) (HLA.out.below hb2) HSB.out HLB.out (by decide +kernel) (by decide +kernel)) ?_
  rw [show prodL [1, 2, 3, 4] [5, 6] 2 2 1 = [17, 39] by decide +kernel]
  rintro e w3 ⟨g1, c1, g2, rfl, ho1, ho2, _, hb⟩
  obtain ⟨W1, hW1⟩ : ∃ W, W = w3.alloc (.cells #[.slice (some ⟨g1, 0, none⟩) 2 c1, .slice (some ⟨g2, 0, none⟩) 2 2] 28) := ⟨_, rfl⟩
  have HX1 : Hid (BoxT W1 w3.heap.size (.slice (some ⟨g1, 0, none⟩) 2 c1) (.slice (some ⟨g2, 0, none⟩) 2 2)) := hide (by rw [hW1]; exact BoxT.new w3 _ _)
  have HP1 : Hid (Lies W1 (some ⟨g1, 0, none⟩) 2 (([2, 1] : List Int).map (Value.int .i64))) := hide (by rw [hW1]; exact (lies_of_own ho1).alloc _)
  have HQ1 : Hid (Lies W1 (some ⟨g2, 0, none⟩) 2 (([17, 39] : List Int).map (Value.int .i32))) := hide (by rw [hW1]; exact (lies_of_own ho2).alloc _)
  have HT1 : Hid (Below w.heap.size w W1) := hide (by rw [hW1]; exact below_al6 (below_nx6 hb1 (below_nx6 hb2 hb)))
  have hW1' := hW1.symm
  clear hW1 hb ho1 ho2 hb1 hb2
  have hx1 := HX1.out.lt
  have hd : Below W1.heap.size W1 ((W1.alloc (.cells #[.int .i64 2, .int .i64 3] 3)).alloc (.cells #[.int .i64 3, .int .i64 4] 3)) := below_al6 (below_al6 (Below.refl _ _))
  go_wp2_with fail
  refine Calls.mono (pshape_any (some ⟨W1.heap.size, 0, none⟩) (some ⟨W1.heap.size + 1, 0, none⟩) 2 2 2 2 [2, 3] [3, 4] _ ((lit_lies W1 .i64 [2, 3] 3).alloc _) (by have h := lit_lies (W1.alloc (.cells #[.int .i64 2, .int .i64 3] 3)) .i64 [3, 4] 3; rwa [World.size_alloc] at h) (by omega) (by omega)) ?_
  rw [show shp7E [2, 3] [3, 4] = 0 by decide +kernel, show shp7S [2, 3] [3, 4] = [2, 4] by decide +kernel]
  rintro e w6 ⟨R, k, kc, rfl, ho, _, hb⟩
  obtain rfl : k = 2 := by have := ho.1; simpa using this.symm
  obtain ⟨g3, rfl⟩ := own_some ho (by omega)
  have hdz : Below W1.heap.size W1 w6 := below_nx6 hd hb
  have HP2 : Hid (∀ v, Below w6.heap.size w6 v → Lies v (some ⟨g3, 0, none⟩) 2 (([2, 4] : List Int).map (Value.int .i64))) := hide (fun v hv => (lies_of_own ho).below hv)
  have HC : Hid (∀ v, Below w6.heap.size w6 v → v.cell? ⟨w3.heap.size, 0, none⟩ = some (.slice (some ⟨g1, 0, none⟩) 2 c1) ∧ v.cell? ⟨w3.heap.size, 1, none⟩ = some (.slice (some ⟨g2, 0, none⟩) 2 2)) := hide (fun v hv => ⟨((HX1.out.kept hdz).kept hv).c0, ((HX1.out.kept hdz).kept hv).c1⟩)
  have hd0 : Below w6.heap.size w6 w6.drew := below_drewN (Below.refl _ _) 1
  clear hb ho hd
  go_wp2
  have hS0 : Hid (w6.drew.cell? ⟨w3.heap.size, 0, none⟩ = some (.slice (some ⟨g1, 0, none⟩) 2 c1) ∧ w6.drew.cell? ⟨w3.heap.size, 1, none⟩ = some (.slice (some ⟨g2, 0, none⟩) 2 2)) := hide (HC.out _ hd0)
  refine wp_region_U (fun _ v => v.cell? ⟨w3.heap.size, 0, none⟩ = some (.slice (some ⟨g1, 0, none⟩) 2 c1) ∧ v.cell? ⟨w3.heap.size, 1, none⟩ = some (.slice (some ⟨g2, 0, none⟩) 2 2)) 99 (by kernel_rfl) ?_
  refine wpAnyU_take (i := 0) (oi := { dst := some 19, op := _, type := _, pos := _, after := _, guard := none }) (v := .int .i64 0) rfl (by kernel_rfl) (by kernel_rfl) (by kernel_rfl) (by kernel_rfl) (fun _ _ _ h => h) (yields_take rfl (fun w' hw => by obtain ⟨h1, h2⟩ := hw.const; go_simp)) hS0.out ?_
  simp only [Act.put, List.setIfInBounds_toArray, List.set_cons_zero, List.set_cons_succ]
  refine wpAnyU_take (i := 1) (oi := { dst := some 20, op := _, type := _, pos := _, after := _, guard := none }) (v := .bool true) rfl (by kernel_rfl) (by kernel_rfl) (by kernel_rfl) (by kernel_rfl) (fun _ _ _ h => h) (yields_take rfl (fun w' hw => by obtain ⟨h1, h2⟩ := hw.const; go_simp)) hS0.out ?_
  simp only [Act.put, List.setIfInBounds_toArray, List.set_cons_zero, List.set_cons_succ]
  refine wpAnyU_take (i := 2) (oi := { dst := some 21, op := _, type := _, pos := _, after := _, guard := none }) (v := .bool true) rfl (by kernel_rfl) (by kernel_rfl) (by kernel_rfl) (by kernel_rfl) (fun _ _ _ h => h) (yields_take rfl (fun w' hw => by obtain ⟨h1, h2⟩ := hw.const; go_simp)) hS0.out ?_
  simp only [Act.put, List.setIfInBounds_toArray, List.set_cons_zero, List.set_cons_succ]
  refine wpAnyU_take (i := 3) (oi := { dst := some 22, op := _, type := _, pos := _, after := _, guard := some (2, true) }) (v := .agg #[.slice (some ⟨g1, 0, none⟩) 2 c1, .slice (some ⟨g2, 0, none⟩) 2 2]) rfl (by kernel_rfl) (by kernel_rfl) (by kernel_rfl) (by kernel_rfl) (fun _ _ _ h => h) (yields_take rfl (fun w' hw => by obtain ⟨h1, h2⟩ := hw.const; go_simp)) hS0.out ?_
  simp only [Act.put, List.setIfInBounds_toArray, List.set_cons_zero, List.set_cons_succ]
  refine wpAnyU_one (i := 4) (by kernel_rfl) rfl ?_
  intro K hK
  go_simp
  have hd1 : Below w6.heap.size w6 (w6.drew.alloc (.cells #[.int .i32 17, .int .i32 39] 21)) := below_al6 hd0
  have hS1 : Hid ((w6.drew.alloc (.cells #[.int .i32 17, .int .i32 39] 21)).cell? ⟨w3.heap.size, 0, none⟩ = some (.slice (some ⟨g1, 0, none⟩) 2 c1) ∧ (w6.drew.alloc (.cells #[.int .i32 17, .int .i32 39] 21)).cell? ⟨w3.heap.size, 1, none⟩ = some (.slice (some ⟨g2, 0, none⟩) 2 2)) := hide (HC.out _ hd1)
  refine hK.out _ _ hS1.out (fun _ => ?_)
  clear hK K hS0
  refine wpAnyU_one (i := 5) (by kernel_rfl) rfl ?_
  intro K hK
  go_simp
  refine Calls.mono (of7_any 2 1 (some ⟨w6.heap.size, 0, none⟩) 2 2 _) ?_
  rintro e v1 ⟨ga, rfl, hsa, hb⟩
  dsimp only
  have hd2 : Below w6.heap.size w6 v1 := below_nx6 hd1 hb
  have hla := (lit_lies w6.drew .i32 [17, 39] 21).below hb
  clear hb
  have hS2 : Hid (v1.cell? ⟨w3.heap.size, 0, none⟩ = some (.slice (some ⟨g1, 0, none⟩) 2 c1) ∧ v1.cell? ⟨w3.heap.size, 1, none⟩ = some (.slice (some ⟨g2, 0, none⟩) 2 2)) := hide (HC.out _ hd2)
  refine hK.out _ _ hS2.out (fun _ => ?_)
  clear hK K hS1
  refine wpAnyU_one (i := 6) (by kernel_rfl) rfl ?_
  intro K hK
  go_simp
  refine Calls.mono (tsame_any (some ⟨g1, 0, none⟩) (some ⟨g2, 0, none⟩) (some ⟨ga, 0, none⟩) (some ⟨w6.heap.size, 0, none⟩) 2 c1 2 2 2 2 2 2 [2, 1] [17, 39] [2, 1] [17, 39] _ ((HP1.out.below hdz).below hd2) ((HQ1.out.below hdz).below hd2) hsa hla (by omega) (by omega)) ?_
  rintro e v2 ⟨rfl, hb⟩
  dsimp only
  have hd3 : Below w6.heap.size w6 v2 := below_nx6 hd2 hb
  clear hb hsa hla
  have hS3 : Hid (v2.cell? ⟨w3.heap.size, 0, none⟩ = some (.slice (some ⟨g1, 0, none⟩) 2 c1) ∧ v2.cell? ⟨w3.heap.size, 1, none⟩ = some (.slice (some ⟨g2, 0, none⟩) 2 2)) := hide (HC.out _ hd3)
  refine hK.out _ _ hS3.out (fun _ => ?_)
  clear hK K hS2
  refine wpAnyU_take (i := 7) (oi := { dst := some 26, op := _, type := _, pos := _, after := _, guard := none }) (v := .bool true) rfl (by kernel_rfl) (by kernel_rfl) (by kernel_rfl) (by kernel_rfl) (fun _ _ _ h => h) (yields_take rfl (fun w' hw => by obtain ⟨h1, h2⟩ := hw.const; go_simp)) hS3.out ?_
  simp only [Act.put, List.setIfInBounds_toArray, List.set_cons_zero, List.set_cons_succ]
  refine wpAnyU_take (i := 8) (oi := { dst := some 27, op := _, type := _, pos := _, after := _, guard := none }) (v := .bool true) rfl (by kernel_rfl) (by kernel_rfl) (by kernel_rfl) (by kernel_rfl) (fun _ _ _ h => h) (yields_take rfl (fun w' hw => by obtain ⟨h1, h2⟩ := hw.const; go_simp)) hS3.out ?_
  simp only [Act.put, List.setIfInBounds_toArray, List.set_cons_zero, List.set_cons_succ]
  refine wpAnyU_take (i := 9) (oi := { dst := some 28, op := _, type := _, pos := _, after := _, guard := some (8, true) }) (v := .int .i64 0) rfl (by kernel_rfl) (by kernel_rfl) (by kernel_rfl) (by kernel_rfl) (fun _ _ _ h => h) (yields_take rfl (fun w' hw => by obtain ⟨h1, h2⟩ := hw.const; go_simp)) hS3.out ?_
  simp only [Act.put, List.setIfInBounds_toArray, List.set_cons_zero, List.set_cons_succ]
  refine wpAnyU_take (i := 10) (oi := { dst := some 29, op := _, type := _, pos := _, after := _, guard := some (8, true) }) (v := .bool true) rfl (by kernel_rfl) (by kernel_rfl) (by kernel_rfl) (by kernel_rfl) (fun _ _ _ h => h) (yields_take rfl (fun w' hw => by obtain ⟨h1, h2⟩ := hw.const; go_simp)) hS3.out ?_
  simp only [Act.put, List.setIfInBounds_toArray, List.set_cons_zero, List.set_cons_succ]
  refine wpAnyU_take (i := 11) (oi := { dst := some 30, op := _, type := _, pos := _, after := _, guard := none }) (v := .bool true) rfl (by kernel_rfl) (by kernel_rfl) (by kernel_rfl) (by kernel_rfl) (fun _ _ _ h => h) (yields_take rfl (fun w' hw => by obtain ⟨h1, h2⟩ := hw.const; go_simp)) hS3.out ?_
  simp only [Act.put, List.setIfInBounds_toArray, List.set_cons_zero, List.set_cons_succ]
  refine wpAnyU_take (i := 12) (oi := { dst := some 31, op := _, type := _, pos := _, after := _, guard := none }) (v := .bool true) rfl (by kernel_rfl) (by kernel_rfl) (by kernel_rfl) (by kernel_rfl) (fun _ _ _ h => h) (yields_take rfl (fun w' hw => by obtain ⟨h1, h2⟩ := hw.const; go_simp)) hS3.out ?_
  simp only [Act.put, List.setIfInBounds_toArray, List.set_cons_zero, List.set_cons_succ]
  refine wpAnyU_take (i := 13) (oi := { dst := some 32, op := _, type := _, pos := _, after := _, guard := some (12, true) }) (v := .slice (some ⟨g3, 0, none⟩) 2 kc) rfl (by kernel_rfl) (by kernel_rfl) (by kernel_rfl) (by kernel_rfl) (fun _ _ _ h => h) (yields_take rfl (fun w' hw => by obtain ⟨h1, h2⟩ := hw.const; go_simp)) hS3.out ?_
  simp only [Act.put, List.setIfInBounds_toArray, List.set_cons_zero, List.set_cons_succ]
  refine wpAnyU_one (i := 14) (by kernel_rfl) rfl ?_
  intro K hK
  go_simp
  have hd4 : Below w6.heap.size w6 (v2.alloc (.cells #[.int .i64 2, .int .i64 4] 3)) := below_al6 hd3
  have hl4 : Lies (v2.alloc (.cells #[.int .i64 2, .int .i64 4] 3)) (some ⟨v2.heap.size, 0, none⟩) 2 (([2, 4] : List Int).map (Value.int .i64)) := lit_lies v2 .i64 [2, 4] 3
  have hS4 : Hid ((v2.alloc (.cells #[.int .i64 2, .int .i64 4] 3)).cell? ⟨w3.heap.size, 0, none⟩ = some (.slice (some ⟨g1, 0, none⟩) 2 c1) ∧ (v2.alloc (.cells #[.int .i64 2, .int .i64 4] 3)).cell? ⟨w3.heap.size, 1, none⟩ = some (.slice (some ⟨g2, 0, none⟩) 2 2)) := hide (HC.out _ hd4)
  refine hK.out _ _ hS4.out (fun _ => ?_)
  clear hK K hS3
  refine wpAnyU_one (i := 15) (by kernel_rfl) rfl ?_
  intro K hK
  go_simp
  refine Calls.mono (sameG_Ints (some ⟨g3, 0, none⟩) (some ⟨v2.heap.size, 0, none⟩) 2 kc 2 2 [2, 4] [2, 4] _ (HP2.out _ hd4) hl4 (by omega)) ?_
  rintro e v3 ⟨rfl, jq, hjq⟩
  dsimp only
  have hd5 : Below w6.heap.size w6 v3 := by rw [hjq]; exact below_drewN hd4 jq
  clear hjq
  have hS5 : Hid (v3.cell? ⟨w3.heap.size, 0, none⟩ = some (.slice (some ⟨g1, 0, none⟩) 2 c1) ∧ v3.cell? ⟨w3.heap.size, 1, none⟩ = some (.slice (some ⟨g2, 0, none⟩) 2 2)) := hide (HC.out _ hd5)
  refine hK.out _ _ hS5.out (fun _ => ?_)
  clear hK K hS4
  refine wpAnyU_take (i := 16) (oi := { dst := some 35, op := _, type := _, pos := _, after := _, guard := none }) (v := .bool true) rfl (by kernel_rfl) (by kernel_rfl) (by kernel_rfl) (by kernel_rfl) (fun _ _ _ h => h) (yields_take rfl (fun w' hw => by obtain ⟨h1, h2⟩ := hw.const; go_simp)) hS5.out ?_
  simp only [Act.put, List.setIfInBounds_toArray, List.set_cons_zero, List.set_cons_succ]
  refine wpAnyU_take (i := 17) (oi := { dst := some 36, op := _, type := _, pos := _, after := _, guard := none }) (v := .bool true) rfl (by kernel_rfl) (by kernel_rfl) (by kernel_rfl) (by kernel_rfl) (fun _ _ _ h => h) (yields_take rfl (fun w' hw => by obtain ⟨h1, h2⟩ := hw.const; go_simp)) hS5.out ?_
  simp only [Act.put, List.setIfInBounds_toArray, List.set_cons_zero, List.set_cons_succ]
  refine wpAnyU_two (i := 18) (j := 19) (oi := { dst := some 37, op := _, type := _, pos := _, after := _, guard := some (17, true) }) (oj := { dst := some 38, op := _, type := _, pos := _, after := _, guard := some (17, true) }) (TwoL w6 .i64 .i64 ([2, 3] : List Int) ([2, 3] : List Int)) (by kernel_rfl) (by kernel_rfl) (by kernel_rfl) rfl rfl rfl rfl (by decide) (by decide) (by kernel_rfl) (by kernel_rfl) (fun _ => by kernel_rfl) (fun _ => by kernel_rfl) ⟨.slice (some ⟨v3.heap.size, 0, none⟩) 2 2, (v3.alloc (.cells (([2, 3] : List Int).map (Value.int .i64)).toArray 3)), by go_simp, (by have hv := below_al6 (o := (.cells (([2, 3] : List Int).map (Value.int .i64)).toArray 3)) (hd5); exact HC.out _ hv), .slice (some ⟨v3.heap.size + 1, 0, none⟩) 2 2, ((v3.alloc (.cells (([2, 3] : List Int).map (Value.int .i64)).toArray 3)).alloc (.cells (([2, 3] : List Int).map (Value.int .i64)).toArray 3)), by go_simp, TwoL.fst _ _ (hd5)⟩ ⟨.slice (some ⟨v3.heap.size, 0, none⟩) 2 2, (v3.alloc (.cells (([2, 3] : List Int).map (Value.int .i64)).toArray 3)), by go_simp, (by have hv := below_al6 (o := (.cells (([2, 3] : List Int).map (Value.int .i64)).toArray 3)) (hd5); exact HC.out _ hv), .slice (some ⟨v3.heap.size + 1, 0, none⟩) 2 2, ((v3.alloc (.cells (([2, 3] : List Int).map (Value.int .i64)).toArray 3)).alloc (.cells (([2, 3] : List Int).map (Value.int .i64)).toArray 3)), by go_simp, TwoL.snd _ _ (hd5)⟩ (fun _ _ _ hr => by obtain ⟨_, _, _, _, _, _, hv⟩ := hr; exact HC.out _ hv) ?_
  rintro _ _ v4 ⟨gv4x, gv4y, rfl, rfl, hlv4x, hlv4y, hd6⟩
  simp only [List.length_cons, List.length_nil, Nat.reduceAdd] at hlv4x hlv4y ⊢
  simp only [Act.put, List.setIfInBounds_toArray, List.set_cons_zero, List.set_cons_succ]
  have hS6 : Hid (v4.cell? ⟨w3.heap.size, 0, none⟩ = some (.slice (some ⟨g1, 0, none⟩) 2 c1) ∧ v4.cell? ⟨w3.heap.size, 1, none⟩ = some (.slice (some ⟨g2, 0, none⟩) 2 2)) := hide (by have hv := hd6; exact HC.out _ hv)
  clear hS5
  refine wpAnyU_one (i := 20) (by kernel_rfl) rfl ?_
  intro K hK
  go_simp
  refine Calls.mono (refused7_yes (some ⟨gv4x, 0, none⟩) (some ⟨gv4y, 0, none⟩) 2 2 2 2 [2, 3] [2, 3] 10 _ hlv4x hlv4y (by omega) (by omega) (by decide +kernel) (by decide)) ?_
  rintro e v5 ⟨rfl, hb⟩
  dsimp only
  have hd7 : Below w6.heap.size w6 v5 := below_nx6 hd6 hb
  clear hb hlv4x hlv4y
  have hS7 : Hid (v5.cell? ⟨w3.heap.size, 0, none⟩ = some (.slice (some ⟨g1, 0, none⟩) 2 c1) ∧ v5.cell? ⟨w3.heap.size, 1, none⟩ = some (.slice (some ⟨g2, 0, none⟩) 2 2)) := hide (HC.out _ hd7)
  refine hK.out _ _ hS7.out (fun _ => ?_)
  clear hK K hS6
  refine wpAnyU_take (i := 21) (oi := { dst := some 40, op := _, type := _, pos := _, after := _, guard := none }) (v := .bool true) rfl (by kernel_rfl) (by kernel_rfl) (by kernel_rfl) (by kernel_rfl) (fun _ _ _ h => h) (yields_take rfl (fun w' hw => by obtain ⟨h1, h2⟩ := hw.const; go_simp)) hS7.out ?_
  simp only [Act.put, List.setIfInBounds_toArray, List.set_cons_zero, List.set_cons_succ]
  refine wpAnyU_take (i := 22) (oi := { dst := some 41, op := _, type := _, pos := _, after := _, guard := none }) (v := .bool true) rfl (by kernel_rfl) (by kernel_rfl) (by kernel_rfl) (by kernel_rfl) (fun _ _ _ h => h) (yields_take rfl (fun w' hw => by obtain ⟨h1, h2⟩ := hw.const; go_simp)) hS7.out ?_
  simp only [Act.put, List.setIfInBounds_toArray, List.set_cons_zero, List.set_cons_succ]
  refine wpAnyU_two (i := 23) (j := 24) (oi := { dst := some 42, op := _, type := _, pos := _, after := _, guard := some (22, true) }) (oj := { dst := some 43, op := _, type := _, pos := _, after := _, guard := some (22, true) }) (TwoL w6 .i64 .i64 ([2] : List Int) ([2] : List Int)) (by kernel_rfl) (by kernel_rfl) (by kernel_rfl) rfl rfl rfl rfl (by decide) (by decide) (by kernel_rfl) (by kernel_rfl) (fun _ => by kernel_rfl) (fun _ => by kernel_rfl) ⟨.slice (some ⟨v5.heap.size, 0, none⟩) 1 1, (v5.alloc (.cells (([2] : List Int).map (Value.int .i64)).toArray 3)), by go_simp, (by have hv := below_al6 (o := (.cells (([2] : List Int).map (Value.int .i64)).toArray 3)) (hd7); exact HC.out _ hv), .slice (some ⟨v5.heap.size + 1, 0, none⟩) 1 1, ((v5.alloc (.cells (([2] : List Int).map (Value.int .i64)).toArray 3)).alloc (.cells (([2] : List Int).map (Value.int .i64)).toArray 3)), by go_simp, TwoL.fst _ _ (hd7)⟩ ⟨.slice (some ⟨v5.heap.size, 0, none⟩) 1 1, (v5.alloc (.cells (([2] : List Int).map (Value.int .i64)).toArray 3)), by go_simp, (by have hv := below_al6 (o := (.cells (([2] : List Int).map (Value.int .i64)).toArray 3)) (hd7); exact HC.out _ hv), .slice (some ⟨v5.heap.size + 1, 0, none⟩) 1 1, ((v5.alloc (.cells (([2] : List Int).map (Value.int .i64)).toArray 3)).alloc (.cells (([2] : List Int).map (Value.int .i64)).toArray 3)), by go_simp, TwoL.snd _ _ (hd7)⟩ (fun _ _ _ hr => by obtain ⟨_, _, _, _, _, _, hv⟩ := hr; exact HC.out _ hv) ?_
  rintro _ _ v6 ⟨gv6x, gv6y, rfl, rfl, hlv6x, hlv6y, hd8⟩
  simp only [List.length_cons, List.length_nil, Nat.reduceAdd] at hlv6x hlv6y ⊢
  simp only [Act.put, List.setIfInBounds_toArray, List.set_cons_zero, List.set_cons_succ]
  have hS8 : Hid (v6.cell? ⟨w3.heap.size, 0, none⟩ = some (.slice (some ⟨g1, 0, none⟩) 2 c1) ∧ v6.cell? ⟨w3.heap.size, 1, none⟩ = some (.slice (some ⟨g2, 0, none⟩) 2 2)) := hide (by have hv := hd8; exact HC.out _ hv)
  clear hS7
  refine wpAnyU_one (i := 25) (by kernel_rfl) rfl ?_
  intro K hK
  go_simp
  refine Calls.mono (refused7_yes (some ⟨gv6x, 0, none⟩) (some ⟨gv6y, 0, none⟩) 1 1 1 1 [2] [2] 10 _ hlv6x hlv6y (by omega) (by omega) (by decide +kernel) (by decide)) ?_
  rintro e v7 ⟨rfl, hb⟩
  dsimp only
  have hd9 : Below w6.heap.size w6 v7 := below_nx6 hd8 hb
  clear hb hlv6x hlv6y
  have hS9 : Hid (v7.cell? ⟨w3.heap.size, 0, none⟩ = some (.slice (some ⟨g1, 0, none⟩) 2 c1) ∧ v7.cell? ⟨w3.heap.size, 1, none⟩ = some (.slice (some ⟨g2, 0, none⟩) 2 2)) := hide (HC.out _ hd9)
  refine hK.out _ _ hS9.out (fun _ => ?_)
  clear hK K hS8
  refine wpAnyU_take (i := 26) (oi := { dst := some 45, op := _, type := _, pos := _, after := _, guard := none }) (v := .bool true) rfl (by kernel_rfl) (by kernel_rfl) (by kernel_rfl) (by kernel_rfl) (fun _ _ _ h => h) (yields_take rfl (fun w' hw => by obtain ⟨h1, h2⟩ := hw.const; go_simp)) hS9.out ?_
  simp only [Act.put, List.setIfInBounds_toArray, List.set_cons_zero, List.set_cons_succ]
  refine wpAnyU_take (i := 27) (oi := { dst := some 46, op := _, type := _, pos := _, after := _, guard := none }) (v := .bool true) rfl (by kernel_rfl) (by kernel_rfl) (by kernel_rfl) (by kernel_rfl) (fun _ _ _ h => h) (yields_take rfl (fun w' hw => by obtain ⟨h1, h2⟩ := hw.const; go_simp)) hS9.out ?_
  simp only [Act.put, List.setIfInBounds_toArray, List.set_cons_zero, List.set_cons_succ]
  refine wpAnyU_two (i := 28) (j := 29) (oi := { dst := some 47, op := _, type := _, pos := _, after := _, guard := some (27, true) }) (oj := { dst := some 48, op := _, type := _, pos := _, after := _, guard := some (27, true) }) (TwoL w6 .i64 .i64 ([0] : List Int) ([1, 1] : List Int)) (by kernel_rfl) (by kernel_rfl) (by kernel_rfl) rfl rfl rfl rfl (by decide) (by decide) (by kernel_rfl) (by kernel_rfl) (fun _ => by kernel_rfl) (fun _ => by kernel_rfl) ⟨.slice (some ⟨v7.heap.size, 0, none⟩) 1 1, (v7.alloc (.cells (([0] : List Int).map (Value.int .i64)).toArray 3)), by go_simp, (by have hv := below_al6 (o := (.cells (([0] : List Int).map (Value.int .i64)).toArray 3)) (hd9); exact HC.out _ hv), .slice (some ⟨v7.heap.size + 1, 0, none⟩) 2 2, ((v7.alloc (.cells (([0] : List Int).map (Value.int .i64)).toArray 3)).alloc (.cells (([1, 1] : List Int).map (Value.int .i64)).toArray 3)), by go_simp, TwoL.fst _ _ (hd9)⟩ ⟨.slice (some ⟨v7.heap.size, 0, none⟩) 2 2, (v7.alloc (.cells (([1, 1] : List Int).map (Value.int .i64)).toArray 3)), by go_simp, (by have hv := below_al6 (o := (.cells (([1, 1] : List Int).map (Value.int .i64)).toArray 3)) (hd9); exact HC.out _ hv), .slice (some ⟨v7.heap.size + 1, 0, none⟩) 1 1, ((v7.alloc (.cells (([1, 1] : List Int).map (Value.int .i64)).toArray 3)).alloc (.cells (([0] : List Int).map (Value.int .i64)).toArray 3)), by go_simp, TwoL.snd _ _ (hd9)⟩ (fun _ _ _ hr => by obtain ⟨_, _, _, _, _, _, hv⟩ := hr; exact HC.out _ hv) ?_
  rintro _ _ v8 ⟨gv8x, gv8y, rfl, rfl, hlv8x, hlv8y, hd10⟩
  simp only [List.length_cons, List.length_nil, Nat.reduceAdd] at hlv8x hlv8y ⊢
  simp only [Act.put, List.setIfInBounds_toArray, List.set_cons_zero, List.set_cons_succ]
  have hS10 : Hid (v8.cell? ⟨w3.heap.size, 0, none⟩ = some (.slice (some ⟨g1, 0, none⟩) 2 c1) ∧ v8.cell? ⟨w3.heap.size, 1, none⟩ = some (.slice (some ⟨g2, 0, none⟩) 2 2)) := hide (by have hv := hd10; exact HC.out _ hv)
  clear hS9
  refine wpAnyU_one (i := 30) (by kernel_rfl) rfl ?_
  intro K hK
  go_simp
  refine Calls.mono (refused7_yes (some ⟨gv8x, 0, none⟩) (some ⟨gv8y, 0, none⟩) 1 1 2 2 [0] [1, 1] 1 _ hlv8x hlv8y (by omega) (by omega) (by decide +kernel) (by decide)) ?_
  rintro e v9 ⟨rfl, hb⟩
  dsimp only
  have hd11 : Below w6.heap.size w6 v9 := below_nx6 hd10 hb
  clear hb hlv8x hlv8y
  have hS11 : Hid (v9.cell? ⟨w3.heap.size, 0, none⟩ = some (.slice (some ⟨g1, 0, none⟩) 2 c1) ∧ v9.cell? ⟨w3.heap.size, 1, none⟩ = some (.slice (some ⟨g2, 0, none⟩) 2 2)) := hide (HC.out _ hd11)
  refine hK.out _ _ hS11.out (fun _ => ?_)
  clear hK K hS10
  refine wpAnyU_take (i := 31) (oi := { dst := some 50, op := _, type := _, pos := _, after := _, guard := none }) (v := .bool true) rfl (by kernel_rfl) (by kernel_rfl) (by kernel_rfl) (by kernel_rfl) (fun _ _ _ h => h) (yields_take rfl (fun w' hw => by obtain ⟨h1, h2⟩ := hw.const; go_simp)) hS11.out ?_
  simp only [Act.put, List.setIfInBounds_toArray, List.set_cons_zero, List.set_cons_succ]
  refine wpAnyU_take (i := 32) (oi := { dst := some 0, op := _, type := _, pos := _, after := _, guard := none }) (v := .bool true) rfl (by kernel_rfl) (by kernel_rfl) (by kernel_rfl) (by kernel_rfl) (fun _ _ _ h => h) (yields_take rfl (fun w' hw => by obtain ⟨h1, h2⟩ := hw.const; go_simp)) hS11.out ?_
  simp only [Act.put, List.setIfInBounds_toArray, List.set_cons_zero, List.set_cons_succ]
  refine wpAnyU_done (by kernel_rfl) ?_ _
  clear hS11
  have HBE := hide (below_nx6 HT1.out (below_nx6 hdz hd11))
  go_wp2
  go_ret
  exact ⟨rfl, HBE.out⟩

end Go.Proofs.Ytlalfjlcgabnnaa
