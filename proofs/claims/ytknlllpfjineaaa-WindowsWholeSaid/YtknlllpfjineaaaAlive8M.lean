/- alive of the statements on windows: it is true. -/
import Derived.Test.YtknlllpfjineaaaWC
import Derived.Test.YtknlllpfjineaaaWB
import Derived.Deep.Cut
namespace Go.Proofs.Ytknlllpfjineaaa
open Go.RowKit
set_option linter.unusedVariables false
set_option linter.unusedSimpArgs false
set_option maxRecDepth 100000

set_option maxHeartbeats 16000000 in
theorem alive8_any (w : World) : Calls Try.prog 22 #[] w fun e w' => e = .returned (.bool true) ∧ Below w.heap.size w w' := by
  have HBW := hide (Below.refl w.heap.size w)
  go_enter Try.func22, Try.ntmps22
  go_wp2_with fail
  have HD0 : Hid (Below w.heap.size w ((w.alloc (.cells #[.int .i64 1, .int .i64 3, .int .i64 3] 3)).alloc (.cells #[.int .i32 1, .int .i32 2, .int .i32 3, .int .i32 4, .int .i32 5, .int .i32 6, .int .i32 7, .int .i32 8, .int .i32 9] 21))) := hide (below_al6 (below_al6 (Below.refl _ _)))
  have HSA : Hid (Lies ((w.alloc (.cells #[.int .i64 1, .int .i64 3, .int .i64 3] 3)).alloc (.cells #[.int .i32 1, .int .i32 2, .int .i32 3, .int .i32 4, .int .i32 5, .int .i32 6, .int .i32 7, .int .i32 8, .int .i32 9] 21)) (some ⟨w.heap.size, 0, none⟩) 3 (([1, 3, 3] : List Int).map (Value.int .i64))) := hide ((lit_lies w .i64 [1, 3, 3] 3).alloc _)
  have HLA : Hid (Lies ((w.alloc (.cells #[.int .i64 1, .int .i64 3, .int .i64 3] 3)).alloc (.cells #[.int .i32 1, .int .i32 2, .int .i32 3, .int .i32 4, .int .i32 5, .int .i32 6, .int .i32 7, .int .i32 8, .int .i32 9] 21)) (some ⟨w.heap.size + 1, 0, none⟩) 9 (([1, 2, 3, 4, 5, 6, 7, 8, 9] : List Int).map (Value.int .i32))) := hide (by
    have h := lit_lies (w.alloc (.cells #[.int .i64 1, .int .i64 3, .int .i64 3] 3)) .i32 [1, 2, 3, 4, 5, 6, 7, 8, 9] 21
    rwa [World.size_alloc] at h)
  refine Calls.mono (of8_any (some ⟨w.heap.size, 0, none⟩) (some ⟨w.heap.size + 1, 0, none⟩) 3 3 9 9 _) ?_
  rintro e u0 ⟨rfl, hb⟩
  obtain ⟨V0, hV0⟩ : ∃ W, W = u0.alloc (.cells #[.slice (some ⟨w.heap.size, 0, none⟩) 3 3, .slice (some ⟨w.heap.size + 1, 0, none⟩) 9 9] 25) := ⟨_, rfl⟩
  have HT_t : Hid (TenAt V0 u0.heap.size (some ⟨w.heap.size, 0, none⟩) (some ⟨w.heap.size + 1, 0, none⟩) 3 3 9 9 [1, 3, 3] [1, 2, 3, 4, 5, 6, 7, 8, 9]) := hide (by rw [hV0]; exact ⟨BoxT.new u0 _ _, (HSA.out.below hb).alloc _, (HLA.out.below hb).alloc _⟩)
  replace HBW : Hid (Below w.heap.size w V0) := hide (by rw [hV0]; exact below_al6 (below_nx6 HD0.out hb))
  have hV0' := hV0.symm
  clear hV0 hb HSA HLA HD0
  have hlt_t := HT_t.out.1.lt
  go_wp2
  go_cut [2, 3] from 14 (fun s1 s2 wc => ∃ px g1 c1 g2, s1 = .pointer (some ⟨px, 0, none⟩) ∧ s2 = .int .i64 0 ∧ Hid (TenAt wc px (some ⟨g1, 0, none⟩) (some ⟨g2, 0, none⟩) 3 c1 4 4 [1, 2, 2] [12, 16, 24, 28]) ∧ Hid (Below V0.heap.size V0 wc))
  case first =>
    have he := Below.refl V0.heap.size V0
    have hsz0 := hlt_t
    have hS0 : Hid (V0.drew.cell? ⟨u0.heap.size, 0, none⟩ = some (.slice (some ⟨w.heap.size, 0, none⟩) 3 3) ∧ V0.drew.cell? ⟨u0.heap.size, 1, none⟩ = some (.slice (some ⟨w.heap.size + 1, 0, none⟩) 9 9)) := hide (⟨(HT_t.out.kept (below_drewN (Below.refl _ _) 1)).c0, (HT_t.out.kept (below_drewN (Below.refl _ _) 1)).c1⟩)
    refine wp_region_U (fun _ v => v.cell? ⟨u0.heap.size, 0, none⟩ = some (.slice (some ⟨w.heap.size, 0, none⟩) 3 3) ∧ v.cell? ⟨u0.heap.size, 1, none⟩ = some (.slice (some ⟨w.heap.size + 1, 0, none⟩) 9 9)) 99 (by kernel_rfl) ?_
    refine wpAnyU_take (i := 0) (oi := { dst := some 18, op := _, type := _, pos := _, after := _, guard := none }) (v := tenV (some ⟨w.heap.size, 0, none⟩) 3 3 (some ⟨w.heap.size + 1, 0, none⟩) 9 9) rfl (by kernel_rfl) (by kernel_rfl) (by kernel_rfl) (by kernel_rfl) (fun _ _ _ h => h) (yields_take rfl (fun w' hw => by obtain ⟨h1, h2⟩ := hw.const; go_simp)) hS0.out ?_
    simp only [Act.put, List.setIfInBounds_toArray, List.set_cons_zero, List.set_cons_succ]
    generalize hU0 : V0.drew = U0
    have he : Below V0.heap.size V0 U0 := by rw [← hU0]; exact below_drewN (Below.refl _ _) 1
    rw [hU0] at hS0
    clear hU0
    refine wpAnyU_or3 (i := 1) (j := 2) (k := 8) (by kernel_rfl) rfl rfl rfl ?_ ?_ ?_
    · intro K hK
      go_simp
      obtain ⟨U1, hU⟩ : ∃ U, U = U0.alloc (.cells #[.int .i64 1, .int .i64 1, .int .i64 2, .int .i64 2] 3) := ⟨_, rfl⟩
      rw [← hU]
      have hb : Below U0.heap.size U0 U1 := by rw [hU]; exact below_al6 (Below.refl _ _)
      have FL1 : Lies U1 (some ⟨U0.heap.size, 0, none⟩) 4 (([1, 1, 2, 2] : List Int).map (Value.int .i64)) := by rw [hU]; exact lit_lies U0 .i64 ([1, 1, 2, 2] : List Int) 3
      clear hU
      replace he : Below V0.heap.size V0 U1 := below_nx6 he hb
      clear hb
      have hS1 : Hid (U1.cell? ⟨u0.heap.size, 0, none⟩ = some (.slice (some ⟨w.heap.size, 0, none⟩) 3 3) ∧ U1.cell? ⟨u0.heap.size, 1, none⟩ = some (.slice (some ⟨w.heap.size + 1, 0, none⟩) 9 9)) := hide (⟨(HT_t.out.kept he).c0, (HT_t.out.kept he).c1⟩)
      refine hK _ _ hS1.out (fun _ => ?_)
      clear hK K hS0
      refine wpAnyU_or (i := 2) (j := 8) (by kernel_rfl) rfl rfl ?_ ?_
      · intro K hK
        go_simp
        obtain ⟨U2, hU⟩ : ∃ U, U = U1.alloc (.cells #[.int .i32 1, .int .i32 1, .int .i32 1, .int .i32 1] 21) := ⟨_, rfl⟩
        rw [← hU]
        have hb : Below U1.heap.size U1 U2 := by rw [hU]; exact below_al6 (Below.refl _ _)
        have FL2 : Lies U2 (some ⟨U1.heap.size, 0, none⟩) 4 (([1, 1, 1, 1] : List Int).map (Value.int .i32)) := by rw [hU]; exact lit_lies U1 .i32 ([1, 1, 1, 1] : List Int) 21
        clear hU
        replace FL1 := FL1.below hb
        replace he : Below V0.heap.size V0 U2 := below_nx6 he hb
        clear hb
        have hS2 : Hid (U2.cell? ⟨u0.heap.size, 0, none⟩ = some (.slice (some ⟨w.heap.size, 0, none⟩) 3 3) ∧ U2.cell? ⟨u0.heap.size, 1, none⟩ = some (.slice (some ⟨w.heap.size + 1, 0, none⟩) 9 9)) := hide (⟨(HT_t.out.kept he).c0, (HT_t.out.kept he).c1⟩)
        refine hK _ _ hS2.out (fun _ => ?_)
        clear hK K hS1
        refine wpAnyU_or (i := 3) (j := 8) (by kernel_rfl) rfl rfl ?_ ?_
        · intro K hK
          go_simp
          refine Calls.mono (of8_any (some ⟨U0.heap.size, 0, none⟩) (some ⟨U1.heap.size, 0, none⟩) 4 4 4 4 _) ?_
          rintro e U3 ⟨rfl, hb⟩
          dsimp only
          replace FL1 := FL1.below hb
          replace FL2 := FL2.below hb
          replace he : Below V0.heap.size V0 U3 := below_nx6 he hb
          clear hb
          have hS3 : Hid (U3.cell? ⟨u0.heap.size, 0, none⟩ = some (.slice (some ⟨w.heap.size, 0, none⟩) 3 3) ∧ U3.cell? ⟨u0.heap.size, 1, none⟩ = some (.slice (some ⟨w.heap.size + 1, 0, none⟩) 9 9)) := hide (⟨(HT_t.out.kept he).c0, (HT_t.out.kept he).c1⟩)
          refine hK _ _ hS3.out (fun _ => ?_)
          clear hK K hS2
          refine wpAnyU_or (i := 4) (j := 8) (by kernel_rfl) rfl rfl ?_ ?_
          · intro K hK
            go_simp
            refine Calls.mono (wof_ok (some ⟨w.heap.size, 0, none⟩) (some ⟨w.heap.size + 1, 0, none⟩) (some ⟨U0.heap.size, 0, none⟩) (some ⟨U1.heap.size, 0, none⟩) 3 9 9 4 4 4 1 3 3 1 2 2 2 2 1 0 [1, 2, 3, 4, 5, 6, 7, 8, 9] [1, 1, 1, 1] _ (HT_t.out.S.below he) (HT_t.out.L.below he) FL1 FL2 (by decide +kernel) (by decide +kernel) (by omega) (by decide +kernel) (by decide +kernel)) ?_
            rintro e U4 ⟨g1, c1, g2, rfl, FP, FQ, hne, hb⟩
            dsimp only
            rw [show winL [1, 2, 3, 4, 5, 6, 7, 8, 9] [1, 1, 1, 1] 1 3 3 1 2 2 1 0 2 2 = [12, 16, 24, 28] by decide +kernel] at FQ
            have lt1 := FP.lt g1 rfl
            have lt2 := FQ.lt g2 rfl
            have hzc := he.size
            have hzd := hb.size
            clear FL1
            clear FL2
            replace he : Below V0.heap.size V0 U4 := below_nx6 he hb
            clear hb
            have hS4 : Hid (U4.cell? ⟨u0.heap.size, 0, none⟩ = some (.slice (some ⟨w.heap.size, 0, none⟩) 3 3) ∧ U4.cell? ⟨u0.heap.size, 1, none⟩ = some (.slice (some ⟨w.heap.size + 1, 0, none⟩) 9 9)) := hide (⟨(HT_t.out.kept he).c0, (HT_t.out.kept he).c1⟩)
            refine hK _ _ hS4.out (fun _ => ?_)
            clear hK K hS3
            refine wpAnyU_take (i := 5) (oi := { dst := some 17, op := _, type := _, pos := _, after := _, guard := none }) (v := .tuple #[(tenV (some ⟨g1, 0, none⟩) 3 c1 (some ⟨g2, 0, none⟩) 4 4), .int .i64 0]) rfl (by kernel_rfl) (by kernel_rfl) (by kernel_rfl) (by kernel_rfl) (fun _ _ _ h => h) (yields_take rfl (fun w' hw => by obtain ⟨h1, h2⟩ := hw.const; go_simp)) hS4.out ?_
            simp only [Act.put, List.setIfInBounds_toArray, List.set_cons_zero, List.set_cons_succ]
            refine wpAnyU_take (i := 6) (oi := { dst := some 23, op := _, type := _, pos := _, after := _, guard := none }) (v := (tenV (some ⟨g1, 0, none⟩) 3 c1 (some ⟨g2, 0, none⟩) 4 4)) rfl (by kernel_rfl) (by kernel_rfl) (by kernel_rfl) (by kernel_rfl) (fun _ _ _ h => h) (yields_take rfl (fun w' hw => by obtain ⟨h1, h2⟩ := hw.const; go_simp)) hS4.out ?_
            simp only [Act.put, List.setIfInBounds_toArray, List.set_cons_zero, List.set_cons_succ]
            refine wpAnyU_take (i := 7) (oi := { dst := some 24, op := _, type := _, pos := _, after := _, guard := none }) (v := .int .i64 0) rfl (by kernel_rfl) (by kernel_rfl) (by kernel_rfl) (by kernel_rfl) (fun _ _ _ h => h) (yields_take rfl (fun w' hw => by obtain ⟨h1, h2⟩ := hw.const; go_simp)) hS4.out ?_
            simp only [Act.put, List.setIfInBounds_toArray, List.set_cons_zero, List.set_cons_succ]
            refine wpAnyU_one (i := 8) (by kernel_rfl) rfl ?_
            intro K hK
            go_simp
            obtain ⟨U5, hU⟩ : ∃ U, U = U4.alloc (.cells #[.slice none 0 0, .slice none 0 0] 25) := ⟨_, rfl⟩
            rw [← hU]
            have hb : Below U4.heap.size U4 U5 := by rw [hU]; exact below_al6 (Below.refl _ _)
            have FAL : BoxT U5 U4.heap.size (.slice none 0 0) (.slice none 0 0) := by rw [hU]; exact BoxT.new U4 _ _
            have hpx : V0.heap.size ≤ U4.heap.size := he.size
            clear hU
            replace FP := own_below FP hb
            replace FQ := own_below FQ hb
            replace he : Below V0.heap.size V0 U5 := below_nx6 he hb
            clear hb
            have hS5 : Hid (U5.cell? ⟨u0.heap.size, 0, none⟩ = some (.slice (some ⟨w.heap.size, 0, none⟩) 3 3) ∧ U5.cell? ⟨u0.heap.size, 1, none⟩ = some (.slice (some ⟨w.heap.size + 1, 0, none⟩) 9 9)) := hide (⟨(HT_t.out.kept he).c0, (HT_t.out.kept he).c1⟩)
            refine hK _ _ hS5.out (fun _ => ?_)
            clear hK K hS4
            have r0 := FAL.c0
            have r1 := FAL.c1
            have rf0 := FAL.f0 0
            have rf1 := FAL.f0 1
            have hlx := FAL.lt
            refine wpAnyU_one (i := 9) (by kernel_rfl) rfl ?_
            intro K hK
            go_simp
            have he2 : Below V0.heap.size V0 ((U5.setCell ⟨U4.heap.size, 0, none⟩ (.slice (some ⟨g1, 0, none⟩) 3 c1)).setCell ⟨U4.heap.size, 1, none⟩ (.slice (some ⟨g2, 0, none⟩) 4 4)) := (he.setCell (by dsimp only; omega) _).setCell (by dsimp only; omega) _
            have hS6 : Hid (((U5.setCell ⟨U4.heap.size, 0, none⟩ (.slice (some ⟨g1, 0, none⟩) 3 c1)).setCell ⟨U4.heap.size, 1, none⟩ (.slice (some ⟨g2, 0, none⟩) 4 4)).cell? ⟨u0.heap.size, 0, none⟩ = some (.slice (some ⟨w.heap.size, 0, none⟩) 3 3) ∧ ((U5.setCell ⟨U4.heap.size, 0, none⟩ (.slice (some ⟨g1, 0, none⟩) 3 c1)).setCell ⟨U4.heap.size, 1, none⟩ (.slice (some ⟨g2, 0, none⟩) 4 4)).cell? ⟨u0.heap.size, 1, none⟩ = some (.slice (some ⟨w.heap.size + 1, 0, none⟩) 9 9)) := hide (⟨(HT_t.out.kept he2).c0, (HT_t.out.kept he2).c1⟩)
            refine hK.out _ _ hS6.out (fun _ => ?_)
            clear hK K hS5
            refine wpAnyU_take (i := 10) (oi := { dst := some 3, op := _, type := _, pos := _, after := _, guard := none }) (v := .int .i64 0) rfl (by kernel_rfl) (by kernel_rfl) (by kernel_rfl) (by kernel_rfl) (fun _ _ _ h => h) (yields_take rfl (fun w' hw => by obtain ⟨h1, h2⟩ := hw.const; go_simp)) hS6.out ?_
            simp only [Act.put, List.setIfInBounds_toArray, List.set_cons_zero, List.set_cons_succ]
            refine wpAnyU_done (by kernel_rfl) ?_ _
            clear hS6
            have HEND : Hid (TenAt ((U5.setCell ⟨U4.heap.size, 0, none⟩ (.slice (some ⟨g1, 0, none⟩) 3 c1)).setCell ⟨U4.heap.size, 1, none⟩ (.slice (some ⟨g2, 0, none⟩) 4 4)) U4.heap.size (some ⟨g1, 0, none⟩) (some ⟨g2, 0, none⟩) 3 c1 4 4 [1, 2, 2] [12, 16, 24, 28]) := hide ⟨FAL.set2 _ _, lies_of_own (own_setCell' (own_setCell' FP (by dsimp only; omega) _) (by dsimp only; omega) _), lies_of_own (own_setCell' (own_setCell' FQ (by dsimp only; omega) _) (by dsimp only; omega) _)⟩
            have HE2 := hide he2
            clear FP FQ FAL he he2 r0 r1 rf0 rf1
            go_wp2
            go_meet
            exact ⟨_, _, _, _, rfl, rfl, HEND, HE2⟩
          · intro K hK
            go_simp
            obtain ⟨U6, hU⟩ : ∃ U, U = U3.alloc (.cells #[.slice none 0 0, .slice none 0 0] 25) := ⟨_, rfl⟩
            rw [← hU]
            have hb : Below U3.heap.size U3 U6 := by rw [hU]; exact below_al6 (Below.refl _ _)
            have FAL : BoxT U6 U3.heap.size (.slice none 0 0) (.slice none 0 0) := by rw [hU]; exact BoxT.new U3 _ _
            have hpx : V0.heap.size ≤ U3.heap.size := he.size
            clear hU
            replace FL1 := FL1.below hb
            replace FL2 := FL2.below hb
            replace he : Below V0.heap.size V0 U6 := below_nx6 he hb
            clear hb
            have hS4 : Hid (U6.cell? ⟨u0.heap.size, 0, none⟩ = some (.slice (some ⟨w.heap.size, 0, none⟩) 3 3) ∧ U6.cell? ⟨u0.heap.size, 1, none⟩ = some (.slice (some ⟨w.heap.size + 1, 0, none⟩) 9 9)) := hide (⟨(HT_t.out.kept he).c0, (HT_t.out.kept he).c1⟩)
            refine hK _ _ hS4.out (fun _ => ?_)
            clear hK K hS3
            refine wpAnyU_one (i := 4) (by kernel_rfl) rfl ?_
            intro K hK
            go_simp
            refine Calls.mono (wof_ok (some ⟨w.heap.size, 0, none⟩) (some ⟨w.heap.size + 1, 0, none⟩) (some ⟨U0.heap.size, 0, none⟩) (some ⟨U1.heap.size, 0, none⟩) 3 9 9 4 4 4 1 3 3 1 2 2 2 2 1 0 [1, 2, 3, 4, 5, 6, 7, 8, 9] [1, 1, 1, 1] _ (HT_t.out.S.below he) (HT_t.out.L.below he) FL1 FL2 (by decide +kernel) (by decide +kernel) (by omega) (by decide +kernel) (by decide +kernel)) ?_
            rintro e U7 ⟨g1, c1, g2, rfl, FP, FQ, hne, hb⟩
            dsimp only
            rw [show winL [1, 2, 3, 4, 5, 6, 7, 8, 9] [1, 1, 1, 1] 1 3 3 1 2 2 1 0 2 2 = [12, 16, 24, 28] by decide +kernel] at FQ
            have lt1 := FP.lt g1 rfl
            have lt2 := FQ.lt g2 rfl
            have hzc := he.size
            have hzd := hb.size
            have hltAL := FAL.lt
            clear FL1
            clear FL2
            replace FAL := FAL.kept hb
            replace he : Below V0.heap.size V0 U7 := below_nx6 he hb
            clear hb
            have hS5 : Hid (U7.cell? ⟨u0.heap.size, 0, none⟩ = some (.slice (some ⟨w.heap.size, 0, none⟩) 3 3) ∧ U7.cell? ⟨u0.heap.size, 1, none⟩ = some (.slice (some ⟨w.heap.size + 1, 0, none⟩) 9 9)) := hide (⟨(HT_t.out.kept he).c0, (HT_t.out.kept he).c1⟩)
            refine hK _ _ hS5.out (fun _ => ?_)
            clear hK K hS4
            refine wpAnyU_take (i := 5) (oi := { dst := some 17, op := _, type := _, pos := _, after := _, guard := none }) (v := .tuple #[(tenV (some ⟨g1, 0, none⟩) 3 c1 (some ⟨g2, 0, none⟩) 4 4), .int .i64 0]) rfl (by kernel_rfl) (by kernel_rfl) (by kernel_rfl) (by kernel_rfl) (fun _ _ _ h => h) (yields_take rfl (fun w' hw => by obtain ⟨h1, h2⟩ := hw.const; go_simp)) hS5.out ?_
            simp only [Act.put, List.setIfInBounds_toArray, List.set_cons_zero, List.set_cons_succ]
            refine wpAnyU_take (i := 6) (oi := { dst := some 23, op := _, type := _, pos := _, after := _, guard := none }) (v := (tenV (some ⟨g1, 0, none⟩) 3 c1 (some ⟨g2, 0, none⟩) 4 4)) rfl (by kernel_rfl) (by kernel_rfl) (by kernel_rfl) (by kernel_rfl) (fun _ _ _ h => h) (yields_take rfl (fun w' hw => by obtain ⟨h1, h2⟩ := hw.const; go_simp)) hS5.out ?_
            simp only [Act.put, List.setIfInBounds_toArray, List.set_cons_zero, List.set_cons_succ]
            refine wpAnyU_take (i := 7) (oi := { dst := some 24, op := _, type := _, pos := _, after := _, guard := none }) (v := .int .i64 0) rfl (by kernel_rfl) (by kernel_rfl) (by kernel_rfl) (by kernel_rfl) (fun _ _ _ h => h) (yields_take rfl (fun w' hw => by obtain ⟨h1, h2⟩ := hw.const; go_simp)) hS5.out ?_
            simp only [Act.put, List.setIfInBounds_toArray, List.set_cons_zero, List.set_cons_succ]
            have r0 := FAL.c0
            have r1 := FAL.c1
            have rf0 := FAL.f0 0
            have rf1 := FAL.f0 1
            have hlx := FAL.lt
            refine wpAnyU_one (i := 9) (by kernel_rfl) rfl ?_
            intro K hK
            go_simp
            have he2 : Below V0.heap.size V0 ((U7.setCell ⟨U3.heap.size, 0, none⟩ (.slice (some ⟨g1, 0, none⟩) 3 c1)).setCell ⟨U3.heap.size, 1, none⟩ (.slice (some ⟨g2, 0, none⟩) 4 4)) := (he.setCell (by dsimp only; omega) _).setCell (by dsimp only; omega) _
            have hS6 : Hid (((U7.setCell ⟨U3.heap.size, 0, none⟩ (.slice (some ⟨g1, 0, none⟩) 3 c1)).setCell ⟨U3.heap.size, 1, none⟩ (.slice (some ⟨g2, 0, none⟩) 4 4)).cell? ⟨u0.heap.size, 0, none⟩ = some (.slice (some ⟨w.heap.size, 0, none⟩) 3 3) ∧ ((U7.setCell ⟨U3.heap.size, 0, none⟩ (.slice (some ⟨g1, 0, none⟩) 3 c1)).setCell ⟨U3.heap.size, 1, none⟩ (.slice (some ⟨g2, 0, none⟩) 4 4)).cell? ⟨u0.heap.size, 1, none⟩ = some (.slice (some ⟨w.heap.size + 1, 0, none⟩) 9 9)) := hide (⟨(HT_t.out.kept he2).c0, (HT_t.out.kept he2).c1⟩)
            refine hK.out _ _ hS6.out (fun _ => ?_)
            clear hK K hS5
            refine wpAnyU_take (i := 10) (oi := { dst := some 3, op := _, type := _, pos := _, after := _, guard := none }) (v := .int .i64 0) rfl (by kernel_rfl) (by kernel_rfl) (by kernel_rfl) (by kernel_rfl) (fun _ _ _ h => h) (yields_take rfl (fun w' hw => by obtain ⟨h1, h2⟩ := hw.const; go_simp)) hS6.out ?_
            simp only [Act.put, List.setIfInBounds_toArray, List.set_cons_zero, List.set_cons_succ]
            refine wpAnyU_done (by kernel_rfl) ?_ _
            clear hS6
            have HEND : Hid (TenAt ((U7.setCell ⟨U3.heap.size, 0, none⟩ (.slice (some ⟨g1, 0, none⟩) 3 c1)).setCell ⟨U3.heap.size, 1, none⟩ (.slice (some ⟨g2, 0, none⟩) 4 4)) U3.heap.size (some ⟨g1, 0, none⟩) (some ⟨g2, 0, none⟩) 3 c1 4 4 [1, 2, 2] [12, 16, 24, 28]) := hide ⟨FAL.set2 _ _, lies_of_own (own_setCell' (own_setCell' FP (by dsimp only; omega) _) (by dsimp only; omega) _), lies_of_own (own_setCell' (own_setCell' FQ (by dsimp only; omega) _) (by dsimp only; omega) _)⟩
            have HE2 := hide he2
            clear FP FQ FAL he he2 r0 r1 rf0 rf1
            go_wp2
            go_meet
            exact ⟨_, _, _, _, rfl, rfl, HEND, HE2⟩
        · intro K hK
          go_simp
          obtain ⟨U8, hU⟩ : ∃ U, U = U2.alloc (.cells #[.slice none 0 0, .slice none 0 0] 25) := ⟨_, rfl⟩
          rw [← hU]
          have hb : Below U2.heap.size U2 U8 := by rw [hU]; exact below_al6 (Below.refl _ _)
          have FAL : BoxT U8 U2.heap.size (.slice none 0 0) (.slice none 0 0) := by rw [hU]; exact BoxT.new U2 _ _
          have hpx : V0.heap.size ≤ U2.heap.size := he.size
          clear hU
          replace FL1 := FL1.below hb
          replace FL2 := FL2.below hb
          replace he : Below V0.heap.size V0 U8 := below_nx6 he hb
          clear hb
          have hS3 : Hid (U8.cell? ⟨u0.heap.size, 0, none⟩ = some (.slice (some ⟨w.heap.size, 0, none⟩) 3 3) ∧ U8.cell? ⟨u0.heap.size, 1, none⟩ = some (.slice (some ⟨w.heap.size + 1, 0, none⟩) 9 9)) := hide (⟨(HT_t.out.kept he).c0, (HT_t.out.kept he).c1⟩)
          refine hK _ _ hS3.out (fun _ => ?_)
          clear hK K hS2
          refine wpAnyU_one (i := 3) (by kernel_rfl) rfl ?_
          intro K hK
          go_simp
          refine Calls.mono (of8_any (some ⟨U0.heap.size, 0, none⟩) (some ⟨U1.heap.size, 0, none⟩) 4 4 4 4 _) ?_
          rintro e U9 ⟨rfl, hb⟩
          dsimp only
          have hltAL := FAL.lt
          replace FL1 := FL1.below hb
          replace FL2 := FL2.below hb
          replace FAL := FAL.kept hb
          replace he : Below V0.heap.size V0 U9 := below_nx6 he hb
          clear hb
          have hS4 : Hid (U9.cell? ⟨u0.heap.size, 0, none⟩ = some (.slice (some ⟨w.heap.size, 0, none⟩) 3 3) ∧ U9.cell? ⟨u0.heap.size, 1, none⟩ = some (.slice (some ⟨w.heap.size + 1, 0, none⟩) 9 9)) := hide (⟨(HT_t.out.kept he).c0, (HT_t.out.kept he).c1⟩)
          refine hK _ _ hS4.out (fun _ => ?_)
          clear hK K hS3
          refine wpAnyU_one (i := 4) (by kernel_rfl) rfl ?_
          intro K hK
          go_simp
          refine Calls.mono (wof_ok (some ⟨w.heap.size, 0, none⟩) (some ⟨w.heap.size + 1, 0, none⟩) (some ⟨U0.heap.size, 0, none⟩) (some ⟨U1.heap.size, 0, none⟩) 3 9 9 4 4 4 1 3 3 1 2 2 2 2 1 0 [1, 2, 3, 4, 5, 6, 7, 8, 9] [1, 1, 1, 1] _ (HT_t.out.S.below he) (HT_t.out.L.below he) FL1 FL2 (by decide +kernel) (by decide +kernel) (by omega) (by decide +kernel) (by decide +kernel)) ?_
          rintro e U10 ⟨g1, c1, g2, rfl, FP, FQ, hne, hb⟩
          dsimp only
          rw [show winL [1, 2, 3, 4, 5, 6, 7, 8, 9] [1, 1, 1, 1] 1 3 3 1 2 2 1 0 2 2 = [12, 16, 24, 28] by decide +kernel] at FQ
          have lt1 := FP.lt g1 rfl
          have lt2 := FQ.lt g2 rfl
          have hzc := he.size
          have hzd := hb.size
          have hltAL := FAL.lt
          clear FL1
          clear FL2
          replace FAL := FAL.kept hb
          replace he : Below V0.heap.size V0 U10 := below_nx6 he hb
          clear hb
          have hS5 : Hid (U10.cell? ⟨u0.heap.size, 0, none⟩ = some (.slice (some ⟨w.heap.size, 0, none⟩) 3 3) ∧ U10.cell? ⟨u0.heap.size, 1, none⟩ = some (.slice (some ⟨w.heap.size + 1, 0, none⟩) 9 9)) := hide (⟨(HT_t.out.kept he).c0, (HT_t.out.kept he).c1⟩)
          refine hK _ _ hS5.out (fun _ => ?_)
          clear hK K hS4
          refine wpAnyU_take (i := 5) (oi := { dst := some 17, op := _, type := _, pos := _, after := _, guard := none }) (v := .tuple #[(tenV (some ⟨g1, 0, none⟩) 3 c1 (some ⟨g2, 0, none⟩) 4 4), .int .i64 0]) rfl (by kernel_rfl) (by kernel_rfl) (by kernel_rfl) (by kernel_rfl) (fun _ _ _ h => h) (yields_take rfl (fun w' hw => by obtain ⟨h1, h2⟩ := hw.const; go_simp)) hS5.out ?_
          simp only [Act.put, List.setIfInBounds_toArray, List.set_cons_zero, List.set_cons_succ]
          refine wpAnyU_take (i := 6) (oi := { dst := some 23, op := _, type := _, pos := _, after := _, guard := none }) (v := (tenV (some ⟨g1, 0, none⟩) 3 c1 (some ⟨g2, 0, none⟩) 4 4)) rfl (by kernel_rfl) (by kernel_rfl) (by kernel_rfl) (by kernel_rfl) (fun _ _ _ h => h) (yields_take rfl (fun w' hw => by obtain ⟨h1, h2⟩ := hw.const; go_simp)) hS5.out ?_
          simp only [Act.put, List.setIfInBounds_toArray, List.set_cons_zero, List.set_cons_succ]
          refine wpAnyU_take (i := 7) (oi := { dst := some 24, op := _, type := _, pos := _, after := _, guard := none }) (v := .int .i64 0) rfl (by kernel_rfl) (by kernel_rfl) (by kernel_rfl) (by kernel_rfl) (fun _ _ _ h => h) (yields_take rfl (fun w' hw => by obtain ⟨h1, h2⟩ := hw.const; go_simp)) hS5.out ?_
          simp only [Act.put, List.setIfInBounds_toArray, List.set_cons_zero, List.set_cons_succ]
          have r0 := FAL.c0
          have r1 := FAL.c1
          have rf0 := FAL.f0 0
          have rf1 := FAL.f0 1
          have hlx := FAL.lt
          refine wpAnyU_one (i := 9) (by kernel_rfl) rfl ?_
          intro K hK
          go_simp
          have he2 : Below V0.heap.size V0 ((U10.setCell ⟨U2.heap.size, 0, none⟩ (.slice (some ⟨g1, 0, none⟩) 3 c1)).setCell ⟨U2.heap.size, 1, none⟩ (.slice (some ⟨g2, 0, none⟩) 4 4)) := (he.setCell (by dsimp only; omega) _).setCell (by dsimp only; omega) _
          have hS6 : Hid (((U10.setCell ⟨U2.heap.size, 0, none⟩ (.slice (some ⟨g1, 0, none⟩) 3 c1)).setCell ⟨U2.heap.size, 1, none⟩ (.slice (some ⟨g2, 0, none⟩) 4 4)).cell? ⟨u0.heap.size, 0, none⟩ = some (.slice (some ⟨w.heap.size, 0, none⟩) 3 3) ∧ ((U10.setCell ⟨U2.heap.size, 0, none⟩ (.slice (some ⟨g1, 0, none⟩) 3 c1)).setCell ⟨U2.heap.size, 1, none⟩ (.slice (some ⟨g2, 0, none⟩) 4 4)).cell? ⟨u0.heap.size, 1, none⟩ = some (.slice (some ⟨w.heap.size + 1, 0, none⟩) 9 9)) := hide (⟨(HT_t.out.kept he2).c0, (HT_t.out.kept he2).c1⟩)
          refine hK.out _ _ hS6.out (fun _ => ?_)
          clear hK K hS5
          refine wpAnyU_take (i := 10) (oi := { dst := some 3, op := _, type := _, pos := _, after := _, guard := none }) (v := .int .i64 0) rfl (by kernel_rfl) (by kernel_rfl) (by kernel_rfl) (by kernel_rfl) (fun _ _ _ h => h) (yields_take rfl (fun w' hw => by obtain ⟨h1, h2⟩ := hw.const; go_simp)) hS6.out ?_
          simp only [Act.put, List.setIfInBounds_toArray, List.set_cons_zero, List.set_cons_succ]
          refine wpAnyU_done (by kernel_rfl) ?_ _
          clear hS6
          have HEND : Hid (TenAt ((U10.setCell ⟨U2.heap.size, 0, none⟩ (.slice (some ⟨g1, 0, none⟩) 3 c1)).setCell ⟨U2.heap.size, 1, none⟩ (.slice (some ⟨g2, 0, none⟩) 4 4)) U2.heap.size (some ⟨g1, 0, none⟩) (some ⟨g2, 0, none⟩) 3 c1 4 4 [1, 2, 2] [12, 16, 24, 28]) := hide ⟨FAL.set2 _ _, lies_of_own (own_setCell' (own_setCell' FP (by dsimp only; omega) _) (by dsimp only; omega) _), lies_of_own (own_setCell' (own_setCell' FQ (by dsimp only; omega) _) (by dsimp only; omega) _)⟩
          have HE2 := hide he2
          clear FP FQ FAL he he2 r0 r1 rf0 rf1
          go_wp2
          go_meet
          exact ⟨_, _, _, _, rfl, rfl, HEND, HE2⟩
      · intro K hK
        go_simp
        obtain ⟨U11, hU⟩ : ∃ U, U = U1.alloc (.cells #[.slice none 0 0, .slice none 0 0] 25) := ⟨_, rfl⟩
        rw [← hU]
        have hb : Below U1.heap.size U1 U11 := by rw [hU]; exact below_al6 (Below.refl _ _)
        have FAL : BoxT U11 U1.heap.size (.slice none 0 0) (.slice none 0 0) := by rw [hU]; exact BoxT.new U1 _ _
        have hpx : V0.heap.size ≤ U1.heap.size := he.size
        clear hU
        replace FL1 := FL1.below hb
        replace he : Below V0.heap.size V0 U11 := below_nx6 he hb
        clear hb
        have hS2 : Hid (U11.cell? ⟨u0.heap.size, 0, none⟩ = some (.slice (some ⟨w.heap.size, 0, none⟩) 3 3) ∧ U11.cell? ⟨u0.heap.size, 1, none⟩ = some (.slice (some ⟨w.heap.size + 1, 0, none⟩) 9 9)) := hide (⟨(HT_t.out.kept he).c0, (HT_t.out.kept he).c1⟩)
        refine hK _ _ hS2.out (fun _ => ?_)
        clear hK K hS1
        refine wpAnyU_one (i := 2) (by kernel_rfl) rfl ?_
        intro K hK
        go_simp
        obtain ⟨U12, hU⟩ : ∃ U, U = U11.alloc (.cells #[.int .i32 1, .int .i32 1, .int .i32 1, .int .i32 1] 21) := ⟨_, rfl⟩
        rw [← hU]
        have hb : Below U11.heap.size U11 U12 := by rw [hU]; exact below_al6 (Below.refl _ _)
        have FL2 : Lies U12 (some ⟨U11.heap.size, 0, none⟩) 4 (([1, 1, 1, 1] : List Int).map (Value.int .i32)) := by rw [hU]; exact lit_lies U11 .i32 ([1, 1, 1, 1] : List Int) 21
        clear hU
        replace FL1 := FL1.below hb
        replace FAL := FAL.kept hb
        replace he : Below V0.heap.size V0 U12 := below_nx6 he hb
        clear hb
        have hS3 : Hid (U12.cell? ⟨u0.heap.size, 0, none⟩ = some (.slice (some ⟨w.heap.size, 0, none⟩) 3 3) ∧ U12.cell? ⟨u0.heap.size, 1, none⟩ = some (.slice (some ⟨w.heap.size + 1, 0, none⟩) 9 9)) := hide (⟨(HT_t.out.kept he).c0, (HT_t.out.kept he).c1⟩)
        refine hK _ _ hS3.out (fun _ => ?_)
        clear hK K hS2
        refine wpAnyU_one (i := 3) (by kernel_rfl) rfl ?_
        intro K hK
        go_simp
        refine Calls.mono (of8_any (some ⟨U0.heap.size, 0, none⟩) (some ⟨U11.heap.size, 0, none⟩) 4 4 4 4 _) ?_
        rintro e U13 ⟨rfl, hb⟩
        dsimp only
        have hltAL := FAL.lt
        replace FL1 := FL1.below hb
        replace FAL := FAL.kept hb
        replace FL2 := FL2.below hb
        replace he : Below V0.heap.size V0 U13 := below_nx6 he hb
        clear hb
        have hS4 : Hid (U13.cell? ⟨u0.heap.size, 0, none⟩ = some (.slice (some ⟨w.heap.size, 0, none⟩) 3 3) ∧ U13.cell? ⟨u0.heap.size, 1, none⟩ = some (.slice (some ⟨w.heap.size + 1, 0, none⟩) 9 9)) := hide (⟨(HT_t.out.kept he).c0, (HT_t.out.kept he).c1⟩)
        refine hK _ _ hS4.out (fun _ => ?_)
        clear hK K hS3
        refine wpAnyU_one (i := 4) (by kernel_rfl) rfl ?_
        intro K hK
        go_simp
        refine Calls.mono (wof_ok (some ⟨w.heap.size, 0, none⟩) (some ⟨w.heap.size + 1, 0, none⟩) (some ⟨U0.heap.size, 0, none⟩) (some ⟨U11.heap.size, 0, none⟩) 3 9 9 4 4 4 1 3 3 1 2 2 2 2 1 0 [1, 2, 3, 4, 5, 6, 7, 8, 9] [1, 1, 1, 1] _ (HT_t.out.S.below he) (HT_t.out.L.below he) FL1 FL2 (by decide +kernel) (by decide +kernel) (by omega) (by decide +kernel) (by decide +kernel)) ?_
        rintro e U14 ⟨g1, c1, g2, rfl, FP, FQ, hne, hb⟩
        dsimp only
        rw [show winL [1, 2, 3, 4, 5, 6, 7, 8, 9] [1, 1, 1, 1] 1 3 3 1 2 2 1 0 2 2 = [12, 16, 24, 28] by decide +kernel] at FQ
        have lt1 := FP.lt g1 rfl
        have lt2 := FQ.lt g2 rfl
        have hzc := he.size
        have hzd := hb.size
        have hltAL := FAL.lt
        clear FL1
        replace FAL := FAL.kept hb
        clear FL2
        replace he : Below V0.heap.size V0 U14 := below_nx6 he hb
        clear hb
        have hS5 : Hid (U14.cell? ⟨u0.heap.size, 0, none⟩ = some (.slice (some ⟨w.heap.size, 0, none⟩) 3 3) ∧ U14.cell? ⟨u0.heap.size, 1, none⟩ = some (.slice (some ⟨w.heap.size + 1, 0, none⟩) 9 9)) := hide (⟨(HT_t.out.kept he).c0, (HT_t.out.kept he).c1⟩)
        refine hK _ _ hS5.out (fun _ => ?_)
        clear hK K hS4
        refine wpAnyU_take (i := 5) (oi := { dst := some 17, op := _, type := _, pos := _, after := _, guard := none }) (v := .tuple #[(tenV (some ⟨g1, 0, none⟩) 3 c1 (some ⟨g2, 0, none⟩) 4 4), .int .i64 0]) rfl (by kernel_rfl) (by kernel_rfl) (by kernel_rfl) (by kernel_rfl) (fun _ _ _ h => h) (yields_take rfl (fun w' hw => by obtain ⟨h1, h2⟩ := hw.const; go_simp)) hS5.out ?_
        simp only [Act.put, List.setIfInBounds_toArray, List.set_cons_zero, List.set_cons_succ]
        refine wpAnyU_take (i := 6) (oi := { dst := some 23, op := _, type := _, pos := _, after := _, guard := none }) (v := (tenV (some ⟨g1, 0, none⟩) 3 c1 (some ⟨g2, 0, none⟩) 4 4)) rfl (by kernel_rfl) (by kernel_rfl) (by kernel_rfl) (by kernel_rfl) (fun _ _ _ h => h) (yields_take rfl (fun w' hw => by obtain ⟨h1, h2⟩ := hw.const; go_simp)) hS5.out ?_
        simp only [Act.put, List.setIfInBounds_toArray, List.set_cons_zero, List.set_cons_succ]
        refine wpAnyU_take (i := 7) (oi := { dst := some 24, op := _, type := _, pos := _, after := _, guard := none }) (v := .int .i64 0) rfl (by kernel_rfl) (by kernel_rfl) (by kernel_rfl) (by kernel_rfl) (fun _ _ _ h => h) (yields_take rfl (fun w' hw => by obtain ⟨h1, h2⟩ := hw.const; go_simp)) hS5.out ?_
        simp only [Act.put, List.setIfInBounds_toArray, List.set_cons_zero, List.set_cons_succ]
        have r0 := FAL.c0
        have r1 := FAL.c1
        have rf0 := FAL.f0 0
        have rf1 := FAL.f0 1
        have hlx := FAL.lt
        refine wpAnyU_one (i := 9) (by kernel_rfl) rfl ?_
        intro K hK
        go_simp
        have he2 : Below V0.heap.size V0 ((U14.setCell ⟨U1.heap.size, 0, none⟩ (.slice (some ⟨g1, 0, none⟩) 3 c1)).setCell ⟨U1.heap.size, 1, none⟩ (.slice (some ⟨g2, 0, none⟩) 4 4)) := (he.setCell (by dsimp only; omega) _).setCell (by dsimp only; omega) _
        have hS6 : Hid (((U14.setCell ⟨U1.heap.size, 0, none⟩ (.slice (some ⟨g1, 0, none⟩) 3 c1)).setCell ⟨U1.heap.size, 1, none⟩ (.slice (some ⟨g2, 0, none⟩) 4 4)).cell? ⟨u0.heap.size, 0, none⟩ = some (.slice (some ⟨w.heap.size, 0, none⟩) 3 3) ∧ ((U14.setCell ⟨U1.heap.size, 0, none⟩ (.slice (some ⟨g1, 0, none⟩) 3 c1)).setCell ⟨U1.heap.size, 1, none⟩ (.slice (some ⟨g2, 0, none⟩) 4 4)).cell? ⟨u0.heap.size, 1, none⟩ = some (.slice (some ⟨w.heap.size + 1, 0, none⟩) 9 9)) := hide (⟨(HT_t.out.kept he2).c0, (HT_t.out.kept he2).c1⟩)
        refine hK.out _ _ hS6.out (fun _ => ?_)
        clear hK K hS5
        refine wpAnyU_take (i := 10) (oi := { dst := some 3, op := _, type := _, pos := _, after := _, guard := none }) (v := .int .i64 0) rfl (by kernel_rfl) (by kernel_rfl) (by kernel_rfl) (by kernel_rfl) (fun _ _ _ h => h) (yields_take rfl (fun w' hw => by obtain ⟨h1, h2⟩ := hw.const; go_simp)) hS6.out ?_
        simp only [Act.put, List.setIfInBounds_toArray, List.set_cons_zero, List.set_cons_succ]
        refine wpAnyU_done (by kernel_rfl) ?_ _
        clear hS6
        have HEND : Hid (TenAt ((U14.setCell ⟨U1.heap.size, 0, none⟩ (.slice (some ⟨g1, 0, none⟩) 3 c1)).setCell ⟨U1.heap.size, 1, none⟩ (.slice (some ⟨g2, 0, none⟩) 4 4)) U1.heap.size (some ⟨g1, 0, none⟩) (some ⟨g2, 0, none⟩) 3 c1 4 4 [1, 2, 2] [12, 16, 24, 28]) := hide ⟨FAL.set2 _ _, lies_of_own (own_setCell' (own_setCell' FP (by dsimp only; omega) _) (by dsimp only; omega) _), lies_of_own (own_setCell' (own_setCell' FQ (by dsimp only; omega) _) (by dsimp only; omega) _)⟩
        have HE2 := hide he2
        clear FP FQ FAL he he2 r0 r1 rf0 rf1
        go_wp2
        go_meet
        exact ⟨_, _, _, _, rfl, rfl, HEND, HE2⟩
    · intro K hK
      go_simp
      obtain ⟨U15, hU⟩ : ∃ U, U = U0.alloc (.cells #[.int .i32 1, .int .i32 1, .int .i32 1, .int .i32 1] 21) := ⟨_, rfl⟩
      rw [← hU]
      have hb : Below U0.heap.size U0 U15 := by rw [hU]; exact below_al6 (Below.refl _ _)
      have FL2 : Lies U15 (some ⟨U0.heap.size, 0, none⟩) 4 (([1, 1, 1, 1] : List Int).map (Value.int .i32)) := by rw [hU]; exact lit_lies U0 .i32 ([1, 1, 1, 1] : List Int) 21
      clear hU
      replace he : Below V0.heap.size V0 U15 := below_nx6 he hb
      clear hb
      have hS1 : Hid (U15.cell? ⟨u0.heap.size, 0, none⟩ = some (.slice (some ⟨w.heap.size, 0, none⟩) 3 3) ∧ U15.cell? ⟨u0.heap.size, 1, none⟩ = some (.slice (some ⟨w.heap.size + 1, 0, none⟩) 9 9)) := hide (⟨(HT_t.out.kept he).c0, (HT_t.out.kept he).c1⟩)
      refine hK _ _ hS1.out (fun _ => ?_)
      clear hK K hS0
      refine wpAnyU_or (i := 1) (j := 8) (by kernel_rfl) rfl rfl ?_ ?_
      · intro K hK
        go_simp
        obtain ⟨U16, hU⟩ : ∃ U, U = U15.alloc (.cells #[.int .i64 1, .int .i64 1, .int .i64 2, .int .i64 2] 3) := ⟨_, rfl⟩
        rw [← hU]
        have hb : Below U15.heap.size U15 U16 := by rw [hU]; exact below_al6 (Below.refl _ _)
        have FL1 : Lies U16 (some ⟨U15.heap.size, 0, none⟩) 4 (([1, 1, 2, 2] : List Int).map (Value.int .i64)) := by rw [hU]; exact lit_lies U15 .i64 ([1, 1, 2, 2] : List Int) 3
        clear hU
        replace FL2 := FL2.below hb
        replace he : Below V0.heap.size V0 U16 := below_nx6 he hb
        clear hb
        have hS2 : Hid (U16.cell? ⟨u0.heap.size, 0, none⟩ = some (.slice (some ⟨w.heap.size, 0, none⟩) 3 3) ∧ U16.cell? ⟨u0.heap.size, 1, none⟩ = some (.slice (some ⟨w.heap.size + 1, 0, none⟩) 9 9)) := hide (⟨(HT_t.out.kept he).c0, (HT_t.out.kept he).c1⟩)
        refine hK _ _ hS2.out (fun _ => ?_)
        clear hK K hS1
        refine wpAnyU_or (i := 3) (j := 8) (by kernel_rfl) rfl rfl ?_ ?_
        · intro K hK
          go_simp
          refine Calls.mono (of8_any (some ⟨U15.heap.size, 0, none⟩) (some ⟨U0.heap.size, 0, none⟩) 4 4 4 4 _) ?_
          rintro e U17 ⟨rfl, hb⟩
          dsimp only
          replace FL2 := FL2.below hb
          replace FL1 := FL1.below hb
          replace he : Below V0.heap.size V0 U17 := below_nx6 he hb
          clear hb
          have hS3 : Hid (U17.cell? ⟨u0.heap.size, 0, none⟩ = some (.slice (some ⟨w.heap.size, 0, none⟩) 3 3) ∧ U17.cell? ⟨u0.heap.size, 1, none⟩ = some (.slice (some ⟨w.heap.size + 1, 0, none⟩) 9 9)) := hide (⟨(HT_t.out.kept he).c0, (HT_t.out.kept he).c1⟩)
          refine hK _ _ hS3.out (fun _ => ?_)
          clear hK K hS2
          refine wpAnyU_or (i := 4) (j := 8) (by kernel_rfl) rfl rfl ?_ ?_
          · intro K hK
            go_simp
            refine Calls.mono (wof_ok (some ⟨w.heap.size, 0, none⟩) (some ⟨w.heap.size + 1, 0, none⟩) (some ⟨U15.heap.size, 0, none⟩) (some ⟨U0.heap.size, 0, none⟩) 3 9 9 4 4 4 1 3 3 1 2 2 2 2 1 0 [1, 2, 3, 4, 5, 6, 7, 8, 9] [1, 1, 1, 1] _ (HT_t.out.S.below he) (HT_t.out.L.below he) FL1 FL2 (by decide +kernel) (by decide +kernel) (by omega) (by decide +kernel) (by decide +kernel)) ?_
            rintro e U18 ⟨g1, c1, g2, rfl, FP, FQ, hne, hb⟩
            dsimp only
            rw [show winL [1, 2, 3, 4, 5, 6, 7, 8, 9] [1, 1, 1, 1] 1 3 3 1 2 2 1 0 2 2 = [12, 16, 24, 28] by decide +kernel] at FQ
            have lt1 := FP.lt g1 rfl
            have lt2 := FQ.lt g2 rfl
            have hzc := he.size
            have hzd := hb.size
            clear FL2
            clear FL1
            replace he : Below V0.heap.size V0 U18 := below_nx6 he hb
            clear hb
            have hS4 : Hid (U18.cell? ⟨u0.heap.size, 0, none⟩ = some (.slice (some ⟨w.heap.size, 0, none⟩) 3 3) ∧ U18.cell? ⟨u0.heap.size, 1, none⟩ = some (.slice (some ⟨w.heap.size + 1, 0, none⟩) 9 9)) := hide (⟨(HT_t.out.kept he).c0, (HT_t.out.kept he).c1⟩)
            refine hK _ _ hS4.out (fun _ => ?_)
            clear hK K hS3
            refine wpAnyU_take (i := 5) (oi := { dst := some 17, op := _, type := _, pos := _, after := _, guard := none }) (v := .tuple #[(tenV (some ⟨g1, 0, none⟩) 3 c1 (some ⟨g2, 0, none⟩) 4 4), .int .i64 0]) rfl (by kernel_rfl) (by kernel_rfl) (by kernel_rfl) (by kernel_rfl) (fun _ _ _ h => h) (yields_take rfl (fun w' hw => by obtain ⟨h1, h2⟩ := hw.const; go_simp)) hS4.out ?_
            simp only [Act.put, List.setIfInBounds_toArray, List.set_cons_zero, List.set_cons_succ]
            refine wpAnyU_take (i := 6) (oi := { dst := some 23, op := _, type := _, pos := _, after := _, guard := none }) (v := (tenV (some ⟨g1, 0, none⟩) 3 c1 (some ⟨g2, 0, none⟩) 4 4)) rfl (by kernel_rfl) (by kernel_rfl) (by kernel_rfl) (by kernel_rfl) (fun _ _ _ h => h) (yields_take rfl (fun w' hw => by obtain ⟨h1, h2⟩ := hw.const; go_simp)) hS4.out ?_
            simp only [Act.put, List.setIfInBounds_toArray, List.set_cons_zero, List.set_cons_succ]
            refine wpAnyU_take (i := 7) (oi := { dst := some 24, op := _, type := _, pos := _, after := _, guard := none }) (v := .int .i64 0) rfl (by kernel_rfl) (by kernel_rfl) (by kernel_rfl) (by kernel_rfl) (fun _ _ _ h => h) (yields_take rfl (fun w' hw => by obtain ⟨h1, h2⟩ := hw.const; go_simp)) hS4.out ?_
            simp only [Act.put, List.setIfInBounds_toArray, List.set_cons_zero, List.set_cons_succ]
            refine wpAnyU_one (i := 8) (by kernel_rfl) rfl ?_
            intro K hK
            go_simp
            obtain ⟨U19, hU⟩ : ∃ U, U = U18.alloc (.cells #[.slice none 0 0, .slice none 0 0] 25) := ⟨_, rfl⟩
            rw [← hU]
            have hb : Below U18.heap.size U18 U19 := by rw [hU]; exact below_al6 (Below.refl _ _)
            have FAL : BoxT U19 U18.heap.size (.slice none 0 0) (.slice none 0 0) := by rw [hU]; exact BoxT.new U18 _ _
            have hpx : V0.heap.size ≤ U18.heap.size := he.size
            clear hU
            replace FP := own_below FP hb
            replace FQ := own_below FQ hb
            replace he : Below V0.heap.size V0 U19 := below_nx6 he hb
            clear hb
            have hS5 : Hid (U19.cell? ⟨u0.heap.size, 0, none⟩ = some (.slice (some ⟨w.heap.size, 0, none⟩) 3 3) ∧ U19.cell? ⟨u0.heap.size, 1, none⟩ = some (.slice (some ⟨w.heap.size + 1, 0, none⟩) 9 9)) := hide (⟨(HT_t.out.kept he).c0, (HT_t.out.kept he).c1⟩)
            refine hK _ _ hS5.out (fun _ => ?_)
            clear hK K hS4
            have r0 := FAL.c0
            have r1 := FAL.c1
            have rf0 := FAL.f0 0
            have rf1 := FAL.f0 1
            have hlx := FAL.lt
            refine wpAnyU_one (i := 9) (by kernel_rfl) rfl ?_
            intro K hK
            go_simp
            have he2 : Below V0.heap.size V0 ((U19.setCell ⟨U18.heap.size, 0, none⟩ (.slice (some ⟨g1, 0, none⟩) 3 c1)).setCell ⟨U18.heap.size, 1, none⟩ (.slice (some ⟨g2, 0, none⟩) 4 4)) := (he.setCell (by dsimp only; omega) _).setCell (by dsimp only; omega) _
            have hS6 : Hid (((U19.setCell ⟨U18.heap.size, 0, none⟩ (.slice (some ⟨g1, 0, none⟩) 3 c1)).setCell ⟨U18.heap.size, 1, none⟩ (.slice (some ⟨g2, 0, none⟩) 4 4)).cell? ⟨u0.heap.size, 0, none⟩ = some (.slice (some ⟨w.heap.size, 0, none⟩) 3 3) ∧ ((U19.setCell ⟨U18.heap.size, 0, none⟩ (.slice (some ⟨g1, 0, none⟩) 3 c1)).setCell ⟨U18.heap.size, 1, none⟩ (.slice (some ⟨g2, 0, none⟩) 4 4)).cell? ⟨u0.heap.size, 1, none⟩ = some (.slice (some ⟨w.heap.size + 1, 0, none⟩) 9 9)) := hide (⟨(HT_t.out.kept he2).c0, (HT_t.out.kept he2).c1⟩)
            refine hK.out _ _ hS6.out (fun _ => ?_)
            clear hK K hS5
            refine wpAnyU_take (i := 10) (oi := { dst := some 3, op := _, type := _, pos := _, after := _, guard := none }) (v := .int .i64 0) rfl (by kernel_rfl) (by kernel_rfl) (by kernel_rfl) (by kernel_rfl) (fun _ _ _ h => h) (yields_take rfl (fun w' hw => by obtain ⟨h1, h2⟩ := hw.const; go_simp)) hS6.out ?_
            simp only [Act.put, List.setIfInBounds_toArray, List.set_cons_zero, List.set_cons_succ]
            refine wpAnyU_done (by kernel_rfl) ?_ _
            clear hS6
            have HEND : Hid (TenAt ((U19.setCell ⟨U18.heap.size, 0, none⟩ (.slice (some ⟨g1, 0, none⟩) 3 c1)).setCell ⟨U18.heap.size, 1, none⟩ (.slice (some ⟨g2, 0, none⟩) 4 4)) U18.heap.size (some ⟨g1, 0, none⟩) (some ⟨g2, 0, none⟩) 3 c1 4 4 [1, 2, 2] [12, 16, 24, 28]) := hide ⟨FAL.set2 _ _, lies_of_own (own_setCell' (own_setCell' FP (by dsimp only; omega) _) (by dsimp only; omega) _), lies_of_own (own_setCell' (own_setCell' FQ (by dsimp only; omega) _) (by dsimp only; omega) _)⟩
            have HE2 := hide he2
            clear FP FQ FAL he he2 r0 r1 rf0 rf1
            go_wp2
            go_meet
            exact ⟨_, _, _, _, rfl, rfl, HEND, HE2⟩
          · intro K hK
            go_simp
            obtain ⟨U20, hU⟩ : ∃ U, U = U17.alloc (.cells #[.slice none 0 0, .slice none 0 0] 25) := ⟨_, rfl⟩
            rw [← hU]
            have hb : Below U17.heap.size U17 U20 := by rw [hU]; exact below_al6 (Below.refl _ _)
            have FAL : BoxT U20 U17.heap.size (.slice none 0 0) (.slice none 0 0) := by rw [hU]; exact BoxT.new U17 _ _
            have hpx : V0.heap.size ≤ U17.heap.size := he.size
            clear hU
            replace FL2 := FL2.below hb
            replace FL1 := FL1.below hb
            replace he : Below V0.heap.size V0 U20 := below_nx6 he hb
            clear hb
            have hS4 : Hid (U20.cell? ⟨u0.heap.size, 0, none⟩ = some (.slice (some ⟨w.heap.size, 0, none⟩) 3 3) ∧ U20.cell? ⟨u0.heap.size, 1, none⟩ = some (.slice (some ⟨w.heap.size + 1, 0, none⟩) 9 9)) := hide (⟨(HT_t.out.kept he).c0, (HT_t.out.kept he).c1⟩)
            refine hK _ _ hS4.out (fun _ => ?_)
            clear hK K hS3
            refine wpAnyU_one (i := 4) (by kernel_rfl) rfl ?_
            intro K hK
            go_simp
            refine Calls.mono (wof_ok (some ⟨w.heap.size, 0, none⟩) (some ⟨w.heap.size + 1, 0, none⟩) (some ⟨U15.heap.size, 0, none⟩) (some ⟨U0.heap.size, 0, none⟩) 3 9 9 4 4 4 1 3 3 1 2 2 2 2 1 0 [1, 2, 3, 4, 5, 6, 7, 8, 9] [1, 1, 1, 1] _ (HT_t.out.S.below he) (HT_t.out.L.below he) FL1 FL2 (by decide +kernel) (by decide +kernel) (by omega) (by decide +kernel) (by decide +kernel)) ?_
            rintro e U21 ⟨g1, c1, g2, rfl, FP, FQ, hne, hb⟩
            dsimp only
            rw [show winL [1, 2, 3, 4, 5, 6, 7, 8, 9] [1, 1, 1, 1] 1 3 3 1 2 2 1 0 2 2 = [12, 16, 24, 28] by decide +kernel] at FQ
            have lt1 := FP.lt g1 rfl
            have lt2 := FQ.lt g2 rfl
            have hzc := he.size
            have hzd := hb.size
            have hltAL := FAL.lt
            clear FL2
            clear FL1
            replace FAL := FAL.kept hb
            replace he : Below V0.heap.size V0 U21 := below_nx6 he hb
            clear hb
            have hS5 : Hid (U21.cell? ⟨u0.heap.size, 0, none⟩ = some (.slice (some ⟨w.heap.size, 0, none⟩) 3 3) ∧ U21.cell? ⟨u0.heap.size, 1, none⟩ = some (.slice (some ⟨w.heap.size + 1, 0, none⟩) 9 9)) := hide (⟨(HT_t.out.kept he).c0, (HT_t.out.kept he).c1⟩)
            refine hK _ _ hS5.out (fun _ => ?_)
            clear hK K hS4
            refine wpAnyU_take (i := 5) (oi := { dst := some 17, op := _, type := _, pos := _, after := _, guard := none }) (v := .tuple #[(tenV (some ⟨g1, 0, none⟩) 3 c1 (some ⟨g2, 0, none⟩) 4 4), .int .i64 0]) rfl (by kernel_rfl) (by kernel_rfl) (by kernel_rfl) (by kernel_rfl) (fun _ _ _ h => h) (yields_take rfl (fun w' hw => by obtain ⟨h1, h2⟩ := hw.const; go_simp)) hS5.out ?_
            simp only [Act.put, List.setIfInBounds_toArray, List.set_cons_zero, List.set_cons_succ]
            refine wpAnyU_take (i := 6) (oi := { dst := some 23, op := _, type := _, pos := _, after := _, guard := none }) (v := (tenV (some ⟨g1, 0, none⟩) 3 c1 (some ⟨g2, 0, none⟩) 4 4)) rfl (by kernel_rfl) (by kernel_rfl) (by kernel_rfl) (by kernel_rfl) (fun _ _ _ h => h) (yields_take rfl (fun w' hw => by obtain ⟨h1, h2⟩ := hw.const; go_simp)) hS5.out ?_
            simp only [Act.put, List.setIfInBounds_toArray, List.set_cons_zero, List.set_cons_succ]
            refine wpAnyU_take (i := 7) (oi := { dst := some 24, op := _, type := _, pos := _, after := _, guard := none }) (v := .int .i64 0) rfl (by kernel_rfl) (by kernel_rfl) (by kernel_rfl) (by kernel_rfl) (fun _ _ _ h => h) (yields_take rfl (fun w' hw => by obtain ⟨h1, h2⟩ := hw.const; go_simp)) hS5.out ?_
            simp only [Act.put, List.setIfInBounds_toArray, List.set_cons_zero, List.set_cons_succ]
            have r0 := FAL.c0
            have r1 := FAL.c1
            have rf0 := FAL.f0 0
            have rf1 := FAL.f0 1
            have hlx := FAL.lt
            refine wpAnyU_one (i := 9) (by kernel_rfl) rfl ?_
            intro K hK
            go_simp
            have he2 : Below V0.heap.size V0 ((U21.setCell ⟨U17.heap.size, 0, none⟩ (.slice (some ⟨g1, 0, none⟩) 3 c1)).setCell ⟨U17.heap.size, 1, none⟩ (.slice (some ⟨g2, 0, none⟩) 4 4)) := (he.setCell (by dsimp only; omega) _).setCell (by dsimp only; omega) _
            have hS6 : Hid (((U21.setCell ⟨U17.heap.size, 0, none⟩ (.slice (some ⟨g1, 0, none⟩) 3 c1)).setCell ⟨U17.heap.size, 1, none⟩ (.slice (some ⟨g2, 0, none⟩) 4 4)).cell? ⟨u0.heap.size, 0, none⟩ = some (.slice (some ⟨w.heap.size, 0, none⟩) 3 3) ∧ ((U21.setCell ⟨U17.heap.size, 0, none⟩ (.slice (some ⟨g1, 0, none⟩) 3 c1)).setCell ⟨U17.heap.size, 1, none⟩ (.slice (some ⟨g2, 0, none⟩) 4 4)).cell? ⟨u0.heap.size, 1, none⟩ = some (.slice (some ⟨w.heap.size + 1, 0, none⟩) 9 9)) := hide (⟨(HT_t.out.kept he2).c0, (HT_t.out.kept he2).c1⟩)
            refine hK.out _ _ hS6.out (fun _ => ?_)
            clear hK K hS5
            refine wpAnyU_take (i := 10) (oi := { dst := some 3, op := _, type := _, pos := _, after := _, guard := none }) (v := .int .i64 0) rfl (by kernel_rfl) (by kernel_rfl) (by kernel_rfl) (by kernel_rfl) (fun _ _ _ h => h) (yields_take rfl (fun w' hw => by obtain ⟨h1, h2⟩ := hw.const; go_simp)) hS6.out ?_
            simp only [Act.put, List.setIfInBounds_toArray, List.set_cons_zero, List.set_cons_succ]
            refine wpAnyU_done (by kernel_rfl) ?_ _
            clear hS6
            have HEND : Hid (TenAt ((U21.setCell ⟨U17.heap.size, 0, none⟩ (.slice (some ⟨g1, 0, none⟩) 3 c1)).setCell ⟨U17.heap.size, 1, none⟩ (.slice (some ⟨g2, 0, none⟩) 4 4)) U17.heap.size (some ⟨g1, 0, none⟩) (some ⟨g2, 0, none⟩) 3 c1 4 4 [1, 2, 2] [12, 16, 24, 28]) := hide ⟨FAL.set2 _ _, lies_of_own (own_setCell' (own_setCell' FP (by dsimp only; omega) _) (by dsimp only; omega) _), lies_of_own (own_setCell' (own_setCell' FQ (by dsimp only; omega) _) (by dsimp only; omega) _)⟩
            have HE2 := hide he2
            clear FP FQ FAL he he2 r0 r1 rf0 rf1
            go_wp2
            go_meet
            exact ⟨_, _, _, _, rfl, rfl, HEND, HE2⟩
        · intro K hK
          go_simp
          obtain ⟨U22, hU⟩ : ∃ U, U = U16.alloc (.cells #[.slice none 0 0, .slice none 0 0] 25) := ⟨_, rfl⟩
          rw [← hU]
          have hb : Below U16.heap.size U16 U22 := by rw [hU]; exact below_al6 (Below.refl _ _)
          have FAL : BoxT U22 U16.heap.size (.slice none 0 0) (.slice none 0 0) := by rw [hU]; exact BoxT.new U16 _ _
          have hpx : V0.heap.size ≤ U16.heap.size := he.size
          clear hU
          replace FL2 := FL2.below hb
          replace FL1 := FL1.below hb
          replace he : Below V0.heap.size V0 U22 := below_nx6 he hb
          clear hb
          have hS3 : Hid (U22.cell? ⟨u0.heap.size, 0, none⟩ = some (.slice (some ⟨w.heap.size, 0, none⟩) 3 3) ∧ U22.cell? ⟨u0.heap.size, 1, none⟩ = some (.slice (some ⟨w.heap.size + 1, 0, none⟩) 9 9)) := hide (⟨(HT_t.out.kept he).c0, (HT_t.out.kept he).c1⟩)
          refine hK _ _ hS3.out (fun _ => ?_)
          clear hK K hS2
          refine wpAnyU_one (i := 3) (by kernel_rfl) rfl ?_
          intro K hK
          go_simp
          refine Calls.mono (of8_any (some ⟨U15.heap.size, 0, none⟩) (some ⟨U0.heap.size, 0, none⟩) 4 4 4 4 _) ?_
          rintro e U23 ⟨rfl, hb⟩
          dsimp only
          have hltAL := FAL.lt
          replace FL2 := FL2.below hb
          replace FL1 := FL1.below hb
          replace FAL := FAL.kept hb
          replace he : Below V0.heap.size V0 U23 := below_nx6 he hb
          clear hb
          have hS4 : Hid (U23.cell? ⟨u0.heap.size, 0, none⟩ = some (.slice (some ⟨w.heap.size, 0, none⟩) 3 3) ∧ U23.cell? ⟨u0.heap.size, 1, none⟩ = some (.slice (some ⟨w.heap.size + 1, 0, none⟩) 9 9)) := hide (⟨(HT_t.out.kept he).c0, (HT_t.out.kept he).c1⟩)
          refine hK _ _ hS4.out (fun _ => ?_)
          clear hK K hS3
          refine wpAnyU_one (i := 4) (by kernel_rfl) rfl ?_
          intro K hK
          go_simp
          refine Calls.mono (wof_ok (some ⟨w.heap.size, 0, none⟩) (some ⟨w.heap.size + 1, 0, none⟩) (some ⟨U15.heap.size, 0, none⟩) (some ⟨U0.heap.size, 0, none⟩) 3 9 9 4 4 4 1 3 3 1 2 2 2 2 1 0 [1, 2, 3, 4, 5, 6, 7, 8, 9] [1, 1, 1, 1] _ (HT_t.out.S.below he) (HT_t.out.L.below he) FL1 FL2 (by decide +kernel) (by decide +kernel) (by omega) (by decide +kernel) (by decide +kernel)) ?_
          rintro e U24 ⟨g1, c1, g2, rfl, FP, FQ, hne, hb⟩
          dsimp only
          rw [show winL [1, 2, 3, 4, 5, 6, 7, 8, 9] [1, 1, 1, 1] 1 3 3 1 2 2 1 0 2 2 = [12, 16, 24, 28] by decide +kernel] at FQ
          have lt1 := FP.lt g1 rfl
          have lt2 := FQ.lt g2 rfl
          have hzc := he.size
          have hzd := hb.size
          have hltAL := FAL.lt
          clear FL2
          clear FL1
          replace FAL := FAL.kept hb
          replace he : Below V0.heap.size V0 U24 := below_nx6 he hb
          clear hb
          have hS5 : Hid (U24.cell? ⟨u0.heap.size, 0, none⟩ = some (.slice (some ⟨w.heap.size, 0, none⟩) 3 3) ∧ U24.cell? ⟨u0.heap.size, 1, none⟩ = some (.slice (some ⟨w.heap.size + 1, 0, none⟩) 9 9)) := hide (⟨(HT_t.out.kept he).c0, (HT_t.out.kept he).c1⟩)
          refine hK _ _ hS5.out (fun _ => ?_)
          clear hK K hS4
          refine wpAnyU_take (i := 5) (oi := { dst := some 17, op := _, type := _, pos := _, after := _, guard := none }) (v := .tuple #[(tenV (some ⟨g1, 0, none⟩) 3 c1 (some ⟨g2, 0, none⟩) 4 4), .int .i64 0]) rfl (by kernel_rfl) (by kernel_rfl) (by kernel_rfl) (by kernel_rfl) (fun _ _ _ h => h) (yields_take rfl (fun w' hw => by obtain ⟨h1, h2⟩ := hw.const; go_simp)) hS5.out ?_
          simp only [Act.put, List.setIfInBounds_toArray, List.set_cons_zero, List.set_cons_succ]
          refine wpAnyU_take (i := 6) (oi := { dst := some 23, op := _, type := _, pos := _, after := _, guard := none }) (v := (tenV (some ⟨g1, 0, none⟩) 3 c1 (some ⟨g2, 0, none⟩) 4 4)) rfl (by kernel_rfl) (by kernel_rfl) (by kernel_rfl) (by kernel_rfl) (fun _ _ _ h => h) (yields_take rfl (fun w' hw => by obtain ⟨h1, h2⟩ := hw.const; go_simp)) hS5.out ?_
          simp only [Act.put, List.setIfInBounds_toArray, List.set_cons_zero, List.set_cons_succ]
          refine wpAnyU_take (i := 7) (oi := { dst := some 24, op := _, type := _, pos := _, after := _, guard := none }) (v := .int .i64 0) rfl (by kernel_rfl) (by kernel_rfl) (by kernel_rfl) (by kernel_rfl) (fun _ _ _ h => h) (yields_take rfl (fun w' hw => by obtain ⟨h1, h2⟩ := hw.const; go_simp)) hS5.out ?_
          simp only [Act.put, List.setIfInBounds_toArray, List.set_cons_zero, List.set_cons_succ]
          have r0 := FAL.c0
          have r1 := FAL.c1
          have rf0 := FAL.f0 0
          have rf1 := FAL.f0 1
          have hlx := FAL.lt
          refine wpAnyU_one (i := 9) (by kernel_rfl) rfl ?_
          intro K hK
          go_simp
          have he2 : Below V0.heap.size V0 ((U24.setCell ⟨U16.heap.size, 0, none⟩ (.slice (some ⟨g1, 0, none⟩) 3 c1)).setCell ⟨U16.heap.size, 1, none⟩ (.slice (some ⟨g2, 0, none⟩) 4 4)) := (he.setCell (by dsimp only; omega) _).setCell (by dsimp only; omega) _
          have hS6 : Hid (((U24.setCell ⟨U16.heap.size, 0, none⟩ (.slice (some ⟨g1, 0, none⟩) 3 c1)).setCell ⟨U16.heap.size, 1, none⟩ (.slice (some ⟨g2, 0, none⟩) 4 4)).cell? ⟨u0.heap.size, 0, none⟩ = some (.slice (some ⟨w.heap.size, 0, none⟩) 3 3) ∧ ((U24.setCell ⟨U16.heap.size, 0, none⟩ (.slice (some ⟨g1, 0, none⟩) 3 c1)).setCell ⟨U16.heap.size, 1, none⟩ (.slice (some ⟨g2, 0, none⟩) 4 4)).cell? ⟨u0.heap.size, 1, none⟩ = some (.slice (some ⟨w.heap.size + 1, 0, none⟩) 9 9)) := hide (⟨(HT_t.out.kept he2).c0, (HT_t.out.kept he2).c1⟩)
          refine hK.out _ _ hS6.out (fun _ => ?_)
          clear hK K hS5
          refine wpAnyU_take (i := 10) (oi := { dst := some 3, op := _, type := _, pos := _, after := _, guard := none }) (v := .int .i64 0) rfl (by kernel_rfl) (by kernel_rfl) (by kernel_rfl) (by kernel_rfl) (fun _ _ _ h => h) (yields_take rfl (fun w' hw => by obtain ⟨h1, h2⟩ := hw.const; go_simp)) hS6.out ?_
          simp only [Act.put, List.setIfInBounds_toArray, List.set_cons_zero, List.set_cons_succ]
          refine wpAnyU_done (by kernel_rfl) ?_ _
          clear hS6
          have HEND : Hid (TenAt ((U24.setCell ⟨U16.heap.size, 0, none⟩ (.slice (some ⟨g1, 0, none⟩) 3 c1)).setCell ⟨U16.heap.size, 1, none⟩ (.slice (some ⟨g2, 0, none⟩) 4 4)) U16.heap.size (some ⟨g1, 0, none⟩) (some ⟨g2, 0, none⟩) 3 c1 4 4 [1, 2, 2] [12, 16, 24, 28]) := hide ⟨FAL.set2 _ _, lies_of_own (own_setCell' (own_setCell' FP (by dsimp only; omega) _) (by dsimp only; omega) _), lies_of_own (own_setCell' (own_setCell' FQ (by dsimp only; omega) _) (by dsimp only; omega) _)⟩
          have HE2 := hide he2
          clear FP FQ FAL he he2 r0 r1 rf0 rf1
          go_wp2
          go_meet
          exact ⟨_, _, _, _, rfl, rfl, HEND, HE2⟩
      · intro K hK
        go_simp
        obtain ⟨U25, hU⟩ : ∃ U, U = U15.alloc (.cells #[.slice none 0 0, .slice none 0 0] 25) := ⟨_, rfl⟩
        rw [← hU]
        have hb : Below U15.heap.size U15 U25 := by rw [hU]; exact below_al6 (Below.refl _ _)
        have FAL : BoxT U25 U15.heap.size (.slice none 0 0) (.slice none 0 0) := by rw [hU]; exact BoxT.new U15 _ _
        have hpx : V0.heap.size ≤ U15.heap.size := he.size
        clear hU
        replace FL2 := FL2.below hb
        replace he : Below V0.heap.size V0 U25 := below_nx6 he hb
        clear hb
        have hS2 : Hid (U25.cell? ⟨u0.heap.size, 0, none⟩ = some (.slice (some ⟨w.heap.size, 0, none⟩) 3 3) ∧ U25.cell? ⟨u0.heap.size, 1, none⟩ = some (.slice (some ⟨w.heap.size + 1, 0, none⟩) 9 9)) := hide (⟨(HT_t.out.kept he).c0, (HT_t.out.kept he).c1⟩)
        refine hK _ _ hS2.out (fun _ => ?_)
        clear hK K hS1
        refine wpAnyU_one (i := 1) (by kernel_rfl) rfl ?_
        intro K hK
        go_simp
        obtain ⟨U26, hU⟩ : ∃ U, U = U25.alloc (.cells #[.int .i64 1, .int .i64 1, .int .i64 2, .int .i64 2] 3) := ⟨_, rfl⟩
        rw [← hU]
        have hb : Below U25.heap.size U25 U26 := by rw [hU]; exact below_al6 (Below.refl _ _)
        have FL1 : Lies U26 (some ⟨U25.heap.size, 0, none⟩) 4 (([1, 1, 2, 2] : List Int).map (Value.int .i64)) := by rw [hU]; exact lit_lies U25 .i64 ([1, 1, 2, 2] : List Int) 3
        clear hU
        replace FL2 := FL2.below hb
        replace FAL := FAL.kept hb
        replace he : Below V0.heap.size V0 U26 := below_nx6 he hb
        clear hb
        have hS3 : Hid (U26.cell? ⟨u0.heap.size, 0, none⟩ = some (.slice (some ⟨w.heap.size, 0, none⟩) 3 3) ∧ U26.cell? ⟨u0.heap.size, 1, none⟩ = some (.slice (some ⟨w.heap.size + 1, 0, none⟩) 9 9)) := hide (⟨(HT_t.out.kept he).c0, (HT_t.out.kept he).c1⟩)
        refine hK _ _ hS3.out (fun _ => ?_)
        clear hK K hS2
        refine wpAnyU_one (i := 3) (by kernel_rfl) rfl ?_
        intro K hK
        go_simp
        refine Calls.mono (of8_any (some ⟨U25.heap.size, 0, none⟩) (some ⟨U0.heap.size, 0, none⟩) 4 4 4 4 _) ?_
        rintro e U27 ⟨rfl, hb⟩
        dsimp only
        have hltAL := FAL.lt
        replace FL2 := FL2.below hb
        replace FAL := FAL.kept hb
        replace FL1 := FL1.below hb
        replace he : Below V0.heap.size V0 U27 := below_nx6 he hb
        clear hb
        have hS4 : Hid (U27.cell? ⟨u0.heap.size, 0, none⟩ = some (.slice (some ⟨w.heap.size, 0, none⟩) 3 3) ∧ U27.cell? ⟨u0.heap.size, 1, none⟩ = some (.slice (some ⟨w.heap.size + 1, 0, none⟩) 9 9)) := hide (⟨(HT_t.out.kept he).c0, (HT_t.out.kept he).c1⟩)
        refine hK _ _ hS4.out (fun _ => ?_)
        clear hK K hS3
        refine wpAnyU_one (i := 4) (by kernel_rfl) rfl ?_
        intro K hK
        go_simp
        refine Calls.mono (wof_ok (some ⟨w.heap.size, 0, none⟩) (some ⟨w.heap.size + 1, 0, none⟩) (some ⟨U25.heap.size, 0, none⟩) (some ⟨U0.heap.size, 0, none⟩) 3 9 9 4 4 4 1 3 3 1 2 2 2 2 1 0 [1, 2, 3, 4, 5, 6, 7, 8, 9] [1, 1, 1, 1] _ (HT_t.out.S.below he) (HT_t.out.L.below he) FL1 FL2 (by decide +kernel) (by decide +kernel) (by omega) (by decide +kernel) (by decide +kernel)) ?_
        rintro e U28 ⟨g1, c1, g2, rfl, FP, FQ, hne, hb⟩
        dsimp only
        rw [show winL [1, 2, 3, 4, 5, 6, 7, 8, 9] [1, 1, 1, 1] 1 3 3 1 2 2 1 0 2 2 = [12, 16, 24, 28] by decide +kernel] at FQ
        have lt1 := FP.lt g1 rfl
        have lt2 := FQ.lt g2 rfl
        have hzc := he.size
        have hzd := hb.size
        have hltAL := FAL.lt
        clear FL2
        replace FAL := FAL.kept hb
        clear FL1
        replace he : Below V0.heap.size V0 U28 := below_nx6 he hb
        clear hb
        have hS5 : Hid (U28.cell? ⟨u0.heap.size, 0, none⟩ = some (.slice (some ⟨w.heap.size, 0, none⟩) 3 3) ∧ U28.cell? ⟨u0.heap.size, 1, none⟩ = some (.slice (some ⟨w.heap.size + 1, 0, none⟩) 9 9)) := hide (⟨(HT_t.out.kept he).c0, (HT_t.out.kept he).c1⟩)
        refine hK _ _ hS5.out (fun _ => ?_)
        clear hK K hS4
        refine wpAnyU_take (i := 5) (oi := { dst := some 17, op := _, type := _, pos := _, after := _, guard := none }) (v := .tuple #[(tenV (some ⟨g1, 0, none⟩) 3 c1 (some ⟨g2, 0, none⟩) 4 4), .int .i64 0]) rfl (by kernel_rfl) (by kernel_rfl) (by kernel_rfl) (by kernel_rfl) (fun _ _ _ h => h) (yields_take rfl (fun w' hw => by obtain ⟨h1, h2⟩ := hw.const; go_simp)) hS5.out ?_
        simp only [Act.put, List.setIfInBounds_toArray, List.set_cons_zero, List.set_cons_succ]
        refine wpAnyU_take (i := 6) (oi := { dst := some 23, op := _, type := _, pos := _, after := _, guard := none }) (v := (tenV (some ⟨g1, 0, none⟩) 3 c1 (some ⟨g2, 0, none⟩) 4 4)) rfl (by kernel_rfl) (by kernel_rfl) (by kernel_rfl) (by kernel_rfl) (fun _ _ _ h => h) (yields_take rfl (fun w' hw => by obtain ⟨h1, h2⟩ := hw.const; go_simp)) hS5.out ?_
        simp only [Act.put, List.setIfInBounds_toArray, List.set_cons_zero, List.set_cons_succ]
        refine wpAnyU_take (i := 7) (oi := { dst := some 24, op := _, type := _, pos := _, after := _, guard := none }) (v := .int .i64 0) rfl (by kernel_rfl) (by kernel_rfl) (by kernel_rfl) (by kernel_rfl) (fun _ _ _ h => h) (yields_take rfl (fun w' hw => by obtain ⟨h1, h2⟩ := hw.const; go_simp)) hS5.out ?_
        simp only [Act.put, List.setIfInBounds_toArray, List.set_cons_zero, List.set_cons_succ]
        have r0 := FAL.c0
        have r1 := FAL.c1
        have rf0 := FAL.f0 0
        have rf1 := FAL.f0 1
        have hlx := FAL.lt
        refine wpAnyU_one (i := 9) (by kernel_rfl) rfl ?_
        intro K hK
        go_simp
        have he2 : Below V0.heap.size V0 ((U28.setCell ⟨U15.heap.size, 0, none⟩ (.slice (some ⟨g1, 0, none⟩) 3 c1)).setCell ⟨U15.heap.size, 1, none⟩ (.slice (some ⟨g2, 0, none⟩) 4 4)) := (he.setCell (by dsimp only; omega) _).setCell (by dsimp only; omega) _
        have hS6 : Hid (((U28.setCell ⟨U15.heap.size, 0, none⟩ (.slice (some ⟨g1, 0, none⟩) 3 c1)).setCell ⟨U15.heap.size, 1, none⟩ (.slice (some ⟨g2, 0, none⟩) 4 4)).cell? ⟨u0.heap.size, 0, none⟩ = some (.slice (some ⟨w.heap.size, 0, none⟩) 3 3) ∧ ((U28.setCell ⟨U15.heap.size, 0, none⟩ (.slice (some ⟨g1, 0, none⟩) 3 c1)).setCell ⟨U15.heap.size, 1, none⟩ (.slice (some ⟨g2, 0, none⟩) 4 4)).cell? ⟨u0.heap.size, 1, none⟩ = some (.slice (some ⟨w.heap.size + 1, 0, none⟩) 9 9)) := hide (⟨(HT_t.out.kept he2).c0, (HT_t.out.kept he2).c1⟩)
        refine hK.out _ _ hS6.out (fun _ => ?_)
        clear hK K hS5
        refine wpAnyU_take (i := 10) (oi := { dst := some 3, op := _, type := _, pos := _, after := _, guard := none }) (v := .int .i64 0) rfl (by kernel_rfl) (by kernel_rfl) (by kernel_rfl) (by kernel_rfl) (fun _ _ _ h => h) (yields_take rfl (fun w' hw => by obtain ⟨h1, h2⟩ := hw.const; go_simp)) hS6.out ?_
        simp only [Act.put, List.setIfInBounds_toArray, List.set_cons_zero, List.set_cons_succ]
        refine wpAnyU_done (by kernel_rfl) ?_ _
        clear hS6
        have HEND : Hid (TenAt ((U28.setCell ⟨U15.heap.size, 0, none⟩ (.slice (some ⟨g1, 0, none⟩) 3 c1)).setCell ⟨U15.heap.size, 1, none⟩ (.slice (some ⟨g2, 0, none⟩) 4 4)) U15.heap.size (some ⟨g1, 0, none⟩) (some ⟨g2, 0, none⟩) 3 c1 4 4 [1, 2, 2] [12, 16, 24, 28]) := hide ⟨FAL.set2 _ _, lies_of_own (own_setCell' (own_setCell' FP (by dsimp only; omega) _) (by dsimp only; omega) _), lies_of_own (own_setCell' (own_setCell' FQ (by dsimp only; omega) _) (by dsimp only; omega) _)⟩
        have HE2 := hide he2
        clear FP FQ FAL he he2 r0 r1 rf0 rf1
        go_wp2
        go_meet
        exact ⟨_, _, _, _, rfl, rfl, HEND, HE2⟩
    · intro K hK
      go_simp
      obtain ⟨U29, hU⟩ : ∃ U, U = U0.alloc (.cells #[.slice none 0 0, .slice none 0 0] 25) := ⟨_, rfl⟩
      rw [← hU]
      have hb : Below U0.heap.size U0 U29 := by rw [hU]; exact below_al6 (Below.refl _ _)
      have FAL : BoxT U29 U0.heap.size (.slice none 0 0) (.slice none 0 0) := by rw [hU]; exact BoxT.new U0 _ _
      have hpx : V0.heap.size ≤ U0.heap.size := he.size
      clear hU
      replace he : Below V0.heap.size V0 U29 := below_nx6 he hb
      clear hb
      have hS1 : Hid (U29.cell? ⟨u0.heap.size, 0, none⟩ = some (.slice (some ⟨w.heap.size, 0, none⟩) 3 3) ∧ U29.cell? ⟨u0.heap.size, 1, none⟩ = some (.slice (some ⟨w.heap.size + 1, 0, none⟩) 9 9)) := hide (⟨(HT_t.out.kept he).c0, (HT_t.out.kept he).c1⟩)
      refine hK _ _ hS1.out (fun _ => ?_)
      clear hK K hS0
      refine wpAnyU_or (i := 1) (j := 2) (by kernel_rfl) rfl rfl ?_ ?_
      · intro K hK
        go_simp
        obtain ⟨U30, hU⟩ : ∃ U, U = U29.alloc (.cells #[.int .i64 1, .int .i64 1, .int .i64 2, .int .i64 2] 3) := ⟨_, rfl⟩
        rw [← hU]
        have hb : Below U29.heap.size U29 U30 := by rw [hU]; exact below_al6 (Below.refl _ _)
        have FL1 : Lies U30 (some ⟨U29.heap.size, 0, none⟩) 4 (([1, 1, 2, 2] : List Int).map (Value.int .i64)) := by rw [hU]; exact lit_lies U29 .i64 ([1, 1, 2, 2] : List Int) 3
        clear hU
        replace FAL := FAL.kept hb
        replace he : Below V0.heap.size V0 U30 := below_nx6 he hb
        clear hb
        have hS2 : Hid (U30.cell? ⟨u0.heap.size, 0, none⟩ = some (.slice (some ⟨w.heap.size, 0, none⟩) 3 3) ∧ U30.cell? ⟨u0.heap.size, 1, none⟩ = some (.slice (some ⟨w.heap.size + 1, 0, none⟩) 9 9)) := hide (⟨(HT_t.out.kept he).c0, (HT_t.out.kept he).c1⟩)
        refine hK _ _ hS2.out (fun _ => ?_)
        clear hK K hS1
        refine wpAnyU_one (i := 2) (by kernel_rfl) rfl ?_
        intro K hK
        go_simp
        obtain ⟨U31, hU⟩ : ∃ U, U = U30.alloc (.cells #[.int .i32 1, .int .i32 1, .int .i32 1, .int .i32 1] 21) := ⟨_, rfl⟩
        rw [← hU]
        have hb : Below U30.heap.size U30 U31 := by rw [hU]; exact below_al6 (Below.refl _ _)
        have FL2 : Lies U31 (some ⟨U30.heap.size, 0, none⟩) 4 (([1, 1, 1, 1] : List Int).map (Value.int .i32)) := by rw [hU]; exact lit_lies U30 .i32 ([1, 1, 1, 1] : List Int) 21
        clear hU
        replace FAL := FAL.kept hb
        replace FL1 := FL1.below hb
        replace he : Below V0.heap.size V0 U31 := below_nx6 he hb
        clear hb
        have hS3 : Hid (U31.cell? ⟨u0.heap.size, 0, none⟩ = some (.slice (some ⟨w.heap.size, 0, none⟩) 3 3) ∧ U31.cell? ⟨u0.heap.size, 1, none⟩ = some (.slice (some ⟨w.heap.size + 1, 0, none⟩) 9 9)) := hide (⟨(HT_t.out.kept he).c0, (HT_t.out.kept he).c1⟩)
        refine hK _ _ hS3.out (fun _ => ?_)
        clear hK K hS2
        refine wpAnyU_one (i := 3) (by kernel_rfl) rfl ?_
        intro K hK
        go_simp
        refine Calls.mono (of8_any (some ⟨U29.heap.size, 0, none⟩) (some ⟨U30.heap.size, 0, none⟩) 4 4 4 4 _) ?_
        rintro e U32 ⟨rfl, hb⟩
        dsimp only
        have hltAL := FAL.lt
        replace FAL := FAL.kept hb
        replace FL1 := FL1.below hb
        replace FL2 := FL2.below hb
        replace he : Below V0.heap.size V0 U32 := below_nx6 he hb
        clear hb
        have hS4 : Hid (U32.cell? ⟨u0.heap.size, 0, none⟩ = some (.slice (some ⟨w.heap.size, 0, none⟩) 3 3) ∧ U32.cell? ⟨u0.heap.size, 1, none⟩ = some (.slice (some ⟨w.heap.size + 1, 0, none⟩) 9 9)) := hide (⟨(HT_t.out.kept he).c0, (HT_t.out.kept he).c1⟩)
        refine hK _ _ hS4.out (fun _ => ?_)
        clear hK K hS3
        refine wpAnyU_one (i := 4) (by kernel_rfl) rfl ?_
        intro K hK
        go_simp
        refine Calls.mono (wof_ok (some ⟨w.heap.size, 0, none⟩) (some ⟨w.heap.size + 1, 0, none⟩) (some ⟨U29.heap.size, 0, none⟩) (some ⟨U30.heap.size, 0, none⟩) 3 9 9 4 4 4 1 3 3 1 2 2 2 2 1 0 [1, 2, 3, 4, 5, 6, 7, 8, 9] [1, 1, 1, 1] _ (HT_t.out.S.below he) (HT_t.out.L.below he) FL1 FL2 (by decide +kernel) (by decide +kernel) (by omega) (by decide +kernel) (by decide +kernel)) ?_
        rintro e U33 ⟨g1, c1, g2, rfl, FP, FQ, hne, hb⟩
        dsimp only
        rw [show winL [1, 2, 3, 4, 5, 6, 7, 8, 9] [1, 1, 1, 1] 1 3 3 1 2 2 1 0 2 2 = [12, 16, 24, 28] by decide +kernel] at FQ
        have lt1 := FP.lt g1 rfl
        have lt2 := FQ.lt g2 rfl
        have hzc := he.size
        have hzd := hb.size
        have hltAL := FAL.lt
        replace FAL := FAL.kept hb
        clear FL1
        clear FL2
        replace he : Below V0.heap.size V0 U33 := below_nx6 he hb
        clear hb
        have hS5 : Hid (U33.cell? ⟨u0.heap.size, 0, none⟩ = some (.slice (some ⟨w.heap.size, 0, none⟩) 3 3) ∧ U33.cell? ⟨u0.heap.size, 1, none⟩ = some (.slice (some ⟨w.heap.size + 1, 0, none⟩) 9 9)) := hide (⟨(HT_t.out.kept he).c0, (HT_t.out.kept he).c1⟩)
        refine hK _ _ hS5.out (fun _ => ?_)
        clear hK K hS4
        refine wpAnyU_take (i := 5) (oi := { dst := some 17, op := _, type := _, pos := _, after := _, guard := none }) (v := .tuple #[(tenV (some ⟨g1, 0, none⟩) 3 c1 (some ⟨g2, 0, none⟩) 4 4), .int .i64 0]) rfl (by kernel_rfl) (by kernel_rfl) (by kernel_rfl) (by kernel_rfl) (fun _ _ _ h => h) (yields_take rfl (fun w' hw => by obtain ⟨h1, h2⟩ := hw.const; go_simp)) hS5.out ?_
        simp only [Act.put, List.setIfInBounds_toArray, List.set_cons_zero, List.set_cons_succ]
        refine wpAnyU_take (i := 6) (oi := { dst := some 23, op := _, type := _, pos := _, after := _, guard := none }) (v := (tenV (some ⟨g1, 0, none⟩) 3 c1 (some ⟨g2, 0, none⟩) 4 4)) rfl (by kernel_rfl) (by kernel_rfl) (by kernel_rfl) (by kernel_rfl) (fun _ _ _ h => h) (yields_take rfl (fun w' hw => by obtain ⟨h1, h2⟩ := hw.const; go_simp)) hS5.out ?_
        simp only [Act.put, List.setIfInBounds_toArray, List.set_cons_zero, List.set_cons_succ]
        refine wpAnyU_take (i := 7) (oi := { dst := some 24, op := _, type := _, pos := _, after := _, guard := none }) (v := .int .i64 0) rfl (by kernel_rfl) (by kernel_rfl) (by kernel_rfl) (by kernel_rfl) (fun _ _ _ h => h) (yields_take rfl (fun w' hw => by obtain ⟨h1, h2⟩ := hw.const; go_simp)) hS5.out ?_
        simp only [Act.put, List.setIfInBounds_toArray, List.set_cons_zero, List.set_cons_succ]
        have r0 := FAL.c0
        have r1 := FAL.c1
        have rf0 := FAL.f0 0
        have rf1 := FAL.f0 1
        have hlx := FAL.lt
        refine wpAnyU_one (i := 9) (by kernel_rfl) rfl ?_
        intro K hK
        go_simp
        have he2 : Below V0.heap.size V0 ((U33.setCell ⟨U0.heap.size, 0, none⟩ (.slice (some ⟨g1, 0, none⟩) 3 c1)).setCell ⟨U0.heap.size, 1, none⟩ (.slice (some ⟨g2, 0, none⟩) 4 4)) := (he.setCell (by dsimp only; omega) _).setCell (by dsimp only; omega) _
        have hS6 : Hid (((U33.setCell ⟨U0.heap.size, 0, none⟩ (.slice (some ⟨g1, 0, none⟩) 3 c1)).setCell ⟨U0.heap.size, 1, none⟩ (.slice (some ⟨g2, 0, none⟩) 4 4)).cell? ⟨u0.heap.size, 0, none⟩ = some (.slice (some ⟨w.heap.size, 0, none⟩) 3 3) ∧ ((U33.setCell ⟨U0.heap.size, 0, none⟩ (.slice (some ⟨g1, 0, none⟩) 3 c1)).setCell ⟨U0.heap.size, 1, none⟩ (.slice (some ⟨g2, 0, none⟩) 4 4)).cell? ⟨u0.heap.size, 1, none⟩ = some (.slice (some ⟨w.heap.size + 1, 0, none⟩) 9 9)) := hide (⟨(HT_t.out.kept he2).c0, (HT_t.out.kept he2).c1⟩)
        refine hK.out _ _ hS6.out (fun _ => ?_)
        clear hK K hS5
        refine wpAnyU_take (i := 10) (oi := { dst := some 3, op := _, type := _, pos := _, after := _, guard := none }) (v := .int .i64 0) rfl (by kernel_rfl) (by kernel_rfl) (by kernel_rfl) (by kernel_rfl) (fun _ _ _ h => h) (yields_take rfl (fun w' hw => by obtain ⟨h1, h2⟩ := hw.const; go_simp)) hS6.out ?_
        simp only [Act.put, List.setIfInBounds_toArray, List.set_cons_zero, List.set_cons_succ]
        refine wpAnyU_done (by kernel_rfl) ?_ _
        clear hS6
        have HEND : Hid (TenAt ((U33.setCell ⟨U0.heap.size, 0, none⟩ (.slice (some ⟨g1, 0, none⟩) 3 c1)).setCell ⟨U0.heap.size, 1, none⟩ (.slice (some ⟨g2, 0, none⟩) 4 4)) U0.heap.size (some ⟨g1, 0, none⟩) (some ⟨g2, 0, none⟩) 3 c1 4 4 [1, 2, 2] [12, 16, 24, 28]) := hide ⟨FAL.set2 _ _, lies_of_own (own_setCell' (own_setCell' FP (by dsimp only; omega) _) (by dsimp only; omega) _), lies_of_own (own_setCell' (own_setCell' FQ (by dsimp only; omega) _) (by dsimp only; omega) _)⟩
        have HE2 := hide he2
        clear FP FQ FAL he he2 r0 r1 rf0 rf1
        go_wp2
        go_meet
        exact ⟨_, _, _, _, rfl, rfl, HEND, HE2⟩
      · intro K hK
        go_simp
        obtain ⟨U34, hU⟩ : ∃ U, U = U29.alloc (.cells #[.int .i32 1, .int .i32 1, .int .i32 1, .int .i32 1] 21) := ⟨_, rfl⟩
        rw [← hU]
        have hb : Below U29.heap.size U29 U34 := by rw [hU]; exact below_al6 (Below.refl _ _)
        have FL2 : Lies U34 (some ⟨U29.heap.size, 0, none⟩) 4 (([1, 1, 1, 1] : List Int).map (Value.int .i32)) := by rw [hU]; exact lit_lies U29 .i32 ([1, 1, 1, 1] : List Int) 21
        clear hU
        replace FAL := FAL.kept hb
        replace he : Below V0.heap.size V0 U34 := below_nx6 he hb
        clear hb
        have hS2 : Hid (U34.cell? ⟨u0.heap.size, 0, none⟩ = some (.slice (some ⟨w.heap.size, 0, none⟩) 3 3) ∧ U34.cell? ⟨u0.heap.size, 1, none⟩ = some (.slice (some ⟨w.heap.size + 1, 0, none⟩) 9 9)) := hide (⟨(HT_t.out.kept he).c0, (HT_t.out.kept he).c1⟩)
        refine hK _ _ hS2.out (fun _ => ?_)
        clear hK K hS1
        refine wpAnyU_one (i := 1) (by kernel_rfl) rfl ?_
        intro K hK
        go_simp
        obtain ⟨U35, hU⟩ : ∃ U, U = U34.alloc (.cells #[.int .i64 1, .int .i64 1, .int .i64 2, .int .i64 2] 3) := ⟨_, rfl⟩
        rw [← hU]
        have hb : Below U34.heap.size U34 U35 := by rw [hU]; exact below_al6 (Below.refl _ _)
        have FL1 : Lies U35 (some ⟨U34.heap.size, 0, none⟩) 4 (([1, 1, 2, 2] : List Int).map (Value.int .i64)) := by rw [hU]; exact lit_lies U34 .i64 ([1, 1, 2, 2] : List Int) 3
        clear hU
        replace FAL := FAL.kept hb
        replace FL2 := FL2.below hb
        replace he : Below V0.heap.size V0 U35 := below_nx6 he hb
        clear hb
        have hS3 : Hid (U35.cell? ⟨u0.heap.size, 0, none⟩ = some (.slice (some ⟨w.heap.size, 0, none⟩) 3 3) ∧ U35.cell? ⟨u0.heap.size, 1, none⟩ = some (.slice (some ⟨w.heap.size + 1, 0, none⟩) 9 9)) := hide (⟨(HT_t.out.kept he).c0, (HT_t.out.kept he).c1⟩)
        refine hK _ _ hS3.out (fun _ => ?_)
        clear hK K hS2
        refine wpAnyU_one (i := 3) (by kernel_rfl) rfl ?_
        intro K hK
        go_simp
        refine Calls.mono (of8_any (some ⟨U34.heap.size, 0, none⟩) (some ⟨U29.heap.size, 0, none⟩) 4 4 4 4 _) ?_
        rintro e U36 ⟨rfl, hb⟩
        dsimp only
        have hltAL := FAL.lt
        replace FAL := FAL.kept hb
        replace FL2 := FL2.below hb
        replace FL1 := FL1.below hb
        replace he : Below V0.heap.size V0 U36 := below_nx6 he hb
        clear hb
        have hS4 : Hid (U36.cell? ⟨u0.heap.size, 0, none⟩ = some (.slice (some ⟨w.heap.size, 0, none⟩) 3 3) ∧ U36.cell? ⟨u0.heap.size, 1, none⟩ = some (.slice (some ⟨w.heap.size + 1, 0, none⟩) 9 9)) := hide (⟨(HT_t.out.kept he).c0, (HT_t.out.kept he).c1⟩)
        refine hK _ _ hS4.out (fun _ => ?_)
        clear hK K hS3
        refine wpAnyU_one (i := 4) (by kernel_rfl) rfl ?_
        intro K hK
        go_simp
        refine Calls.mono (wof_ok (some ⟨w.heap.size, 0, none⟩) (some ⟨w.heap.size + 1, 0, none⟩) (some ⟨U34.heap.size, 0, none⟩) (some ⟨U29.heap.size, 0, none⟩) 3 9 9 4 4 4 1 3 3 1 2 2 2 2 1 0 [1, 2, 3, 4, 5, 6, 7, 8, 9] [1, 1, 1, 1] _ (HT_t.out.S.below he) (HT_t.out.L.below he) FL1 FL2 (by decide +kernel) (by decide +kernel) (by omega) (by decide +kernel) (by decide +kernel)) ?_
        rintro e U37 ⟨g1, c1, g2, rfl, FP, FQ, hne, hb⟩
        dsimp only
        rw [show winL [1, 2, 3, 4, 5, 6, 7, 8, 9] [1, 1, 1, 1] 1 3 3 1 2 2 1 0 2 2 = [12, 16, 24, 28] by decide +kernel] at FQ
        have lt1 := FP.lt g1 rfl
        have lt2 := FQ.lt g2 rfl
        have hzc := he.size
        have hzd := hb.size
        have hltAL := FAL.lt
        replace FAL := FAL.kept hb
        clear FL2
        clear FL1
        replace he : Below V0.heap.size V0 U37 := below_nx6 he hb
        clear hb
        have hS5 : Hid (U37.cell? ⟨u0.heap.size, 0, none⟩ = some (.slice (some ⟨w.heap.size, 0, none⟩) 3 3) ∧ U37.cell? ⟨u0.heap.size, 1, none⟩ = some (.slice (some ⟨w.heap.size + 1, 0, none⟩) 9 9)) := hide (⟨(HT_t.out.kept he).c0, (HT_t.out.kept he).c1⟩)
        refine hK _ _ hS5.out (fun _ => ?_)
        clear hK K hS4
        refine wpAnyU_take (i := 5) (oi := { dst := some 17, op := _, type := _, pos := _, after := _, guard := none }) (v := .tuple #[(tenV (some ⟨g1, 0, none⟩) 3 c1 (some ⟨g2, 0, none⟩) 4 4), .int .i64 0]) rfl (by kernel_rfl) (by kernel_rfl) (by kernel_rfl) (by kernel_rfl) (fun _ _ _ h => h) (yields_take rfl (fun w' hw => by obtain ⟨h1, h2⟩ := hw.const; go_simp)) hS5.out ?_
        simp only [Act.put, List.setIfInBounds_toArray, List.set_cons_zero, List.set_cons_succ]
        refine wpAnyU_take (i := 6) (oi := { dst := some 23, op := _, type := _, pos := _, after := _, guard := none }) (v := (tenV (some ⟨g1, 0, none⟩) 3 c1 (some ⟨g2, 0, none⟩) 4 4)) rfl (by kernel_rfl) (by kernel_rfl) (by kernel_rfl) (by kernel_rfl) (fun _ _ _ h => h) (yields_take rfl (fun w' hw => by obtain ⟨h1, h2⟩ := hw.const; go_simp)) hS5.out ?_
        simp only [Act.put, List.setIfInBounds_toArray, List.set_cons_zero, List.set_cons_succ]
        refine wpAnyU_take (i := 7) (oi := { dst := some 24, op := _, type := _, pos := _, after := _, guard := none }) (v := .int .i64 0) rfl (by kernel_rfl) (by kernel_rfl) (by kernel_rfl) (by kernel_rfl) (fun _ _ _ h => h) (yields_take rfl (fun w' hw => by obtain ⟨h1, h2⟩ := hw.const; go_simp)) hS5.out ?_
        simp only [Act.put, List.setIfInBounds_toArray, List.set_cons_zero, List.set_cons_succ]
        have r0 := FAL.c0
        have r1 := FAL.c1
        have rf0 := FAL.f0 0
        have rf1 := FAL.f0 1
        have hlx := FAL.lt
        refine wpAnyU_one (i := 9) (by kernel_rfl) rfl ?_
        intro K hK
        go_simp
        have he2 : Below V0.heap.size V0 ((U37.setCell ⟨U0.heap.size, 0, none⟩ (.slice (some ⟨g1, 0, none⟩) 3 c1)).setCell ⟨U0.heap.size, 1, none⟩ (.slice (some ⟨g2, 0, none⟩) 4 4)) := (he.setCell (by dsimp only; omega) _).setCell (by dsimp only; omega) _
        have hS6 : Hid (((U37.setCell ⟨U0.heap.size, 0, none⟩ (.slice (some ⟨g1, 0, none⟩) 3 c1)).setCell ⟨U0.heap.size, 1, none⟩ (.slice (some ⟨g2, 0, none⟩) 4 4)).cell? ⟨u0.heap.size, 0, none⟩ = some (.slice (some ⟨w.heap.size, 0, none⟩) 3 3) ∧ ((U37.setCell ⟨U0.heap.size, 0, none⟩ (.slice (some ⟨g1, 0, none⟩) 3 c1)).setCell ⟨U0.heap.size, 1, none⟩ (.slice (some ⟨g2, 0, none⟩) 4 4)).cell? ⟨u0.heap.size, 1, none⟩ = some (.slice (some ⟨w.heap.size + 1, 0, none⟩) 9 9)) := hide (⟨(HT_t.out.kept he2).c0, (HT_t.out.kept he2).c1⟩)
        refine hK.out _ _ hS6.out (fun _ => ?_)
        clear hK K hS5
        refine wpAnyU_take (i := 10) (oi := { dst := some 3, op := _, type := _, pos := _, after := _, guard := none }) (v := .int .i64 0) rfl (by kernel_rfl) (by kernel_rfl) (by kernel_rfl) (by kernel_rfl) (fun _ _ _ h => h) (yields_take rfl (fun w' hw => by obtain ⟨h1, h2⟩ := hw.const; go_simp)) hS6.out ?_
        simp only [Act.put, List.setIfInBounds_toArray, List.set_cons_zero, List.set_cons_succ]
        refine wpAnyU_done (by kernel_rfl) ?_ _
        clear hS6
        have HEND : Hid (TenAt ((U37.setCell ⟨U0.heap.size, 0, none⟩ (.slice (some ⟨g1, 0, none⟩) 3 c1)).setCell ⟨U0.heap.size, 1, none⟩ (.slice (some ⟨g2, 0, none⟩) 4 4)) U0.heap.size (some ⟨g1, 0, none⟩) (some ⟨g2, 0, none⟩) 3 c1 4 4 [1, 2, 2] [12, 16, 24, 28]) := hide ⟨FAL.set2 _ _, lies_of_own (own_setCell' (own_setCell' FP (by dsimp only; omega) _) (by dsimp only; omega) _), lies_of_own (own_setCell' (own_setCell' FQ (by dsimp only; omega) _) (by dsimp only; omega) _)⟩
        have HE2 := hide he2
        clear FP FQ FAL he he2 r0 r1 rf0 rf1
        go_wp2
        go_meet
        exact ⟨_, _, _, _, rfl, rfl, HEND, HE2⟩
  case rest =>
    obtain ⟨pa, g1a, c1a, g2a, rfl, rfl, HT_a, hb0⟩ := hcut
    obtain ⟨Va, hVa⟩ : ∃ W, W = wc := ⟨_, rfl⟩
    rw [← hVa] at HT_a hb0 ⊢
    have hb : Below V0.heap.size V0 Va := hb0.out
    clear hVa hb0
    replace HT_t := hide (HT_t.out.kept hb)
    replace HBW := hide (HBW.out.trans (hb.mono HBW.out.size))
    clear hb
    have hlt_a := HT_a.out.1.lt
    go_wp2
    go_cut [4, 5] from 14 (fun s1 s2 wc => ∃ px g1 c1 g2, s1 = .pointer (some ⟨px, 0, none⟩) ∧ s2 = .int .i64 0 ∧ Hid (TenAt wc px (some ⟨g1, 0, none⟩) (some ⟨g2, 0, none⟩) 3 c1 9 9 [1, 3, 3] [0, 0, 0, 0, 5, 0, 0, 0, 0]) ∧ Hid (Below Va.heap.size Va wc))
    case first =>
      have he := Below.refl Va.heap.size Va
      have hsz0 := hlt_t
      have hS0 : Hid (Va.drew.cell? ⟨u0.heap.size, 0, none⟩ = some (.slice (some ⟨w.heap.size, 0, none⟩) 3 3) ∧ Va.drew.cell? ⟨u0.heap.size, 1, none⟩ = some (.slice (some ⟨w.heap.size + 1, 0, none⟩) 9 9)) := hide (⟨(HT_t.out.kept (below_drewN (Below.refl _ _) 1)).c0, (HT_t.out.kept (below_drewN (Below.refl _ _) 1)).c1⟩)
      refine wp_region_U (fun _ v => v.cell? ⟨u0.heap.size, 0, none⟩ = some (.slice (some ⟨w.heap.size, 0, none⟩) 3 3) ∧ v.cell? ⟨u0.heap.size, 1, none⟩ = some (.slice (some ⟨w.heap.size + 1, 0, none⟩) 9 9)) 99 (by kernel_rfl) ?_
      refine wpAnyU_take (i := 0) (oi := { dst := some 26, op := _, type := _, pos := _, after := _, guard := none }) (v := tenV (some ⟨w.heap.size, 0, none⟩) 3 3 (some ⟨w.heap.size + 1, 0, none⟩) 9 9) rfl (by kernel_rfl) (by kernel_rfl) (by kernel_rfl) (by kernel_rfl) (fun _ _ _ h => h) (yields_take rfl (fun w' hw => by obtain ⟨h1, h2⟩ := hw.const; go_simp)) hS0.out ?_
      simp only [Act.put, List.setIfInBounds_toArray, List.set_cons_zero, List.set_cons_succ]
      generalize hU0 : Va.drew = U0
      have he : Below Va.heap.size Va U0 := by rw [← hU0]; exact below_drewN (Below.refl _ _) 1
      rw [hU0] at hS0
      clear hU0
      refine wpAnyU_or3 (i := 1) (j := 2) (k := 8) (by kernel_rfl) rfl rfl rfl ?_ ?_ ?_
      · intro K hK
        go_simp
        obtain ⟨U1, hU⟩ : ∃ U, U = U0.alloc (.cells #[.int .i64 1, .int .i64 1, .int .i64 1, .int .i64 1] 3) := ⟨_, rfl⟩
        rw [← hU]
        have hb : Below U0.heap.size U0 U1 := by rw [hU]; exact below_al6 (Below.refl _ _)
        have FL1 : Lies U1 (some ⟨U0.heap.size, 0, none⟩) 4 (([1, 1, 1, 1] : List Int).map (Value.int .i64)) := by rw [hU]; exact lit_lies U0 .i64 ([1, 1, 1, 1] : List Int) 3
        clear hU
        replace he : Below Va.heap.size Va U1 := below_nx6 he hb
        clear hb
        have hS1 : Hid (U1.cell? ⟨u0.heap.size, 0, none⟩ = some (.slice (some ⟨w.heap.size, 0, none⟩) 3 3) ∧ U1.cell? ⟨u0.heap.size, 1, none⟩ = some (.slice (some ⟨w.heap.size + 1, 0, none⟩) 9 9)) := hide (⟨(HT_t.out.kept he).c0, (HT_t.out.kept he).c1⟩)
        refine hK _ _ hS1.out (fun _ => ?_)
        clear hK K hS0
        refine wpAnyU_or (i := 2) (j := 8) (by kernel_rfl) rfl rfl ?_ ?_
        · intro K hK
          go_simp
          obtain ⟨U2, hU⟩ : ∃ U, U = U1.alloc (.cells #[.int .i32 1] 21) := ⟨_, rfl⟩
          rw [← hU]
          have hb : Below U1.heap.size U1 U2 := by rw [hU]; exact below_al6 (Below.refl _ _)
          have FL2 : Lies U2 (some ⟨U1.heap.size, 0, none⟩) 1 (([1] : List Int).map (Value.int .i32)) := by rw [hU]; exact lit_lies U1 .i32 ([1] : List Int) 21
          clear hU
          replace FL1 := FL1.below hb
          replace he : Below Va.heap.size Va U2 := below_nx6 he hb
          clear hb
          have hS2 : Hid (U2.cell? ⟨u0.heap.size, 0, none⟩ = some (.slice (some ⟨w.heap.size, 0, none⟩) 3 3) ∧ U2.cell? ⟨u0.heap.size, 1, none⟩ = some (.slice (some ⟨w.heap.size + 1, 0, none⟩) 9 9)) := hide (⟨(HT_t.out.kept he).c0, (HT_t.out.kept he).c1⟩)
          refine hK _ _ hS2.out (fun _ => ?_)
          clear hK K hS1
          refine wpAnyU_or (i := 3) (j := 8) (by kernel_rfl) rfl rfl ?_ ?_
          · intro K hK
            go_simp
            refine Calls.mono (of8_any (some ⟨U0.heap.size, 0, none⟩) (some ⟨U1.heap.size, 0, none⟩) 4 4 1 1 _) ?_
            rintro e U3 ⟨rfl, hb⟩
            dsimp only
            replace FL1 := FL1.below hb
            replace FL2 := FL2.below hb
            replace he : Below Va.heap.size Va U3 := below_nx6 he hb
            clear hb
            have hS3 : Hid (U3.cell? ⟨u0.heap.size, 0, none⟩ = some (.slice (some ⟨w.heap.size, 0, none⟩) 3 3) ∧ U3.cell? ⟨u0.heap.size, 1, none⟩ = some (.slice (some ⟨w.heap.size + 1, 0, none⟩) 9 9)) := hide (⟨(HT_t.out.kept he).c0, (HT_t.out.kept he).c1⟩)
            refine hK _ _ hS3.out (fun _ => ?_)
            clear hK K hS2
            refine wpAnyU_or (i := 4) (j := 8) (by kernel_rfl) rfl rfl ?_ ?_
            · intro K hK
              go_simp
              refine Calls.mono (wof_ok (some ⟨w.heap.size, 0, none⟩) (some ⟨w.heap.size + 1, 0, none⟩) (some ⟨U0.heap.size, 0, none⟩) (some ⟨U1.heap.size, 0, none⟩) 3 9 9 4 1 1 1 3 3 1 1 1 3 3 2 1 [1, 2, 3, 4, 5, 6, 7, 8, 9] [1] _ (HT_t.out.S.below he) (HT_t.out.L.below he) FL1 FL2 (by decide +kernel) (by decide +kernel) (by omega) (by decide +kernel) (by decide +kernel)) ?_
              rintro e U4 ⟨g1, c1, g2, rfl, FP, FQ, hne, hb⟩
              dsimp only
              rw [show winL [1, 2, 3, 4, 5, 6, 7, 8, 9] [1] 1 3 3 1 1 1 2 1 3 3 = [0, 0, 0, 0, 5, 0, 0, 0, 0] by decide +kernel] at FQ
              have lt1 := FP.lt g1 rfl
              have lt2 := FQ.lt g2 rfl
              have hzc := he.size
              have hzd := hb.size
              clear FL1
              clear FL2
              replace he : Below Va.heap.size Va U4 := below_nx6 he hb
              clear hb
              have hS4 : Hid (U4.cell? ⟨u0.heap.size, 0, none⟩ = some (.slice (some ⟨w.heap.size, 0, none⟩) 3 3) ∧ U4.cell? ⟨u0.heap.size, 1, none⟩ = some (.slice (some ⟨w.heap.size + 1, 0, none⟩) 9 9)) := hide (⟨(HT_t.out.kept he).c0, (HT_t.out.kept he).c1⟩)
              refine hK _ _ hS4.out (fun _ => ?_)
              clear hK K hS3
              refine wpAnyU_take (i := 5) (oi := { dst := some 25, op := _, type := _, pos := _, after := _, guard := none }) (v := .tuple #[(tenV (some ⟨g1, 0, none⟩) 3 c1 (some ⟨g2, 0, none⟩) 9 9), .int .i64 0]) rfl (by kernel_rfl) (by kernel_rfl) (by kernel_rfl) (by kernel_rfl) (fun _ _ _ h => h) (yields_take rfl (fun w' hw => by obtain ⟨h1, h2⟩ := hw.const; go_simp)) hS4.out ?_
              simp only [Act.put, List.setIfInBounds_toArray, List.set_cons_zero, List.set_cons_succ]
              refine wpAnyU_take (i := 6) (oi := { dst := some 31, op := _, type := _, pos := _, after := _, guard := none }) (v := (tenV (some ⟨g1, 0, none⟩) 3 c1 (some ⟨g2, 0, none⟩) 9 9)) rfl (by kernel_rfl) (by kernel_rfl) (by kernel_rfl) (by kernel_rfl) (fun _ _ _ h => h) (yields_take rfl (fun w' hw => by obtain ⟨h1, h2⟩ := hw.const; go_simp)) hS4.out ?_
              simp only [Act.put, List.setIfInBounds_toArray, List.set_cons_zero, List.set_cons_succ]
              refine wpAnyU_take (i := 7) (oi := { dst := some 32, op := _, type := _, pos := _, after := _, guard := none }) (v := .int .i64 0) rfl (by kernel_rfl) (by kernel_rfl) (by kernel_rfl) (by kernel_rfl) (fun _ _ _ h => h) (yields_take rfl (fun w' hw => by obtain ⟨h1, h2⟩ := hw.const; go_simp)) hS4.out ?_
              simp only [Act.put, List.setIfInBounds_toArray, List.set_cons_zero, List.set_cons_succ]
              refine wpAnyU_one (i := 8) (by kernel_rfl) rfl ?_
              intro K hK
              go_simp
              obtain ⟨U5, hU⟩ : ∃ U, U = U4.alloc (.cells #[.slice none 0 0, .slice none 0 0] 25) := ⟨_, rfl⟩
              rw [← hU]
              have hb : Below U4.heap.size U4 U5 := by rw [hU]; exact below_al6 (Below.refl _ _)
              have FAL : BoxT U5 U4.heap.size (.slice none 0 0) (.slice none 0 0) := by rw [hU]; exact BoxT.new U4 _ _
              have hpx : Va.heap.size ≤ U4.heap.size := he.size
              clear hU
              replace FP := own_below FP hb
              replace FQ := own_below FQ hb
              replace he : Below Va.heap.size Va U5 := below_nx6 he hb
              clear hb
              have hS5 : Hid (U5.cell? ⟨u0.heap.size, 0, none⟩ = some (.slice (some ⟨w.heap.size, 0, none⟩) 3 3) ∧ U5.cell? ⟨u0.heap.size, 1, none⟩ = some (.slice (some ⟨w.heap.size + 1, 0, none⟩) 9 9)) := hide (⟨(HT_t.out.kept he).c0, (HT_t.out.kept he).c1⟩)
              refine hK _ _ hS5.out (fun _ => ?_)
              clear hK K hS4
              have r0 := FAL.c0
              have r1 := FAL.c1
              have rf0 := FAL.f0 0
              have rf1 := FAL.f0 1
              have hlx := FAL.lt
              refine wpAnyU_one (i := 9) (by kernel_rfl) rfl ?_
              intro K hK
              go_simp
              have he2 : Below Va.heap.size Va ((U5.setCell ⟨U4.heap.size, 0, none⟩ (.slice (some ⟨g1, 0, none⟩) 3 c1)).setCell ⟨U4.heap.size, 1, none⟩ (.slice (some ⟨g2, 0, none⟩) 9 9)) := (he.setCell (by dsimp only; omega) _).setCell (by dsimp only; omega) _
              have hS6 : Hid (((U5.setCell ⟨U4.heap.size, 0, none⟩ (.slice (some ⟨g1, 0, none⟩) 3 c1)).setCell ⟨U4.heap.size, 1, none⟩ (.slice (some ⟨g2, 0, none⟩) 9 9)).cell? ⟨u0.heap.size, 0, none⟩ = some (.slice (some ⟨w.heap.size, 0, none⟩) 3 3) ∧ ((U5.setCell ⟨U4.heap.size, 0, none⟩ (.slice (some ⟨g1, 0, none⟩) 3 c1)).setCell ⟨U4.heap.size, 1, none⟩ (.slice (some ⟨g2, 0, none⟩) 9 9)).cell? ⟨u0.heap.size, 1, none⟩ = some (.slice (some ⟨w.heap.size + 1, 0, none⟩) 9 9)) := hide (⟨(HT_t.out.kept he2).c0, (HT_t.out.kept he2).c1⟩)
              refine hK.out _ _ hS6.out (fun _ => ?_)
              clear hK K hS5
              refine wpAnyU_take (i := 10) (oi := { dst := some 5, op := _, type := _, pos := _, after := _, guard := none }) (v := .int .i64 0) rfl (by kernel_rfl) (by kernel_rfl) (by kernel_rfl) (by kernel_rfl) (fun _ _ _ h => h) (yields_take rfl (fun w' hw => by obtain ⟨h1, h2⟩ := hw.const; go_simp)) hS6.out ?_
              simp only [Act.put, List.setIfInBounds_toArray, List.set_cons_zero, List.set_cons_succ]
              refine wpAnyU_done (by kernel_rfl) ?_ _
              clear hS6
              have HEND : Hid (TenAt ((U5.setCell ⟨U4.heap.size, 0, none⟩ (.slice (some ⟨g1, 0, none⟩) 3 c1)).setCell ⟨U4.heap.size, 1, none⟩ (.slice (some ⟨g2, 0, none⟩) 9 9)) U4.heap.size (some ⟨g1, 0, none⟩) (some ⟨g2, 0, none⟩) 3 c1 9 9 [1, 3, 3] [0, 0, 0, 0, 5, 0, 0, 0, 0]) := hide ⟨FAL.set2 _ _, lies_of_own (own_setCell' (own_setCell' FP (by dsimp only; omega) _) (by dsimp only; omega) _), lies_of_own (own_setCell' (own_setCell' FQ (by dsimp only; omega) _) (by dsimp only; omega) _)⟩
              have HE2 := hide he2
              clear FP FQ FAL he he2 r0 r1 rf0 rf1
              go_wp2
              go_meet
              exact ⟨_, _, _, _, rfl, rfl, HEND, HE2⟩
            · intro K hK
              go_simp
              obtain ⟨U6, hU⟩ : ∃ U, U = U3.alloc (.cells #[.slice none 0 0, .slice none 0 0] 25) := ⟨_, rfl⟩
              rw [← hU]
              have hb : Below U3.heap.size U3 U6 := by rw [hU]; exact below_al6 (Below.refl _ _)
              have FAL : BoxT U6 U3.heap.size (.slice none 0 0) (.slice none 0 0) := by rw [hU]; exact BoxT.new U3 _ _
              have hpx : Va.heap.size ≤ U3.heap.size := he.size
              clear hU
              replace FL1 := FL1.below hb
              replace FL2 := FL2.below hb
              replace he : Below Va.heap.size Va U6 := below_nx6 he hb
              clear hb
              have hS4 : Hid (U6.cell? ⟨u0.heap.size, 0, none⟩ = some (.slice (some ⟨w.heap.size, 0, none⟩) 3 3) ∧ U6.cell? ⟨u0.heap.size, 1, none⟩ = some (.slice (some ⟨w.heap.size + 1, 0, none⟩) 9 9)) := hide (⟨(HT_t.out.kept he).c0, (HT_t.out.kept he).c1⟩)
              refine hK _ _ hS4.out (fun _ => ?_)
              clear hK K hS3
              refine wpAnyU_one (i := 4) (by kernel_rfl) rfl ?_
              intro K hK
              go_simp
              refine Calls.mono (wof_ok (some ⟨w.heap.size, 0, none⟩) (some ⟨w.heap.size + 1, 0, none⟩) (some ⟨U0.heap.size, 0, none⟩) (some ⟨U1.heap.size, 0, none⟩) 3 9 9 4 1 1 1 3 3 1 1 1 3 3 2 1 [1, 2, 3, 4, 5, 6, 7, 8, 9] [1] _ (HT_t.out.S.below he) (HT_t.out.L.below he) FL1 FL2 (by decide +kernel) (by decide +kernel) (by omega) (by decide +kernel) (by decide +kernel)) ?_
              rintro e U7 ⟨g1, c1, g2, rfl, FP, FQ, hne, hb⟩
              dsimp only
              rw [show winL [1, 2, 3, 4, 5, 6, 7, 8, 9] [1] 1 3 3 1 1 1 2 1 3 3 = [0, 0, 0, 0, 5, 0, 0, 0, 0] by decide +kernel] at FQ
              have lt1 := FP.lt g1 rfl
              have lt2 := FQ.lt g2 rfl
              have hzc := he.size
              have hzd := hb.size
              have hltAL := FAL.lt
              clear FL1
              clear FL2
              replace FAL := FAL.kept hb
              replace he : Below Va.heap.size Va U7 := below_nx6 he hb
              clear hb
              have hS5 : Hid (U7.cell? ⟨u0.heap.size, 0, none⟩ = some (.slice (some ⟨w.heap.size, 0, none⟩) 3 3) ∧ U7.cell? ⟨u0.heap.size, 1, none⟩ = some (.slice (some ⟨w.heap.size + 1, 0, none⟩) 9 9)) := hide (⟨(HT_t.out.kept he).c0, (HT_t.out.kept he).c1⟩)
              refine hK _ _ hS5.out (fun _ => ?_)
              clear hK K hS4
              refine wpAnyU_take (i := 5) (oi := { dst := some 25, op := _, type := _, pos := _, after := _, guard := none }) (v := .tuple #[(tenV (some ⟨g1, 0, none⟩) 3 c1 (some ⟨g2, 0, none⟩) 9 9), .int .i64 0]) rfl (by kernel_rfl) (by kernel_rfl) (by kernel_rfl) (by kernel_rfl) (fun _ _ _ h => h) (yields_take rfl (fun w' hw => by obtain ⟨h1, h2⟩ := hw.const; go_simp)) hS5.out ?_
              simp only [Act.put, List.setIfInBounds_toArray, List.set_cons_zero, List.set_cons_succ]
              refine wpAnyU_take (i := 6) (oi := { dst := some 31, op := _, type := _, pos := _, after := _, guard := none }) (v := (tenV (some ⟨g1, 0, none⟩) 3 c1 (some ⟨g2, 0, none⟩) 9 9)) rfl (by kernel_rfl) (by kernel_rfl) (by kernel_rfl) (by kernel_rfl) (fun _ _ _ h => h) (yields_take rfl (fun w' hw => by obtain ⟨h1, h2⟩ := hw.const; go_simp)) hS5.out ?_
              simp only [Act.put, List.setIfInBounds_toArray, List.set_cons_zero, List.set_cons_succ]
              refine wpAnyU_take (i := 7) (oi := { dst := some 32, op := _, type := _, pos := _, after := _, guard := none }) (v := .int .i64 0) rfl (by kernel_rfl) (by kernel_rfl) (by kernel_rfl) (by kernel_rfl) (fun _ _ _ h => h) (yields_take rfl (fun w' hw => by obtain ⟨h1, h2⟩ := hw.const; go_simp)) hS5.out ?_
              simp only [Act.put, List.setIfInBounds_toArray, List.set_cons_zero, List.set_cons_succ]
              have r0 := FAL.c0
              have r1 := FAL.c1
              have rf0 := FAL.f0 0
              have rf1 := FAL.f0 1
              have hlx := FAL.lt
              refine wpAnyU_one (i := 9) (by kernel_rfl) rfl ?_
              intro K hK
              go_simp
              have he2 : Below Va.heap.size Va ((U7.setCell ⟨U3.heap.size, 0, none⟩ (.slice (some ⟨g1, 0, none⟩) 3 c1)).setCell ⟨U3.heap.size, 1, none⟩ (.slice (some ⟨g2, 0, none⟩) 9 9)) := (he.setCell (by dsimp only; omega) _).setCell (by dsimp only; omega) _
              have hS6 : Hid (((U7.setCell ⟨U3.heap.size, 0, none⟩ (.slice (some ⟨g1, 0, none⟩) 3 c1)).setCell ⟨U3.heap.size, 1, none⟩ (.slice (some ⟨g2, 0, none⟩) 9 9)).cell? ⟨u0.heap.size, 0, none⟩ = some (.slice (some ⟨w.heap.size, 0, none⟩) 3 3) ∧ ((U7.setCell ⟨U3.heap.size, 0, none⟩ (.slice (some ⟨g1, 0, none⟩) 3 c1)).setCell ⟨U3.heap.size, 1, none⟩ (.slice (some ⟨g2, 0, none⟩) 9 9)).cell? ⟨u0.heap.size, 1, none⟩ = some (.slice (some ⟨w.heap.size + 1, 0, none⟩) 9 9)) := hide (⟨(HT_t.out.kept he2).c0, (HT_t.out.kept he2).c1⟩)
              refine hK.out _ _ hS6.out (fun _ => ?_)
              clear hK K hS5
              refine wpAnyU_take (i := 10) (oi := { dst := some 5, op := _, type := _, pos := _, after := _, guard := none }) (v := .int .i64 0) rfl (by kernel_rfl) (by kernel_rfl) (by kernel_rfl) (by kernel_rfl) (fun _ _ _ h => h) (yields_take rfl (fun w' hw => by obtain ⟨h1, h2⟩ := hw.const; go_simp)) hS6.out ?_
              simp only [Act.put, List.setIfInBounds_toArray, List.set_cons_zero, List.set_cons_succ]
              refine wpAnyU_done (by kernel_rfl) ?_ _
              clear hS6
              have HEND : Hid (TenAt ((U7.setCell ⟨U3.heap.size, 0, none⟩ (.slice (some ⟨g1, 0, none⟩) 3 c1)).setCell ⟨U3.heap.size, 1, none⟩ (.slice (some ⟨g2, 0, none⟩) 9 9)) U3.heap.size (some ⟨g1, 0, none⟩) (some ⟨g2, 0, none⟩) 3 c1 9 9 [1, 3, 3] [0, 0, 0, 0, 5, 0, 0, 0, 0]) := hide ⟨FAL.set2 _ _, lies_of_own (own_setCell' (own_setCell' FP (by dsimp only; omega) _) (by dsimp only; omega) _), lies_of_own (own_setCell' (own_setCell' FQ (by dsimp only; omega) _) (by dsimp only; omega) _)⟩
              have HE2 := hide he2
              clear FP FQ FAL he he2 r0 r1 rf0 rf1
              go_wp2
              go_meet
              exact ⟨_, _, _, _, rfl, rfl, HEND, HE2⟩
          · intro K hK
            go_simp
            obtain ⟨U8, hU⟩ : ∃ U, U = U2.alloc (.cells #[.slice none 0 0, .slice none 0 0] 25) := ⟨_, rfl⟩
            rw [← hU]
            have hb : Below U2.heap.size U2 U8 := by rw [hU]; exact below_al6 (Below.refl _ _)
            have FAL : BoxT U8 U2.heap.size (.slice none 0 0) (.slice none 0 0) := by rw [hU]; exact BoxT.new U2 _ _
            have hpx : Va.heap.size ≤ U2.heap.size := he.size
            clear hU
            replace FL1 := FL1.below hb
            replace FL2 := FL2.below hb
            replace he : Below Va.heap.size Va U8 := below_nx6 he hb
            clear hb
            have hS3 : Hid (U8.cell? ⟨u0.heap.size, 0, none⟩ = some (.slice (some ⟨w.heap.size, 0, none⟩) 3 3) ∧ U8.cell? ⟨u0.heap.size, 1, none⟩ = some (.slice (some ⟨w.heap.size + 1, 0, none⟩) 9 9)) := hide (⟨(HT_t.out.kept he).c0, (HT_t.out.kept he).c1⟩)
            refine hK _ _ hS3.out (fun _ => ?_)
            clear hK K hS2
            refine wpAnyU_one (i := 3) (by kernel_rfl) rfl ?_
            intro K hK
            go_simp
            refine Calls.mono (of8_any (some ⟨U0.heap.size, 0, none⟩) (some ⟨U1.heap.size, 0, none⟩) 4 4 1 1 _) ?_
            rintro e U9 ⟨rfl, hb⟩
            dsimp only
            have hltAL := FAL.lt
            replace FL1 := FL1.below hb
            replace FL2 := FL2.below hb
            replace FAL := FAL.kept hb
            replace he : Below Va.heap.size Va U9 := below_nx6 he hb
            clear hb
            have hS4 : Hid (U9.cell? ⟨u0.heap.size, 0, none⟩ = some (.slice (some ⟨w.heap.size, 0, none⟩) 3 3) ∧ U9.cell? ⟨u0.heap.size, 1, none⟩ = some (.slice (some ⟨w.heap.size + 1, 0, none⟩) 9 9)) := hide (⟨(HT_t.out.kept he).c0, (HT_t.out.kept he).c1⟩)
            refine hK _ _ hS4.out (fun _ => ?_)
            clear hK K hS3
            refine wpAnyU_one (i := 4) (by kernel_rfl) rfl ?_
            intro K hK
            go_simp
            refine Calls.mono (wof_ok (some ⟨w.heap.size, 0, none⟩) (some ⟨w.heap.size + 1, 0, none⟩) (some ⟨U0.heap.size, 0, none⟩) (some ⟨U1.heap.size, 0, none⟩) 3 9 9 4 1 1 1 3 3 1 1 1 3 3 2 1 [1, 2, 3, 4, 5, 6, 7, 8, 9] [1] _ (HT_t.out.S.below he) (HT_t.out.L.below he) FL1 FL2 (by decide +kernel) (by decide +kernel) (by omega) (by decide +kernel) (by decide +kernel)) ?_
            rintro e U10 ⟨g1, c1, g2, rfl, FP, FQ, hne, hb⟩
            dsimp only
            rw [show winL [1, 2, 3, 4, 5, 6, 7, 8, 9] [1] 1 3 3 1 1 1 2 1 3 3 = [0, 0, 0, 0, 5, 0, 0, 0, 0] by decide +kernel] at FQ
            have lt1 := FP.lt g1 rfl
            have lt2 := FQ.lt g2 rfl
            have hzc := he.size
            have hzd := hb.size
            have hltAL := FAL.lt
            clear FL1
            clear FL2
            replace FAL := FAL.kept hb
            replace he : Below Va.heap.size Va U10 := below_nx6 he hb
            clear hb
            have hS5 : Hid (U10.cell? ⟨u0.heap.size, 0, none⟩ = some (.slice (some ⟨w.heap.size, 0, none⟩) 3 3) ∧ U10.cell? ⟨u0.heap.size, 1, none⟩ = some (.slice (some ⟨w.heap.size + 1, 0, none⟩) 9 9)) := hide (⟨(HT_t.out.kept he).c0, (HT_t.out.kept he).c1⟩)
            refine hK _ _ hS5.out (fun _ => ?_)
            clear hK K hS4
            refine wpAnyU_take (i := 5) (oi := { dst := some 25, op := _, type := _, pos := _, after := _, guard := none }) (v := .tuple #[(tenV (some ⟨g1, 0, none⟩) 3 c1 (some ⟨g2, 0, none⟩) 9 9), .int .i64 0]) rfl (by kernel_rfl) (by kernel_rfl) (by kernel_rfl) (by kernel_rfl) (fun _ _ _ h => h) (yields_take rfl (fun w' hw => by obtain ⟨h1, h2⟩ := hw.const; go_simp)) hS5.out ?_
            simp only [Act.put, List.setIfInBounds_toArray, List.set_cons_zero, List.set_cons_succ]
            refine wpAnyU_take (i := 6) (oi := { dst := some 31, op := _, type := _, pos := _, after := _, guard := none }) (v := (tenV (some ⟨g1, 0, none⟩) 3 c1 (some ⟨g2, 0, none⟩) 9 9)) rfl (by kernel_rfl) (by kernel_rfl) (by kernel_rfl) (by kernel_rfl) (fun _ _ _ h => h) (yields_take rfl (fun w' hw => by obtain ⟨h1, h2⟩ := hw.const; go_simp)) hS5.out ?_
            simp only [Act.put, List.setIfInBounds_toArray, List.set_cons_zero, List.set_cons_succ]
            refine wpAnyU_take (i := 7) (oi := { dst := some 32, op := _, type := _, pos := _, after := _, guard := none }) (v := .int .i64 0) rfl (by kernel_rfl) (by kernel_rfl) (by kernel_rfl) (by kernel_rfl) (fun _ _ _ h => h) (yields_take rfl (fun w' hw => by obtain ⟨h1, h2⟩ := hw.const; go_simp)) hS5.out ?_
            simp only [Act.put, List.setIfInBounds_toArray, List.set_cons_zero, List.set_cons_succ]
            have r0 := FAL.c0
            have r1 := FAL.c1
            have rf0 := FAL.f0 0
            have rf1 := FAL.f0 1
            have hlx := FAL.lt
            refine wpAnyU_one (i := 9) (by kernel_rfl) rfl ?_
            intro K hK
            go_simp
            have he2 : Below Va.heap.size Va ((U10.setCell ⟨U2.heap.size, 0, none⟩ (.slice (some ⟨g1, 0, none⟩) 3 c1)).setCell ⟨U2.heap.size, 1, none⟩ (.slice (some ⟨g2, 0, none⟩) 9 9)) := (he.setCell (by dsimp only; omega) _).setCell (by dsimp only; omega) _
            have hS6 : Hid (((U10.setCell ⟨U2.heap.size, 0, none⟩ (.slice (some ⟨g1, 0, none⟩) 3 c1)).setCell ⟨U2.heap.size, 1, none⟩ (.slice (some ⟨g2, 0, none⟩) 9 9)).cell? ⟨u0.heap.size, 0, none⟩ = some (.slice (some ⟨w.heap.size, 0, none⟩) 3 3) ∧ ((U10.setCell ⟨U2.heap.size, 0, none⟩ (.slice (some ⟨g1, 0, none⟩) 3 c1)).setCell ⟨U2.heap.size, 1, none⟩ (.slice (some ⟨g2, 0, none⟩) 9 9)).cell? ⟨u0.heap.size, 1, none⟩ = some (.slice (some ⟨w.heap.size + 1, 0, none⟩) 9 9)) := hide (⟨(HT_t.out.kept he2).c0, (HT_t.out.kept he2).c1⟩)
            refine hK.out _ _ hS6.out (fun _ => ?_)
            clear hK K hS5
            refine wpAnyU_take (i := 10) (oi := { dst := some 5, op := _, type := _, pos := _, after := _, guard := none }) (v := .int .i64 0) rfl (by kernel_rfl) (by kernel_rfl) (by kernel_rfl) (by kernel_rfl) (fun _ _ _ h => h) (yields_take rfl (fun w' hw => by obtain ⟨h1, h2⟩ := hw.const; go_simp)) hS6.out ?_
            simp only [Act.put, List.setIfInBounds_toArray, List.set_cons_zero, List.set_cons_succ]
            refine wpAnyU_done (by kernel_rfl) ?_ _
            clear hS6
            have HEND : Hid (TenAt ((U10.setCell ⟨U2.heap.size, 0, none⟩ (.slice (some ⟨g1, 0, none⟩) 3 c1)).setCell ⟨U2.heap.size, 1, none⟩ (.slice (some ⟨g2, 0, none⟩) 9 9)) U2.heap.size (some ⟨g1, 0, none⟩) (some ⟨g2, 0, none⟩) 3 c1 9 9 [1, 3, 3] [0, 0, 0, 0, 5, 0, 0, 0, 0]) := hide ⟨FAL.set2 _ _, lies_of_own (own_setCell' (own_setCell' FP (by dsimp only; omega) _) (by dsimp only; omega) _), lies_of_own (own_setCell' (own_setCell' FQ (by dsimp only; omega) _) (by dsimp only; omega) _)⟩
            have HE2 := hide he2
            clear FP FQ FAL he he2 r0 r1 rf0 rf1
            go_wp2
            go_meet
            exact ⟨_, _, _, _, rfl, rfl, HEND, HE2⟩
        · intro K hK
          go_simp
          obtain ⟨U11, hU⟩ : ∃ U, U = U1.alloc (.cells #[.slice none 0 0, .slice none 0 0] 25) := ⟨_, rfl⟩
          rw [← hU]
          have hb : Below U1.heap.size U1 U11 := by rw [hU]; exact below_al6 (Below.refl _ _)
          have FAL : BoxT U11 U1.heap.size (.slice none 0 0) (.slice none 0 0) := by rw [hU]; exact BoxT.new U1 _ _
          have hpx : Va.heap.size ≤ U1.heap.size := he.size
          clear hU
          replace FL1 := FL1.below hb
          replace he : Below Va.heap.size Va U11 := below_nx6 he hb
          clear hb
          have hS2 : Hid (U11.cell? ⟨u0.heap.size, 0, none⟩ = some (.slice (some ⟨w.heap.size, 0, none⟩) 3 3) ∧ U11.cell? ⟨u0.heap.size, 1, none⟩ = some (.slice (some ⟨w.heap.size + 1, 0, none⟩) 9 9)) := hide (⟨(HT_t.out.kept he).c0, (HT_t.out.kept he).c1⟩)
          refine hK _ _ hS2.out (fun _ => ?_)
          clear hK K hS1
          refine wpAnyU_one (i := 2) (by kernel_rfl) rfl ?_
          intro K hK
          go_simp
          obtain ⟨U12, hU⟩ : ∃ U, U = U11.alloc (.cells #[.int .i32 1] 21) := ⟨_, rfl⟩
          rw [← hU]
          have hb : Below U11.heap.size U11 U12 := by rw [hU]; exact below_al6 (Below.refl _ _)
          have FL2 : Lies U12 (some ⟨U11.heap.size, 0, none⟩) 1 (([1] : List Int).map (Value.int .i32)) := by rw [hU]; exact lit_lies U11 .i32 ([1] : List Int) 21
          clear hU
          replace FL1 := FL1.below hb
          replace FAL := FAL.kept hb
          replace he : Below Va.heap.size Va U12 := below_nx6 he hb
          clear hb
          have hS3 : Hid (U12.cell? ⟨u0.heap.size, 0, none⟩ = some (.slice (some ⟨w.heap.size, 0, none⟩) 3 3) ∧ U12.cell? ⟨u0.heap.size, 1, none⟩ = some (.slice (some ⟨w.heap.size + 1, 0, none⟩) 9 9)) := hide (⟨(HT_t.out.kept he).c0, (HT_t.out.kept he).c1⟩)
          refine hK _ _ hS3.out (fun _ => ?_)
          clear hK K hS2
          refine wpAnyU_one (i := 3) (by kernel_rfl) rfl ?_
          intro K hK
          go_simp
          refine Calls.mono (of8_any (some ⟨U0.heap.size, 0, none⟩) (some ⟨U11.heap.size, 0, none⟩) 4 4 1 1 _) ?_
          rintro e U13 ⟨rfl, hb⟩
          dsimp only
          have hltAL := FAL.lt
          replace FL1 := FL1.below hb
          replace FAL := FAL.kept hb
          replace FL2 := FL2.below hb
          replace he : Below Va.heap.size Va U13 := below_nx6 he hb
          clear hb
          have hS4 : Hid (U13.cell? ⟨u0.heap.size, 0, none⟩ = some (.slice (some ⟨w.heap.size, 0, none⟩) 3 3) ∧ U13.cell? ⟨u0.heap.size, 1, none⟩ = some (.slice (some ⟨w.heap.size + 1, 0, none⟩) 9 9)) := hide (⟨(HT_t.out.kept he).c0, (HT_t.out.kept he).c1⟩)
          refine hK _ _ hS4.out (fun _ => ?_)
          clear hK K hS3
          refine wpAnyU_one (i := 4) (by kernel_rfl) rfl ?_
          intro K hK
          go_simp
          refine Calls.mono (wof_ok (some ⟨w.heap.size, 0, none⟩) (some ⟨w.heap.size + 1, 0, none⟩) (some ⟨U0.heap.size, 0, none⟩) (some ⟨U11.heap.size, 0, none⟩) 3 9 9 4 1 1 1 3 3 1 1 1 3 3 2 1 [1, 2, 3, 4, 5, 6, 7, 8, 9] [1] _ (HT_t.out.S.below he) (HT_t.out.L.below he) FL1 FL2 (by decide +kernel) (by decide +kernel) (by omega) (by decide +kernel) (by decide +kernel)) ?_
          rintro e U14 ⟨g1, c1, g2, rfl, FP, FQ, hne, hb⟩
          dsimp only
          rw [show winL [1, 2, 3, 4, 5, 6, 7, 8, 9] [1] 1 3 3 1 1 1 2 1 3 3 = [0, 0, 0, 0, 5, 0, 0, 0, 0] by decide +kernel] at FQ
          have lt1 := FP.lt g1 rfl
          have lt2 := FQ.lt g2 rfl
          have hzc := he.size
          have hzd := hb.size
          have hltAL := FAL.lt
          clear FL1
          replace FAL := FAL.kept hb
          clear FL2
          replace he : Below Va.heap.size Va U14 := below_nx6 he hb
          clear hb
          have hS5 : Hid (U14.cell? ⟨u0.heap.size, 0, none⟩ = some (.slice (some ⟨w.heap.size, 0, none⟩) 3 3) ∧ U14.cell? ⟨u0.heap.size, 1, none⟩ = some (.slice (some ⟨w.heap.size + 1, 0, none⟩) 9 9)) := hide (⟨(HT_t.out.kept he).c0, (HT_t.out.kept he).c1⟩)
          refine hK _ _ hS5.out (fun _ => ?_)
          clear hK K hS4
          refine wpAnyU_take (i := 5) (oi := { dst := some 25, op := _, type := _, pos := _, after := _, guard := none }) (v := .tuple #[(tenV (some ⟨g1, 0, none⟩) 3 c1 (some ⟨g2, 0, none⟩) 9 9), .int .i64 0]) rfl (by kernel_rfl) (by kernel_rfl) (by kernel_rfl) (by kernel_rfl) (fun _ _ _ h => h) (yields_take rfl (fun w' hw => by obtain ⟨h1, h2⟩ := hw.const; go_simp)) hS5.out ?_
          simp only [Act.put, List.setIfInBounds_toArray, List.set_cons_zero, List.set_cons_succ]
          refine wpAnyU_take (i := 6) (oi := { dst := some 31, op := _, type := _, pos := _, after := _, guard := none }) (v := (tenV (some ⟨g1, 0, none⟩) 3 c1 (some ⟨g2, 0, none⟩) 9 9)) rfl (by kernel_rfl) (by kernel_rfl) (by kernel_rfl) (by kernel_rfl) (fun _ _ _ h => h) (yields_take rfl (fun w' hw => by obtain ⟨h1, h2⟩ := hw.const; go_simp)) hS5.out ?_
          simp only [Act.put, List.setIfInBounds_toArray, List.set_cons_zero, List.set_cons_succ]
          refine wpAnyU_take (i := 7) (oi := { dst := some 32, op := _, type := _, pos := _, after := _, guard := none }) (v := .int .i64 0) rfl (by kernel_rfl) (by kernel_rfl) (by kernel_rfl) (by kernel_rfl) (fun _ _ _ h => h) (yields_take rfl (fun w' hw => by obtain ⟨h1, h2⟩ := hw.const; go_simp)) hS5.out ?_
          simp only [Act.put, List.setIfInBounds_toArray, List.set_cons_zero, List.set_cons_succ]
          have r0 := FAL.c0
          have r1 := FAL.c1
          have rf0 := FAL.f0 0
          have rf1 := FAL.f0 1
          have hlx := FAL.lt
          refine wpAnyU_one (i := 9) (by kernel_rfl) rfl ?_
          intro K hK
          go_simp
          have he2 : Below Va.heap.size Va ((U14.setCell ⟨U1.heap.size, 0, none⟩ (.slice (some ⟨g1, 0, none⟩) 3 c1)).setCell ⟨U1.heap.size, 1, none⟩ (.slice (some ⟨g2, 0, none⟩) 9 9)) := (he.setCell (by dsimp only; omega) _).setCell (by dsimp only; omega) _
          have hS6 : Hid (((U14.setCell ⟨U1.heap.size, 0, none⟩ (.slice (some ⟨g1, 0, none⟩) 3 c1)).setCell ⟨U1.heap.size, 1, none⟩ (.slice (some ⟨g2, 0, none⟩) 9 9)).cell? ⟨u0.heap.size, 0, none⟩ = some (.slice (some ⟨w.heap.size, 0, none⟩) 3 3) ∧ ((U14.setCell ⟨U1.heap.size, 0, none⟩ (.slice (some ⟨g1, 0, none⟩) 3 c1)).setCell ⟨U1.heap.size, 1, none⟩ (.slice (some ⟨g2, 0, none⟩) 9 9)).cell? ⟨u0.heap.size, 1, none⟩ = some (.slice (some ⟨w.heap.size + 1, 0, none⟩) 9 9)) := hide (⟨(HT_t.out.kept he2).c0, (HT_t.out.kept he2).c1⟩)
          refine hK.out _ _ hS6.out (fun _ => ?_)
          clear hK K hS5
          refine wpAnyU_take (i := 10) (oi := { dst := some 5, op := _, type := _, pos := _, after := _, guard := none }) (v := .int .i64 0) rfl (by kernel_rfl) (by kernel_rfl) (by kernel_rfl) (by kernel_rfl) (fun _ _ _ h => h) (yields_take rfl (fun w' hw => by obtain ⟨h1, h2⟩ := hw.const; go_simp)) hS6.out ?_
          simp only [Act.put, List.setIfInBounds_toArray, List.set_cons_zero, List.set_cons_succ]
          refine wpAnyU_done (by kernel_rfl) ?_ _
          clear hS6
          have HEND : Hid (TenAt ((U14.setCell ⟨U1.heap.size, 0, none⟩ (.slice (some ⟨g1, 0, none⟩) 3 c1)).setCell ⟨U1.heap.size, 1, none⟩ (.slice (some ⟨g2, 0, none⟩) 9 9)) U1.heap.size (some ⟨g1, 0, none⟩) (some ⟨g2, 0, none⟩) 3 c1 9 9 [1, 3, 3] [0, 0, 0, 0, 5, 0, 0, 0, 0]) := hide ⟨FAL.set2 _ _, lies_of_own (own_setCell' (own_setCell' FP (by dsimp only; omega) _) (by dsimp only; omega) _), lies_of_own (own_setCell' (own_setCell' FQ (by dsimp only; omega) _) (by dsimp only; omega) _)⟩
          have HE2 := hide he2
          clear FP FQ FAL he he2 r0 r1 rf0 rf1
          go_wp2
          go_meet
          exact ⟨_, _, _, _, rfl, rfl, HEND, HE2⟩
      · intro K hK
        go_simp
        obtain ⟨U15, hU⟩ : ∃ U, U = U0.alloc (.cells #[.int .i32 1] 21) := ⟨_, rfl⟩
        rw [← hU]
        have hb : Below U0.heap.size U0 U15 := by rw [hU]; exact below_al6 (Below.refl _ _)
        have FL2 : Lies U15 (some ⟨U0.heap.size, 0, none⟩) 1 (([1] : List Int).map (Value.int .i32)) := by rw [hU]; exact lit_lies U0 .i32 ([1] : List Int) 21
        clear hU
        replace he : Below Va.heap.size Va U15 := below_nx6 he hb
        clear hb
        have hS1 : Hid (U15.cell? ⟨u0.heap.size, 0, none⟩ = some (.slice (some ⟨w.heap.size, 0, none⟩) 3 3) ∧ U15.cell? ⟨u0.heap.size, 1, none⟩ = some (.slice (some ⟨w.heap.size + 1, 0, none⟩) 9 9)) := hide (⟨(HT_t.out.kept he).c0, (HT_t.out.kept he).c1⟩)
        refine hK _ _ hS1.out (fun _ => ?_)
        clear hK K hS0
        refine wpAnyU_or (i := 1) (j := 8) (by kernel_rfl) rfl rfl ?_ ?_
        · intro K hK
          go_simp
          obtain ⟨U16, hU⟩ : ∃ U, U = U15.alloc (.cells #[.int .i64 1, .int .i64 1, .int .i64 1, .int .i64 1] 3) := ⟨_, rfl⟩
          rw [← hU]
          have hb : Below U15.heap.size U15 U16 := by rw [hU]; exact below_al6 (Below.refl _ _)
          have FL1 : Lies U16 (some ⟨U15.heap.size, 0, none⟩) 4 (([1, 1, 1, 1] : List Int).map (Value.int .i64)) := by rw [hU]; exact lit_lies U15 .i64 ([1, 1, 1, 1] : List Int) 3
          clear hU
          replace FL2 := FL2.below hb
          replace he : Below Va.heap.size Va U16 := below_nx6 he hb
          clear hb
          have hS2 : Hid (U16.cell? ⟨u0.heap.size, 0, none⟩ = some (.slice (some ⟨w.heap.size, 0, none⟩) 3 3) ∧ U16.cell? ⟨u0.heap.size, 1, none⟩ = some (.slice (some ⟨w.heap.size + 1, 0, none⟩) 9 9)) := hide (⟨(HT_t.out.kept he).c0, (HT_t.out.kept he).c1⟩)
          refine hK _ _ hS2.out (fun _ => ?_)
          clear hK K hS1
          refine wpAnyU_or (i := 3) (j := 8) (by kernel_rfl) rfl rfl ?_ ?_
          · intro K hK
            go_simp
            refine Calls.mono (of8_any (some ⟨U15.heap.size, 0, none⟩) (some ⟨U0.heap.size, 0, none⟩) 4 4 1 1 _) ?_
            rintro e U17 ⟨rfl, hb⟩
            dsimp only
            replace FL2 := FL2.below hb
            replace FL1 := FL1.below hb
            replace he : Below Va.heap.size Va U17 := below_nx6 he hb
            clear hb
            have hS3 : Hid (U17.cell? ⟨u0.heap.size, 0, none⟩ = some (.slice (some ⟨w.heap.size, 0, none⟩) 3 3) ∧ U17.cell? ⟨u0.heap.size, 1, none⟩ = some (.slice (some ⟨w.heap.size + 1, 0, none⟩) 9 9)) := hide (⟨(HT_t.out.kept he).c0, (HT_t.out.kept he).c1⟩)
            refine hK _ _ hS3.out (fun _ => ?_)
            clear hK K hS2
            refine wpAnyU_or (i := 4) (j := 8) (by kernel_rfl) rfl rfl ?_ ?_
            · intro K hK
              go_simp
              refine Calls.mono (wof_ok (some ⟨w.heap.size, 0, none⟩) (some ⟨w.heap.size + 1, 0, none⟩) (some ⟨U15.heap.size, 0, none⟩) (some ⟨U0.heap.size, 0, none⟩) 3 9 9 4 1 1 1 3 3 1 1 1 3 3 2 1 [1, 2, 3, 4, 5, 6, 7, 8, 9] [1] _ (HT_t.out.S.below he) (HT_t.out.L.below he) FL1 FL2 (by decide +kernel) (by decide +kernel) (by omega) (by decide +kernel) (by decide +kernel)) ?_
              rintro e U18 ⟨g1, c1, g2, rfl, FP, FQ, hne, hb⟩
              dsimp only
              rw [show winL [1, 2, 3, 4, 5, 6, 7, 8, 9] [1] 1 3 3 1 1 1 2 1 3 3 = [0, 0, 0, 0, 5, 0, 0, 0, 0] by decide +kernel] at FQ
              have lt1 := FP.lt g1 rfl
              have lt2 := FQ.lt g2 rfl
              have hzc := he.size
              have hzd := hb.size
              clear FL2
              clear FL1
              replace he : Below Va.heap.size Va U18 := below_nx6 he hb
              clear hb
              have hS4 : Hid (U18.cell? ⟨u0.heap.size, 0, none⟩ = some (.slice (some ⟨w.heap.size, 0, none⟩) 3 3) ∧ U18.cell? ⟨u0.heap.size, 1, none⟩ = some (.slice (some ⟨w.heap.size + 1, 0, none⟩) 9 9)) := hide (⟨(HT_t.out.kept he).c0, (HT_t.out.kept he).c1⟩)
              refine hK _ _ hS4.out (fun _ => ?_)
              clear hK K hS3
              refine wpAnyU_take (i := 5) (oi := { dst := some 25, op := _, type := _, pos := _, after := _, guard := none }) (v := .tuple #[(tenV (some ⟨g1, 0, none⟩) 3 c1 (some ⟨g2, 0, none⟩) 9 9), .int .i64 0]) rfl (by kernel_rfl) (by kernel_rfl) (by kernel_rfl) (by kernel_rfl) (fun _ _ _ h => h) (yields_take rfl (fun w' hw => by obtain ⟨h1, h2⟩ := hw.const; go_simp)) hS4.out ?_
              simp only [Act.put, List.setIfInBounds_toArray, List.set_cons_zero, List.set_cons_succ]
              refine wpAnyU_take (i := 6) (oi := { dst := some 31, op := _, type := _, pos := _, after := _, guard := none }) (v := (tenV (some ⟨g1, 0, none⟩) 3 c1 (some ⟨g2, 0, none⟩) 9 9)) rfl (by kernel_rfl) (by kernel_rfl) (by kernel_rfl) (by kernel_rfl) (fun _ _ _ h => h) (yields_take rfl (fun w' hw => by obtain ⟨h1, h2⟩ := hw.const; go_simp)) hS4.out ?_
              simp only [Act.put, List.setIfInBounds_toArray, List.set_cons_zero, List.set_cons_succ]
              refine wpAnyU_take (i := 7) (oi := { dst := some 32, op := _, type := _, pos := _, after := _, guard := none }) (v := .int .i64 0) rfl (by kernel_rfl) (by kernel_rfl) (by kernel_rfl) (by kernel_rfl) (fun _ _ _ h => h) (yields_take rfl (fun w' hw => by obtain ⟨h1, h2⟩ := hw.const; go_simp)) hS4.out ?_
              simp only [Act.put, List.setIfInBounds_toArray, List.set_cons_zero, List.set_cons_succ]
              refine wpAnyU_one (i := 8) (by kernel_rfl) rfl ?_
              intro K hK
              go_simp
              obtain ⟨U19, hU⟩ : ∃ U, U = U18.alloc (.cells #[.slice none 0 0, .slice none 0 0] 25) := ⟨_, rfl⟩
              rw [← hU]
              have hb : Below U18.heap.size U18 U19 := by rw [hU]; exact below_al6 (Below.refl _ _)
              have FAL : BoxT U19 U18.heap.size (.slice none 0 0) (.slice none 0 0) := by rw [hU]; exact BoxT.new U18 _ _
              have hpx : Va.heap.size ≤ U18.heap.size := he.size
              clear hU
              replace FP := own_below FP hb
              replace FQ := own_below FQ hb
              replace he : Below Va.heap.size Va U19 := below_nx6 he hb
              clear hb
              have hS5 : Hid (U19.cell? ⟨u0.heap.size, 0, none⟩ = some (.slice (some ⟨w.heap.size, 0, none⟩) 3 3) ∧ U19.cell? ⟨u0.heap.size, 1, none⟩ = some (.slice (some ⟨w.heap.size + 1, 0, none⟩) 9 9)) := hide (⟨(HT_t.out.kept he).c0, (HT_t.out.kept he).c1⟩)
              refine hK _ _ hS5.out (fun _ => ?_)
              clear hK K hS4
              have r0 := FAL.c0
              have r1 := FAL.c1
              have rf0 := FAL.f0 0
              have rf1 := FAL.f0 1
              have hlx := FAL.lt
              refine wpAnyU_one (i := 9) (by kernel_rfl) rfl ?_
              intro K hK
              go_simp
              have he2 : Below Va.heap.size Va ((U19.setCell ⟨U18.heap.size, 0, none⟩ (.slice (some ⟨g1, 0, none⟩) 3 c1)).setCell ⟨U18.heap.size, 1, none⟩ (.slice (some ⟨g2, 0, none⟩) 9 9)) := (he.setCell (by dsimp only; omega) _).setCell (by dsimp only; omega) _
              have hS6 : Hid (((U19.setCell ⟨U18.heap.size, 0, none⟩ (.slice (some ⟨g1, 0, none⟩) 3 c1)).setCell ⟨U18.heap.size, 1, none⟩ (.slice (some ⟨g2, 0, none⟩) 9 9)).cell? ⟨u0.heap.size, 0, none⟩ = some (.slice (some ⟨w.heap.size, 0, none⟩) 3 3) ∧ ((U19.setCell ⟨U18.heap.size, 0, none⟩ (.slice (some ⟨g1, 0, none⟩) 3 c1)).setCell ⟨U18.heap.size, 1, none⟩ (.slice (some ⟨g2, 0, none⟩) 9 9)).cell? ⟨u0.heap.size, 1, none⟩ = some (.slice (some ⟨w.heap.size + 1, 0, none⟩) 9 9)) := hide (⟨(HT_t.out.kept he2).c0, (HT_t.out.kept he2).c1⟩)
              refine hK.out _ _ hS6.out (fun _ => ?_)
              clear hK K hS5
              refine wpAnyU_take (i := 10) (oi := { dst := some 5, op := _, type := _, pos := _, after := _, guard := none }) (v := .int .i64 0) rfl (by kernel_rfl) (by kernel_rfl) (by kernel_rfl) (by kernel_rfl) (fun _ _ _ h => h) (yields_take rfl (fun w' hw => by obtain ⟨h1, h2⟩ := hw.const; go_simp)) hS6.out ?_
              simp only [Act.put, List.setIfInBounds_toArray, List.set_cons_zero, List.set_cons_succ]
              refine wpAnyU_done (by kernel_rfl) ?_ _
              clear hS6
              have HEND : Hid (TenAt ((U19.setCell ⟨U18.heap.size, 0, none⟩ (.slice (some ⟨g1, 0, none⟩) 3 c1)).setCell ⟨U18.heap.size, 1, none⟩ (.slice (some ⟨g2, 0, none⟩) 9 9)) U18.heap.size (some ⟨g1, 0, none⟩) (some ⟨g2, 0, none⟩) 3 c1 9 9 [1, 3, 3] [0, 0, 0, 0, 5, 0, 0, 0, 0]) := hide ⟨FAL.set2 _ _, lies_of_own (own_setCell' (own_setCell' FP (by dsimp only; omega) _) (by dsimp only; omega) _), lies_of_own (own_setCell' (own_setCell' FQ (by dsimp only; omega) _) (by dsimp only; omega) _)⟩
              have HE2 := hide he2
              clear FP FQ FAL he he2 r0 r1 rf0 rf1
              go_wp2
              go_meet
              exact ⟨_, _, _, _, rfl, rfl, HEND, HE2⟩
            · intro K hK
              go_simp
              obtain ⟨U20, hU⟩ : ∃ U, U = U17.alloc (.cells #[.slice none 0 0, .slice none 0 0] 25) := ⟨_, rfl⟩
              rw [← hU]
              have hb : Below U17.heap.size U17 U20 := by rw [hU]; exact below_al6 (Below.refl _ _)
              have FAL : BoxT U20 U17.heap.size (.slice none 0 0) (.slice none 0 0) := by rw [hU]; exact BoxT.new U17 _ _
              have hpx : Va.heap.size ≤ U17.heap.size := he.size
              clear hU
              replace FL2 := FL2.below hb
              replace FL1 := FL1.below hb
              replace he : Below Va.heap.size Va U20 := below_nx6 he hb
              clear hb
              have hS4 : Hid (U20.cell? ⟨u0.heap.size, 0, none⟩ = some (.slice (some ⟨w.heap.size, 0, none⟩) 3 3) ∧ U20.cell? ⟨u0.heap.size, 1, none⟩ = some (.slice (some ⟨w.heap.size + 1, 0, none⟩) 9 9)) := hide (⟨(HT_t.out.kept he).c0, (HT_t.out.kept he).c1⟩)
              refine hK _ _ hS4.out (fun _ => ?_)
              clear hK K hS3
              refine wpAnyU_one (i := 4) (by kernel_rfl) rfl ?_
              intro K hK
              go_simp
              refine Calls.mono (wof_ok (some ⟨w.heap.size, 0, none⟩) (some ⟨w.heap.size + 1, 0, none⟩) (some ⟨U15.heap.size, 0, none⟩) (some ⟨U0.heap.size, 0, none⟩) 3 9 9 4 1 1 1 3 3 1 1 1 3 3 2 1 [1, 2, 3, 4, 5, 6, 7, 8, 9] [1] _ (HT_t.out.S.below he) (HT_t.out.L.below he) FL1 FL2 (by decide +kernel) (by decide +kernel) (by omega) (by decide +kernel) (by decide +kernel)) ?_
              rintro e U21 ⟨g1, c1, g2, rfl, FP, FQ, hne, hb⟩
              dsimp only
              rw [show winL [1, 2, 3, 4, 5, 6, 7, 8, 9] [1] 1 3 3 1 1 1 2 1 3 3 = [0, 0, 0, 0, 5, 0, 0, 0, 0] by decide +kernel] at FQ
              have lt1 := FP.lt g1 rfl
              have lt2 := FQ.lt g2 rfl
              have hzc := he.size
              have hzd := hb.size
              have hltAL := FAL.lt
              clear FL2
              clear FL1
              replace FAL := FAL.kept hb
              replace he : Below Va.heap.size Va U21 := below_nx6 he hb
              clear hb
              have hS5 : Hid (U21.cell? ⟨u0.heap.size, 0, none⟩ = some (.slice (some ⟨w.heap.size, 0, none⟩) 3 3) ∧ U21.cell? ⟨u0.heap.size, 1, none⟩ = some (.slice (some ⟨w.heap.size + 1, 0, none⟩) 9 9)) := hide (⟨(HT_t.out.kept he).c0, (HT_t.out.kept he).c1⟩)
              refine hK _ _ hS5.out (fun _ => ?_)
              clear hK K hS4
              refine wpAnyU_take (i := 5) (oi := { dst := some 25, op := _, type := _, pos := _, after := _, guard := none }) (v := .tuple #[(tenV (some ⟨g1, 0, none⟩) 3 c1 (some ⟨g2, 0, none⟩) 9 9), .int .i64 0]) rfl (by kernel_rfl) (by kernel_rfl) (by kernel_rfl) (by kernel_rfl) (fun _ _ _ h => h) (yields_take rfl (fun w' hw => by obtain ⟨h1, h2⟩ := hw.const; go_simp)) hS5.out ?_
              simp only [Act.put, List.setIfInBounds_toArray, List.set_cons_zero, List.set_cons_succ]
              refine wpAnyU_take (i := 6) (oi := { dst := some 31, op := _, type := _, pos := _, after := _, guard := none }) (v := (tenV (some ⟨g1, 0, none⟩) 3 c1 (some ⟨g2, 0, none⟩) 9 9)) rfl (by kernel_rfl) (by kernel_rfl) (by kernel_rfl) (by kernel_rfl) (fun _ _ _ h => h) (yields_take rfl (fun w' hw => by obtain ⟨h1, h2⟩ := hw.const; go_simp)) hS5.out ?_
              simp only [Act.put, List.setIfInBounds_toArray, List.set_cons_zero, List.set_cons_succ]
              refine wpAnyU_take (i := 7) (oi := { dst := some 32, op := _, type := _, pos := _, after := _, guard := none }) (v := .int .i64 0) rfl (by kernel_rfl) (by kernel_rfl) (by kernel_rfl) (by kernel_rfl) (fun _ _ _ h => h) (yields_take rfl (fun w' hw => by obtain ⟨h1, h2⟩ := hw.const; go_simp)) hS5.out ?_
              simp only [Act.put, List.setIfInBounds_toArray, List.set_cons_zero, List.set_cons_succ]
              have r0 := FAL.c0
              have r1 := FAL.c1
              have rf0 := FAL.f0 0
              have rf1 := FAL.f0 1
              have hlx := FAL.lt
              refine wpAnyU_one (i := 9) (by kernel_rfl) rfl ?_
              intro K hK
              go_simp
              have he2 : Below Va.heap.size Va ((U21.setCell ⟨U17.heap.size, 0, none⟩ (.slice (some ⟨g1, 0, none⟩) 3 c1)).setCell ⟨U17.heap.size, 1, none⟩ (.slice (some ⟨g2, 0, none⟩) 9 9)) := (he.setCell (by dsimp only; omega) _).setCell (by dsimp only; omega) _
              have hS6 : Hid (((U21.setCell ⟨U17.heap.size, 0, none⟩ (.slice (some ⟨g1, 0, none⟩) 3 c1)).setCell ⟨U17.heap.size, 1, none⟩ (.slice (some ⟨g2, 0, none⟩) 9 9)).cell? ⟨u0.heap.size, 0, none⟩ = some (.slice (some ⟨w.heap.size, 0, none⟩) 3 3) ∧ ((U21.setCell ⟨U17.heap.size, 0, none⟩ (.slice (some ⟨g1, 0, none⟩) 3 c1)).setCell ⟨U17.heap.size, 1, none⟩ (.slice (some ⟨g2, 0, none⟩) 9 9)).cell? ⟨u0.heap.size, 1, none⟩ = some (.slice (some ⟨w.heap.size + 1, 0, none⟩) 9 9)) := hide (⟨(HT_t.out.kept he2).c0, (HT_t.out.kept he2).c1⟩)
              refine hK.out _ _ hS6.out (fun _ => ?_)
              clear hK K hS5
              refine wpAnyU_take (i := 10) (oi := { dst := some 5, op := _, type := _, pos := _, after := _, guard := none }) (v := .int .i64 0) rfl (by kernel_rfl) (by kernel_rfl) (by kernel_rfl) (by kernel_rfl) (fun _ _ _ h => h) (yields_take rfl (fun w' hw => by obtain ⟨h1, h2⟩ := hw.const; go_simp)) hS6.out ?_
              simp only [Act.put, List.setIfInBounds_toArray, List.set_cons_zero, List.set_cons_succ]
              refine wpAnyU_done (by kernel_rfl) ?_ _
              clear hS6
              have HEND : Hid (TenAt ((U21.setCell ⟨U17.heap.size, 0, none⟩ (.slice (some ⟨g1, 0, none⟩) 3 c1)).setCell ⟨U17.heap.size, 1, none⟩ (.slice (some ⟨g2, 0, none⟩) 9 9)) U17.heap.size (some ⟨g1, 0, none⟩) (some ⟨g2, 0, none⟩) 3 c1 9 9 [1, 3, 3] [0, 0, 0, 0, 5, 0, 0, 0, 0]) := hide ⟨FAL.set2 _ _, lies_of_own (own_setCell' (own_setCell' FP (by dsimp only; omega) _) (by dsimp only; omega) _), lies_of_own (own_setCell' (own_setCell' FQ (by dsimp only; omega) _) (by dsimp only; omega) _)⟩
              have HE2 := hide he2
              clear FP FQ FAL he he2 r0 r1 rf0 rf1
              go_wp2
              go_meet
              exact ⟨_, _, _, _, rfl, rfl, HEND, HE2⟩
          · intro K hK
            go_simp
            obtain ⟨U22, hU⟩ : ∃ U, U = U16.alloc (.cells #[.slice none 0 0, .slice none 0 0] 25) := ⟨_, rfl⟩
            rw [← hU]
            have hb : Below U16.heap.size U16 U22 := by rw [hU]; exact below_al6 (Below.refl _ _)
            have FAL : BoxT U22 U16.heap.size (.slice none 0 0) (.slice none 0 0) := by rw [hU]; exact BoxT.new U16 _ _
            have hpx : Va.heap.size ≤ U16.heap.size := he.size
            clear hU
            replace FL2 := FL2.below hb
            replace FL1 := FL1.below hb
            replace he : Below Va.heap.size Va U22 := below_nx6 he hb
            clear hb
            have hS3 : Hid (U22.cell? ⟨u0.heap.size, 0, none⟩ = some (.slice (some ⟨w.heap.size, 0, none⟩) 3 3) ∧ U22.cell? ⟨u0.heap.size, 1, none⟩ = some (.slice (some ⟨w.heap.size + 1, 0, none⟩) 9 9)) := hide (⟨(HT_t.out.kept he).c0, (HT_t.out.kept he).c1⟩)
            refine hK _ _ hS3.out (fun _ => ?_)
            clear hK K hS2
            refine wpAnyU_one (i := 3) (by kernel_rfl) rfl ?_
            intro K hK
            go_simp
            refine Calls.mono (of8_any (some ⟨U15.heap.size, 0, none⟩) (some ⟨U0.heap.size, 0, none⟩) 4 4 1 1 _) ?_
            rintro e U23 ⟨rfl, hb⟩
            dsimp only
            have hltAL := FAL.lt
            replace FL2 := FL2.below hb
            replace FL1 := FL1.below hb
            replace FAL := FAL.kept hb
            replace he : Below Va.heap.size Va U23 := below_nx6 he hb
            clear hb
            have hS4 : Hid (U23.cell? ⟨u0.heap.size, 0, none⟩ = some (.slice (some ⟨w.heap.size, 0, none⟩) 3 3) ∧ U23.cell? ⟨u0.heap.size, 1, none⟩ = some (.slice (some ⟨w.heap.size + 1, 0, none⟩) 9 9)) := hide (⟨(HT_t.out.kept he).c0, (HT_t.out.kept he).c1⟩)
            refine hK _ _ hS4.out (fun _ => ?_)
            clear hK K hS3
            refine wpAnyU_one (i := 4) (by kernel_rfl) rfl ?_
            intro K hK
            go_simp
            refine Calls.mono (wof_ok (some ⟨w.heap.size, 0, none⟩) (some ⟨w.heap.size + 1, 0, none⟩) (some ⟨U15.heap.size, 0, none⟩) (some ⟨U0.heap.size, 0, none⟩) 3 9 9 4 1 1 1 3 3 1 1 1 3 3 2 1 [1, 2, 3, 4, 5, 6, 7, 8, 9] [1] _ (HT_t.out.S.below he) (HT_t.out.L.below he) FL1 FL2 (by decide +kernel) (by decide +kernel) (by omega) (by decide +kernel) (by decide +kernel)) ?_
            rintro e U24 ⟨g1, c1, g2, rfl, FP, FQ, hne, hb⟩
            dsimp only
            rw [show winL [1, 2, 3, 4, 5, 6, 7, 8, 9] [1] 1 3 3 1 1 1 2 1 3 3 = [0, 0, 0, 0, 5, 0, 0, 0, 0] by decide +kernel] at FQ
            have lt1 := FP.lt g1 rfl
            have lt2 := FQ.lt g2 rfl
            have hzc := he.size
            have hzd := hb.size
            have hltAL := FAL.lt
            clear FL2
            clear FL1
            replace FAL := FAL.kept hb
            replace he : Below Va.heap.size Va U24 := below_nx6 he hb
            clear hb
            have hS5 : Hid (U24.cell? ⟨u0.heap.size, 0, none⟩ = some (.slice (some ⟨w.heap.size, 0, none⟩) 3 3) ∧ U24.cell? ⟨u0.heap.size, 1, none⟩ = some (.slice (some ⟨w.heap.size + 1, 0, none⟩) 9 9)) := hide (⟨(HT_t.out.kept he).c0, (HT_t.out.kept he).c1⟩)
            refine hK _ _ hS5.out (fun _ => ?_)
            clear hK K hS4
            refine wpAnyU_take (i := 5) (oi := { dst := some 25, op := _, type := _, pos := _, after := _, guard := none }) (v := .tuple #[(tenV (some ⟨g1, 0, none⟩) 3 c1 (some ⟨g2, 0, none⟩) 9 9), .int .i64 0]) rfl (by kernel_rfl) (by kernel_rfl) (by kernel_rfl) (by kernel_rfl) (fun _ _ _ h => h) (yields_take rfl (fun w' hw => by obtain ⟨h1, h2⟩ := hw.const; go_simp)) hS5.out ?_
            simp only [Act.put, List.setIfInBounds_toArray, List.set_cons_zero, List.set_cons_succ]
            refine wpAnyU_take (i := 6) (oi := { dst := some 31, op := _, type := _, pos := _, after := _, guard := none }) (v := (tenV (some ⟨g1, 0, none⟩) 3 c1 (some ⟨g2, 0, none⟩) 9 9)) rfl (by kernel_rfl) (by kernel_rfl) (by kernel_rfl) (by kernel_rfl) (fun _ _ _ h => h) (yields_take rfl (fun w' hw => by obtain ⟨h1, h2⟩ := hw.const; go_simp)) hS5.out ?_
            simp only [Act.put, List.setIfInBounds_toArray, List.set_cons_zero, List.set_cons_succ]
            refine wpAnyU_take (i := 7) (oi := { dst := some 32, op := _, type := _, pos := _, after := _, guard := none }) (v := .int .i64 0) rfl (by kernel_rfl) (by kernel_rfl) (by kernel_rfl) (by kernel_rfl) (fun _ _ _ h => h) (yields_take rfl (fun w' hw => by obtain ⟨h1, h2⟩ := hw.const; go_simp)) hS5.out ?_
            simp only [Act.put, List.setIfInBounds_toArray, List.set_cons_zero, List.set_cons_succ]
            have r0 := FAL.c0
            have r1 := FAL.c1
            have rf0 := FAL.f0 0
            have rf1 := FAL.f0 1
            have hlx := FAL.lt
            refine wpAnyU_one (i := 9) (by kernel_rfl) rfl ?_
            intro K hK
            go_simp
            have he2 : Below Va.heap.size Va ((U24.setCell ⟨U16.heap.size, 0, none⟩ (.slice (some ⟨g1, 0, none⟩) 3 c1)).setCell ⟨U16.heap.size, 1, none⟩ (.slice (some ⟨g2, 0, none⟩) 9 9)) := (he.setCell (by dsimp only; omega) _).setCell (by dsimp only; omega) _
            have hS6 : Hid (((U24.setCell ⟨U16.heap.size, 0, none⟩ (.slice (some ⟨g1, 0, none⟩) 3 c1)).setCell ⟨U16.heap.size, 1, none⟩ (.slice (some ⟨g2, 0, none⟩) 9 9)).cell? ⟨u0.heap.size, 0, none⟩ = some (.slice (some ⟨w.heap.size, 0, none⟩) 3 3) ∧ ((U24.setCell ⟨U16.heap.size, 0, none⟩ (.slice (some ⟨g1, 0, none⟩) 3 c1)).setCell ⟨U16.heap.size, 1, none⟩ (.slice (some ⟨g2, 0, none⟩) 9 9)).cell? ⟨u0.heap.size, 1, none⟩ = some (.slice (some ⟨w.heap.size + 1, 0, none⟩) 9 9)) := hide (⟨(HT_t.out.kept he2).c0, (HT_t.out.kept he2).c1⟩)
            refine hK.out _ _ hS6.out (fun _ => ?_)
            clear hK K hS5
            refine wpAnyU_take (i := 10) (oi := { dst := some 5, op := _, type := _, pos := _, after := _, guard := none }) (v := .int .i64 0) rfl (by kernel_rfl) (by kernel_rfl) (by kernel_rfl) (by kernel_rfl) (fun _ _ _ h => h) (yields_take rfl (fun w' hw => by obtain ⟨h1, h2⟩ := hw.const; go_simp)) hS6.out ?_
            simp only [Act.put, List.setIfInBounds_toArray, List.set_cons_zero, List.set_cons_succ]
            refine wpAnyU_done (by kernel_rfl) ?_ _
            clear hS6
            have HEND : Hid (TenAt ((U24.setCell ⟨U16.heap.size, 0, none⟩ (.slice (some ⟨g1, 0, none⟩) 3 c1)).setCell ⟨U16.heap.size, 1, none⟩ (.slice (some ⟨g2, 0, none⟩) 9 9)) U16.heap.size (some ⟨g1, 0, none⟩) (some ⟨g2, 0, none⟩) 3 c1 9 9 [1, 3, 3] [0, 0, 0, 0, 5, 0, 0, 0, 0]) := hide ⟨FAL.set2 _ _, lies_of_own (own_setCell' (own_setCell' FP (by dsimp only; omega) _) (by dsimp only; omega) _), lies_of_own (own_setCell' (own_setCell' FQ (by dsimp only; omega) _) (by dsimp only; omega) _)⟩
            have HE2 := hide he2
            clear FP FQ FAL he he2 r0 r1 rf0 rf1
            go_wp2
            go_meet
            exact ⟨_, _, _, _, rfl, rfl, HEND, HE2⟩
        · intro K hK
          go_simp
          obtain ⟨U25, hU⟩ : ∃ U, U = U15.alloc (.cells #[.slice none 0 0, .slice none 0 0] 25) := ⟨_, rfl⟩
          rw [← hU]
          have hb : Below U15.heap.size U15 U25 := by rw [hU]; exact below_al6 (Below.refl _ _)
          have FAL : BoxT U25 U15.heap.size (.slice none 0 0) (.slice none 0 0) := by rw [hU]; exact BoxT.new U15 _ _
          have hpx : Va.heap.size ≤ U15.heap.size := he.size
          clear hU
          replace FL2 := FL2.below hb
          replace he : Below Va.heap.size Va U25 := below_nx6 he hb
          clear hb
          have hS2 : Hid (U25.cell? ⟨u0.heap.size, 0, none⟩ = some (.slice (some ⟨w.heap.size, 0, none⟩) 3 3) ∧ U25.cell? ⟨u0.heap.size, 1, none⟩ = some (.slice (some ⟨w.heap.size + 1, 0, none⟩) 9 9)) := hide (⟨(HT_t.out.kept he).c0, (HT_t.out.kept he).c1⟩)
          refine hK _ _ hS2.out (fun _ => ?_)
          clear hK K hS1
          refine wpAnyU_one (i := 1) (by kernel_rfl) rfl ?_
          intro K hK
          go_simp
          obtain ⟨U26, hU⟩ : ∃ U, U = U25.alloc (.cells #[.int .i64 1, .int .i64 1, .int .i64 1, .int .i64 1] 3) := ⟨_, rfl⟩
          rw [← hU]
          have hb : Below U25.heap.size U25 U26 := by rw [hU]; exact below_al6 (Below.refl _ _)
          have FL1 : Lies U26 (some ⟨U25.heap.size, 0, none⟩) 4 (([1, 1, 1, 1] : List Int).map (Value.int .i64)) := by rw [hU]; exact lit_lies U25 .i64 ([1, 1, 1, 1] : List Int) 3
          clear hU
          replace FL2 := FL2.below hb
          replace FAL := FAL.kept hb
          replace he : Below Va.heap.size Va U26 := below_nx6 he hb
          clear hb
          have hS3 : Hid (U26.cell? ⟨u0.heap.size, 0, none⟩ = some (.slice (some ⟨w.heap.size, 0, none⟩) 3 3) ∧ U26.cell? ⟨u0.heap.size, 1, none⟩ = some (.slice (some ⟨w.heap.size + 1, 0, none⟩) 9 9)) := hide (⟨(HT_t.out.kept he).c0, (HT_t.out.kept he).c1⟩)
          refine hK _ _ hS3.out (fun _ => ?_)
          clear hK K hS2
          refine wpAnyU_one (i := 3) (by kernel_rfl) rfl ?_
          intro K hK
          go_simp
          refine Calls.mono (of8_any (some ⟨U25.heap.size, 0, none⟩) (some ⟨U0.heap.size, 0, none⟩) 4 4 1 1 _) ?_
          rintro e U27 ⟨rfl, hb⟩
          dsimp only
          have hltAL := FAL.lt
          replace FL2 := FL2.below hb
          replace FAL := FAL.kept hb
          replace FL1 := FL1.below hb
          replace he : Below Va.heap.size Va U27 := below_nx6 he hb
          clear hb
          have hS4 : Hid (U27.cell? ⟨u0.heap.size, 0, none⟩ = some (.slice (some ⟨w.heap.size, 0, none⟩) 3 3) ∧ U27.cell? ⟨u0.heap.size, 1, none⟩ = some (.slice (some ⟨w.heap.size + 1, 0, none⟩) 9 9)) := hide (⟨(HT_t.out.kept he).c0, (HT_t.out.kept he).c1⟩)
          refine hK _ _ hS4.out (fun _ => ?_)
          clear hK K hS3
          refine wpAnyU_one (i := 4) (by kernel_rfl) rfl ?_
          intro K hK
          go_simp
          refine Calls.mono (wof_ok (some ⟨w.heap.size, 0, none⟩) (some ⟨w.heap.size + 1, 0, none⟩) (some ⟨U25.heap.size, 0, none⟩) (some ⟨U0.heap.size, 0, none⟩) 3 9 9 4 1 1 1 3 3 1 1 1 3 3 2 1 [1, 2, 3, 4, 5, 6, 7, 8, 9] [1] _ (HT_t.out.S.below he) (HT_t.out.L.below he) FL1 FL2 (by decide +kernel) (by decide +kernel) (by omega) (by decide +kernel) (by decide +kernel)) ?_
          rintro e U28 ⟨g1, c1, g2, rfl, FP, FQ, hne, hb⟩
          dsimp only
          rw [show winL [1, 2, 3, 4, 5, 6, 7, 8, 9] [1] 1 3 3 1 1 1 2 1 3 3 = [0, 0, 0, 0, 5, 0, 0, 0, 0] by decide +kernel] at FQ
          have lt1 := FP.lt g1 rfl
          have lt2 := FQ.lt g2 rfl
          have hzc := he.size
          have hzd := hb.size
          have hltAL := FAL.lt
          clear FL2
          replace FAL := FAL.kept hb
          clear FL1
          replace he : Below Va.heap.size Va U28 := below_nx6 he hb
          clear hb
          have hS5 : Hid (U28.cell? ⟨u0.heap.size, 0, none⟩ = some (.slice (some ⟨w.heap.size, 0, none⟩) 3 3) ∧ U28.cell? ⟨u0.heap.size, 1, none⟩ = some (.slice (some ⟨w.heap.size + 1, 0, none⟩) 9 9)) := hide (⟨(HT_t.out.kept he).c0, (HT_t.out.kept he).c1⟩)
          refine hK _ _ hS5.out (fun _ => ?_)
          clear hK K hS4
          refine wpAnyU_take (i := 5) (oi := { dst := some 25, op := _, type := _, pos := _, after := _, guard := none }) (v := .tuple #[(tenV (some ⟨g1, 0, none⟩) 3 c1 (some ⟨g2, 0, none⟩) 9 9), .int .i64 0]) rfl (by kernel_rfl) (by kernel_rfl) (by kernel_rfl) (by kernel_rfl) (fun _ _ _ h => h) (yields_take rfl (fun w' hw => by obtain ⟨h1, h2⟩ := hw.const; go_simp)) hS5.out ?_
          simp only [Act.put, List.setIfInBounds_toArray, List.set_cons_zero, List.set_cons_succ]
          refine wpAnyU_take (i := 6) (oi := { dst := some 31, op := _, type := _, pos := _, after := _, guard := none }) (v := (tenV (some ⟨g1, 0, none⟩) 3 c1 (some ⟨g2, 0, none⟩) 9 9)) rfl (by kernel_rfl) (by kernel_rfl) (by kernel_rfl) (by kernel_rfl) (fun _ _ _ h => h) (yields_take rfl (fun w' hw => by obtain ⟨h1, h2⟩ := hw.const; go_simp)) hS5.out ?_
          simp only [Act.put, List.setIfInBounds_toArray, List.set_cons_zero, List.set_cons_succ]
          refine wpAnyU_take (i := 7) (oi := { dst := some 32, op := _, type := _, pos := _, after := _, guard := none }) (v := .int .i64 0) rfl (by kernel_rfl) (by kernel_rfl) (by kernel_rfl) (by kernel_rfl) (fun _ _ _ h => h) (yields_take rfl (fun w' hw => by obtain ⟨h1, h2⟩ := hw.const; go_simp)) hS5.out ?_
          simp only [Act.put, List.setIfInBounds_toArray, List.set_cons_zero, List.set_cons_succ]
          have r0 := FAL.c0
          have r1 := FAL.c1
          have rf0 := FAL.f0 0
          have rf1 := FAL.f0 1
          have hlx := FAL.lt
          refine wpAnyU_one (i := 9) (by kernel_rfl) rfl ?_
          intro K hK
          go_simp
          have he2 : Below Va.heap.size Va ((U28.setCell ⟨U15.heap.size, 0, none⟩ (.slice (some ⟨g1, 0, none⟩) 3 c1)).setCell ⟨U15.heap.size, 1, none⟩ (.slice (some ⟨g2, 0, none⟩) 9 9)) := (he.setCell (by dsimp only; omega) _).setCell (by dsimp only; omega) _
          have hS6 : Hid (((U28.setCell ⟨U15.heap.size, 0, none⟩ (.slice (some ⟨g1, 0, none⟩) 3 c1)).setCell ⟨U15.heap.size, 1, none⟩ (.slice (some ⟨g2, 0, none⟩) 9 9)).cell? ⟨u0.heap.size, 0, none⟩ = some (.slice (some ⟨w.heap.size, 0, none⟩) 3 3) ∧ ((U28.setCell ⟨U15.heap.size, 0, none⟩ (.slice (some ⟨g1, 0, none⟩) 3 c1)).setCell ⟨U15.heap.size, 1, none⟩ (.slice (some ⟨g2, 0, none⟩) 9 9)).cell? ⟨u0.heap.size, 1, none⟩ = some (.slice (some ⟨w.heap.size + 1, 0, none⟩) 9 9)) := hide (⟨(HT_t.out.kept he2).c0, (HT_t.out.kept he2).c1⟩)
          refine hK.out _ _ hS6.out (fun _ => ?_)
          clear hK K hS5
          refine wpAnyU_take (i := 10) (oi := { dst := some 5, op := _, type := _, pos := _, after := _, guard := none }) (v := .int .i64 0) rfl (by kernel_rfl) (by kernel_rfl) (by kernel_rfl) (by kernel_rfl) (fun _ _ _ h => h) (yields_take rfl (fun w' hw => by obtain ⟨h1, h2⟩ := hw.const; go_simp)) hS6.out ?_
          simp only [Act.put, List.setIfInBounds_toArray, List.set_cons_zero, List.set_cons_succ]
          refine wpAnyU_done (by kernel_rfl) ?_ _
          clear hS6
          have HEND : Hid (TenAt ((U28.setCell ⟨U15.heap.size, 0, none⟩ (.slice (some ⟨g1, 0, none⟩) 3 c1)).setCell ⟨U15.heap.size, 1, none⟩ (.slice (some ⟨g2, 0, none⟩) 9 9)) U15.heap.size (some ⟨g1, 0, none⟩) (some ⟨g2, 0, none⟩) 3 c1 9 9 [1, 3, 3] [0, 0, 0, 0, 5, 0, 0, 0, 0]) := hide ⟨FAL.set2 _ _, lies_of_own (own_setCell' (own_setCell' FP (by dsimp only; omega) _) (by dsimp only; omega) _), lies_of_own (own_setCell' (own_setCell' FQ (by dsimp only; omega) _) (by dsimp only; omega) _)⟩
          have HE2 := hide he2
          clear FP FQ FAL he he2 r0 r1 rf0 rf1
          go_wp2
          go_meet
          exact ⟨_, _, _, _, rfl, rfl, HEND, HE2⟩
      · intro K hK
        go_simp
        obtain ⟨U29, hU⟩ : ∃ U, U = U0.alloc (.cells #[.slice none 0 0, .slice none 0 0] 25) := ⟨_, rfl⟩
        rw [← hU]
        have hb : Below U0.heap.size U0 U29 := by rw [hU]; exact below_al6 (Below.refl _ _)
        have FAL : BoxT U29 U0.heap.size (.slice none 0 0) (.slice none 0 0) := by rw [hU]; exact BoxT.new U0 _ _
        have hpx : Va.heap.size ≤ U0.heap.size := he.size
        clear hU
        replace he : Below Va.heap.size Va U29 := below_nx6 he hb
        clear hb
        have hS1 : Hid (U29.cell? ⟨u0.heap.size, 0, none⟩ = some (.slice (some ⟨w.heap.size, 0, none⟩) 3 3) ∧ U29.cell? ⟨u0.heap.size, 1, none⟩ = some (.slice (some ⟨w.heap.size + 1, 0, none⟩) 9 9)) := hide (⟨(HT_t.out.kept he).c0, (HT_t.out.kept he).c1⟩)
        refine hK _ _ hS1.out (fun _ => ?_)
        clear hK K hS0
        refine wpAnyU_or (i := 1) (j := 2) (by kernel_rfl) rfl rfl ?_ ?_
        · intro K hK
          go_simp
          obtain ⟨U30, hU⟩ : ∃ U, U = U29.alloc (.cells #[.int .i64 1, .int .i64 1, .int .i64 1, .int .i64 1] 3) := ⟨_, rfl⟩
          rw [← hU]
          have hb : Below U29.heap.size U29 U30 := by rw [hU]; exact below_al6 (Below.refl _ _)
          have FL1 : Lies U30 (some ⟨U29.heap.size, 0, none⟩) 4 (([1, 1, 1, 1] : List Int).map (Value.int .i64)) := by rw [hU]; exact lit_lies U29 .i64 ([1, 1, 1, 1] : List Int) 3
          clear hU
          replace FAL := FAL.kept hb
          replace he : Below Va.heap.size Va U30 := below_nx6 he hb
          clear hb
          have hS2 : Hid (U30.cell? ⟨u0.heap.size, 0, none⟩ = some (.slice (some ⟨w.heap.size, 0, none⟩) 3 3) ∧ U30.cell? ⟨u0.heap.size, 1, none⟩ = some (.slice (some ⟨w.heap.size + 1, 0, none⟩) 9 9)) := hide (⟨(HT_t.out.kept he).c0, (HT_t.out.kept he).c1⟩)
          refine hK _ _ hS2.out (fun _ => ?_)
          clear hK K hS1
          refine wpAnyU_one (i := 2) (by kernel_rfl) rfl ?_
          intro K hK
          go_simp
          obtain ⟨U31, hU⟩ : ∃ U, U = U30.alloc (.cells #[.int .i32 1] 21) := ⟨_, rfl⟩
          rw [← hU]
          have hb : Below U30.heap.size U30 U31 := by rw [hU]; exact below_al6 (Below.refl _ _)
          have FL2 : Lies U31 (some ⟨U30.heap.size, 0, none⟩) 1 (([1] : List Int).map (Value.int .i32)) := by rw [hU]; exact lit_lies U30 .i32 ([1] : List Int) 21
          clear hU
          replace FAL := FAL.kept hb
          replace FL1 := FL1.below hb
          replace he : Below Va.heap.size Va U31 := below_nx6 he hb
          clear hb
          have hS3 : Hid (U31.cell? ⟨u0.heap.size, 0, none⟩ = some (.slice (some ⟨w.heap.size, 0, none⟩) 3 3) ∧ U31.cell? ⟨u0.heap.size, 1, none⟩ = some (.slice (some ⟨w.heap.size + 1, 0, none⟩) 9 9)) := hide (⟨(HT_t.out.kept he).c0, (HT_t.out.kept he).c1⟩)
          refine hK _ _ hS3.out (fun _ => ?_)
          clear hK K hS2
          refine wpAnyU_one (i := 3) (by kernel_rfl) rfl ?_
          intro K hK
          go_simp
          refine Calls.mono (of8_any (some ⟨U29.heap.size, 0, none⟩) (some ⟨U30.heap.size, 0, none⟩) 4 4 1 1 _) ?_
          rintro e U32 ⟨rfl, hb⟩
          dsimp only
          have hltAL := FAL.lt
          replace FAL := FAL.kept hb
          replace FL1 := FL1.below hb
          replace FL2 := FL2.below hb
          replace he : Below Va.heap.size Va U32 := below_nx6 he hb
          clear hb
          have hS4 : Hid (U32.cell? ⟨u0.heap.size, 0, none⟩ = some (.slice (some ⟨w.heap.size, 0, none⟩) 3 3) ∧ U32.cell? ⟨u0.heap.size, 1, none⟩ = some (.slice (some ⟨w.heap.size + 1, 0, none⟩) 9 9)) := hide (⟨(HT_t.out.kept he).c0, (HT_t.out.kept he).c1⟩)
          refine hK _ _ hS4.out (fun _ => ?_)
          clear hK K hS3
          refine wpAnyU_one (i := 4) (by kernel_rfl) rfl ?_
          intro K hK
          go_simp
          refine Calls.mono (wof_ok (some ⟨w.heap.size, 0, none⟩) (some ⟨w.heap.size + 1, 0, none⟩) (some ⟨U29.heap.size, 0, none⟩) (some ⟨U30.heap.size, 0, none⟩) 3 9 9 4 1 1 1 3 3 1 1 1 3 3 2 1 [1, 2, 3, 4, 5, 6, 7, 8, 9] [1] _ (HT_t.out.S.below he) (HT_t.out.L.below he) FL1 FL2 (by decide +kernel) (by decide +kernel) (by omega) (by decide +kernel) (by decide +kernel)) ?_
          rintro e U33 ⟨g1, c1, g2, rfl, FP, FQ, hne, hb⟩
          dsimp only
          rw [show winL [1, 2, 3, 4, 5, 6, 7, 8, 9] [1] 1 3 3 1 1 1 2 1 3 3 = [0, 0, 0, 0, 5, 0, 0, 0, 0] by decide +kernel] at FQ
          have lt1 := FP.lt g1 rfl
          have lt2 := FQ.lt g2 rfl
          have hzc := he.size
          have hzd := hb.size
          have hltAL := FAL.lt
          replace FAL := FAL.kept hb
          clear FL1
          clear FL2
          replace he : Below Va.heap.size Va U33 := below_nx6 he hb
          clear hb
          have hS5 : Hid (U33.cell? ⟨u0.heap.size, 0, none⟩ = some (.slice (some ⟨w.heap.size, 0, none⟩) 3 3) ∧ U33.cell? ⟨u0.heap.size, 1, none⟩ = some (.slice (some ⟨w.heap.size + 1, 0, none⟩) 9 9)) := hide (⟨(HT_t.out.kept he).c0, (HT_t.out.kept he).c1⟩)
          refine hK _ _ hS5.out (fun _ => ?_)
          clear hK K hS4
          refine wpAnyU_take (i := 5) (oi := { dst := some 25, op := _, type := _, pos := _, after := _, guard := none }) (v := .tuple #[(tenV (some ⟨g1, 0, none⟩) 3 c1 (some ⟨g2, 0, none⟩) 9 9), .int .i64 0]) rfl (by kernel_rfl) (by kernel_rfl) (by kernel_rfl) (by kernel_rfl) (fun _ _ _ h => h) (yields_take rfl (fun w' hw => by obtain ⟨h1, h2⟩ := hw.const; go_simp)) hS5.out ?_
          simp only [Act.put, List.setIfInBounds_toArray, List.set_cons_zero, List.set_cons_succ]
          refine wpAnyU_take (i := 6) (oi := { dst := some 31, op := _, type := _, pos := _, after := _, guard := none }) (v := (tenV (some ⟨g1, 0, none⟩) 3 c1 (some ⟨g2, 0, none⟩) 9 9)) rfl (by kernel_rfl) (by kernel_rfl) (by kernel_rfl) (by kernel_rfl) (fun _ _ _ h => h) (yields_take rfl (fun w' hw => by obtain ⟨h1, h2⟩ := hw.const; go_simp)) hS5.out ?_
          simp only [Act.put, List.setIfInBounds_toArray, List.set_cons_zero, List.set_cons_succ]
          refine wpAnyU_take (i := 7) (oi := { dst := some 32, op := _, type := _, pos := _, after := _, guard := none }) (v := .int .i64 0) rfl (by kernel_rfl) (by kernel_rfl) (by kernel_rfl) (by kernel_rfl) (fun _ _ _ h => h) (yields_take rfl (fun w' hw => by obtain ⟨h1, h2⟩ := hw.const; go_simp)) hS5.out ?_
          simp only [Act.put, List.setIfInBounds_toArray, List.set_cons_zero, List.set_cons_succ]
          have r0 := FAL.c0
          have r1 := FAL.c1
          have rf0 := FAL.f0 0
          have rf1 := FAL.f0 1
          have hlx := FAL.lt
          refine wpAnyU_one (i := 9) (by kernel_rfl) rfl ?_
          intro K hK
          go_simp
          have he2 : Below Va.heap.size Va ((U33.setCell ⟨U0.heap.size, 0, none⟩ (.slice (some ⟨g1, 0, none⟩) 3 c1)).setCell ⟨U0.heap.size, 1, none⟩ (.slice (some ⟨g2, 0, none⟩) 9 9)) := (he.setCell (by dsimp only; omega) _).setCell (by dsimp only; omega) _
          have hS6 : Hid (((U33.setCell ⟨U0.heap.size, 0, none⟩ (.slice (some ⟨g1, 0, none⟩) 3 c1)).setCell ⟨U0.heap.size, 1, none⟩ (.slice (some ⟨g2, 0, none⟩) 9 9)).cell? ⟨u0.heap.size, 0, none⟩ = some (.slice (some ⟨w.heap.size, 0, none⟩) 3 3) ∧ ((U33.setCell ⟨U0.heap.size, 0, none⟩ (.slice (some ⟨g1, 0, none⟩) 3 c1)).setCell ⟨U0.heap.size, 1, none⟩ (.slice (some ⟨g2, 0, none⟩) 9 9)).cell? ⟨u0.heap.size, 1, none⟩ = some (.slice (some ⟨w.heap.size + 1, 0, none⟩) 9 9)) := hide (⟨(HT_t.out.kept he2).c0, (HT_t.out.kept he2).c1⟩)
          refine hK.out _ _ hS6.out (fun _ => ?_)
          clear hK K hS5
          refine wpAnyU_take (i := 10) (oi := { dst := some 5, op := _, type := _, pos := _, after := _, guard := none }) (v := .int .i64 0) rfl (by kernel_rfl) (by kernel_rfl) (by kernel_rfl) (by kernel_rfl) (fun _ _ _ h => h) (yields_take rfl (fun w' hw => by obtain ⟨h1, h2⟩ := hw.const; go_simp)) hS6.out ?_
          simp only [Act.put, List.setIfInBounds_toArray, List.set_cons_zero, List.set_cons_succ]
          refine wpAnyU_done (by kernel_rfl) ?_ _
          clear hS6
          have HEND : Hid (TenAt ((U33.setCell ⟨U0.heap.size, 0, none⟩ (.slice (some ⟨g1, 0, none⟩) 3 c1)).setCell ⟨U0.heap.size, 1, none⟩ (.slice (some ⟨g2, 0, none⟩) 9 9)) U0.heap.size (some ⟨g1, 0, none⟩) (some ⟨g2, 0, none⟩) 3 c1 9 9 [1, 3, 3] [0, 0, 0, 0, 5, 0, 0, 0, 0]) := hide ⟨FAL.set2 _ _, lies_of_own (own_setCell' (own_setCell' FP (by dsimp only; omega) _) (by dsimp only; omega) _), lies_of_own (own_setCell' (own_setCell' FQ (by dsimp only; omega) _) (by dsimp only; omega) _)⟩
          have HE2 := hide he2
          clear FP FQ FAL he he2 r0 r1 rf0 rf1
          go_wp2
          go_meet
          exact ⟨_, _, _, _, rfl, rfl, HEND, HE2⟩
        · intro K hK
          go_simp
          obtain ⟨U34, hU⟩ : ∃ U, U = U29.alloc (.cells #[.int .i32 1] 21) := ⟨_, rfl⟩
          rw [← hU]
          have hb : Below U29.heap.size U29 U34 := by rw [hU]; exact below_al6 (Below.refl _ _)
          have FL2 : Lies U34 (some ⟨U29.heap.size, 0, none⟩) 1 (([1] : List Int).map (Value.int .i32)) := by rw [hU]; exact lit_lies U29 .i32 ([1] : List Int) 21
          clear hU
          replace FAL := FAL.kept hb
          replace he : Below Va.heap.size Va U34 := below_nx6 he hb
          clear hb
          have hS2 : Hid (U34.cell? ⟨u0.heap.size, 0, none⟩ = some (.slice (some ⟨w.heap.size, 0, none⟩) 3 3) ∧ U34.cell? ⟨u0.heap.size, 1, none⟩ = some (.slice (some ⟨w.heap.size + 1, 0, none⟩) 9 9)) := hide (⟨(HT_t.out.kept he).c0, (HT_t.out.kept he).c1⟩)
          refine hK _ _ hS2.out (fun _ => ?_)
          clear hK K hS1
          refine wpAnyU_one (i := 1) (by kernel_rfl) rfl ?_
          intro K hK
          go_simp
          obtain ⟨U35, hU⟩ : ∃ U, U = U34.alloc (.cells #[.int .i64 1, .int .i64 1, .int .i64 1, .int .i64 1] 3) := ⟨_, rfl⟩
          rw [← hU]
          have hb : Below U34.heap.size U34 U35 := by rw [hU]; exact below_al6 (Below.refl _ _)
          have FL1 : Lies U35 (some ⟨U34.heap.size, 0, none⟩) 4 (([1, 1, 1, 1] : List Int).map (Value.int .i64)) := by rw [hU]; exact lit_lies U34 .i64 ([1, 1, 1, 1] : List Int) 3
          clear hU
          replace FAL := FAL.kept hb
          replace FL2 := FL2.below hb
          replace he : Below Va.heap.size Va U35 := below_nx6 he hb
          clear hb
          have hS3 : Hid (U35.cell? ⟨u0.heap.size, 0, none⟩ = some (.slice (some ⟨w.heap.size, 0, none⟩) 3 3) ∧ U35.cell? ⟨u0.heap.size, 1, none⟩ = some (.slice (some ⟨w.heap.size + 1, 0, none⟩) 9 9)) := hide (⟨(HT_t.out.kept he).c0, (HT_t.out.kept he).c1⟩)
          refine hK _ _ hS3.out (fun _ => ?_)
          clear hK K hS2
          refine wpAnyU_one (i := 3) (by kernel_rfl) rfl ?_
          intro K hK
          go_simp
          refine Calls.mono (of8_any (some ⟨U34.heap.size, 0, none⟩) (some ⟨U29.heap.size, 0, none⟩) 4 4 1 1 _) ?_
          rintro e U36 ⟨rfl, hb⟩
          dsimp only
          have hltAL := FAL.lt
          replace FAL := FAL.kept hb
          replace FL2 := FL2.below hb
          replace FL1 := FL1.below hb
          replace he : Below Va.heap.size Va U36 := below_nx6 he hb
          clear hb
          have hS4 : Hid (U36.cell? ⟨u0.heap.size, 0, none⟩ = some (.slice (some ⟨w.heap.size, 0, none⟩) 3 3) ∧ U36.cell? ⟨u0.heap.size, 1, none⟩ = some (.slice (some ⟨w.heap.size + 1, 0, none⟩) 9 9)) := hide (⟨(HT_t.out.kept he).c0, (HT_t.out.kept he).c1⟩)
          refine hK _ _ hS4.out (fun _ => ?_)
          clear hK K hS3
          refine wpAnyU_one (i := 4) (by kernel_rfl) rfl ?_
          intro K hK
          go_simp
          refine Calls.mono (wof_ok (some ⟨w.heap.size, 0, none⟩) (some ⟨w.heap.size + 1, 0, none⟩) (some ⟨U34.heap.size, 0, none⟩) (some ⟨U29.heap.size, 0, none⟩) 3 9 9 4 1 1 1 3 3 1 1 1 3 3 2 1 [1, 2, 3, 4, 5, 6, 7, 8, 9] [1] _ (HT_t.out.S.below he) (HT_t.out.L.below he) FL1 FL2 (by decide +kernel) (by decide +kernel) (by omega) (by decide +kernel) (by decide +kernel)) ?_
          rintro e U37 ⟨g1, c1, g2, rfl, FP, FQ, hne, hb⟩
          dsimp only
          rw [show winL [1, 2, 3, 4, 5, 6, 7, 8, 9] [1] 1 3 3 1 1 1 2 1 3 3 = [0, 0, 0, 0, 5, 0, 0, 0, 0] by decide +kernel] at FQ
          have lt1 := FP.lt g1 rfl
          have lt2 := FQ.lt g2 rfl
          have hzc := he.size
          have hzd := hb.size
          have hltAL := FAL.lt
          replace FAL := FAL.kept hb
          clear FL2
          clear FL1
          replace he : Below Va.heap.size Va U37 := below_nx6 he hb
          clear hb
          have hS5 : Hid (U37.cell? ⟨u0.heap.size, 0, none⟩ = some (.slice (some ⟨w.heap.size, 0, none⟩) 3 3) ∧ U37.cell? ⟨u0.heap.size, 1, none⟩ = some (.slice (some ⟨w.heap.size + 1, 0, none⟩) 9 9)) := hide (⟨(HT_t.out.kept he).c0, (HT_t.out.kept he).c1⟩)
          refine hK _ _ hS5.out (fun _ => ?_)
          clear hK K hS4
          refine wpAnyU_take (i := 5) (oi := { dst := some 25, op := _, type := _, pos := _, after := _, guard := none }) (v := .tuple #[(tenV (some ⟨g1, 0, none⟩) 3 c1 (some ⟨g2, 0, none⟩) 9 9), .int .i64 0]) rfl (by kernel_rfl) (by kernel_rfl) (by kernel_rfl) (by kernel_rfl) (fun _ _ _ h => h) (yields_take rfl (fun w' hw => by obtain ⟨h1, h2⟩ := hw.const; go_simp)) hS5.out ?_
          simp only [Act.put, List.setIfInBounds_toArray, List.set_cons_zero, List.set_cons_succ]
          refine wpAnyU_take (i := 6) (oi := { dst := some 31, op := _, type := _, pos := _, after := _, guard := none }) (v := (tenV (some ⟨g1, 0, none⟩) 3 c1 (some ⟨g2, 0, none⟩) 9 9)) rfl (by kernel_rfl) (by kernel_rfl) (by kernel_rfl) (by kernel_rfl) (fun _ _ _ h => h) (yields_take rfl (fun w' hw => by obtain ⟨h1, h2⟩ := hw.const; go_simp)) hS5.out ?_
          simp only [Act.put, List.setIfInBounds_toArray, List.set_cons_zero, List.set_cons_succ]
          refine wpAnyU_take (i := 7) (oi := { dst := some 32, op := _, type := _, pos := _, after := _, guard := none }) (v := .int .i64 0) rfl (by kernel_rfl) (by kernel_rfl) (by kernel_rfl) (by kernel_rfl) (fun _ _ _ h => h) (yields_take rfl (fun w' hw => by obtain ⟨h1, h2⟩ := hw.const; go_simp)) hS5.out ?_
          simp only [Act.put, List.setIfInBounds_toArray, List.set_cons_zero, List.set_cons_succ]
          have r0 := FAL.c0
          have r1 := FAL.c1
          have rf0 := FAL.f0 0
          have rf1 := FAL.f0 1
          have hlx := FAL.lt
          refine wpAnyU_one (i := 9) (by kernel_rfl) rfl ?_
          intro K hK
          go_simp
          have he2 : Below Va.heap.size Va ((U37.setCell ⟨U0.heap.size, 0, none⟩ (.slice (some ⟨g1, 0, none⟩) 3 c1)).setCell ⟨U0.heap.size, 1, none⟩ (.slice (some ⟨g2, 0, none⟩) 9 9)) := (he.setCell (by dsimp only; omega) _).setCell (by dsimp only; omega) _
          have hS6 : Hid (((U37.setCell ⟨U0.heap.size, 0, none⟩ (.slice (some ⟨g1, 0, none⟩) 3 c1)).setCell ⟨U0.heap.size, 1, none⟩ (.slice (some ⟨g2, 0, none⟩) 9 9)).cell? ⟨u0.heap.size, 0, none⟩ = some (.slice (some ⟨w.heap.size, 0, none⟩) 3 3) ∧ ((U37.setCell ⟨U0.heap.size, 0, none⟩ (.slice (some ⟨g1, 0, none⟩) 3 c1)).setCell ⟨U0.heap.size, 1, none⟩ (.slice (some ⟨g2, 0, none⟩) 9 9)).cell? ⟨u0.heap.size, 1, none⟩ = some (.slice (some ⟨w.heap.size + 1, 0, none⟩) 9 9)) := hide (⟨(HT_t.out.kept he2).c0, (HT_t.out.kept he2).c1⟩)
          refine hK.out _ _ hS6.out (fun _ => ?_)
          clear hK K hS5
          refine wpAnyU_take (i := 10) (oi := { dst := some 5, op := _, type := _, pos := _, after := _, guard := none }) (v := .int .i64 0) rfl (by kernel_rfl) (by kernel_rfl) (by kernel_rfl) (by kernel_rfl) (fun _ _ _ h => h) (yields_take rfl (fun w' hw => by obtain ⟨h1, h2⟩ := hw.const; go_simp)) hS6.out ?_
          simp only [Act.put, List.setIfInBounds_toArray, List.set_cons_zero, List.set_cons_succ]
          refine wpAnyU_done (by kernel_rfl) ?_ _
          clear hS6
          have HEND : Hid (TenAt ((U37.setCell ⟨U0.heap.size, 0, none⟩ (.slice (some ⟨g1, 0, none⟩) 3 c1)).setCell ⟨U0.heap.size, 1, none⟩ (.slice (some ⟨g2, 0, none⟩) 9 9)) U0.heap.size (some ⟨g1, 0, none⟩) (some ⟨g2, 0, none⟩) 3 c1 9 9 [1, 3, 3] [0, 0, 0, 0, 5, 0, 0, 0, 0]) := hide ⟨FAL.set2 _ _, lies_of_own (own_setCell' (own_setCell' FP (by dsimp only; omega) _) (by dsimp only; omega) _), lies_of_own (own_setCell' (own_setCell' FQ (by dsimp only; omega) _) (by dsimp only; omega) _)⟩
          have HE2 := hide he2
          clear FP FQ FAL he he2 r0 r1 rf0 rf1
          go_wp2
          go_meet
          exact ⟨_, _, _, _, rfl, rfl, HEND, HE2⟩
    case rest =>
      obtain ⟨pb, g1b, c1b, g2b, rfl, rfl, HT_b, hb0⟩ := hcut
      obtain ⟨Vb, hVb⟩ : ∃ W, W = wc := ⟨_, rfl⟩
      rw [← hVb] at HT_b hb0 ⊢
      have hb : Below Va.heap.size Va Vb := hb0.out
      clear hVb hb0
      replace HT_t := hide (HT_t.out.kept hb)
      replace HT_a := hide (HT_a.out.kept hb)
      replace HBW := hide (HBW.out.trans (hb.mono HBW.out.size))
      clear hb
      have hlt_b := HT_b.out.1.lt
      have cxt0 := HT_t.out.c0
      have cxt1 := HT_t.out.c1
      go_wp2_with fail
      refine Calls.mono (pool_ok (some ⟨w.heap.size, 0, none⟩) (some ⟨w.heap.size + 1, 0, none⟩) 3 9 9 1 3 3 1 1 2 [1, 2, 3, 4, 5, 6, 7, 8, 9] _ HT_t.out.S HT_t.out.L (by decide +kernel) (by decide +kernel) (by decide +kernel)) ?_
      rw [show poolL [1, 2, 3, 4, 5, 6, 7, 8, 9] 1 3 3 2 1 1 = [5] by decide +kernel]
      rintro e u1 ⟨g1c, c1c, g2c, rfl, ho1, ho2, _, hb0⟩
      obtain ⟨Vc, hVc⟩ : ∃ W, W = u1.alloc (.cells #[.slice (some ⟨g1c, 0, none⟩) 3 c1c, .slice (some ⟨g2c, 0, none⟩) 1 1] 25) := ⟨_, rfl⟩
      have HT_c : Hid (TenAt Vc u1.heap.size (some ⟨g1c, 0, none⟩) (some ⟨g2c, 0, none⟩) 3 c1c 1 1 [1, 1, 1] [5]) := hide (by rw [hVc]; exact TenAt.made ho1 ho2)
      have hb : Below Vb.heap.size Vb Vc := by rw [hVc]; exact below_al6 hb0
      replace HT_t := hide (HT_t.out.kept hb)
      replace HT_a := hide (HT_a.out.kept hb)
      replace HT_b := hide (HT_b.out.kept hb)
      replace HBW := hide (HBW.out.trans (hb.mono HBW.out.size))
      have hVc' := hVc.symm
      clear cxt0 cxt1 hVc hb hb0 ho1 ho2
      have hlt_c := HT_c.out.1.lt
      have cxt0 := HT_t.out.c0
      have cxt1 := HT_t.out.c1
      go_wp2_with fail
      refine Calls.mono (pool_bad (some ⟨w.heap.size, 0, none⟩) (some ⟨w.heap.size + 1, 0, none⟩) 3 3 9 9 [1, 3, 3] [1, 2, 3, 4, 5, 6, 7, 8, 9] 4 _ HT_t.out.S HT_t.out.L (by omega) (by decide +kernel)) ?_
      rw [show pl8E [1, 3, 3] 9 4 = 10 by decide +kernel]
      rintro e u2 ⟨rfl, hb0⟩
      have hb := hb0
      replace HT_t := hide (HT_t.out.kept hb)
      replace HT_a := hide (HT_a.out.kept hb)
      replace HT_b := hide (HT_b.out.kept hb)
      replace HT_c := hide (HT_c.out.kept hb)
      replace HBW := hide (HBW.out.trans (hb.mono HBW.out.size))
      clear cxt0 cxt1 hb hb0
      have hd : Below u2.heap.size u2 (((u2.alloc (.cells #[.slice none 0 0, .slice none 0 0] 25)).alloc (.cells #[.int .i64 1, .int .i64 3, .int .i64 3] 3)).alloc (.cells #[.int .i64 1, .int .i64 1, .int .i64 2, .int .i64 2] 3)) := below_al6 (below_al6 (below_al6 (Below.refl _ _)))
      have hA1 : Lies (((u2.alloc (.cells #[.slice none 0 0, .slice none 0 0] 25)).alloc (.cells #[.int .i64 1, .int .i64 3, .int .i64 3] 3)).alloc (.cells #[.int .i64 1, .int .i64 1, .int .i64 2, .int .i64 2] 3)) (some ⟨u2.heap.size + 1, 0, none⟩) 3 (([1, 3, 3] : List Int).map (Value.int .i64)) := by have h := lit_lies (u2.alloc (.cells #[.slice none 0 0, .slice none 0 0] 25)) .i64 [1, 3, 3] 3; (try rw [World.size_alloc] at h); exact h.alloc _
      have hA2 : Lies (((u2.alloc (.cells #[.slice none 0 0, .slice none 0 0] 25)).alloc (.cells #[.int .i64 1, .int .i64 3, .int .i64 3] 3)).alloc (.cells #[.int .i64 1, .int .i64 1, .int .i64 2, .int .i64 2] 3)) (some ⟨u2.heap.size + 2, 0, none⟩) 4 (([1, 1, 2, 2] : List Int).map (Value.int .i64)) := by have h := lit_lies ((u2.alloc (.cells #[.slice none 0 0, .slice none 0 0] 25)).alloc (.cells #[.int .i64 1, .int .i64 3, .int .i64 3] 3)) .i64 [1, 1, 2, 2] 3; simp only [World.size_alloc] at h; exact h
      go_wp2_with fail
      refine Calls.mono (wshape_any (some ⟨u2.heap.size + 1, 0, none⟩) (some ⟨u2.heap.size + 2, 0, none⟩) 3 3 4 4 [1, 3, 3] [1, 1, 2, 2] 9 0 _ hA1 hA2 (by omega) (by omega)) ?_
      rw [show shp8E [1, 3, 3] [1, 1, 2, 2] 9 0 = 1 by decide +kernel]
      rintro e u3 ⟨Ru2, ku2, kcu2, rfl, _, _, hb0⟩
      have hb : Below u2.heap.size u2 u3 := below_nx6 hd hb0
      replace HT_t := hide (HT_t.out.kept hb)
      replace HT_a := hide (HT_a.out.kept hb)
      replace HT_b := hide (HT_b.out.kept hb)
      replace HT_c := hide (HT_c.out.kept hb)
      replace HBW := hide (HBW.out.trans (hb.mono HBW.out.size))
      clear hb hb0 hd hA1 hA2
      have hd : Below u3.heap.size u3 ((u3.alloc (.cells #[.int .i64 1, .int .i64 3, .int .i64 3] 3)).alloc (.cells #[.int .i64 1, .int .i64 2, .int .i64 2, .int .i64 2] 3)) := below_al6 (below_al6 (Below.refl _ _))
      have hA1 : Lies ((u3.alloc (.cells #[.int .i64 1, .int .i64 3, .int .i64 3] 3)).alloc (.cells #[.int .i64 1, .int .i64 2, .int .i64 2, .int .i64 2] 3)) (some ⟨u3.heap.size, 0, none⟩) 3 (([1, 3, 3] : List Int).map (Value.int .i64)) := by have h := lit_lies u3 .i64 [1, 3, 3] 3; (try rw [World.size_alloc] at h); exact h.alloc _
      have hA2 : Lies ((u3.alloc (.cells #[.int .i64 1, .int .i64 3, .int .i64 3] 3)).alloc (.cells #[.int .i64 1, .int .i64 2, .int .i64 2, .int .i64 2] 3)) (some ⟨u3.heap.size + 1, 0, none⟩) 4 (([1, 2, 2, 2] : List Int).map (Value.int .i64)) := by have h := lit_lies (u3.alloc (.cells #[.int .i64 1, .int .i64 3, .int .i64 3] 3)) .i64 [1, 2, 2, 2] 3; simp only [World.size_alloc] at h; exact h
      go_wp2_with fail
      refine Calls.mono (wshape_any (some ⟨u3.heap.size, 0, none⟩) (some ⟨u3.heap.size + 1, 0, none⟩) 3 3 4 4 [1, 3, 3] [1, 2, 2, 2] 1 0 _ hA1 hA2 (by omega) (by omega)) ?_
      rw [show shp8E [1, 3, 3] [1, 2, 2, 2] 1 0 = 10 by decide +kernel]
      rintro e u4 ⟨Ru3, ku3, kcu3, rfl, _, _, hb0⟩
      have hb : Below u3.heap.size u3 u4 := below_nx6 hd hb0
      replace HT_t := hide (HT_t.out.kept hb)
      replace HT_a := hide (HT_a.out.kept hb)
      replace HT_b := hide (HT_b.out.kept hb)
      replace HT_c := hide (HT_c.out.kept hb)
      replace HBW := hide (HBW.out.trans (hb.mono HBW.out.size))
      clear hb hb0 hd hA1 hA2
      go_wp2
      have HC : Hid (∀ v, Below u4.heap.size u4 v → v.cell? ⟨pa, 0, none⟩ = some (.slice (some ⟨g1a, 0, none⟩) 3 c1a) ∧ v.cell? ⟨pa, 1, none⟩ = some (.slice (some ⟨g2a, 0, none⟩) 4 4) ∧ v.cell? ⟨pb, 0, none⟩ = some (.slice (some ⟨g1b, 0, none⟩) 3 c1b) ∧ v.cell? ⟨pb, 1, none⟩ = some (.slice (some ⟨g2b, 0, none⟩) 9 9) ∧ v.cell? ⟨u1.heap.size, 0, none⟩ = some (.slice (some ⟨g1c, 0, none⟩) 3 c1c) ∧ v.cell? ⟨u1.heap.size, 1, none⟩ = some (.slice (some ⟨g2c, 0, none⟩) 1 1)) := hide (fun v hv => ⟨(HT_a.out.kept hv).c0, (HT_a.out.kept hv).c1, (HT_b.out.kept hv).c0, (HT_b.out.kept hv).c1, (HT_c.out.kept hv).c0, (HT_c.out.kept hv).c1⟩)
      have hd0 : Below u4.heap.size u4 u4.drew := below_drewN (Below.refl _ _) 1
      have hS0 : Hid (u4.drew.cell? ⟨pa, 0, none⟩ = some (.slice (some ⟨g1a, 0, none⟩) 3 c1a) ∧ u4.drew.cell? ⟨pa, 1, none⟩ = some (.slice (some ⟨g2a, 0, none⟩) 4 4) ∧ u4.drew.cell? ⟨pb, 0, none⟩ = some (.slice (some ⟨g1b, 0, none⟩) 3 c1b) ∧ u4.drew.cell? ⟨pb, 1, none⟩ = some (.slice (some ⟨g2b, 0, none⟩) 9 9) ∧ u4.drew.cell? ⟨u1.heap.size, 0, none⟩ = some (.slice (some ⟨g1c, 0, none⟩) 3 c1c) ∧ u4.drew.cell? ⟨u1.heap.size, 1, none⟩ = some (.slice (some ⟨g2c, 0, none⟩) 1 1)) := hide (HC.out _ hd0)
      refine wp_region_U (fun _ v => v.cell? ⟨pa, 0, none⟩ = some (.slice (some ⟨g1a, 0, none⟩) 3 c1a) ∧ v.cell? ⟨pa, 1, none⟩ = some (.slice (some ⟨g2a, 0, none⟩) 4 4) ∧ v.cell? ⟨pb, 0, none⟩ = some (.slice (some ⟨g1b, 0, none⟩) 3 c1b) ∧ v.cell? ⟨pb, 1, none⟩ = some (.slice (some ⟨g2b, 0, none⟩) 9 9) ∧ v.cell? ⟨u1.heap.size, 0, none⟩ = some (.slice (some ⟨g1c, 0, none⟩) 3 c1c) ∧ v.cell? ⟨u1.heap.size, 1, none⟩ = some (.slice (some ⟨g2c, 0, none⟩) 1 1)) 99 (by kernel_rfl) ?_
      refine wpAnyU_take (i := 0) (oi := { dst := some 55, op := _, type := _, pos := _, after := _, guard := none }) (v := .int .i64 0) rfl (by kernel_rfl) (by kernel_rfl) (by kernel_rfl) (by kernel_rfl) (fun _ _ _ h => h) (yields_take rfl (fun w' hw => by obtain ⟨h1, h2, h3, h4, h5, h6⟩ := hw.const; go_simp)) hS0.out ?_
      simp only [Act.put, List.setIfInBounds_toArray, List.set_cons_zero, List.set_cons_succ]
      refine wpAnyU_take (i := 1) (oi := { dst := some 56, op := _, type := _, pos := _, after := _, guard := none }) (v := .bool true) rfl (by kernel_rfl) (by kernel_rfl) (by kernel_rfl) (by kernel_rfl) (fun _ _ _ h => h) (yields_take rfl (fun w' hw => by obtain ⟨h1, h2, h3, h4, h5, h6⟩ := hw.const; go_simp)) hS0.out ?_
      simp only [Act.put, List.setIfInBounds_toArray, List.set_cons_zero, List.set_cons_succ]
      refine wpAnyU_take (i := 2) (oi := { dst := some 57, op := _, type := _, pos := _, after := _, guard := none }) (v := .bool true) rfl (by kernel_rfl) (by kernel_rfl) (by kernel_rfl) (by kernel_rfl) (fun _ _ _ h => h) (yields_take rfl (fun w' hw => by obtain ⟨h1, h2, h3, h4, h5, h6⟩ := hw.const; go_simp)) hS0.out ?_
      simp only [Act.put, List.setIfInBounds_toArray, List.set_cons_zero, List.set_cons_succ]
      refine wpAnyU_take (i := 3) (oi := { dst := some 58, op := _, type := _, pos := _, after := _, guard := some (2, true) }) (v := .int .i64 0) rfl (by kernel_rfl) (by kernel_rfl) (by kernel_rfl) (by kernel_rfl) (fun _ _ _ h => h) (yields_take rfl (fun w' hw => by obtain ⟨h1, h2, h3, h4, h5, h6⟩ := hw.const; go_simp)) hS0.out ?_
      simp only [Act.put, List.setIfInBounds_toArray, List.set_cons_zero, List.set_cons_succ]
      refine wpAnyU_take (i := 4) (oi := { dst := some 59, op := _, type := _, pos := _, after := _, guard := some (2, true) }) (v := .bool true) rfl (by kernel_rfl) (by kernel_rfl) (by kernel_rfl) (by kernel_rfl) (fun _ _ _ h => h) (yields_take rfl (fun w' hw => by obtain ⟨h1, h2, h3, h4, h5, h6⟩ := hw.const; go_simp)) hS0.out ?_
      simp only [Act.put, List.setIfInBounds_toArray, List.set_cons_zero, List.set_cons_succ]
      refine wpAnyU_take (i := 5) (oi := { dst := some 60, op := _, type := _, pos := _, after := _, guard := none }) (v := .bool true) rfl (by kernel_rfl) (by kernel_rfl) (by kernel_rfl) (by kernel_rfl) (fun _ _ _ h => h) (yields_take rfl (fun w' hw => by obtain ⟨h1, h2, h3, h4, h5, h6⟩ := hw.const; go_simp)) hS0.out ?_
      simp only [Act.put, List.setIfInBounds_toArray, List.set_cons_zero, List.set_cons_succ]
      refine wpAnyU_take (i := 6) (oi := { dst := some 61, op := _, type := _, pos := _, after := _, guard := none }) (v := .bool true) rfl (by kernel_rfl) (by kernel_rfl) (by kernel_rfl) (by kernel_rfl) (fun _ _ _ h => h) (yields_take rfl (fun w' hw => by obtain ⟨h1, h2, h3, h4, h5, h6⟩ := hw.const; go_simp)) hS0.out ?_
      simp only [Act.put, List.setIfInBounds_toArray, List.set_cons_zero, List.set_cons_succ]
      refine wpAnyU_take (i := 7) (oi := { dst := some 62, op := _, type := _, pos := _, after := _, guard := some (6, true) }) (v := .int .i64 0) rfl (by kernel_rfl) (by kernel_rfl) (by kernel_rfl) (by kernel_rfl) (fun _ _ _ h => h) (yields_take rfl (fun w' hw => by obtain ⟨h1, h2, h3, h4, h5, h6⟩ := hw.const; go_simp)) hS0.out ?_
      simp only [Act.put, List.setIfInBounds_toArray, List.set_cons_zero, List.set_cons_succ]
      refine wpAnyU_take (i := 8) (oi := { dst := some 63, op := _, type := _, pos := _, after := _, guard := some (6, true) }) (v := .bool true) rfl (by kernel_rfl) (by kernel_rfl) (by kernel_rfl) (by kernel_rfl) (fun _ _ _ h => h) (yields_take rfl (fun w' hw => by obtain ⟨h1, h2, h3, h4, h5, h6⟩ := hw.const; go_simp)) hS0.out ?_
      simp only [Act.put, List.setIfInBounds_toArray, List.set_cons_zero, List.set_cons_succ]
      refine wpAnyU_take (i := 9) (oi := { dst := some 64, op := _, type := _, pos := _, after := _, guard := none }) (v := .bool true) rfl (by kernel_rfl) (by kernel_rfl) (by kernel_rfl) (by kernel_rfl) (fun _ _ _ h => h) (yields_take rfl (fun w' hw => by obtain ⟨h1, h2, h3, h4, h5, h6⟩ := hw.const; go_simp)) hS0.out ?_
      simp only [Act.put, List.setIfInBounds_toArray, List.set_cons_zero, List.set_cons_succ]
      refine wpAnyU_take (i := 10) (oi := { dst := some 65, op := _, type := _, pos := _, after := _, guard := none }) (v := .bool true) rfl (by kernel_rfl) (by kernel_rfl) (by kernel_rfl) (by kernel_rfl) (fun _ _ _ h => h) (yields_take rfl (fun w' hw => by obtain ⟨h1, h2, h3, h4, h5, h6⟩ := hw.const; go_simp)) hS0.out ?_
      simp only [Act.put, List.setIfInBounds_toArray, List.set_cons_zero, List.set_cons_succ]
      refine wpAnyU_take (i := 11) (oi := { dst := some 66, op := _, type := _, pos := _, after := _, guard := some (10, true) }) (v := .agg #[.slice (some ⟨g1a, 0, none⟩) 3 c1a, .slice (some ⟨g2a, 0, none⟩) 4 4]) rfl (by kernel_rfl) (by kernel_rfl) (by kernel_rfl) (by kernel_rfl) (fun _ _ _ h => h) (yields_take rfl (fun w' hw => by obtain ⟨h1, h2, h3, h4, h5, h6⟩ := hw.const; go_simp)) hS0.out ?_
      simp only [Act.put, List.setIfInBounds_toArray, List.set_cons_zero, List.set_cons_succ]
      refine wpAnyU_two (i := 12) (j := 13) (oi := { dst := some 67, op := _, type := _, pos := _, after := _, guard := some (10, true) }) (oj := { dst := some 68, op := _, type := _, pos := _, after := _, guard := some (10, true) }) (TwoL u4 .i64 .i32 ([1, 2, 2] : List Int) ([12, 16, 24, 28] : List Int)) (by kernel_rfl) (by kernel_rfl) (by kernel_rfl) rfl rfl rfl rfl (by decide) (by decide) (by kernel_rfl) (by kernel_rfl) (fun _ => by kernel_rfl) (fun _ => by kernel_rfl) ⟨.slice (some ⟨u4.drew.heap.size, 0, none⟩) 3 3, (u4.drew.alloc (.cells (([1, 2, 2] : List Int).map (Value.int .i64)).toArray 3)), by go_simp, (by have hv := below_al6 (o := (.cells (([1, 2, 2] : List Int).map (Value.int .i64)).toArray 3)) (hd0); exact HC.out _ hv), .slice (some ⟨u4.drew.heap.size + 1, 0, none⟩) 4 4, ((u4.drew.alloc (.cells (([1, 2, 2] : List Int).map (Value.int .i64)).toArray 3)).alloc (.cells (([12, 16, 24, 28] : List Int).map (Value.int .i32)).toArray 21)), by go_simp, TwoL.fst _ _ (hd0)⟩ ⟨.slice (some ⟨u4.drew.heap.size, 0, none⟩) 4 4, (u4.drew.alloc (.cells (([12, 16, 24, 28] : List Int).map (Value.int .i32)).toArray 21)), by go_simp, (by have hv := below_al6 (o := (.cells (([12, 16, 24, 28] : List Int).map (Value.int .i32)).toArray 21)) (hd0); exact HC.out _ hv), .slice (some ⟨u4.drew.heap.size + 1, 0, none⟩) 3 3, ((u4.drew.alloc (.cells (([12, 16, 24, 28] : List Int).map (Value.int .i32)).toArray 21)).alloc (.cells (([1, 2, 2] : List Int).map (Value.int .i64)).toArray 3)), by go_simp, TwoL.snd _ _ (hd0)⟩ (fun _ _ _ hr => by obtain ⟨_, _, _, _, _, _, hv⟩ := hr; exact HC.out _ hv) ?_
      rintro _ _ q0 ⟨gq0x, gq0y, rfl, rfl, hlq0x, hlq0y, hd1⟩
      simp only [List.length_cons, List.length_nil, Nat.reduceAdd] at hlq0x hlq0y ⊢
      simp only [Act.put, List.setIfInBounds_toArray, List.set_cons_zero, List.set_cons_succ]
      have hS1 : Hid (q0.cell? ⟨pa, 0, none⟩ = some (.slice (some ⟨g1a, 0, none⟩) 3 c1a) ∧ q0.cell? ⟨pa, 1, none⟩ = some (.slice (some ⟨g2a, 0, none⟩) 4 4) ∧ q0.cell? ⟨pb, 0, none⟩ = some (.slice (some ⟨g1b, 0, none⟩) 3 c1b) ∧ q0.cell? ⟨pb, 1, none⟩ = some (.slice (some ⟨g2b, 0, none⟩) 9 9) ∧ q0.cell? ⟨u1.heap.size, 0, none⟩ = some (.slice (some ⟨g1c, 0, none⟩) 3 c1c) ∧ q0.cell? ⟨u1.heap.size, 1, none⟩ = some (.slice (some ⟨g2c, 0, none⟩) 1 1)) := hide (by have hv := hd1; exact HC.out _ hv)
      clear hS0
      refine wpAnyU_one (i := 14) (by kernel_rfl) rfl ?_
      intro K hK
      go_simp
      refine Calls.mono (of8_any (some ⟨gq0x, 0, none⟩) (some ⟨gq0y, 0, none⟩) 3 3 4 4 _) ?_
      rintro e r0 ⟨rfl, hb⟩
      dsimp only
      have hd2 : Below u4.heap.size u4 r0 := below_nx6 hd1 hb
      replace hlq0x := hlq0x.below hb
      replace hlq0y := hlq0y.below hb
      clear hb
      have hS2 : Hid (r0.cell? ⟨pa, 0, none⟩ = some (.slice (some ⟨g1a, 0, none⟩) 3 c1a) ∧ r0.cell? ⟨pa, 1, none⟩ = some (.slice (some ⟨g2a, 0, none⟩) 4 4) ∧ r0.cell? ⟨pb, 0, none⟩ = some (.slice (some ⟨g1b, 0, none⟩) 3 c1b) ∧ r0.cell? ⟨pb, 1, none⟩ = some (.slice (some ⟨g2b, 0, none⟩) 9 9) ∧ r0.cell? ⟨u1.heap.size, 0, none⟩ = some (.slice (some ⟨g1c, 0, none⟩) 3 c1c) ∧ r0.cell? ⟨u1.heap.size, 1, none⟩ = some (.slice (some ⟨g2c, 0, none⟩) 1 1)) := hide (HC.out _ hd2)
      refine hK.out _ _ hS2.out (fun _ => ?_)
      clear hK K hS1
      refine wpAnyU_one (i := 15) (by kernel_rfl) rfl ?_
      intro K hK
      go_simp
      refine Calls.mono (tsame_any (some ⟨g1a, 0, none⟩) (some ⟨g2a, 0, none⟩) (some ⟨gq0x, 0, none⟩) (some ⟨gq0y, 0, none⟩) 3 c1a 4 4 3 3 4 4 [1, 2, 2] [12, 16, 24, 28] [1, 2, 2] [12, 16, 24, 28] _ (HT_a.out.S.below hd2) (HT_a.out.L.below hd2) hlq0x hlq0y (by omega) (by omega)) ?_
      rintro e s0 ⟨rfl, hb⟩
      dsimp only
      have hd3 : Below u4.heap.size u4 s0 := below_nx6 hd2 hb
      clear hb hlq0x hlq0y
      have hS3 : Hid (s0.cell? ⟨pa, 0, none⟩ = some (.slice (some ⟨g1a, 0, none⟩) 3 c1a) ∧ s0.cell? ⟨pa, 1, none⟩ = some (.slice (some ⟨g2a, 0, none⟩) 4 4) ∧ s0.cell? ⟨pb, 0, none⟩ = some (.slice (some ⟨g1b, 0, none⟩) 3 c1b) ∧ s0.cell? ⟨pb, 1, none⟩ = some (.slice (some ⟨g2b, 0, none⟩) 9 9) ∧ s0.cell? ⟨u1.heap.size, 0, none⟩ = some (.slice (some ⟨g1c, 0, none⟩) 3 c1c) ∧ s0.cell? ⟨u1.heap.size, 1, none⟩ = some (.slice (some ⟨g2c, 0, none⟩) 1 1)) := hide (HC.out _ hd3)
      refine hK.out _ _ hS3.out (fun _ => ?_)
      clear hK K hS2
      refine wpAnyU_take (i := 16) (oi := { dst := some 71, op := _, type := _, pos := _, after := _, guard := none }) (v := .bool true) rfl (by kernel_rfl) (by kernel_rfl) (by kernel_rfl) (by kernel_rfl) (fun _ _ _ h => h) (yields_take rfl (fun w' hw => by obtain ⟨h1, h2, h3, h4, h5, h6⟩ := hw.const; go_simp)) hS3.out ?_
      simp only [Act.put, List.setIfInBounds_toArray, List.set_cons_zero, List.set_cons_succ]
      refine wpAnyU_take (i := 17) (oi := { dst := some 72, op := _, type := _, pos := _, after := _, guard := none }) (v := .bool true) rfl (by kernel_rfl) (by kernel_rfl) (by kernel_rfl) (by kernel_rfl) (fun _ _ _ h => h) (yields_take rfl (fun w' hw => by obtain ⟨h1, h2, h3, h4, h5, h6⟩ := hw.const; go_simp)) hS3.out ?_
      simp only [Act.put, List.setIfInBounds_toArray, List.set_cons_zero, List.set_cons_succ]
      refine wpAnyU_take (i := 18) (oi := { dst := some 73, op := _, type := _, pos := _, after := _, guard := some (17, true) }) (v := .agg #[.slice (some ⟨g1b, 0, none⟩) 3 c1b, .slice (some ⟨g2b, 0, none⟩) 9 9]) rfl (by kernel_rfl) (by kernel_rfl) (by kernel_rfl) (by kernel_rfl) (fun _ _ _ h => h) (yields_take rfl (fun w' hw => by obtain ⟨h1, h2, h3, h4, h5, h6⟩ := hw.const; go_simp)) hS3.out ?_
      simp only [Act.put, List.setIfInBounds_toArray, List.set_cons_zero, List.set_cons_succ]
      refine wpAnyU_two (i := 19) (j := 20) (oi := { dst := some 74, op := _, type := _, pos := _, after := _, guard := some (17, true) }) (oj := { dst := some 75, op := _, type := _, pos := _, after := _, guard := some (17, true) }) (TwoL u4 .i64 .i32 ([1, 3, 3] : List Int) ([0, 0, 0, 0, 5, 0, 0, 0, 0] : List Int)) (by kernel_rfl) (by kernel_rfl) (by kernel_rfl) rfl rfl rfl rfl (by decide) (by decide) (by kernel_rfl) (by kernel_rfl) (fun _ => by kernel_rfl) (fun _ => by kernel_rfl) ⟨.slice (some ⟨s0.heap.size, 0, none⟩) 3 3, (s0.alloc (.cells (([1, 3, 3] : List Int).map (Value.int .i64)).toArray 3)), by go_simp, (by have hv := below_al6 (o := (.cells (([1, 3, 3] : List Int).map (Value.int .i64)).toArray 3)) (hd3); exact HC.out _ hv), .slice (some ⟨s0.heap.size + 1, 0, none⟩) 9 9, ((s0.alloc (.cells (([1, 3, 3] : List Int).map (Value.int .i64)).toArray 3)).alloc (.cells (([0, 0, 0, 0, 5, 0, 0, 0, 0] : List Int).map (Value.int .i32)).toArray 21)), by go_simp, TwoL.fst _ _ (hd3)⟩ ⟨.slice (some ⟨s0.heap.size, 0, none⟩) 9 9, (s0.alloc (.cells (([0, 0, 0, 0, 5, 0, 0, 0, 0] : List Int).map (Value.int .i32)).toArray 21)), by go_simp, (by have hv := below_al6 (o := (.cells (([0, 0, 0, 0, 5, 0, 0, 0, 0] : List Int).map (Value.int .i32)).toArray 21)) (hd3); exact HC.out _ hv), .slice (some ⟨s0.heap.size + 1, 0, none⟩) 3 3, ((s0.alloc (.cells (([0, 0, 0, 0, 5, 0, 0, 0, 0] : List Int).map (Value.int .i32)).toArray 21)).alloc (.cells (([1, 3, 3] : List Int).map (Value.int .i64)).toArray 3)), by go_simp, TwoL.snd _ _ (hd3)⟩ (fun _ _ _ hr => by obtain ⟨_, _, _, _, _, _, hv⟩ := hr; exact HC.out _ hv) ?_
      rintro _ _ q3 ⟨gq3x, gq3y, rfl, rfl, hlq3x, hlq3y, hd4⟩
      simp only [List.length_cons, List.length_nil, Nat.reduceAdd] at hlq3x hlq3y ⊢
      simp only [Act.put, List.setIfInBounds_toArray, List.set_cons_zero, List.set_cons_succ]
      have hS4 : Hid (q3.cell? ⟨pa, 0, none⟩ = some (.slice (some ⟨g1a, 0, none⟩) 3 c1a) ∧ q3.cell? ⟨pa, 1, none⟩ = some (.slice (some ⟨g2a, 0, none⟩) 4 4) ∧ q3.cell? ⟨pb, 0, none⟩ = some (.slice (some ⟨g1b, 0, none⟩) 3 c1b) ∧ q3.cell? ⟨pb, 1, none⟩ = some (.slice (some ⟨g2b, 0, none⟩) 9 9) ∧ q3.cell? ⟨u1.heap.size, 0, none⟩ = some (.slice (some ⟨g1c, 0, none⟩) 3 c1c) ∧ q3.cell? ⟨u1.heap.size, 1, none⟩ = some (.slice (some ⟨g2c, 0, none⟩) 1 1)) := hide (by have hv := hd4; exact HC.out _ hv)
      clear hS3
      refine wpAnyU_one (i := 21) (by kernel_rfl) rfl ?_
      intro K hK
      go_simp
      refine Calls.mono (of8_any (some ⟨gq3x, 0, none⟩) (some ⟨gq3y, 0, none⟩) 3 3 9 9 _) ?_
      rintro e r3 ⟨rfl, hb⟩
      dsimp only
      have hd5 : Below u4.heap.size u4 r3 := below_nx6 hd4 hb
      replace hlq3x := hlq3x.below hb
      replace hlq3y := hlq3y.below hb
      clear hb
      have hS5 : Hid (r3.cell? ⟨pa, 0, none⟩ = some (.slice (some ⟨g1a, 0, none⟩) 3 c1a) ∧ r3.cell? ⟨pa, 1, none⟩ = some (.slice (some ⟨g2a, 0, none⟩) 4 4) ∧ r3.cell? ⟨pb, 0, none⟩ = some (.slice (some ⟨g1b, 0, none⟩) 3 c1b) ∧ r3.cell? ⟨pb, 1, none⟩ = some (.slice (some ⟨g2b, 0, none⟩) 9 9) ∧ r3.cell? ⟨u1.heap.size, 0, none⟩ = some (.slice (some ⟨g1c, 0, none⟩) 3 c1c) ∧ r3.cell? ⟨u1.heap.size, 1, none⟩ = some (.slice (some ⟨g2c, 0, none⟩) 1 1)) := hide (HC.out _ hd5)
      refine hK.out _ _ hS5.out (fun _ => ?_)
      clear hK K hS4
      refine wpAnyU_one (i := 22) (by kernel_rfl) rfl ?_
      intro K hK
      go_simp
      refine Calls.mono (tsame_any (some ⟨g1b, 0, none⟩) (some ⟨g2b, 0, none⟩) (some ⟨gq3x, 0, none⟩) (some ⟨gq3y, 0, none⟩) 3 c1b 9 9 3 3 9 9 [1, 3, 3] [0, 0, 0, 0, 5, 0, 0, 0, 0] [1, 3, 3] [0, 0, 0, 0, 5, 0, 0, 0, 0] _ (HT_b.out.S.below hd5) (HT_b.out.L.below hd5) hlq3x hlq3y (by omega) (by omega)) ?_
      rintro e s3 ⟨rfl, hb⟩
      dsimp only
      have hd6 : Below u4.heap.size u4 s3 := below_nx6 hd5 hb
      clear hb hlq3x hlq3y
      have hS6 : Hid (s3.cell? ⟨pa, 0, none⟩ = some (.slice (some ⟨g1a, 0, none⟩) 3 c1a) ∧ s3.cell? ⟨pa, 1, none⟩ = some (.slice (some ⟨g2a, 0, none⟩) 4 4) ∧ s3.cell? ⟨pb, 0, none⟩ = some (.slice (some ⟨g1b, 0, none⟩) 3 c1b) ∧ s3.cell? ⟨pb, 1, none⟩ = some (.slice (some ⟨g2b, 0, none⟩) 9 9) ∧ s3.cell? ⟨u1.heap.size, 0, none⟩ = some (.slice (some ⟨g1c, 0, none⟩) 3 c1c) ∧ s3.cell? ⟨u1.heap.size, 1, none⟩ = some (.slice (some ⟨g2c, 0, none⟩) 1 1)) := hide (HC.out _ hd6)
      refine hK.out _ _ hS6.out (fun _ => ?_)
      clear hK K hS5
      refine wpAnyU_take (i := 23) (oi := { dst := some 78, op := _, type := _, pos := _, after := _, guard := none }) (v := .bool true) rfl (by kernel_rfl) (by kernel_rfl) (by kernel_rfl) (by kernel_rfl) (fun _ _ _ h => h) (yields_take rfl (fun w' hw => by obtain ⟨h1, h2, h3, h4, h5, h6⟩ := hw.const; go_simp)) hS6.out ?_
      simp only [Act.put, List.setIfInBounds_toArray, List.set_cons_zero, List.set_cons_succ]
      refine wpAnyU_take (i := 24) (oi := { dst := some 79, op := _, type := _, pos := _, after := _, guard := none }) (v := .bool true) rfl (by kernel_rfl) (by kernel_rfl) (by kernel_rfl) (by kernel_rfl) (fun _ _ _ h => h) (yields_take rfl (fun w' hw => by obtain ⟨h1, h2, h3, h4, h5, h6⟩ := hw.const; go_simp)) hS6.out ?_
      simp only [Act.put, List.setIfInBounds_toArray, List.set_cons_zero, List.set_cons_succ]
      refine wpAnyU_take (i := 25) (oi := { dst := some 80, op := _, type := _, pos := _, after := _, guard := some (24, true) }) (v := .agg #[.slice (some ⟨g1c, 0, none⟩) 3 c1c, .slice (some ⟨g2c, 0, none⟩) 1 1]) rfl (by kernel_rfl) (by kernel_rfl) (by kernel_rfl) (by kernel_rfl) (fun _ _ _ h => h) (yields_take rfl (fun w' hw => by obtain ⟨h1, h2, h3, h4, h5, h6⟩ := hw.const; go_simp)) hS6.out ?_
      simp only [Act.put, List.setIfInBounds_toArray, List.set_cons_zero, List.set_cons_succ]
      refine wpAnyU_two (i := 26) (j := 27) (oi := { dst := some 81, op := _, type := _, pos := _, after := _, guard := some (24, true) }) (oj := { dst := some 82, op := _, type := _, pos := _, after := _, guard := some (24, true) }) (TwoL u4 .i64 .i32 ([1, 1, 1] : List Int) ([5] : List Int)) (by kernel_rfl) (by kernel_rfl) (by kernel_rfl) rfl rfl rfl rfl (by decide) (by decide) (by kernel_rfl) (by kernel_rfl) (fun _ => by kernel_rfl) (fun _ => by kernel_rfl) ⟨.slice (some ⟨s3.heap.size, 0, none⟩) 3 3, (s3.alloc (.cells (([1, 1, 1] : List Int).map (Value.int .i64)).toArray 3)), by go_simp, (by have hv := below_al6 (o := (.cells (([1, 1, 1] : List Int).map (Value.int .i64)).toArray 3)) (hd6); exact HC.out _ hv), .slice (some ⟨s3.heap.size + 1, 0, none⟩) 1 1, ((s3.alloc (.cells (([1, 1, 1] : List Int).map (Value.int .i64)).toArray 3)).alloc (.cells (([5] : List Int).map (Value.int .i32)).toArray 21)), by go_simp, TwoL.fst _ _ (hd6)⟩ ⟨.slice (some ⟨s3.heap.size, 0, none⟩) 1 1, (s3.alloc (.cells (([5] : List Int).map (Value.int .i32)).toArray 21)), by go_simp, (by have hv := below_al6 (o := (.cells (([5] : List Int).map (Value.int .i32)).toArray 21)) (hd6); exact HC.out _ hv), .slice (some ⟨s3.heap.size + 1, 0, none⟩) 3 3, ((s3.alloc (.cells (([5] : List Int).map (Value.int .i32)).toArray 21)).alloc (.cells (([1, 1, 1] : List Int).map (Value.int .i64)).toArray 3)), by go_simp, TwoL.snd _ _ (hd6)⟩ (fun _ _ _ hr => by obtain ⟨_, _, _, _, _, _, hv⟩ := hr; exact HC.out _ hv) ?_
      rintro _ _ q6 ⟨gq6x, gq6y, rfl, rfl, hlq6x, hlq6y, hd7⟩
      simp only [List.length_cons, List.length_nil, Nat.reduceAdd] at hlq6x hlq6y ⊢
      simp only [Act.put, List.setIfInBounds_toArray, List.set_cons_zero, List.set_cons_succ]
      have hS7 : Hid (q6.cell? ⟨pa, 0, none⟩ = some (.slice (some ⟨g1a, 0, none⟩) 3 c1a) ∧ q6.cell? ⟨pa, 1, none⟩ = some (.slice (some ⟨g2a, 0, none⟩) 4 4) ∧ q6.cell? ⟨pb, 0, none⟩ = some (.slice (some ⟨g1b, 0, none⟩) 3 c1b) ∧ q6.cell? ⟨pb, 1, none⟩ = some (.slice (some ⟨g2b, 0, none⟩) 9 9) ∧ q6.cell? ⟨u1.heap.size, 0, none⟩ = some (.slice (some ⟨g1c, 0, none⟩) 3 c1c) ∧ q6.cell? ⟨u1.heap.size, 1, none⟩ = some (.slice (some ⟨g2c, 0, none⟩) 1 1)) := hide (by have hv := hd7; exact HC.out _ hv)
      clear hS6
      refine wpAnyU_one (i := 28) (by kernel_rfl) rfl ?_
      intro K hK
      go_simp
      refine Calls.mono (of8_any (some ⟨gq6x, 0, none⟩) (some ⟨gq6y, 0, none⟩) 3 3 1 1 _) ?_
      rintro e r6 ⟨rfl, hb⟩
      dsimp only
      have hd8 : Below u4.heap.size u4 r6 := below_nx6 hd7 hb
      replace hlq6x := hlq6x.below hb
      replace hlq6y := hlq6y.below hb
      clear hb
      have hS8 : Hid (r6.cell? ⟨pa, 0, none⟩ = some (.slice (some ⟨g1a, 0, none⟩) 3 c1a) ∧ r6.cell? ⟨pa, 1, none⟩ = some (.slice (some ⟨g2a, 0, none⟩) 4 4) ∧ r6.cell? ⟨pb, 0, none⟩ = some (.slice (some ⟨g1b, 0, none⟩) 3 c1b) ∧ r6.cell? ⟨pb, 1, none⟩ = some (.slice (some ⟨g2b, 0, none⟩) 9 9) ∧ r6.cell? ⟨u1.heap.size, 0, none⟩ = some (.slice (some ⟨g1c, 0, none⟩) 3 c1c) ∧ r6.cell? ⟨u1.heap.size, 1, none⟩ = some (.slice (some ⟨g2c, 0, none⟩) 1 1)) := hide (HC.out _ hd8)
      refine hK.out _ _ hS8.out (fun _ => ?_)
      clear hK K hS7
      refine wpAnyU_one (i := 29) (by kernel_rfl) rfl ?_
      intro K hK
      go_simp
      refine Calls.mono (tsame_any (some ⟨g1c, 0, none⟩) (some ⟨g2c, 0, none⟩) (some ⟨gq6x, 0, none⟩) (some ⟨gq6y, 0, none⟩) 3 c1c 1 1 3 3 1 1 [1, 1, 1] [5] [1, 1, 1] [5] _ (HT_c.out.S.below hd8) (HT_c.out.L.below hd8) hlq6x hlq6y (by omega) (by omega)) ?_
      rintro e s6 ⟨rfl, hb⟩
      dsimp only
      have hd9 : Below u4.heap.size u4 s6 := below_nx6 hd8 hb
      clear hb hlq6x hlq6y
      have hS9 : Hid (s6.cell? ⟨pa, 0, none⟩ = some (.slice (some ⟨g1a, 0, none⟩) 3 c1a) ∧ s6.cell? ⟨pa, 1, none⟩ = some (.slice (some ⟨g2a, 0, none⟩) 4 4) ∧ s6.cell? ⟨pb, 0, none⟩ = some (.slice (some ⟨g1b, 0, none⟩) 3 c1b) ∧ s6.cell? ⟨pb, 1, none⟩ = some (.slice (some ⟨g2b, 0, none⟩) 9 9) ∧ s6.cell? ⟨u1.heap.size, 0, none⟩ = some (.slice (some ⟨g1c, 0, none⟩) 3 c1c) ∧ s6.cell? ⟨u1.heap.size, 1, none⟩ = some (.slice (some ⟨g2c, 0, none⟩) 1 1)) := hide (HC.out _ hd9)
      refine hK.out _ _ hS9.out (fun _ => ?_)
      clear hK K hS8
      refine wpAnyU_take (i := 30) (oi := { dst := some 85, op := _, type := _, pos := _, after := _, guard := none }) (v := .bool true) rfl (by kernel_rfl) (by kernel_rfl) (by kernel_rfl) (by kernel_rfl) (fun _ _ _ h => h) (yields_take rfl (fun w' hw => by obtain ⟨h1, h2, h3, h4, h5, h6⟩ := hw.const; go_simp)) hS9.out ?_
      simp only [Act.put, List.setIfInBounds_toArray, List.set_cons_zero, List.set_cons_succ]
      refine wpAnyU_take (i := 31) (oi := { dst := some 86, op := _, type := _, pos := _, after := _, guard := none }) (v := .bool true) rfl (by kernel_rfl) (by kernel_rfl) (by kernel_rfl) (by kernel_rfl) (fun _ _ _ h => h) (yields_take rfl (fun w' hw => by obtain ⟨h1, h2, h3, h4, h5, h6⟩ := hw.const; go_simp)) hS9.out ?_
      simp only [Act.put, List.setIfInBounds_toArray, List.set_cons_zero, List.set_cons_succ]
      refine wpAnyU_take (i := 32) (oi := { dst := some 87, op := _, type := _, pos := _, after := _, guard := some (31, true) }) (v := .int .i64 10) rfl (by kernel_rfl) (by kernel_rfl) (by kernel_rfl) (by kernel_rfl) (fun _ _ _ h => h) (yields_take rfl (fun w' hw => by obtain ⟨h1, h2, h3, h4, h5, h6⟩ := hw.const; go_simp)) hS9.out ?_
      simp only [Act.put, List.setIfInBounds_toArray, List.set_cons_zero, List.set_cons_succ]
      refine wpAnyU_take (i := 33) (oi := { dst := some 88, op := _, type := _, pos := _, after := _, guard := some (31, true) }) (v := .bool true) rfl (by kernel_rfl) (by kernel_rfl) (by kernel_rfl) (by kernel_rfl) (fun _ _ _ h => h) (yields_take rfl (fun w' hw => by obtain ⟨h1, h2, h3, h4, h5, h6⟩ := hw.const; go_simp)) hS9.out ?_
      simp only [Act.put, List.setIfInBounds_toArray, List.set_cons_zero, List.set_cons_succ]
      refine wpAnyU_take (i := 34) (oi := { dst := some 89, op := _, type := _, pos := _, after := _, guard := none }) (v := .bool true) rfl (by kernel_rfl) (by kernel_rfl) (by kernel_rfl) (by kernel_rfl) (fun _ _ _ h => h) (yields_take rfl (fun w' hw => by obtain ⟨h1, h2, h3, h4, h5, h6⟩ := hw.const; go_simp)) hS9.out ?_
      simp only [Act.put, List.setIfInBounds_toArray, List.set_cons_zero, List.set_cons_succ]
      refine wpAnyU_take (i := 35) (oi := { dst := some 90, op := _, type := _, pos := _, after := _, guard := none }) (v := .bool true) rfl (by kernel_rfl) (by kernel_rfl) (by kernel_rfl) (by kernel_rfl) (fun _ _ _ h => h) (yields_take rfl (fun w' hw => by obtain ⟨h1, h2, h3, h4, h5, h6⟩ := hw.const; go_simp)) hS9.out ?_
      simp only [Act.put, List.setIfInBounds_toArray, List.set_cons_zero, List.set_cons_succ]
      refine wpAnyU_take (i := 36) (oi := { dst := some 91, op := _, type := _, pos := _, after := _, guard := some (35, true) }) (v := .int .i64 1) rfl (by kernel_rfl) (by kernel_rfl) (by kernel_rfl) (by kernel_rfl) (fun _ _ _ h => h) (yields_take rfl (fun w' hw => by obtain ⟨h1, h2, h3, h4, h5, h6⟩ := hw.const; go_simp)) hS9.out ?_
      simp only [Act.put, List.setIfInBounds_toArray, List.set_cons_zero, List.set_cons_succ]
      refine wpAnyU_take (i := 37) (oi := { dst := some 92, op := _, type := _, pos := _, after := _, guard := some (35, true) }) (v := .bool true) rfl (by kernel_rfl) (by kernel_rfl) (by kernel_rfl) (by kernel_rfl) (fun _ _ _ h => h) (yields_take rfl (fun w' hw => by obtain ⟨h1, h2, h3, h4, h5, h6⟩ := hw.const; go_simp)) hS9.out ?_
      simp only [Act.put, List.setIfInBounds_toArray, List.set_cons_zero, List.set_cons_succ]
      refine wpAnyU_take (i := 38) (oi := { dst := some 93, op := _, type := _, pos := _, after := _, guard := none }) (v := .bool true) rfl (by kernel_rfl) (by kernel_rfl) (by kernel_rfl) (by kernel_rfl) (fun _ _ _ h => h) (yields_take rfl (fun w' hw => by obtain ⟨h1, h2, h3, h4, h5, h6⟩ := hw.const; go_simp)) hS9.out ?_
      simp only [Act.put, List.setIfInBounds_toArray, List.set_cons_zero, List.set_cons_succ]
      refine wpAnyU_take (i := 39) (oi := { dst := some 94, op := _, type := _, pos := _, after := _, guard := none }) (v := .bool true) rfl (by kernel_rfl) (by kernel_rfl) (by kernel_rfl) (by kernel_rfl) (fun _ _ _ h => h) (yields_take rfl (fun w' hw => by obtain ⟨h1, h2, h3, h4, h5, h6⟩ := hw.const; go_simp)) hS9.out ?_
      simp only [Act.put, List.setIfInBounds_toArray, List.set_cons_zero, List.set_cons_succ]
      refine wpAnyU_take (i := 40) (oi := { dst := some 95, op := _, type := _, pos := _, after := _, guard := some (39, true) }) (v := .int .i64 10) rfl (by kernel_rfl) (by kernel_rfl) (by kernel_rfl) (by kernel_rfl) (fun _ _ _ h => h) (yields_take rfl (fun w' hw => by obtain ⟨h1, h2, h3, h4, h5, h6⟩ := hw.const; go_simp)) hS9.out ?_
      simp only [Act.put, List.setIfInBounds_toArray, List.set_cons_zero, List.set_cons_succ]
      refine wpAnyU_take (i := 41) (oi := { dst := some 96, op := _, type := _, pos := _, after := _, guard := some (39, true) }) (v := .bool true) rfl (by kernel_rfl) (by kernel_rfl) (by kernel_rfl) (by kernel_rfl) (fun _ _ _ h => h) (yields_take rfl (fun w' hw => by obtain ⟨h1, h2, h3, h4, h5, h6⟩ := hw.const; go_simp)) hS9.out ?_
      simp only [Act.put, List.setIfInBounds_toArray, List.set_cons_zero, List.set_cons_succ]
      refine wpAnyU_take (i := 42) (oi := { dst := some 97, op := _, type := _, pos := _, after := _, guard := none }) (v := .bool true) rfl (by kernel_rfl) (by kernel_rfl) (by kernel_rfl) (by kernel_rfl) (fun _ _ _ h => h) (yields_take rfl (fun w' hw => by obtain ⟨h1, h2, h3, h4, h5, h6⟩ := hw.const; go_simp)) hS9.out ?_
      simp only [Act.put, List.setIfInBounds_toArray, List.set_cons_zero, List.set_cons_succ]
      refine wpAnyU_take (i := 43) (oi := { dst := some 0, op := _, type := _, pos := _, after := _, guard := none }) (v := .bool true) rfl (by kernel_rfl) (by kernel_rfl) (by kernel_rfl) (by kernel_rfl) (fun _ _ _ h => h) (yields_take rfl (fun w' hw => by obtain ⟨h1, h2, h3, h4, h5, h6⟩ := hw.const; go_simp)) hS9.out ?_
      simp only [Act.put, List.setIfInBounds_toArray, List.set_cons_zero, List.set_cons_succ]
      refine wpAnyU_done (by kernel_rfl) ?_ _
      clear hS9
      have HBE := hide (HBW.out.trans (hd9.mono HBW.out.size))
      go_wp2
      go_ret
      exact ⟨rfl, HBE.out⟩

end Go.Proofs.Ytknlllpfjineaaa
