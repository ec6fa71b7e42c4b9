/- alive of the statements on moves: it is true. -/
import Derived.Test.YtomhbhhfbbdilaaHelp9M
import Derived.Test.YtomhbhhfbbdilaaWB
import Derived.Deep.Cut
namespace Go.Proofs.Ytomhbhhfbbdilaa
open Go.RowKit
set_option linter.unusedVariables false
set_option linter.unusedSimpArgs false
set_option maxRecDepth 100000

theorem jn_alive (A B : Option Addr) : jnE ([⟨A, 2, 2, B, 6, 6, [2, 3], [1, 2, 3, 4, 5, 6]⟩, ⟨A, 2, 2, B, 6, 6, [2, 3], [1, 2, 3, 4, 5, 6]⟩] : List Tn) 1 = 0 ∧ jnS ([⟨A, 2, 2, B, 6, 6, [2, 3], [1, 2, 3, 4, 5, 6]⟩, ⟨A, 2, 2, B, 6, 6, [2, 3], [1, 2, 3, 4, 5, 6]⟩] : List Tn) 1 = [2, 6] ∧ jnL ([⟨A, 2, 2, B, 6, 6, [2, 3], [1, 2, 3, 4, 5, 6]⟩, ⟨A, 2, 2, B, 6, 6, [2, 3], [1, 2, 3, 4, 5, 6]⟩] : List Tn) 1 = [1, 2, 3, 1, 2, 3, 4, 5, 6, 4, 5, 6] := ⟨by kernel_rfl, by kernel_rfl, by kernel_rfl⟩

set_option maxHeartbeats 16000000 in
theorem alive9_any (w : World) : Calls Try.prog 22 #[] w fun e w' => e = .returned (.bool true) ∧ Below w.heap.size w w' := by
  have HBW := hide (Below.refl w.heap.size w)
  go_enter Try.func22, Try.ntmps22
  go_wp2_with fail
  refine Calls.mono (of9_any (some ⟨w.heap.size, 0, none⟩) (some ⟨w.heap.size + 1, 0, none⟩) 2 2 6 6 _) ?_
  rintro e ua1 ⟨rfl, hb0⟩
  have hl1 : Lies ua1 (some ⟨w.heap.size, 0, none⟩) 2 (([2, 3] : List Int).map (Value.int .i64)) := ((lies_lit w .i64 [2, 3] 3).alloc _).below hb0
  have hl2 : Lies ua1 (some ⟨w.heap.size + 1, 0, none⟩) 6 (([1, 2, 3, 4, 5, 6] : List Int).map (Value.int .i32)) := by
    have h := lies_lit (w.alloc (.cells ((([2, 3] : List Int).map (Value.int .i64))).toArray 3)) .i32 [1, 2, 3, 4, 5, 6] 21
    rw [World.size_alloc] at h
    exact h.below hb0
  have hb1 : Below w.heap.size w ua1 := below_nx6 (below_al6 (below_al6 (Below.refl _ _))) hb0
  obtain ⟨V2, hV2⟩ : ∃ W, W = ua1.alloc (.cells #[.slice (some ⟨w.heap.size, 0, none⟩) 2 2, .slice (some ⟨w.heap.size + 1, 0, none⟩) 6 6] 49) := ⟨_, rfl⟩
  have HT_t : Hid (TenAt V2 ua1.heap.size (some ⟨w.heap.size, 0, none⟩) (some ⟨w.heap.size + 1, 0, none⟩) 2 2 6 6 [2, 3] [1, 2, 3, 4, 5, 6]) := hide (by rw [hV2]; exact ⟨BoxT.new ua1 _ _, hl1.alloc _, hl2.alloc _⟩)
  have hb : Below w.heap.size w V2 := by rw [hV2]; exact below_al6 hb1
  replace HBW := hide (HBW.out.trans (hb.mono HBW.out.size))
  have hV2' := hV2.symm
  clear  hV2 hb hb0 hb1 hl1 hl2
  have hlt_t := HT_t.out.1.lt
  have hd : Below V2.heap.size V2 (V2.alloc (.cells #[.int .i64 3, .int .i64 2] 3)) := below_al6 (Below.refl _ _)
  have cxt0 := HT_t.out.c0
  have cxt1 := HT_t.out.c1
  go_wp2_with fail
  refine Calls.mono (mshape_own (some ⟨w.heap.size, 0, none⟩) (some ⟨w.heap.size + 1, 0, none⟩) (some ⟨V2.heap.size, 0, none⟩) 2 2 6 6 2 2 [2, 3] [1, 2, 3, 4, 5, 6] [3, 2] _ (HT_t.out.S.below hd) (HT_t.out.L.below hd) (lies_lit V2 .i64 [3, 2] 3) (by omega) (by omega)) ?_
  rw [show msE [2, 3] 6 [3, 2] = 0 by decide +kernel, show msS [2, 3] 6 [3, 2] = [3, 2] by decide +kernel, show msL [2, 3] 6 [3, 2] [1, 2, 3, 4, 5, 6] = [1, 2, 3, 4, 5, 6] by decide +kernel]
  rintro e ua3 ⟨A1a, k1a, c1a, A2a, k2a, c2a, rfl, ho1, ho2, hk1a, hk2a, hb0⟩
  obtain ⟨V4, hV4⟩ : ∃ W, W = ua3.alloc (.cells #[.slice A1a k1a c1a, .slice A2a k2a c2a] 49) := ⟨_, rfl⟩
  have HT_a : Hid (TenAt V4 ua3.heap.size A1a A2a k1a c1a k2a c2a [3, 2] [1, 2, 3, 4, 5, 6]) := hide (by rw [hV4]; exact TenAt.own9 ho1 ho2)
  have hb : Below V2.heap.size V2 V4 := by rw [hV4]; exact below_al6 (below_nx6 hd hb0)
  replace HT_t := hide (HT_t.out.kept hb)
  replace HBW := hide (HBW.out.trans (hb.mono HBW.out.size))
  have hV4' := hV4.symm
  clear cxt0 cxt1 hV4 hb hb0 hd ho1 ho2
  have hlt_a := HT_a.out.1.lt
  have hd : Below V4.heap.size V4 (V4.alloc (.cells #[.int .i64 1, .int .i64 0] 3)) := below_al6 (Below.refl _ _)
  have cxt0 := HT_t.out.c0
  have cxt1 := HT_t.out.c1
  go_wp2_with fail
  refine Calls.mono (mturn_own (some ⟨w.heap.size, 0, none⟩) (some ⟨w.heap.size + 1, 0, none⟩) (some ⟨V4.heap.size, 0, none⟩) 2 2 6 6 2 2 [2, 3] [1, 2, 3, 4, 5, 6] [1, 0] _ (HT_t.out.S.below hd) (HT_t.out.L.below hd) (lies_lit V4 .i64 [1, 0] 3) (by omega) (by omega)) ?_
  rw [show tuE [2, 3] 6 [1, 0] = 0 by decide +kernel, show tuS [2, 3] 6 [1, 0] = [3, 2] by decide +kernel, show tuL [2, 3] 6 [1, 2, 3, 4, 5, 6] [1, 0] = [1, 4, 2, 5, 3, 6] by decide +kernel]
  rintro e ua5 ⟨A1b, k1b, c1b, A2b, k2b, c2b, rfl, ho1, ho2, hk1b, hk2b, hb0⟩
  obtain ⟨V6, hV6⟩ : ∃ W, W = ua5.alloc (.cells #[.slice A1b k1b c1b, .slice A2b k2b c2b] 49) := ⟨_, rfl⟩
  have HT_b : Hid (TenAt V6 ua5.heap.size A1b A2b k1b c1b k2b c2b [3, 2] [1, 4, 2, 5, 3, 6]) := hide (by rw [hV6]; exact TenAt.own9 ho1 ho2)
  have hb : Below V4.heap.size V4 V6 := by rw [hV6]; exact below_al6 (below_nx6 hd hb0)
  replace HT_t := hide (HT_t.out.kept hb)
  replace HT_a := hide (HT_a.out.kept hb)
  replace HBW := hide (HBW.out.trans (hb.mono HBW.out.size))
  have hV6' := hV6.symm
  clear cxt0 cxt1 hV6 hb hb0 hd ho1 ho2
  have hlt_b := HT_b.out.1.lt
  have hd : Below V6.heap.size V6 (V6.alloc (.cells #[.int .i64 0, .int .i64 0] 3)) := below_al6 (Below.refl _ _)
  have cxt0 := HT_t.out.c0
  have cxt1 := HT_t.out.c1
  go_wp2_with fail
  refine Calls.mono (mturn_own (some ⟨w.heap.size, 0, none⟩) (some ⟨w.heap.size + 1, 0, none⟩) (some ⟨V6.heap.size, 0, none⟩) 2 2 6 6 2 2 [2, 3] [1, 2, 3, 4, 5, 6] [0, 0] _ (HT_t.out.S.below hd) (HT_t.out.L.below hd) (lies_lit V6 .i64 [0, 0] 3) (by omega) (by omega)) ?_
  rw [show tuE [2, 3] 6 [0, 0] = 1 by decide +kernel, show tuS [2, 3] 6 [0, 0] = [] by decide +kernel, show tuL [2, 3] 6 [1, 2, 3, 4, 5, 6] [0, 0] = [] by decide +kernel]
  rintro e ua7 ⟨A1c, k1c, c1c, A2c, k2c, c2c, rfl, ho1, ho2, hk1c, hk2c, hb0⟩
  obtain ⟨V8, hV8⟩ : ∃ W, W = ua7.alloc (.cells #[.slice A1c k1c c1c, .slice A2c k2c c2c] 49) := ⟨_, rfl⟩
  have HT_c : Hid (TenAt V8 ua7.heap.size A1c A2c k1c c1c k2c c2c [] []) := hide (by rw [hV8]; exact TenAt.own9 ho1 ho2)
  have hb : Below V6.heap.size V6 V8 := by rw [hV8]; exact below_al6 (below_nx6 hd hb0)
  replace HT_t := hide (HT_t.out.kept hb)
  replace HT_a := hide (HT_a.out.kept hb)
  replace HT_b := hide (HT_b.out.kept hb)
  replace HBW := hide (HBW.out.trans (hb.mono HBW.out.size))
  have hV8' := hV8.symm
  clear cxt0 cxt1 hV8 hb hb0 hd ho1 ho2
  have hlt_c := HT_c.out.1.lt
  have hTS : TsAt (V8.alloc (.cells #[.slice (some ⟨w.heap.size, 0, none⟩) 2 2, .slice (some ⟨w.heap.size + 1, 0, none⟩) 6 6, .slice (some ⟨w.heap.size, 0, none⟩) 2 2, .slice (some ⟨w.heap.size + 1, 0, none⟩) 6 6] 49)) V8.heap.size 0 [⟨some ⟨w.heap.size, 0, none⟩, 2, 2, some ⟨w.heap.size + 1, 0, none⟩, 6, 6, [2, 3], [1, 2, 3, 4, 5, 6]⟩, ⟨some ⟨w.heap.size, 0, none⟩, 2, 2, some ⟨w.heap.size + 1, 0, none⟩, 6, 6, [2, 3], [1, 2, 3, 4, 5, 6]⟩] := by
    have hd : Below V8.heap.size V8 (V8.alloc (.cells #[.slice (some ⟨w.heap.size, 0, none⟩) 2 2, .slice (some ⟨w.heap.size + 1, 0, none⟩) 6 6, .slice (some ⟨w.heap.size, 0, none⟩) 2 2, .slice (some ⟨w.heap.size + 1, 0, none⟩) 6 6] 49)) := below_al6 (Below.refl _ _)
    have hr := heap_alloc_new V8 (.cells #[.slice (some ⟨w.heap.size, 0, none⟩) 2 2, .slice (some ⟨w.heap.size + 1, 0, none⟩) 6 6, .slice (some ⟨w.heap.size, 0, none⟩) 2 2, .slice (some ⟨w.heap.size + 1, 0, none⟩) 6 6] 49)
    have hk : Tn.Ok ⟨some ⟨w.heap.size, 0, none⟩, 2, 2, some ⟨w.heap.size + 1, 0, none⟩, 6, 6, [2, 3], [1, 2, 3, 4, 5, 6]⟩ (V8.alloc (.cells #[.slice (some ⟨w.heap.size, 0, none⟩) 2 2, .slice (some ⟨w.heap.size + 1, 0, none⟩) 6 6, .slice (some ⟨w.heap.size, 0, none⟩) 2 2, .slice (some ⟨w.heap.size + 1, 0, none⟩) 6 6] 49)) := ⟨HT_t.out.S.below hd, HT_t.out.L.below hd, Nat.le_refl _, Nat.le_refl _, (show (2 : Nat) ≤ 70368744177664 by omega), (show (6 : Nat) ≤ 70368744177664 by omega)⟩
    intro j t ht
    match j, ht with
    | 0, ht => cases ht; exact ⟨cell_of_row _ _ 0 _ _ (0, 0) hr, cell_of_row _ _ 1 _ _ (0, 0) hr, hk⟩
    | 1, ht => cases ht; exact ⟨cell_of_row _ _ 2 _ _ (0, 0) hr, cell_of_row _ _ 3 _ _ (0, 0) hr, hk⟩
    | j + 2, ht => simp at ht
  have hd : Below V8.heap.size V8 (V8.alloc (.cells #[.slice (some ⟨w.heap.size, 0, none⟩) 2 2, .slice (some ⟨w.heap.size + 1, 0, none⟩) 6 6, .slice (some ⟨w.heap.size, 0, none⟩) 2 2, .slice (some ⟨w.heap.size + 1, 0, none⟩) 6 6] 49)) := below_al6 (Below.refl _ _)
  have cxt0 := HT_t.out.c0
  have cxt1 := HT_t.out.c1
  go_wp2_with fail
  refine Calls.mono (mjoin_own (some ⟨V8.heap.size, 0, none⟩) 2 2 [⟨some ⟨w.heap.size, 0, none⟩, 2, 2, some ⟨w.heap.size + 1, 0, none⟩, 6, 6, [2, 3], [1, 2, 3, 4, 5, 6]⟩, ⟨some ⟨w.heap.size, 0, none⟩, 2, 2, some ⟨w.heap.size + 1, 0, none⟩, 6, 6, [2, 3], [1, 2, 3, 4, 5, 6]⟩] 1 _ rfl (fun _ => ⟨_, _, rfl, by simp, hTS⟩) (by omega)) ?_
  obtain ⟨hje, hjs, hjl⟩ := jn_alive (some ⟨w.heap.size, 0, none⟩) (some ⟨w.heap.size + 1, 0, none⟩)
  rw [hje, hjs, hjl]
  clear hje hjs hjl
  rintro e ua9 ⟨A1d, k1d, c1d, A2d, k2d, c2d, rfl, ho1, ho2, hk1d, hk2d, hb0⟩
  obtain ⟨V10, hV10⟩ : ∃ W, W = ua9.alloc (.cells #[.slice A1d k1d c1d, .slice A2d k2d c2d] 49) := ⟨_, rfl⟩
  have HT_d : Hid (TenAt V10 ua9.heap.size A1d A2d k1d c1d k2d c2d [2, 6] [1, 2, 3, 1, 2, 3, 4, 5, 6, 4, 5, 6]) := hide (by rw [hV10]; exact TenAt.own9 ho1 ho2)
  have hb : Below V8.heap.size V8 V10 := by rw [hV10]; exact below_al6 (below_nx6 hd hb0)
  replace HT_t := hide (HT_t.out.kept hb)
  replace HT_a := hide (HT_a.out.kept hb)
  replace HT_b := hide (HT_b.out.kept hb)
  replace HT_c := hide (HT_c.out.kept hb)
  replace HBW := hide (HBW.out.trans (hb.mono HBW.out.size))
  have hV10' := hV10.symm
  clear cxt0 cxt1 hV10 hb hb0 hd ho1 ho2
  have hlt_d := HT_d.out.1.lt
  clear hTS
  have hd : Below V10.heap.size V10 V10 := Below.refl _ _
  have cxt0 := HT_t.out.c0
  have cxt1 := HT_t.out.c1
  go_wp2_with fail
  refine Calls.mono (msum_own (some ⟨w.heap.size, 0, none⟩) (some ⟨w.heap.size + 1, 0, none⟩) 2 2 6 6 [2, 3] [1, 2, 3, 4, 5, 6] 0 _ (HT_t.out.S.below hd) (HT_t.out.L.below hd) (by omega) (by omega)) ?_
  rw [show smE [2, 3] 6 0 = 0 by decide +kernel, show smS [2, 3] 6 0 = [3] by decide +kernel, show smL [2, 3] 6 [1, 2, 3, 4, 5, 6] 0 = [5, 7, 9] by decide +kernel]
  rintro e ua11 ⟨A1x, k1x, c1x, A2x, k2x, c2x, rfl, ho1, ho2, hk1x, hk2x, hb0⟩
  obtain ⟨V12, hV12⟩ : ∃ W, W = ua11.alloc (.cells #[.slice A1x k1x c1x, .slice A2x k2x c2x] 49) := ⟨_, rfl⟩
  have HT_x : Hid (TenAt V12 ua11.heap.size A1x A2x k1x c1x k2x c2x [3] [5, 7, 9]) := hide (by rw [hV12]; exact TenAt.own9 ho1 ho2)
  have hb : Below V10.heap.size V10 V12 := by rw [hV12]; exact below_al6 (below_nx6 hd hb0)
  replace HT_t := hide (HT_t.out.kept hb)
  replace HT_a := hide (HT_a.out.kept hb)
  replace HT_b := hide (HT_b.out.kept hb)
  replace HT_c := hide (HT_c.out.kept hb)
  replace HT_d := hide (HT_d.out.kept hb)
  replace HBW := hide (HBW.out.trans (hb.mono HBW.out.size))
  have hV12' := hV12.symm
  clear cxt0 cxt1 hV12 hb hb0 hd ho1 ho2
  have hlt_x := HT_x.out.1.lt
  have hd : Below V12.heap.size V12 V12 := Below.refl _ _
  have cxt0 := HT_t.out.c0
  have cxt1 := HT_t.out.c1
  go_wp2_with fail
  refine Calls.mono (msum_own (some ⟨w.heap.size, 0, none⟩) (some ⟨w.heap.size + 1, 0, none⟩) 2 2 6 6 [2, 3] [1, 2, 3, 4, 5, 6] 1 _ (HT_t.out.S.below hd) (HT_t.out.L.below hd) (by omega) (by omega)) ?_
  rw [show smE [2, 3] 6 1 = 0 by decide +kernel, show smS [2, 3] 6 1 = [2] by decide +kernel, show smL [2, 3] 6 [1, 2, 3, 4, 5, 6] 1 = [6, 15] by decide +kernel]
  rintro e ua13 ⟨A1y, k1y, c1y, A2y, k2y, c2y, rfl, ho1, ho2, hk1y, hk2y, hb0⟩
  obtain ⟨V14, hV14⟩ : ∃ W, W = ua13.alloc (.cells #[.slice A1y k1y c1y, .slice A2y k2y c2y] 49) := ⟨_, rfl⟩
  have HT_y : Hid (TenAt V14 ua13.heap.size A1y A2y k1y c1y k2y c2y [2] [6, 15]) := hide (by rw [hV14]; exact TenAt.own9 ho1 ho2)
  have hb : Below V12.heap.size V12 V14 := by rw [hV14]; exact below_al6 (below_nx6 hd hb0)
  replace HT_t := hide (HT_t.out.kept hb)
  replace HT_a := hide (HT_a.out.kept hb)
  replace HT_b := hide (HT_b.out.kept hb)
  replace HT_c := hide (HT_c.out.kept hb)
  replace HT_d := hide (HT_d.out.kept hb)
  replace HT_x := hide (HT_x.out.kept hb)
  replace HBW := hide (HBW.out.trans (hb.mono HBW.out.size))
  have hV14' := hV14.symm
  clear cxt0 cxt1 hV14 hb hb0 hd ho1 ho2
  have hlt_y := HT_y.out.1.lt
  go_wp2_with fail
  refine Calls.mono (of9_any (some ⟨V14.heap.size, 0, none⟩) (some ⟨V14.heap.size + 1, 0, none⟩) 1 1 3 3 _) ?_
  rintro e ua15 ⟨rfl, hb0⟩
  have hl1 : Lies ua15 (some ⟨V14.heap.size, 0, none⟩) 1 (([3] : List Int).map (Value.int .i64)) := ((lies_lit V14 .i64 [3] 3).alloc _).below hb0
  have hl2 : Lies ua15 (some ⟨V14.heap.size + 1, 0, none⟩) 3 (([1, 2, 3] : List Int).map (Value.int .i32)) := by
    have h := lies_lit (V14.alloc (.cells ((([3] : List Int).map (Value.int .i64))).toArray 3)) .i32 [1, 2, 3] 21
    rw [World.size_alloc] at h
    exact h.below hb0
  have hb1 : Below V14.heap.size V14 ua15 := below_nx6 (below_al6 (below_al6 (Below.refl _ _))) hb0
  clear hb0
  go_wp2_with fail
  refine Calls.mono (msum_own (some ⟨V14.heap.size, 0, none⟩) (some ⟨V14.heap.size + 1, 0, none⟩) 1 1 3 3 [3] [1, 2, 3] 0 _ hl1 hl2 (by omega) (by omega)) ?_
  rw [show smE [3] 3 0 = 0 by decide +kernel, show smS [3] 3 0 = [1] by decide +kernel, show smL [3] 3 [1, 2, 3] 0 = [6] by decide +kernel]
  rintro e ua16 ⟨A1z, k1z, c1z, A2z, k2z, c2z, rfl, ho1, ho2, hk1z, hk2z, hb0⟩
  obtain ⟨V17, hV17⟩ : ∃ W, W = ua16.alloc (.cells #[.slice A1z k1z c1z, .slice A2z k2z c2z] 49) := ⟨_, rfl⟩
  have HT_z : Hid (TenAt V17 ua16.heap.size A1z A2z k1z c1z k2z c2z [1] [6]) := hide (by rw [hV17]; exact TenAt.own9 ho1 ho2)
  have hb : Below V14.heap.size V14 V17 := by rw [hV17]; exact below_al6 (below_nx6 hb1 hb0)
  replace HT_t := hide (HT_t.out.kept hb)
  replace HT_a := hide (HT_a.out.kept hb)
  replace HT_b := hide (HT_b.out.kept hb)
  replace HT_c := hide (HT_c.out.kept hb)
  replace HT_d := hide (HT_d.out.kept hb)
  replace HT_x := hide (HT_x.out.kept hb)
  replace HT_y := hide (HT_y.out.kept hb)
  replace HBW := hide (HBW.out.trans (hb.mono HBW.out.size))
  have hV17' := hV17.symm
  clear  hV17 hb hb0 hb1 hl1 hl2 ho1 ho2
  have hlt_z := HT_z.out.1.lt
  go_wp2
  have HC : Hid (∀ v, Below V17.heap.size V17 v → v.cell? ⟨ua3.heap.size, 0, none⟩ = some (.slice (A1a) k1a c1a) ∧ v.cell? ⟨ua3.heap.size, 1, none⟩ = some (.slice (A2a) k2a c2a) ∧ v.cell? ⟨ua5.heap.size, 0, none⟩ = some (.slice (A1b) k1b c1b) ∧ v.cell? ⟨ua5.heap.size, 1, none⟩ = some (.slice (A2b) k2b c2b) ∧ v.cell? ⟨ua9.heap.size, 0, none⟩ = some (.slice (A1d) k1d c1d) ∧ v.cell? ⟨ua9.heap.size, 1, none⟩ = some (.slice (A2d) k2d c2d) ∧ v.cell? ⟨ua11.heap.size, 0, none⟩ = some (.slice (A1x) k1x c1x) ∧ v.cell? ⟨ua11.heap.size, 1, none⟩ = some (.slice (A2x) k2x c2x) ∧ v.cell? ⟨ua13.heap.size, 0, none⟩ = some (.slice (A1y) k1y c1y) ∧ v.cell? ⟨ua13.heap.size, 1, none⟩ = some (.slice (A2y) k2y c2y) ∧ v.cell? ⟨ua16.heap.size, 0, none⟩ = some (.slice (A1z) k1z c1z) ∧ v.cell? ⟨ua16.heap.size, 1, none⟩ = some (.slice (A2z) k2z c2z)) := hide (fun v hv => ⟨(HT_a.out.kept hv).c0, (HT_a.out.kept hv).c1, (HT_b.out.kept hv).c0, (HT_b.out.kept hv).c1, (HT_d.out.kept hv).c0, (HT_d.out.kept hv).c1, (HT_x.out.kept hv).c0, (HT_x.out.kept hv).c1, (HT_y.out.kept hv).c0, (HT_y.out.kept hv).c1, (HT_z.out.kept hv).c0, (HT_z.out.kept hv).c1⟩)
  have hd0 : Below V17.heap.size V17 V17.drew := below_drewN (Below.refl _ _) 1
  have hS0 : Hid (V17.drew.cell? ⟨ua3.heap.size, 0, none⟩ = some (.slice (A1a) k1a c1a) ∧ V17.drew.cell? ⟨ua3.heap.size, 1, none⟩ = some (.slice (A2a) k2a c2a) ∧ V17.drew.cell? ⟨ua5.heap.size, 0, none⟩ = some (.slice (A1b) k1b c1b) ∧ V17.drew.cell? ⟨ua5.heap.size, 1, none⟩ = some (.slice (A2b) k2b c2b) ∧ V17.drew.cell? ⟨ua9.heap.size, 0, none⟩ = some (.slice (A1d) k1d c1d) ∧ V17.drew.cell? ⟨ua9.heap.size, 1, none⟩ = some (.slice (A2d) k2d c2d) ∧ V17.drew.cell? ⟨ua11.heap.size, 0, none⟩ = some (.slice (A1x) k1x c1x) ∧ V17.drew.cell? ⟨ua11.heap.size, 1, none⟩ = some (.slice (A2x) k2x c2x) ∧ V17.drew.cell? ⟨ua13.heap.size, 0, none⟩ = some (.slice (A1y) k1y c1y) ∧ V17.drew.cell? ⟨ua13.heap.size, 1, none⟩ = some (.slice (A2y) k2y c2y) ∧ V17.drew.cell? ⟨ua16.heap.size, 0, none⟩ = some (.slice (A1z) k1z c1z) ∧ V17.drew.cell? ⟨ua16.heap.size, 1, none⟩ = some (.slice (A2z) k2z c2z)) := hide (HC.out _ hd0)
  refine wp_region_U (fun _ v => v.cell? ⟨ua3.heap.size, 0, none⟩ = some (.slice (A1a) k1a c1a) ∧ v.cell? ⟨ua3.heap.size, 1, none⟩ = some (.slice (A2a) k2a c2a) ∧ v.cell? ⟨ua5.heap.size, 0, none⟩ = some (.slice (A1b) k1b c1b) ∧ v.cell? ⟨ua5.heap.size, 1, none⟩ = some (.slice (A2b) k2b c2b) ∧ v.cell? ⟨ua9.heap.size, 0, none⟩ = some (.slice (A1d) k1d c1d) ∧ v.cell? ⟨ua9.heap.size, 1, none⟩ = some (.slice (A2d) k2d c2d) ∧ v.cell? ⟨ua11.heap.size, 0, none⟩ = some (.slice (A1x) k1x c1x) ∧ v.cell? ⟨ua11.heap.size, 1, none⟩ = some (.slice (A2x) k2x c2x) ∧ v.cell? ⟨ua13.heap.size, 0, none⟩ = some (.slice (A1y) k1y c1y) ∧ v.cell? ⟨ua13.heap.size, 1, none⟩ = some (.slice (A2y) k2y c2y) ∧ v.cell? ⟨ua16.heap.size, 0, none⟩ = some (.slice (A1z) k1z c1z) ∧ v.cell? ⟨ua16.heap.size, 1, none⟩ = some (.slice (A2z) k2z c2z)) 99 (by kernel_rfl) ?_
  refine wpAnyU_take (i := 0) (oi := { dst := some 61, op := _, type := _, pos := _, after := _, guard := none }) (v := .agg #[.slice (A1a) k1a c1a, .slice (A2a) k2a c2a]) rfl (by kernel_rfl) (by kernel_rfl) (by kernel_rfl) (by kernel_rfl) (fun _ _ _ h => h) (yields_take rfl (fun w' hw => by obtain ⟨h1, h2, h3, h4, h5, h6, h7, h8, h9, h10, h11, h12⟩ := hw.const; go_simp)) hS0.out ?_
  simp only [Act.put, List.setIfInBounds_toArray, List.set_cons_zero, List.set_cons_succ]
  refine wpAnyU_take (i := 1) (oi := { dst := some 62, op := _, type := _, pos := _, after := _, guard := none }) (v := .int .i64 0) rfl (by kernel_rfl) (by kernel_rfl) (by kernel_rfl) (by kernel_rfl) (fun _ _ _ h => h) (yields_take rfl (fun w' hw => by obtain ⟨h1, h2, h3, h4, h5, h6, h7, h8, h9, h10, h11, h12⟩ := hw.const; go_simp)) hS0.out ?_
  simp only [Act.put, List.setIfInBounds_toArray, List.set_cons_zero, List.set_cons_succ]
  refine wpAnyU_two (i := 2) (j := 3) (oi := { dst := some 63, op := _, type := _, pos := _, after := _, guard := none }) (oj := { dst := some 64, op := _, type := _, pos := _, after := _, guard := none }) (TwoL V17 .i64 .i32 ([3, 2] : List Int) ([1, 2, 3, 4, 5, 6] : List Int)) (by kernel_rfl) (by kernel_rfl) (by kernel_rfl) rfl rfl rfl rfl (by decide) (by decide) (by kernel_rfl) (by kernel_rfl) (fun _ => by kernel_rfl) (fun _ => by kernel_rfl) ⟨.slice (some ⟨V17.drew.heap.size, 0, none⟩) 2 2, (V17.drew.alloc (.cells (([3, 2] : List Int).map (Value.int .i64)).toArray 3)), by go_simp, (by have hv := below_al6 (o := (.cells (([3, 2] : List Int).map (Value.int .i64)).toArray 3)) (hd0); exact HC.out _ hv), .slice (some ⟨V17.drew.heap.size + 1, 0, none⟩) 6 6, ((V17.drew.alloc (.cells (([3, 2] : List Int).map (Value.int .i64)).toArray 3)).alloc (.cells (([1, 2, 3, 4, 5, 6] : List Int).map (Value.int .i32)).toArray 21)), by go_simp, TwoL.fst _ _ (hd0)⟩ ⟨.slice (some ⟨V17.drew.heap.size, 0, none⟩) 6 6, (V17.drew.alloc (.cells (([1, 2, 3, 4, 5, 6] : List Int).map (Value.int .i32)).toArray 21)), by go_simp, (by have hv := below_al6 (o := (.cells (([1, 2, 3, 4, 5, 6] : List Int).map (Value.int .i32)).toArray 21)) (hd0); exact HC.out _ hv), .slice (some ⟨V17.drew.heap.size + 1, 0, none⟩) 2 2, ((V17.drew.alloc (.cells (([1, 2, 3, 4, 5, 6] : List Int).map (Value.int .i32)).toArray 21)).alloc (.cells (([3, 2] : List Int).map (Value.int .i64)).toArray 3)), by go_simp, TwoL.snd _ _ (hd0)⟩ (fun _ _ _ hr => by obtain ⟨_, _, _, _, _, _, hv⟩ := hr; exact HC.out _ hv) ?_
  rintro _ _ q0 ⟨gq0x, gq0y, rfl, rfl, hlq0x, hlq0y, hd1⟩
  simp only [List.length_cons, List.length_nil, Nat.reduceAdd] at hlq0x hlq0y ⊢
  simp only [Act.put, List.setIfInBounds_toArray, List.set_cons_zero, List.set_cons_succ]
  have hS1 : Hid (q0.cell? ⟨ua3.heap.size, 0, none⟩ = some (.slice (A1a) k1a c1a) ∧ q0.cell? ⟨ua3.heap.size, 1, none⟩ = some (.slice (A2a) k2a c2a) ∧ q0.cell? ⟨ua5.heap.size, 0, none⟩ = some (.slice (A1b) k1b c1b) ∧ q0.cell? ⟨ua5.heap.size, 1, none⟩ = some (.slice (A2b) k2b c2b) ∧ q0.cell? ⟨ua9.heap.size, 0, none⟩ = some (.slice (A1d) k1d c1d) ∧ q0.cell? ⟨ua9.heap.size, 1, none⟩ = some (.slice (A2d) k2d c2d) ∧ q0.cell? ⟨ua11.heap.size, 0, none⟩ = some (.slice (A1x) k1x c1x) ∧ q0.cell? ⟨ua11.heap.size, 1, none⟩ = some (.slice (A2x) k2x c2x) ∧ q0.cell? ⟨ua13.heap.size, 0, none⟩ = some (.slice (A1y) k1y c1y) ∧ q0.cell? ⟨ua13.heap.size, 1, none⟩ = some (.slice (A2y) k2y c2y) ∧ q0.cell? ⟨ua16.heap.size, 0, none⟩ = some (.slice (A1z) k1z c1z) ∧ q0.cell? ⟨ua16.heap.size, 1, none⟩ = some (.slice (A2z) k2z c2z)) := hide (by have hv := hd1; exact HC.out _ hv)
  clear hS0
  refine wpAnyU_one (i := 4) (by kernel_rfl) rfl ?_
  intro K hK
  go_simp
  refine Calls.mono (of9_any (some ⟨gq0x, 0, none⟩) (some ⟨gq0y, 0, none⟩) 2 2 6 6 _) ?_
  rintro e r0 ⟨rfl, hb⟩
  dsimp only
  have hd2 : Below V17.heap.size V17 r0 := below_nx6 hd1 hb
  replace hlq0x := hlq0x.below hb
  replace hlq0y := hlq0y.below hb
  clear hb
  have hS2 : Hid (r0.cell? ⟨ua3.heap.size, 0, none⟩ = some (.slice (A1a) k1a c1a) ∧ r0.cell? ⟨ua3.heap.size, 1, none⟩ = some (.slice (A2a) k2a c2a) ∧ r0.cell? ⟨ua5.heap.size, 0, none⟩ = some (.slice (A1b) k1b c1b) ∧ r0.cell? ⟨ua5.heap.size, 1, none⟩ = some (.slice (A2b) k2b c2b) ∧ r0.cell? ⟨ua9.heap.size, 0, none⟩ = some (.slice (A1d) k1d c1d) ∧ r0.cell? ⟨ua9.heap.size, 1, none⟩ = some (.slice (A2d) k2d c2d) ∧ r0.cell? ⟨ua11.heap.size, 0, none⟩ = some (.slice (A1x) k1x c1x) ∧ r0.cell? ⟨ua11.heap.size, 1, none⟩ = some (.slice (A2x) k2x c2x) ∧ r0.cell? ⟨ua13.heap.size, 0, none⟩ = some (.slice (A1y) k1y c1y) ∧ r0.cell? ⟨ua13.heap.size, 1, none⟩ = some (.slice (A2y) k2y c2y) ∧ r0.cell? ⟨ua16.heap.size, 0, none⟩ = some (.slice (A1z) k1z c1z) ∧ r0.cell? ⟨ua16.heap.size, 1, none⟩ = some (.slice (A2z) k2z c2z)) := hide (HC.out _ hd2)
  refine hK.out _ _ hS2.out (fun _ => ?_)
  clear hK K hS1
  refine wpAnyU_one (i := 5) (by kernel_rfl) rfl ?_
  intro K hK
  go_simp
  refine Calls.mono (is9_any (A1a) (A2a) (some ⟨gq0x, 0, none⟩) (some ⟨gq0y, 0, none⟩) k1a c1a k2a c2a 2 2 6 6 [3, 2] [1, 2, 3, 4, 5, 6] [3, 2] [1, 2, 3, 4, 5, 6] 0 _ (HT_a.out.S.below hd2) (HT_a.out.L.below hd2) hlq0x hlq0y (by omega) (by omega) rfl) ?_
  rintro e s0 ⟨rfl, hb⟩
  dsimp only
  have hd3 : Below V17.heap.size V17 s0 := below_nx6 hd2 hb
  clear hb hlq0x hlq0y
  have hS3 : Hid (s0.cell? ⟨ua3.heap.size, 0, none⟩ = some (.slice (A1a) k1a c1a) ∧ s0.cell? ⟨ua3.heap.size, 1, none⟩ = some (.slice (A2a) k2a c2a) ∧ s0.cell? ⟨ua5.heap.size, 0, none⟩ = some (.slice (A1b) k1b c1b) ∧ s0.cell? ⟨ua5.heap.size, 1, none⟩ = some (.slice (A2b) k2b c2b) ∧ s0.cell? ⟨ua9.heap.size, 0, none⟩ = some (.slice (A1d) k1d c1d) ∧ s0.cell? ⟨ua9.heap.size, 1, none⟩ = some (.slice (A2d) k2d c2d) ∧ s0.cell? ⟨ua11.heap.size, 0, none⟩ = some (.slice (A1x) k1x c1x) ∧ s0.cell? ⟨ua11.heap.size, 1, none⟩ = some (.slice (A2x) k2x c2x) ∧ s0.cell? ⟨ua13.heap.size, 0, none⟩ = some (.slice (A1y) k1y c1y) ∧ s0.cell? ⟨ua13.heap.size, 1, none⟩ = some (.slice (A2y) k2y c2y) ∧ s0.cell? ⟨ua16.heap.size, 0, none⟩ = some (.slice (A1z) k1z c1z) ∧ s0.cell? ⟨ua16.heap.size, 1, none⟩ = some (.slice (A2z) k2z c2z)) := hide (HC.out _ hd3)
  refine hK.out _ _ hS3.out (fun _ => ?_)
  clear hK K hS2
  refine wpAnyU_take (i := 6) (oi := { dst := some 67, op := _, type := _, pos := _, after := _, guard := none }) (v := .bool true) rfl (by kernel_rfl) (by kernel_rfl) (by kernel_rfl) (by kernel_rfl) (fun _ _ _ h => h) (yields_take rfl (fun w' hw => by obtain ⟨h1, h2, h3, h4, h5, h6, h7, h8, h9, h10, h11, h12⟩ := hw.const; go_simp)) hS3.out ?_
  simp only [Act.put, List.setIfInBounds_toArray, List.set_cons_zero, List.set_cons_succ]
  refine wpAnyU_take (i := 7) (oi := { dst := some 68, op := _, type := _, pos := _, after := _, guard := some (6, true) }) (v := .agg #[.slice (A1b) k1b c1b, .slice (A2b) k2b c2b]) rfl (by kernel_rfl) (by kernel_rfl) (by kernel_rfl) (by kernel_rfl) (fun _ _ _ h => h) (yields_take rfl (fun w' hw => by obtain ⟨h1, h2, h3, h4, h5, h6, h7, h8, h9, h10, h11, h12⟩ := hw.const; go_simp)) hS3.out ?_
  simp only [Act.put, List.setIfInBounds_toArray, List.set_cons_zero, List.set_cons_succ]
  refine wpAnyU_take (i := 8) (oi := { dst := some 69, op := _, type := _, pos := _, after := _, guard := some (6, true) }) (v := .int .i64 0) rfl (by kernel_rfl) (by kernel_rfl) (by kernel_rfl) (by kernel_rfl) (fun _ _ _ h => h) (yields_take rfl (fun w' hw => by obtain ⟨h1, h2, h3, h4, h5, h6, h7, h8, h9, h10, h11, h12⟩ := hw.const; go_simp)) hS3.out ?_
  simp only [Act.put, List.setIfInBounds_toArray, List.set_cons_zero, List.set_cons_succ]
  refine wpAnyU_two (i := 9) (j := 10) (oi := { dst := some 70, op := _, type := _, pos := _, after := _, guard := some (6, true) }) (oj := { dst := some 71, op := _, type := _, pos := _, after := _, guard := some (6, true) }) (TwoL V17 .i64 .i32 ([3, 2] : List Int) ([1, 4, 2, 5, 3, 6] : List Int)) (by kernel_rfl) (by kernel_rfl) (by kernel_rfl) rfl rfl rfl rfl (by decide) (by decide) (by kernel_rfl) (by kernel_rfl) (fun _ => by kernel_rfl) (fun _ => by kernel_rfl) ⟨.slice (some ⟨s0.heap.size, 0, none⟩) 2 2, (s0.alloc (.cells (([3, 2] : List Int).map (Value.int .i64)).toArray 3)), by go_simp, (by have hv := below_al6 (o := (.cells (([3, 2] : List Int).map (Value.int .i64)).toArray 3)) (hd3); exact HC.out _ hv), .slice (some ⟨s0.heap.size + 1, 0, none⟩) 6 6, ((s0.alloc (.cells (([3, 2] : List Int).map (Value.int .i64)).toArray 3)).alloc (.cells (([1, 4, 2, 5, 3, 6] : List Int).map (Value.int .i32)).toArray 21)), by go_simp, TwoL.fst _ _ (hd3)⟩ ⟨.slice (some ⟨s0.heap.size, 0, none⟩) 6 6, (s0.alloc (.cells (([1, 4, 2, 5, 3, 6] : List Int).map (Value.int .i32)).toArray 21)), by go_simp, (by have hv := below_al6 (o := (.cells (([1, 4, 2, 5, 3, 6] : List Int).map (Value.int .i32)).toArray 21)) (hd3); exact HC.out _ hv), .slice (some ⟨s0.heap.size + 1, 0, none⟩) 2 2, ((s0.alloc (.cells (([1, 4, 2, 5, 3, 6] : List Int).map (Value.int .i32)).toArray 21)).alloc (.cells (([3, 2] : List Int).map (Value.int .i64)).toArray 3)), by go_simp, TwoL.snd _ _ (hd3)⟩ (fun _ _ _ hr => by obtain ⟨_, _, _, _, _, _, hv⟩ := hr; exact HC.out _ hv) ?_
  rintro _ _ q3 ⟨gq3x, gq3y, rfl, rfl, hlq3x, hlq3y, hd4⟩
  simp only [List.length_cons, List.length_nil, Nat.reduceAdd] at hlq3x hlq3y ⊢
  simp only [Act.put, List.setIfInBounds_toArray, List.set_cons_zero, List.set_cons_succ]
  have hS4 : Hid (q3.cell? ⟨ua3.heap.size, 0, none⟩ = some (.slice (A1a) k1a c1a) ∧ q3.cell? ⟨ua3.heap.size, 1, none⟩ = some (.slice (A2a) k2a c2a) ∧ q3.cell? ⟨ua5.heap.size, 0, none⟩ = some (.slice (A1b) k1b c1b) ∧ q3.cell? ⟨ua5.heap.size, 1, none⟩ = some (.slice (A2b) k2b c2b) ∧ q3.cell? ⟨ua9.heap.size, 0, none⟩ = some (.slice (A1d) k1d c1d) ∧ q3.cell? ⟨ua9.heap.size, 1, none⟩ = some (.slice (A2d) k2d c2d) ∧ q3.cell? ⟨ua11.heap.size, 0, none⟩ = some (.slice (A1x) k1x c1x) ∧ q3.cell? ⟨ua11.heap.size, 1, none⟩ = some (.slice (A2x) k2x c2x) ∧ q3.cell? ⟨ua13.heap.size, 0, none⟩ = some (.slice (A1y) k1y c1y) ∧ q3.cell? ⟨ua13.heap.size, 1, none⟩ = some (.slice (A2y) k2y c2y) ∧ q3.cell? ⟨ua16.heap.size, 0, none⟩ = some (.slice (A1z) k1z c1z) ∧ q3.cell? ⟨ua16.heap.size, 1, none⟩ = some (.slice (A2z) k2z c2z)) := hide (by have hv := hd4; exact HC.out _ hv)
  clear hS3
  refine wpAnyU_one (i := 11) (by kernel_rfl) rfl ?_
  intro K hK
  go_simp
  refine Calls.mono (of9_any (some ⟨gq3x, 0, none⟩) (some ⟨gq3y, 0, none⟩) 2 2 6 6 _) ?_
  rintro e r3 ⟨rfl, hb⟩
  dsimp only
  have hd5 : Below V17.heap.size V17 r3 := below_nx6 hd4 hb
  replace hlq3x := hlq3x.below hb
  replace hlq3y := hlq3y.below hb
  clear hb
  have hS5 : Hid (r3.cell? ⟨ua3.heap.size, 0, none⟩ = some (.slice (A1a) k1a c1a) ∧ r3.cell? ⟨ua3.heap.size, 1, none⟩ = some (.slice (A2a) k2a c2a) ∧ r3.cell? ⟨ua5.heap.size, 0, none⟩ = some (.slice (A1b) k1b c1b) ∧ r3.cell? ⟨ua5.heap.size, 1, none⟩ = some (.slice (A2b) k2b c2b) ∧ r3.cell? ⟨ua9.heap.size, 0, none⟩ = some (.slice (A1d) k1d c1d) ∧ r3.cell? ⟨ua9.heap.size, 1, none⟩ = some (.slice (A2d) k2d c2d) ∧ r3.cell? ⟨ua11.heap.size, 0, none⟩ = some (.slice (A1x) k1x c1x) ∧ r3.cell? ⟨ua11.heap.size, 1, none⟩ = some (.slice (A2x) k2x c2x) ∧ r3.cell? ⟨ua13.heap.size, 0, none⟩ = some (.slice (A1y) k1y c1y) ∧ r3.cell? ⟨ua13.heap.size, 1, none⟩ = some (.slice (A2y) k2y c2y) ∧ r3.cell? ⟨ua16.heap.size, 0, none⟩ = some (.slice (A1z) k1z c1z) ∧ r3.cell? ⟨ua16.heap.size, 1, none⟩ = some (.slice (A2z) k2z c2z)) := hide (HC.out _ hd5)
  refine hK.out _ _ hS5.out (fun _ => ?_)
  clear hK K hS4
  refine wpAnyU_one (i := 12) (by kernel_rfl) rfl ?_
  intro K hK
  go_simp
  refine Calls.mono (is9_any (A1b) (A2b) (some ⟨gq3x, 0, none⟩) (some ⟨gq3y, 0, none⟩) k1b c1b k2b c2b 2 2 6 6 [3, 2] [1, 4, 2, 5, 3, 6] [3, 2] [1, 4, 2, 5, 3, 6] 0 _ (HT_b.out.S.below hd5) (HT_b.out.L.below hd5) hlq3x hlq3y (by omega) (by omega) rfl) ?_
  rintro e s3 ⟨rfl, hb⟩
  dsimp only
  have hd6 : Below V17.heap.size V17 s3 := below_nx6 hd5 hb
  clear hb hlq3x hlq3y
  have hS6 : Hid (s3.cell? ⟨ua3.heap.size, 0, none⟩ = some (.slice (A1a) k1a c1a) ∧ s3.cell? ⟨ua3.heap.size, 1, none⟩ = some (.slice (A2a) k2a c2a) ∧ s3.cell? ⟨ua5.heap.size, 0, none⟩ = some (.slice (A1b) k1b c1b) ∧ s3.cell? ⟨ua5.heap.size, 1, none⟩ = some (.slice (A2b) k2b c2b) ∧ s3.cell? ⟨ua9.heap.size, 0, none⟩ = some (.slice (A1d) k1d c1d) ∧ s3.cell? ⟨ua9.heap.size, 1, none⟩ = some (.slice (A2d) k2d c2d) ∧ s3.cell? ⟨ua11.heap.size, 0, none⟩ = some (.slice (A1x) k1x c1x) ∧ s3.cell? ⟨ua11.heap.size, 1, none⟩ = some (.slice (A2x) k2x c2x) ∧ s3.cell? ⟨ua13.heap.size, 0, none⟩ = some (.slice (A1y) k1y c1y) ∧ s3.cell? ⟨ua13.heap.size, 1, none⟩ = some (.slice (A2y) k2y c2y) ∧ s3.cell? ⟨ua16.heap.size, 0, none⟩ = some (.slice (A1z) k1z c1z) ∧ s3.cell? ⟨ua16.heap.size, 1, none⟩ = some (.slice (A2z) k2z c2z)) := hide (HC.out _ hd6)
  refine hK.out _ _ hS6.out (fun _ => ?_)
  clear hK K hS5
  refine wpAnyU_take (i := 13) (oi := { dst := some 74, op := _, type := _, pos := _, after := _, guard := none }) (v := .bool true) rfl (by kernel_rfl) (by kernel_rfl) (by kernel_rfl) (by kernel_rfl) (fun _ _ _ h => h) (yields_take rfl (fun w' hw => by obtain ⟨h1, h2, h3, h4, h5, h6, h7, h8, h9, h10, h11, h12⟩ := hw.const; go_simp)) hS6.out ?_
  simp only [Act.put, List.setIfInBounds_toArray, List.set_cons_zero, List.set_cons_succ]
  refine wpAnyU_take (i := 14) (oi := { dst := some 75, op := _, type := _, pos := _, after := _, guard := none }) (v := .bool true) rfl (by kernel_rfl) (by kernel_rfl) (by kernel_rfl) (by kernel_rfl) (fun _ _ _ h => h) (yields_take rfl (fun w' hw => by obtain ⟨h1, h2, h3, h4, h5, h6, h7, h8, h9, h10, h11, h12⟩ := hw.const; go_simp)) hS6.out ?_
  simp only [Act.put, List.setIfInBounds_toArray, List.set_cons_zero, List.set_cons_succ]
  refine wpAnyU_take (i := 15) (oi := { dst := some 76, op := _, type := _, pos := _, after := _, guard := some (14, true) }) (v := .int .i64 1) rfl (by kernel_rfl) (by kernel_rfl) (by kernel_rfl) (by kernel_rfl) (fun _ _ _ h => h) (yields_take rfl (fun w' hw => by obtain ⟨h1, h2, h3, h4, h5, h6, h7, h8, h9, h10, h11, h12⟩ := hw.const; go_simp)) hS6.out ?_
  simp only [Act.put, List.setIfInBounds_toArray, List.set_cons_zero, List.set_cons_succ]
  refine wpAnyU_take (i := 16) (oi := { dst := some 77, op := _, type := _, pos := _, after := _, guard := some (14, true) }) (v := .bool true) rfl (by kernel_rfl) (by kernel_rfl) (by kernel_rfl) (by kernel_rfl) (fun _ _ _ h => h) (yields_take rfl (fun w' hw => by obtain ⟨h1, h2, h3, h4, h5, h6, h7, h8, h9, h10, h11, h12⟩ := hw.const; go_simp)) hS6.out ?_
  simp only [Act.put, List.setIfInBounds_toArray, List.set_cons_zero, List.set_cons_succ]
  refine wpAnyU_take (i := 17) (oi := { dst := some 78, op := _, type := _, pos := _, after := _, guard := none }) (v := .bool true) rfl (by kernel_rfl) (by kernel_rfl) (by kernel_rfl) (by kernel_rfl) (fun _ _ _ h => h) (yields_take rfl (fun w' hw => by obtain ⟨h1, h2, h3, h4, h5, h6, h7, h8, h9, h10, h11, h12⟩ := hw.const; go_simp)) hS6.out ?_
  simp only [Act.put, List.setIfInBounds_toArray, List.set_cons_zero, List.set_cons_succ]
  refine wpAnyU_take (i := 18) (oi := { dst := some 79, op := _, type := _, pos := _, after := _, guard := none }) (v := .bool true) rfl (by kernel_rfl) (by kernel_rfl) (by kernel_rfl) (by kernel_rfl) (fun _ _ _ h => h) (yields_take rfl (fun w' hw => by obtain ⟨h1, h2, h3, h4, h5, h6, h7, h8, h9, h10, h11, h12⟩ := hw.const; go_simp)) hS6.out ?_
  simp only [Act.put, List.setIfInBounds_toArray, List.set_cons_zero, List.set_cons_succ]
  refine wpAnyU_take (i := 19) (oi := { dst := some 80, op := _, type := _, pos := _, after := _, guard := some (18, true) }) (v := .agg #[.slice (A1d) k1d c1d, .slice (A2d) k2d c2d]) rfl (by kernel_rfl) (by kernel_rfl) (by kernel_rfl) (by kernel_rfl) (fun _ _ _ h => h) (yields_take rfl (fun w' hw => by obtain ⟨h1, h2, h3, h4, h5, h6, h7, h8, h9, h10, h11, h12⟩ := hw.const; go_simp)) hS6.out ?_
  simp only [Act.put, List.setIfInBounds_toArray, List.set_cons_zero, List.set_cons_succ]
  refine wpAnyU_take (i := 20) (oi := { dst := some 81, op := _, type := _, pos := _, after := _, guard := some (18, true) }) (v := .int .i64 0) rfl (by kernel_rfl) (by kernel_rfl) (by kernel_rfl) (by kernel_rfl) (fun _ _ _ h => h) (yields_take rfl (fun w' hw => by obtain ⟨h1, h2, h3, h4, h5, h6, h7, h8, h9, h10, h11, h12⟩ := hw.const; go_simp)) hS6.out ?_
  simp only [Act.put, List.setIfInBounds_toArray, List.set_cons_zero, List.set_cons_succ]
  refine wpAnyU_two (i := 21) (j := 22) (oi := { dst := some 82, op := _, type := _, pos := _, after := _, guard := some (18, true) }) (oj := { dst := some 83, op := _, type := _, pos := _, after := _, guard := some (18, true) }) (TwoL V17 .i64 .i32 ([2, 6] : List Int) ([1, 2, 3, 1, 2, 3, 4, 5, 6, 4, 5, 6] : List Int)) (by kernel_rfl) (by kernel_rfl) (by kernel_rfl) rfl rfl rfl rfl (by decide) (by decide) (by kernel_rfl) (by kernel_rfl) (fun _ => by kernel_rfl) (fun _ => by kernel_rfl) ⟨.slice (some ⟨s3.heap.size, 0, none⟩) 2 2, (s3.alloc (.cells (([2, 6] : List Int).map (Value.int .i64)).toArray 3)), by go_simp, (by have hv := below_al6 (o := (.cells (([2, 6] : List Int).map (Value.int .i64)).toArray 3)) (hd6); exact HC.out _ hv), .slice (some ⟨s3.heap.size + 1, 0, none⟩) 12 12, ((s3.alloc (.cells (([2, 6] : List Int).map (Value.int .i64)).toArray 3)).alloc (.cells (([1, 2, 3, 1, 2, 3, 4, 5, 6, 4, 5, 6] : List Int).map (Value.int .i32)).toArray 21)), by go_simp, TwoL.fst _ _ (hd6)⟩ ⟨.slice (some ⟨s3.heap.size, 0, none⟩) 12 12, (s3.alloc (.cells (([1, 2, 3, 1, 2, 3, 4, 5, 6, 4, 5, 6] : List Int).map (Value.int .i32)).toArray 21)), by go_simp, (by have hv := below_al6 (o := (.cells (([1, 2, 3, 1, 2, 3, 4, 5, 6, 4, 5, 6] : List Int).map (Value.int .i32)).toArray 21)) (hd6); exact HC.out _ hv), .slice (some ⟨s3.heap.size + 1, 0, none⟩) 2 2, ((s3.alloc (.cells (([1, 2, 3, 1, 2, 3, 4, 5, 6, 4, 5, 6] : List Int).map (Value.int .i32)).toArray 21)).alloc (.cells (([2, 6] : List Int).map (Value.int .i64)).toArray 3)), by go_simp, TwoL.snd _ _ (hd6)⟩ (fun _ _ _ hr => by obtain ⟨_, _, _, _, _, _, hv⟩ := hr; exact HC.out _ hv) ?_
  rintro _ _ q6 ⟨gq6x, gq6y, rfl, rfl, hlq6x, hlq6y, hd7⟩
  simp only [List.length_cons, List.length_nil, Nat.reduceAdd] at hlq6x hlq6y ⊢
  simp only [Act.put, List.setIfInBounds_toArray, List.set_cons_zero, List.set_cons_succ]
  have hS7 : Hid (q6.cell? ⟨ua3.heap.size, 0, none⟩ = some (.slice (A1a) k1a c1a) ∧ q6.cell? ⟨ua3.heap.size, 1, none⟩ = some (.slice (A2a) k2a c2a) ∧ q6.cell? ⟨ua5.heap.size, 0, none⟩ = some (.slice (A1b) k1b c1b) ∧ q6.cell? ⟨ua5.heap.size, 1, none⟩ = some (.slice (A2b) k2b c2b) ∧ q6.cell? ⟨ua9.heap.size, 0, none⟩ = some (.slice (A1d) k1d c1d) ∧ q6.cell? ⟨ua9.heap.size, 1, none⟩ = some (.slice (A2d) k2d c2d) ∧ q6.cell? ⟨ua11.heap.size, 0, none⟩ = some (.slice (A1x) k1x c1x) ∧ q6.cell? ⟨ua11.heap.size, 1, none⟩ = some (.slice (A2x) k2x c2x) ∧ q6.cell? ⟨ua13.heap.size, 0, none⟩ = some (.slice (A1y) k1y c1y) ∧ q6.cell? ⟨ua13.heap.size, 1, none⟩ = some (.slice (A2y) k2y c2y) ∧ q6.cell? ⟨ua16.heap.size, 0, none⟩ = some (.slice (A1z) k1z c1z) ∧ q6.cell? ⟨ua16.heap.size, 1, none⟩ = some (.slice (A2z) k2z c2z)) := hide (by have hv := hd7; exact HC.out _ hv)
  clear hS6
  refine wpAnyU_one (i := 23) (by kernel_rfl) rfl ?_
  intro K hK
  go_simp
  refine Calls.mono (of9_any (some ⟨gq6x, 0, none⟩) (some ⟨gq6y, 0, none⟩) 2 2 12 12 _) ?_
  rintro e r6 ⟨rfl, hb⟩
  dsimp only
  have hd8 : Below V17.heap.size V17 r6 := below_nx6 hd7 hb
  replace hlq6x := hlq6x.below hb
  replace hlq6y := hlq6y.below hb
  clear hb
  have hS8 : Hid (r6.cell? ⟨ua3.heap.size, 0, none⟩ = some (.slice (A1a) k1a c1a) ∧ r6.cell? ⟨ua3.heap.size, 1, none⟩ = some (.slice (A2a) k2a c2a) ∧ r6.cell? ⟨ua5.heap.size, 0, none⟩ = some (.slice (A1b) k1b c1b) ∧ r6.cell? ⟨ua5.heap.size, 1, none⟩ = some (.slice (A2b) k2b c2b) ∧ r6.cell? ⟨ua9.heap.size, 0, none⟩ = some (.slice (A1d) k1d c1d) ∧ r6.cell? ⟨ua9.heap.size, 1, none⟩ = some (.slice (A2d) k2d c2d) ∧ r6.cell? ⟨ua11.heap.size, 0, none⟩ = some (.slice (A1x) k1x c1x) ∧ r6.cell? ⟨ua11.heap.size, 1, none⟩ = some (.slice (A2x) k2x c2x) ∧ r6.cell? ⟨ua13.heap.size, 0, none⟩ = some (.slice (A1y) k1y c1y) ∧ r6.cell? ⟨ua13.heap.size, 1, none⟩ = some (.slice (A2y) k2y c2y) ∧ r6.cell? ⟨ua16.heap.size, 0, none⟩ = some (.slice (A1z) k1z c1z) ∧ r6.cell? ⟨ua16.heap.size, 1, none⟩ = some (.slice (A2z) k2z c2z)) := hide (HC.out _ hd8)
  refine hK.out _ _ hS8.out (fun _ => ?_)
  clear hK K hS7
  refine wpAnyU_one (i := 24) (by kernel_rfl) rfl ?_
  intro K hK
  go_simp
  refine Calls.mono (is9_any (A1d) (A2d) (some ⟨gq6x, 0, none⟩) (some ⟨gq6y, 0, none⟩) k1d c1d k2d c2d 2 2 12 12 [2, 6] [1, 2, 3, 1, 2, 3, 4, 5, 6, 4, 5, 6] [2, 6] [1, 2, 3, 1, 2, 3, 4, 5, 6, 4, 5, 6] 0 _ (HT_d.out.S.below hd8) (HT_d.out.L.below hd8) hlq6x hlq6y (by omega) (by omega) rfl) ?_
  rintro e s6 ⟨rfl, hb⟩
  dsimp only
  have hd9 : Below V17.heap.size V17 s6 := below_nx6 hd8 hb
  clear hb hlq6x hlq6y
  have hS9 : Hid (s6.cell? ⟨ua3.heap.size, 0, none⟩ = some (.slice (A1a) k1a c1a) ∧ s6.cell? ⟨ua3.heap.size, 1, none⟩ = some (.slice (A2a) k2a c2a) ∧ s6.cell? ⟨ua5.heap.size, 0, none⟩ = some (.slice (A1b) k1b c1b) ∧ s6.cell? ⟨ua5.heap.size, 1, none⟩ = some (.slice (A2b) k2b c2b) ∧ s6.cell? ⟨ua9.heap.size, 0, none⟩ = some (.slice (A1d) k1d c1d) ∧ s6.cell? ⟨ua9.heap.size, 1, none⟩ = some (.slice (A2d) k2d c2d) ∧ s6.cell? ⟨ua11.heap.size, 0, none⟩ = some (.slice (A1x) k1x c1x) ∧ s6.cell? ⟨ua11.heap.size, 1, none⟩ = some (.slice (A2x) k2x c2x) ∧ s6.cell? ⟨ua13.heap.size, 0, none⟩ = some (.slice (A1y) k1y c1y) ∧ s6.cell? ⟨ua13.heap.size, 1, none⟩ = some (.slice (A2y) k2y c2y) ∧ s6.cell? ⟨ua16.heap.size, 0, none⟩ = some (.slice (A1z) k1z c1z) ∧ s6.cell? ⟨ua16.heap.size, 1, none⟩ = some (.slice (A2z) k2z c2z)) := hide (HC.out _ hd9)
  refine hK.out _ _ hS9.out (fun _ => ?_)
  clear hK K hS8
  refine wpAnyU_take (i := 25) (oi := { dst := some 86, op := _, type := _, pos := _, after := _, guard := none }) (v := .bool true) rfl (by kernel_rfl) (by kernel_rfl) (by kernel_rfl) (by kernel_rfl) (fun _ _ _ h => h) (yields_take rfl (fun w' hw => by obtain ⟨h1, h2, h3, h4, h5, h6, h7, h8, h9, h10, h11, h12⟩ := hw.const; go_simp)) hS9.out ?_
  simp only [Act.put, List.setIfInBounds_toArray, List.set_cons_zero, List.set_cons_succ]
  refine wpAnyU_take (i := 26) (oi := { dst := some 87, op := _, type := _, pos := _, after := _, guard := none }) (v := .bool true) rfl (by kernel_rfl) (by kernel_rfl) (by kernel_rfl) (by kernel_rfl) (fun _ _ _ h => h) (yields_take rfl (fun w' hw => by obtain ⟨h1, h2, h3, h4, h5, h6, h7, h8, h9, h10, h11, h12⟩ := hw.const; go_simp)) hS9.out ?_
  simp only [Act.put, List.setIfInBounds_toArray, List.set_cons_zero, List.set_cons_succ]
  refine wpAnyU_take (i := 27) (oi := { dst := some 88, op := _, type := _, pos := _, after := _, guard := some (26, true) }) (v := .agg #[.slice (A1x) k1x c1x, .slice (A2x) k2x c2x]) rfl (by kernel_rfl) (by kernel_rfl) (by kernel_rfl) (by kernel_rfl) (fun _ _ _ h => h) (yields_take rfl (fun w' hw => by obtain ⟨h1, h2, h3, h4, h5, h6, h7, h8, h9, h10, h11, h12⟩ := hw.const; go_simp)) hS9.out ?_
  simp only [Act.put, List.setIfInBounds_toArray, List.set_cons_zero, List.set_cons_succ]
  refine wpAnyU_take (i := 28) (oi := { dst := some 89, op := _, type := _, pos := _, after := _, guard := some (26, true) }) (v := .int .i64 0) rfl (by kernel_rfl) (by kernel_rfl) (by kernel_rfl) (by kernel_rfl) (fun _ _ _ h => h) (yields_take rfl (fun w' hw => by obtain ⟨h1, h2, h3, h4, h5, h6, h7, h8, h9, h10, h11, h12⟩ := hw.const; go_simp)) hS9.out ?_
  simp only [Act.put, List.setIfInBounds_toArray, List.set_cons_zero, List.set_cons_succ]
  refine wpAnyU_two (i := 29) (j := 30) (oi := { dst := some 90, op := _, type := _, pos := _, after := _, guard := some (26, true) }) (oj := { dst := some 91, op := _, type := _, pos := _, after := _, guard := some (26, true) }) (TwoL V17 .i64 .i32 ([3] : List Int) ([5, 7, 9] : List Int)) (by kernel_rfl) (by kernel_rfl) (by kernel_rfl) rfl rfl rfl rfl (by decide) (by decide) (by kernel_rfl) (by kernel_rfl) (fun _ => by kernel_rfl) (fun _ => by kernel_rfl) ⟨.slice (some ⟨s6.heap.size, 0, none⟩) 1 1, (s6.alloc (.cells (([3] : List Int).map (Value.int .i64)).toArray 3)), by go_simp, (by have hv := below_al6 (o := (.cells (([3] : List Int).map (Value.int .i64)).toArray 3)) (hd9); exact HC.out _ hv), .slice (some ⟨s6.heap.size + 1, 0, none⟩) 3 3, ((s6.alloc (.cells (([3] : List Int).map (Value.int .i64)).toArray 3)).alloc (.cells (([5, 7, 9] : List Int).map (Value.int .i32)).toArray 21)), by go_simp, TwoL.fst _ _ (hd9)⟩ ⟨.slice (some ⟨s6.heap.size, 0, none⟩) 3 3, (s6.alloc (.cells (([5, 7, 9] : List Int).map (Value.int .i32)).toArray 21)), by go_simp, (by have hv := below_al6 (o := (.cells (([5, 7, 9] : List Int).map (Value.int .i32)).toArray 21)) (hd9); exact HC.out _ hv), .slice (some ⟨s6.heap.size + 1, 0, none⟩) 1 1, ((s6.alloc (.cells (([5, 7, 9] : List Int).map (Value.int .i32)).toArray 21)).alloc (.cells (([3] : List Int).map (Value.int .i64)).toArray 3)), by go_simp, TwoL.snd _ _ (hd9)⟩ (fun _ _ _ hr => by obtain ⟨_, _, _, _, _, _, hv⟩ := hr; exact HC.out _ hv) ?_
  rintro _ _ q9 ⟨gq9x, gq9y, rfl, rfl, hlq9x, hlq9y, hd10⟩
  simp only [List.length_cons, List.length_nil, Nat.reduceAdd] at hlq9x hlq9y ⊢
  simp only [Act.put, List.setIfInBounds_toArray, List.set_cons_zero, List.set_cons_succ]
  have hS10 : Hid (q9.cell? ⟨ua3.heap.size, 0, none⟩ = some (.slice (A1a) k1a c1a) ∧ q9.cell? ⟨ua3.heap.size, 1, none⟩ = some (.slice (A2a) k2a c2a) ∧ q9.cell? ⟨ua5.heap.size, 0, none⟩ = some (.slice (A1b) k1b c1b) ∧ q9.cell? ⟨ua5.heap.size, 1, none⟩ = some (.slice (A2b) k2b c2b) ∧ q9.cell? ⟨ua9.heap.size, 0, none⟩ = some (.slice (A1d) k1d c1d) ∧ q9.cell? ⟨ua9.heap.size, 1, none⟩ = some (.slice (A2d) k2d c2d) ∧ q9.cell? ⟨ua11.heap.size, 0, none⟩ = some (.slice (A1x) k1x c1x) ∧ q9.cell? ⟨ua11.heap.size, 1, none⟩ = some (.slice (A2x) k2x c2x) ∧ q9.cell? ⟨ua13.heap.size, 0, none⟩ = some (.slice (A1y) k1y c1y) ∧ q9.cell? ⟨ua13.heap.size, 1, none⟩ = some (.slice (A2y) k2y c2y) ∧ q9.cell? ⟨ua16.heap.size, 0, none⟩ = some (.slice (A1z) k1z c1z) ∧ q9.cell? ⟨ua16.heap.size, 1, none⟩ = some (.slice (A2z) k2z c2z)) := hide (by have hv := hd10; exact HC.out _ hv)
  clear hS9
  refine wpAnyU_one (i := 31) (by kernel_rfl) rfl ?_
  intro K hK
  go_simp
  refine Calls.mono (of9_any (some ⟨gq9x, 0, none⟩) (some ⟨gq9y, 0, none⟩) 1 1 3 3 _) ?_
  rintro e r9 ⟨rfl, hb⟩
  dsimp only
  have hd11 : Below V17.heap.size V17 r9 := below_nx6 hd10 hb
  replace hlq9x := hlq9x.below hb
  replace hlq9y := hlq9y.below hb
  clear hb
  have hS11 : Hid (r9.cell? ⟨ua3.heap.size, 0, none⟩ = some (.slice (A1a) k1a c1a) ∧ r9.cell? ⟨ua3.heap.size, 1, none⟩ = some (.slice (A2a) k2a c2a) ∧ r9.cell? ⟨ua5.heap.size, 0, none⟩ = some (.slice (A1b) k1b c1b) ∧ r9.cell? ⟨ua5.heap.size, 1, none⟩ = some (.slice (A2b) k2b c2b) ∧ r9.cell? ⟨ua9.heap.size, 0, none⟩ = some (.slice (A1d) k1d c1d) ∧ r9.cell? ⟨ua9.heap.size, 1, none⟩ = some (.slice (A2d) k2d c2d) ∧ r9.cell? ⟨ua11.heap.size, 0, none⟩ = some (.slice (A1x) k1x c1x) ∧ r9.cell? ⟨ua11.heap.size, 1, none⟩ = some (.slice (A2x) k2x c2x) ∧ r9.cell? ⟨ua13.heap.size, 0, none⟩ = some (.slice (A1y) k1y c1y) ∧ r9.cell? ⟨ua13.heap.size, 1, none⟩ = some (.slice (A2y) k2y c2y) ∧ r9.cell? ⟨ua16.heap.size, 0, none⟩ = some (.slice (A1z) k1z c1z) ∧ r9.cell? ⟨ua16.heap.size, 1, none⟩ = some (.slice (A2z) k2z c2z)) := hide (HC.out _ hd11)
  refine hK.out _ _ hS11.out (fun _ => ?_)
  clear hK K hS10
  refine wpAnyU_one (i := 32) (by kernel_rfl) rfl ?_
  intro K hK
  go_simp
  refine Calls.mono (is9_any (A1x) (A2x) (some ⟨gq9x, 0, none⟩) (some ⟨gq9y, 0, none⟩) k1x c1x k2x c2x 1 1 3 3 [3] [5, 7, 9] [3] [5, 7, 9] 0 _ (HT_x.out.S.below hd11) (HT_x.out.L.below hd11) hlq9x hlq9y (by omega) (by omega) rfl) ?_
  rintro e s9 ⟨rfl, hb⟩
  dsimp only
  have hd12 : Below V17.heap.size V17 s9 := below_nx6 hd11 hb
  clear hb hlq9x hlq9y
  have hS12 : Hid (s9.cell? ⟨ua3.heap.size, 0, none⟩ = some (.slice (A1a) k1a c1a) ∧ s9.cell? ⟨ua3.heap.size, 1, none⟩ = some (.slice (A2a) k2a c2a) ∧ s9.cell? ⟨ua5.heap.size, 0, none⟩ = some (.slice (A1b) k1b c1b) ∧ s9.cell? ⟨ua5.heap.size, 1, none⟩ = some (.slice (A2b) k2b c2b) ∧ s9.cell? ⟨ua9.heap.size, 0, none⟩ = some (.slice (A1d) k1d c1d) ∧ s9.cell? ⟨ua9.heap.size, 1, none⟩ = some (.slice (A2d) k2d c2d) ∧ s9.cell? ⟨ua11.heap.size, 0, none⟩ = some (.slice (A1x) k1x c1x) ∧ s9.cell? ⟨ua11.heap.size, 1, none⟩ = some (.slice (A2x) k2x c2x) ∧ s9.cell? ⟨ua13.heap.size, 0, none⟩ = some (.slice (A1y) k1y c1y) ∧ s9.cell? ⟨ua13.heap.size, 1, none⟩ = some (.slice (A2y) k2y c2y) ∧ s9.cell? ⟨ua16.heap.size, 0, none⟩ = some (.slice (A1z) k1z c1z) ∧ s9.cell? ⟨ua16.heap.size, 1, none⟩ = some (.slice (A2z) k2z c2z)) := hide (HC.out _ hd12)
  refine hK.out _ _ hS12.out (fun _ => ?_)
  clear hK K hS11
  refine wpAnyU_take (i := 33) (oi := { dst := some 94, op := _, type := _, pos := _, after := _, guard := none }) (v := .bool true) rfl (by kernel_rfl) (by kernel_rfl) (by kernel_rfl) (by kernel_rfl) (fun _ _ _ h => h) (yields_take rfl (fun w' hw => by obtain ⟨h1, h2, h3, h4, h5, h6, h7, h8, h9, h10, h11, h12⟩ := hw.const; go_simp)) hS12.out ?_
  simp only [Act.put, List.setIfInBounds_toArray, List.set_cons_zero, List.set_cons_succ]
  refine wpAnyU_take (i := 34) (oi := { dst := some 95, op := _, type := _, pos := _, after := _, guard := none }) (v := .bool true) rfl (by kernel_rfl) (by kernel_rfl) (by kernel_rfl) (by kernel_rfl) (fun _ _ _ h => h) (yields_take rfl (fun w' hw => by obtain ⟨h1, h2, h3, h4, h5, h6, h7, h8, h9, h10, h11, h12⟩ := hw.const; go_simp)) hS12.out ?_
  simp only [Act.put, List.setIfInBounds_toArray, List.set_cons_zero, List.set_cons_succ]
  refine wpAnyU_take (i := 35) (oi := { dst := some 96, op := _, type := _, pos := _, after := _, guard := some (34, true) }) (v := .agg #[.slice (A1y) k1y c1y, .slice (A2y) k2y c2y]) rfl (by kernel_rfl) (by kernel_rfl) (by kernel_rfl) (by kernel_rfl) (fun _ _ _ h => h) (yields_take rfl (fun w' hw => by obtain ⟨h1, h2, h3, h4, h5, h6, h7, h8, h9, h10, h11, h12⟩ := hw.const; go_simp)) hS12.out ?_
  simp only [Act.put, List.setIfInBounds_toArray, List.set_cons_zero, List.set_cons_succ]
  refine wpAnyU_take (i := 36) (oi := { dst := some 97, op := _, type := _, pos := _, after := _, guard := some (34, true) }) (v := .int .i64 0) rfl (by kernel_rfl) (by kernel_rfl) (by kernel_rfl) (by kernel_rfl) (fun _ _ _ h => h) (yields_take rfl (fun w' hw => by obtain ⟨h1, h2, h3, h4, h5, h6, h7, h8, h9, h10, h11, h12⟩ := hw.const; go_simp)) hS12.out ?_
  simp only [Act.put, List.setIfInBounds_toArray, List.set_cons_zero, List.set_cons_succ]
  refine wpAnyU_two (i := 37) (j := 38) (oi := { dst := some 98, op := _, type := _, pos := _, after := _, guard := some (34, true) }) (oj := { dst := some 99, op := _, type := _, pos := _, after := _, guard := some (34, true) }) (TwoL V17 .i64 .i32 ([2] : List Int) ([6, 15] : List Int)) (by kernel_rfl) (by kernel_rfl) (by kernel_rfl) rfl rfl rfl rfl (by decide) (by decide) (by kernel_rfl) (by kernel_rfl) (fun _ => by kernel_rfl) (fun _ => by kernel_rfl) ⟨.slice (some ⟨s9.heap.size, 0, none⟩) 1 1, (s9.alloc (.cells (([2] : List Int).map (Value.int .i64)).toArray 3)), by go_simp, (by have hv := below_al6 (o := (.cells (([2] : List Int).map (Value.int .i64)).toArray 3)) (hd12); exact HC.out _ hv), .slice (some ⟨s9.heap.size + 1, 0, none⟩) 2 2, ((s9.alloc (.cells (([2] : List Int).map (Value.int .i64)).toArray 3)).alloc (.cells (([6, 15] : List Int).map (Value.int .i32)).toArray 21)), by go_simp, TwoL.fst _ _ (hd12)⟩ ⟨.slice (some ⟨s9.heap.size, 0, none⟩) 2 2, (s9.alloc (.cells (([6, 15] : List Int).map (Value.int .i32)).toArray 21)), by go_simp, (by have hv := below_al6 (o := (.cells (([6, 15] : List Int).map (Value.int .i32)).toArray 21)) (hd12); exact HC.out _ hv), .slice (some ⟨s9.heap.size + 1, 0, none⟩) 1 1, ((s9.alloc (.cells (([6, 15] : List Int).map (Value.int .i32)).toArray 21)).alloc (.cells (([2] : List Int).map (Value.int .i64)).toArray 3)), by go_simp, TwoL.snd _ _ (hd12)⟩ (fun _ _ _ hr => by obtain ⟨_, _, _, _, _, _, hv⟩ := hr; exact HC.out _ hv) ?_
  rintro _ _ q12 ⟨gq12x, gq12y, rfl, rfl, hlq12x, hlq12y, hd13⟩
  simp only [List.length_cons, List.length_nil, Nat.reduceAdd] at hlq12x hlq12y ⊢
  simp only [Act.put, List.setIfInBounds_toArray, List.set_cons_zero, List.set_cons_succ]
  have hS13 : Hid (q12.cell? ⟨ua3.heap.size, 0, none⟩ = some (.slice (A1a) k1a c1a) ∧ q12.cell? ⟨ua3.heap.size, 1, none⟩ = some (.slice (A2a) k2a c2a) ∧ q12.cell? ⟨ua5.heap.size, 0, none⟩ = some (.slice (A1b) k1b c1b) ∧ q12.cell? ⟨ua5.heap.size, 1, none⟩ = some (.slice (A2b) k2b c2b) ∧ q12.cell? ⟨ua9.heap.size, 0, none⟩ = some (.slice (A1d) k1d c1d) ∧ q12.cell? ⟨ua9.heap.size, 1, none⟩ = some (.slice (A2d) k2d c2d) ∧ q12.cell? ⟨ua11.heap.size, 0, none⟩ = some (.slice (A1x) k1x c1x) ∧ q12.cell? ⟨ua11.heap.size, 1, none⟩ = some (.slice (A2x) k2x c2x) ∧ q12.cell? ⟨ua13.heap.size, 0, none⟩ = some (.slice (A1y) k1y c1y) ∧ q12.cell? ⟨ua13.heap.size, 1, none⟩ = some (.slice (A2y) k2y c2y) ∧ q12.cell? ⟨ua16.heap.size, 0, none⟩ = some (.slice (A1z) k1z c1z) ∧ q12.cell? ⟨ua16.heap.size, 1, none⟩ = some (.slice (A2z) k2z c2z)) := hide (by have hv := hd13; exact HC.out _ hv)
  clear hS12
  refine wpAnyU_one (i := 39) (by kernel_rfl) rfl ?_
  intro K hK
  go_simp
  refine Calls.mono (of9_any (some ⟨gq12x, 0, none⟩) (some ⟨gq12y, 0, none⟩) 1 1 2 2 _) ?_
  rintro e r12 ⟨rfl, hb⟩
  dsimp only
  have hd14 : Below V17.heap.size V17 r12 := below_nx6 hd13 hb
  replace hlq12x := hlq12x.below hb
  replace hlq12y := hlq12y.below hb
  clear hb
  have hS14 : Hid (r12.cell? ⟨ua3.heap.size, 0, none⟩ = some (.slice (A1a) k1a c1a) ∧ r12.cell? ⟨ua3.heap.size, 1, none⟩ = some (.slice (A2a) k2a c2a) ∧ r12.cell? ⟨ua5.heap.size, 0, none⟩ = some (.slice (A1b) k1b c1b) ∧ r12.cell? ⟨ua5.heap.size, 1, none⟩ = some (.slice (A2b) k2b c2b) ∧ r12.cell? ⟨ua9.heap.size, 0, none⟩ = some (.slice (A1d) k1d c1d) ∧ r12.cell? ⟨ua9.heap.size, 1, none⟩ = some (.slice (A2d) k2d c2d) ∧ r12.cell? ⟨ua11.heap.size, 0, none⟩ = some (.slice (A1x) k1x c1x) ∧ r12.cell? ⟨ua11.heap.size, 1, none⟩ = some (.slice (A2x) k2x c2x) ∧ r12.cell? ⟨ua13.heap.size, 0, none⟩ = some (.slice (A1y) k1y c1y) ∧ r12.cell? ⟨ua13.heap.size, 1, none⟩ = some (.slice (A2y) k2y c2y) ∧ r12.cell? ⟨ua16.heap.size, 0, none⟩ = some (.slice (A1z) k1z c1z) ∧ r12.cell? ⟨ua16.heap.size, 1, none⟩ = some (.slice (A2z) k2z c2z)) := hide (HC.out _ hd14)
  refine hK.out _ _ hS14.out (fun _ => ?_)
  clear hK K hS13
  refine wpAnyU_one (i := 40) (by kernel_rfl) rfl ?_
  intro K hK
  go_simp
  refine Calls.mono (is9_any (A1y) (A2y) (some ⟨gq12x, 0, none⟩) (some ⟨gq12y, 0, none⟩) k1y c1y k2y c2y 1 1 2 2 [2] [6, 15] [2] [6, 15] 0 _ (HT_y.out.S.below hd14) (HT_y.out.L.below hd14) hlq12x hlq12y (by omega) (by omega) rfl) ?_
  rintro e s12 ⟨rfl, hb⟩
  dsimp only
  have hd15 : Below V17.heap.size V17 s12 := below_nx6 hd14 hb
  clear hb hlq12x hlq12y
  have hS15 : Hid (s12.cell? ⟨ua3.heap.size, 0, none⟩ = some (.slice (A1a) k1a c1a) ∧ s12.cell? ⟨ua3.heap.size, 1, none⟩ = some (.slice (A2a) k2a c2a) ∧ s12.cell? ⟨ua5.heap.size, 0, none⟩ = some (.slice (A1b) k1b c1b) ∧ s12.cell? ⟨ua5.heap.size, 1, none⟩ = some (.slice (A2b) k2b c2b) ∧ s12.cell? ⟨ua9.heap.size, 0, none⟩ = some (.slice (A1d) k1d c1d) ∧ s12.cell? ⟨ua9.heap.size, 1, none⟩ = some (.slice (A2d) k2d c2d) ∧ s12.cell? ⟨ua11.heap.size, 0, none⟩ = some (.slice (A1x) k1x c1x) ∧ s12.cell? ⟨ua11.heap.size, 1, none⟩ = some (.slice (A2x) k2x c2x) ∧ s12.cell? ⟨ua13.heap.size, 0, none⟩ = some (.slice (A1y) k1y c1y) ∧ s12.cell? ⟨ua13.heap.size, 1, none⟩ = some (.slice (A2y) k2y c2y) ∧ s12.cell? ⟨ua16.heap.size, 0, none⟩ = some (.slice (A1z) k1z c1z) ∧ s12.cell? ⟨ua16.heap.size, 1, none⟩ = some (.slice (A2z) k2z c2z)) := hide (HC.out _ hd15)
  refine hK.out _ _ hS15.out (fun _ => ?_)
  clear hK K hS14
  refine wpAnyU_take (i := 41) (oi := { dst := some 102, op := _, type := _, pos := _, after := _, guard := none }) (v := .bool true) rfl (by kernel_rfl) (by kernel_rfl) (by kernel_rfl) (by kernel_rfl) (fun _ _ _ h => h) (yields_take rfl (fun w' hw => by obtain ⟨h1, h2, h3, h4, h5, h6, h7, h8, h9, h10, h11, h12⟩ := hw.const; go_simp)) hS15.out ?_
  simp only [Act.put, List.setIfInBounds_toArray, List.set_cons_zero, List.set_cons_succ]
  refine wpAnyU_take (i := 42) (oi := { dst := some 103, op := _, type := _, pos := _, after := _, guard := none }) (v := .bool true) rfl (by kernel_rfl) (by kernel_rfl) (by kernel_rfl) (by kernel_rfl) (fun _ _ _ h => h) (yields_take rfl (fun w' hw => by obtain ⟨h1, h2, h3, h4, h5, h6, h7, h8, h9, h10, h11, h12⟩ := hw.const; go_simp)) hS15.out ?_
  simp only [Act.put, List.setIfInBounds_toArray, List.set_cons_zero, List.set_cons_succ]
  refine wpAnyU_take (i := 43) (oi := { dst := some 104, op := _, type := _, pos := _, after := _, guard := some (42, true) }) (v := .agg #[.slice (A1z) k1z c1z, .slice (A2z) k2z c2z]) rfl (by kernel_rfl) (by kernel_rfl) (by kernel_rfl) (by kernel_rfl) (fun _ _ _ h => h) (yields_take rfl (fun w' hw => by obtain ⟨h1, h2, h3, h4, h5, h6, h7, h8, h9, h10, h11, h12⟩ := hw.const; go_simp)) hS15.out ?_
  simp only [Act.put, List.setIfInBounds_toArray, List.set_cons_zero, List.set_cons_succ]
  refine wpAnyU_take (i := 44) (oi := { dst := some 105, op := _, type := _, pos := _, after := _, guard := some (42, true) }) (v := .int .i64 0) rfl (by kernel_rfl) (by kernel_rfl) (by kernel_rfl) (by kernel_rfl) (fun _ _ _ h => h) (yields_take rfl (fun w' hw => by obtain ⟨h1, h2, h3, h4, h5, h6, h7, h8, h9, h10, h11, h12⟩ := hw.const; go_simp)) hS15.out ?_
  simp only [Act.put, List.setIfInBounds_toArray, List.set_cons_zero, List.set_cons_succ]
  refine wpAnyU_two (i := 45) (j := 46) (oi := { dst := some 106, op := _, type := _, pos := _, after := _, guard := some (42, true) }) (oj := { dst := some 107, op := _, type := _, pos := _, after := _, guard := some (42, true) }) (TwoL V17 .i64 .i32 ([1] : List Int) ([6] : List Int)) (by kernel_rfl) (by kernel_rfl) (by kernel_rfl) rfl rfl rfl rfl (by decide) (by decide) (by kernel_rfl) (by kernel_rfl) (fun _ => by kernel_rfl) (fun _ => by kernel_rfl) ⟨.slice (some ⟨s12.heap.size, 0, none⟩) 1 1, (s12.alloc (.cells (([1] : List Int).map (Value.int .i64)).toArray 3)), by go_simp, (by have hv := below_al6 (o := (.cells (([1] : List Int).map (Value.int .i64)).toArray 3)) (hd15); exact HC.out _ hv), .slice (some ⟨s12.heap.size + 1, 0, none⟩) 1 1, ((s12.alloc (.cells (([1] : List Int).map (Value.int .i64)).toArray 3)).alloc (.cells (([6] : List Int).map (Value.int .i32)).toArray 21)), by go_simp, TwoL.fst _ _ (hd15)⟩ ⟨.slice (some ⟨s12.heap.size, 0, none⟩) 1 1, (s12.alloc (.cells (([6] : List Int).map (Value.int .i32)).toArray 21)), by go_simp, (by have hv := below_al6 (o := (.cells (([6] : List Int).map (Value.int .i32)).toArray 21)) (hd15); exact HC.out _ hv), .slice (some ⟨s12.heap.size + 1, 0, none⟩) 1 1, ((s12.alloc (.cells (([6] : List Int).map (Value.int .i32)).toArray 21)).alloc (.cells (([1] : List Int).map (Value.int .i64)).toArray 3)), by go_simp, TwoL.snd _ _ (hd15)⟩ (fun _ _ _ hr => by obtain ⟨_, _, _, _, _, _, hv⟩ := hr; exact HC.out _ hv) ?_
  rintro _ _ q15 ⟨gq15x, gq15y, rfl, rfl, hlq15x, hlq15y, hd16⟩
  simp only [List.length_cons, List.length_nil, Nat.reduceAdd] at hlq15x hlq15y ⊢
  simp only [Act.put, List.setIfInBounds_toArray, List.set_cons_zero, List.set_cons_succ]
  have hS16 : Hid (q15.cell? ⟨ua3.heap.size, 0, none⟩ = some (.slice (A1a) k1a c1a) ∧ q15.cell? ⟨ua3.heap.size, 1, none⟩ = some (.slice (A2a) k2a c2a) ∧ q15.cell? ⟨ua5.heap.size, 0, none⟩ = some (.slice (A1b) k1b c1b) ∧ q15.cell? ⟨ua5.heap.size, 1, none⟩ = some (.slice (A2b) k2b c2b) ∧ q15.cell? ⟨ua9.heap.size, 0, none⟩ = some (.slice (A1d) k1d c1d) ∧ q15.cell? ⟨ua9.heap.size, 1, none⟩ = some (.slice (A2d) k2d c2d) ∧ q15.cell? ⟨ua11.heap.size, 0, none⟩ = some (.slice (A1x) k1x c1x) ∧ q15.cell? ⟨ua11.heap.size, 1, none⟩ = some (.slice (A2x) k2x c2x) ∧ q15.cell? ⟨ua13.heap.size, 0, none⟩ = some (.slice (A1y) k1y c1y) ∧ q15.cell? ⟨ua13.heap.size, 1, none⟩ = some (.slice (A2y) k2y c2y) ∧ q15.cell? ⟨ua16.heap.size, 0, none⟩ = some (.slice (A1z) k1z c1z) ∧ q15.cell? ⟨ua16.heap.size, 1, none⟩ = some (.slice (A2z) k2z c2z)) := hide (by have hv := hd16; exact HC.out _ hv)
  clear hS15
  refine wpAnyU_one (i := 47) (by kernel_rfl) rfl ?_
  intro K hK
  go_simp
  refine Calls.mono (of9_any (some ⟨gq15x, 0, none⟩) (some ⟨gq15y, 0, none⟩) 1 1 1 1 _) ?_
  rintro e r15 ⟨rfl, hb⟩
  dsimp only
  have hd17 : Below V17.heap.size V17 r15 := below_nx6 hd16 hb
  replace hlq15x := hlq15x.below hb
  replace hlq15y := hlq15y.below hb
  clear hb
  have hS17 : Hid (r15.cell? ⟨ua3.heap.size, 0, none⟩ = some (.slice (A1a) k1a c1a) ∧ r15.cell? ⟨ua3.heap.size, 1, none⟩ = some (.slice (A2a) k2a c2a) ∧ r15.cell? ⟨ua5.heap.size, 0, none⟩ = some (.slice (A1b) k1b c1b) ∧ r15.cell? ⟨ua5.heap.size, 1, none⟩ = some (.slice (A2b) k2b c2b) ∧ r15.cell? ⟨ua9.heap.size, 0, none⟩ = some (.slice (A1d) k1d c1d) ∧ r15.cell? ⟨ua9.heap.size, 1, none⟩ = some (.slice (A2d) k2d c2d) ∧ r15.cell? ⟨ua11.heap.size, 0, none⟩ = some (.slice (A1x) k1x c1x) ∧ r15.cell? ⟨ua11.heap.size, 1, none⟩ = some (.slice (A2x) k2x c2x) ∧ r15.cell? ⟨ua13.heap.size, 0, none⟩ = some (.slice (A1y) k1y c1y) ∧ r15.cell? ⟨ua13.heap.size, 1, none⟩ = some (.slice (A2y) k2y c2y) ∧ r15.cell? ⟨ua16.heap.size, 0, none⟩ = some (.slice (A1z) k1z c1z) ∧ r15.cell? ⟨ua16.heap.size, 1, none⟩ = some (.slice (A2z) k2z c2z)) := hide (HC.out _ hd17)
  refine hK.out _ _ hS17.out (fun _ => ?_)
  clear hK K hS16
  refine wpAnyU_one (i := 48) (by kernel_rfl) rfl ?_
  intro K hK
  go_simp
  refine Calls.mono (is9_any (A1z) (A2z) (some ⟨gq15x, 0, none⟩) (some ⟨gq15y, 0, none⟩) k1z c1z k2z c2z 1 1 1 1 [1] [6] [1] [6] 0 _ (HT_z.out.S.below hd17) (HT_z.out.L.below hd17) hlq15x hlq15y (by omega) (by omega) rfl) ?_
  rintro e s15 ⟨rfl, hb⟩
  dsimp only
  have hd18 : Below V17.heap.size V17 s15 := below_nx6 hd17 hb
  clear hb hlq15x hlq15y
  have hS18 : Hid (s15.cell? ⟨ua3.heap.size, 0, none⟩ = some (.slice (A1a) k1a c1a) ∧ s15.cell? ⟨ua3.heap.size, 1, none⟩ = some (.slice (A2a) k2a c2a) ∧ s15.cell? ⟨ua5.heap.size, 0, none⟩ = some (.slice (A1b) k1b c1b) ∧ s15.cell? ⟨ua5.heap.size, 1, none⟩ = some (.slice (A2b) k2b c2b) ∧ s15.cell? ⟨ua9.heap.size, 0, none⟩ = some (.slice (A1d) k1d c1d) ∧ s15.cell? ⟨ua9.heap.size, 1, none⟩ = some (.slice (A2d) k2d c2d) ∧ s15.cell? ⟨ua11.heap.size, 0, none⟩ = some (.slice (A1x) k1x c1x) ∧ s15.cell? ⟨ua11.heap.size, 1, none⟩ = some (.slice (A2x) k2x c2x) ∧ s15.cell? ⟨ua13.heap.size, 0, none⟩ = some (.slice (A1y) k1y c1y) ∧ s15.cell? ⟨ua13.heap.size, 1, none⟩ = some (.slice (A2y) k2y c2y) ∧ s15.cell? ⟨ua16.heap.size, 0, none⟩ = some (.slice (A1z) k1z c1z) ∧ s15.cell? ⟨ua16.heap.size, 1, none⟩ = some (.slice (A2z) k2z c2z)) := hide (HC.out _ hd18)
  refine hK.out _ _ hS18.out (fun _ => ?_)
  clear hK K hS17
  refine wpAnyU_take (i := 49) (oi := { dst := some 110, op := _, type := _, pos := _, after := _, guard := none }) (v := .bool true) rfl (by kernel_rfl) (by kernel_rfl) (by kernel_rfl) (by kernel_rfl) (fun _ _ _ h => h) (yields_take rfl (fun w' hw => by obtain ⟨h1, h2, h3, h4, h5, h6, h7, h8, h9, h10, h11, h12⟩ := hw.const; go_simp)) hS18.out ?_
  simp only [Act.put, List.setIfInBounds_toArray, List.set_cons_zero, List.set_cons_succ]
  refine wpAnyU_take (i := 50) (oi := { dst := some 0, op := _, type := _, pos := _, after := _, guard := none }) (v := .bool true) rfl (by kernel_rfl) (by kernel_rfl) (by kernel_rfl) (by kernel_rfl) (fun _ _ _ h => h) (yields_take rfl (fun w' hw => by obtain ⟨h1, h2, h3, h4, h5, h6, h7, h8, h9, h10, h11, h12⟩ := hw.const; go_simp)) hS18.out ?_
  simp only [Act.put, List.setIfInBounds_toArray, List.set_cons_zero, List.set_cons_succ]
  refine wpAnyU_done (by kernel_rfl) ?_ _
  clear hS18
  have HBE := hide (HBW.out.trans (hd18.mono HBW.out.size))
  go_wp2
  go_ret
  exact ⟨rfl, HBE.out⟩

end Go.Proofs.Ytomhbhhfbbdilaa
