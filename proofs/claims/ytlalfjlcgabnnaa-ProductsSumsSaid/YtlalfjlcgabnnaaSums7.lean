/- ProductsSums: for every three lists and three directions the walk of its Go text ends in true. -/
import Derived.Test.YtlalfjlcgabnnaaMade7
import Derived.Test.YtlalfjlcgabnnaaMl6
namespace Go.Proofs.Ytlalfjlcgabnnaa
open Go.RowKit
set_option linter.unusedVariables false
set_option linter.unusedSimpArgs false
set_option maxRecDepth 100000

set_option maxHeartbeats 8000000 in
theorem sums7_any (A0 : Option Addr) (n0 c0 : Nat) (l0 : List Int) (A1 : Option Addr) (n1 c1 : Nat) (l1 : List Int) (A2 : Option Addr) (n2 c2 : Nat) (l2 : List Int) (d0 d1 d2 : Int) (w : World) (hA0 : Lies w A0 n0 (l0.map (Value.int .i32))) (hn0 : n0 ≤ 70368744177664) (hA1 : Lies w A1 n1 (l1.map (Value.int .i32))) (hn1 : n1 ≤ 70368744177664) (hA2 : Lies w A2 n2 (l2.map (Value.int .i32))) (hn2 : n2 ≤ 70368744177664) (hd0 : 0 ≤ d0 ∧ d0 < 256) (hd1 : 0 ≤ d1 ∧ d1 < 256) (hd2 : 0 ≤ d2 ∧ d2 < 256) :
    Calls Try.prog 4 #[.agg #[.slice A0 n0 c0, .slice A1 n1 c1, .slice A2 n2 c2], .agg #[.int .u8 d0, .int .u8 d1, .int .u8 d2]] w fun e w' => e = .returned (.bool true) ∧ Below w.heap.size w w' := by
  obtain ⟨W0, hW0⟩ : ∃ W0, W0 = (w.alloc (.cells #[.slice A0 n0 c0, .slice A1 n1 c1, .slice A2 n2 c2] 23)).alloc (.cells #[.int .u8 d0, .int .u8 d1, .int .u8 d2] 35) := ⟨_, rfl⟩
  have HBW : Hid (Below w.heap.size w W0) := hide (by rw [hW0]; exact ((Below.refl w.heap.size w).alloc (Nat.le_refl _) _).alloc (by simp only [World.size_alloc]; omega) _)
  have HR0 : Hid (W0.heap[w.heap.size]? = some (.cells #[.slice A0 n0 c0, .slice A1 n1 c1, .slice A2 n2 c2] 23 (0, 0))) := hide (by rw [hW0]; exact (Below.heap_alloc _ _ w.heap.size (by simp)).trans (heap_alloc_new w _))
  have HR1 : Hid (W0.heap[w.heap.size + 1]? = some (.cells #[.int .u8 d0, .int .u8 d1, .int .u8 d2] 35 (0, 0))) := hide (by rw [hW0]; have h := heap_alloc_new (w.alloc (.cells #[.slice A0 n0 c0, .slice A1 n1 c1, .slice A2 n2 c2] 23)) (.cells #[.int .u8 d0, .int .u8 d1, .int .u8 d2] 35); rwa [World.size_alloc] at h)
  have HC : Hid (∀ v, Below W0.heap.size W0 v → v.cell? ⟨w.heap.size, 0, none⟩ = some (.slice A0 n0 c0) ∧ v.cell? ⟨w.heap.size, 1, none⟩ = some (.slice A1 n1 c1) ∧ v.cell? ⟨w.heap.size, 2, none⟩ = some (.slice A2 n2 c2) ∧ v.cell? ⟨w.heap.size + 1, 0, none⟩ = some (.int .u8 d0) ∧ v.cell? ⟨w.heap.size + 1, 1, none⟩ = some (.int .u8 d1) ∧ v.cell? ⟨w.heap.size + 1, 2, none⟩ = some (.int .u8 d2)) := hide (fun v hv => ⟨cell_of_row _ _ 0 _ _ (0, 0) ((hv.block _ (lt_of_heap HR0.out)).trans HR0.out), cell_of_row _ _ 1 _ _ (0, 0) ((hv.block _ (lt_of_heap HR0.out)).trans HR0.out), cell_of_row _ _ 2 _ _ (0, 0) ((hv.block _ (lt_of_heap HR0.out)).trans HR0.out), cell_of_row _ _ 0 _ _ (0, 0) ((hv.block _ (lt_of_heap HR1.out)).trans HR1.out), cell_of_row _ _ 1 _ _ (0, 0) ((hv.block _ (lt_of_heap HR1.out)).trans HR1.out), cell_of_row _ _ 2 _ _ (0, 0) ((hv.block _ (lt_of_heap HR1.out)).trans HR1.out)⟩)
  have HA0 := hide (hA0.below HBW.out)
  have HA1 := hide (hA1.below HBW.out)
  have HA2 := hide (hA2.below HBW.out)
  obtain ⟨N0, hN0⟩ : ∃ N, N = dm7 d0 := ⟨_, rfl⟩
  have hb0 := dm7_le hd0
  rw [← hN0] at hb0
  have HN0 := hide hN0
  have HD0 := hide hd0
  clear hN0 hd0
  obtain ⟨N1, hN1⟩ : ∃ N, N = dm7 d1 := ⟨_, rfl⟩
  have hb1 := dm7_le hd1
  rw [← hN1] at hb1
  have HN1 := hide hN1
  have HD1 := hide hd1
  clear hN1 hd1
  obtain ⟨N2, hN2⟩ : ∃ N, N = dm7 d2 := ⟨_, rfl⟩
  have hb2 := dm7_le hd2
  rw [← hN2] at hb2
  have HN2 := hide hN2
  have HD2 := hide hd2
  clear hN2 hd2
  have hW0' := hW0.symm
  clear hW0 hA0 hA1 hA2
  have HBA := hide (Below.refl W0.heap.size W0)
  go_enter Try.func4, Try.ntmps4
  go_wp2_with fail
  refine Calls.mono (alive7_any _) ?_
  rintro e u1 ⟨rfl, hb⟩
  replace HBA := hide (below_nx6 HBA.out hb)
  replace HBW := hide (HBW.out.trans (hb.mono HBW.out.size))
  clear hb
  obtain ⟨xl0, xl1, xl2, xd0, xd1, xd2⟩ := HC.out _ HBA.out
  by_cases hfar : (1000 : Int) < (n0 : Int) + (n1 : Int) + (n2 : Int)
  · go_wp2_with fail
    refine Calls.mono (alive7_any _) ?_
    rintro e u2 ⟨rfl, hb⟩
    clear xl0 xl1 xl2 xd0 xd1 xd2
    replace HBA := hide (below_nx6 HBA.out hb)
    replace HBW := hide (HBW.out.trans (hb.mono HBW.out.size))
    clear hb
    go_wp2
    go_ret
    exact ⟨rfl, HBW.out⟩
  clear xl0 xl1 xl2 xd0 xd1 xd2
  have hnear : (n0 : Int) + (n1 : Int) + (n2 : Int) ≤ (1000 : Int) := by omega
  obtain ⟨xl0, xl1, xl2, xd0, xd1, xd2⟩ := HC.out _ HBA.out
  obtain ⟨La, hLa⟩ : ∃ La : List Int, La = madeL l0 (N0 * N1) := ⟨_, rfl⟩
  have HR_La := hide hLa
  clear hLa
  have HRW_La : Hid (∀ z ∈ La, -2147483648 ≤ z ∧ z < 2147483648) := hide (by rw [HR_La.out]; exact madeL_words _ _)
  have HRL_La : Hid (La.length = (N0 * N1)) := hide (by rw [HR_La.out]; exact madeL_len _ _)
  go_wp2_with fail
  refine Calls.mono (made7_any d0 d1 A0 n0 c0 l0 _ HD0.out HD1.out (HA0.out.below HBA.out) (by omega)) ?_
  rw [← HN0.out, ← HN1.out, ← HR_La.out]
  rintro e u3 ⟨g1a, c1a, g2a, rfl, ho1, ho2, _, hb0⟩
  obtain ⟨V4, hV4⟩ : ∃ W, W = u3.alloc (.cells #[.slice (some ⟨g1a, 0, none⟩) 2 c1a, .slice (some ⟨g2a, 0, none⟩) (N0 * N1) (N0 * N1)] 28) := ⟨_, rfl⟩
  have HT_a : Hid (TenAt V4 u3.heap.size (some ⟨g1a, 0, none⟩) (some ⟨g2a, 0, none⟩) 2 c1a (N0 * N1) (N0 * N1) [(N0 : Int), (N1 : Int)] La) := hide (by rw [hV4]; exact TenAt.made ho1 ho2)
  have hb : Below u1.heap.size u1 V4 := by rw [hV4]; exact below_al6 hb0
  replace HBA := hide (below_nx6 HBA.out hb)
  replace HBW := hide (HBW.out.trans (hb.mono HBW.out.size))
  have hV4' := hV4.symm
  clear hV4 hb hb0 ho1 ho2  xl0 xl1 xl2 xd0 xd1 xd2
  have hlt_a := HT_a.out.1.lt
  obtain ⟨xl0, xl1, xl2, xd0, xd1, xd2⟩ := HC.out _ HBA.out
  obtain ⟨Lb, hLb⟩ : ∃ Lb : List Int, Lb = madeL l1 (N0 * N1) := ⟨_, rfl⟩
  have HR_Lb := hide hLb
  clear hLb
  have HRW_Lb : Hid (∀ z ∈ Lb, -2147483648 ≤ z ∧ z < 2147483648) := hide (by rw [HR_Lb.out]; exact madeL_words _ _)
  have HRL_Lb : Hid (Lb.length = (N0 * N1)) := hide (by rw [HR_Lb.out]; exact madeL_len _ _)
  go_wp2_with fail
  refine Calls.mono (made7_any d0 d1 A1 n1 c1 l1 _ HD0.out HD1.out (HA1.out.below HBA.out) (by omega)) ?_
  rw [← HN0.out, ← HN1.out, ← HR_Lb.out]
  rintro e u5 ⟨g1b, c1b, g2b, rfl, ho1, ho2, _, hb0⟩
  obtain ⟨V6, hV6⟩ : ∃ W, W = u5.alloc (.cells #[.slice (some ⟨g1b, 0, none⟩) 2 c1b, .slice (some ⟨g2b, 0, none⟩) (N0 * N1) (N0 * N1)] 28) := ⟨_, rfl⟩
  have HT_b : Hid (TenAt V6 u5.heap.size (some ⟨g1b, 0, none⟩) (some ⟨g2b, 0, none⟩) 2 c1b (N0 * N1) (N0 * N1) [(N0 : Int), (N1 : Int)] Lb) := hide (by rw [hV6]; exact TenAt.made ho1 ho2)
  have hb : Below V4.heap.size V4 V6 := by rw [hV6]; exact below_al6 hb0
  replace HT_a := hide (HT_a.out.kept hb)
  replace HBA := hide (below_nx6 HBA.out hb)
  replace HBW := hide (HBW.out.trans (hb.mono HBW.out.size))
  have hV6' := hV6.symm
  clear hV6 hb hb0 ho1 ho2  xl0 xl1 xl2 xd0 xd1 xd2
  have hlt_b := HT_b.out.1.lt
  obtain ⟨xl0, xl1, xl2, xd0, xd1, xd2⟩ := HC.out _ HBA.out
  obtain ⟨Lc, hLc⟩ : ∃ Lc : List Int, Lc = madeL l2 (N1 * N2) := ⟨_, rfl⟩
  have HR_Lc := hide hLc
  clear hLc
  have HRW_Lc : Hid (∀ z ∈ Lc, -2147483648 ≤ z ∧ z < 2147483648) := hide (by rw [HR_Lc.out]; exact madeL_words _ _)
  have HRL_Lc : Hid (Lc.length = (N1 * N2)) := hide (by rw [HR_Lc.out]; exact madeL_len _ _)
  go_wp2_with fail
  refine Calls.mono (made7_any d1 d2 A2 n2 c2 l2 _ HD1.out HD2.out (HA2.out.below HBA.out) (by omega)) ?_
  rw [← HN1.out, ← HN2.out, ← HR_Lc.out]
  rintro e u7 ⟨g1c, c1c, g2c, rfl, ho1, ho2, _, hb0⟩
  obtain ⟨V8, hV8⟩ : ∃ W, W = u7.alloc (.cells #[.slice (some ⟨g1c, 0, none⟩) 2 c1c, .slice (some ⟨g2c, 0, none⟩) (N1 * N2) (N1 * N2)] 28) := ⟨_, rfl⟩
  have HT_c : Hid (TenAt V8 u7.heap.size (some ⟨g1c, 0, none⟩) (some ⟨g2c, 0, none⟩) 2 c1c (N1 * N2) (N1 * N2) [(N1 : Int), (N2 : Int)] Lc) := hide (by rw [hV8]; exact TenAt.made ho1 ho2)
  have hb : Below V6.heap.size V6 V8 := by rw [hV8]; exact below_al6 hb0
  replace HT_a := hide (HT_a.out.kept hb)
  replace HT_b := hide (HT_b.out.kept hb)
  replace HBA := hide (below_nx6 HBA.out hb)
  replace HBW := hide (HBW.out.trans (hb.mono HBW.out.size))
  have hV8' := hV8.symm
  clear hV8 hb hb0 ho1 ho2  xl0 xl1 xl2 xd0 xd1 xd2
  have hlt_c := HT_c.out.1.lt
  obtain ⟨Lsu, hLsu⟩ : ∃ Lsu : List Int, Lsu = List.zipWith add32 La Lb := ⟨_, rfl⟩
  have HR_Lsu := hide hLsu
  clear hLsu
  have cxa0 := HT_a.out.c0
  have cxa1 := HT_a.out.c1
  have cxb0 := HT_b.out.c0
  have cxb1 := HT_b.out.c1
  go_wp2_with fail
  refine Calls.mono (add_ok (some ⟨g1a, 0, none⟩) (some ⟨g2a, 0, none⟩) (some ⟨g1b, 0, none⟩) (some ⟨g2b, 0, none⟩) 2 c1a (N0 * N1) (N0 * N1) c1b (N0 * N1) [(N0 : Int), (N1 : Int)] La Lb _ HT_a.out.S HT_a.out.L HT_b.out.S HT_b.out.L (two_ten (by omega) (by omega))) ?_
  rw [← HR_Lsu.out]
  rintro e u9 ⟨g1su, c1su, g2su, rfl, ho1, ho2, _, hb0⟩
  obtain ⟨V10, hV10⟩ : ∃ W, W = u9.alloc (.cells #[.slice (some ⟨g1su, 0, none⟩) 2 c1su, .slice (some ⟨g2su, 0, none⟩) (N0 * N1) (N0 * N1)] 28) := ⟨_, rfl⟩
  have HT_su : Hid (TenAt V10 u9.heap.size (some ⟨g1su, 0, none⟩) (some ⟨g2su, 0, none⟩) 2 c1su (N0 * N1) (N0 * N1) [(N0 : Int), (N1 : Int)] Lsu) := hide (by rw [hV10]; exact TenAt.made ho1 ho2)
  have hb : Below V8.heap.size V8 V10 := by rw [hV10]; exact below_al6 hb0
  replace HT_a := hide (HT_a.out.kept hb)
  replace HT_b := hide (HT_b.out.kept hb)
  replace HT_c := hide (HT_c.out.kept hb)
  replace HBA := hide (below_nx6 HBA.out hb)
  replace HBW := hide (HBW.out.trans (hb.mono HBW.out.size))
  have hV10' := hV10.symm
  clear hV10 hb hb0 ho1 ho2 cxa0 cxa1 cxb0 cxb1 
  have hlt_su := HT_su.out.1.lt
  obtain ⟨Lac, hLac⟩ : ∃ Lac : List Int, Lac = prodL La Lc N0 N1 N2 := ⟨_, rfl⟩
  have HR_Lac := hide hLac
  clear hLac
  have cxa0 := HT_a.out.c0
  have cxa1 := HT_a.out.c1
  have cxc0 := HT_c.out.c0
  have cxc1 := HT_c.out.c1
  go_wp2_with fail
  refine Calls.mono (pof_ok (some ⟨g1a, 0, none⟩) (some ⟨g2a, 0, none⟩) (some ⟨g1c, 0, none⟩) (some ⟨g2c, 0, none⟩) c1a (N0 * N1) (N0 * N1) c1c (N1 * N2) (N1 * N2) N0 N1 N2 La Lc _ HT_a.out.S HT_a.out.L HT_c.out.S HT_c.out.L (two_ten (by omega) (by omega)) (two_ten (by omega) (by omega))) ?_
  rw [← HR_Lac.out]
  rintro e u11 ⟨g1ac, c1ac, g2ac, rfl, ho1, ho2, _, hb0⟩
  obtain ⟨V12, hV12⟩ : ∃ W, W = u11.alloc (.cells #[.slice (some ⟨g1ac, 0, none⟩) 2 c1ac, .slice (some ⟨g2ac, 0, none⟩) (N0 * N2) (N0 * N2)] 28) := ⟨_, rfl⟩
  have HT_ac : Hid (TenAt V12 u11.heap.size (some ⟨g1ac, 0, none⟩) (some ⟨g2ac, 0, none⟩) 2 c1ac (N0 * N2) (N0 * N2) [(N0 : Int), (N2 : Int)] Lac) := hide (by rw [hV12]; exact TenAt.made ho1 ho2)
  have hb : Below V10.heap.size V10 V12 := by rw [hV12]; exact below_al6 hb0
  replace HT_a := hide (HT_a.out.kept hb)
  replace HT_b := hide (HT_b.out.kept hb)
  replace HT_c := hide (HT_c.out.kept hb)
  replace HT_su := hide (HT_su.out.kept hb)
  replace HBA := hide (below_nx6 HBA.out hb)
  replace HBW := hide (HBW.out.trans (hb.mono HBW.out.size))
  have hV12' := hV12.symm
  clear hV12 hb hb0 ho1 ho2 cxa0 cxa1 cxc0 cxc1 
  have hlt_ac := HT_ac.out.1.lt
  obtain ⟨Lbc, hLbc⟩ : ∃ Lbc : List Int, Lbc = prodL Lb Lc N0 N1 N2 := ⟨_, rfl⟩
  have HR_Lbc := hide hLbc
  clear hLbc
  have cxb0 := HT_b.out.c0
  have cxb1 := HT_b.out.c1
  have cxc0 := HT_c.out.c0
  have cxc1 := HT_c.out.c1
  go_wp2_with fail
  refine Calls.mono (pof_ok (some ⟨g1b, 0, none⟩) (some ⟨g2b, 0, none⟩) (some ⟨g1c, 0, none⟩) (some ⟨g2c, 0, none⟩) c1b (N0 * N1) (N0 * N1) c1c (N1 * N2) (N1 * N2) N0 N1 N2 Lb Lc _ HT_b.out.S HT_b.out.L HT_c.out.S HT_c.out.L (two_ten (by omega) (by omega)) (two_ten (by omega) (by omega))) ?_
  rw [← HR_Lbc.out]
  rintro e u13 ⟨g1bc, c1bc, g2bc, rfl, ho1, ho2, _, hb0⟩
  obtain ⟨V14, hV14⟩ : ∃ W, W = u13.alloc (.cells #[.slice (some ⟨g1bc, 0, none⟩) 2 c1bc, .slice (some ⟨g2bc, 0, none⟩) (N0 * N2) (N0 * N2)] 28) := ⟨_, rfl⟩
  have HT_bc : Hid (TenAt V14 u13.heap.size (some ⟨g1bc, 0, none⟩) (some ⟨g2bc, 0, none⟩) 2 c1bc (N0 * N2) (N0 * N2) [(N0 : Int), (N2 : Int)] Lbc) := hide (by rw [hV14]; exact TenAt.made ho1 ho2)
  have hb : Below V12.heap.size V12 V14 := by rw [hV14]; exact below_al6 hb0
  replace HT_a := hide (HT_a.out.kept hb)
  replace HT_b := hide (HT_b.out.kept hb)
  replace HT_c := hide (HT_c.out.kept hb)
  replace HT_su := hide (HT_su.out.kept hb)
  replace HT_ac := hide (HT_ac.out.kept hb)
  replace HBA := hide (below_nx6 HBA.out hb)
  replace HBW := hide (HBW.out.trans (hb.mono HBW.out.size))
  have hV14' := hV14.symm
  clear hV14 hb hb0 ho1 ho2 cxb0 cxb1 cxc0 cxc1 
  have hlt_bc := HT_bc.out.1.lt
  obtain ⟨Lle, hLle⟩ : ∃ Lle : List Int, Lle = prodL Lsu Lc N0 N1 N2 := ⟨_, rfl⟩
  have HR_Lle := hide hLle
  clear hLle
  have cxsu0 := HT_su.out.c0
  have cxsu1 := HT_su.out.c1
  have cxc0 := HT_c.out.c0
  have cxc1 := HT_c.out.c1
  go_wp2_with fail
  refine Calls.mono (pof_ok (some ⟨g1su, 0, none⟩) (some ⟨g2su, 0, none⟩) (some ⟨g1c, 0, none⟩) (some ⟨g2c, 0, none⟩) c1su (N0 * N1) (N0 * N1) c1c (N1 * N2) (N1 * N2) N0 N1 N2 Lsu Lc _ HT_su.out.S HT_su.out.L HT_c.out.S HT_c.out.L (two_ten (by omega) (by omega)) (two_ten (by omega) (by omega))) ?_
  rw [← HR_Lle.out]
  rintro e u15 ⟨g1le, c1le, g2le, rfl, ho1, ho2, _, hb0⟩
  obtain ⟨V16, hV16⟩ : ∃ W, W = u15.alloc (.cells #[.slice (some ⟨g1le, 0, none⟩) 2 c1le, .slice (some ⟨g2le, 0, none⟩) (N0 * N2) (N0 * N2)] 28) := ⟨_, rfl⟩
  have HT_le : Hid (TenAt V16 u15.heap.size (some ⟨g1le, 0, none⟩) (some ⟨g2le, 0, none⟩) 2 c1le (N0 * N2) (N0 * N2) [(N0 : Int), (N2 : Int)] Lle) := hide (by rw [hV16]; exact TenAt.made ho1 ho2)
  have hb : Below V14.heap.size V14 V16 := by rw [hV16]; exact below_al6 hb0
  replace HT_a := hide (HT_a.out.kept hb)
  replace HT_b := hide (HT_b.out.kept hb)
  replace HT_c := hide (HT_c.out.kept hb)
  replace HT_su := hide (HT_su.out.kept hb)
  replace HT_ac := hide (HT_ac.out.kept hb)
  replace HT_bc := hide (HT_bc.out.kept hb)
  replace HBA := hide (below_nx6 HBA.out hb)
  replace HBW := hide (HBW.out.trans (hb.mono HBW.out.size))
  have hV16' := hV16.symm
  clear hV16 hb hb0 ho1 ho2 cxsu0 cxsu1 cxc0 cxc1 
  have hlt_le := HT_le.out.1.lt
  obtain ⟨Lri, hLri⟩ : ∃ Lri : List Int, Lri = List.zipWith add32 Lac Lbc := ⟨_, rfl⟩
  have HR_Lri := hide hLri
  clear hLri
  have cxac0 := HT_ac.out.c0
  have cxac1 := HT_ac.out.c1
  have cxbc0 := HT_bc.out.c0
  have cxbc1 := HT_bc.out.c1
  go_wp2_with fail
  refine Calls.mono (add_ok (some ⟨g1ac, 0, none⟩) (some ⟨g2ac, 0, none⟩) (some ⟨g1bc, 0, none⟩) (some ⟨g2bc, 0, none⟩) 2 c1ac (N0 * N2) (N0 * N2) c1bc (N0 * N2) [(N0 : Int), (N2 : Int)] Lac Lbc _ HT_ac.out.S HT_ac.out.L HT_bc.out.S HT_bc.out.L (two_ten (by omega) (by omega))) ?_
  rw [← HR_Lri.out]
  rintro e u17 ⟨g1ri, c1ri, g2ri, rfl, ho1, ho2, _, hb0⟩
  obtain ⟨V18, hV18⟩ : ∃ W, W = u17.alloc (.cells #[.slice (some ⟨g1ri, 0, none⟩) 2 c1ri, .slice (some ⟨g2ri, 0, none⟩) (N0 * N2) (N0 * N2)] 28) := ⟨_, rfl⟩
  have HT_ri : Hid (TenAt V18 u17.heap.size (some ⟨g1ri, 0, none⟩) (some ⟨g2ri, 0, none⟩) 2 c1ri (N0 * N2) (N0 * N2) [(N0 : Int), (N2 : Int)] Lri) := hide (by rw [hV18]; exact TenAt.made ho1 ho2)
  have hb : Below V16.heap.size V16 V18 := by rw [hV18]; exact below_al6 hb0
  replace HT_a := hide (HT_a.out.kept hb)
  replace HT_b := hide (HT_b.out.kept hb)
  replace HT_c := hide (HT_c.out.kept hb)
  replace HT_su := hide (HT_su.out.kept hb)
  replace HT_ac := hide (HT_ac.out.kept hb)
  replace HT_bc := hide (HT_bc.out.kept hb)
  replace HT_le := hide (HT_le.out.kept hb)
  replace HBA := hide (below_nx6 HBA.out hb)
  replace HBW := hide (HBW.out.trans (hb.mono HBW.out.size))
  have hV18' := hV18.symm
  clear hV18 hb hb0 ho1 ho2 cxac0 cxac1 cxbc0 cxbc1 
  have hlt_ri := HT_ri.out.1.lt
  obtain ⟨xl0, xl1, xl2, xd0, xd1, xd2⟩ := HC.out _ HBA.out
  obtain ⟨Lx, hLx⟩ : ∃ Lx : List Int, Lx = madeL l0 (N1 * N2) := ⟨_, rfl⟩
  have HR_Lx := hide hLx
  clear hLx
  have HRW_Lx : Hid (∀ z ∈ Lx, -2147483648 ≤ z ∧ z < 2147483648) := hide (by rw [HR_Lx.out]; exact madeL_words _ _)
  have HRL_Lx : Hid (Lx.length = (N1 * N2)) := hide (by rw [HR_Lx.out]; exact madeL_len _ _)
  go_wp2_with fail
  refine Calls.mono (made7_any d1 d2 A0 n0 c0 l0 _ HD1.out HD2.out (HA0.out.below HBA.out) (by omega)) ?_
  rw [← HN1.out, ← HN2.out, ← HR_Lx.out]
  rintro e u19 ⟨g1x, c1x, g2x, rfl, ho1, ho2, _, hb0⟩
  obtain ⟨V20, hV20⟩ : ∃ W, W = u19.alloc (.cells #[.slice (some ⟨g1x, 0, none⟩) 2 c1x, .slice (some ⟨g2x, 0, none⟩) (N1 * N2) (N1 * N2)] 28) := ⟨_, rfl⟩
  have HT_x : Hid (TenAt V20 u19.heap.size (some ⟨g1x, 0, none⟩) (some ⟨g2x, 0, none⟩) 2 c1x (N1 * N2) (N1 * N2) [(N1 : Int), (N2 : Int)] Lx) := hide (by rw [hV20]; exact TenAt.made ho1 ho2)
  have hb : Below V18.heap.size V18 V20 := by rw [hV20]; exact below_al6 hb0
  replace HT_a := hide (HT_a.out.kept hb)
  replace HT_b := hide (HT_b.out.kept hb)
  replace HT_c := hide (HT_c.out.kept hb)
  replace HT_su := hide (HT_su.out.kept hb)
  replace HT_ac := hide (HT_ac.out.kept hb)
  replace HT_bc := hide (HT_bc.out.kept hb)
  replace HT_le := hide (HT_le.out.kept hb)
  replace HT_ri := hide (HT_ri.out.kept hb)
  replace HBA := hide (below_nx6 HBA.out hb)
  replace HBW := hide (HBW.out.trans (hb.mono HBW.out.size))
  have hV20' := hV20.symm
  clear hV20 hb hb0 ho1 ho2  xl0 xl1 xl2 xd0 xd1 xd2
  have hlt_x := HT_x.out.1.lt
  obtain ⟨Lcx, hLcx⟩ : ∃ Lcx : List Int, Lcx = List.zipWith add32 Lc Lx := ⟨_, rfl⟩
  have HR_Lcx := hide hLcx
  clear hLcx
  have cxc0 := HT_c.out.c0
  have cxc1 := HT_c.out.c1
  have cxx0 := HT_x.out.c0
  have cxx1 := HT_x.out.c1
  go_wp2_with fail
  refine Calls.mono (add_ok (some ⟨g1c, 0, none⟩) (some ⟨g2c, 0, none⟩) (some ⟨g1x, 0, none⟩) (some ⟨g2x, 0, none⟩) 2 c1c (N1 * N2) (N1 * N2) c1x (N1 * N2) [(N1 : Int), (N2 : Int)] Lc Lx _ HT_c.out.S HT_c.out.L HT_x.out.S HT_x.out.L (two_ten (by omega) (by omega))) ?_
  rw [← HR_Lcx.out]
  rintro e u21 ⟨g1cx, c1cx, g2cx, rfl, ho1, ho2, _, hb0⟩
  obtain ⟨V22, hV22⟩ : ∃ W, W = u21.alloc (.cells #[.slice (some ⟨g1cx, 0, none⟩) 2 c1cx, .slice (some ⟨g2cx, 0, none⟩) (N1 * N2) (N1 * N2)] 28) := ⟨_, rfl⟩
  have HT_cx : Hid (TenAt V22 u21.heap.size (some ⟨g1cx, 0, none⟩) (some ⟨g2cx, 0, none⟩) 2 c1cx (N1 * N2) (N1 * N2) [(N1 : Int), (N2 : Int)] Lcx) := hide (by rw [hV22]; exact TenAt.made ho1 ho2)
  have hb : Below V20.heap.size V20 V22 := by rw [hV22]; exact below_al6 hb0
  replace HT_a := hide (HT_a.out.kept hb)
  replace HT_b := hide (HT_b.out.kept hb)
  replace HT_c := hide (HT_c.out.kept hb)
  replace HT_su := hide (HT_su.out.kept hb)
  replace HT_ac := hide (HT_ac.out.kept hb)
  replace HT_bc := hide (HT_bc.out.kept hb)
  replace HT_le := hide (HT_le.out.kept hb)
  replace HT_ri := hide (HT_ri.out.kept hb)
  replace HT_x := hide (HT_x.out.kept hb)
  replace HBA := hide (below_nx6 HBA.out hb)
  replace HBW := hide (HBW.out.trans (hb.mono HBW.out.size))
  have hV22' := hV22.symm
  clear hV22 hb hb0 ho1 ho2 cxc0 cxc1 cxx0 cxx1 
  have hlt_cx := HT_cx.out.1.lt
  obtain ⟨Lax, hLax⟩ : ∃ Lax : List Int, Lax = prodL La Lx N0 N1 N2 := ⟨_, rfl⟩
  have HR_Lax := hide hLax
  clear hLax
  have cxa0 := HT_a.out.c0
  have cxa1 := HT_a.out.c1
  have cxx0 := HT_x.out.c0
  have cxx1 := HT_x.out.c1
  go_wp2_with fail
  refine Calls.mono (pof_ok (some ⟨g1a, 0, none⟩) (some ⟨g2a, 0, none⟩) (some ⟨g1x, 0, none⟩) (some ⟨g2x, 0, none⟩) c1a (N0 * N1) (N0 * N1) c1x (N1 * N2) (N1 * N2) N0 N1 N2 La Lx _ HT_a.out.S HT_a.out.L HT_x.out.S HT_x.out.L (two_ten (by omega) (by omega)) (two_ten (by omega) (by omega))) ?_
  rw [← HR_Lax.out]
  rintro e u23 ⟨g1ax, c1ax, g2ax, rfl, ho1, ho2, _, hb0⟩
  obtain ⟨V24, hV24⟩ : ∃ W, W = u23.alloc (.cells #[.slice (some ⟨g1ax, 0, none⟩) 2 c1ax, .slice (some ⟨g2ax, 0, none⟩) (N0 * N2) (N0 * N2)] 28) := ⟨_, rfl⟩
  have HT_ax : Hid (TenAt V24 u23.heap.size (some ⟨g1ax, 0, none⟩) (some ⟨g2ax, 0, none⟩) 2 c1ax (N0 * N2) (N0 * N2) [(N0 : Int), (N2 : Int)] Lax) := hide (by rw [hV24]; exact TenAt.made ho1 ho2)
  have hb : Below V22.heap.size V22 V24 := by rw [hV24]; exact below_al6 hb0
  replace HT_a := hide (HT_a.out.kept hb)
  replace HT_b := hide (HT_b.out.kept hb)
  replace HT_c := hide (HT_c.out.kept hb)
  replace HT_su := hide (HT_su.out.kept hb)
  replace HT_ac := hide (HT_ac.out.kept hb)
  replace HT_bc := hide (HT_bc.out.kept hb)
  replace HT_le := hide (HT_le.out.kept hb)
  replace HT_ri := hide (HT_ri.out.kept hb)
  replace HT_x := hide (HT_x.out.kept hb)
  replace HT_cx := hide (HT_cx.out.kept hb)
  replace HBA := hide (below_nx6 HBA.out hb)
  replace HBW := hide (HBW.out.trans (hb.mono HBW.out.size))
  have hV24' := hV24.symm
  clear hV24 hb hb0 ho1 ho2 cxa0 cxa1 cxx0 cxx1 
  have hlt_ax := HT_ax.out.1.lt
  obtain ⟨Ly, hLy⟩ : ∃ Ly : List Int, Ly = prodL La Lcx N0 N1 N2 := ⟨_, rfl⟩
  have HR_Ly := hide hLy
  clear hLy
  have cxa0 := HT_a.out.c0
  have cxa1 := HT_a.out.c1
  have cxcx0 := HT_cx.out.c0
  have cxcx1 := HT_cx.out.c1
  go_wp2_with fail
  refine Calls.mono (pof_ok (some ⟨g1a, 0, none⟩) (some ⟨g2a, 0, none⟩) (some ⟨g1cx, 0, none⟩) (some ⟨g2cx, 0, none⟩) c1a (N0 * N1) (N0 * N1) c1cx (N1 * N2) (N1 * N2) N0 N1 N2 La Lcx _ HT_a.out.S HT_a.out.L HT_cx.out.S HT_cx.out.L (two_ten (by omega) (by omega)) (two_ten (by omega) (by omega))) ?_
  rw [← HR_Ly.out]
  rintro e u25 ⟨g1y, c1y, g2y, rfl, ho1, ho2, _, hb0⟩
  obtain ⟨V26, hV26⟩ : ∃ W, W = u25.alloc (.cells #[.slice (some ⟨g1y, 0, none⟩) 2 c1y, .slice (some ⟨g2y, 0, none⟩) (N0 * N2) (N0 * N2)] 28) := ⟨_, rfl⟩
  have HT_y : Hid (TenAt V26 u25.heap.size (some ⟨g1y, 0, none⟩) (some ⟨g2y, 0, none⟩) 2 c1y (N0 * N2) (N0 * N2) [(N0 : Int), (N2 : Int)] Ly) := hide (by rw [hV26]; exact TenAt.made ho1 ho2)
  have hb : Below V24.heap.size V24 V26 := by rw [hV26]; exact below_al6 hb0
  replace HT_a := hide (HT_a.out.kept hb)
  replace HT_b := hide (HT_b.out.kept hb)
  replace HT_c := hide (HT_c.out.kept hb)
  replace HT_su := hide (HT_su.out.kept hb)
  replace HT_ac := hide (HT_ac.out.kept hb)
  replace HT_bc := hide (HT_bc.out.kept hb)
  replace HT_le := hide (HT_le.out.kept hb)
  replace HT_ri := hide (HT_ri.out.kept hb)
  replace HT_x := hide (HT_x.out.kept hb)
  replace HT_cx := hide (HT_cx.out.kept hb)
  replace HT_ax := hide (HT_ax.out.kept hb)
  replace HBA := hide (below_nx6 HBA.out hb)
  replace HBW := hide (HBW.out.trans (hb.mono HBW.out.size))
  have hV26' := hV26.symm
  clear hV26 hb hb0 ho1 ho2 cxa0 cxa1 cxcx0 cxcx1 
  have hlt_y := HT_y.out.1.lt
  obtain ⟨Lz, hLz⟩ : ∃ Lz : List Int, Lz = List.zipWith add32 Lac Lax := ⟨_, rfl⟩
  have HR_Lz := hide hLz
  clear hLz
  have cxac0 := HT_ac.out.c0
  have cxac1 := HT_ac.out.c1
  have cxax0 := HT_ax.out.c0
  have cxax1 := HT_ax.out.c1
  go_wp2_with fail
  refine Calls.mono (add_ok (some ⟨g1ac, 0, none⟩) (some ⟨g2ac, 0, none⟩) (some ⟨g1ax, 0, none⟩) (some ⟨g2ax, 0, none⟩) 2 c1ac (N0 * N2) (N0 * N2) c1ax (N0 * N2) [(N0 : Int), (N2 : Int)] Lac Lax _ HT_ac.out.S HT_ac.out.L HT_ax.out.S HT_ax.out.L (two_ten (by omega) (by omega))) ?_
  rw [← HR_Lz.out]
  rintro e u27 ⟨g1z, c1z, g2z, rfl, ho1, ho2, _, hb0⟩
  obtain ⟨V28, hV28⟩ : ∃ W, W = u27.alloc (.cells #[.slice (some ⟨g1z, 0, none⟩) 2 c1z, .slice (some ⟨g2z, 0, none⟩) (N0 * N2) (N0 * N2)] 28) := ⟨_, rfl⟩
  have HT_z : Hid (TenAt V28 u27.heap.size (some ⟨g1z, 0, none⟩) (some ⟨g2z, 0, none⟩) 2 c1z (N0 * N2) (N0 * N2) [(N0 : Int), (N2 : Int)] Lz) := hide (by rw [hV28]; exact TenAt.made ho1 ho2)
  have hb : Below V26.heap.size V26 V28 := by rw [hV28]; exact below_al6 hb0
  replace HT_a := hide (HT_a.out.kept hb)
  replace HT_b := hide (HT_b.out.kept hb)
  replace HT_c := hide (HT_c.out.kept hb)
  replace HT_su := hide (HT_su.out.kept hb)
  replace HT_ac := hide (HT_ac.out.kept hb)
  replace HT_bc := hide (HT_bc.out.kept hb)
  replace HT_le := hide (HT_le.out.kept hb)
  replace HT_ri := hide (HT_ri.out.kept hb)
  replace HT_x := hide (HT_x.out.kept hb)
  replace HT_cx := hide (HT_cx.out.kept hb)
  replace HT_ax := hide (HT_ax.out.kept hb)
  replace HT_y := hide (HT_y.out.kept hb)
  replace HBA := hide (below_nx6 HBA.out hb)
  replace HBW := hide (HBW.out.trans (hb.mono HBW.out.size))
  have hV28' := hV28.symm
  clear hV28 hb hb0 ho1 ho2 cxac0 cxac1 cxax0 cxax1 
  have hlt_z := HT_z.out.1.lt
  have cxle0 := HT_le.out.c0
  have cxle1 := HT_le.out.c1
  have cxri0 := HT_ri.out.c0
  have cxri1 := HT_ri.out.c1
  have hsz_leri : (N0 * N2) ≤ 281474976710656 := by have := Nat.mul_le_mul hb0.2 hb2.2; omega
  go_wp2_with fail
  refine Calls.mono (same7_yes (some ⟨g1le, 0, none⟩) (some ⟨g2le, 0, none⟩) (some ⟨g1ri, 0, none⟩) (some ⟨g2ri, 0, none⟩) 2 c1le (N0 * N2) (N0 * N2) 2 c1ri (N0 * N2) (N0 * N2) [(N0 : Int), (N2 : Int)] Lle [(N0 : Int), (N2 : Int)] Lri _ HT_le.out.S HT_le.out.L HT_ri.out.S HT_ri.out.L (by omega) hsz_leri rfl (by rw [HR_Lle.out, HR_Lri.out, HR_Lsu.out, HR_Lac.out, HR_Lbc.out, prod_left _ _ HRL_La.out HRL_Lb.out])) ?_
  rintro e u29 ⟨rfl, hb⟩
  replace HT_a := hide (HT_a.out.kept hb)
  replace HT_b := hide (HT_b.out.kept hb)
  replace HT_c := hide (HT_c.out.kept hb)
  replace HT_su := hide (HT_su.out.kept hb)
  replace HT_ac := hide (HT_ac.out.kept hb)
  replace HT_bc := hide (HT_bc.out.kept hb)
  replace HT_le := hide (HT_le.out.kept hb)
  replace HT_ri := hide (HT_ri.out.kept hb)
  replace HT_x := hide (HT_x.out.kept hb)
  replace HT_cx := hide (HT_cx.out.kept hb)
  replace HT_ax := hide (HT_ax.out.kept hb)
  replace HT_y := hide (HT_y.out.kept hb)
  replace HT_z := hide (HT_z.out.kept hb)
  replace HBA := hide (below_nx6 HBA.out hb)
  replace HBW := hide (HBW.out.trans (hb.mono HBW.out.size))
  clear hb hsz_leri cxle0 cxle1 cxri0 cxri1
  have cxy0 := HT_y.out.c0
  have cxy1 := HT_y.out.c1
  have cxz0 := HT_z.out.c0
  have cxz1 := HT_z.out.c1
  have hsz_yz : (N0 * N2) ≤ 281474976710656 := by have := Nat.mul_le_mul hb0.2 hb2.2; omega
  go_wp2_with fail
  refine Calls.mono (same7_yes (some ⟨g1y, 0, none⟩) (some ⟨g2y, 0, none⟩) (some ⟨g1z, 0, none⟩) (some ⟨g2z, 0, none⟩) 2 c1y (N0 * N2) (N0 * N2) 2 c1z (N0 * N2) (N0 * N2) [(N0 : Int), (N2 : Int)] Ly [(N0 : Int), (N2 : Int)] Lz _ HT_y.out.S HT_y.out.L HT_z.out.S HT_z.out.L (by omega) hsz_yz rfl (by rw [HR_Ly.out, HR_Lz.out, HR_Lcx.out, HR_Lac.out, HR_Lax.out, prod_right _ _ HRL_Lc.out HRL_Lx.out])) ?_
  rintro e u30 ⟨rfl, hb⟩
  replace HT_a := hide (HT_a.out.kept hb)
  replace HT_b := hide (HT_b.out.kept hb)
  replace HT_c := hide (HT_c.out.kept hb)
  replace HT_su := hide (HT_su.out.kept hb)
  replace HT_ac := hide (HT_ac.out.kept hb)
  replace HT_bc := hide (HT_bc.out.kept hb)
  replace HT_le := hide (HT_le.out.kept hb)
  replace HT_ri := hide (HT_ri.out.kept hb)
  replace HT_x := hide (HT_x.out.kept hb)
  replace HT_cx := hide (HT_cx.out.kept hb)
  replace HT_ax := hide (HT_ax.out.kept hb)
  replace HT_y := hide (HT_y.out.kept hb)
  replace HT_z := hide (HT_z.out.kept hb)
  replace HBA := hide (below_nx6 HBA.out hb)
  replace HBW := hide (HBW.out.trans (hb.mono HBW.out.size))
  clear hb hsz_yz cxy0 cxy1 cxz0 cxz1
  go_wp2
  go_ret
  exact ⟨rfl, HBW.out⟩

end Go.Proofs.Ytlalfjlcgabnnaa
