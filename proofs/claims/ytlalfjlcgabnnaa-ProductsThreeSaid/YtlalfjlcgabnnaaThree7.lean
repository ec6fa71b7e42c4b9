/- ProductsThree: for every three lists and four directions the walk of its Go text ends in true. -/
import Derived.Test.YtlalfjlcgabnnaaMade7
import Derived.Test.YtlalfjlcgabnnaaMl6
namespace Go.Proofs.Ytlalfjlcgabnnaa
open Go.RowKit
set_option linter.unusedVariables false
set_option linter.unusedSimpArgs false
set_option maxRecDepth 100000

set_option maxHeartbeats 8000000 in
theorem three7_any (A0 : Option Addr) (n0 c0 : Nat) (l0 : List Int) (A1 : Option Addr) (n1 c1 : Nat) (l1 : List Int) (A2 : Option Addr) (n2 c2 : Nat) (l2 : List Int) (d0 d1 d2 d3 : Int) (w : World) (hA0 : Lies w A0 n0 (l0.map (Value.int .i32))) (hn0 : n0 ≤ 70368744177664) (hA1 : Lies w A1 n1 (l1.map (Value.int .i32))) (hn1 : n1 ≤ 70368744177664) (hA2 : Lies w A2 n2 (l2.map (Value.int .i32))) (hn2 : n2 ≤ 70368744177664) (hd0 : 0 ≤ d0 ∧ d0 < 256) (hd1 : 0 ≤ d1 ∧ d1 < 256) (hd2 : 0 ≤ d2 ∧ d2 < 256) (hd3 : 0 ≤ d3 ∧ d3 < 256) :
    Calls Try.prog 3 #[.agg #[.slice A0 n0 c0, .slice A1 n1 c1, .slice A2 n2 c2], .agg #[.int .u8 d0, .int .u8 d1, .int .u8 d2, .int .u8 d3]] w fun e w' => e = .returned (.bool true) ∧ Below w.heap.size w w' := by
  obtain ⟨W0, hW0⟩ : ∃ W0, W0 = (w.alloc (.cells #[.slice A0 n0 c0, .slice A1 n1 c1, .slice A2 n2 c2] 23)).alloc (.cells #[.int .u8 d0, .int .u8 d1, .int .u8 d2, .int .u8 d3] 24) := ⟨_, rfl⟩
  have HBW : Hid (Below w.heap.size w W0) := hide (by rw [hW0]; exact ((Below.refl w.heap.size w).alloc (Nat.le_refl _) _).alloc (by simp only [World.size_alloc]; omega) _)
  have HR0 : Hid (W0.heap[w.heap.size]? = some (.cells #[.slice A0 n0 c0, .slice A1 n1 c1, .slice A2 n2 c2] 23 (0, 0))) := hide (by rw [hW0]; exact (Below.heap_alloc _ _ w.heap.size (by simp)).trans (heap_alloc_new w _))
  have HR1 : Hid (W0.heap[w.heap.size + 1]? = some (.cells #[.int .u8 d0, .int .u8 d1, .int .u8 d2, .int .u8 d3] 24 (0, 0))) := hide (by rw [hW0]; have h := heap_alloc_new (w.alloc (.cells #[.slice A0 n0 c0, .slice A1 n1 c1, .slice A2 n2 c2] 23)) (.cells #[.int .u8 d0, .int .u8 d1, .int .u8 d2, .int .u8 d3] 24); rwa [World.size_alloc] at h)
  have HC : Hid (∀ v, Below W0.heap.size W0 v → v.cell? ⟨w.heap.size, 0, none⟩ = some (.slice A0 n0 c0) ∧ v.cell? ⟨w.heap.size, 1, none⟩ = some (.slice A1 n1 c1) ∧ v.cell? ⟨w.heap.size, 2, none⟩ = some (.slice A2 n2 c2) ∧ v.cell? ⟨w.heap.size + 1, 0, none⟩ = some (.int .u8 d0) ∧ v.cell? ⟨w.heap.size + 1, 1, none⟩ = some (.int .u8 d1) ∧ v.cell? ⟨w.heap.size + 1, 2, none⟩ = some (.int .u8 d2) ∧ v.cell? ⟨w.heap.size + 1, 3, none⟩ = some (.int .u8 d3)) := hide (fun v hv => ⟨cell_of_row _ _ 0 _ _ (0, 0) ((hv.block _ (lt_of_heap HR0.out)).trans HR0.out), cell_of_row _ _ 1 _ _ (0, 0) ((hv.block _ (lt_of_heap HR0.out)).trans HR0.out), cell_of_row _ _ 2 _ _ (0, 0) ((hv.block _ (lt_of_heap HR0.out)).trans HR0.out), cell_of_row _ _ 0 _ _ (0, 0) ((hv.block _ (lt_of_heap HR1.out)).trans HR1.out), cell_of_row _ _ 1 _ _ (0, 0) ((hv.block _ (lt_of_heap HR1.out)).trans HR1.out), cell_of_row _ _ 2 _ _ (0, 0) ((hv.block _ (lt_of_heap HR1.out)).trans HR1.out), cell_of_row _ _ 3 _ _ (0, 0) ((hv.block _ (lt_of_heap HR1.out)).trans HR1.out)⟩)
  have HA0 := hide (hA0.below HBW.out)
  have HA1 := hide (hA1.below HBW.out)
  have HA2 := hide (hA2.below HBW.out)
  obtain ⟨N0, hN0⟩ : ∃ N, N = dm7 d0 := ⟨_, rfl⟩
  have hb0 := dm7_le hd0
  rw [← hN0] at hb0
  have HN0 := hide hN0
  have HD0 := hide hd0
  clear hN0 hd0
  obtain ⟨N1, hN1⟩ : ∃ N, N = dm7 d1 := ⟨_, rfl⟩
  have hb1 := dm7_le hd1
  rw [← hN1] at hb1
  have HN1 := hide hN1
  have HD1 := hide hd1
  clear hN1 hd1
  obtain ⟨N2, hN2⟩ : ∃ N, N = dm7 d2 := ⟨_, rfl⟩
  have hb2 := dm7_le hd2
  rw [← hN2] at hb2
  have HN2 := hide hN2
  have HD2 := hide hd2
  clear hN2 hd2
  obtain ⟨N3, hN3⟩ : ∃ N, N = dm7 d3 := ⟨_, rfl⟩
  have hb3 := dm7_le hd3
  rw [← hN3] at hb3
  have HN3 := hide hN3
  have HD3 := hide hd3
  clear hN3 hd3
  have hW0' := hW0.symm
  clear hW0 hA0 hA1 hA2
  have HBA := hide (Below.refl W0.heap.size W0)
  go_enter Try.func3, Try.ntmps3
  go_wp2_with fail
  refine Calls.mono (alive7_any _) ?_
  rintro e u1 ⟨rfl, hb⟩
  replace HBA := hide (below_nx6 HBA.out hb)
  replace HBW := hide (HBW.out.trans (hb.mono HBW.out.size))
  clear hb
  obtain ⟨xl0, xl1, xl2, xd0, xd1, xd2, xd3⟩ := HC.out _ HBA.out
  by_cases hfar : (1000 : Int) < (n0 : Int) + (n1 : Int) + (n2 : Int)
  · go_wp2_with fail
    refine Calls.mono (alive7_any _) ?_
    rintro e u2 ⟨rfl, hb⟩
    clear xl0 xl1 xl2 xd0 xd1 xd2 xd3
    replace HBA := hide (below_nx6 HBA.out hb)
    replace HBW := hide (HBW.out.trans (hb.mono HBW.out.size))
    clear hb
    go_wp2
    go_ret
    exact ⟨rfl, HBW.out⟩
  clear xl0 xl1 xl2 xd0 xd1 xd2 xd3
  have hnear : (n0 : Int) + (n1 : Int) + (n2 : Int) ≤ (1000 : Int) := by omega
  obtain ⟨xl0, xl1, xl2, xd0, xd1, xd2, xd3⟩ := HC.out _ HBA.out
  obtain ⟨La, hLa⟩ : ∃ La : List Int, La = madeL l0 (N0 * N1) := ⟨_, rfl⟩
  have HR_La := hide hLa
  clear hLa
  have HRW_La : Hid (∀ z ∈ La, -2147483648 ≤ z ∧ z < 2147483648) := hide (by rw [HR_La.out]; exact madeL_words _ _)
  have HRL_La : Hid (La.length = (N0 * N1)) := hide (by rw [HR_La.out]; exact madeL_len _ _)
  go_wp2_with fail
  refine Calls.mono (made7_any d0 d1 A0 n0 c0 l0 _ HD0.out HD1.out (HA0.out.below HBA.out) (by omega)) ?_
  rw [← HN0.out, ← HN1.out, ← HR_La.out]
  rintro e u3 ⟨g1a, c1a, g2a, rfl, ho1, ho2, _, hb0⟩
  obtain ⟨V4, hV4⟩ : ∃ W, W = u3.alloc (.cells #[.slice (some ⟨g1a, 0, none⟩) 2 c1a, .slice (some ⟨g2a, 0, none⟩) (N0 * N1) (N0 * N1)] 28) := ⟨_, rfl⟩
  have HT_a : Hid (TenAt V4 u3.heap.size (some ⟨g1a, 0, none⟩) (some ⟨g2a, 0, none⟩) 2 c1a (N0 * N1) (N0 * N1) [(N0 : Int), (N1 : Int)] La) := hide (by rw [hV4]; exact TenAt.made ho1 ho2)
  have hb : Below u1.heap.size u1 V4 := by rw [hV4]; exact below_al6 hb0
  replace HBA := hide (below_nx6 HBA.out hb)
  replace HBW := hide (HBW.out.trans (hb.mono HBW.out.size))
  have hV4' := hV4.symm
  clear hV4 hb hb0 ho1 ho2  xl0 xl1 xl2 xd0 xd1 xd2 xd3
  have hlt_a := HT_a.out.1.lt
  obtain ⟨xl0, xl1, xl2, xd0, xd1, xd2, xd3⟩ := HC.out _ HBA.out
  obtain ⟨Lb, hLb⟩ : ∃ Lb : List Int, Lb = madeL l1 (N1 * N2) := ⟨_, rfl⟩
  have HR_Lb := hide hLb
  clear hLb
  have HRW_Lb : Hid (∀ z ∈ Lb, -2147483648 ≤ z ∧ z < 2147483648) := hide (by rw [HR_Lb.out]; exact madeL_words _ _)
  have HRL_Lb : Hid (Lb.length = (N1 * N2)) := hide (by rw [HR_Lb.out]; exact madeL_len _ _)
  go_wp2_with fail
  refine Calls.mono (made7_any d1 d2 A1 n1 c1 l1 _ HD1.out HD2.out (HA1.out.below HBA.out) (by omega)) ?_
  rw [← HN1.out, ← HN2.out, ← HR_Lb.out]
  rintro e u5 ⟨g1b, c1b, g2b, rfl, ho1, ho2, _, hb0⟩
  obtain ⟨V6, hV6⟩ : ∃ W, W = u5.alloc (.cells #[.slice (some ⟨g1b, 0, none⟩) 2 c1b, .slice (some ⟨g2b, 0, none⟩) (N1 * N2) (N1 * N2)] 28) := ⟨_, rfl⟩
  have HT_b : Hid (TenAt V6 u5.heap.size (some ⟨g1b, 0, none⟩) (some ⟨g2b, 0, none⟩) 2 c1b (N1 * N2) (N1 * N2) [(N1 : Int), (N2 : Int)] Lb) := hide (by rw [hV6]; exact TenAt.made ho1 ho2)
  have hb : Below V4.heap.size V4 V6 := by rw [hV6]; exact below_al6 hb0
  replace HT_a := hide (HT_a.out.kept hb)
  replace HBA := hide (below_nx6 HBA.out hb)
  replace HBW := hide (HBW.out.trans (hb.mono HBW.out.size))
  have hV6' := hV6.symm
  clear hV6 hb hb0 ho1 ho2  xl0 xl1 xl2 xd0 xd1 xd2 xd3
  have hlt_b := HT_b.out.1.lt
  obtain ⟨xl0, xl1, xl2, xd0, xd1, xd2, xd3⟩ := HC.out _ HBA.out
  obtain ⟨Lc, hLc⟩ : ∃ Lc : List Int, Lc = madeL l2 (N2 * N3) := ⟨_, rfl⟩
  have HR_Lc := hide hLc
  clear hLc
  have HRW_Lc : Hid (∀ z ∈ Lc, -2147483648 ≤ z ∧ z < 2147483648) := hide (by rw [HR_Lc.out]; exact madeL_words _ _)
  have HRL_Lc : Hid (Lc.length = (N2 * N3)) := hide (by rw [HR_Lc.out]; exact madeL_len _ _)
  go_wp2_with fail
  refine Calls.mono (made7_any d2 d3 A2 n2 c2 l2 _ HD2.out HD3.out (HA2.out.below HBA.out) (by omega)) ?_
  rw [← HN2.out, ← HN3.out, ← HR_Lc.out]
  rintro e u7 ⟨g1c, c1c, g2c, rfl, ho1, ho2, _, hb0⟩
  obtain ⟨V8, hV8⟩ : ∃ W, W = u7.alloc (.cells #[.slice (some ⟨g1c, 0, none⟩) 2 c1c, .slice (some ⟨g2c, 0, none⟩) (N2 * N3) (N2 * N3)] 28) := ⟨_, rfl⟩
  have HT_c : Hid (TenAt V8 u7.heap.size (some ⟨g1c, 0, none⟩) (some ⟨g2c, 0, none⟩) 2 c1c (N2 * N3) (N2 * N3) [(N2 : Int), (N3 : Int)] Lc) := hide (by rw [hV8]; exact TenAt.made ho1 ho2)
  have hb : Below V6.heap.size V6 V8 := by rw [hV8]; exact below_al6 hb0
  replace HT_a := hide (HT_a.out.kept hb)
  replace HT_b := hide (HT_b.out.kept hb)
  replace HBA := hide (below_nx6 HBA.out hb)
  replace HBW := hide (HBW.out.trans (hb.mono HBW.out.size))
  have hV8' := hV8.symm
  clear hV8 hb hb0 ho1 ho2  xl0 xl1 xl2 xd0 xd1 xd2 xd3
  have hlt_c := HT_c.out.1.lt
  obtain ⟨Lab, hLab⟩ : ∃ Lab : List Int, Lab = prodL La Lb N0 N1 N2 := ⟨_, rfl⟩
  have HR_Lab := hide hLab
  clear hLab
  have cxa0 := HT_a.out.c0
  have cxa1 := HT_a.out.c1
  have cxb0 := HT_b.out.c0
  have cxb1 := HT_b.out.c1
  go_wp2_with fail
  refine Calls.mono (pof_ok (some ⟨g1a, 0, none⟩) (some ⟨g2a, 0, none⟩) (some ⟨g1b, 0, none⟩) (some ⟨g2b, 0, none⟩) c1a (N0 * N1) (N0 * N1) c1b (N1 * N2) (N1 * N2) N0 N1 N2 La Lb _ HT_a.out.S HT_a.out.L HT_b.out.S HT_b.out.L (two_ten (by omega) (by omega)) (two_ten (by omega) (by omega))) ?_
  rw [← HR_Lab.out]
  rintro e u9 ⟨g1ab, c1ab, g2ab, rfl, ho1, ho2, _, hb0⟩
  obtain ⟨V10, hV10⟩ : ∃ W, W = u9.alloc (.cells #[.slice (some ⟨g1ab, 0, none⟩) 2 c1ab, .slice (some ⟨g2ab, 0, none⟩) (N0 * N2) (N0 * N2)] 28) := ⟨_, rfl⟩
  have HT_ab : Hid (TenAt V10 u9.heap.size (some ⟨g1ab, 0, none⟩) (some ⟨g2ab, 0, none⟩) 2 c1ab (N0 * N2) (N0 * N2) [(N0 : Int), (N2 : Int)] Lab) := hide (by rw [hV10]; exact TenAt.made ho1 ho2)
  have hb : Below V8.heap.size V8 V10 := by rw [hV10]; exact below_al6 hb0
  replace HT_a := hide (HT_a.out.kept hb)
  replace HT_b := hide (HT_b.out.kept hb)
  replace HT_c := hide (HT_c.out.kept hb)
  replace HBA := hide (below_nx6 HBA.out hb)
  replace HBW := hide (HBW.out.trans (hb.mono HBW.out.size))
  have hV10' := hV10.symm
  clear hV10 hb hb0 ho1 ho2 cxa0 cxa1 cxb0 cxb1 
  have hlt_ab := HT_ab.out.1.lt
  obtain ⟨Lbc, hLbc⟩ : ∃ Lbc : List Int, Lbc = prodL Lb Lc N1 N2 N3 := ⟨_, rfl⟩
  have HR_Lbc := hide hLbc
  clear hLbc
  have cxb0 := HT_b.out.c0
  have cxb1 := HT_b.out.c1
  have cxc0 := HT_c.out.c0
  have cxc1 := HT_c.out.c1
  go_wp2_with fail
  refine Calls.mono (pof_ok (some ⟨g1b, 0, none⟩) (some ⟨g2b, 0, none⟩) (some ⟨g1c, 0, none⟩) (some ⟨g2c, 0, none⟩) c1b (N1 * N2) (N1 * N2) c1c (N2 * N3) (N2 * N3) N1 N2 N3 Lb Lc _ HT_b.out.S HT_b.out.L HT_c.out.S HT_c.out.L (two_ten (by omega) (by omega)) (two_ten (by omega) (by omega))) ?_
  rw [← HR_Lbc.out]
  rintro e u11 ⟨g1bc, c1bc, g2bc, rfl, ho1, ho2, _, hb0⟩
  obtain ⟨V12, hV12⟩ : ∃ W, W = u11.alloc (.cells #[.slice (some ⟨g1bc, 0, none⟩) 2 c1bc, .slice (some ⟨g2bc, 0, none⟩) (N1 * N3) (N1 * N3)] 28) := ⟨_, rfl⟩
  have HT_bc : Hid (TenAt V12 u11.heap.size (some ⟨g1bc, 0, none⟩) (some ⟨g2bc, 0, none⟩) 2 c1bc (N1 * N3) (N1 * N3) [(N1 : Int), (N3 : Int)] Lbc) := hide (by rw [hV12]; exact TenAt.made ho1 ho2)
  have hb : Below V10.heap.size V10 V12 := by rw [hV12]; exact below_al6 hb0
  replace HT_a := hide (HT_a.out.kept hb)
  replace HT_b := hide (HT_b.out.kept hb)
  replace HT_c := hide (HT_c.out.kept hb)
  replace HT_ab := hide (HT_ab.out.kept hb)
  replace HBA := hide (below_nx6 HBA.out hb)
  replace HBW := hide (HBW.out.trans (hb.mono HBW.out.size))
  have hV12' := hV12.symm
  clear hV12 hb hb0 ho1 ho2 cxb0 cxb1 cxc0 cxc1 
  have hlt_bc := HT_bc.out.1.lt
  obtain ⟨Lle, hLle⟩ : ∃ Lle : List Int, Lle = prodL Lab Lc N0 N2 N3 := ⟨_, rfl⟩
  have HR_Lle := hide hLle
  clear hLle
  have cxab0 := HT_ab.out.c0
  have cxab1 := HT_ab.out.c1
  have cxc0 := HT_c.out.c0
  have cxc1 := HT_c.out.c1
  go_wp2_with fail
  refine Calls.mono (pof_ok (some ⟨g1ab, 0, none⟩) (some ⟨g2ab, 0, none⟩) (some ⟨g1c, 0, none⟩) (some ⟨g2c, 0, none⟩) c1ab (N0 * N2) (N0 * N2) c1c (N2 * N3) (N2 * N3) N0 N2 N3 Lab Lc _ HT_ab.out.S HT_ab.out.L HT_c.out.S HT_c.out.L (two_ten (by omega) (by omega)) (two_ten (by omega) (by omega))) ?_
  rw [← HR_Lle.out]
  rintro e u13 ⟨g1le, c1le, g2le, rfl, ho1, ho2, _, hb0⟩
  obtain ⟨V14, hV14⟩ : ∃ W, W = u13.alloc (.cells #[.slice (some ⟨g1le, 0, none⟩) 2 c1le, .slice (some ⟨g2le, 0, none⟩) (N0 * N3) (N0 * N3)] 28) := ⟨_, rfl⟩
  have HT_le : Hid (TenAt V14 u13.heap.size (some ⟨g1le, 0, none⟩) (some ⟨g2le, 0, none⟩) 2 c1le (N0 * N3) (N0 * N3) [(N0 : Int), (N3 : Int)] Lle) := hide (by rw [hV14]; exact TenAt.made ho1 ho2)
  have hb : Below V12.heap.size V12 V14 := by rw [hV14]; exact below_al6 hb0
  replace HT_a := hide (HT_a.out.kept hb)
  replace HT_b := hide (HT_b.out.kept hb)
  replace HT_c := hide (HT_c.out.kept hb)
  replace HT_ab := hide (HT_ab.out.kept hb)
  replace HT_bc := hide (HT_bc.out.kept hb)
  replace HBA := hide (below_nx6 HBA.out hb)
  replace HBW := hide (HBW.out.trans (hb.mono HBW.out.size))
  have hV14' := hV14.symm
  clear hV14 hb hb0 ho1 ho2 cxab0 cxab1 cxc0 cxc1 
  have hlt_le := HT_le.out.1.lt
  obtain ⟨Lri, hLri⟩ : ∃ Lri : List Int, Lri = prodL La Lbc N0 N1 N3 := ⟨_, rfl⟩
  have HR_Lri := hide hLri
  clear hLri
  have cxa0 := HT_a.out.c0
  have cxa1 := HT_a.out.c1
  have cxbc0 := HT_bc.out.c0
  have cxbc1 := HT_bc.out.c1
  go_wp2_with fail
  refine Calls.mono (pof_ok (some ⟨g1a, 0, none⟩) (some ⟨g2a, 0, none⟩) (some ⟨g1bc, 0, none⟩) (some ⟨g2bc, 0, none⟩) c1a (N0 * N1) (N0 * N1) c1bc (N1 * N3) (N1 * N3) N0 N1 N3 La Lbc _ HT_a.out.S HT_a.out.L HT_bc.out.S HT_bc.out.L (two_ten (by omega) (by omega)) (two_ten (by omega) (by omega))) ?_
  rw [← HR_Lri.out]
  rintro e u15 ⟨g1ri, c1ri, g2ri, rfl, ho1, ho2, _, hb0⟩
  obtain ⟨V16, hV16⟩ : ∃ W, W = u15.alloc (.cells #[.slice (some ⟨g1ri, 0, none⟩) 2 c1ri, .slice (some ⟨g2ri, 0, none⟩) (N0 * N3) (N0 * N3)] 28) := ⟨_, rfl⟩
  have HT_ri : Hid (TenAt V16 u15.heap.size (some ⟨g1ri, 0, none⟩) (some ⟨g2ri, 0, none⟩) 2 c1ri (N0 * N3) (N0 * N3) [(N0 : Int), (N3 : Int)] Lri) := hide (by rw [hV16]; exact TenAt.made ho1 ho2)
  have hb : Below V14.heap.size V14 V16 := by rw [hV16]; exact below_al6 hb0
  replace HT_a := hide (HT_a.out.kept hb)
  replace HT_b := hide (HT_b.out.kept hb)
  replace HT_c := hide (HT_c.out.kept hb)
  replace HT_ab := hide (HT_ab.out.kept hb)
  replace HT_bc := hide (HT_bc.out.kept hb)
  replace HT_le := hide (HT_le.out.kept hb)
  replace HBA := hide (below_nx6 HBA.out hb)
  replace HBW := hide (HBW.out.trans (hb.mono HBW.out.size))
  have hV16' := hV16.symm
  clear hV16 hb hb0 ho1 ho2 cxa0 cxa1 cxbc0 cxbc1 
  have hlt_ri := HT_ri.out.1.lt
  have cxle0 := HT_le.out.c0
  have cxle1 := HT_le.out.c1
  have cxri0 := HT_ri.out.c0
  have cxri1 := HT_ri.out.c1
  have hsz_leri : (N0 * N3) ≤ 281474976710656 := by have := Nat.mul_le_mul hb0.2 hb3.2; omega
  go_wp2_with fail
  refine Calls.mono (same7_yes (some ⟨g1le, 0, none⟩) (some ⟨g2le, 0, none⟩) (some ⟨g1ri, 0, none⟩) (some ⟨g2ri, 0, none⟩) 2 c1le (N0 * N3) (N0 * N3) 2 c1ri (N0 * N3) (N0 * N3) [(N0 : Int), (N3 : Int)] Lle [(N0 : Int), (N3 : Int)] Lri _ HT_le.out.S HT_le.out.L HT_ri.out.S HT_ri.out.L (by omega) hsz_leri rfl (by rw [HR_Lle.out, HR_Lri.out, HR_Lab.out, HR_Lbc.out, prod_three])) ?_
  rintro e u17 ⟨rfl, hb⟩
  replace HT_a := hide (HT_a.out.kept hb)
  replace HT_b := hide (HT_b.out.kept hb)
  replace HT_c := hide (HT_c.out.kept hb)
  replace HT_ab := hide (HT_ab.out.kept hb)
  replace HT_bc := hide (HT_bc.out.kept hb)
  replace HT_le := hide (HT_le.out.kept hb)
  replace HT_ri := hide (HT_ri.out.kept hb)
  replace HBA := hide (below_nx6 HBA.out hb)
  replace HBW := hide (HBW.out.trans (hb.mono HBW.out.size))
  clear hb hsz_leri cxle0 cxle1 cxri0 cxri1
  go_wp2
  go_ret
  exact ⟨rfl, HBW.out⟩

end Go.Proofs.Ytlalfjlcgabnnaa
