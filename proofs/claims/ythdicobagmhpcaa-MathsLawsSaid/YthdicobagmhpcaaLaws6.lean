/- MathsLaws: for every three tensors the walk of its Go text ends in true. -/
import Derived.Test.YthdicobagmhpcaaThree6
namespace Go.Proofs.Ythdicobagmhpcaa
open Go.RowKit
set_option linter.unusedVariables false
set_option linter.unusedSimpArgs false
set_option maxRecDepth 100000
def sel {α : Type} (a b c : α) : Nat → α
  | 0 => a
  | 1 => b
  | _ => c
theorem three_three (A0 B0 A1 B1 A2 B2 : Option Addr) (n0 c0 m0 d0 n1 c1 m1 d1 n2 c2 m2 d2 : Nat) (s0 l0 s1 l1 s2 l2 : List Int) (w : World)
    (hA0 : Lies w A0 n0 (s0.map (Value.int .i64))) (hB0 : Lies w B0 m0 (l0.map (Value.int .i32))) (hA1 : Lies w A1 n1 (s1.map (Value.int .i64))) (hB1 : Lies w B1 m1 (l1.map (Value.int .i32))) (hA2 : Lies w A2 n2 (s2.map (Value.int .i64))) (hB2 : Lies w B2 m2 (l2.map (Value.int .i32)))
    (hn0 : n0 ≤ 70368744177664) (hm0 : m0 ≤ 70368744177664) (hn1 : n1 ≤ 70368744177664) (hm1 : m1 ≤ 70368744177664) (hn2 : n2 ≤ 70368744177664) (hm2 : m2 ≤ 70368744177664) :
    Calls Try.prog 10 #[.agg #[.slice A0 n0 c0, .slice B0 m0 d0, .slice A1 n1 c1, .slice B1 m1 d1, .slice A2 n2 c2, .slice B2 m2 d2]] w fun e w' =>
      ∃ b, e = .returned (.bool b) ∧ (b = true → tenOk s0 m0 = true ∧ (tenOk s1 m1 = true ∧ s1 = s0) ∧ (tenOk s2 m2 = true ∧ s2 = s0)) ∧ Below w.heap.size w w' := by
  refine (three_any (sel A0 A1 A2) (sel B0 B1 B2) (sel n0 n1 n2) (sel c0 c1 c2) (sel m0 m1 m2) (sel d0 d1 d2) (sel s0 s1 s2) (sel l0 l1 l2) w ?_ ?_ ?_ ?_).mono ?_
  · intro k hk; obtain rfl | rfl | rfl : k = 0 ∨ k = 1 ∨ k = 2 := by omega
    · exact hA0
    · exact hA1
    · exact hA2
  · intro k hk; obtain rfl | rfl | rfl : k = 0 ∨ k = 1 ∨ k = 2 := by omega
    · exact hB0
    · exact hB1
    · exact hB2
  · intro k hk; obtain rfl | rfl | rfl : k = 0 ∨ k = 1 ∨ k = 2 := by omega
    · exact hn0
    · exact hn1
    · exact hn2
  · intro k hk; obtain rfl | rfl | rfl : k = 0 ∨ k = 1 ∨ k = 2 := by omega
    · exact hm0
    · exact hm1
    · exact hm2
  · rintro e w' ⟨b, rfl, h, hb⟩
    exact ⟨b, rfl, fun e => ⟨(h e 0 (by omega)).1, h e 1 (by omega), h e 2 (by omega)⟩, hb⟩

set_option maxHeartbeats 8000000 in
theorem laws6_any (A0 B0 A1 B1 A2 B2 : Option Addr) (n0 c0 m0 d0 n1 c1 m1 d1 n2 c2 m2 d2 : Nat) (s0 l0 s1 l1 s2 l2 : List Int) (w : World)
    (hA0 : Lies w A0 n0 (s0.map (Value.int .i64))) (hB0 : Lies w B0 m0 (l0.map (Value.int .i32))) (hA1 : Lies w A1 n1 (s1.map (Value.int .i64))) (hB1 : Lies w B1 m1 (l1.map (Value.int .i32))) (hA2 : Lies w A2 n2 (s2.map (Value.int .i64))) (hB2 : Lies w B2 m2 (l2.map (Value.int .i32)))
    (hn0 : n0 ≤ 70368744177664) (hm0 : m0 ≤ 70368744177664) (hn1 : n1 ≤ 70368744177664) (hm1 : m1 ≤ 70368744177664) (hn2 : n2 ≤ 70368744177664) (hm2 : m2 ≤ 70368744177664) :
    Calls Try.prog 3 #[.agg #[.slice A0 n0 c0, .slice B0 m0 d0, .slice A1 n1 c1, .slice B1 m1 d1, .slice A2 n2 c2, .slice B2 m2 d2]] w fun e w' => e = .returned (.bool true) ∧ Below w.heap.size w w' := by
  obtain ⟨W0, hW0⟩ : ∃ W0, W0 = w.alloc (.cells #[.slice A0 n0 c0, .slice B0 m0 d0, .slice A1 n1 c1, .slice B1 m1 d1, .slice A2 n2 c2, .slice B2 m2 d2] 26) := ⟨_, rfl⟩
  have HBW : Hid (Below w.heap.size w W0) := hide (by rw [hW0]; exact (Below.refl w.heap.size w).alloc (Nat.le_refl _) _)
  have HR : Hid (W0.heap[w.heap.size]? = some (.cells #[.slice A0 n0 c0, .slice B0 m0 d0, .slice A1 n1 c1, .slice B1 m1 d1, .slice A2 n2 c2, .slice B2 m2 d2] 26 (0, 0))) := hide (by rw [hW0]; exact heap_alloc_new w _)
  have HA0 := hide (hA0.below HBW.out)
  have HB0 := hide (hB0.below HBW.out)
  have HA1 := hide (hA1.below HBW.out)
  have HB1 := hide (hB1.below HBW.out)
  have HA2 := hide (hA2.below HBW.out)
  have HB2 := hide (hB2.below HBW.out)
  have HC : Hid (∀ v, Below W0.heap.size W0 v → v.cell? ⟨w.heap.size, 0, none⟩ = some (.slice A0 n0 c0) ∧ v.cell? ⟨w.heap.size, 1, none⟩ = some (.slice B0 m0 d0) ∧ v.cell? ⟨w.heap.size, 2, none⟩ = some (.slice A1 n1 c1) ∧ v.cell? ⟨w.heap.size, 3, none⟩ = some (.slice B1 m1 d1) ∧ v.cell? ⟨w.heap.size, 4, none⟩ = some (.slice A2 n2 c2) ∧ v.cell? ⟨w.heap.size, 5, none⟩ = some (.slice B2 m2 d2)) := hide (fun v hv => by
    have h := (hv.block _ (lt_of_heap HR.out)).trans HR.out
    exact ⟨cell_of_row _ _ 0 _ _ (0, 0) h, cell_of_row _ _ 1 _ _ (0, 0) h, cell_of_row _ _ 2 _ _ (0, 0) h, cell_of_row _ _ 3 _ _ (0, 0) h, cell_of_row _ _ 4 _ _ (0, 0) h, cell_of_row _ _ 5 _ _ (0, 0) h⟩)
  have hW0' := hW0.symm
  clear hW0 hA0 hB0 hA1 hB1 hA2 hB2
  have HBA := hide (Below.refl W0.heap.size W0)
  go_enter Try.func3, Try.ntmps3
  go_wp2_with fail
  refine Calls.mono (alive6_any _) ?_
  rintro e u1 ⟨rfl, hb⟩
  replace HBA := hide (below_nx6 HBA.out hb)
  replace HBW := hide (HBW.out.trans (hb.mono HBW.out.size))
  clear hb
  obtain ⟨x0, x1, x2, x3, x4, x5⟩ := HC.out _ HBA.out
  go_wp2_with fail
  refine Calls.mono (three_three A0 B0 A1 B1 A2 B2 n0 c0 m0 d0 n1 c1 m1 d1 n2 c2 m2 d2 s0 l0 s1 l1 s2 l2 _ (HA0.out.below HBA.out) (HB0.out.below HBA.out) (HA1.out.below HBA.out) (HB1.out.below HBA.out) (HA2.out.below HBA.out) (HB2.out.below HBA.out) hn0 hm0 hn1 hm1 hn2 hm2) ?_
  rintro e u2 ⟨b, rfl, hyes, hb⟩
  replace HBA := hide (below_nx6 HBA.out hb)
  replace HBW := hide (HBW.out.trans (hb.mono HBW.out.size))
  clear hb x0 x1 x2 x3 x4 x5
  cases b
  · clear hyes
    go_wp2_with fail
    refine Calls.mono (alive6_any _) ?_
    rintro e u3 ⟨rfl, hb⟩
    replace HBA := hide (below_nx6 HBA.out hb)
    replace HBW := hide (HBW.out.trans (hb.mono HBW.out.size))
    clear hb
    go_wp2
    go_ret
    exact ⟨rfl, HBW.out⟩
  · obtain ⟨hok, ⟨ho1, rfl⟩, ⟨ho2, rfl⟩⟩ := hyes rfl
    clear hyes
    obtain ⟨q1, q2⟩ := tenOk_iff.1 hok
    obtain rfl : m1 = m0 := by have := (tenOk_iff.1 ho1).2; omega
    obtain rfl : m2 = m1 := by have := (tenOk_iff.1 ho2).2; omega
    obtain rfl : n1 = n0 := by have h1 := HA0.out.len; have h2 := HA1.out.len; omega
    obtain rfl : n2 = n1 := by have h1 := HA1.out.len; have h2 := HA2.out.len; omega
    obtain ⟨hn1, hn4, _⟩ := sizeI_pos q1
    have hslen : s2.length = n2 := by have := HA0.out.len; simpa using this
    rw [hslen] at hn1 hn4
    have hm4 : m2 ≤ 4096 := by have := sizeI_le s2; omega
    have HOK := hide hok
    clear q1 q2 hok ho1 ho2 hm0 hn0 hm1 hslen
    have hbu := HBA.out
    obtain ⟨Q1, hQ1⟩ : ∃ W, W = u2.alloc (.cells #[.slice A0 n2 c0, .slice B0 m2 d0] 25) := ⟨_, rfl⟩
    have hq0 : Below u2.heap.size u2 Q1 := by rw [hQ1]; exact (Below.refl _ _).alloc (Nat.le_refl _) _
    have hz0 : BoxT Q1 u2.heap.size (.slice A0 n2 c0) (.slice B0 m2 d0) := by rw [hQ1]; exact BoxT.new _ _ _
    have hQ1' := hQ1.symm
    clear hQ1
    obtain ⟨Q2, hQ2⟩ : ∃ W, W = Q1.alloc (.cells #[.slice A1 n2 c1, .slice B1 m2 d1] 25) := ⟨_, rfl⟩
    have hq1 : Below Q1.heap.size Q1 Q2 := by rw [hQ2]; exact (Below.refl _ _).alloc (Nat.le_refl _) _
    have hz1 : BoxT Q2 Q1.heap.size (.slice A1 n2 c1) (.slice B1 m2 d1) := by rw [hQ2]; exact BoxT.new _ _ _
    have hQ2' := hQ2.symm
    clear hQ2
    obtain ⟨Q3, hQ3⟩ : ∃ W, W = Q2.alloc (.cells #[.slice A2 n2 c2, .slice B2 m2 d2] 25) := ⟨_, rfl⟩
    have hq2 : Below Q2.heap.size Q2 Q3 := by rw [hQ3]; exact (Below.refl _ _).alloc (Nat.le_refl _) _
    have hz2 : BoxT Q3 Q2.heap.size (.slice A2 n2 c2) (.slice B2 m2 d2) := by rw [hQ3]; exact BoxT.new _ _ _
    have hQ3' := hQ3.symm
    clear hQ3
    have hbQ1 := below_nx6 hbu hq0
    have hbQ2 := below_nx6 hbQ1 hq1
    have hb : Below u2.heap.size u2 Q3 := below_nx6 (below_nx6 hq0 hq1) hq2
    obtain ⟨x0, x1, _⟩ := HC.out _ hbu
    obtain ⟨_, _, x2, x3, _⟩ := HC.out _ hbQ1
    obtain ⟨_, _, _, _, x4, x5⟩ := HC.out _ hbQ2
    have hbQ3 := below_nx6 hbQ2 hq2
    have HT_a : Hid (TenAt Q3 u2.heap.size A0 B0 n2 c0 m2 d0 s2 l0) := hide ⟨(hz0.kept hq1).kept hq2, HA0.out.below hbQ3, HB0.out.below hbQ3⟩
    have HT_b : Hid (TenAt Q3 Q1.heap.size A1 B1 n2 c1 m2 d1 s2 l1) := hide ⟨hz1.kept hq2, HA1.out.below hbQ3, HB1.out.below hbQ3⟩
    have HT_c : Hid (TenAt Q3 Q2.heap.size A2 B2 n2 c2 m2 d2 s2 l2) := hide ⟨hz2, HA2.out.below hbQ3, HB2.out.below hbQ3⟩
    replace HBW := hide (HBW.out.trans (hb.mono HBW.out.size))
    clear hb hbQ1 hbQ2 hbQ3 hq0 hq1 hq2 hz0 hz1 hz2 hbu HBA HA0 HB0 HA1 HB1 HA2 HB2 HC HR
    obtain ⟨Lab, hLab⟩ : ∃ Lab : List Int, Lab = List.zipWith add32 l0 l1 := ⟨_, rfl⟩
    have HR_Lab := hide hLab
    clear hLab
    have cxa0 := HT_a.out.c0
    have cxa1 := HT_a.out.c1
    have cxb0 := HT_b.out.c0
    have cxb1 := HT_b.out.c1
    go_wp2_with fail
    refine Calls.mono (add_ok A0 B0 A1 B1 n2 c0 m2 d0 c1 d1 s2 l0 l1 _ HT_a.out.S HT_a.out.L HT_b.out.S HT_b.out.L HOK.out) ?_
    rw [← HR_Lab.out]
    rintro e u4 ⟨g1ab, c1ab, g2ab, rfl, ho1, ho2, _, hb0⟩
    obtain ⟨V5, hV5⟩ : ∃ W, W = u4.alloc (.cells #[.slice (some ⟨g1ab, 0, none⟩) n2 c1ab, .slice (some ⟨g2ab, 0, none⟩) m2 m2] 25) := ⟨_, rfl⟩
    have HT_ab : Hid (TenAt V5 u4.heap.size (some ⟨g1ab, 0, none⟩) (some ⟨g2ab, 0, none⟩) n2 c1ab m2 m2 s2 Lab) := hide (by rw [hV5]; exact TenAt.made ho1 ho2)
    have hb : Below Q3.heap.size Q3 V5 := by rw [hV5]; exact below_al6 hb0
    replace HT_a := hide (HT_a.out.kept hb)
    replace HT_b := hide (HT_b.out.kept hb)
    replace HT_c := hide (HT_c.out.kept hb)
    replace HBW := hide (HBW.out.trans (hb.mono HBW.out.size))
    have hV5' := hV5.symm
    clear cxa0 cxa1 cxb0 cxb1 hV5 hb hb0 ho1 ho2
    have hlt_ab := HT_ab.out.1.lt
    clear x0 x1 x2 x3 x4 x5
    obtain ⟨Lba, hLba⟩ : ∃ Lba : List Int, Lba = List.zipWith add32 l1 l0 := ⟨_, rfl⟩
    have HR_Lba := hide hLba
    clear hLba
    have cxb0 := HT_b.out.c0
    have cxb1 := HT_b.out.c1
    have cxa0 := HT_a.out.c0
    have cxa1 := HT_a.out.c1
    go_wp2_with fail
    refine Calls.mono (add_ok A1 B1 A0 B0 n2 c1 m2 d1 c0 d0 s2 l1 l0 _ HT_b.out.S HT_b.out.L HT_a.out.S HT_a.out.L HOK.out) ?_
    rw [← HR_Lba.out]
    rintro e u6 ⟨g1ba, c1ba, g2ba, rfl, ho1, ho2, _, hb0⟩
    obtain ⟨V7, hV7⟩ : ∃ W, W = u6.alloc (.cells #[.slice (some ⟨g1ba, 0, none⟩) n2 c1ba, .slice (some ⟨g2ba, 0, none⟩) m2 m2] 25) := ⟨_, rfl⟩
    have HT_ba : Hid (TenAt V7 u6.heap.size (some ⟨g1ba, 0, none⟩) (some ⟨g2ba, 0, none⟩) n2 c1ba m2 m2 s2 Lba) := hide (by rw [hV7]; exact TenAt.made ho1 ho2)
    have hb : Below V5.heap.size V5 V7 := by rw [hV7]; exact below_al6 hb0
    replace HT_a := hide (HT_a.out.kept hb)
    replace HT_b := hide (HT_b.out.kept hb)
    replace HT_c := hide (HT_c.out.kept hb)
    replace HT_ab := hide (HT_ab.out.kept hb)
    replace HBW := hide (HBW.out.trans (hb.mono HBW.out.size))
    have hV7' := hV7.symm
    clear cxb0 cxb1 cxa0 cxa1 hV7 hb hb0 ho1 ho2
    have hlt_ba := HT_ba.out.1.lt
    obtain ⟨Lbc, hLbc⟩ : ∃ Lbc : List Int, Lbc = List.zipWith add32 l1 l2 := ⟨_, rfl⟩
    have HR_Lbc := hide hLbc
    clear hLbc
    have cxb0 := HT_b.out.c0
    have cxb1 := HT_b.out.c1
    have cxc0 := HT_c.out.c0
    have cxc1 := HT_c.out.c1
    go_wp2_with fail
    refine Calls.mono (add_ok A1 B1 A2 B2 n2 c1 m2 d1 c2 d2 s2 l1 l2 _ HT_b.out.S HT_b.out.L HT_c.out.S HT_c.out.L HOK.out) ?_
    rw [← HR_Lbc.out]
    rintro e u8 ⟨g1bc, c1bc, g2bc, rfl, ho1, ho2, _, hb0⟩
    obtain ⟨V9, hV9⟩ : ∃ W, W = u8.alloc (.cells #[.slice (some ⟨g1bc, 0, none⟩) n2 c1bc, .slice (some ⟨g2bc, 0, none⟩) m2 m2] 25) := ⟨_, rfl⟩
    have HT_bc : Hid (TenAt V9 u8.heap.size (some ⟨g1bc, 0, none⟩) (some ⟨g2bc, 0, none⟩) n2 c1bc m2 m2 s2 Lbc) := hide (by rw [hV9]; exact TenAt.made ho1 ho2)
    have hb : Below V7.heap.size V7 V9 := by rw [hV9]; exact below_al6 hb0
    replace HT_a := hide (HT_a.out.kept hb)
    replace HT_b := hide (HT_b.out.kept hb)
    replace HT_c := hide (HT_c.out.kept hb)
    replace HT_ab := hide (HT_ab.out.kept hb)
    replace HT_ba := hide (HT_ba.out.kept hb)
    replace HBW := hide (HBW.out.trans (hb.mono HBW.out.size))
    have hV9' := hV9.symm
    clear cxb0 cxb1 cxc0 cxc1 hV9 hb hb0 ho1 ho2
    have hlt_bc := HT_bc.out.1.lt
    obtain ⟨Lle, hLle⟩ : ∃ Lle : List Int, Lle = List.zipWith add32 Lab l2 := ⟨_, rfl⟩
    have HR_Lle := hide hLle
    clear hLle
    have cxab0 := HT_ab.out.c0
    have cxab1 := HT_ab.out.c1
    have cxc0 := HT_c.out.c0
    have cxc1 := HT_c.out.c1
    go_wp2_with fail
    refine Calls.mono (add_ok (some ⟨g1ab, 0, none⟩) (some ⟨g2ab, 0, none⟩) A2 B2 n2 c1ab m2 m2 c2 d2 s2 Lab l2 _ HT_ab.out.S HT_ab.out.L HT_c.out.S HT_c.out.L HOK.out) ?_
    rw [← HR_Lle.out]
    rintro e u10 ⟨g1le, c1le, g2le, rfl, ho1, ho2, _, hb0⟩
    obtain ⟨V11, hV11⟩ : ∃ W, W = u10.alloc (.cells #[.slice (some ⟨g1le, 0, none⟩) n2 c1le, .slice (some ⟨g2le, 0, none⟩) m2 m2] 25) := ⟨_, rfl⟩
    have HT_le : Hid (TenAt V11 u10.heap.size (some ⟨g1le, 0, none⟩) (some ⟨g2le, 0, none⟩) n2 c1le m2 m2 s2 Lle) := hide (by rw [hV11]; exact TenAt.made ho1 ho2)
    have hb : Below V9.heap.size V9 V11 := by rw [hV11]; exact below_al6 hb0
    replace HT_a := hide (HT_a.out.kept hb)
    replace HT_b := hide (HT_b.out.kept hb)
    replace HT_c := hide (HT_c.out.kept hb)
    replace HT_ab := hide (HT_ab.out.kept hb)
    replace HT_ba := hide (HT_ba.out.kept hb)
    replace HT_bc := hide (HT_bc.out.kept hb)
    replace HBW := hide (HBW.out.trans (hb.mono HBW.out.size))
    have hV11' := hV11.symm
    clear cxab0 cxab1 cxc0 cxc1 hV11 hb hb0 ho1 ho2
    have hlt_le := HT_le.out.1.lt
    obtain ⟨Lri, hLri⟩ : ∃ Lri : List Int, Lri = List.zipWith add32 l0 Lbc := ⟨_, rfl⟩
    have HR_Lri := hide hLri
    clear hLri
    have cxa0 := HT_a.out.c0
    have cxa1 := HT_a.out.c1
    have cxbc0 := HT_bc.out.c0
    have cxbc1 := HT_bc.out.c1
    go_wp2_with fail
    refine Calls.mono (add_ok A0 B0 (some ⟨g1bc, 0, none⟩) (some ⟨g2bc, 0, none⟩) n2 c0 m2 d0 c1bc m2 s2 l0 Lbc _ HT_a.out.S HT_a.out.L HT_bc.out.S HT_bc.out.L HOK.out) ?_
    rw [← HR_Lri.out]
    rintro e u12 ⟨g1ri, c1ri, g2ri, rfl, ho1, ho2, _, hb0⟩
    obtain ⟨V13, hV13⟩ : ∃ W, W = u12.alloc (.cells #[.slice (some ⟨g1ri, 0, none⟩) n2 c1ri, .slice (some ⟨g2ri, 0, none⟩) m2 m2] 25) := ⟨_, rfl⟩
    have HT_ri : Hid (TenAt V13 u12.heap.size (some ⟨g1ri, 0, none⟩) (some ⟨g2ri, 0, none⟩) n2 c1ri m2 m2 s2 Lri) := hide (by rw [hV13]; exact TenAt.made ho1 ho2)
    have hb : Below V11.heap.size V11 V13 := by rw [hV13]; exact below_al6 hb0
    replace HT_a := hide (HT_a.out.kept hb)
    replace HT_b := hide (HT_b.out.kept hb)
    replace HT_c := hide (HT_c.out.kept hb)
    replace HT_ab := hide (HT_ab.out.kept hb)
    replace HT_ba := hide (HT_ba.out.kept hb)
    replace HT_bc := hide (HT_bc.out.kept hb)
    replace HT_le := hide (HT_le.out.kept hb)
    replace HBW := hide (HBW.out.trans (hb.mono HBW.out.size))
    have hV13' := hV13.symm
    clear cxa0 cxa1 cxbc0 cxbc1 hV13 hb hb0 ho1 ho2
    have hlt_ri := HT_ri.out.1.lt
    have cxab0 := HT_ab.out.c0
    have cxab1 := HT_ab.out.c1
    have cxba0 := HT_ba.out.c0
    have cxba1 := HT_ba.out.c1
    go_wp2_with fail
    refine Calls.mono (tsame_any (some ⟨g1ab, 0, none⟩) (some ⟨g2ab, 0, none⟩) (some ⟨g1ba, 0, none⟩) (some ⟨g2ba, 0, none⟩) n2 c1ab m2 m2 n2 c1ba m2 m2 s2 Lab s2 Lba _ HT_ab.out.S HT_ab.out.L HT_ba.out.S HT_ba.out.L (by omega) (by omega)) ?_
    rw [show decide (s2 = s2 ∧ Lab = Lba) = true from decide_eq_true ⟨rfl, by rw [HR_Lab.out, HR_Lba.out, zip_comm add32_comm]⟩]
    rintro e u14 ⟨rfl, hb⟩
    replace HT_a := hide (HT_a.out.kept hb)
    replace HT_b := hide (HT_b.out.kept hb)
    replace HT_c := hide (HT_c.out.kept hb)
    replace HT_ab := hide (HT_ab.out.kept hb)
    replace HT_ba := hide (HT_ba.out.kept hb)
    replace HT_bc := hide (HT_bc.out.kept hb)
    replace HT_le := hide (HT_le.out.kept hb)
    replace HT_ri := hide (HT_ri.out.kept hb)
    replace HBW := hide (HBW.out.trans (hb.mono HBW.out.size))
    clear cxab0 cxab1 cxba0 cxba1 hb
    have cxle0 := HT_le.out.c0
    have cxle1 := HT_le.out.c1
    have cxri0 := HT_ri.out.c0
    have cxri1 := HT_ri.out.c1
    go_wp2_with fail
    refine Calls.mono (tsame_any (some ⟨g1le, 0, none⟩) (some ⟨g2le, 0, none⟩) (some ⟨g1ri, 0, none⟩) (some ⟨g2ri, 0, none⟩) n2 c1le m2 m2 n2 c1ri m2 m2 s2 Lle s2 Lri _ HT_le.out.S HT_le.out.L HT_ri.out.S HT_ri.out.L (by omega) (by omega)) ?_
    rw [show decide (s2 = s2 ∧ Lle = Lri) = true from decide_eq_true ⟨rfl, by rw [HR_Lle.out, HR_Lri.out, HR_Lab.out, HR_Lbc.out, zip_assoc add32_assoc]⟩]
    rintro e u15 ⟨rfl, hb⟩
    replace HT_a := hide (HT_a.out.kept hb)
    replace HT_b := hide (HT_b.out.kept hb)
    replace HT_c := hide (HT_c.out.kept hb)
    replace HT_ab := hide (HT_ab.out.kept hb)
    replace HT_ba := hide (HT_ba.out.kept hb)
    replace HT_bc := hide (HT_bc.out.kept hb)
    replace HT_le := hide (HT_le.out.kept hb)
    replace HT_ri := hide (HT_ri.out.kept hb)
    replace HBW := hide (HBW.out.trans (hb.mono HBW.out.size))
    clear cxle0 cxle1 cxri0 cxri1 hb
    obtain ⟨Lx, hLx⟩ : ∃ Lx : List Int, Lx = List.zipWith mul32 l0 l1 := ⟨_, rfl⟩
    have HR_Lx := hide hLx
    clear hLx
    have cxa0 := HT_a.out.c0
    have cxa1 := HT_a.out.c1
    have cxb0 := HT_b.out.c0
    have cxb1 := HT_b.out.c1
    go_wp2_with fail
    refine Calls.mono (mul_ok A0 B0 A1 B1 n2 c0 m2 d0 c1 d1 s2 l0 l1 _ HT_a.out.S HT_a.out.L HT_b.out.S HT_b.out.L HOK.out) ?_
    rw [← HR_Lx.out]
    rintro e u16 ⟨g1x, c1x, g2x, rfl, ho1, ho2, _, hb0⟩
    obtain ⟨V17, hV17⟩ : ∃ W, W = u16.alloc (.cells #[.slice (some ⟨g1x, 0, none⟩) n2 c1x, .slice (some ⟨g2x, 0, none⟩) m2 m2] 25) := ⟨_, rfl⟩
    have HT_x : Hid (TenAt V17 u16.heap.size (some ⟨g1x, 0, none⟩) (some ⟨g2x, 0, none⟩) n2 c1x m2 m2 s2 Lx) := hide (by rw [hV17]; exact TenAt.made ho1 ho2)
    have hb : Below u15.heap.size u15 V17 := by rw [hV17]; exact below_al6 hb0
    replace HT_a := hide (HT_a.out.kept hb)
    replace HT_b := hide (HT_b.out.kept hb)
    replace HT_c := hide (HT_c.out.kept hb)
    replace HT_ab := hide (HT_ab.out.kept hb)
    replace HT_ba := hide (HT_ba.out.kept hb)
    replace HT_bc := hide (HT_bc.out.kept hb)
    replace HT_le := hide (HT_le.out.kept hb)
    replace HT_ri := hide (HT_ri.out.kept hb)
    replace HBW := hide (HBW.out.trans (hb.mono HBW.out.size))
    have hV17' := hV17.symm
    clear cxa0 cxa1 cxb0 cxb1 hV17 hb hb0 ho1 ho2
    have hlt_x := HT_x.out.1.lt
    obtain ⟨Ly, hLy⟩ : ∃ Ly : List Int, Ly = List.zipWith mul32 l1 l0 := ⟨_, rfl⟩
    have HR_Ly := hide hLy
    clear hLy
    have cxb0 := HT_b.out.c0
    have cxb1 := HT_b.out.c1
    have cxa0 := HT_a.out.c0
    have cxa1 := HT_a.out.c1
    go_wp2_with fail
    refine Calls.mono (mul_ok A1 B1 A0 B0 n2 c1 m2 d1 c0 d0 s2 l1 l0 _ HT_b.out.S HT_b.out.L HT_a.out.S HT_a.out.L HOK.out) ?_
    rw [← HR_Ly.out]
    rintro e u18 ⟨g1y, c1y, g2y, rfl, ho1, ho2, _, hb0⟩
    obtain ⟨V19, hV19⟩ : ∃ W, W = u18.alloc (.cells #[.slice (some ⟨g1y, 0, none⟩) n2 c1y, .slice (some ⟨g2y, 0, none⟩) m2 m2] 25) := ⟨_, rfl⟩
    have HT_y : Hid (TenAt V19 u18.heap.size (some ⟨g1y, 0, none⟩) (some ⟨g2y, 0, none⟩) n2 c1y m2 m2 s2 Ly) := hide (by rw [hV19]; exact TenAt.made ho1 ho2)
    have hb : Below V17.heap.size V17 V19 := by rw [hV19]; exact below_al6 hb0
    replace HT_a := hide (HT_a.out.kept hb)
    replace HT_b := hide (HT_b.out.kept hb)
    replace HT_c := hide (HT_c.out.kept hb)
    replace HT_ab := hide (HT_ab.out.kept hb)
    replace HT_ba := hide (HT_ba.out.kept hb)
    replace HT_bc := hide (HT_bc.out.kept hb)
    replace HT_le := hide (HT_le.out.kept hb)
    replace HT_ri := hide (HT_ri.out.kept hb)
    replace HT_x := hide (HT_x.out.kept hb)
    replace HBW := hide (HBW.out.trans (hb.mono HBW.out.size))
    have hV19' := hV19.symm
    clear cxb0 cxb1 cxa0 cxa1 hV19 hb hb0 ho1 ho2
    have hlt_y := HT_y.out.1.lt
    obtain ⟨Lz, hLz⟩ : ∃ Lz : List Int, Lz = List.zipWith mul32 l0 l2 := ⟨_, rfl⟩
    have HR_Lz := hide hLz
    clear hLz
    have cxa0 := HT_a.out.c0
    have cxa1 := HT_a.out.c1
    have cxc0 := HT_c.out.c0
    have cxc1 := HT_c.out.c1
    go_wp2_with fail
    refine Calls.mono (mul_ok A0 B0 A2 B2 n2 c0 m2 d0 c2 d2 s2 l0 l2 _ HT_a.out.S HT_a.out.L HT_c.out.S HT_c.out.L HOK.out) ?_
    rw [← HR_Lz.out]
    rintro e u20 ⟨g1z, c1z, g2z, rfl, ho1, ho2, _, hb0⟩
    obtain ⟨V21, hV21⟩ : ∃ W, W = u20.alloc (.cells #[.slice (some ⟨g1z, 0, none⟩) n2 c1z, .slice (some ⟨g2z, 0, none⟩) m2 m2] 25) := ⟨_, rfl⟩
    have HT_z : Hid (TenAt V21 u20.heap.size (some ⟨g1z, 0, none⟩) (some ⟨g2z, 0, none⟩) n2 c1z m2 m2 s2 Lz) := hide (by rw [hV21]; exact TenAt.made ho1 ho2)
    have hb : Below V19.heap.size V19 V21 := by rw [hV21]; exact below_al6 hb0
    replace HT_a := hide (HT_a.out.kept hb)
    replace HT_b := hide (HT_b.out.kept hb)
    replace HT_c := hide (HT_c.out.kept hb)
    replace HT_ab := hide (HT_ab.out.kept hb)
    replace HT_ba := hide (HT_ba.out.kept hb)
    replace HT_bc := hide (HT_bc.out.kept hb)
    replace HT_le := hide (HT_le.out.kept hb)
    replace HT_ri := hide (HT_ri.out.kept hb)
    replace HT_x := hide (HT_x.out.kept hb)
    replace HT_y := hide (HT_y.out.kept hb)
    replace HBW := hide (HBW.out.trans (hb.mono HBW.out.size))
    have hV21' := hV21.symm
    clear cxa0 cxa1 cxc0 cxc1 hV21 hb hb0 ho1 ho2
    have hlt_z := HT_z.out.1.lt
    obtain ⟨Lv, hLv⟩ : ∃ Lv : List Int, Lv = List.zipWith mul32 l0 Lbc := ⟨_, rfl⟩
    have HR_Lv := hide hLv
    clear hLv
    have cxa0 := HT_a.out.c0
    have cxa1 := HT_a.out.c1
    have cxbc0 := HT_bc.out.c0
    have cxbc1 := HT_bc.out.c1
    go_wp2_with fail
    refine Calls.mono (mul_ok A0 B0 (some ⟨g1bc, 0, none⟩) (some ⟨g2bc, 0, none⟩) n2 c0 m2 d0 c1bc m2 s2 l0 Lbc _ HT_a.out.S HT_a.out.L HT_bc.out.S HT_bc.out.L HOK.out) ?_
    rw [← HR_Lv.out]
    rintro e u22 ⟨g1v, c1v, g2v, rfl, ho1, ho2, _, hb0⟩
    obtain ⟨V23, hV23⟩ : ∃ W, W = u22.alloc (.cells #[.slice (some ⟨g1v, 0, none⟩) n2 c1v, .slice (some ⟨g2v, 0, none⟩) m2 m2] 25) := ⟨_, rfl⟩
    have HT_v : Hid (TenAt V23 u22.heap.size (some ⟨g1v, 0, none⟩) (some ⟨g2v, 0, none⟩) n2 c1v m2 m2 s2 Lv) := hide (by rw [hV23]; exact TenAt.made ho1 ho2)
    have hb : Below V21.heap.size V21 V23 := by rw [hV23]; exact below_al6 hb0
    replace HT_a := hide (HT_a.out.kept hb)
    replace HT_b := hide (HT_b.out.kept hb)
    replace HT_c := hide (HT_c.out.kept hb)
    replace HT_ab := hide (HT_ab.out.kept hb)
    replace HT_ba := hide (HT_ba.out.kept hb)
    replace HT_bc := hide (HT_bc.out.kept hb)
    replace HT_le := hide (HT_le.out.kept hb)
    replace HT_ri := hide (HT_ri.out.kept hb)
    replace HT_x := hide (HT_x.out.kept hb)
    replace HT_y := hide (HT_y.out.kept hb)
    replace HT_z := hide (HT_z.out.kept hb)
    replace HBW := hide (HBW.out.trans (hb.mono HBW.out.size))
    have hV23' := hV23.symm
    clear cxa0 cxa1 cxbc0 cxbc1 hV23 hb hb0 ho1 ho2
    have hlt_v := HT_v.out.1.lt
    obtain ⟨Lsu, hLsu⟩ : ∃ Lsu : List Int, Lsu = List.zipWith add32 Lx Lz := ⟨_, rfl⟩
    have HR_Lsu := hide hLsu
    clear hLsu
    have cxx0 := HT_x.out.c0
    have cxx1 := HT_x.out.c1
    have cxz0 := HT_z.out.c0
    have cxz1 := HT_z.out.c1
    go_wp2_with fail
    refine Calls.mono (add_ok (some ⟨g1x, 0, none⟩) (some ⟨g2x, 0, none⟩) (some ⟨g1z, 0, none⟩) (some ⟨g2z, 0, none⟩) n2 c1x m2 m2 c1z m2 s2 Lx Lz _ HT_x.out.S HT_x.out.L HT_z.out.S HT_z.out.L HOK.out) ?_
    rw [← HR_Lsu.out]
    rintro e u24 ⟨g1su, c1su, g2su, rfl, ho1, ho2, _, hb0⟩
    obtain ⟨V25, hV25⟩ : ∃ W, W = u24.alloc (.cells #[.slice (some ⟨g1su, 0, none⟩) n2 c1su, .slice (some ⟨g2su, 0, none⟩) m2 m2] 25) := ⟨_, rfl⟩
    have HT_su : Hid (TenAt V25 u24.heap.size (some ⟨g1su, 0, none⟩) (some ⟨g2su, 0, none⟩) n2 c1su m2 m2 s2 Lsu) := hide (by rw [hV25]; exact TenAt.made ho1 ho2)
    have hb : Below V23.heap.size V23 V25 := by rw [hV25]; exact below_al6 hb0
    replace HT_a := hide (HT_a.out.kept hb)
    replace HT_b := hide (HT_b.out.kept hb)
    replace HT_c := hide (HT_c.out.kept hb)
    replace HT_ab := hide (HT_ab.out.kept hb)
    replace HT_ba := hide (HT_ba.out.kept hb)
    replace HT_bc := hide (HT_bc.out.kept hb)
    replace HT_le := hide (HT_le.out.kept hb)
    replace HT_ri := hide (HT_ri.out.kept hb)
    replace HT_x := hide (HT_x.out.kept hb)
    replace HT_y := hide (HT_y.out.kept hb)
    replace HT_z := hide (HT_z.out.kept hb)
    replace HT_v := hide (HT_v.out.kept hb)
    replace HBW := hide (HBW.out.trans (hb.mono HBW.out.size))
    have hV25' := hV25.symm
    clear cxx0 cxx1 cxz0 cxz1 hV25 hb hb0 ho1 ho2
    have hlt_su := HT_su.out.1.lt
    obtain ⟨Lxc, hLxc⟩ : ∃ Lxc : List Int, Lxc = List.zipWith mul32 Lx l2 := ⟨_, rfl⟩
    have HR_Lxc := hide hLxc
    clear hLxc
    have cxx0 := HT_x.out.c0
    have cxx1 := HT_x.out.c1
    have cxc0 := HT_c.out.c0
    have cxc1 := HT_c.out.c1
    go_wp2_with fail
    refine Calls.mono (mul_ok (some ⟨g1x, 0, none⟩) (some ⟨g2x, 0, none⟩) A2 B2 n2 c1x m2 m2 c2 d2 s2 Lx l2 _ HT_x.out.S HT_x.out.L HT_c.out.S HT_c.out.L HOK.out) ?_
    rw [← HR_Lxc.out]
    rintro e u26 ⟨g1xc, c1xc, g2xc, rfl, ho1, ho2, _, hb0⟩
    obtain ⟨V27, hV27⟩ : ∃ W, W = u26.alloc (.cells #[.slice (some ⟨g1xc, 0, none⟩) n2 c1xc, .slice (some ⟨g2xc, 0, none⟩) m2 m2] 25) := ⟨_, rfl⟩
    have HT_xc : Hid (TenAt V27 u26.heap.size (some ⟨g1xc, 0, none⟩) (some ⟨g2xc, 0, none⟩) n2 c1xc m2 m2 s2 Lxc) := hide (by rw [hV27]; exact TenAt.made ho1 ho2)
    have hb : Below V25.heap.size V25 V27 := by rw [hV27]; exact below_al6 hb0
    replace HT_a := hide (HT_a.out.kept hb)
    replace HT_b := hide (HT_b.out.kept hb)
    replace HT_c := hide (HT_c.out.kept hb)
    replace HT_ab := hide (HT_ab.out.kept hb)
    replace HT_ba := hide (HT_ba.out.kept hb)
    replace HT_bc := hide (HT_bc.out.kept hb)
    replace HT_le := hide (HT_le.out.kept hb)
    replace HT_ri := hide (HT_ri.out.kept hb)
    replace HT_x := hide (HT_x.out.kept hb)
    replace HT_y := hide (HT_y.out.kept hb)
    replace HT_z := hide (HT_z.out.kept hb)
    replace HT_v := hide (HT_v.out.kept hb)
    replace HT_su := hide (HT_su.out.kept hb)
    replace HBW := hide (HBW.out.trans (hb.mono HBW.out.size))
    have hV27' := hV27.symm
    clear cxx0 cxx1 cxc0 cxc1 hV27 hb hb0 ho1 ho2
    have hlt_xc := HT_xc.out.1.lt
    obtain ⟨Lmm, hLmm⟩ : ∃ Lmm : List Int, Lmm = List.zipWith mul32 l1 l2 := ⟨_, rfl⟩
    have HR_Lmm := hide hLmm
    clear hLmm
    have cxb0 := HT_b.out.c0
    have cxb1 := HT_b.out.c1
    have cxc0 := HT_c.out.c0
    have cxc1 := HT_c.out.c1
    go_wp2_with fail
    refine Calls.mono (mul_ok A1 B1 A2 B2 n2 c1 m2 d1 c2 d2 s2 l1 l2 _ HT_b.out.S HT_b.out.L HT_c.out.S HT_c.out.L HOK.out) ?_
    rw [← HR_Lmm.out]
    rintro e u28 ⟨g1mm, c1mm, g2mm, rfl, ho1, ho2, _, hb0⟩
    obtain ⟨V29, hV29⟩ : ∃ W, W = u28.alloc (.cells #[.slice (some ⟨g1mm, 0, none⟩) n2 c1mm, .slice (some ⟨g2mm, 0, none⟩) m2 m2] 25) := ⟨_, rfl⟩
    have HT_mm : Hid (TenAt V29 u28.heap.size (some ⟨g1mm, 0, none⟩) (some ⟨g2mm, 0, none⟩) n2 c1mm m2 m2 s2 Lmm) := hide (by rw [hV29]; exact TenAt.made ho1 ho2)
    have hb : Below V27.heap.size V27 V29 := by rw [hV29]; exact below_al6 hb0
    replace HT_a := hide (HT_a.out.kept hb)
    replace HT_b := hide (HT_b.out.kept hb)
    replace HT_c := hide (HT_c.out.kept hb)
    replace HT_ab := hide (HT_ab.out.kept hb)
    replace HT_ba := hide (HT_ba.out.kept hb)
    replace HT_bc := hide (HT_bc.out.kept hb)
    replace HT_le := hide (HT_le.out.kept hb)
    replace HT_ri := hide (HT_ri.out.kept hb)
    replace HT_x := hide (HT_x.out.kept hb)
    replace HT_y := hide (HT_y.out.kept hb)
    replace HT_z := hide (HT_z.out.kept hb)
    replace HT_v := hide (HT_v.out.kept hb)
    replace HT_su := hide (HT_su.out.kept hb)
    replace HT_xc := hide (HT_xc.out.kept hb)
    replace HBW := hide (HBW.out.trans (hb.mono HBW.out.size))
    have hV29' := hV29.symm
    clear cxb0 cxb1 cxc0 cxc1 hV29 hb hb0 ho1 ho2
    have hlt_mm := HT_mm.out.1.lt
    obtain ⟨Lam, hLam⟩ : ∃ Lam : List Int, Lam = List.zipWith mul32 l0 Lmm := ⟨_, rfl⟩
    have HR_Lam := hide hLam
    clear hLam
    have cxa0 := HT_a.out.c0
    have cxa1 := HT_a.out.c1
    have cxmm0 := HT_mm.out.c0
    have cxmm1 := HT_mm.out.c1
    go_wp2_with fail
    refine Calls.mono (mul_ok A0 B0 (some ⟨g1mm, 0, none⟩) (some ⟨g2mm, 0, none⟩) n2 c0 m2 d0 c1mm m2 s2 l0 Lmm _ HT_a.out.S HT_a.out.L HT_mm.out.S HT_mm.out.L HOK.out) ?_
    rw [← HR_Lam.out]
    rintro e u30 ⟨g1am, c1am, g2am, rfl, ho1, ho2, _, hb0⟩
    obtain ⟨V31, hV31⟩ : ∃ W, W = u30.alloc (.cells #[.slice (some ⟨g1am, 0, none⟩) n2 c1am, .slice (some ⟨g2am, 0, none⟩) m2 m2] 25) := ⟨_, rfl⟩
    have HT_am : Hid (TenAt V31 u30.heap.size (some ⟨g1am, 0, none⟩) (some ⟨g2am, 0, none⟩) n2 c1am m2 m2 s2 Lam) := hide (by rw [hV31]; exact TenAt.made ho1 ho2)
    have hb : Below V29.heap.size V29 V31 := by rw [hV31]; exact below_al6 hb0
    replace HT_a := hide (HT_a.out.kept hb)
    replace HT_b := hide (HT_b.out.kept hb)
    replace HT_c := hide (HT_c.out.kept hb)
    replace HT_ab := hide (HT_ab.out.kept hb)
    replace HT_ba := hide (HT_ba.out.kept hb)
    replace HT_bc := hide (HT_bc.out.kept hb)
    replace HT_le := hide (HT_le.out.kept hb)
    replace HT_ri := hide (HT_ri.out.kept hb)
    replace HT_x := hide (HT_x.out.kept hb)
    replace HT_y := hide (HT_y.out.kept hb)
    replace HT_z := hide (HT_z.out.kept hb)
    replace HT_v := hide (HT_v.out.kept hb)
    replace HT_su := hide (HT_su.out.kept hb)
    replace HT_xc := hide (HT_xc.out.kept hb)
    replace HT_mm := hide (HT_mm.out.kept hb)
    replace HBW := hide (HBW.out.trans (hb.mono HBW.out.size))
    have hV31' := hV31.symm
    clear cxa0 cxa1 cxmm0 cxmm1 hV31 hb hb0 ho1 ho2
    have hlt_am := HT_am.out.1.lt
    have cxx0 := HT_x.out.c0
    have cxx1 := HT_x.out.c1
    have cxy0 := HT_y.out.c0
    have cxy1 := HT_y.out.c1
    go_wp2_with fail
    refine Calls.mono (tsame_any (some ⟨g1x, 0, none⟩) (some ⟨g2x, 0, none⟩) (some ⟨g1y, 0, none⟩) (some ⟨g2y, 0, none⟩) n2 c1x m2 m2 n2 c1y m2 m2 s2 Lx s2 Ly _ HT_x.out.S HT_x.out.L HT_y.out.S HT_y.out.L (by omega) (by omega)) ?_
    rw [show decide (s2 = s2 ∧ Lx = Ly) = true from decide_eq_true ⟨rfl, by rw [HR_Lx.out, HR_Ly.out, zip_comm mul32_comm]⟩]
    rintro e u32 ⟨rfl, hb⟩
    replace HT_a := hide (HT_a.out.kept hb)
    replace HT_b := hide (HT_b.out.kept hb)
    replace HT_c := hide (HT_c.out.kept hb)
    replace HT_ab := hide (HT_ab.out.kept hb)
    replace HT_ba := hide (HT_ba.out.kept hb)
    replace HT_bc := hide (HT_bc.out.kept hb)
    replace HT_le := hide (HT_le.out.kept hb)
    replace HT_ri := hide (HT_ri.out.kept hb)
    replace HT_x := hide (HT_x.out.kept hb)
    replace HT_y := hide (HT_y.out.kept hb)
    replace HT_z := hide (HT_z.out.kept hb)
    replace HT_v := hide (HT_v.out.kept hb)
    replace HT_su := hide (HT_su.out.kept hb)
    replace HT_xc := hide (HT_xc.out.kept hb)
    replace HT_mm := hide (HT_mm.out.kept hb)
    replace HT_am := hide (HT_am.out.kept hb)
    replace HBW := hide (HBW.out.trans (hb.mono HBW.out.size))
    clear cxx0 cxx1 cxy0 cxy1 hb
    have cxv0 := HT_v.out.c0
    have cxv1 := HT_v.out.c1
    have cxsu0 := HT_su.out.c0
    have cxsu1 := HT_su.out.c1
    go_wp2_with fail
    refine Calls.mono (tsame_any (some ⟨g1v, 0, none⟩) (some ⟨g2v, 0, none⟩) (some ⟨g1su, 0, none⟩) (some ⟨g2su, 0, none⟩) n2 c1v m2 m2 n2 c1su m2 m2 s2 Lv s2 Lsu _ HT_v.out.S HT_v.out.L HT_su.out.S HT_su.out.L (by omega) (by omega)) ?_
    rw [show decide (s2 = s2 ∧ Lv = Lsu) = true from decide_eq_true ⟨rfl, by rw [HR_Lv.out, HR_Lsu.out, HR_Lbc.out, HR_Lx.out, HR_Lz.out, zip_dist mul32_add]⟩]
    rintro e u33 ⟨rfl, hb⟩
    replace HT_a := hide (HT_a.out.kept hb)
    replace HT_b := hide (HT_b.out.kept hb)
    replace HT_c := hide (HT_c.out.kept hb)
    replace HT_ab := hide (HT_ab.out.kept hb)
    replace HT_ba := hide (HT_ba.out.kept hb)
    replace HT_bc := hide (HT_bc.out.kept hb)
    replace HT_le := hide (HT_le.out.kept hb)
    replace HT_ri := hide (HT_ri.out.kept hb)
    replace HT_x := hide (HT_x.out.kept hb)
    replace HT_y := hide (HT_y.out.kept hb)
    replace HT_z := hide (HT_z.out.kept hb)
    replace HT_v := hide (HT_v.out.kept hb)
    replace HT_su := hide (HT_su.out.kept hb)
    replace HT_xc := hide (HT_xc.out.kept hb)
    replace HT_mm := hide (HT_mm.out.kept hb)
    replace HT_am := hide (HT_am.out.kept hb)
    replace HBW := hide (HBW.out.trans (hb.mono HBW.out.size))
    clear cxv0 cxv1 cxsu0 cxsu1 hb
    have cxxc0 := HT_xc.out.c0
    have cxxc1 := HT_xc.out.c1
    have cxam0 := HT_am.out.c0
    have cxam1 := HT_am.out.c1
    go_wp2_with fail
    refine Calls.mono (tsame_any (some ⟨g1xc, 0, none⟩) (some ⟨g2xc, 0, none⟩) (some ⟨g1am, 0, none⟩) (some ⟨g2am, 0, none⟩) n2 c1xc m2 m2 n2 c1am m2 m2 s2 Lxc s2 Lam _ HT_xc.out.S HT_xc.out.L HT_am.out.S HT_am.out.L (by omega) (by omega)) ?_
    rw [show decide (s2 = s2 ∧ Lxc = Lam) = true from decide_eq_true ⟨rfl, by rw [HR_Lxc.out, HR_Lam.out, HR_Lx.out, HR_Lmm.out, zip_assoc mul32_assoc]⟩]
    rintro e u34 ⟨rfl, hb⟩
    replace HT_a := hide (HT_a.out.kept hb)
    replace HT_b := hide (HT_b.out.kept hb)
    replace HT_c := hide (HT_c.out.kept hb)
    replace HT_ab := hide (HT_ab.out.kept hb)
    replace HT_ba := hide (HT_ba.out.kept hb)
    replace HT_bc := hide (HT_bc.out.kept hb)
    replace HT_le := hide (HT_le.out.kept hb)
    replace HT_ri := hide (HT_ri.out.kept hb)
    replace HT_x := hide (HT_x.out.kept hb)
    replace HT_y := hide (HT_y.out.kept hb)
    replace HT_z := hide (HT_z.out.kept hb)
    replace HT_v := hide (HT_v.out.kept hb)
    replace HT_su := hide (HT_su.out.kept hb)
    replace HT_xc := hide (HT_xc.out.kept hb)
    replace HT_mm := hide (HT_mm.out.kept hb)
    replace HT_am := hide (HT_am.out.kept hb)
    replace HBW := hide (HBW.out.trans (hb.mono HBW.out.size))
    clear cxxc0 cxxc1 cxam0 cxam1 hb
    go_wp2
    go_ret
    exact ⟨rfl, HBW.out⟩
end Go.Proofs.Ythdicobagmhpcaa
