/- ProductsOne: for every list and two directions the walk of its Go text ends in true. -/
import Derived.Test.YtlalfjlcgabnnaaOnes7
import Derived.Test.YtlalfjlcgabnnaaMl6
import Derived.Test.YtlalfjlcgabnnaaRegV
namespace Go.Proofs.Ytlalfjlcgabnnaa
open Go.RowKit
set_option linter.unusedVariables false
set_option linter.unusedSimpArgs false
set_option maxRecDepth 100000

theorem lies_two {w : World} {g : Nat} {x y : Int} (h : Lies w (some ⟨g, 0, none⟩) 2 (([x, y] : List Int).map (Value.int .i64))) : w.cell? ⟨g, 0, none⟩ = some (.int .i64 x) ∧ w.cell? ⟨g, 1, none⟩ = some (.int .i64 y) := by
  obtain ⟨b, o, e, _, hx⟩ := h.cells (by omega)
  cases e
  exact ⟨by have := hx 0 (by omega); simpa using this, by have := hx 1 (by omega); simpa using this⟩

theorem lies_num {w : World} {g q : Nat} {l : List Int} (h : Lies w (some ⟨g, 0, none⟩) q (l.map (Value.int .i32))) {k : Nat} (hk : k < q) : w.cell? ⟨g, k, none⟩ = some (.int .i32 (l.getD k 0)) := by
  have hl : l.length = q := by have := h.len; simpa using this
  obtain ⟨b, o, e, _, hx⟩ := h.cells (by omega)
  cases e
  have := hx k hk
  rw [Nat.zero_add] at this
  rw [this, List.getElem?_map]
  simp [List.getD, show k < l.length by omega]

set_option maxHeartbeats 8000000 in
theorem one7_any (A0 : Option Addr) (n0 c0 : Nat) (l0 : List Int) (d0 d1 : Int) (w : World) (hA0 : Lies w A0 n0 (l0.map (Value.int .i32))) (hn0 : n0 ≤ 70368744177664) (hwl : ∀ z ∈ l0, -2147483648 ≤ z ∧ z < 2147483648) (hd0 : 0 ≤ d0 ∧ d0 < 256) (hd1 : 0 ≤ d1 ∧ d1 < 256) :
    Calls Try.prog 5 #[.slice A0 n0 c0, .agg #[.int .u8 d0, .int .u8 d1]] w fun e w' => e = .returned (.bool true) ∧ Below w.heap.size w w' := by
  obtain ⟨W0, hW0⟩ : ∃ W0, W0 = w.alloc (.cells #[.int .u8 d0, .int .u8 d1] 37) := ⟨_, rfl⟩
  have HBW : Hid (Below w.heap.size w W0) := hide (by rw [hW0]; exact (Below.refl w.heap.size w).alloc (Nat.le_refl _) _)
  have HR1 : Hid (W0.heap[w.heap.size]? = some (.cells #[.int .u8 d0, .int .u8 d1] 37 (0, 0))) := hide (by rw [hW0]; exact heap_alloc_new w _)
  have HC : Hid (∀ v, Below W0.heap.size W0 v → v.cell? ⟨w.heap.size, 0, none⟩ = some (.int .u8 d0) ∧ v.cell? ⟨w.heap.size, 1, none⟩ = some (.int .u8 d1)) := hide (fun v hv => ⟨cell_of_row _ _ 0 _ _ (0, 0) ((hv.block _ (lt_of_heap HR1.out)).trans HR1.out), cell_of_row _ _ 1 _ _ (0, 0) ((hv.block _ (lt_of_heap HR1.out)).trans HR1.out)⟩)
  have HA0 := hide (hA0.below HBW.out)
  obtain ⟨N0, hN0⟩ : ∃ N, N = dm7 d0 := ⟨_, rfl⟩
  have hb0 := dm7_le hd0
  rw [← hN0] at hb0
  have HN0 := hide hN0
  have HD0 := hide hd0
  clear hN0 hd0
  obtain ⟨N1, hN1⟩ : ∃ N, N = dm7 d1 := ⟨_, rfl⟩
  have hb1 := dm7_le hd1
  rw [← hN1] at hb1
  have HN1 := hide hN1
  have HD1 := hide hd1
  clear hN1 hd1
  have hW0' := hW0.symm
  clear hW0 hA0
  have HBA := hide (Below.refl W0.heap.size W0)
  go_enter Try.func5, Try.ntmps5
  go_wp2_with fail
  refine Calls.mono (alive7_any _) ?_
  rintro e u1 ⟨rfl, hb⟩
  replace HBA := hide (below_nx6 HBA.out hb)
  replace HBW := hide (HBW.out.trans (hb.mono HBW.out.size))
  clear hb
  obtain ⟨xd0, xd1⟩ := HC.out _ HBA.out
  by_cases hfar : (1000 : Int) < (n0 : Int)
  · go_wp2_with fail
    refine Calls.mono (alive7_any _) ?_
    rintro e u2 ⟨rfl, hb⟩
    clear xd0 xd1
    replace HBA := hide (below_nx6 HBA.out hb)
    replace HBW := hide (HBW.out.trans (hb.mono HBW.out.size))
    clear hb
    go_wp2
    go_ret
    exact ⟨rfl, HBW.out⟩
  clear xd0 xd1
  have hnear : (n0 : Int) ≤ (1000 : Int) := by omega
  clear hwl
  obtain ⟨xd0, xd1⟩ := HC.out _ HBA.out
  obtain ⟨Q, hQ⟩ : ∃ Q, Q = N0 * N1 := ⟨_, rfl⟩
  have HQ := hide hQ
  have hQ1 : Q ≤ 81 := by rw [hQ]; have := Nat.mul_le_mul hb0.2 hb1.2; omega
  have hQ0 : 1 ≤ Q := by rw [hQ]; have := Nat.mul_le_mul hb0.1 hb1.1; omega
  clear hQ
  obtain ⟨Lt, hLt⟩ : ∃ Lt : List Int, Lt = madeL l0 Q := ⟨_, rfl⟩
  have HR_Lt := hide hLt
  clear hLt
  have HRW_Lt : Hid (∀ z ∈ Lt, -2147483648 ≤ z ∧ z < 2147483648) := hide (by rw [HR_Lt.out]; exact madeL_words _ _)
  have HRL_Lt : Hid (Lt.length = N0 * N1) := hide (by rw [HR_Lt.out, madeL_len, HQ.out])
  go_wp2_with fail
  refine Calls.mono (made7_any d0 d1 A0 n0 c0 l0 _ HD0.out HD1.out (HA0.out.below HBA.out) (by omega)) ?_
  rw [← HN0.out, ← HN1.out, ← HQ.out, ← HR_Lt.out]
  rintro e u3 ⟨g1t, c1t, g2t, rfl, ho1, ho2, _, hb0'⟩
  have hb9 := hb0
  clear hb0
  have hb0 := hb0'
  clear hb0'
  obtain ⟨V4, hV4⟩ : ∃ W, W = u3.alloc (.cells #[.slice (some ⟨g1t, 0, none⟩) 2 c1t, .slice (some ⟨g2t, 0, none⟩) Q Q] 28) := ⟨_, rfl⟩
  have HT_t : Hid (TenAt V4 u3.heap.size (some ⟨g1t, 0, none⟩) (some ⟨g2t, 0, none⟩) 2 c1t Q Q [(N0 : Int), (N1 : Int)] Lt) := hide (by rw [hV4]; exact TenAt.made ho1 ho2)
  have hb : Below u1.heap.size u1 V4 := by rw [hV4]; exact below_al6 hb0
  replace HBA := hide (below_nx6 HBA.out hb)
  replace HBW := hide (HBW.out.trans (hb.mono HBW.out.size))
  have hV4' := hV4.symm
  clear hV4 hb hb0 ho1 ho2  xd0 xd1
  have hlt_t := HT_t.out.1.lt
  have hb0 := hb9
  clear hb9
  obtain ⟨VT, hVT⟩ : ∃ VT, VT = V4 := ⟨_, rfl⟩
  have HCT : Hid (∀ v, Below VT.heap.size VT v → v.cell? ⟨u3.heap.size, 0, none⟩ = some (.slice (some ⟨g1t, 0, none⟩) 2 c1t) ∧ v.cell? ⟨u3.heap.size, 1, none⟩ = some (.slice (some ⟨g2t, 0, none⟩) Q Q)) := hide (fun v hv => by
    rw [hVT] at hv
    have h := HT_t.out.kept hv
    exact ⟨h.c0, h.c1⟩)
  have HBT : Hid (Below VT.heap.size VT V4) := hide (by rw [hVT]; exact Below.refl _ _)
  clear hVT
  obtain ⟨sh0, sh1⟩ := lies_two HT_t.out.S
  have cxt0 := HT_t.out.c0
  have cxt1 := HT_t.out.c1
  go_wp2
  go_cut [8, 9] from 24 (fun s1 s2 wc => ∃ px g1 c1 g2, s1 = .pointer (some ⟨px, 0, none⟩) ∧ s2 = .int .i64 0 ∧ Hid (TenAt wc px (some ⟨g1, 0, none⟩) (some ⟨g2, 0, none⟩) 2 c1 (N0 * N1) (N0 * N1) [(N0 : Int), (N1 : Int)] Lt) ∧ Hid (Below V4.heap.size V4 wc))
  case first =>
    have hd0 : Below VT.heap.size VT V4.drew := below_drewN HBT.out 1
    have he0 : Below V4.heap.size V4 V4.drew := below_drewN (Below.refl _ _) 1
    have hz0 := HBT.out.size
    have hS0 : Hid (V4.drew.cell? ⟨u3.heap.size, 0, none⟩ = some (.slice (some ⟨g1t, 0, none⟩) 2 c1t) ∧ V4.drew.cell? ⟨u3.heap.size, 1, none⟩ = some (.slice (some ⟨g2t, 0, none⟩) Q Q)) := hide (HCT.out _ hd0)
    refine wp_region_U (fun _ v => v.cell? ⟨u3.heap.size, 0, none⟩ = some (.slice (some ⟨g1t, 0, none⟩) 2 c1t) ∧ v.cell? ⟨u3.heap.size, 1, none⟩ = some (.slice (some ⟨g2t, 0, none⟩) Q Q)) 99 (by kernel_rfl) ?_
    refine wpAnyU_take (i := 0) (oi := { dst := some 47, op := _, type := _, pos := _, after := _, guard := none }) (v := .int .i64 (N0 : Int)) rfl (by kernel_rfl) (by kernel_rfl) (by kernel_rfl) (by kernel_rfl) (fun _ _ _ h => h) (yields_take rfl (fun w' hw => by obtain ⟨h1, h2⟩ := hw.const; go_simp)) hS0.out ?_
    simp only [Act.put, List.setIfInBounds_toArray, List.set_cons_zero, List.set_cons_succ]
    refine wpAnyU_take (i := 2) (oi := { dst := some 49, op := _, type := _, pos := _, after := _, guard := none }) (v := .agg #[.slice (some ⟨g1t, 0, none⟩) 2 c1t, .slice (some ⟨g2t, 0, none⟩) Q Q]) rfl (by kernel_rfl) (by kernel_rfl) (by kernel_rfl) (by kernel_rfl) (fun _ _ _ h => h) (yields_take rfl (fun w' hw => by obtain ⟨h1, h2⟩ := hw.const; go_simp)) hS0.out ?_
    simp only [Act.put, List.setIfInBounds_toArray, List.set_cons_zero, List.set_cons_succ]
    refine wpAnyU_or (i := 1) (j := 7) (by kernel_rfl) rfl rfl ?_ ?_
    · intro K hK
      go_simp
      refine Calls.mono (ones7_any N0 _ hb0) ?_
      rintro e u5 ⟨g1o, c1o, g2o, rfl, ho1, ho2, _, hb⟩
      dsimp only
      have hd1 : Below VT.heap.size VT u5 := below_nx6 hd0 hb
      have he1 : Below V4.heap.size V4 u5 := below_nx6 he0 hb
      have hz1 := hd1.size
      have hy1 := he1.size
      clear hb
      have hS1 : Hid (u5.cell? ⟨u3.heap.size, 0, none⟩ = some (.slice (some ⟨g1t, 0, none⟩) 2 c1t) ∧ u5.cell? ⟨u3.heap.size, 1, none⟩ = some (.slice (some ⟨g2t, 0, none⟩) Q Q)) := hide (HCT.out _ hd1)
      refine hK.out _ _ hS1.out (fun _ => ?_)
      clear hK K hS0
      refine wpAnyU_or (i := 3) (j := 7) (by kernel_rfl) rfl rfl ?_ ?_
      · intro K hK
        go_simp
        refine Calls.mono (pof_ok (some ⟨g1o, 0, none⟩) (some ⟨g2o, 0, none⟩) (some ⟨g1t, 0, none⟩) (some ⟨g2t, 0, none⟩) c1o (N0 * N0) (N0 * N0) c1t Q Q N0 N0 N1 (oneTo N0 N0) Lt _ ((lies_of_own ho1)) ((lies_of_own ho2)) (HT_t.out.S.below he1) (HT_t.out.L.below he1) (two_ten (by omega) (by omega)) (by rw [HQ.out]; exact two_ten (by omega) (by omega))) ?_
        rintro e u6 ⟨g1x, c1x, g2x, rfl, hp1, hp2, _, hb⟩
        dsimp only
        have hd2 : Below VT.heap.size VT u6 := below_nx6 hd1 hb
        have he2 : Below V4.heap.size V4 u6 := below_nx6 he1 hb
        have hz2 := hd2.size
        have hy2 := he2.size
        rw [prod_one_left HRL_Lt.out HRW_Lt.out] at hp2
        have lt1 := hp1.lt g1x rfl
        have lt2 := hp2.lt g2x rfl
        clear hb ho1 ho2
        have hS2 : Hid (u6.cell? ⟨u3.heap.size, 0, none⟩ = some (.slice (some ⟨g1t, 0, none⟩) 2 c1t) ∧ u6.cell? ⟨u3.heap.size, 1, none⟩ = some (.slice (some ⟨g2t, 0, none⟩) Q Q)) := hide (HCT.out _ hd2)
        refine hK.out _ _ hS2.out (fun _ => ?_)
        clear hK K hS1
        refine wpAnyU_take (i := 4) (oi := { dst := some 46, op := _, type := _, pos := _, after := _, guard := none }) (v := .tuple #[(tenV (some ⟨g1x, 0, none⟩) 2 c1x (some ⟨g2x, 0, none⟩) (N0 * N1) (N0 * N1)), .int .i64 0]) rfl (by kernel_rfl) (by kernel_rfl) (by kernel_rfl) (by kernel_rfl) (fun _ _ _ h => h) (yields_take rfl (fun w' hw => by obtain ⟨h1, h2⟩ := hw.const; go_simp)) hS2.out ?_
        simp only [Act.put, List.setIfInBounds_toArray, List.set_cons_zero, List.set_cons_succ]
        refine wpAnyU_take (i := 5) (oi := { dst := some 51, op := _, type := _, pos := _, after := _, guard := none }) (v := (tenV (some ⟨g1x, 0, none⟩) 2 c1x (some ⟨g2x, 0, none⟩) (N0 * N1) (N0 * N1))) rfl (by kernel_rfl) (by kernel_rfl) (by kernel_rfl) (by kernel_rfl) (fun _ _ _ h => h) (yields_take rfl (fun w' hw => by obtain ⟨h1, h2⟩ := hw.const; go_simp)) hS2.out ?_
        simp only [Act.put, List.setIfInBounds_toArray, List.set_cons_zero, List.set_cons_succ]
        refine wpAnyU_take (i := 6) (oi := { dst := some 52, op := _, type := _, pos := _, after := _, guard := none }) (v := .int .i64 0) rfl (by kernel_rfl) (by kernel_rfl) (by kernel_rfl) (by kernel_rfl) (fun _ _ _ h => h) (yields_take rfl (fun w' hw => by obtain ⟨h1, h2⟩ := hw.const; go_simp)) hS2.out ?_
        simp only [Act.put, List.setIfInBounds_toArray, List.set_cons_zero, List.set_cons_succ]
        refine wpAnyU_one (i := 7) (by kernel_rfl) rfl ?_
        intro K hK
        go_simp
        have hd3 : Below VT.heap.size VT (u6.alloc (.cells #[.slice none 0 0, .slice none 0 0] 28)) := below_al6 hd2
        have he3 : Below V4.heap.size V4 (u6.alloc (.cells #[.slice none 0 0, .slice none 0 0] 28)) := below_al6 he2
        have HX : Hid (BoxT (u6.alloc (.cells #[.slice none 0 0, .slice none 0 0] 28)) u6.heap.size (.slice none 0 0) (.slice none 0 0)) := hide (BoxT.new u6 _ _)
        have hsb : (u6.alloc (.cells #[.slice none 0 0, .slice none 0 0] 28)).heap.size = u6.heap.size + 1 := by simp
        have hS3 : Hid ((u6.alloc (.cells #[.slice none 0 0, .slice none 0 0] 28)).cell? ⟨u3.heap.size, 0, none⟩ = some (.slice (some ⟨g1t, 0, none⟩) 2 c1t) ∧ (u6.alloc (.cells #[.slice none 0 0, .slice none 0 0] 28)).cell? ⟨u3.heap.size, 1, none⟩ = some (.slice (some ⟨g2t, 0, none⟩) Q Q)) := hide (HCT.out _ hd3)
        refine hK.out _ _ hS3.out (fun _ => ?_)
        clear hK K hS2
        have r0 := HX.out.c0
        have r1 := HX.out.c1
        have rf0 := HX.out.f0 0
        have rf1 := HX.out.f0 1
        refine wpAnyU_one (i := 8) (by kernel_rfl) rfl ?_
        intro K hK
        go_simp
        have hd4 : Below VT.heap.size VT (u6.alloc (.cells #[.slice (some ⟨g1x, 0, none⟩) 2 c1x, .slice (some ⟨g2x, 0, none⟩) (N0 * N1) (N0 * N1)] 28)) := below_al6 hd2
        have he4 : Below V4.heap.size V4 (u6.alloc (.cells #[.slice (some ⟨g1x, 0, none⟩) 2 c1x, .slice (some ⟨g2x, 0, none⟩) (N0 * N1) (N0 * N1)] 28)) := below_al6 he2
        replace hp1 := hp1.alloc (.cells #[.slice (some ⟨g1x, 0, none⟩) 2 c1x, .slice (some ⟨g2x, 0, none⟩) (N0 * N1) (N0 * N1)] 28)
        replace hp2 := hp2.alloc (.cells #[.slice (some ⟨g1x, 0, none⟩) 2 c1x, .slice (some ⟨g2x, 0, none⟩) (N0 * N1) (N0 * N1)] 28)
        have hS4 : Hid ((u6.alloc (.cells #[.slice (some ⟨g1x, 0, none⟩) 2 c1x, .slice (some ⟨g2x, 0, none⟩) (N0 * N1) (N0 * N1)] 28)).cell? ⟨u3.heap.size, 0, none⟩ = some (.slice (some ⟨g1t, 0, none⟩) 2 c1t) ∧ (u6.alloc (.cells #[.slice (some ⟨g1x, 0, none⟩) 2 c1x, .slice (some ⟨g2x, 0, none⟩) (N0 * N1) (N0 * N1)] 28)).cell? ⟨u3.heap.size, 1, none⟩ = some (.slice (some ⟨g2t, 0, none⟩) Q Q)) := hide (HCT.out _ hd4)
        refine hK.out _ _ hS4.out (fun _ => ?_)
        clear hK K hS3
        refine wpAnyU_take (i := 9) (oi := { dst := some 9, op := _, type := _, pos := _, after := _, guard := none }) (v := .int .i64 0) rfl (by kernel_rfl) (by kernel_rfl) (by kernel_rfl) (by kernel_rfl) (fun _ _ _ h => h) (yields_take rfl (fun w' hw => by obtain ⟨h1, h2⟩ := hw.const; go_simp)) hS4.out ?_
        simp only [Act.put, List.setIfInBounds_toArray, List.set_cons_zero, List.set_cons_succ]
        refine wpAnyU_done (by kernel_rfl) ?_ _
        clear hS4
        go_wp2_with fail
        go_meet
        exact ⟨_, g1x, c1x, g2x, rfl, rfl, hide ⟨BoxT.new _ _ _, lies_of_own hp1, lies_of_own hp2⟩, hide he4⟩
      · intro K hK
        go_simp
        have hd2 : Below VT.heap.size VT (u5.alloc (.cells #[.slice none 0 0, .slice none 0 0] 28)) := below_al6 hd1
        have he2 : Below V4.heap.size V4 (u5.alloc (.cells #[.slice none 0 0, .slice none 0 0] 28)) := below_al6 he1
        have HX : Hid (BoxT (u5.alloc (.cells #[.slice none 0 0, .slice none 0 0] 28)) u5.heap.size (.slice none 0 0) (.slice none 0 0)) := hide (BoxT.new u5 _ _)
        have hsb : (u5.alloc (.cells #[.slice none 0 0, .slice none 0 0] 28)).heap.size = u5.heap.size + 1 := by simp
        have hS2 : Hid ((u5.alloc (.cells #[.slice none 0 0, .slice none 0 0] 28)).cell? ⟨u3.heap.size, 0, none⟩ = some (.slice (some ⟨g1t, 0, none⟩) 2 c1t) ∧ (u5.alloc (.cells #[.slice none 0 0, .slice none 0 0] 28)).cell? ⟨u3.heap.size, 1, none⟩ = some (.slice (some ⟨g2t, 0, none⟩) Q Q)) := hide (HCT.out _ hd2)
        refine hK.out _ _ hS2.out (fun _ => ?_)
        clear hK K hS1
        refine wpAnyU_one (i := 3) (by kernel_rfl) rfl ?_
        intro K hK
        go_simp
        refine Calls.mono (pof_ok (some ⟨g1o, 0, none⟩) (some ⟨g2o, 0, none⟩) (some ⟨g1t, 0, none⟩) (some ⟨g2t, 0, none⟩) c1o (N0 * N0) (N0 * N0) c1t Q Q N0 N0 N1 (oneTo N0 N0) Lt _ ((lies_of_own ho1).below (below_al6 (Below.refl _ _))) ((lies_of_own ho2).below (below_al6 (Below.refl _ _))) (HT_t.out.S.below he2) (HT_t.out.L.below he2) (two_ten (by omega) (by omega)) (by rw [HQ.out]; exact two_ten (by omega) (by omega))) ?_
        rintro e u7 ⟨g1x, c1x, g2x, rfl, hp1, hp2, _, hb⟩
        dsimp only
        have hd3 : Below VT.heap.size VT u7 := below_nx6 hd2 hb
        have he3 : Below V4.heap.size V4 u7 := below_nx6 he2 hb
        have hz3 := hd3.size
        have hy3 := he3.size
        rw [prod_one_left HRL_Lt.out HRW_Lt.out] at hp2
        have lt1 := hp1.lt g1x rfl
        have lt2 := hp2.lt g2x rfl
        have HX := hide (HX.out.kept hb)
        clear hb ho1 ho2
        have hS3 : Hid (u7.cell? ⟨u3.heap.size, 0, none⟩ = some (.slice (some ⟨g1t, 0, none⟩) 2 c1t) ∧ u7.cell? ⟨u3.heap.size, 1, none⟩ = some (.slice (some ⟨g2t, 0, none⟩) Q Q)) := hide (HCT.out _ hd3)
        refine hK.out _ _ hS3.out (fun _ => ?_)
        clear hK K hS2
        refine wpAnyU_take (i := 4) (oi := { dst := some 46, op := _, type := _, pos := _, after := _, guard := none }) (v := .tuple #[(tenV (some ⟨g1x, 0, none⟩) 2 c1x (some ⟨g2x, 0, none⟩) (N0 * N1) (N0 * N1)), .int .i64 0]) rfl (by kernel_rfl) (by kernel_rfl) (by kernel_rfl) (by kernel_rfl) (fun _ _ _ h => h) (yields_take rfl (fun w' hw => by obtain ⟨h1, h2⟩ := hw.const; go_simp)) hS3.out ?_
        simp only [Act.put, List.setIfInBounds_toArray, List.set_cons_zero, List.set_cons_succ]
        refine wpAnyU_take (i := 5) (oi := { dst := some 51, op := _, type := _, pos := _, after := _, guard := none }) (v := (tenV (some ⟨g1x, 0, none⟩) 2 c1x (some ⟨g2x, 0, none⟩) (N0 * N1) (N0 * N1))) rfl (by kernel_rfl) (by kernel_rfl) (by kernel_rfl) (by kernel_rfl) (fun _ _ _ h => h) (yields_take rfl (fun w' hw => by obtain ⟨h1, h2⟩ := hw.const; go_simp)) hS3.out ?_
        simp only [Act.put, List.setIfInBounds_toArray, List.set_cons_zero, List.set_cons_succ]
        refine wpAnyU_take (i := 6) (oi := { dst := some 52, op := _, type := _, pos := _, after := _, guard := none }) (v := .int .i64 0) rfl (by kernel_rfl) (by kernel_rfl) (by kernel_rfl) (by kernel_rfl) (fun _ _ _ h => h) (yields_take rfl (fun w' hw => by obtain ⟨h1, h2⟩ := hw.const; go_simp)) hS3.out ?_
        simp only [Act.put, List.setIfInBounds_toArray, List.set_cons_zero, List.set_cons_succ]
        have r0 := HX.out.c0
        have r1 := HX.out.c1
        have rf0 := HX.out.f0 0
        have rf1 := HX.out.f0 1
        refine wpAnyU_one (i := 8) (by kernel_rfl) rfl ?_
        intro K hK
        go_simp
        have hd4 : Below VT.heap.size VT ((u7.setCell ⟨u5.heap.size, 0, none⟩ (.slice (some ⟨g1x, 0, none⟩) 2 c1x)).setCell ⟨u5.heap.size, 1, none⟩ (.slice (some ⟨g2x, 0, none⟩) (N0 * N1) (N0 * N1))) := (hd3.setCell (by dsimp only; omega) _).setCell (by dsimp only; omega) _
        have he4 : Below V4.heap.size V4 ((u7.setCell ⟨u5.heap.size, 0, none⟩ (.slice (some ⟨g1x, 0, none⟩) 2 c1x)).setCell ⟨u5.heap.size, 1, none⟩ (.slice (some ⟨g2x, 0, none⟩) (N0 * N1) (N0 * N1))) := (he3.setCell (by dsimp only; omega) _).setCell (by dsimp only; omega) _
        have hS4 : Hid (((u7.setCell ⟨u5.heap.size, 0, none⟩ (.slice (some ⟨g1x, 0, none⟩) 2 c1x)).setCell ⟨u5.heap.size, 1, none⟩ (.slice (some ⟨g2x, 0, none⟩) (N0 * N1) (N0 * N1))).cell? ⟨u3.heap.size, 0, none⟩ = some (.slice (some ⟨g1t, 0, none⟩) 2 c1t) ∧ ((u7.setCell ⟨u5.heap.size, 0, none⟩ (.slice (some ⟨g1x, 0, none⟩) 2 c1x)).setCell ⟨u5.heap.size, 1, none⟩ (.slice (some ⟨g2x, 0, none⟩) (N0 * N1) (N0 * N1))).cell? ⟨u3.heap.size, 1, none⟩ = some (.slice (some ⟨g2t, 0, none⟩) Q Q)) := hide (HCT.out _ hd4)
        refine hK.out _ _ hS4.out (fun _ => ?_)
        clear hK K hS3
        refine wpAnyU_take (i := 9) (oi := { dst := some 9, op := _, type := _, pos := _, after := _, guard := none }) (v := .int .i64 0) rfl (by kernel_rfl) (by kernel_rfl) (by kernel_rfl) (by kernel_rfl) (fun _ _ _ h => h) (yields_take rfl (fun w' hw => by obtain ⟨h1, h2⟩ := hw.const; go_simp)) hS4.out ?_
        simp only [Act.put, List.setIfInBounds_toArray, List.set_cons_zero, List.set_cons_succ]
        refine wpAnyU_done (by kernel_rfl) ?_ _
        clear hS4
        go_wp2_with fail
        go_meet
        exact ⟨_, g1x, c1x, g2x, rfl, rfl, hide ⟨HX.out.set2 _ _, lies_of_own (own_setCell' (own_setCell' hp1 (by dsimp only; omega) _) (by dsimp only; omega) _), lies_of_own (own_setCell' (own_setCell' hp2 (by dsimp only; omega) _) (by dsimp only; omega) _)⟩, hide he4⟩
    · intro K hK
      go_simp
      have hd1 : Below VT.heap.size VT (V4.drew.alloc (.cells #[.slice none 0 0, .slice none 0 0] 28)) := below_al6 hd0
      have he1 : Below V4.heap.size V4 (V4.drew.alloc (.cells #[.slice none 0 0, .slice none 0 0] 28)) := below_al6 he0
      have HX : Hid (BoxT (V4.drew.alloc (.cells #[.slice none 0 0, .slice none 0 0] 28)) V4.heap.size (.slice none 0 0) (.slice none 0 0)) := hide (BoxT.new V4.drew _ _)
      have hsb : (V4.drew.alloc (.cells #[.slice none 0 0, .slice none 0 0] 28)).heap.size = V4.heap.size + 1 := by simp
      have hS1 : Hid ((V4.drew.alloc (.cells #[.slice none 0 0, .slice none 0 0] 28)).cell? ⟨u3.heap.size, 0, none⟩ = some (.slice (some ⟨g1t, 0, none⟩) 2 c1t) ∧ (V4.drew.alloc (.cells #[.slice none 0 0, .slice none 0 0] 28)).cell? ⟨u3.heap.size, 1, none⟩ = some (.slice (some ⟨g2t, 0, none⟩) Q Q)) := hide (HCT.out _ hd1)
      refine hK.out _ _ hS1.out (fun _ => ?_)
      clear hK K hS0
      refine wpAnyU_one (i := 1) (by kernel_rfl) rfl ?_
      intro K hK
      go_simp
      refine Calls.mono (ones7_any N0 _ hb0) ?_
      rintro e u8 ⟨g1o, c1o, g2o, rfl, ho1, ho2, _, hb⟩
      dsimp only
      have hd2 : Below VT.heap.size VT u8 := below_nx6 hd1 hb
      have he2 : Below V4.heap.size V4 u8 := below_nx6 he1 hb
      have hz2 := hd2.size
      have hy2 := he2.size
      have hbs : V4.heap.size + 1 ≤ u8.heap.size := by have h := hb.size; simpa using h
      have HX := hide (HX.out.kept hb)
      clear hb
      have hS2 : Hid (u8.cell? ⟨u3.heap.size, 0, none⟩ = some (.slice (some ⟨g1t, 0, none⟩) 2 c1t) ∧ u8.cell? ⟨u3.heap.size, 1, none⟩ = some (.slice (some ⟨g2t, 0, none⟩) Q Q)) := hide (HCT.out _ hd2)
      refine hK.out _ _ hS2.out (fun _ => ?_)
      clear hK K hS1
      refine wpAnyU_one (i := 3) (by kernel_rfl) rfl ?_
      intro K hK
      go_simp
      refine Calls.mono (pof_ok (some ⟨g1o, 0, none⟩) (some ⟨g2o, 0, none⟩) (some ⟨g1t, 0, none⟩) (some ⟨g2t, 0, none⟩) c1o (N0 * N0) (N0 * N0) c1t Q Q N0 N0 N1 (oneTo N0 N0) Lt _ ((lies_of_own ho1)) ((lies_of_own ho2)) (HT_t.out.S.below he2) (HT_t.out.L.below he2) (two_ten (by omega) (by omega)) (by rw [HQ.out]; exact two_ten (by omega) (by omega))) ?_
      rintro e u9 ⟨g1x, c1x, g2x, rfl, hp1, hp2, _, hb⟩
      dsimp only
      have hd3 : Below VT.heap.size VT u9 := below_nx6 hd2 hb
      have he3 : Below V4.heap.size V4 u9 := below_nx6 he2 hb
      have hz3 := hd3.size
      have hy3 := he3.size
      rw [prod_one_left HRL_Lt.out HRW_Lt.out] at hp2
      have lt1 := hp1.lt g1x rfl
      have lt2 := hp2.lt g2x rfl
      have HX := hide (HX.out.kept hb)
      clear hb ho1 ho2
      have hS3 : Hid (u9.cell? ⟨u3.heap.size, 0, none⟩ = some (.slice (some ⟨g1t, 0, none⟩) 2 c1t) ∧ u9.cell? ⟨u3.heap.size, 1, none⟩ = some (.slice (some ⟨g2t, 0, none⟩) Q Q)) := hide (HCT.out _ hd3)
      refine hK.out _ _ hS3.out (fun _ => ?_)
      clear hK K hS2
      refine wpAnyU_take (i := 4) (oi := { dst := some 46, op := _, type := _, pos := _, after := _, guard := none }) (v := .tuple #[(tenV (some ⟨g1x, 0, none⟩) 2 c1x (some ⟨g2x, 0, none⟩) (N0 * N1) (N0 * N1)), .int .i64 0]) rfl (by kernel_rfl) (by kernel_rfl) (by kernel_rfl) (by kernel_rfl) (fun _ _ _ h => h) (yields_take rfl (fun w' hw => by obtain ⟨h1, h2⟩ := hw.const; go_simp)) hS3.out ?_
      simp only [Act.put, List.setIfInBounds_toArray, List.set_cons_zero, List.set_cons_succ]
      refine wpAnyU_take (i := 5) (oi := { dst := some 51, op := _, type := _, pos := _, after := _, guard := none }) (v := (tenV (some ⟨g1x, 0, none⟩) 2 c1x (some ⟨g2x, 0, none⟩) (N0 * N1) (N0 * N1))) rfl (by kernel_rfl) (by kernel_rfl) (by kernel_rfl) (by kernel_rfl) (fun _ _ _ h => h) (yields_take rfl (fun w' hw => by obtain ⟨h1, h2⟩ := hw.const; go_simp)) hS3.out ?_
      simp only [Act.put, List.setIfInBounds_toArray, List.set_cons_zero, List.set_cons_succ]
      refine wpAnyU_take (i := 6) (oi := { dst := some 52, op := _, type := _, pos := _, after := _, guard := none }) (v := .int .i64 0) rfl (by kernel_rfl) (by kernel_rfl) (by kernel_rfl) (by kernel_rfl) (fun _ _ _ h => h) (yields_take rfl (fun w' hw => by obtain ⟨h1, h2⟩ := hw.const; go_simp)) hS3.out ?_
      simp only [Act.put, List.setIfInBounds_toArray, List.set_cons_zero, List.set_cons_succ]
      have r0 := HX.out.c0
      have r1 := HX.out.c1
      have rf0 := HX.out.f0 0
      have rf1 := HX.out.f0 1
      refine wpAnyU_one (i := 8) (by kernel_rfl) rfl ?_
      intro K hK
      go_simp
      have hd4 : Below VT.heap.size VT ((u9.setCell ⟨V4.heap.size, 0, none⟩ (.slice (some ⟨g1x, 0, none⟩) 2 c1x)).setCell ⟨V4.heap.size, 1, none⟩ (.slice (some ⟨g2x, 0, none⟩) (N0 * N1) (N0 * N1))) := (hd3.setCell (by dsimp only; omega) _).setCell (by dsimp only; omega) _
      have he4 : Below V4.heap.size V4 ((u9.setCell ⟨V4.heap.size, 0, none⟩ (.slice (some ⟨g1x, 0, none⟩) 2 c1x)).setCell ⟨V4.heap.size, 1, none⟩ (.slice (some ⟨g2x, 0, none⟩) (N0 * N1) (N0 * N1))) := (he3.setCell (by dsimp only; omega) _).setCell (by dsimp only; omega) _
      have hS4 : Hid (((u9.setCell ⟨V4.heap.size, 0, none⟩ (.slice (some ⟨g1x, 0, none⟩) 2 c1x)).setCell ⟨V4.heap.size, 1, none⟩ (.slice (some ⟨g2x, 0, none⟩) (N0 * N1) (N0 * N1))).cell? ⟨u3.heap.size, 0, none⟩ = some (.slice (some ⟨g1t, 0, none⟩) 2 c1t) ∧ ((u9.setCell ⟨V4.heap.size, 0, none⟩ (.slice (some ⟨g1x, 0, none⟩) 2 c1x)).setCell ⟨V4.heap.size, 1, none⟩ (.slice (some ⟨g2x, 0, none⟩) (N0 * N1) (N0 * N1))).cell? ⟨u3.heap.size, 1, none⟩ = some (.slice (some ⟨g2t, 0, none⟩) Q Q)) := hide (HCT.out _ hd4)
      refine hK.out _ _ hS4.out (fun _ => ?_)
      clear hK K hS3
      refine wpAnyU_take (i := 9) (oi := { dst := some 9, op := _, type := _, pos := _, after := _, guard := none }) (v := .int .i64 0) rfl (by kernel_rfl) (by kernel_rfl) (by kernel_rfl) (by kernel_rfl) (fun _ _ _ h => h) (yields_take rfl (fun w' hw => by obtain ⟨h1, h2⟩ := hw.const; go_simp)) hS4.out ?_
      simp only [Act.put, List.setIfInBounds_toArray, List.set_cons_zero, List.set_cons_succ]
      refine wpAnyU_done (by kernel_rfl) ?_ _
      clear hS4
      go_wp2_with fail
      go_meet
      exact ⟨_, g1x, c1x, g2x, rfl, rfl, hide ⟨HX.out.set2 _ _, lies_of_own (own_setCell' (own_setCell' hp1 (by dsimp only; omega) _) (by dsimp only; omega) _), lies_of_own (own_setCell' (own_setCell' hp2 (by dsimp only; omega) _) (by dsimp only; omega) _)⟩, hide he4⟩
  obtain ⟨pxx, g1x, c1x, g2x, rfl, rfl, HT_x, HBC⟩ := hcut
  rename World => V10
  have hb := HBC.out
  replace HT_t := hide (HT_t.out.kept hb)
  replace HBA := hide (below_nx6 HBA.out hb)
  replace HBT := hide (below_nx6 HBT.out hb)
  replace HBW := hide (HBW.out.trans (hb.mono HBW.out.size))
  clear hb HBC cxt0 cxt1
  have cxt0 := HT_t.out.c0
  have cxt1 := HT_t.out.c1
  go_wp2
  go_cut [10, 11] from 24 (fun s1 s2 wc => ∃ px g1 c1 g2, s1 = .pointer (some ⟨px, 0, none⟩) ∧ s2 = .int .i64 0 ∧ Hid (TenAt wc px (some ⟨g1, 0, none⟩) (some ⟨g2, 0, none⟩) 2 c1 (N0 * N1) (N0 * N1) [(N0 : Int), (N1 : Int)] Lt) ∧ Hid (Below V10.heap.size V10 wc))
  case first =>
    have hd0 : Below VT.heap.size VT V10.drew := below_drewN HBT.out 1
    have he0 : Below V10.heap.size V10 V10.drew := below_drewN (Below.refl _ _) 1
    have hz0 := HBT.out.size
    have hS0 : Hid (V10.drew.cell? ⟨u3.heap.size, 0, none⟩ = some (.slice (some ⟨g1t, 0, none⟩) 2 c1t) ∧ V10.drew.cell? ⟨u3.heap.size, 1, none⟩ = some (.slice (some ⟨g2t, 0, none⟩) Q Q)) := hide (HCT.out _ hd0)
    refine wp_region_U (fun _ v => v.cell? ⟨u3.heap.size, 0, none⟩ = some (.slice (some ⟨g1t, 0, none⟩) 2 c1t) ∧ v.cell? ⟨u3.heap.size, 1, none⟩ = some (.slice (some ⟨g2t, 0, none⟩) Q Q)) 99 (by kernel_rfl) ?_
    refine wpAnyU_take (i := 0) (oi := { dst := some 54, op := _, type := _, pos := _, after := _, guard := none }) (v := .agg #[.slice (some ⟨g1t, 0, none⟩) 2 c1t, .slice (some ⟨g2t, 0, none⟩) Q Q]) rfl (by kernel_rfl) (by kernel_rfl) (by kernel_rfl) (by kernel_rfl) (fun _ _ _ h => h) (yields_take rfl (fun w' hw => by obtain ⟨h1, h2⟩ := hw.const; go_simp)) hS0.out ?_
    simp only [Act.put, List.setIfInBounds_toArray, List.set_cons_zero, List.set_cons_succ]
    refine wpAnyU_take (i := 1) (oi := { dst := some 55, op := _, type := _, pos := _, after := _, guard := none }) (v := .int .i64 (N1 : Int)) rfl (by kernel_rfl) (by kernel_rfl) (by kernel_rfl) (by kernel_rfl) (fun _ _ _ h => h) (yields_take rfl (fun w' hw => by obtain ⟨h1, h2⟩ := hw.const; go_simp)) hS0.out ?_
    simp only [Act.put, List.setIfInBounds_toArray, List.set_cons_zero, List.set_cons_succ]
    refine wpAnyU_or (i := 2) (j := 7) (by kernel_rfl) rfl rfl ?_ ?_
    · intro K hK
      go_simp
      refine Calls.mono (ones7_any N1 _ hb1) ?_
      rintro e u11 ⟨g1o, c1o, g2o, rfl, ho1, ho2, _, hb⟩
      dsimp only
      have hd1 : Below VT.heap.size VT u11 := below_nx6 hd0 hb
      have he1 : Below V10.heap.size V10 u11 := below_nx6 he0 hb
      have hz1 := hd1.size
      have hy1 := he1.size
      clear hb
      have hS1 : Hid (u11.cell? ⟨u3.heap.size, 0, none⟩ = some (.slice (some ⟨g1t, 0, none⟩) 2 c1t) ∧ u11.cell? ⟨u3.heap.size, 1, none⟩ = some (.slice (some ⟨g2t, 0, none⟩) Q Q)) := hide (HCT.out _ hd1)
      refine hK.out _ _ hS1.out (fun _ => ?_)
      clear hK K hS0
      refine wpAnyU_or (i := 3) (j := 7) (by kernel_rfl) rfl rfl ?_ ?_
      · intro K hK
        go_simp
        refine Calls.mono (pof_ok (some ⟨g1t, 0, none⟩) (some ⟨g2t, 0, none⟩) (some ⟨g1o, 0, none⟩) (some ⟨g2o, 0, none⟩) c1t Q Q c1o (N1 * N1) (N1 * N1) N0 N1 N1 Lt (oneTo N1 N1) _ (HT_t.out.S.below he1) (HT_t.out.L.below he1) ((lies_of_own ho1)) ((lies_of_own ho2)) (by rw [HQ.out]; exact two_ten (by omega) (by omega)) (two_ten (by omega) (by omega))) ?_
        rintro e u12 ⟨g1y, c1y, g2y, rfl, hp1, hp2, _, hb⟩
        dsimp only
        have hd2 : Below VT.heap.size VT u12 := below_nx6 hd1 hb
        have he2 : Below V10.heap.size V10 u12 := below_nx6 he1 hb
        have hz2 := hd2.size
        have hy2 := he2.size
        rw [prod_one_right HRL_Lt.out HRW_Lt.out] at hp2
        have lt1 := hp1.lt g1y rfl
        have lt2 := hp2.lt g2y rfl
        clear hb ho1 ho2
        have hS2 : Hid (u12.cell? ⟨u3.heap.size, 0, none⟩ = some (.slice (some ⟨g1t, 0, none⟩) 2 c1t) ∧ u12.cell? ⟨u3.heap.size, 1, none⟩ = some (.slice (some ⟨g2t, 0, none⟩) Q Q)) := hide (HCT.out _ hd2)
        refine hK.out _ _ hS2.out (fun _ => ?_)
        clear hK K hS1
        refine wpAnyU_take (i := 4) (oi := { dst := some 53, op := _, type := _, pos := _, after := _, guard := none }) (v := .tuple #[(tenV (some ⟨g1y, 0, none⟩) 2 c1y (some ⟨g2y, 0, none⟩) (N0 * N1) (N0 * N1)), .int .i64 0]) rfl (by kernel_rfl) (by kernel_rfl) (by kernel_rfl) (by kernel_rfl) (fun _ _ _ h => h) (yields_take rfl (fun w' hw => by obtain ⟨h1, h2⟩ := hw.const; go_simp)) hS2.out ?_
        simp only [Act.put, List.setIfInBounds_toArray, List.set_cons_zero, List.set_cons_succ]
        refine wpAnyU_take (i := 5) (oi := { dst := some 58, op := _, type := _, pos := _, after := _, guard := none }) (v := (tenV (some ⟨g1y, 0, none⟩) 2 c1y (some ⟨g2y, 0, none⟩) (N0 * N1) (N0 * N1))) rfl (by kernel_rfl) (by kernel_rfl) (by kernel_rfl) (by kernel_rfl) (fun _ _ _ h => h) (yields_take rfl (fun w' hw => by obtain ⟨h1, h2⟩ := hw.const; go_simp)) hS2.out ?_
        simp only [Act.put, List.setIfInBounds_toArray, List.set_cons_zero, List.set_cons_succ]
        refine wpAnyU_take (i := 6) (oi := { dst := some 59, op := _, type := _, pos := _, after := _, guard := none }) (v := .int .i64 0) rfl (by kernel_rfl) (by kernel_rfl) (by kernel_rfl) (by kernel_rfl) (fun _ _ _ h => h) (yields_take rfl (fun w' hw => by obtain ⟨h1, h2⟩ := hw.const; go_simp)) hS2.out ?_
        simp only [Act.put, List.setIfInBounds_toArray, List.set_cons_zero, List.set_cons_succ]
        refine wpAnyU_one (i := 7) (by kernel_rfl) rfl ?_
        intro K hK
        go_simp
        have hd3 : Below VT.heap.size VT (u12.alloc (.cells #[.slice none 0 0, .slice none 0 0] 28)) := below_al6 hd2
        have he3 : Below V10.heap.size V10 (u12.alloc (.cells #[.slice none 0 0, .slice none 0 0] 28)) := below_al6 he2
        have HX : Hid (BoxT (u12.alloc (.cells #[.slice none 0 0, .slice none 0 0] 28)) u12.heap.size (.slice none 0 0) (.slice none 0 0)) := hide (BoxT.new u12 _ _)
        have hsb : (u12.alloc (.cells #[.slice none 0 0, .slice none 0 0] 28)).heap.size = u12.heap.size + 1 := by simp
        have hS3 : Hid ((u12.alloc (.cells #[.slice none 0 0, .slice none 0 0] 28)).cell? ⟨u3.heap.size, 0, none⟩ = some (.slice (some ⟨g1t, 0, none⟩) 2 c1t) ∧ (u12.alloc (.cells #[.slice none 0 0, .slice none 0 0] 28)).cell? ⟨u3.heap.size, 1, none⟩ = some (.slice (some ⟨g2t, 0, none⟩) Q Q)) := hide (HCT.out _ hd3)
        refine hK.out _ _ hS3.out (fun _ => ?_)
        clear hK K hS2
        have r0 := HX.out.c0
        have r1 := HX.out.c1
        have rf0 := HX.out.f0 0
        have rf1 := HX.out.f0 1
        refine wpAnyU_one (i := 8) (by kernel_rfl) rfl ?_
        intro K hK
        go_simp
        have hd4 : Below VT.heap.size VT (u12.alloc (.cells #[.slice (some ⟨g1y, 0, none⟩) 2 c1y, .slice (some ⟨g2y, 0, none⟩) (N0 * N1) (N0 * N1)] 28)) := below_al6 hd2
        have he4 : Below V10.heap.size V10 (u12.alloc (.cells #[.slice (some ⟨g1y, 0, none⟩) 2 c1y, .slice (some ⟨g2y, 0, none⟩) (N0 * N1) (N0 * N1)] 28)) := below_al6 he2
        replace hp1 := hp1.alloc (.cells #[.slice (some ⟨g1y, 0, none⟩) 2 c1y, .slice (some ⟨g2y, 0, none⟩) (N0 * N1) (N0 * N1)] 28)
        replace hp2 := hp2.alloc (.cells #[.slice (some ⟨g1y, 0, none⟩) 2 c1y, .slice (some ⟨g2y, 0, none⟩) (N0 * N1) (N0 * N1)] 28)
        have hS4 : Hid ((u12.alloc (.cells #[.slice (some ⟨g1y, 0, none⟩) 2 c1y, .slice (some ⟨g2y, 0, none⟩) (N0 * N1) (N0 * N1)] 28)).cell? ⟨u3.heap.size, 0, none⟩ = some (.slice (some ⟨g1t, 0, none⟩) 2 c1t) ∧ (u12.alloc (.cells #[.slice (some ⟨g1y, 0, none⟩) 2 c1y, .slice (some ⟨g2y, 0, none⟩) (N0 * N1) (N0 * N1)] 28)).cell? ⟨u3.heap.size, 1, none⟩ = some (.slice (some ⟨g2t, 0, none⟩) Q Q)) := hide (HCT.out _ hd4)
        refine hK.out _ _ hS4.out (fun _ => ?_)
        clear hK K hS3
        refine wpAnyU_take (i := 9) (oi := { dst := some 11, op := _, type := _, pos := _, after := _, guard := none }) (v := .int .i64 0) rfl (by kernel_rfl) (by kernel_rfl) (by kernel_rfl) (by kernel_rfl) (fun _ _ _ h => h) (yields_take rfl (fun w' hw => by obtain ⟨h1, h2⟩ := hw.const; go_simp)) hS4.out ?_
        simp only [Act.put, List.setIfInBounds_toArray, List.set_cons_zero, List.set_cons_succ]
        refine wpAnyU_done (by kernel_rfl) ?_ _
        clear hS4
        go_wp2_with fail
        go_meet
        exact ⟨_, g1y, c1y, g2y, rfl, rfl, hide ⟨BoxT.new _ _ _, lies_of_own hp1, lies_of_own hp2⟩, hide he4⟩
      · intro K hK
        go_simp
        have hd2 : Below VT.heap.size VT (u11.alloc (.cells #[.slice none 0 0, .slice none 0 0] 28)) := below_al6 hd1
        have he2 : Below V10.heap.size V10 (u11.alloc (.cells #[.slice none 0 0, .slice none 0 0] 28)) := below_al6 he1
        have HX : Hid (BoxT (u11.alloc (.cells #[.slice none 0 0, .slice none 0 0] 28)) u11.heap.size (.slice none 0 0) (.slice none 0 0)) := hide (BoxT.new u11 _ _)
        have hsb : (u11.alloc (.cells #[.slice none 0 0, .slice none 0 0] 28)).heap.size = u11.heap.size + 1 := by simp
        have hS2 : Hid ((u11.alloc (.cells #[.slice none 0 0, .slice none 0 0] 28)).cell? ⟨u3.heap.size, 0, none⟩ = some (.slice (some ⟨g1t, 0, none⟩) 2 c1t) ∧ (u11.alloc (.cells #[.slice none 0 0, .slice none 0 0] 28)).cell? ⟨u3.heap.size, 1, none⟩ = some (.slice (some ⟨g2t, 0, none⟩) Q Q)) := hide (HCT.out _ hd2)
        refine hK.out _ _ hS2.out (fun _ => ?_)
        clear hK K hS1
        refine wpAnyU_one (i := 3) (by kernel_rfl) rfl ?_
        intro K hK
        go_simp
        refine Calls.mono (pof_ok (some ⟨g1t, 0, none⟩) (some ⟨g2t, 0, none⟩) (some ⟨g1o, 0, none⟩) (some ⟨g2o, 0, none⟩) c1t Q Q c1o (N1 * N1) (N1 * N1) N0 N1 N1 Lt (oneTo N1 N1) _ (HT_t.out.S.below he2) (HT_t.out.L.below he2) ((lies_of_own ho1).below (below_al6 (Below.refl _ _))) ((lies_of_own ho2).below (below_al6 (Below.refl _ _))) (by rw [HQ.out]; exact two_ten (by omega) (by omega)) (two_ten (by omega) (by omega))) ?_
        rintro e u13 ⟨g1y, c1y, g2y, rfl, hp1, hp2, _, hb⟩
        dsimp only
        have hd3 : Below VT.heap.size VT u13 := below_nx6 hd2 hb
        have he3 : Below V10.heap.size V10 u13 := below_nx6 he2 hb
        have hz3 := hd3.size
        have hy3 := he3.size
        rw [prod_one_right HRL_Lt.out HRW_Lt.out] at hp2
        have lt1 := hp1.lt g1y rfl
        have lt2 := hp2.lt g2y rfl
        have HX := hide (HX.out.kept hb)
        clear hb ho1 ho2
        have hS3 : Hid (u13.cell? ⟨u3.heap.size, 0, none⟩ = some (.slice (some ⟨g1t, 0, none⟩) 2 c1t) ∧ u13.cell? ⟨u3.heap.size, 1, none⟩ = some (.slice (some ⟨g2t, 0, none⟩) Q Q)) := hide (HCT.out _ hd3)
        refine hK.out _ _ hS3.out (fun _ => ?_)
        clear hK K hS2
        refine wpAnyU_take (i := 4) (oi := { dst := some 53, op := _, type := _, pos := _, after := _, guard := none }) (v := .tuple #[(tenV (some ⟨g1y, 0, none⟩) 2 c1y (some ⟨g2y, 0, none⟩) (N0 * N1) (N0 * N1)), .int .i64 0]) rfl (by kernel_rfl) (by kernel_rfl) (by kernel_rfl) (by kernel_rfl) (fun _ _ _ h => h) (yields_take rfl (fun w' hw => by obtain ⟨h1, h2⟩ := hw.const; go_simp)) hS3.out ?_
        simp only [Act.put, List.setIfInBounds_toArray, List.set_cons_zero, List.set_cons_succ]
        refine wpAnyU_take (i := 5) (oi := { dst := some 58, op := _, type := _, pos := _, after := _, guard := none }) (v := (tenV (some ⟨g1y, 0, none⟩) 2 c1y (some ⟨g2y, 0, none⟩) (N0 * N1) (N0 * N1))) rfl (by kernel_rfl) (by kernel_rfl) (by kernel_rfl) (by kernel_rfl) (fun _ _ _ h => h) (yields_take rfl (fun w' hw => by obtain ⟨h1, h2⟩ := hw.const; go_simp)) hS3.out ?_
        simp only [Act.put, List.setIfInBounds_toArray, List.set_cons_zero, List.set_cons_succ]
        refine wpAnyU_take (i := 6) (oi := { dst := some 59, op := _, type := _, pos := _, after := _, guard := none }) (v := .int .i64 0) rfl (by kernel_rfl) (by kernel_rfl) (by kernel_rfl) (by kernel_rfl) (fun _ _ _ h => h) (yields_take rfl (fun w' hw => by obtain ⟨h1, h2⟩ := hw.const; go_simp)) hS3.out ?_
        simp only [Act.put, List.setIfInBounds_toArray, List.set_cons_zero, List.set_cons_succ]
        have r0 := HX.out.c0
        have r1 := HX.out.c1
        have rf0 := HX.out.f0 0
        have rf1 := HX.out.f0 1
        refine wpAnyU_one (i := 8) (by kernel_rfl) rfl ?_
        intro K hK
        go_simp
        have hd4 : Below VT.heap.size VT ((u13.setCell ⟨u11.heap.size, 0, none⟩ (.slice (some ⟨g1y, 0, none⟩) 2 c1y)).setCell ⟨u11.heap.size, 1, none⟩ (.slice (some ⟨g2y, 0, none⟩) (N0 * N1) (N0 * N1))) := (hd3.setCell (by dsimp only; omega) _).setCell (by dsimp only; omega) _
        have he4 : Below V10.heap.size V10 ((u13.setCell ⟨u11.heap.size, 0, none⟩ (.slice (some ⟨g1y, 0, none⟩) 2 c1y)).setCell ⟨u11.heap.size, 1, none⟩ (.slice (some ⟨g2y, 0, none⟩) (N0 * N1) (N0 * N1))) := (he3.setCell (by dsimp only; omega) _).setCell (by dsimp only; omega) _
        have hS4 : Hid (((u13.setCell ⟨u11.heap.size, 0, none⟩ (.slice (some ⟨g1y, 0, none⟩) 2 c1y)).setCell ⟨u11.heap.size, 1, none⟩ (.slice (some ⟨g2y, 0, none⟩) (N0 * N1) (N0 * N1))).cell? ⟨u3.heap.size, 0, none⟩ = some (.slice (some ⟨g1t, 0, none⟩) 2 c1t) ∧ ((u13.setCell ⟨u11.heap.size, 0, none⟩ (.slice (some ⟨g1y, 0, none⟩) 2 c1y)).setCell ⟨u11.heap.size, 1, none⟩ (.slice (some ⟨g2y, 0, none⟩) (N0 * N1) (N0 * N1))).cell? ⟨u3.heap.size, 1, none⟩ = some (.slice (some ⟨g2t, 0, none⟩) Q Q)) := hide (HCT.out _ hd4)
        refine hK.out _ _ hS4.out (fun _ => ?_)
        clear hK K hS3
        refine wpAnyU_take (i := 9) (oi := { dst := some 11, op := _, type := _, pos := _, after := _, guard := none }) (v := .int .i64 0) rfl (by kernel_rfl) (by kernel_rfl) (by kernel_rfl) (by kernel_rfl) (fun _ _ _ h => h) (yields_take rfl (fun w' hw => by obtain ⟨h1, h2⟩ := hw.const; go_simp)) hS4.out ?_
        simp only [Act.put, List.setIfInBounds_toArray, List.set_cons_zero, List.set_cons_succ]
        refine wpAnyU_done (by kernel_rfl) ?_ _
        clear hS4
        go_wp2_with fail
        go_meet
        exact ⟨_, g1y, c1y, g2y, rfl, rfl, hide ⟨HX.out.set2 _ _, lies_of_own (own_setCell' (own_setCell' hp1 (by dsimp only; omega) _) (by dsimp only; omega) _), lies_of_own (own_setCell' (own_setCell' hp2 (by dsimp only; omega) _) (by dsimp only; omega) _)⟩, hide he4⟩
    · intro K hK
      go_simp
      have hd1 : Below VT.heap.size VT (V10.drew.alloc (.cells #[.slice none 0 0, .slice none 0 0] 28)) := below_al6 hd0
      have he1 : Below V10.heap.size V10 (V10.drew.alloc (.cells #[.slice none 0 0, .slice none 0 0] 28)) := below_al6 he0
      have HX : Hid (BoxT (V10.drew.alloc (.cells #[.slice none 0 0, .slice none 0 0] 28)) V10.heap.size (.slice none 0 0) (.slice none 0 0)) := hide (BoxT.new V10.drew _ _)
      have hsb : (V10.drew.alloc (.cells #[.slice none 0 0, .slice none 0 0] 28)).heap.size = V10.heap.size + 1 := by simp
      have hS1 : Hid ((V10.drew.alloc (.cells #[.slice none 0 0, .slice none 0 0] 28)).cell? ⟨u3.heap.size, 0, none⟩ = some (.slice (some ⟨g1t, 0, none⟩) 2 c1t) ∧ (V10.drew.alloc (.cells #[.slice none 0 0, .slice none 0 0] 28)).cell? ⟨u3.heap.size, 1, none⟩ = some (.slice (some ⟨g2t, 0, none⟩) Q Q)) := hide (HCT.out _ hd1)
      refine hK.out _ _ hS1.out (fun _ => ?_)
      clear hK K hS0
      refine wpAnyU_one (i := 2) (by kernel_rfl) rfl ?_
      intro K hK
      go_simp
      refine Calls.mono (ones7_any N1 _ hb1) ?_
      rintro e u14 ⟨g1o, c1o, g2o, rfl, ho1, ho2, _, hb⟩
      dsimp only
      have hd2 : Below VT.heap.size VT u14 := below_nx6 hd1 hb
      have he2 : Below V10.heap.size V10 u14 := below_nx6 he1 hb
      have hz2 := hd2.size
      have hy2 := he2.size
      have hbs : V10.heap.size + 1 ≤ u14.heap.size := by have h := hb.size; simpa using h
      have HX := hide (HX.out.kept hb)
      clear hb
      have hS2 : Hid (u14.cell? ⟨u3.heap.size, 0, none⟩ = some (.slice (some ⟨g1t, 0, none⟩) 2 c1t) ∧ u14.cell? ⟨u3.heap.size, 1, none⟩ = some (.slice (some ⟨g2t, 0, none⟩) Q Q)) := hide (HCT.out _ hd2)
      refine hK.out _ _ hS2.out (fun _ => ?_)
      clear hK K hS1
      refine wpAnyU_one (i := 3) (by kernel_rfl) rfl ?_
      intro K hK
      go_simp
      refine Calls.mono (pof_ok (some ⟨g1t, 0, none⟩) (some ⟨g2t, 0, none⟩) (some ⟨g1o, 0, none⟩) (some ⟨g2o, 0, none⟩) c1t Q Q c1o (N1 * N1) (N1 * N1) N0 N1 N1 Lt (oneTo N1 N1) _ (HT_t.out.S.below he2) (HT_t.out.L.below he2) ((lies_of_own ho1)) ((lies_of_own ho2)) (by rw [HQ.out]; exact two_ten (by omega) (by omega)) (two_ten (by omega) (by omega))) ?_
      rintro e u15 ⟨g1y, c1y, g2y, rfl, hp1, hp2, _, hb⟩
      dsimp only
      have hd3 : Below VT.heap.size VT u15 := below_nx6 hd2 hb
      have he3 : Below V10.heap.size V10 u15 := below_nx6 he2 hb
      have hz3 := hd3.size
      have hy3 := he3.size
      rw [prod_one_right HRL_Lt.out HRW_Lt.out] at hp2
      have lt1 := hp1.lt g1y rfl
      have lt2 := hp2.lt g2y rfl
      have HX := hide (HX.out.kept hb)
      clear hb ho1 ho2
      have hS3 : Hid (u15.cell? ⟨u3.heap.size, 0, none⟩ = some (.slice (some ⟨g1t, 0, none⟩) 2 c1t) ∧ u15.cell? ⟨u3.heap.size, 1, none⟩ = some (.slice (some ⟨g2t, 0, none⟩) Q Q)) := hide (HCT.out _ hd3)
      refine hK.out _ _ hS3.out (fun _ => ?_)
      clear hK K hS2
      refine wpAnyU_take (i := 4) (oi := { dst := some 53, op := _, type := _, pos := _, after := _, guard := none }) (v := .tuple #[(tenV (some ⟨g1y, 0, none⟩) 2 c1y (some ⟨g2y, 0, none⟩) (N0 * N1) (N0 * N1)), .int .i64 0]) rfl (by kernel_rfl) (by kernel_rfl) (by kernel_rfl) (by kernel_rfl) (fun _ _ _ h => h) (yields_take rfl (fun w' hw => by obtain ⟨h1, h2⟩ := hw.const; go_simp)) hS3.out ?_
      simp only [Act.put, List.setIfInBounds_toArray, List.set_cons_zero, List.set_cons_succ]
      refine wpAnyU_take (i := 5) (oi := { dst := some 58, op := _, type := _, pos := _, after := _, guard := none }) (v := (tenV (some ⟨g1y, 0, none⟩) 2 c1y (some ⟨g2y, 0, none⟩) (N0 * N1) (N0 * N1))) rfl (by kernel_rfl) (by kernel_rfl) (by kernel_rfl) (by kernel_rfl) (fun _ _ _ h => h) (yields_take rfl (fun w' hw => by obtain ⟨h1, h2⟩ := hw.const; go_simp)) hS3.out ?_
      simp only [Act.put, List.setIfInBounds_toArray, List.set_cons_zero, List.set_cons_succ]
      refine wpAnyU_take (i := 6) (oi := { dst := some 59, op := _, type := _, pos := _, after := _, guard := none }) (v := .int .i64 0) rfl (by kernel_rfl) (by kernel_rfl) (by kernel_rfl) (by kernel_rfl) (fun _ _ _ h => h) (yields_take rfl (fun w' hw => by obtain ⟨h1, h2⟩ := hw.const; go_simp)) hS3.out ?_
      simp only [Act.put, List.setIfInBounds_toArray, List.set_cons_zero, List.set_cons_succ]
      have r0 := HX.out.c0
      have r1 := HX.out.c1
      have rf0 := HX.out.f0 0
      have rf1 := HX.out.f0 1
      refine wpAnyU_one (i := 8) (by kernel_rfl) rfl ?_
      intro K hK
      go_simp
      have hd4 : Below VT.heap.size VT ((u15.setCell ⟨V10.heap.size, 0, none⟩ (.slice (some ⟨g1y, 0, none⟩) 2 c1y)).setCell ⟨V10.heap.size, 1, none⟩ (.slice (some ⟨g2y, 0, none⟩) (N0 * N1) (N0 * N1))) := (hd3.setCell (by dsimp only; omega) _).setCell (by dsimp only; omega) _
      have he4 : Below V10.heap.size V10 ((u15.setCell ⟨V10.heap.size, 0, none⟩ (.slice (some ⟨g1y, 0, none⟩) 2 c1y)).setCell ⟨V10.heap.size, 1, none⟩ (.slice (some ⟨g2y, 0, none⟩) (N0 * N1) (N0 * N1))) := (he3.setCell (by dsimp only; omega) _).setCell (by dsimp only; omega) _
      have hS4 : Hid (((u15.setCell ⟨V10.heap.size, 0, none⟩ (.slice (some ⟨g1y, 0, none⟩) 2 c1y)).setCell ⟨V10.heap.size, 1, none⟩ (.slice (some ⟨g2y, 0, none⟩) (N0 * N1) (N0 * N1))).cell? ⟨u3.heap.size, 0, none⟩ = some (.slice (some ⟨g1t, 0, none⟩) 2 c1t) ∧ ((u15.setCell ⟨V10.heap.size, 0, none⟩ (.slice (some ⟨g1y, 0, none⟩) 2 c1y)).setCell ⟨V10.heap.size, 1, none⟩ (.slice (some ⟨g2y, 0, none⟩) (N0 * N1) (N0 * N1))).cell? ⟨u3.heap.size, 1, none⟩ = some (.slice (some ⟨g2t, 0, none⟩) Q Q)) := hide (HCT.out _ hd4)
      refine hK.out _ _ hS4.out (fun _ => ?_)
      clear hK K hS3
      refine wpAnyU_take (i := 9) (oi := { dst := some 11, op := _, type := _, pos := _, after := _, guard := none }) (v := .int .i64 0) rfl (by kernel_rfl) (by kernel_rfl) (by kernel_rfl) (by kernel_rfl) (fun _ _ _ h => h) (yields_take rfl (fun w' hw => by obtain ⟨h1, h2⟩ := hw.const; go_simp)) hS4.out ?_
      simp only [Act.put, List.setIfInBounds_toArray, List.set_cons_zero, List.set_cons_succ]
      refine wpAnyU_done (by kernel_rfl) ?_ _
      clear hS4
      go_wp2_with fail
      go_meet
      exact ⟨_, g1y, c1y, g2y, rfl, rfl, hide ⟨HX.out.set2 _ _, lies_of_own (own_setCell' (own_setCell' hp1 (by dsimp only; omega) _) (by dsimp only; omega) _), lies_of_own (own_setCell' (own_setCell' hp2 (by dsimp only; omega) _) (by dsimp only; omega) _)⟩, hide he4⟩
  obtain ⟨pxy, g1y, c1y, g2y, rfl, rfl, HT_y, HBC⟩ := hcut
  rename World => V16
  have hb := HBC.out
  replace HT_t := hide (HT_t.out.kept hb)
  replace HT_x := hide (HT_x.out.kept hb)
  replace HBA := hide (below_nx6 HBA.out hb)
  replace HBT := hide (below_nx6 HBT.out hb)
  replace HBW := hide (HBW.out.trans (hb.mono HBW.out.size))
  clear hb HBC cxt0 cxt1
  obtain ⟨Lno, hLno⟩ : ∃ Lno : List Int, Lno = List.replicate (N1 * N0) 0 := ⟨_, rfl⟩
  have HR_Lno := hide hLno
  clear hLno
  have cxt0 := HT_t.out.c0
  have cxt1 := HT_t.out.c1
  go_wp2_with fail
  refine Calls.mono (new_ok (some ⟨V16.heap.size, 0, none⟩) 2 2 (N1 * N0) [(N1 : Int), (N0 : Int)] _ (lit_lies V16 .i64 [(N1 : Int), (N0 : Int)] 3) (two_size (by omega) (by omega)).1 (by have := (two_size (M := N1) (N := N0) (by omega) (by omega)).2.1; omega)) ?_
  rw [show List.replicate (N1 * N0) (Value.int .i32 0) = Lno.map (Value.int .i32) by rw [HR_Lno.out, List.map_replicate]]
  rintro e u17 ⟨g1no, c1no, g2no, rfl, ho1, ho2, _, hb7⟩
  have hb8 : Below V16.heap.size V16 u17 := below_nx6 (below_al6 (Below.refl _ _)) hb7
  clear hb7
  have hb9 := hb0
  clear hb0
  have hb0 := hb8
  clear hb8
  obtain ⟨V18, hV18⟩ : ∃ W, W = u17.alloc (.cells #[.slice (some ⟨g1no, 0, none⟩) 2 c1no, .slice (some ⟨g2no, 0, none⟩) (N1 * N0) (N1 * N0)] 28) := ⟨_, rfl⟩
  have HT_no : Hid (TenAt V18 u17.heap.size (some ⟨g1no, 0, none⟩) (some ⟨g2no, 0, none⟩) 2 c1no (N1 * N0) (N1 * N0) [(N1 : Int), (N0 : Int)] Lno) := hide (by rw [hV18]; exact TenAt.made ho1 ho2)
  have hb : Below V16.heap.size V16 V18 := by rw [hV18]; exact below_al6 hb0
  replace HT_t := hide (HT_t.out.kept hb)
  replace HT_x := hide (HT_x.out.kept hb)
  replace HT_y := hide (HT_y.out.kept hb)
  replace HBA := hide (below_nx6 HBA.out hb)
  replace HBT := hide (below_nx6 HBT.out hb)
  replace HBW := hide (HBW.out.trans (hb.mono HBW.out.size))
  have hV18' := hV18.symm
  clear hV18 hb hb0 ho1 ho2 cxt0 cxt1 
  have hlt_no := HT_no.out.1.lt
  have hb0 := hb9
  clear hb9
  obtain ⟨Lz, hLz⟩ : ∃ Lz : List Int, Lz = prodL Lt Lno N0 N1 N0 := ⟨_, rfl⟩
  have HR_Lz := hide hLz
  clear hLz
  have cxt0 := HT_t.out.c0
  have cxt1 := HT_t.out.c1
  have cxno0 := HT_no.out.c0
  have cxno1 := HT_no.out.c1
  go_wp2_with fail
  refine Calls.mono (pof_ok (some ⟨g1t, 0, none⟩) (some ⟨g2t, 0, none⟩) (some ⟨g1no, 0, none⟩) (some ⟨g2no, 0, none⟩) c1t Q Q c1no (N1 * N0) (N1 * N0) N0 N1 N0 Lt Lno _ HT_t.out.S HT_t.out.L HT_no.out.S HT_no.out.L (by rw [HQ.out]; exact two_ten (by omega) (by omega)) (two_ten (by omega) (by omega))) ?_
  rw [← HR_Lz.out]
  have hb9 := hb0
  clear hb0
  rintro e u19 ⟨g1z, c1z, g2z, rfl, ho1, ho2, _, hb0⟩
  obtain ⟨V20, hV20⟩ : ∃ W, W = u19.alloc (.cells #[.slice (some ⟨g1z, 0, none⟩) 2 c1z, .slice (some ⟨g2z, 0, none⟩) (N0 * N0) (N0 * N0)] 28) := ⟨_, rfl⟩
  have HT_z : Hid (TenAt V20 u19.heap.size (some ⟨g1z, 0, none⟩) (some ⟨g2z, 0, none⟩) 2 c1z (N0 * N0) (N0 * N0) [(N0 : Int), (N0 : Int)] Lz) := hide (by rw [hV20]; exact TenAt.made ho1 ho2)
  have hb : Below V18.heap.size V18 V20 := by rw [hV20]; exact below_al6 hb0
  replace HT_t := hide (HT_t.out.kept hb)
  replace HT_x := hide (HT_x.out.kept hb)
  replace HT_y := hide (HT_y.out.kept hb)
  replace HT_no := hide (HT_no.out.kept hb)
  replace HBA := hide (below_nx6 HBA.out hb)
  replace HBT := hide (below_nx6 HBT.out hb)
  replace HBW := hide (HBW.out.trans (hb.mono HBW.out.size))
  have hV20' := hV20.symm
  clear hV20 hb hb0 ho1 ho2 cxt0 cxt1 cxno0 cxno1 
  have hlt_z := HT_z.out.1.lt
  have hb0 := hb9
  clear hb9
  obtain ⟨Lwa, hLwa⟩ : ∃ Lwa : List Int, Lwa = List.replicate (N0 * N0) 0 := ⟨_, rfl⟩
  have HR_Lwa := hide hLwa
  clear hLwa
  have cxt0 := HT_t.out.c0
  have cxt1 := HT_t.out.c1
  go_wp2_with fail
  refine Calls.mono (new_ok (some ⟨V20.heap.size, 0, none⟩) 2 2 (N0 * N0) [(N0 : Int), (N0 : Int)] _ (lit_lies V20 .i64 [(N0 : Int), (N0 : Int)] 3) (two_size (by omega) (by omega)).1 (by have := (two_size (M := N0) (N := N0) (by omega) (by omega)).2.1; omega)) ?_
  rw [show List.replicate (N0 * N0) (Value.int .i32 0) = Lwa.map (Value.int .i32) by rw [HR_Lwa.out, List.map_replicate]]
  rintro e u21 ⟨g1wa, c1wa, g2wa, rfl, ho1, ho2, _, hb7⟩
  have hb8 : Below V20.heap.size V20 u21 := below_nx6 (below_al6 (Below.refl _ _)) hb7
  clear hb7
  have hb9 := hb0
  clear hb0
  have hb0 := hb8
  clear hb8
  obtain ⟨V22, hV22⟩ : ∃ W, W = u21.alloc (.cells #[.slice (some ⟨g1wa, 0, none⟩) 2 c1wa, .slice (some ⟨g2wa, 0, none⟩) (N0 * N0) (N0 * N0)] 28) := ⟨_, rfl⟩
  have HT_wa : Hid (TenAt V22 u21.heap.size (some ⟨g1wa, 0, none⟩) (some ⟨g2wa, 0, none⟩) 2 c1wa (N0 * N0) (N0 * N0) [(N0 : Int), (N0 : Int)] Lwa) := hide (by rw [hV22]; exact TenAt.made ho1 ho2)
  have hb : Below V20.heap.size V20 V22 := by rw [hV22]; exact below_al6 hb0
  replace HT_t := hide (HT_t.out.kept hb)
  replace HT_x := hide (HT_x.out.kept hb)
  replace HT_y := hide (HT_y.out.kept hb)
  replace HT_no := hide (HT_no.out.kept hb)
  replace HT_z := hide (HT_z.out.kept hb)
  replace HBA := hide (below_nx6 HBA.out hb)
  replace HBT := hide (below_nx6 HBT.out hb)
  replace HBW := hide (HBW.out.trans (hb.mono HBW.out.size))
  have hV22' := hV22.symm
  clear hV22 hb hb0 ho1 ho2 cxt0 cxt1 
  have hlt_wa := HT_wa.out.1.lt
  have hb0 := hb9
  clear hb9
  have cxt0 := HT_t.out.c0
  have cxt1 := HT_t.out.c1
  obtain ⟨V23, hV23⟩ : ∃ W, W = (V22.alloc (.cells #[.int .i64 1, .int .i64 (Q : Int)] 3)).alloc (.cells #[.slice (some ⟨V22.heap.size, 0, none⟩) 2 2, .slice (some ⟨g2t, 0, none⟩) Q Q] 28) := ⟨_, rfl⟩
  have tarow := HCT.out (V22.alloc (.cells #[.int .i64 1, .int .i64 (Q : Int)] 3)) (below_al6 HBT.out)
  have hb : Below V22.heap.size V22 V23 := by rw [hV23]; exact below_al6 (below_al6 (Below.refl _ _))
  have HT_row : Hid (TenAt V23 (V22.heap.size + 1) (some ⟨V22.heap.size, 0, none⟩) (some ⟨g2t, 0, none⟩) 2 2 Q Q [1, (Q : Int)] Lt) := hide ⟨by rw [hV23]; have h := BoxT.new (V22.alloc (.cells #[.int .i64 1, .int .i64 (Q : Int)] 3)) (.slice (some ⟨V22.heap.size, 0, none⟩) 2 2) (.slice (some ⟨g2t, 0, none⟩) Q Q); rwa [World.size_alloc] at h, by rw [hV23]; exact (lit_lies V22 .i64 [1, (Q : Int)] 3).alloc _, HT_t.out.L.below hb⟩
  replace HT_t := hide (HT_t.out.kept hb)
  replace HT_x := hide (HT_x.out.kept hb)
  replace HT_y := hide (HT_y.out.kept hb)
  replace HT_no := hide (HT_no.out.kept hb)
  replace HT_z := hide (HT_z.out.kept hb)
  replace HT_wa := hide (HT_wa.out.kept hb)
  replace HBA := hide (below_nx6 HBA.out hb)
  replace HBT := hide (below_nx6 HBT.out hb)
  replace HBW := hide (HBW.out.trans (hb.mono HBW.out.size))
  have tbrow := HCT.out V23 HBT.out
  have hV23' := hV23.symm
  clear hV23 hb
  obtain ⟨V24, hV24⟩ : ∃ W, W = (V23.alloc (.cells #[.int .i64 (Q : Int), .int .i64 1] 3)).alloc (.cells #[.slice (some ⟨V23.heap.size, 0, none⟩) 2 2, .slice (some ⟨g2t, 0, none⟩) Q Q] 28) := ⟨_, rfl⟩
  have tacol := HCT.out (V23.alloc (.cells #[.int .i64 (Q : Int), .int .i64 1] 3)) (below_al6 HBT.out)
  have hb : Below V23.heap.size V23 V24 := by rw [hV24]; exact below_al6 (below_al6 (Below.refl _ _))
  have HT_col : Hid (TenAt V24 (V23.heap.size + 1) (some ⟨V23.heap.size, 0, none⟩) (some ⟨g2t, 0, none⟩) 2 2 Q Q [(Q : Int), 1] Lt) := hide ⟨by rw [hV24]; have h := BoxT.new (V23.alloc (.cells #[.int .i64 (Q : Int), .int .i64 1] 3)) (.slice (some ⟨V23.heap.size, 0, none⟩) 2 2) (.slice (some ⟨g2t, 0, none⟩) Q Q); rwa [World.size_alloc] at h, by rw [hV24]; exact (lit_lies V23 .i64 [(Q : Int), 1] 3).alloc _, HT_t.out.L.below hb⟩
  replace HT_t := hide (HT_t.out.kept hb)
  replace HT_x := hide (HT_x.out.kept hb)
  replace HT_y := hide (HT_y.out.kept hb)
  replace HT_no := hide (HT_no.out.kept hb)
  replace HT_z := hide (HT_z.out.kept hb)
  replace HT_wa := hide (HT_wa.out.kept hb)
  replace HT_row := hide (HT_row.out.kept hb)
  replace HBA := hide (below_nx6 HBA.out hb)
  replace HBT := hide (below_nx6 HBT.out hb)
  replace HBW := hide (HBW.out.trans (hb.mono HBW.out.size))
  have tbcol := HCT.out V24 HBT.out
  have hV24' := hV24.symm
  clear hV24 hb
  by_cases h64 : (Q : Int) ≤ 64
  · have cxrow0 := HT_row.out.c0
    have cxrow1 := HT_row.out.c1
    have cxcol0 := HT_col.out.c0
    have cxcol1 := HT_col.out.c1
    have hrow : tenOk [((1 : Nat) : Int), (Q : Int)] Q = true := by have h := two_ten (M := 1) (K := Q) (by omega) (by omega); rwa [Nat.one_mul] at h
    have hcol : tenOk [(Q : Int), ((1 : Nat) : Int)] Q = true := by have h := two_ten (M := Q) (K := 1) (by omega) (by omega); rwa [Nat.mul_one] at h
    go_wp2_with fail
    refine Calls.mono (pof_ok (some ⟨V22.heap.size, 0, none⟩) (some ⟨g2t, 0, none⟩) (some ⟨V23.heap.size, 0, none⟩) (some ⟨g2t, 0, none⟩) 2 Q Q 2 Q Q 1 Q 1 Lt Lt _ HT_row.out.S HT_row.out.L HT_col.out.S HT_col.out.L hrow hcol) ?_
    rw [show (1 * 1 : Nat) = 1 from rfl, prod_square]
    have hb9 := hb0
    clear hb0 hrow hcol
    rintro e u25 ⟨g1pw, c1pw, g2pw, rfl, ho1, ho2, _, hb0⟩
    obtain ⟨V26, hV26⟩ : ∃ W, W = u25.alloc (.cells #[.slice (some ⟨g1pw, 0, none⟩) 2 c1pw, .slice (some ⟨g2pw, 0, none⟩) 1 1] 28) := ⟨_, rfl⟩
    have HT_pw : Hid (TenAt V26 u25.heap.size (some ⟨g1pw, 0, none⟩) (some ⟨g2pw, 0, none⟩) 2 c1pw 1 1 [((1 : Nat) : Int), ((1 : Nat) : Int)] [sqN Lt Q]) := hide (by rw [hV26]; exact TenAt.made ho1 ho2)
    have hb : Below V24.heap.size V24 V26 := by rw [hV26]; exact below_al6 hb0
    replace HT_t := hide (HT_t.out.kept hb)
    replace HT_x := hide (HT_x.out.kept hb)
    replace HT_y := hide (HT_y.out.kept hb)
    replace HT_no := hide (HT_no.out.kept hb)
    replace HT_z := hide (HT_z.out.kept hb)
    replace HT_wa := hide (HT_wa.out.kept hb)
    replace HT_row := hide (HT_row.out.kept hb)
    replace HT_col := hide (HT_col.out.kept hb)
    replace HBA := hide (below_nx6 HBA.out hb)
    replace HBT := hide (below_nx6 HBT.out hb)
    replace HBW := hide (HBW.out.trans (hb.mono HBW.out.size))
    have hV26' := hV26.symm
    clear hV26 hb hb0 ho1 ho2 cxt0 cxt1 tarow tbrow tacol tbcol cxrow0 cxrow1 cxcol0 cxcol1 
    have hlt_pw := HT_pw.out.1.lt
    have hb0 := hb9
    clear hb9
    go_wp2_with fail
    skip
    go_loopw [22, 23] (fun s i wr => ∃ k : Nat, k ≤ Q ∧ s = .int .i32 (sqN Lt k) ∧ i = .int .i64 k ∧ Hid (Below V26.heap.size V26 wr)) (fun _ i _ => Q - (intOf i).toNat)
    case atStart => exact ⟨0, Nat.zero_le _, rfl, rfl, hide (Below.refl _ _)⟩
    case round =>
      obtain ⟨k, hk, rfl, rfl, HG⟩ := hrel
      have tq := HCT.out wr (below_nx6 HBT.out HG.out)
      by_cases hlt : k < Q
      · have h3 : (k : Int) < (Q : Int) := by omega
        have h0 : (0 : Int) ≤ (k : Int) := by omega
        obtain ⟨z, hz⟩ : ∃ z, z = Lt.getD k 0 := ⟨_, rfl⟩
        obtain ⟨zz, hzz⟩ : ∃ z1, z1 = mul32 z z := ⟨_, rfl⟩
        obtain ⟨s0, hs0⟩ : ∃ s0, s0 = sqN Lt k := ⟨_, rfl⟩
        obtain ⟨s1, hs1⟩ : ∃ s1, s1 = add32 s0 zz := ⟨_, rfl⟩
        have HS1 : Hid (s1 = sqN Lt (k + 1)) := hide (by rw [hs1, hs0, hzz, hz]; rfl)
        have m1 : IntKind.i32.wrap (z * z) = zz := by rw [hzz, mul32, wrap32, IntKind.wrap_i32]
        have m2 : IntKind.i32.wrap (s0 + zz) = s1 := by rw [hs1, add32, wrap32, IntKind.wrap_i32]
        have HF : Hid (∀ v, Below V26.heap.size V26 v → v.cell? ⟨u3.heap.size, 1, none⟩ = some (.slice (some ⟨g2t, 0, none⟩) Q Q) ∧ v.cell? ⟨g2t, k, none⟩ = some (.int .i32 z)) := hide (fun v hv => ⟨(HCT.out v (below_nx6 HBT.out hv)).2, by rw [hz]; exact lies_num (HT_t.out.L.below hv) hlt⟩)
        rw [← hs0]
        clear hz hzz hs0 hs1
        go_wp2
        have hg1 : Below V26.heap.size V26 wr.drew := below_drewN HG.out 1
        have hS0 : Hid (wr.drew.cell? ⟨u3.heap.size, 1, none⟩ = some (.slice (some ⟨g2t, 0, none⟩) Q Q) ∧ wr.drew.cell? ⟨g2t, k, none⟩ = some (.int .i32 z)) := hide (HF.out _ hg1)
        refine wp_region_U (fun _ v => v.cell? ⟨u3.heap.size, 1, none⟩ = some (.slice (some ⟨g2t, 0, none⟩) Q Q) ∧ v.cell? ⟨g2t, k, none⟩ = some (.int .i32 z)) 99 (by kernel_rfl) ?_
        refine wpAnyU_take (i := 0) (oi := { dst := some 111, op := _, type := _, pos := _, after := _, guard := none }) (v := .int .i32 s0) rfl (by kernel_rfl) (by kernel_rfl) (by kernel_rfl) (by kernel_rfl) (fun _ _ _ h => h) (yields_take rfl (fun w' hw => by obtain ⟨h1, h2⟩ := hw.const; go_simp)) hS0.out ?_
        simp only [Act.put, List.setIfInBounds_toArray, List.set_cons_zero, List.set_cons_succ]
        refine wpAnyU_take (i := 1) (oi := { dst := some 112, op := _, type := _, pos := _, after := _, guard := none }) (v := .pointer (some ⟨u3.heap.size, 1, none⟩)) rfl (by kernel_rfl) (by kernel_rfl) (by kernel_rfl) (by kernel_rfl) (fun _ _ _ h => h) (yields_take rfl (fun w' hw => by obtain ⟨h1, h2⟩ := hw.const; go_simp)) hS0.out ?_
        simp only [Act.put, List.setIfInBounds_toArray, List.set_cons_zero, List.set_cons_succ]
        refine wpAnyU_take (i := 2) (oi := { dst := some 113, op := _, type := _, pos := _, after := _, guard := none }) (v := .slice (some ⟨g2t, 0, none⟩) Q Q) rfl (by kernel_rfl) (by kernel_rfl) (by kernel_rfl) (by kernel_rfl) (fun _ _ _ h => h) (yields_take rfl (fun w' hw => by obtain ⟨h1, h2⟩ := hw.const; go_simp)) hS0.out ?_
        simp only [Act.put, List.setIfInBounds_toArray, List.set_cons_zero, List.set_cons_succ]
        refine wpAnyU_take (i := 3) (oi := { dst := some 114, op := _, type := _, pos := _, after := _, guard := none }) (v := .int .i64 (k : Int)) rfl (by kernel_rfl) (by kernel_rfl) (by kernel_rfl) (by kernel_rfl) (fun _ _ _ h => h) (yields_take rfl (fun w' hw => by obtain ⟨h1, h2⟩ := hw.const; go_simp)) hS0.out ?_
        simp only [Act.put, List.setIfInBounds_toArray, List.set_cons_zero, List.set_cons_succ]
        refine wpAnyU_take (i := 4) (oi := { dst := some 115, op := _, type := _, pos := _, after := _, guard := none }) (v := .pointer (some ⟨g2t, k, none⟩)) rfl (by kernel_rfl) (by kernel_rfl) (by kernel_rfl) (by kernel_rfl) (fun _ _ _ h => h) (yields_take rfl (fun w' hw => by obtain ⟨h1, h2⟩ := hw.const; go_simp)) hS0.out ?_
        simp only [Act.put, List.setIfInBounds_toArray, List.set_cons_zero, List.set_cons_succ]
        refine wpAnyU_take (i := 5) (oi := { dst := some 116, op := _, type := _, pos := _, after := _, guard := none }) (v := .int .i32 z) rfl (by kernel_rfl) (by kernel_rfl) (by kernel_rfl) (by kernel_rfl) (fun _ _ _ h => h) (yields_take rfl (fun w' hw => by obtain ⟨h1, h2⟩ := hw.const; go_simp)) hS0.out ?_
        simp only [Act.put, List.setIfInBounds_toArray, List.set_cons_zero, List.set_cons_succ]
        refine wpAnyU_take (i := 6) (oi := { dst := some 117, op := _, type := _, pos := _, after := _, guard := none }) (v := .pointer (some ⟨u3.heap.size, 1, none⟩)) rfl (by kernel_rfl) (by kernel_rfl) (by kernel_rfl) (by kernel_rfl) (fun _ _ _ h => h) (yields_take rfl (fun w' hw => by obtain ⟨h1, h2⟩ := hw.const; go_simp)) hS0.out ?_
        simp only [Act.put, List.setIfInBounds_toArray, List.set_cons_zero, List.set_cons_succ]
        refine wpAnyU_take (i := 7) (oi := { dst := some 118, op := _, type := _, pos := _, after := _, guard := none }) (v := .slice (some ⟨g2t, 0, none⟩) Q Q) rfl (by kernel_rfl) (by kernel_rfl) (by kernel_rfl) (by kernel_rfl) (fun _ _ _ h => h) (yields_take rfl (fun w' hw => by obtain ⟨h1, h2⟩ := hw.const; go_simp)) hS0.out ?_
        simp only [Act.put, List.setIfInBounds_toArray, List.set_cons_zero, List.set_cons_succ]
        refine wpAnyU_take (i := 8) (oi := { dst := some 119, op := _, type := _, pos := _, after := _, guard := none }) (v := .int .i64 (k : Int)) rfl (by kernel_rfl) (by kernel_rfl) (by kernel_rfl) (by kernel_rfl) (fun _ _ _ h => h) (yields_take rfl (fun w' hw => by obtain ⟨h1, h2⟩ := hw.const; go_simp)) hS0.out ?_
        simp only [Act.put, List.setIfInBounds_toArray, List.set_cons_zero, List.set_cons_succ]
        refine wpAnyU_take (i := 9) (oi := { dst := some 120, op := _, type := _, pos := _, after := _, guard := none }) (v := .pointer (some ⟨g2t, k, none⟩)) rfl (by kernel_rfl) (by kernel_rfl) (by kernel_rfl) (by kernel_rfl) (fun _ _ _ h => h) (yields_take rfl (fun w' hw => by obtain ⟨h1, h2⟩ := hw.const; go_simp)) hS0.out ?_
        simp only [Act.put, List.setIfInBounds_toArray, List.set_cons_zero, List.set_cons_succ]
        refine wpAnyU_take (i := 10) (oi := { dst := some 121, op := _, type := _, pos := _, after := _, guard := none }) (v := .int .i32 z) rfl (by kernel_rfl) (by kernel_rfl) (by kernel_rfl) (by kernel_rfl) (fun _ _ _ h => h) (yields_take rfl (fun w' hw => by obtain ⟨h1, h2⟩ := hw.const; go_simp)) hS0.out ?_
        simp only [Act.put, List.setIfInBounds_toArray, List.set_cons_zero, List.set_cons_succ]
        refine wpAnyU_take (i := 11) (oi := { dst := some 122, op := _, type := _, pos := _, after := _, guard := none }) (v := .int .i32 zz) rfl (by kernel_rfl) (by kernel_rfl) (by kernel_rfl) (by kernel_rfl) (fun _ _ _ h => h) (yields_take rfl (fun w' hw => by obtain ⟨h1, h2⟩ := hw.const; go_simp)) hS0.out ?_
        simp only [Act.put, List.setIfInBounds_toArray, List.set_cons_zero, List.set_cons_succ]
        refine wpAnyU_take (i := 12) (oi := { dst := some 123, op := _, type := _, pos := _, after := _, guard := none }) (v := .int .i32 s1) rfl (by kernel_rfl) (by kernel_rfl) (by kernel_rfl) (by kernel_rfl) (fun _ _ _ h => h) (yields_take rfl (fun w' hw => by obtain ⟨h1, h2⟩ := hw.const; go_simp)) hS0.out ?_
        simp only [Act.put, List.setIfInBounds_toArray, List.set_cons_zero, List.set_cons_succ]
        refine wpAnyU_take (i := 13) (oi := { dst := some 22, op := _, type := _, pos := _, after := _, guard := none }) (v := .int .i32 s1) rfl (by kernel_rfl) (by kernel_rfl) (by kernel_rfl) (by kernel_rfl) (fun _ _ _ h => h) (yields_take rfl (fun w' hw => by obtain ⟨h1, h2⟩ := hw.const; go_simp)) hS0.out ?_
        simp only [Act.put, List.setIfInBounds_toArray, List.set_cons_zero, List.set_cons_succ]
        refine wpAnyU_done (by kernel_rfl) ?_ _
        clear hS0
        have HNG : Hid (Below V26.heap.size V26 wr.drew) := hide hg1
        clear hg1
        go_wp2
        go_roundw
        case rel => exact ⟨k + 1, by omega, by rw [HS1.out], by go_num, HNG⟩
        case measure => simp [intOf]; omega
      · obtain rfl : k = Q := by omega
        have h3 : ¬ (k : Int) < (k : Int) := by omega
        have hb := HG.out
        replace HT_t := hide (HT_t.out.kept hb)
        replace HT_x := hide (HT_x.out.kept hb)
        replace HT_y := hide (HT_y.out.kept hb)
        replace HT_no := hide (HT_no.out.kept hb)
        replace HT_z := hide (HT_z.out.kept hb)
        replace HT_wa := hide (HT_wa.out.kept hb)
        replace HT_row := hide (HT_row.out.kept hb)
        replace HT_col := hide (HT_col.out.kept hb)
        replace HT_pw := hide (HT_pw.out.kept hb)
        replace HBA := hide (below_nx6 HBA.out hb)
        replace HBT := hide (below_nx6 HBT.out hb)
        replace HBW := hide (HBW.out.trans (hb.mono HBW.out.size))
        clear hb HG
        have cxpw0 := HT_pw.out.c0
        have cxpw1 := HT_pw.out.c1
        have hpw := lies_num HT_pw.out.L (k := 0) (by omega)
        simp only [List.getD_cons_zero] at hpw
        have cxx0 := HT_x.out.c0
        have cxx1 := HT_x.out.c1
        have cxt0 := HT_t.out.c0
        have cxt1 := HT_t.out.c1
        have hsz_xt : (N0 * N1) ≤ 281474976710656 := by rw [← HQ.out]; omega
        go_wp2_with fail
        refine Calls.mono (same7_yes (some ⟨g1x, 0, none⟩) (some ⟨g2x, 0, none⟩) (some ⟨g1t, 0, none⟩) (some ⟨g2t, 0, none⟩) 2 c1x (N0 * N1) (N0 * N1) 2 c1t k k [(N0 : Int), (N1 : Int)] Lt [(N0 : Int), (N1 : Int)] Lt _ HT_x.out.S HT_x.out.L HT_t.out.S HT_t.out.L (by omega) hsz_xt rfl (rfl)) ?_
        rintro e u27 ⟨rfl, hb⟩
        replace HT_t := hide (HT_t.out.kept hb)
        replace HT_x := hide (HT_x.out.kept hb)
        replace HT_y := hide (HT_y.out.kept hb)
        replace HT_no := hide (HT_no.out.kept hb)
        replace HT_z := hide (HT_z.out.kept hb)
        replace HT_wa := hide (HT_wa.out.kept hb)
        replace HT_row := hide (HT_row.out.kept hb)
        replace HT_col := hide (HT_col.out.kept hb)
        replace HT_pw := hide (HT_pw.out.kept hb)
        replace HBA := hide (below_nx6 HBA.out hb)
        replace HBT := hide (below_nx6 HBT.out hb)
        replace HBW := hide (HBW.out.trans (hb.mono HBW.out.size))
        clear hb hsz_xt cxpw0 cxpw1 tq hpw cxx0 cxx1 cxt0 cxt1
        have cxy0 := HT_y.out.c0
        have cxy1 := HT_y.out.c1
        have cxt0 := HT_t.out.c0
        have cxt1 := HT_t.out.c1
        have hsz_yt : (N0 * N1) ≤ 281474976710656 := by rw [← HQ.out]; omega
        go_wp2_with fail
        refine Calls.mono (same7_yes (some ⟨g1y, 0, none⟩) (some ⟨g2y, 0, none⟩) (some ⟨g1t, 0, none⟩) (some ⟨g2t, 0, none⟩) 2 c1y (N0 * N1) (N0 * N1) 2 c1t k k [(N0 : Int), (N1 : Int)] Lt [(N0 : Int), (N1 : Int)] Lt _ HT_y.out.S HT_y.out.L HT_t.out.S HT_t.out.L (by omega) hsz_yt rfl (rfl)) ?_
        rintro e u28 ⟨rfl, hb⟩
        replace HT_t := hide (HT_t.out.kept hb)
        replace HT_x := hide (HT_x.out.kept hb)
        replace HT_y := hide (HT_y.out.kept hb)
        replace HT_no := hide (HT_no.out.kept hb)
        replace HT_z := hide (HT_z.out.kept hb)
        replace HT_wa := hide (HT_wa.out.kept hb)
        replace HT_row := hide (HT_row.out.kept hb)
        replace HT_col := hide (HT_col.out.kept hb)
        replace HT_pw := hide (HT_pw.out.kept hb)
        replace HBA := hide (below_nx6 HBA.out hb)
        replace HBT := hide (below_nx6 HBT.out hb)
        replace HBW := hide (HBW.out.trans (hb.mono HBW.out.size))
        clear hb hsz_yt cxy0 cxy1 cxt0 cxt1
        have cxz0 := HT_z.out.c0
        have cxz1 := HT_z.out.c1
        have cxwa0 := HT_wa.out.c0
        have cxwa1 := HT_wa.out.c1
        have hsz_zwa : (N0 * N0) ≤ 281474976710656 := by have := Nat.mul_le_mul hb0.2 hb0.2; omega
        go_wp2_with fail
        refine Calls.mono (same7_yes (some ⟨g1z, 0, none⟩) (some ⟨g2z, 0, none⟩) (some ⟨g1wa, 0, none⟩) (some ⟨g2wa, 0, none⟩) 2 c1z (N0 * N0) (N0 * N0) 2 c1wa (N0 * N0) (N0 * N0) [(N0 : Int), (N0 : Int)] Lz [(N0 : Int), (N0 : Int)] Lwa _ HT_z.out.S HT_z.out.L HT_wa.out.S HT_wa.out.L (by omega) hsz_zwa rfl (by rw [HR_Lz.out, HR_Lwa.out, HR_Lno.out]; exact prod_noughts _ _ _ _ _)) ?_
        rintro e u29 ⟨rfl, hb⟩
        replace HT_t := hide (HT_t.out.kept hb)
        replace HT_x := hide (HT_x.out.kept hb)
        replace HT_y := hide (HT_y.out.kept hb)
        replace HT_no := hide (HT_no.out.kept hb)
        replace HT_z := hide (HT_z.out.kept hb)
        replace HT_wa := hide (HT_wa.out.kept hb)
        replace HT_row := hide (HT_row.out.kept hb)
        replace HT_col := hide (HT_col.out.kept hb)
        replace HT_pw := hide (HT_pw.out.kept hb)
        replace HBA := hide (below_nx6 HBA.out hb)
        replace HBT := hide (below_nx6 HBT.out hb)
        replace HBW := hide (HBW.out.trans (hb.mono HBW.out.size))
        clear hb hsz_zwa cxz0 cxz1 cxwa0 cxwa1
        go_wp2
        go_ret
        exact ⟨rfl, HBW.out⟩
  · have cxt0 := HT_t.out.c0
    have cxt1 := HT_t.out.c1
    have hdup := cxt0
    clear hdup
    have cxx0 := HT_x.out.c0
    have cxx1 := HT_x.out.c1
    have cxt0 := HT_t.out.c0
    have cxt1 := HT_t.out.c1
    have hsz_xt : (N0 * N1) ≤ 281474976710656 := by rw [← HQ.out]; omega
    go_wp2_with fail
    refine Calls.mono (same7_yes (some ⟨g1x, 0, none⟩) (some ⟨g2x, 0, none⟩) (some ⟨g1t, 0, none⟩) (some ⟨g2t, 0, none⟩) 2 c1x (N0 * N1) (N0 * N1) 2 c1t Q Q [(N0 : Int), (N1 : Int)] Lt [(N0 : Int), (N1 : Int)] Lt _ HT_x.out.S HT_x.out.L HT_t.out.S HT_t.out.L (by omega) hsz_xt rfl (rfl)) ?_
    rintro e u30 ⟨rfl, hb⟩
    replace HT_t := hide (HT_t.out.kept hb)
    replace HT_x := hide (HT_x.out.kept hb)
    replace HT_y := hide (HT_y.out.kept hb)
    replace HT_no := hide (HT_no.out.kept hb)
    replace HT_z := hide (HT_z.out.kept hb)
    replace HT_wa := hide (HT_wa.out.kept hb)
    replace HT_row := hide (HT_row.out.kept hb)
    replace HT_col := hide (HT_col.out.kept hb)
    replace HBA := hide (below_nx6 HBA.out hb)
    replace HBT := hide (below_nx6 HBT.out hb)
    replace HBW := hide (HBW.out.trans (hb.mono HBW.out.size))
    clear hb hsz_xt cxt0 cxt1 tarow tbrow tacol tbcol cxx0 cxx1
    have cxy0 := HT_y.out.c0
    have cxy1 := HT_y.out.c1
    have cxt0 := HT_t.out.c0
    have cxt1 := HT_t.out.c1
    have hsz_yt : (N0 * N1) ≤ 281474976710656 := by rw [← HQ.out]; omega
    go_wp2_with fail
    refine Calls.mono (same7_yes (some ⟨g1y, 0, none⟩) (some ⟨g2y, 0, none⟩) (some ⟨g1t, 0, none⟩) (some ⟨g2t, 0, none⟩) 2 c1y (N0 * N1) (N0 * N1) 2 c1t Q Q [(N0 : Int), (N1 : Int)] Lt [(N0 : Int), (N1 : Int)] Lt _ HT_y.out.S HT_y.out.L HT_t.out.S HT_t.out.L (by omega) hsz_yt rfl (rfl)) ?_
    rintro e u31 ⟨rfl, hb⟩
    replace HT_t := hide (HT_t.out.kept hb)
    replace HT_x := hide (HT_x.out.kept hb)
    replace HT_y := hide (HT_y.out.kept hb)
    replace HT_no := hide (HT_no.out.kept hb)
    replace HT_z := hide (HT_z.out.kept hb)
    replace HT_wa := hide (HT_wa.out.kept hb)
    replace HT_row := hide (HT_row.out.kept hb)
    replace HT_col := hide (HT_col.out.kept hb)
    replace HBA := hide (below_nx6 HBA.out hb)
    replace HBT := hide (below_nx6 HBT.out hb)
    replace HBW := hide (HBW.out.trans (hb.mono HBW.out.size))
    clear hb hsz_yt cxy0 cxy1 cxt0 cxt1
    have cxz0 := HT_z.out.c0
    have cxz1 := HT_z.out.c1
    have cxwa0 := HT_wa.out.c0
    have cxwa1 := HT_wa.out.c1
    have hsz_zwa : (N0 * N0) ≤ 281474976710656 := by have := Nat.mul_le_mul hb0.2 hb0.2; omega
    go_wp2_with fail
    refine Calls.mono (same7_yes (some ⟨g1z, 0, none⟩) (some ⟨g2z, 0, none⟩) (some ⟨g1wa, 0, none⟩) (some ⟨g2wa, 0, none⟩) 2 c1z (N0 * N0) (N0 * N0) 2 c1wa (N0 * N0) (N0 * N0) [(N0 : Int), (N0 : Int)] Lz [(N0 : Int), (N0 : Int)] Lwa _ HT_z.out.S HT_z.out.L HT_wa.out.S HT_wa.out.L (by omega) hsz_zwa rfl (by rw [HR_Lz.out, HR_Lwa.out, HR_Lno.out]; exact prod_noughts _ _ _ _ _)) ?_
    rintro e u32 ⟨rfl, hb⟩
    replace HT_t := hide (HT_t.out.kept hb)
    replace HT_x := hide (HT_x.out.kept hb)
    replace HT_y := hide (HT_y.out.kept hb)
    replace HT_no := hide (HT_no.out.kept hb)
    replace HT_z := hide (HT_z.out.kept hb)
    replace HT_wa := hide (HT_wa.out.kept hb)
    replace HT_row := hide (HT_row.out.kept hb)
    replace HT_col := hide (HT_col.out.kept hb)
    replace HBA := hide (below_nx6 HBA.out hb)
    replace HBT := hide (below_nx6 HBT.out hb)
    replace HBW := hide (HBW.out.trans (hb.mono HBW.out.size))
    clear hb hsz_zwa cxz0 cxz1 cxwa0 cxwa1
    go_wp2
    go_ret
    exact ⟨rfl, HBW.out⟩

end Go.Proofs.Ytlalfjlcgabnnaa
