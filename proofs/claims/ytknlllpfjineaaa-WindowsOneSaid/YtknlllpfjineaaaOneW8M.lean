/- WindowsOne: for every picture, number, step and pad the walk of its Go text ends in true. -/
import Derived.Test.YtknlllpfjineaaaAlive8M
import Derived.Test.YtknlllpfjineaaaFl8M
import Derived.Test.YtknlllpfjineaaaPm14M
import Derived.Test.YtknlllpfjineaaaWB
import Derived.Deep.Cut
namespace Go.Proofs.Ytknlllpfjineaaa
open Go.RowKit
set_option linter.unusedVariables false
set_option linter.unusedSimpArgs false
set_option maxRecDepth 100000

set_option maxHeartbeats 16000000 in
theorem oneW8_any (A B : Option Addr) (n c m d : Nat) (s l : List Int) (y z0 z1 : Int) (w : World) (hA : Lies w A n (s.map (Value.int .i64))) (hB : Lies w B m (l.map (Value.int .i32))) (hz0 : 0 ≤ z0 ∧ z0 < 256) (hz1 : 0 ≤ z1 ∧ z1 < 256) (hn : n ≤ 70368744177664) (hm : m ≤ 70368744177664) :
    Calls Try.prog 7 #[tenV A n c B m d, .int .i32 y, .agg #[.int .u8 z0, .int .u8 z1]] w fun e w' => e = .returned (.bool true) ∧ Below w.heap.size w w' := by
  obtain ⟨W0, hW0⟩ : ∃ W0, W0 = (w.alloc (.cells #[.slice A n c, .slice B m d] 25)).alloc (.cells #[.int .u8 z0, .int .u8 z1] 35) := ⟨_, rfl⟩
  have HBW : Hid (Below w.heap.size w W0) := hide (by rw [hW0]; exact ((Below.refl w.heap.size w).alloc (Nat.le_refl _) _).alloc (by simp only [World.size_alloc]; omega) _)
  have HT_t : Hid (TenAt W0 w.heap.size A B n c m d s l) := hide (by
    rw [hW0]
    have h : TenAt (w.alloc (.cells #[.slice A n c, .slice B m d] 25)) w.heap.size A B n c m d s l := ⟨BoxT.new w _ _, hA.alloc _, hB.alloc _⟩
    exact h.kept ((Below.refl _ _).alloc (Nat.le_refl _) _))
  have HR1 : Hid (W0.heap[w.heap.size + 1]? = some (.cells #[.int .u8 z0, .int .u8 z1] 35 (0, 0))) := hide (by rw [hW0]; have h := heap_alloc_new (w.alloc (.cells #[.slice A n c, .slice B m d] 25)) (.cells #[.int .u8 z0, .int .u8 z1] 35); rwa [World.size_alloc] at h)
  have HCZ : Hid (∀ v, Below W0.heap.size W0 v → v.cell? ⟨w.heap.size + 1, 0, none⟩ = some (.int .u8 z0) ∧ v.cell? ⟨w.heap.size + 1, 1, none⟩ = some (.int .u8 z1)) := hide (fun v hv => ⟨cell_of_row _ _ 0 _ _ (0, 0) ((hv.block _ (lt_of_heap HR1.out)).trans HR1.out), cell_of_row _ _ 1 _ _ (0, 0) ((hv.block _ (lt_of_heap HR1.out)).trans HR1.out)⟩)
  have HBA := hide (Below.refl W0.heap.size W0)
  have hW0' := hW0.symm
  clear hW0 hA hB HR1
  have HL : Hid (l.length = m) := hide (by have := HT_t.out.L.len; simpa using this)
  have hslen : s.length = n := by have := HT_t.out.S.len; simpa using this
  have ht0 := tsz_nn6 n m
  have ht1 := tsz_hi6 hn hm
  go_enter Try.func7, Try.ntmps7
  go_wp2_with fail
  refine Calls.mono (alive8_any _) ?_
  rintro e ua1 ⟨rfl, hb⟩
  replace HT_t := hide (HT_t.out.kept hb)
  replace HBA := hide (below_nx6 HBA.out hb)
  replace HBW := hide (HBW.out.trans (hb.mono HBW.out.size))
  clear hb
  have cxt0 := HT_t.out.c0
  have cxt1 := HT_t.out.c1
  go_wp2_with fail
  refine Calls.mono (tsize_any A B n c m d _ (by omega) (by omega)) ?_
  rintro e ua2 ⟨rfl, hb⟩
  replace HT_t := hide (HT_t.out.kept hb)
  replace HBA := hide (below_nx6 HBA.out hb)
  replace HBW := hide (HBW.out.trans (hb.mono HBW.out.size))
  clear cxt0 cxt1 hb
  by_cases hfar : 1048576 < tsz n m
  · go_wp2_with fail
    refine Calls.mono (beyond_yes (some ⟨ua2.heap.size, 0, none⟩) 1 1 [(tsz n m : Int)] _ (lies_lit ua2 .i64 [(tsz n m : Int)] 3) (by intro z hz; simp at hz; omega) (by simp; omega) (by omega)) ?_
    rintro e ua3 ⟨rfl, hw3⟩
    have hb : Below ua2.heap.size ua2 ua3 := by rw [← hw3]; exact below_al6 (Below.refl _ _)
    replace HT_t := hide (HT_t.out.kept hb)
    replace HBA := hide (below_nx6 HBA.out hb)
    replace HBW := hide (HBW.out.trans (hb.mono HBW.out.size))
    clear hb hw3
    go_wp2_with fail
    refine Calls.mono (alive8_any _) ?_
    rintro e ua4 ⟨rfl, hb⟩
    replace HT_t := hide (HT_t.out.kept hb)
    replace HBA := hide (below_nx6 HBA.out hb)
    replace HBW := hide (HBW.out.trans (hb.mono HBW.out.size))
    clear hb
    go_wp2
    go_ret
    exact ⟨rfl, HBW.out⟩
  go_wp2_with fail
  refine Calls.mono (beyond_no (some ⟨ua2.heap.size, 0, none⟩) 1 1 [(tsz n m : Int)] _ (lies_lit ua2 .i64 [(tsz n m : Int)] 3) (by intro z hz; simp at hz; omega) (by simp; omega) (by omega)) ?_
  rintro e ua5 ⟨rfl, hw3⟩
  have hb : Below ua2.heap.size ua2 ua5 := by rw [← hw3]; exact below_al6 (Below.refl _ _)
  replace HT_t := hide (HT_t.out.kept hb)
  replace HBA := hide (below_nx6 HBA.out hb)
  replace HBW := hide (HBW.out.trans (hb.mono HBW.out.size))
  clear hb hw3
  have cxt0 := HT_t.out.c0
  have cxt1 := HT_t.out.c1
  by_cases hok : tenOk s m = true
  rotate_left
  · have hno : tenOk s m = false := by simpa using hok
    go_wp2_with fail
    refine Calls.mono (tcheck_any A B n c m d s _ HT_t.out.S (by omega)) ?_
    rw [hno]
    rintro e ua6 ⟨rfl, hb⟩
    replace HT_t := hide (HT_t.out.kept hb)
    replace HBA := hide (below_nx6 HBA.out hb)
    replace HBW := hide (HBW.out.trans (hb.mono HBW.out.size))
    clear cxt0 cxt1 hb
    go_wp2_with fail
    refine Calls.mono (alive8_any _) ?_
    rintro e ua7 ⟨rfl, hb⟩
    replace HT_t := hide (HT_t.out.kept hb)
    replace HBA := hide (below_nx6 HBA.out hb)
    replace HBW := hide (HBW.out.trans (hb.mono HBW.out.size))
    clear hb
    go_wp2
    go_ret
    exact ⟨rfl, HBW.out⟩
  go_wp2_with fail
  refine Calls.mono (tcheck_any A B n c m d s _ HT_t.out.S (by omega)) ?_
  rw [hok]
  rintro e ua8 ⟨rfl, hb⟩
  replace HT_t := hide (HT_t.out.kept hb)
  replace HBA := hide (below_nx6 HBA.out hb)
  replace HBW := hide (HBW.out.trans (hb.mono HBW.out.size))
  clear cxt0 cxt1 hb
  by_cases hn3 : n = 3
  rotate_left
  · have e1 : ((n : Int) == 3) = false := by simpa using (by omega : ¬ (n : Int) = 3)
    have e2 : ((n : Int) != 3) = true := by simpa using (by omega : ¬ (n : Int) = 3)
    have cxt0 := HT_t.out.c0
    have cxt1 := HT_t.out.c1
    go_wp2_with fail
    refine Calls.mono (alive8_any _) ?_
    rintro e ua9 ⟨rfl, hb⟩
    clear cxt0 cxt1
    replace HT_t := hide (HT_t.out.kept hb)
    replace HBA := hide (below_nx6 HBA.out hb)
    replace HBW := hide (HBW.out.trans (hb.mono HBW.out.size))
    clear hb
    go_wp2
    go_ret
    exact ⟨rfl, HBW.out⟩
  subst hn3
  obtain ⟨C, H, V, rfl⟩ := three_of (tenOk_iff.1 hok).1 hslen
  obtain ⟨hC, hH, hV, hm3, hm4⟩ := ten_three hok
  have HOK := hide hok
  have HM3 := hide hm3
  have hm1 : 1 ≤ m := by rw [hm3]; exact Nat.mul_pos (Nat.mul_pos (by omega) (by omega)) (by omega)
  clear hok hm3 hslen ht0 ht1 hfar
  have HZ0 := hide hz0
  have HZ1 := hide hz1
  clear hz0 hz1
  obtain ⟨bA, oA, rfl, _, hsA⟩ := byte_at HT_t.out.S (by omega)
  have x0 : ua8.cell? ⟨bA, oA, none⟩ = some (.int .i64 (C : Int)) := hsA 0 (by omega)
  clear hsA
  by_cases hC1 : C = 1
  rotate_left
  · have e1 : ((C : Int) == 1) = false := by simpa using (by omega : ¬ (C : Int) = 1)
    have e2 : ((C : Int) != 1) = true := by simpa using (by omega : ¬ (C : Int) = 1)
    have cxt0 := HT_t.out.c0
    have cxt1 := HT_t.out.c1
    go_wp2_with fail
    refine Calls.mono (alive8_any _) ?_
    rintro e ua10 ⟨rfl, hb⟩
    clear cxt0 cxt1 x0
    replace HT_t := hide (HT_t.out.kept hb)
    replace HBA := hide (below_nx6 HBA.out hb)
    replace HBW := hide (HBW.out.trans (hb.mono HBW.out.size))
    clear hb
    go_wp2
    go_ret
    exact ⟨rfl, HBW.out⟩
  subst hC1
  have cxt0 := HT_t.out.c0
  have cxt1 := HT_t.out.c1
  go_wp2_with fail
  refine Calls.mono (of8_any (some ⟨ua8.heap.size, 0, none⟩) (some ⟨ua8.heap.size + 1, 0, none⟩) 4 4 1 1 _) ?_
  rintro e ua11 ⟨rfl, hb0⟩
  have hl1 : Lies ua11 (some ⟨ua8.heap.size, 0, none⟩) 4 (([((1 : Nat) : Int), ((1 : Nat) : Int), ((1 : Nat) : Int), ((1 : Nat) : Int)] : List Int).map (Value.int .i64)) := ((lies_lit ua8 .i64 [1, 1, 1, 1] 3).alloc _).below hb0
  have hl2 : Lies ua11 (some ⟨ua8.heap.size + 1, 0, none⟩) 1 (([y] : List Int).map (Value.int .i32)) := by
    have h := lies_lit (ua8.alloc (.cells ((([1, 1, 1, 1] : List Int).map (Value.int .i64))).toArray 3)) .i32 [y] 21
    rw [World.size_alloc] at h
    exact h.below hb0
  have hb1 : Below ua8.heap.size ua8 ua11 := below_nx6 (below_al6 (below_al6 (Below.refl _ _))) hb0
  obtain ⟨V12, hV12⟩ : ∃ W, W = ua11.alloc (.cells #[.slice (some ⟨ua8.heap.size, 0, none⟩) 4 4, .slice (some ⟨ua8.heap.size + 1, 0, none⟩) 1 1] 25) := ⟨_, rfl⟩
  have HT_w : Hid (TenAt V12 ua11.heap.size (some ⟨ua8.heap.size, 0, none⟩) (some ⟨ua8.heap.size + 1, 0, none⟩) 4 4 1 1 [((1 : Nat) : Int), ((1 : Nat) : Int), ((1 : Nat) : Int), ((1 : Nat) : Int)] [y]) := hide (by rw [hV12]; exact ⟨BoxT.new ua11 _ _, hl1.alloc _, hl2.alloc _⟩)
  have hb : Below ua8.heap.size ua8 V12 := by rw [hV12]; exact below_al6 hb1
  replace HT_t := hide (HT_t.out.kept hb)
  replace HBA := hide (below_nx6 HBA.out hb)
  replace HBW := hide (HBW.out.trans (hb.mono HBW.out.size))
  have hV12' := hV12.symm
  clear cxt0 cxt1 x0 hV12 hb hb0 hb1 hl1 hl2
  have hlt_w := HT_w.out.1.lt
  have cxt0 := HT_t.out.c0
  have cxt1 := HT_t.out.c1
  go_wp2_with fail
  refine Calls.mono (twinT_any (some ⟨bA, oA, none⟩) B 3 c m d [((1 : Nat) : Int), (H : Int), (V : Int)] l _ HT_t.out.S HT_t.out.L (by omega) (by omega)) ?_
  rintro e ua13 ⟨g1, g2, rfl, ho1, ho2, hne, hb0⟩
  have hlo1 := ho1.lt g1 rfl
  have hlo2 := ho2.lt g2 rfl
  have hpx1 : ua13.heap.size ≠ g2 := by omega
  have HNE := hide (And.intro hne hpx1)
  obtain ⟨ZS, hZS⟩ : ∃ z : List Int, z = times8 l y := ⟨_, rfl⟩
  have HZL : Hid (ZS.length = l.length) := hide (by rw [hZS, times8_len])
  have HZK : Hid (∀ k, k < m → ZS.getD k 0 = mul32 (l.getD k 0) y) := hide (fun k hk => by rw [hZS]; exact times8_at l y (by rw [HL.out]; exact hk))
  have HZS := hide hZS
  clear hZS
  obtain ⟨V14, hV14⟩ : ∃ W, W = ua13.alloc (.cells #[.slice (some ⟨g1, 0, none⟩) 3 4, .slice (some ⟨g2, 0, none⟩) m (m + 1)] 25) := ⟨_, rfl⟩
  have HE2 : Hid (Below V12.heap.size V12 V14) := hide (by rw [hV14]; exact below_al6 hb0)
  have HB1 : Hid (BoxT V14 ua13.heap.size (.slice (some ⟨g1, 0, none⟩) 3 4) (.slice (some ⟨g2, 0, none⟩) m (m + 1))) := hide (by rw [hV14]; exact BoxT.new ua13 _ _)
  have HB2 : Hid (Lies V14 (some ⟨g1, 0, none⟩) 3 (([((1 : Nat) : Int), (H : Int), (V : Int)] : List Int).map (Value.int .i64))) := hide (by rw [hV14]; exact (lies_of_own (own_part ho1 (by simp) (by omega))).alloc _)
  have HB3 : Hid (V14.ownsRow V12.heap.size 21 1 (.slice (some ⟨g2, 0, none⟩) m (m + 1)) m ((mix8 ZS l 0).map (Value.int .i32))) := hide (by rw [mix8_zero, hV14]; exact own_below (own_part ho2 (by simp [HL.out]) (by omega)) (below_al6 (Below.refl _ _)))
  have hV14' := hV14.symm
  clear hV14 ho1 ho2 hb0 hne hpx1
  clear cxt0 cxt1
  have hxb1 := HB1.out.c1
  go_wp2
  clear hxb1
  go_loopw [9] (fun i wr => ∃ k : Nat, k ≤ m ∧ i = .int .i64 k ∧ Hid (BoxT wr ua13.heap.size (.slice (some ⟨g1, 0, none⟩) 3 4) (.slice (some ⟨g2, 0, none⟩) m (m + 1))) ∧ Hid (Lies wr (some ⟨g1, 0, none⟩) 3 (([((1 : Nat) : Int), (H : Int), (V : Int)] : List Int).map (Value.int .i64))) ∧ Hid (wr.ownsRow V12.heap.size 21 1 (.slice (some ⟨g2, 0, none⟩) m (m + 1)) m ((mix8 ZS l k).map (Value.int .i32))) ∧ Hid (Below V12.heap.size V12 wr)) (fun i _ => m - (intOf i).toNat)
  case atStart => exact ⟨0, Nat.zero_le _, rfl, HB1, HB2, HB3, HE2⟩
  case round =>
    clear HB1 HB2 HB3 HE2
    obtain ⟨k, hk, rfl, HX, HS, HO, HE⟩ := hrel
    have hx1 := HX.out.c1
    by_cases hlt : k < m
    · have h0 : (0 : Int) ≤ (k : Int) := by omega
      have h3 : (k : Int) < (m : Int) := by omega
      obtain ⟨hg1, hf1⟩ := own_cells8 HO.out hlt
      rw [mix8_at (HZL.out) (by rw [HL.out]; exact hlt)] at hg1
      obtain ⟨x, hx⟩ : ∃ x, x = l.getD k 0 := ⟨_, rfl⟩
      obtain ⟨z, hz⟩ : ∃ z, z = mul32 x y := ⟨_, rfl⟩
      have HV : Hid (ZS.getD k 0 = z) := hide (by rw [HZK.out k hlt, hz, hx])
      rw [← hx] at hg1
      have m1 : IntKind.i32.wrap (x * y) = z := by rw [hz, mul32, wrap32, IntKind.wrap_i32]
      clear hx hz
      have hf2 : wr.drew.frozen? ⟨g2, k, none⟩ = false := hf1
      go_wp2
      have hS0 : Hid (wr.drew.cell? ⟨ua13.heap.size, 1, none⟩ = some (.slice (some ⟨g2, 0, none⟩) m (m + 1)) ∧ wr.drew.cell? ⟨g2, k, none⟩ = some (.int .i32 x)) := hide (⟨HX.out.c1, hg1⟩)
      refine wp_region_U (fun b v => b = false → v.cell? ⟨ua13.heap.size, 1, none⟩ = some (.slice (some ⟨g2, 0, none⟩) m (m + 1)) ∧ v.cell? ⟨g2, k, none⟩ = some (.int .i32 x)) 11 (by kernel_rfl) ?_
      refine wpAnyU_take (i := 0) (oi := { dst := some 62, op := _, type := _, pos := _, after := _, guard := none }) (v := .pointer (some ⟨ua13.heap.size, 1, none⟩)) rfl (by kernel_rfl) (by kernel_rfl) (by kernel_rfl) (by kernel_rfl) (fun _ _ _ h => h) (yields_take rfl (fun w' hw => by obtain ⟨h1, h2⟩ := hw.no (by kernel_rfl) rfl; go_simp)) (fun _ => hS0.out) ?_
      simp only [Act.put, List.setIfInBounds_toArray, List.set_cons_zero, List.set_cons_succ]
      refine wpAnyU_take (i := 1) (oi := { dst := some 63, op := _, type := _, pos := _, after := _, guard := none }) (v := .slice (some ⟨g2, 0, none⟩) m (m + 1)) rfl (by kernel_rfl) (by kernel_rfl) (by kernel_rfl) (by kernel_rfl) (fun _ _ _ h => h) (yields_take rfl (fun w' hw => by obtain ⟨h1, h2⟩ := hw.no (by kernel_rfl) rfl; go_simp)) (fun _ => hS0.out) ?_
      simp only [Act.put, List.setIfInBounds_toArray, List.set_cons_zero, List.set_cons_succ]
      refine wpAnyU_take (i := 2) (oi := { dst := some 64, op := _, type := _, pos := _, after := _, guard := none }) (v := .int .i64 (k : Int)) rfl (by kernel_rfl) (by kernel_rfl) (by kernel_rfl) (by kernel_rfl) (fun _ _ _ h => h) (yields_take rfl (fun w' hw => by obtain ⟨h1, h2⟩ := hw.no (by kernel_rfl) rfl; go_simp)) (fun _ => hS0.out) ?_
      simp only [Act.put, List.setIfInBounds_toArray, List.set_cons_zero, List.set_cons_succ]
      refine wpAnyU_take (i := 3) (oi := { dst := some 65, op := _, type := _, pos := _, after := _, guard := none }) (v := .pointer (some ⟨ua13.heap.size, 1, none⟩)) rfl (by kernel_rfl) (by kernel_rfl) (by kernel_rfl) (by kernel_rfl) (fun _ _ _ h => h) (yields_take rfl (fun w' hw => by obtain ⟨h1, h2⟩ := hw.no (by kernel_rfl) rfl; go_simp)) (fun _ => hS0.out) ?_
      simp only [Act.put, List.setIfInBounds_toArray, List.set_cons_zero, List.set_cons_succ]
      refine wpAnyU_take (i := 4) (oi := { dst := some 66, op := _, type := _, pos := _, after := _, guard := none }) (v := .slice (some ⟨g2, 0, none⟩) m (m + 1)) rfl (by kernel_rfl) (by kernel_rfl) (by kernel_rfl) (by kernel_rfl) (fun _ _ _ h => h) (yields_take rfl (fun w' hw => by obtain ⟨h1, h2⟩ := hw.no (by kernel_rfl) rfl; go_simp)) (fun _ => hS0.out) ?_
      simp only [Act.put, List.setIfInBounds_toArray, List.set_cons_zero, List.set_cons_succ]
      refine wpAnyU_take (i := 5) (oi := { dst := some 67, op := _, type := _, pos := _, after := _, guard := none }) (v := .int .i64 (k : Int)) rfl (by kernel_rfl) (by kernel_rfl) (by kernel_rfl) (by kernel_rfl) (fun _ _ _ h => h) (yields_take rfl (fun w' hw => by obtain ⟨h1, h2⟩ := hw.no (by kernel_rfl) rfl; go_simp)) (fun _ => hS0.out) ?_
      simp only [Act.put, List.setIfInBounds_toArray, List.set_cons_zero, List.set_cons_succ]
      refine wpAnyU_take (i := 6) (oi := { dst := some 68, op := _, type := _, pos := _, after := _, guard := none }) (v := .pointer (some ⟨g2, k, none⟩)) rfl (by kernel_rfl) (by kernel_rfl) (by kernel_rfl) (by kernel_rfl) (fun _ _ _ h => h) (yields_take rfl (fun w' hw => by obtain ⟨h1, h2⟩ := hw.no (by kernel_rfl) rfl; go_simp)) (fun _ => hS0.out) ?_
      simp only [Act.put, List.setIfInBounds_toArray, List.set_cons_zero, List.set_cons_succ]
      refine wpAnyU_take (i := 7) (oi := { dst := some 69, op := _, type := _, pos := _, after := _, guard := none }) (v := .int .i32 x) rfl (by kernel_rfl) (by kernel_rfl) (by kernel_rfl) (by kernel_rfl) (fun _ _ _ h => h) (yields_take rfl (fun w' hw => by obtain ⟨h1, h2⟩ := hw.no (by kernel_rfl) rfl; go_simp)) (fun _ => hS0.out) ?_
      simp only [Act.put, List.setIfInBounds_toArray, List.set_cons_zero, List.set_cons_succ]
      refine wpAnyU_take (i := 8) (oi := { dst := some 70, op := _, type := _, pos := _, after := _, guard := none }) (v := .int .i32 y) rfl (by kernel_rfl) (by kernel_rfl) (by kernel_rfl) (by kernel_rfl) (fun _ _ _ h => h) (yields_take rfl (fun w' hw => by obtain ⟨h1, h2⟩ := hw.no (by kernel_rfl) rfl; go_simp)) (fun _ => hS0.out) ?_
      simp only [Act.put, List.setIfInBounds_toArray, List.set_cons_zero, List.set_cons_succ]
      refine wpAnyU_take (i := 9) (oi := { dst := some 71, op := _, type := _, pos := _, after := _, guard := none }) (v := .int .i32 z) rfl (by kernel_rfl) (by kernel_rfl) (by kernel_rfl) (by kernel_rfl) (fun _ _ _ h => h) (yields_take rfl (fun w' hw => by obtain ⟨h1, h2⟩ := hw.no (by kernel_rfl) rfl; go_simp)) (fun _ => hS0.out) ?_
      simp only [Act.put, List.setIfInBounds_toArray, List.set_cons_zero, List.set_cons_succ]
      refine wpAnyU_take (i := 10) (oi := { dst := some 72, op := _, type := _, pos := _, after := _, guard := none }) (v := .pointer (some ⟨g2, k, none⟩)) rfl (by kernel_rfl) (by kernel_rfl) (by kernel_rfl) (by kernel_rfl) (fun _ _ _ h => h) (yields_take rfl (fun w' hw => by obtain ⟨h1, h2⟩ := hw.no (by kernel_rfl) rfl; go_simp)) (fun _ => hS0.out) ?_
      simp only [Act.put, List.setIfInBounds_toArray, List.set_cons_zero, List.set_cons_succ]
      refine wpAnyU_one (i := 11) (by kernel_rfl) rfl ?_
      intro K hK
      go_simp
      refine hK _ _ (fun h => by cases h) (fun _ => ?_)
      clear hK K
      refine wpAnyU_done (by kernel_rfl) ?_ _
      clear hS0
      have HO2 : Hid ((wr.drew.setCell ⟨g2, k, none⟩ (.int .i32 z)).ownsRow V12.heap.size 21 1 (.slice (some ⟨g2, 0, none⟩) m (m + 1)) m ((mix8 ZS l (k + 1)).map (Value.int .i32))) := hide (by
        have h := own_set8 (v := .int .i32 z) (own_below HO.out (below_drewN (Below.refl _ _) 1)) hlt
        have e : ((mix8 ZS l k).map (Value.int .i32)).set k (.int .i32 z) = (mix8 ZS l (k + 1)).map (Value.int .i32) := by
          rw [← List.map_set, ← HV.out, mix8_set HZL.out (by rw [HL.out]; exact hlt)]
        rwa [e] at h)
      have HX2 : Hid (BoxT (wr.drew.setCell ⟨g2, k, none⟩ (.int .i32 z)) ua13.heap.size (.slice (some ⟨g1, 0, none⟩) 3 4) (.slice (some ⟨g2, 0, none⟩) m (m + 1))) := hide ((Below.heap_setCell _ _ _ _ (by dsimp only; exact HNE.out.2)).trans HX.out)
      have HS2 : Hid (Lies (wr.drew.setCell ⟨g2, k, none⟩ (.int .i32 z)) (some ⟨g1, 0, none⟩) 3 (([((1 : Nat) : Int), (H : Int), (V : Int)] : List Int).map (Value.int .i64))) := hide (HS.out.keep (by simp) (fun b o e hb j => by cases e; exact World.cell?_of_block (Below.heap_setCell _ _ _ _ (by dsimp only; exact HNE.out.1))))
      have HE3 : Hid (Below V12.heap.size V12 (wr.drew.setCell ⟨g2, k, none⟩ (.int .i32 z))) := hide ((below_drewN HE.out 1).setCell (by dsimp only; exact own_ge8 HO.out) _)
      clear hf1 hf2 hg1
      go_wp2
      go_roundw
      case rel => exact ⟨k + 1, by omega, by go_num, HX2, HS2, HO2, HE3⟩
      case measure => simp [intOf]; omega
    · obtain rfl : m = k := by omega
      have hmix : mix8 ZS l m = ZS := by rw [← HL.out]; exact mix8_all HZL.out
      have HOZ : Hid (wr.ownsRow V12.heap.size 21 1 (.slice (some ⟨g2, 0, none⟩) m (m + 1)) m ((ZS).map (Value.int .i32))) := hide (by rw [← hmix]; exact HO.out)
      have HT_q : Hid (TenAt wr ua13.heap.size (some ⟨g1, 0, none⟩) (some ⟨g2, 0, none⟩) 3 4 m (m + 1) [((1 : Nat) : Int), (H : Int), (V : Int)] ZS) := hide ⟨HX.out, HS.out, lies_of_own HOZ.out⟩
      have hb := HE.out
      clear hmix
      replace HT_t := hide (HT_t.out.kept hb)
      replace HT_w := hide (HT_w.out.kept hb)
      replace HBA := hide (below_nx6 HBA.out hb)
      replace HBW := hide (HBW.out.trans (hb.mono HBW.out.size))
      clear hb hx1 HX HS HO HE HOZ HNE
      obtain ⟨hsE, hsL⟩ := shp_one8_whole HOK.out
      have hcon := wof_ok (some ⟨bA, oA, none⟩) B (some ⟨ua8.heap.size, 0, none⟩) (some ⟨ua8.heap.size + 1, 0, none⟩) c m d 4 1 1 1 H V 1 1 1 H V 1 0 l [y] wr HT_t.out.S HT_t.out.L HT_w.out.S HT_w.out.L HOK.out ten_one8 (by omega) hsE hsL
      rw [win_one_whole (by rw [HL.out]; exact HM3.out), ← HZS.out, ← HM3.out] at hcon
      clear hsE hsL
      have cxt0 := HT_t.out.c0
      have cxt1 := HT_t.out.c1
      have cxw0 := HT_w.out.c0
      have cxw1 := HT_w.out.c1
      have cxq0 := HT_q.out.c0
      have cxq1 := HT_q.out.c1
      go_wp2_with fail
      refine Calls.mono (hcon) ?_
      rintro e ua15 ⟨g1x, c1x, g2x, rfl, ho1, ho2, _, hb0⟩
      obtain ⟨V16, hV16⟩ : ∃ W, W = ua15.alloc (.cells #[.slice (some ⟨g1x, 0, none⟩) 3 c1x, .slice (some ⟨g2x, 0, none⟩) m m] 25) := ⟨_, rfl⟩
      have HT_x : Hid (TenAt V16 ua15.heap.size (some ⟨g1x, 0, none⟩) (some ⟨g2x, 0, none⟩) 3 c1x m m [((1 : Nat) : Int), (H : Int), (V : Int)] ZS) := hide (by rw [hV16]; exact TenAt.made ho1 ho2)
      have hb : Below wr.heap.size wr V16 := by rw [hV16]; exact below_al6 hb0
      replace HT_t := hide (HT_t.out.kept hb)
      replace HT_w := hide (HT_w.out.kept hb)
      replace HT_q := hide (HT_q.out.kept hb)
      replace HBA := hide (below_nx6 HBA.out hb)
      replace HBW := hide (HBW.out.trans (hb.mono HBW.out.size))
      have hV16' := hV16.symm
      clear cxt0 cxt1 cxw0 cxw1 cxq0 cxq1 hV16 hb hb0 ho1 ho2
      have hlt_x := HT_x.out.1.lt
      clear hcon
      have cxx0 := HT_x.out.c0
      have cxx1 := HT_x.out.c1
      have cxq0 := HT_q.out.c0
      have cxq1 := HT_q.out.c1
      go_wp2_with fail
      refine Calls.mono (tsame_any (some ⟨g1x, 0, none⟩) (some ⟨g2x, 0, none⟩) ((some ⟨g1, 0, none⟩)) ((some ⟨g2, 0, none⟩)) 3 c1x m m 3 4 m ((m + 1)) [((1 : Nat) : Int), (H : Int), (V : Int)] ZS [((1 : Nat) : Int), (H : Int), (V : Int)] ZS _ HT_x.out.S HT_x.out.L HT_q.out.S HT_q.out.L (by omega) (by omega)) ?_
      rw [show decide ([((1 : Nat) : Int), (H : Int), (V : Int)] = [((1 : Nat) : Int), (H : Int), (V : Int)] ∧ ZS = ZS) = true from decide_eq_true ⟨rfl, rfl⟩]
      rintro e ua17 ⟨rfl, hb⟩
      replace HT_t := hide (HT_t.out.kept hb)
      replace HT_w := hide (HT_w.out.kept hb)
      replace HT_q := hide (HT_q.out.kept hb)
      replace HT_x := hide (HT_x.out.kept hb)
      replace HBA := hide (below_nx6 HBA.out hb)
      replace HBW := hide (HBW.out.trans (hb.mono HBW.out.size))
      clear cxx0 cxx1 cxq0 cxq1 hb
      obtain ⟨zn0, hzn0⟩ := Int.eq_ofNat_of_zero_le HZ0.out.1
      obtain ⟨zn1, hzn1⟩ := Int.eq_ofNat_of_zero_le HZ1.out.1
      subst hzn0 hzn1
      obtain ⟨P, hP⟩ : ∃ z, z = zn1 % 9 := ⟨_, rfl⟩
      obtain ⟨q0, hq0⟩ : ∃ z, z = zn0 % 8 := ⟨_, rfl⟩
      obtain ⟨q, hq⟩ : ∃ z, z = q0 + 1 := ⟨_, rfl⟩
      have hP8 : P ≤ 8 := by omega
      have hq8 : 1 ≤ q ∧ q ≤ 8 := by omega
      have r1 : Int.tmod (zn1 : Int) 9 = (P : Int) := by rw [hP]; rfl
      have r2 : Int.tmod (zn0 : Int) 8 = (q0 : Int) := by rw [hq0]; rfl
      have r3 : IntKind.u8.wrap (P : Int) = (P : Int) := by rw [IntKind.wrap_u8]; omega
      have r4 : IntKind.u8.wrap (q0 : Int) = (q0 : Int) := by rw [IntKind.wrap_u8]; omega
      have r5 : IntKind.i64.wrap (P : Int) = (P : Int) := by rw [IntKind.wrap_i64]; omega
      have r6 : IntKind.i64.wrap (q0 : Int) = (q0 : Int) := by rw [IntKind.wrap_i64]; omega
      have r7 : IntKind.i64.wrap (1 + (q0 : Int)) = (q : Int) := by rw [IntKind.wrap_i64]; omega
      obtain ⟨y0, y1⟩ := HCZ.out _ HBA.out
      clear hP hq0 hq HT_x
      obtain ⟨E4, hE4⟩ : ∃ z : Int, z = of8E [((1 : Nat) : Int), (H : Int), (V : Int)] m [((1 : Nat) : Int), ((1 : Nat) : Int), ((1 : Nat) : Int), ((1 : Nat) : Int)] 1 (q : Int) (P : Int) := ⟨_, rfl⟩
      have HR_E4 := hide hE4
      clear hE4
      obtain ⟨S4, hS4⟩ : ∃ z : List Int, z = of8S [((1 : Nat) : Int), (H : Int), (V : Int)] m [((1 : Nat) : Int), ((1 : Nat) : Int), ((1 : Nat) : Int), ((1 : Nat) : Int)] 1 (q : Int) (P : Int) := ⟨_, rfl⟩
      have HR_S4 := hide hS4
      clear hS4
      obtain ⟨L4, hL4⟩ : ∃ z : List Int, z = of8L [((1 : Nat) : Int), (H : Int), (V : Int)] m [((1 : Nat) : Int), ((1 : Nat) : Int), ((1 : Nat) : Int), ((1 : Nat) : Int)] 1 l [y] (q : Int) (P : Int) := ⟨_, rfl⟩
      have HR_L4 := hide hL4
      clear hL4
      have cxt0 := HT_t.out.c0
      have cxt1 := HT_t.out.c1
      have cxw0 := HT_w.out.c0
      have cxw1 := HT_w.out.c1
      go_wp2_with fail
      refine Calls.mono (wof_own (some ⟨bA, oA, none⟩) B (some ⟨ua8.heap.size, 0, none⟩) (some ⟨ua8.heap.size + 1, 0, none⟩) 3 c m d 4 4 1 1 [((1 : Nat) : Int), (H : Int), (V : Int)] l [((1 : Nat) : Int), ((1 : Nat) : Int), ((1 : Nat) : Int), ((1 : Nat) : Int)] [y] (q : Int) (P : Int) _ HT_t.out.S HT_t.out.L HT_w.out.S HT_w.out.L (by omega) (by omega) (by omega)) ?_
      rw [← HR_E4.out, ← HR_S4.out, ← HR_L4.out]
      rintro e ua18 ⟨A1y, k1y, c1y, A2y, k2y, c2y, rfl, ho1, ho2, hk1y, hk2y, hb0⟩
      obtain ⟨V19, hV19⟩ : ∃ W, W = ua18.alloc (.cells #[.slice A1y k1y c1y, .slice A2y k2y c2y] 25) := ⟨_, rfl⟩
      have HT_y : Hid (TenAt V19 ua18.heap.size A1y A2y k1y c1y k2y c2y S4 L4) := hide (by rw [hV19]; exact TenAt.own ho1 ho2)
      have hcapy := own_cap ho2
      have hb : Below ua17.heap.size ua17 V19 := by rw [hV19]; exact below_al6 hb0
      replace HT_t := hide (HT_t.out.kept hb)
      replace HT_w := hide (HT_w.out.kept hb)
      replace HT_q := hide (HT_q.out.kept hb)
      replace HBA := hide (below_nx6 HBA.out hb)
      replace HBW := hide (HBW.out.trans (hb.mono HBW.out.size))
      have hV19' := hV19.symm
      clear cxt0 cxt1 cxw0 cxw1 hV19 hb hb0 ho1 ho2
      have hlt_y := HT_y.out.1.lt
      clear r1 r2 r3 r4 r5 r6 r7 y0 y1
      rcases of_one8 HOK.out hP8 hq8 l y with hE | ⟨hE, Y, X, hY, hX, hY1, hX1, hz1, hS, hL⟩
      · have e4 : E4 = 10 := by rw [HR_E4.out, hE]
        subst e4
        go_wp2
        go_ret
        exact ⟨rfl, HBW.out⟩
      have e4 : E4 = 0 := by rw [HR_E4.out, hE]
      have e5 : S4 = [((1 : Nat) : Int), (Y : Int), (X : Int)] := by rw [HR_S4.out, hS]
      have HL4 : Hid (L4 = winL l [y] 1 H V 1 1 1 q P Y X) := hide (by rw [HR_L4.out, hL])
      subst e4 e5
      obtain rfl : k1y = 3 := (lies_len HT_y.out.S).symm
      obtain ⟨Q, hQ⟩ : ∃ z, z = 1 * Y * X := ⟨_, rfl⟩
      obtain rfl : Q = k2y := by rw [hQ, ← lies_len HT_y.out.L, HL4.out, winL_len]
      rw [← hQ] at hz1
      have hQp : 1 ≤ Q := by rw [hQ]; exact Nat.mul_pos (by omega) (by omega)
      have HQ := hide hQ
      have HYX := hide (And.intro hY hX)
      clear hE hS hL hQ hY hX
      obtain ⟨bY, oY, rfl, _, hsY⟩ := byte_at HT_y.out.S (by omega)
      obtain ⟨bG, oG, rfl, _, hsG⟩ := byte_at HT_y.out.L (by omega)
      clear hsY hsG
      have HCT : Hid (∀ v, Below V19.heap.size V19 v → v.cell? ⟨w.heap.size, 0, none⟩ = some (.slice (some ⟨bA, oA, none⟩) 3 c) ∧ v.cell? ⟨bA, oA + 1, none⟩ = some (.int .i64 (H : Int)) ∧ v.cell? ⟨bA, oA + 2, none⟩ = some (.int .i64 (V : Int))) := hide (fun v hv => by
        have hx := HT_t.out.kept hv
        obtain ⟨_, _, e1, _, x1⟩ := byte_at hx.S (by omega)
        cases e1
        exact ⟨hx.c0, x1 1 (by omega), x1 2 (by omega)⟩)
      have HCY : Hid (∀ v, Below V19.heap.size V19 v → v.cell? ⟨ua18.heap.size, 0, none⟩ = some (.slice (some ⟨bY, oY, none⟩) 3 c1y) ∧ v.cell? ⟨ua18.heap.size, 1, none⟩ = some (.slice (some ⟨bG, oG, none⟩) Q c2y) ∧ v.cell? ⟨bY, oY + 1, none⟩ = some (.int .i64 (Y : Int)) ∧ v.cell? ⟨bY, oY + 2, none⟩ = some (.int .i64 (X : Int))) := hide (fun v hv => by
        have hx := HT_y.out.kept hv
        obtain ⟨_, _, e1, _, x1⟩ := byte_at hx.S (by omega)
        cases e1
        exact ⟨hx.c0, hx.c1, x1 1 (by omega), x1 2 (by omega)⟩)
      have HCG : Hid (∀ v, Below V19.heap.size V19 v → ∀ k, k < Q → v.cell? ⟨bG, oG + k, none⟩ = some (.int .i32 (L4.getD k 0))) := hide (fun v hv k hk => by
        obtain ⟨_, _, e2, _, x2⟩ := byte_at (HT_y.out.kept hv).L (by omega)
        cases e2
        exact x2 k hk)
      have HCQ : Hid (∀ v, Below V19.heap.size V19 v → ∀ p, p < m → v.cell? ⟨ua13.heap.size, 1, none⟩ = some (.slice (some ⟨g2, 0, none⟩) m (m + 1)) ∧ v.cell? ⟨g2, p, none⟩ = some (.int .i32 (ZS.getD p 0))) := hide (fun v hv p hp => by
        have hx := HT_q.out.kept hv
        obtain ⟨_, _, e2, _, x2⟩ := byte_at hx.L (by omega)
        cases e2
        have h := x2 p hp
        rw [Nat.zero_add] at h
        exact ⟨hx.c1, h⟩)
      obtain ⟨a1, a2, a3⟩ := HCT.out _ (Below.refl _ _)
      obtain ⟨b1, b2, b3, b4⟩ := HCY.out _ (Below.refl _ _)
      go_wp2
      clear a1 a2 a3 b1 b2 b3 b4
      go_loopw [18] (fun i wr => ∃ k : Nat, k ≤ Q ∧ i = .int .i64 k ∧ Hid (Below V19.heap.size V19 wr)) (fun i _ => Q - (intOf i).toNat)
      case atStart => exact ⟨0, Nat.zero_le _, rfl, hide (Below.refl _ _)⟩
      case round =>
        obtain ⟨k, hk, rfl, HE⟩ := hrel
        obtain ⟨b1, b2, b3, b4⟩ := HCY.out _ HE.out
        by_cases hlt : k < Q
        · have h0 : (0 : Int) ≤ (k : Int) := by omega
          have h3 : (k : Int) < (Q : Int) := by omega
          obtain ⟨kx, hkx⟩ : ∃ z, z = k / X := ⟨_, rfl⟩
          obtain ⟨ks, hks⟩ : ∃ z, z = k % X := ⟨_, rfl⟩
          obtain ⟨yq, hyq⟩ : ∃ z, z = kx * q := ⟨_, rfl⟩
          obtain ⟨xq, hxq⟩ : ∃ z, z = ks * q := ⟨_, rfl⟩
          obtain ⟨r, hr⟩ : ∃ z : Int, z = (yq : Int) - (P : Int) := ⟨_, rfl⟩
          obtain ⟨cl, hcl⟩ : ∃ z : Int, z = (xq : Int) - (P : Int) := ⟨_, rfl⟩
          have hkx1 : kx ≤ 4096 := by have := Nat.div_le_self k X; omega
          have hks1 : ks ≤ 4096 := by have := Nat.mod_le k X; omega
          have hyq1 : yq ≤ 4096 * 8 := by rw [hyq]; exact Nat.mul_le_mul hkx1 hq8.2
          have hxq1 : xq ≤ 4096 * 8 := by rw [hxq]; exact Nat.mul_le_mul hks1 hq8.2
          have HPK : Hid (L4.getD k 0 = if 0 ≤ r ∧ r < (H : Int) ∧ 0 ≤ cl ∧ cl < (V : Int) then ZS.getD (r.toNat * V + cl.toNat) 0 else 0) := hide (by
            rw [HL4.out, HZS.out]
            exact win_one_pick (by rw [HL.out]; exact HM3.out) (by rw [← HQ.out]; exact hlt) (by rw [hr, hyq, hkx]) (by rw [hcl, hxq, hks]))
          have w1 : (k : Int) / (X : Int) = (kx : Int) := by rw [hkx]; rfl
          have w2 : (k : Int).tdiv (X : Int) = (kx : Int) := by rw [hkx]; rfl
          have w3 : (k : Int) % (X : Int) = (ks : Int) := by rw [hks]; rfl
          have w4 : (k : Int).tmod (X : Int) = (ks : Int) := by rw [hks]; rfl
          have w5 : IntKind.i64.wrap ((kx : Int) * (q : Int)) = (yq : Int) := by rw [← Int.natCast_mul, ← hyq, IntKind.wrap_i64]; omega
          have w6 : IntKind.i64.wrap ((ks : Int) * (q : Int)) = (xq : Int) := by rw [← Int.natCast_mul, ← hxq, IntKind.wrap_i64]; omega
          have w7 : (yq : Int) - (P : Int) = r := hr.symm
          have w8 : (xq : Int) - (P : Int) = cl := hcl.symm
          have hr1 : -8 ≤ r ∧ r ≤ 40000 := by omega
          have hc1 : -8 ≤ cl ∧ cl ≤ 40000 := by omega
          have n2 : ¬ (X : Int) = 0 := by omega
          have n2' : ¬ X = 0 := by omega
          have g1 := HCG.out _ HE.out k hlt
          clear hkx hks hyq hxq hr hcl
          by_cases c1 : 0 ≤ r ∧ r < (H : Int) ∧ 0 ≤ cl ∧ cl < (V : Int)
          · obtain ⟨d1, d2, d3, d4⟩ := c1
            have hpk := HPK.out
            rw [if_pos ⟨d1, d2, d3, d4⟩] at hpk
            obtain ⟨rn, hrn⟩ := Int.eq_ofNat_of_zero_le d1
            obtain ⟨cn, hcn⟩ := Int.eq_ofNat_of_zero_le d3
            subst hrn hcn
            rw [Int.toNat_natCast, Int.toNat_natCast] at hpk
            have hplc : rn * V + cn < m := by rw [HM3.out, Nat.one_mul]; exact place_lt (by omega) (by omega)
            obtain ⟨rv, hrv⟩ : ∃ z, z = rn * V := ⟨_, rfl⟩
            rw [← hrv] at hpk hplc
            obtain ⟨p, hp⟩ : ∃ z, z = rv + cn := ⟨_, rfl⟩
            rw [← hp] at hpk hplc
            have w9 : IntKind.i64.wrap ((rn : Int) * (V : Int)) = (rv : Int) := by rw [← Int.natCast_mul, ← hrv, IntKind.wrap_i64]; omega
            have w10 : (rv : Int) + (cn : Int) = (p : Int) := by omega
            have hp0 : (0 : Int) ≤ (p : Int) := by omega
            have hp1 : (p : Int) < (m : Int) := by omega
            have hp2 : (p : Int) < (m : Int) + 1 := by omega
            obtain ⟨q1, q2⟩ := HCQ.out _ HE.out p hplc
            obtain ⟨o, ho⟩ : ∃ z, z = ZS.getD p 0 := ⟨_, rfl⟩
            rw [hpk] at g1
            rw [← ho] at g1 q2
            clear hrv hp hpk ho HPK
            go_wp2
            go_roundw
            case rel => exact ⟨k + 1, by omega, by go_num, HE⟩
            case measure => simp [intOf]; omega
          · rw [HPK.out, if_neg c1] at g1
            clear HPK
            by_cases d1 : 0 ≤ r
            rotate_left
            · clear c1
              go_wp2
              go_roundw
              case rel => exact ⟨k + 1, by omega, by go_num, HE⟩
              case measure => simp [intOf]; omega
            by_cases d2 : r < (H : Int)
            rotate_left
            · clear c1
              go_wp2
              go_roundw
              case rel => exact ⟨k + 1, by omega, by go_num, HE⟩
              case measure => simp [intOf]; omega
            by_cases d3 : 0 ≤ cl
            rotate_left
            · clear c1
              go_wp2
              go_roundw
              case rel => exact ⟨k + 1, by omega, by go_num, HE⟩
              case measure => simp [intOf]; omega
            have d4 : ¬ cl < (V : Int) := fun h => c1 ⟨d1, d2, d3, h⟩
            clear c1
            go_wp2
            go_roundw
            case rel => exact ⟨k + 1, by omega, by go_num, HE⟩
            case measure => simp [intOf]; omega
        · obtain rfl : Q = k := by omega
          have h3 : ¬ ((Q : Int) < (Q : Int)) := by omega
          obtain ⟨hY, hX⟩ := HYX.out
          obtain ⟨p2, hp2⟩ : ∃ z, z = 2 * P := ⟨_, rfl⟩
          rw [← hp2] at hY hX
          obtain ⟨hp, hhp⟩ : ∃ z, z = H + p2 := ⟨_, rfl⟩
          obtain ⟨vp, hvp⟩ : ∃ z, z = V + p2 := ⟨_, rfl⟩
          rw [← hhp] at hY
          rw [← hvp] at hX
          obtain ⟨h1, hh1⟩ : ∃ z, z = hp - 1 := ⟨_, rfl⟩
          obtain ⟨v1, hv1⟩ : ∃ z, z = vp - 1 := ⟨_, rfl⟩
          rw [← hh1] at hY
          rw [← hv1] at hX
          obtain ⟨hd, hhd⟩ : ∃ z, z = h1 / q := ⟨_, rfl⟩
          obtain ⟨vd, hvd⟩ : ∃ z, z = v1 / q := ⟨_, rfl⟩
          rw [← hhd] at hY
          rw [← hvd] at hX
          have w1' : IntKind.i64.wrap (2 * (P : Int)) = (p2 : Int) := by rw [IntKind.wrap_i64]; omega
          have w2' : IntKind.i64.wrap ((H : Int) + (p2 : Int)) = (hp : Int) := by rw [IntKind.wrap_i64]; omega
          have w3' : IntKind.i64.wrap ((V : Int) + (p2 : Int)) = (vp : Int) := by rw [IntKind.wrap_i64]; omega
          have w4' : IntKind.i64.wrap ((hp : Int) - 1) = (h1 : Int) := by rw [IntKind.wrap_i64]; omega
          have w5' : IntKind.i64.wrap ((vp : Int) - 1) = (v1 : Int) := by rw [IntKind.wrap_i64]; omega
          have w6 : (h1 : Int) / (q : Int) = (hd : Int) := by rw [hhd]; rfl
          have w6' : (h1 : Int).tdiv (q : Int) = (hd : Int) := by rw [hhd]; rfl
          have w7 : (v1 : Int) / (q : Int) = (vd : Int) := by rw [hvd]; rfl
          have w7' : (v1 : Int).tdiv (q : Int) = (vd : Int) := by rw [hvd]; rfl
          have hhd1 : hd ≤ h1 := by rw [hhd]; exact Nat.div_le_self _ _
          have hvd1 : vd ≤ v1 := by rw [hvd]; exact Nat.div_le_self _ _
          have w8' : IntKind.i64.wrap ((hd : Int) + 1) = (Y : Int) := by rw [IntKind.wrap_i64]; omega
          have w9' : IntKind.i64.wrap ((vd : Int) + 1) = (X : Int) := by rw [IntKind.wrap_i64]; omega
          have w10 : IntKind.i64.wrap (hd : Int) = (hd : Int) := by rw [IntKind.wrap_i64]; omega
          have w11 : IntKind.i64.wrap (vd : Int) = (vd : Int) := by rw [IntKind.wrap_i64]; omega
          have n1 : ¬ (q : Int) = 0 := by omega
          have n1' : ¬ q = 0 := by omega
          have hd0 : Below V19.heap.size V19 wr.drew := below_drewN HE.out 1
          clear hY hX hp2 hhp hvp hh1 hv1 hhd hvd
          go_wp2
          have hS0 : Hid (wr.drew.cell? ⟨ua18.heap.size, 0, none⟩ = some (.slice (some ⟨bY, oY, none⟩) 3 c1y) ∧ wr.drew.cell? ⟨ua18.heap.size, 1, none⟩ = some (.slice (some ⟨bG, oG, none⟩) Q c2y) ∧ wr.drew.cell? ⟨bY, oY + 1, none⟩ = some (.int .i64 (Y : Int)) ∧ wr.drew.cell? ⟨bY, oY + 2, none⟩ = some (.int .i64 (X : Int))) := hide (HCY.out _ hd0)
          refine wp_region_U (fun _ v => v.cell? ⟨ua18.heap.size, 0, none⟩ = some (.slice (some ⟨bY, oY, none⟩) 3 c1y) ∧ v.cell? ⟨ua18.heap.size, 1, none⟩ = some (.slice (some ⟨bG, oG, none⟩) Q c2y) ∧ v.cell? ⟨bY, oY + 1, none⟩ = some (.int .i64 (Y : Int)) ∧ v.cell? ⟨bY, oY + 2, none⟩ = some (.int .i64 (X : Int))) 99 (by kernel_rfl) ?_
          refine wpAnyU_take (i := 0) (oi := { dst := some 175, op := _, type := _, pos := _, after := _, guard := none }) (v := .pointer (some ⟨ua18.heap.size, 0, none⟩)) rfl (by kernel_rfl) (by kernel_rfl) (by kernel_rfl) (by kernel_rfl) (fun _ _ _ h => h) (yields_take rfl (fun w' hw => by obtain ⟨h1, h2, h3, h4⟩ := hw.const; go_simp)) hS0.out ?_
          simp only [Act.put, List.setIfInBounds_toArray, List.set_cons_zero, List.set_cons_succ]
          refine wpAnyU_take (i := 1) (oi := { dst := some 176, op := _, type := _, pos := _, after := _, guard := none }) (v := .slice (some ⟨bY, oY, none⟩) 3 c1y) rfl (by kernel_rfl) (by kernel_rfl) (by kernel_rfl) (by kernel_rfl) (fun _ _ _ h => h) (yields_take rfl (fun w' hw => by obtain ⟨h1, h2, h3, h4⟩ := hw.const; go_simp)) hS0.out ?_
          simp only [Act.put, List.setIfInBounds_toArray, List.set_cons_zero, List.set_cons_succ]
          refine wpAnyU_take (i := 2) (oi := { dst := some 177, op := _, type := _, pos := _, after := _, guard := none }) (v := .pointer (some ⟨bY, oY + 1, none⟩)) rfl (by kernel_rfl) (by kernel_rfl) (by kernel_rfl) (by kernel_rfl) (fun _ _ _ h => h) (yields_take rfl (fun w' hw => by obtain ⟨h1, h2, h3, h4⟩ := hw.const; go_simp)) hS0.out ?_
          simp only [Act.put, List.setIfInBounds_toArray, List.set_cons_zero, List.set_cons_succ]
          refine wpAnyU_take (i := 3) (oi := { dst := some 178, op := _, type := _, pos := _, after := _, guard := none }) (v := .int .i64 (Y : Int)) rfl (by kernel_rfl) (by kernel_rfl) (by kernel_rfl) (by kernel_rfl) (fun _ _ _ h => h) (yields_take rfl (fun w' hw => by obtain ⟨h1, h2, h3, h4⟩ := hw.const; go_simp)) hS0.out ?_
          simp only [Act.put, List.setIfInBounds_toArray, List.set_cons_zero, List.set_cons_succ]
          refine wpAnyU_take (i := 4) (oi := { dst := some 179, op := _, type := _, pos := _, after := _, guard := none }) (v := .int .i64 (H : Int)) rfl (by kernel_rfl) (by kernel_rfl) (by kernel_rfl) (by kernel_rfl) (fun _ _ _ h => h) (yields_take rfl (fun w' hw => by obtain ⟨h1, h2, h3, h4⟩ := hw.const; go_simp)) hS0.out ?_
          simp only [Act.put, List.setIfInBounds_toArray, List.set_cons_zero, List.set_cons_succ]
          refine wpAnyU_take (i := 5) (oi := { dst := some 180, op := _, type := _, pos := _, after := _, guard := none }) (v := .int .i64 (P : Int)) rfl (by kernel_rfl) (by kernel_rfl) (by kernel_rfl) (by kernel_rfl) (fun _ _ _ h => h) (yields_take rfl (fun w' hw => by obtain ⟨h1, h2, h3, h4⟩ := hw.const; go_simp)) hS0.out ?_
          simp only [Act.put, List.setIfInBounds_toArray, List.set_cons_zero, List.set_cons_succ]
          refine wpAnyU_take (i := 6) (oi := { dst := some 181, op := _, type := _, pos := _, after := _, guard := none }) (v := .int .i64 (p2 : Int)) rfl (by kernel_rfl) (by kernel_rfl) (by kernel_rfl) (by kernel_rfl) (fun _ _ _ h => h) (yields_take rfl (fun w' hw => by obtain ⟨h1, h2, h3, h4⟩ := hw.const; go_simp)) hS0.out ?_
          simp only [Act.put, List.setIfInBounds_toArray, List.set_cons_zero, List.set_cons_succ]
          refine wpAnyU_take (i := 7) (oi := { dst := some 182, op := _, type := _, pos := _, after := _, guard := none }) (v := .int .i64 (hp : Int)) rfl (by kernel_rfl) (by kernel_rfl) (by kernel_rfl) (by kernel_rfl) (fun _ _ _ h => h) (yields_take rfl (fun w' hw => by obtain ⟨h1, h2, h3, h4⟩ := hw.const; go_simp)) hS0.out ?_
          simp only [Act.put, List.setIfInBounds_toArray, List.set_cons_zero, List.set_cons_succ]
          refine wpAnyU_take (i := 8) (oi := { dst := some 183, op := _, type := _, pos := _, after := _, guard := none }) (v := .int .i64 (h1 : Int)) rfl (by kernel_rfl) (by kernel_rfl) (by kernel_rfl) (by kernel_rfl) (fun _ _ _ h => h) (yields_take rfl (fun w' hw => by obtain ⟨h1, h2, h3, h4⟩ := hw.const; go_simp)) hS0.out ?_
          simp only [Act.put, List.setIfInBounds_toArray, List.set_cons_zero, List.set_cons_succ]
          refine wpAnyU_take (i := 9) (oi := { dst := some 184, op := _, type := _, pos := _, after := _, guard := none }) (v := .int .i64 (q : Int)) rfl (by kernel_rfl) (by kernel_rfl) (by kernel_rfl) (by kernel_rfl) (fun _ _ _ h => h) (yields_take rfl (fun w' hw => by obtain ⟨h1, h2, h3, h4⟩ := hw.const; go_simp)) hS0.out ?_
          simp only [Act.put, List.setIfInBounds_toArray, List.set_cons_zero, List.set_cons_succ]
          refine wpAnyU_take (i := 10) (oi := { dst := some 185, op := _, type := _, pos := _, after := _, guard := none }) (v := .int .i64 (hd : Int)) rfl (by kernel_rfl) (by kernel_rfl) (by kernel_rfl) (by kernel_rfl) (fun _ _ _ h => h) (yields_take rfl (fun w' hw => by obtain ⟨h1, h2, h3, h4⟩ := hw.const; go_simp)) hS0.out ?_
          simp only [Act.put, List.setIfInBounds_toArray, List.set_cons_zero, List.set_cons_succ]
          refine wpAnyU_take (i := 11) (oi := { dst := some 186, op := _, type := _, pos := _, after := _, guard := none }) (v := .int .i64 (Y : Int)) rfl (by kernel_rfl) (by kernel_rfl) (by kernel_rfl) (by kernel_rfl) (fun _ _ _ h => h) (yields_take rfl (fun w' hw => by obtain ⟨h1, h2, h3, h4⟩ := hw.const; go_simp)) hS0.out ?_
          simp only [Act.put, List.setIfInBounds_toArray, List.set_cons_zero, List.set_cons_succ]
          refine wpAnyU_take (i := 12) (oi := { dst := some 187, op := _, type := _, pos := _, after := _, guard := none }) (v := .bool true) rfl (by kernel_rfl) (by kernel_rfl) (by kernel_rfl) (by kernel_rfl) (fun _ _ _ h => h) (yields_take rfl (fun w' hw => by obtain ⟨h1, h2, h3, h4⟩ := hw.const; go_simp)) hS0.out ?_
          simp only [Act.put, List.setIfInBounds_toArray, List.set_cons_zero, List.set_cons_succ]
          refine wpAnyU_take (i := 13) (oi := { dst := some 188, op := _, type := _, pos := _, after := _, guard := none }) (v := .bool true) rfl (by kernel_rfl) (by kernel_rfl) (by kernel_rfl) (by kernel_rfl) (fun _ _ _ h => h) (yields_take rfl (fun w' hw => by obtain ⟨h1, h2, h3, h4⟩ := hw.const; go_simp)) hS0.out ?_
          simp only [Act.put, List.setIfInBounds_toArray, List.set_cons_zero, List.set_cons_succ]
          refine wpAnyU_take (i := 14) (oi := { dst := some 189, op := _, type := _, pos := _, after := _, guard := some (13, true) }) (v := .pointer (some ⟨ua18.heap.size, 0, none⟩)) rfl (by kernel_rfl) (by kernel_rfl) (by kernel_rfl) (by kernel_rfl) (fun _ _ _ h => h) (yields_take rfl (fun w' hw => by obtain ⟨h1, h2, h3, h4⟩ := hw.const; go_simp)) hS0.out ?_
          simp only [Act.put, List.setIfInBounds_toArray, List.set_cons_zero, List.set_cons_succ]
          refine wpAnyU_take (i := 15) (oi := { dst := some 190, op := _, type := _, pos := _, after := _, guard := some (13, true) }) (v := .slice (some ⟨bY, oY, none⟩) 3 c1y) rfl (by kernel_rfl) (by kernel_rfl) (by kernel_rfl) (by kernel_rfl) (fun _ _ _ h => h) (yields_take rfl (fun w' hw => by obtain ⟨h1, h2, h3, h4⟩ := hw.const; go_simp)) hS0.out ?_
          simp only [Act.put, List.setIfInBounds_toArray, List.set_cons_zero, List.set_cons_succ]
          refine wpAnyU_take (i := 16) (oi := { dst := some 191, op := _, type := _, pos := _, after := _, guard := some (13, true) }) (v := .pointer (some ⟨bY, oY + 2, none⟩)) rfl (by kernel_rfl) (by kernel_rfl) (by kernel_rfl) (by kernel_rfl) (fun _ _ _ h => h) (yields_take rfl (fun w' hw => by obtain ⟨h1, h2, h3, h4⟩ := hw.const; go_simp)) hS0.out ?_
          simp only [Act.put, List.setIfInBounds_toArray, List.set_cons_zero, List.set_cons_succ]
          refine wpAnyU_take (i := 17) (oi := { dst := some 192, op := _, type := _, pos := _, after := _, guard := some (13, true) }) (v := .int .i64 (X : Int)) rfl (by kernel_rfl) (by kernel_rfl) (by kernel_rfl) (by kernel_rfl) (fun _ _ _ h => h) (yields_take rfl (fun w' hw => by obtain ⟨h1, h2, h3, h4⟩ := hw.const; go_simp)) hS0.out ?_
          simp only [Act.put, List.setIfInBounds_toArray, List.set_cons_zero, List.set_cons_succ]
          refine wpAnyU_take (i := 18) (oi := { dst := some 193, op := _, type := _, pos := _, after := _, guard := some (13, true) }) (v := .int .i64 (V : Int)) rfl (by kernel_rfl) (by kernel_rfl) (by kernel_rfl) (by kernel_rfl) (fun _ _ _ h => h) (yields_take rfl (fun w' hw => by obtain ⟨h1, h2, h3, h4⟩ := hw.const; go_simp)) hS0.out ?_
          simp only [Act.put, List.setIfInBounds_toArray, List.set_cons_zero, List.set_cons_succ]
          refine wpAnyU_take (i := 19) (oi := { dst := some 194, op := _, type := _, pos := _, after := _, guard := some (13, true) }) (v := .int .i64 (P : Int)) rfl (by kernel_rfl) (by kernel_rfl) (by kernel_rfl) (by kernel_rfl) (fun _ _ _ h => h) (yields_take rfl (fun w' hw => by obtain ⟨h1, h2, h3, h4⟩ := hw.const; go_simp)) hS0.out ?_
          simp only [Act.put, List.setIfInBounds_toArray, List.set_cons_zero, List.set_cons_succ]
          refine wpAnyU_take (i := 20) (oi := { dst := some 195, op := _, type := _, pos := _, after := _, guard := some (13, true) }) (v := .int .i64 (p2 : Int)) rfl (by kernel_rfl) (by kernel_rfl) (by kernel_rfl) (by kernel_rfl) (fun _ _ _ h => h) (yields_take rfl (fun w' hw => by obtain ⟨h1, h2, h3, h4⟩ := hw.const; go_simp)) hS0.out ?_
          simp only [Act.put, List.setIfInBounds_toArray, List.set_cons_zero, List.set_cons_succ]
          refine wpAnyU_take (i := 21) (oi := { dst := some 196, op := _, type := _, pos := _, after := _, guard := some (13, true) }) (v := .int .i64 (vp : Int)) rfl (by kernel_rfl) (by kernel_rfl) (by kernel_rfl) (by kernel_rfl) (fun _ _ _ h => h) (yields_take rfl (fun w' hw => by obtain ⟨h1, h2, h3, h4⟩ := hw.const; go_simp)) hS0.out ?_
          simp only [Act.put, List.setIfInBounds_toArray, List.set_cons_zero, List.set_cons_succ]
          refine wpAnyU_take (i := 22) (oi := { dst := some 197, op := _, type := _, pos := _, after := _, guard := some (13, true) }) (v := .int .i64 (v1 : Int)) rfl (by kernel_rfl) (by kernel_rfl) (by kernel_rfl) (by kernel_rfl) (fun _ _ _ h => h) (yields_take rfl (fun w' hw => by obtain ⟨h1, h2, h3, h4⟩ := hw.const; go_simp)) hS0.out ?_
          simp only [Act.put, List.setIfInBounds_toArray, List.set_cons_zero, List.set_cons_succ]
          refine wpAnyU_take (i := 23) (oi := { dst := some 198, op := _, type := _, pos := _, after := _, guard := some (13, true) }) (v := .int .i64 (q : Int)) rfl (by kernel_rfl) (by kernel_rfl) (by kernel_rfl) (by kernel_rfl) (fun _ _ _ h => h) (yields_take rfl (fun w' hw => by obtain ⟨h1, h2, h3, h4⟩ := hw.const; go_simp)) hS0.out ?_
          simp only [Act.put, List.setIfInBounds_toArray, List.set_cons_zero, List.set_cons_succ]
          refine wpAnyU_take (i := 24) (oi := { dst := some 199, op := _, type := _, pos := _, after := _, guard := some (13, true) }) (v := .int .i64 (vd : Int)) rfl (by kernel_rfl) (by kernel_rfl) (by kernel_rfl) (by kernel_rfl) (fun _ _ _ h => h) (yields_take rfl (fun w' hw => by obtain ⟨h1, h2, h3, h4⟩ := hw.const; go_simp)) hS0.out ?_
          simp only [Act.put, List.setIfInBounds_toArray, List.set_cons_zero, List.set_cons_succ]
          refine wpAnyU_take (i := 25) (oi := { dst := some 200, op := _, type := _, pos := _, after := _, guard := some (13, true) }) (v := .int .i64 (X : Int)) rfl (by kernel_rfl) (by kernel_rfl) (by kernel_rfl) (by kernel_rfl) (fun _ _ _ h => h) (yields_take rfl (fun w' hw => by obtain ⟨h1, h2, h3, h4⟩ := hw.const; go_simp)) hS0.out ?_
          simp only [Act.put, List.setIfInBounds_toArray, List.set_cons_zero, List.set_cons_succ]
          refine wpAnyU_take (i := 26) (oi := { dst := some 201, op := _, type := _, pos := _, after := _, guard := some (13, true) }) (v := .bool true) rfl (by kernel_rfl) (by kernel_rfl) (by kernel_rfl) (by kernel_rfl) (fun _ _ _ h => h) (yields_take rfl (fun w' hw => by obtain ⟨h1, h2, h3, h4⟩ := hw.const; go_simp)) hS0.out ?_
          simp only [Act.put, List.setIfInBounds_toArray, List.set_cons_zero, List.set_cons_succ]
          refine wpAnyU_take (i := 27) (oi := { dst := some 202, op := _, type := _, pos := _, after := _, guard := none }) (v := .bool true) rfl (by kernel_rfl) (by kernel_rfl) (by kernel_rfl) (by kernel_rfl) (fun _ _ _ h => h) (yields_take rfl (fun w' hw => by obtain ⟨h1, h2, h3, h4⟩ := hw.const; go_simp)) hS0.out ?_
          simp only [Act.put, List.setIfInBounds_toArray, List.set_cons_zero, List.set_cons_succ]
          refine wpAnyU_take (i := 28) (oi := { dst := some 6, op := _, type := _, pos := _, after := _, guard := none }) (v := .bool true) rfl (by kernel_rfl) (by kernel_rfl) (by kernel_rfl) (by kernel_rfl) (fun _ _ _ h => h) (yields_take rfl (fun w' hw => by obtain ⟨h1, h2, h3, h4⟩ := hw.const; go_simp)) hS0.out ?_
          simp only [Act.put, List.setIfInBounds_toArray, List.set_cons_zero, List.set_cons_succ]
          refine wpAnyU_done (by kernel_rfl) ?_ _
          clear hS0
          have HBE := hide (HBW.out.trans (hd0.mono HBW.out.size))
          go_wp2
          go_ret
          exact ⟨rfl, HBE.out⟩

end Go.Proofs.Ytknlllpfjineaaa
