/- WindowsFull: for every slide the walk of its Go text ends in true. -/
import Derived.Test.YtgkilankaknfcaaAlive8M
import Derived.Test.YtgkilankaknfcaaFl8M
import Derived.Deep.Cut
namespace Go.Proofs.Ytgkilankaknfcaa
open Go.RowKit
set_option linter.unusedVariables false
set_option linter.unusedSimpArgs false
set_option maxRecDepth 100000

set_option maxHeartbeats 16000000 in
theorem full8_any (A B A' B' : Option Addr) (n c m d n' c' m' d' : Nat) (s l s' l' : List Int) (st pd wd : Int) (w : World)
    (hA : Lies w A n (s.map (Value.int .i64))) (hB : Lies w B m (l.map (Value.int .i32))) (hA' : Lies w A' n' (s'.map (Value.int .i64))) (hB' : Lies w B' m' (l'.map (Value.int .i32)))
    (hn : n ≤ 70368744177664) (hm : m ≤ 70368744177664) (hn' : n' ≤ 70368744177664) (hm' : m' ≤ 70368744177664) :
    Calls Try.prog 7 #[slideV A n c B m d A' n' c' B' m' d' st pd wd] w fun e w' => e = .returned (.bool true) ∧ Below w.heap.size w w' := by
  obtain ⟨W0, hW0⟩ : ∃ W0, W0 = w.alloc (.cells #[.slice A n c, .slice B m d, .slice A' n' c', .slice B' m' d', .int .i64 st, .int .i64 pd, .int .i64 wd] 27) := ⟨_, rfl⟩
  have HBW : Hid (Below w.heap.size w W0) := hide (by rw [hW0]; exact below_al6 (Below.refl _ _))
  have HT_z : Hid (SlideAt W0 w.heap.size A n c B m d A' n' c' B' m' d' st pd wd s l s' l') := hide (by rw [hW0]; exact SlideAt.new w c d c' d' st pd wd hA hB hA' hB')
  have hW0' := hW0.symm
  clear hW0 hA hB hA' hB' 
  go_enter Try.func7, Try.ntmps7
  go_wp2_with fail
  refine Calls.mono (alive8_any _) ?_
  rintro e u1 ⟨rfl, hb⟩
  replace HT_z := hide (HT_z.out.kept hb)
  replace HBW := hide (HBW.out.trans (hb.mono HBW.out.size))
  clear hb
  by_cases hf : far8 n m n' m' = true
  · have cxz0 := HT_z.out.c0
    have cxz1 := HT_z.out.c1
    have cxz2 := HT_z.out.c2
    have cxz3 := HT_z.out.c3
    have cxz4 := HT_z.out.c4
    have cxz5 := HT_z.out.c5
    have cxz6 := HT_z.out.c6
    go_wp2_with fail
    refine Calls.mono (great8_any A B A' B' n c m d n' c' m' d' st pd wd _ hn hm hn' hm') ?_
    rw [hf]
    rintro e u2 ⟨rfl, hb⟩
    replace HT_z := hide (HT_z.out.kept hb)
    replace HBW := hide (HBW.out.trans (hb.mono HBW.out.size))
    clear cxz0 cxz1 cxz2 cxz3 cxz4 cxz5 cxz6 hb
    go_wp2_with fail
    refine Calls.mono (alive8_any _) ?_
    rintro e u3 ⟨rfl, hb⟩
    replace HT_z := hide (HT_z.out.kept hb)
    replace HBW := hide (HBW.out.trans (hb.mono HBW.out.size))
    clear hb
    go_wp2
    go_ret
    exact ⟨rfl, HBW.out⟩
  obtain ⟨hf0, b1, b2, b3, b4⟩ := far8_no hf
  have cxz0 := HT_z.out.c0
  have cxz1 := HT_z.out.c1
  have cxz2 := HT_z.out.c2
  have cxz3 := HT_z.out.c3
  have cxz4 := HT_z.out.c4
  have cxz5 := HT_z.out.c5
  have cxz6 := HT_z.out.c6
  go_wp2_with fail
  refine Calls.mono (great8_any A B A' B' n c m d n' c' m' d' st pd wd _ hn hm hn' hm') ?_
  rw [hf0]
  rintro e u4 ⟨rfl, hb⟩
  replace HT_z := hide (HT_z.out.kept hb)
  replace HBW := hide (HBW.out.trans (hb.mono HBW.out.size))
  clear cxz0 cxz1 cxz2 cxz3 cxz4 cxz5 cxz6 hb hf hf0
  by_cases ht : tenOk s m = true
  rotate_left
  · have hno : tenOk s m = false := by simpa using ht
    have cxz0 := HT_z.out.c0
    have cxz1 := HT_z.out.c1
    have cxz2 := HT_z.out.c2
    have cxz3 := HT_z.out.c3
    have cxz4 := HT_z.out.c4
    have cxz5 := HT_z.out.c5
    have cxz6 := HT_z.out.c6
    go_wp2_with fail
    refine Calls.mono (tcheck_any A B n c m d s _ HT_z.out.S (by omega)) ?_
    rw [hno]
    rintro e u5 ⟨rfl, hb⟩
    replace HT_z := hide (HT_z.out.kept hb)
    replace HBW := hide (HBW.out.trans (hb.mono HBW.out.size))
    clear cxz0 cxz1 cxz2 cxz3 cxz4 cxz5 cxz6 hb
    go_wp2_with fail
    refine Calls.mono (alive8_any _) ?_
    rintro e u6 ⟨rfl, hb⟩
    replace HT_z := hide (HT_z.out.kept hb)
    replace HBW := hide (HBW.out.trans (hb.mono HBW.out.size))
    clear hb
    go_wp2
    go_ret
    exact ⟨rfl, HBW.out⟩
  have cxz0 := HT_z.out.c0
  have cxz1 := HT_z.out.c1
  have cxz2 := HT_z.out.c2
  have cxz3 := HT_z.out.c3
  have cxz4 := HT_z.out.c4
  have cxz5 := HT_z.out.c5
  have cxz6 := HT_z.out.c6
  go_wp2_with fail
  refine Calls.mono (tcheck_any A B n c m d s _ HT_z.out.S (by omega)) ?_
  rw [ht]
  rintro e u7 ⟨rfl, hb⟩
  replace HT_z := hide (HT_z.out.kept hb)
  replace HBW := hide (HBW.out.trans (hb.mono HBW.out.size))
  clear cxz0 cxz1 cxz2 cxz3 cxz4 cxz5 cxz6 hb
  by_cases ht' : tenOk s' m' = true
  rotate_left
  · have hno : tenOk s' m' = false := by simpa using ht'
    have cxz0 := HT_z.out.c0
    have cxz1 := HT_z.out.c1
    have cxz2 := HT_z.out.c2
    have cxz3 := HT_z.out.c3
    have cxz4 := HT_z.out.c4
    have cxz5 := HT_z.out.c5
    have cxz6 := HT_z.out.c6
    go_wp2_with fail
    refine Calls.mono (tcheck_any A' B' n' c' m' d' s' _ HT_z.out.S' (by omega)) ?_
    rw [hno]
    rintro e u8 ⟨rfl, hb⟩
    replace HT_z := hide (HT_z.out.kept hb)
    replace HBW := hide (HBW.out.trans (hb.mono HBW.out.size))
    clear cxz0 cxz1 cxz2 cxz3 cxz4 cxz5 cxz6 hb
    go_wp2_with fail
    refine Calls.mono (alive8_any _) ?_
    rintro e u9 ⟨rfl, hb⟩
    replace HT_z := hide (HT_z.out.kept hb)
    replace HBW := hide (HBW.out.trans (hb.mono HBW.out.size))
    clear hb
    go_wp2
    go_ret
    exact ⟨rfl, HBW.out⟩
  have cxz0 := HT_z.out.c0
  have cxz1 := HT_z.out.c1
  have cxz2 := HT_z.out.c2
  have cxz3 := HT_z.out.c3
  have cxz4 := HT_z.out.c4
  have cxz5 := HT_z.out.c5
  have cxz6 := HT_z.out.c6
  go_wp2_with fail
  refine Calls.mono (tcheck_any A' B' n' c' m' d' s' _ HT_z.out.S' (by omega)) ?_
  rw [ht']
  rintro e u10 ⟨rfl, hb⟩
  replace HT_z := hide (HT_z.out.kept hb)
  replace HBW := hide (HBW.out.trans (hb.mono HBW.out.size))
  clear cxz0 cxz1 cxz2 cxz3 cxz4 cxz5 cxz6 hb
  by_cases hn3 : n = 3
  rotate_left
  · have e1 : ((n : Int) == 3) = false := by simpa using (by omega : ¬ (n : Int) = 3)
    have e2 : ((n : Int) != 3) = true := by simpa using (by omega : ¬ (n : Int) = 3)
    have cxz0 := HT_z.out.c0
    have cxz1 := HT_z.out.c1
    have cxz2 := HT_z.out.c2
    have cxz3 := HT_z.out.c3
    have cxz4 := HT_z.out.c4
    have cxz5 := HT_z.out.c5
    have cxz6 := HT_z.out.c6
    go_wp2_with fail
    refine Calls.mono (alive8_any _) ?_
    rintro e u11 ⟨rfl, hb⟩
    clear cxz0 cxz1 cxz2 cxz3 cxz4 cxz5 cxz6
    replace HT_z := hide (HT_z.out.kept hb)
    replace HBW := hide (HBW.out.trans (hb.mono HBW.out.size))
    clear hb
    go_wp2
    go_ret
    exact ⟨rfl, HBW.out⟩
  by_cases hn4 : n' = 4
  rotate_left
  · have e1 : ((n' : Int) == 4) = false := by simpa using (by omega : ¬ (n' : Int) = 4)
    have e2 : ((n' : Int) != 4) = true := by simpa using (by omega : ¬ (n' : Int) = 4)
    have cxz0 := HT_z.out.c0
    have cxz1 := HT_z.out.c1
    have cxz2 := HT_z.out.c2
    have cxz3 := HT_z.out.c3
    have cxz4 := HT_z.out.c4
    have cxz5 := HT_z.out.c5
    have cxz6 := HT_z.out.c6
    go_wp2_with fail
    refine Calls.mono (alive8_any _) ?_
    rintro e u12 ⟨rfl, hb⟩
    clear cxz0 cxz1 cxz2 cxz3 cxz4 cxz5 cxz6
    replace HT_z := hide (HT_z.out.kept hb)
    replace HBW := hide (HBW.out.trans (hb.mono HBW.out.size))
    clear hb
    go_wp2
    go_ret
    exact ⟨rfl, HBW.out⟩
  subst hn3 hn4
  obtain ⟨C, H, V, rfl⟩ := three_of (tenOk_iff.1 ht).1 (lies_len HT_z.out.S)
  obtain ⟨O, K0, a, b, rfl⟩ := four_of (tenOk_iff.1 ht').1 (lies_len HT_z.out.S')
  obtain ⟨hC, hH, hV, hm3, hm4⟩ := ten_three ht
  obtain ⟨hO, hK, ha, hb', hm5, hm6⟩ := ten_four ht'
  have HOK := hide ht
  have HLL : Hid (l.length = m) := hide (lies_len HT_z.out.L)
  have hmC : 1 ≤ C * H * V := Nat.mul_pos (Nat.mul_pos (by omega) (by omega)) (by omega)
  have hmW : 1 ≤ O * (K0 * (a * b)) := Nat.mul_pos (by omega) (Nat.mul_pos (by omega) (Nat.mul_pos (by omega) (by omega)))
  have hm1 : 1 ≤ m := by omega
  have hm1' : 1 ≤ m' := by omega
  have HM3 := hide hm3
  clear hmC hmW ht ht' hm3 hm5
  obtain ⟨E, hE⟩ : ∃ z : Int, z = shp8E [(C : Int), (H : Int), (V : Int)] [(O : Int), (K0 : Int), (a : Int), (b : Int)] 1 pd := ⟨_, rfl⟩
  have HR_E := hide hE
  clear hE
  obtain ⟨S, hS⟩ : ∃ z : List Int, z = shp8S [(C : Int), (H : Int), (V : Int)] [(O : Int), (K0 : Int), (a : Int), (b : Int)] 1 pd := ⟨_, rfl⟩
  have HR_S := hide hS
  clear hS
  have cxz0 := HT_z.out.c0
  have cxz1 := HT_z.out.c1
  have cxz2 := HT_z.out.c2
  have cxz3 := HT_z.out.c3
  have cxz4 := HT_z.out.c4
  have cxz5 := HT_z.out.c5
  have cxz6 := HT_z.out.c6
  go_wp2_with fail
  refine Calls.mono (wshape_any A A' 3 c 4 c' [(C : Int), (H : Int), (V : Int)] [(O : Int), (K0 : Int), (a : Int), (b : Int)] 1 pd _ HT_z.out.S HT_z.out.S' (by omega) (by omega)) ?_
  rw [← HR_E.out, ← HR_S.out]
  rintro e u13 ⟨R, kr, kc, rfl, hoR, hkr, hb⟩
  have HOR : Hid (Lies u13 R kr (S.map (Value.int .i64))) := hide (lies_of_own hoR)
  replace HT_z := hide (HT_z.out.kept hb)
  replace HBW := hide (HBW.out.trans (hb.mono HBW.out.size))
  clear cxz0 cxz1 cxz2 cxz3 cxz4 cxz5 cxz6 hb hoR
  go_wp2
  go_cut [113] from 57 (fun s1 wc => s1 = .bool false ∧ Hid (Below u13.heap.size u13 wc))
  case first =>
    have hd0 : Below u13.heap.size u13 u13.drew := below_drewN (Below.refl _ _) 1
    by_cases hE : E = 0
    rotate_left
    · have e1 : (E == 0) = false := by simpa using hE
      have hS0 : Hid (True) := hide (trivial)
      refine wp_region_U (fun _ v => True) 99 (by kernel_rfl) ?_
      refine wpAnyU_take (i := 0) (oi := { dst := some 57, op := _, type := _, pos := _, after := _, guard := none }) (v := .int .i64 E) rfl (by kernel_rfl) (by kernel_rfl) (by kernel_rfl) (by kernel_rfl) (fun _ _ _ h => h) (yields_take rfl (fun w' hw => by go_simp)) hS0.out ?_
      simp only [Act.put, List.setIfInBounds_toArray, List.set_cons_zero, List.set_cons_succ]
      refine wpAnyU_take (i := 1) (oi := { dst := some 58, op := _, type := _, pos := _, after := _, guard := none }) (v := .bool false) rfl (by kernel_rfl) (by kernel_rfl) (by kernel_rfl) (by kernel_rfl) (fun _ _ _ h => h) (yields_take rfl (fun w' hw => by go_simp)) hS0.out ?_
      simp only [Act.put, List.setIfInBounds_toArray, List.set_cons_zero, List.set_cons_succ]
      refine wpAnyU_take (i := 2) (oi := { dst := some 59, op := _, type := _, pos := _, after := _, guard := none }) (v := .bool false) rfl (by kernel_rfl) (by kernel_rfl) (by kernel_rfl) (by kernel_rfl) (fun _ _ _ h => h) (yields_take rfl (fun w' hw => by go_simp)) hS0.out ?_
      simp only [Act.put, List.setIfInBounds_toArray, List.set_cons_zero, List.set_cons_succ]
      refine wpAnyU_take (i := 3) (oi := { dst := some 60, op := _, type := _, pos := _, after := _, guard := some (2, true) }) (v := undef) rfl (by kernel_rfl) (by kernel_rfl) (by kernel_rfl) (by kernel_rfl) (fun _ _ _ h => h) (.inr ⟨rfl, rfl⟩) hS0.out ?_
      simp only [Act.put, List.setIfInBounds_toArray, List.set_cons_zero, List.set_cons_succ]
      refine wpAnyU_take (i := 4) (oi := { dst := some 61, op := _, type := _, pos := _, after := _, guard := some (2, true) }) (v := undef) rfl (by kernel_rfl) (by kernel_rfl) (by kernel_rfl) (by kernel_rfl) (fun _ _ _ h => h) (.inr ⟨rfl, rfl⟩) hS0.out ?_
      simp only [Act.put, List.setIfInBounds_toArray, List.set_cons_zero, List.set_cons_succ]
      refine wpAnyU_take (i := 5) (oi := { dst := some 62, op := _, type := _, pos := _, after := _, guard := some (2, true) }) (v := undef) rfl (by kernel_rfl) (by kernel_rfl) (by kernel_rfl) (by kernel_rfl) (fun _ _ _ h => h) (.inr ⟨rfl, rfl⟩) hS0.out ?_
      simp only [Act.put, List.setIfInBounds_toArray, List.set_cons_zero, List.set_cons_succ]
      refine wpAnyU_take (i := 6) (oi := { dst := some 63, op := _, type := _, pos := _, after := _, guard := some (2, true) }) (v := undef) rfl (by kernel_rfl) (by kernel_rfl) (by kernel_rfl) (by kernel_rfl) (fun _ _ _ h => h) (.inr ⟨rfl, rfl⟩) hS0.out ?_
      simp only [Act.put, List.setIfInBounds_toArray, List.set_cons_zero, List.set_cons_succ]
      refine wpAnyU_take (i := 7) (oi := { dst := some 64, op := _, type := _, pos := _, after := _, guard := some (2, true) }) (v := undef) rfl (by kernel_rfl) (by kernel_rfl) (by kernel_rfl) (by kernel_rfl) (fun _ _ _ h => h) (.inr ⟨rfl, rfl⟩) hS0.out ?_
      simp only [Act.put, List.setIfInBounds_toArray, List.set_cons_zero, List.set_cons_succ]
      refine wpAnyU_take (i := 8) (oi := { dst := some 65, op := _, type := _, pos := _, after := _, guard := some (2, true) }) (v := undef) rfl (by kernel_rfl) (by kernel_rfl) (by kernel_rfl) (by kernel_rfl) (fun _ _ _ h => h) (.inr ⟨rfl, rfl⟩) hS0.out ?_
      simp only [Act.put, List.setIfInBounds_toArray, List.set_cons_zero, List.set_cons_succ]
      refine wpAnyU_take (i := 9) (oi := { dst := some 66, op := _, type := _, pos := _, after := _, guard := some (2, true) }) (v := undef) rfl (by kernel_rfl) (by kernel_rfl) (by kernel_rfl) (by kernel_rfl) (fun _ _ _ h => h) (.inr ⟨rfl, rfl⟩) hS0.out ?_
      simp only [Act.put, List.setIfInBounds_toArray, List.set_cons_zero, List.set_cons_succ]
      refine wpAnyU_take (i := 10) (oi := { dst := some 67, op := _, type := _, pos := _, after := _, guard := some (2, true) }) (v := undef) rfl (by kernel_rfl) (by kernel_rfl) (by kernel_rfl) (by kernel_rfl) (fun _ _ _ h => h) (.inr ⟨rfl, rfl⟩) hS0.out ?_
      simp only [Act.put, List.setIfInBounds_toArray, List.set_cons_zero, List.set_cons_succ]
      refine wpAnyU_take (i := 11) (oi := { dst := some 68, op := _, type := _, pos := _, after := _, guard := some (2, true) }) (v := undef) rfl (by kernel_rfl) (by kernel_rfl) (by kernel_rfl) (by kernel_rfl) (fun _ _ _ h => h) (.inr ⟨rfl, rfl⟩) hS0.out ?_
      simp only [Act.put, List.setIfInBounds_toArray, List.set_cons_zero, List.set_cons_succ]
      refine wpAnyU_take (i := 12) (oi := { dst := some 69, op := _, type := _, pos := _, after := _, guard := some (2, true) }) (v := undef) rfl (by kernel_rfl) (by kernel_rfl) (by kernel_rfl) (by kernel_rfl) (fun _ _ _ h => h) (.inr ⟨rfl, rfl⟩) hS0.out ?_
      simp only [Act.put, List.setIfInBounds_toArray, List.set_cons_zero, List.set_cons_succ]
      refine wpAnyU_take (i := 13) (oi := { dst := some 70, op := _, type := _, pos := _, after := _, guard := some (12, false) }) (v := undef) rfl (by kernel_rfl) (by kernel_rfl) (by kernel_rfl) (by kernel_rfl) (fun _ _ _ h => h) (.inr ⟨rfl, rfl⟩) hS0.out ?_
      simp only [Act.put, List.setIfInBounds_toArray, List.set_cons_zero, List.set_cons_succ]
      refine wpAnyU_take (i := 14) (oi := { dst := some 71, op := _, type := _, pos := _, after := _, guard := some (12, false) }) (v := undef) rfl (by kernel_rfl) (by kernel_rfl) (by kernel_rfl) (by kernel_rfl) (fun _ _ _ h => h) (.inr ⟨rfl, rfl⟩) hS0.out ?_
      simp only [Act.put, List.setIfInBounds_toArray, List.set_cons_zero, List.set_cons_succ]
      refine wpAnyU_take (i := 15) (oi := { dst := some 72, op := _, type := _, pos := _, after := _, guard := some (12, false) }) (v := undef) rfl (by kernel_rfl) (by kernel_rfl) (by kernel_rfl) (by kernel_rfl) (fun _ _ _ h => h) (.inr ⟨rfl, rfl⟩) hS0.out ?_
      simp only [Act.put, List.setIfInBounds_toArray, List.set_cons_zero, List.set_cons_succ]
      refine wpAnyU_take (i := 16) (oi := { dst := some 73, op := _, type := _, pos := _, after := _, guard := some (12, false) }) (v := undef) rfl (by kernel_rfl) (by kernel_rfl) (by kernel_rfl) (by kernel_rfl) (fun _ _ _ h => h) (.inr ⟨rfl, rfl⟩) hS0.out ?_
      simp only [Act.put, List.setIfInBounds_toArray, List.set_cons_zero, List.set_cons_succ]
      refine wpAnyU_take (i := 17) (oi := { dst := some 74, op := _, type := _, pos := _, after := _, guard := some (12, false) }) (v := undef) rfl (by kernel_rfl) (by kernel_rfl) (by kernel_rfl) (by kernel_rfl) (fun _ _ _ h => h) (.inr ⟨rfl, rfl⟩) hS0.out ?_
      simp only [Act.put, List.setIfInBounds_toArray, List.set_cons_zero, List.set_cons_succ]
      refine wpAnyU_take (i := 18) (oi := { dst := some 75, op := _, type := _, pos := _, after := _, guard := some (12, false) }) (v := undef) rfl (by kernel_rfl) (by kernel_rfl) (by kernel_rfl) (by kernel_rfl) (fun _ _ _ h => h) (.inr ⟨rfl, rfl⟩) hS0.out ?_
      simp only [Act.put, List.setIfInBounds_toArray, List.set_cons_zero, List.set_cons_succ]
      refine wpAnyU_take (i := 19) (oi := { dst := some 76, op := _, type := _, pos := _, after := _, guard := some (12, false) }) (v := undef) rfl (by kernel_rfl) (by kernel_rfl) (by kernel_rfl) (by kernel_rfl) (fun _ _ _ h => h) (.inr ⟨rfl, rfl⟩) hS0.out ?_
      simp only [Act.put, List.setIfInBounds_toArray, List.set_cons_zero, List.set_cons_succ]
      refine wpAnyU_take (i := 20) (oi := { dst := some 77, op := _, type := _, pos := _, after := _, guard := some (12, false) }) (v := undef) rfl (by kernel_rfl) (by kernel_rfl) (by kernel_rfl) (by kernel_rfl) (fun _ _ _ h => h) (.inr ⟨rfl, rfl⟩) hS0.out ?_
      simp only [Act.put, List.setIfInBounds_toArray, List.set_cons_zero, List.set_cons_succ]
      refine wpAnyU_take (i := 21) (oi := { dst := some 78, op := _, type := _, pos := _, after := _, guard := some (12, false) }) (v := undef) rfl (by kernel_rfl) (by kernel_rfl) (by kernel_rfl) (by kernel_rfl) (fun _ _ _ h => h) (.inr ⟨rfl, rfl⟩) hS0.out ?_
      simp only [Act.put, List.setIfInBounds_toArray, List.set_cons_zero, List.set_cons_succ]
      refine wpAnyU_take (i := 22) (oi := { dst := some 79, op := _, type := _, pos := _, after := _, guard := some (12, false) }) (v := undef) rfl (by kernel_rfl) (by kernel_rfl) (by kernel_rfl) (by kernel_rfl) (fun _ _ _ h => h) (.inr ⟨rfl, rfl⟩) hS0.out ?_
      simp only [Act.put, List.setIfInBounds_toArray, List.set_cons_zero, List.set_cons_succ]
      refine wpAnyU_take (i := 23) (oi := { dst := some 80, op := _, type := _, pos := _, after := _, guard := some (12, false) }) (v := undef) rfl (by kernel_rfl) (by kernel_rfl) (by kernel_rfl) (by kernel_rfl) (fun _ _ _ h => h) (.inr ⟨rfl, rfl⟩) hS0.out ?_
      simp only [Act.put, List.setIfInBounds_toArray, List.set_cons_zero, List.set_cons_succ]
      refine wpAnyU_take (i := 24) (oi := { dst := some 81, op := _, type := _, pos := _, after := _, guard := some (12, false) }) (v := undef) rfl (by kernel_rfl) (by kernel_rfl) (by kernel_rfl) (by kernel_rfl) (fun _ _ _ h => h) (.inr ⟨rfl, rfl⟩) hS0.out ?_
      simp only [Act.put, List.setIfInBounds_toArray, List.set_cons_zero, List.set_cons_succ]
      refine wpAnyU_take (i := 25) (oi := { dst := some 82, op := _, type := _, pos := _, after := _, guard := some (12, false) }) (v := undef) rfl (by kernel_rfl) (by kernel_rfl) (by kernel_rfl) (by kernel_rfl) (fun _ _ _ h => h) (.inr ⟨rfl, rfl⟩) hS0.out ?_
      simp only [Act.put, List.setIfInBounds_toArray, List.set_cons_zero, List.set_cons_succ]
      refine wpAnyU_take (i := 26) (oi := { dst := some 83, op := _, type := _, pos := _, after := _, guard := some (12, false) }) (v := undef) rfl (by kernel_rfl) (by kernel_rfl) (by kernel_rfl) (by kernel_rfl) (fun _ _ _ h => h) (.inr ⟨rfl, rfl⟩) hS0.out ?_
      simp only [Act.put, List.setIfInBounds_toArray, List.set_cons_zero, List.set_cons_succ]
      refine wpAnyU_take (i := 27) (oi := { dst := some 84, op := _, type := _, pos := _, after := _, guard := some (12, false) }) (v := undef) rfl (by kernel_rfl) (by kernel_rfl) (by kernel_rfl) (by kernel_rfl) (fun _ _ _ h => h) (.inr ⟨rfl, rfl⟩) hS0.out ?_
      simp only [Act.put, List.setIfInBounds_toArray, List.set_cons_zero, List.set_cons_succ]
      refine wpAnyU_take (i := 28) (oi := { dst := some 85, op := _, type := _, pos := _, after := _, guard := some (12, false) }) (v := undef) rfl (by kernel_rfl) (by kernel_rfl) (by kernel_rfl) (by kernel_rfl) (fun _ _ _ h => h) (.inr ⟨rfl, rfl⟩) hS0.out ?_
      simp only [Act.put, List.setIfInBounds_toArray, List.set_cons_zero, List.set_cons_succ]
      refine wpAnyU_take (i := 29) (oi := { dst := some 86, op := _, type := _, pos := _, after := _, guard := some (12, false) }) (v := undef) rfl (by kernel_rfl) (by kernel_rfl) (by kernel_rfl) (by kernel_rfl) (fun _ _ _ h => h) (.inr ⟨rfl, rfl⟩) hS0.out ?_
      simp only [Act.put, List.setIfInBounds_toArray, List.set_cons_zero, List.set_cons_succ]
      refine wpAnyU_take (i := 30) (oi := { dst := some 87, op := _, type := _, pos := _, after := _, guard := some (12, false) }) (v := undef) rfl (by kernel_rfl) (by kernel_rfl) (by kernel_rfl) (by kernel_rfl) (fun _ _ _ h => h) (.inr ⟨rfl, rfl⟩) hS0.out ?_
      simp only [Act.put, List.setIfInBounds_toArray, List.set_cons_zero, List.set_cons_succ]
      refine wpAnyU_take (i := 31) (oi := { dst := some 88, op := _, type := _, pos := _, after := _, guard := some (12, false) }) (v := undef) rfl (by kernel_rfl) (by kernel_rfl) (by kernel_rfl) (by kernel_rfl) (fun _ _ _ h => h) (.inr ⟨rfl, rfl⟩) hS0.out ?_
      simp only [Act.put, List.setIfInBounds_toArray, List.set_cons_zero, List.set_cons_succ]
      refine wpAnyU_take (i := 32) (oi := { dst := some 89, op := _, type := _, pos := _, after := _, guard := some (12, false) }) (v := undef) rfl (by kernel_rfl) (by kernel_rfl) (by kernel_rfl) (by kernel_rfl) (fun _ _ _ h => h) (.inr ⟨rfl, rfl⟩) hS0.out ?_
      simp only [Act.put, List.setIfInBounds_toArray, List.set_cons_zero, List.set_cons_succ]
      refine wpAnyU_take (i := 33) (oi := { dst := some 90, op := _, type := _, pos := _, after := _, guard := some (2, true) }) (v := undef) rfl (by kernel_rfl) (by kernel_rfl) (by kernel_rfl) (by kernel_rfl) (fun _ _ _ h => h) (.inr ⟨rfl, rfl⟩) hS0.out ?_
      simp only [Act.put, List.setIfInBounds_toArray, List.set_cons_zero, List.set_cons_succ]
      refine wpAnyU_take (i := 34) (oi := { dst := some 91, op := _, type := _, pos := _, after := _, guard := some (2, true) }) (v := undef) rfl (by kernel_rfl) (by kernel_rfl) (by kernel_rfl) (by kernel_rfl) (fun _ _ _ h => h) (.inr ⟨rfl, rfl⟩) hS0.out ?_
      simp only [Act.put, List.setIfInBounds_toArray, List.set_cons_zero, List.set_cons_succ]
      refine wpAnyU_take (i := 35) (oi := { dst := some 92, op := _, type := _, pos := _, after := _, guard := some (34, false) }) (v := undef) rfl (by kernel_rfl) (by kernel_rfl) (by kernel_rfl) (by kernel_rfl) (fun _ _ _ h => h) (.inr ⟨rfl, rfl⟩) hS0.out ?_
      simp only [Act.put, List.setIfInBounds_toArray, List.set_cons_zero, List.set_cons_succ]
      refine wpAnyU_take (i := 36) (oi := { dst := some 93, op := _, type := _, pos := _, after := _, guard := some (34, false) }) (v := undef) rfl (by kernel_rfl) (by kernel_rfl) (by kernel_rfl) (by kernel_rfl) (fun _ _ _ h => h) (.inr ⟨rfl, rfl⟩) hS0.out ?_
      simp only [Act.put, List.setIfInBounds_toArray, List.set_cons_zero, List.set_cons_succ]
      refine wpAnyU_take (i := 37) (oi := { dst := some 94, op := _, type := _, pos := _, after := _, guard := some (34, false) }) (v := undef) rfl (by kernel_rfl) (by kernel_rfl) (by kernel_rfl) (by kernel_rfl) (fun _ _ _ h => h) (.inr ⟨rfl, rfl⟩) hS0.out ?_
      simp only [Act.put, List.setIfInBounds_toArray, List.set_cons_zero, List.set_cons_succ]
      refine wpAnyU_take (i := 38) (oi := { dst := some 95, op := _, type := _, pos := _, after := _, guard := some (34, false) }) (v := undef) rfl (by kernel_rfl) (by kernel_rfl) (by kernel_rfl) (by kernel_rfl) (fun _ _ _ h => h) (.inr ⟨rfl, rfl⟩) hS0.out ?_
      simp only [Act.put, List.setIfInBounds_toArray, List.set_cons_zero, List.set_cons_succ]
      refine wpAnyU_take (i := 39) (oi := { dst := some 96, op := _, type := _, pos := _, after := _, guard := some (34, false) }) (v := undef) rfl (by kernel_rfl) (by kernel_rfl) (by kernel_rfl) (by kernel_rfl) (fun _ _ _ h => h) (.inr ⟨rfl, rfl⟩) hS0.out ?_
      simp only [Act.put, List.setIfInBounds_toArray, List.set_cons_zero, List.set_cons_succ]
      refine wpAnyU_take (i := 40) (oi := { dst := some 97, op := _, type := _, pos := _, after := _, guard := some (34, false) }) (v := undef) rfl (by kernel_rfl) (by kernel_rfl) (by kernel_rfl) (by kernel_rfl) (fun _ _ _ h => h) (.inr ⟨rfl, rfl⟩) hS0.out ?_
      simp only [Act.put, List.setIfInBounds_toArray, List.set_cons_zero, List.set_cons_succ]
      refine wpAnyU_take (i := 41) (oi := { dst := some 98, op := _, type := _, pos := _, after := _, guard := some (34, false) }) (v := undef) rfl (by kernel_rfl) (by kernel_rfl) (by kernel_rfl) (by kernel_rfl) (fun _ _ _ h => h) (.inr ⟨rfl, rfl⟩) hS0.out ?_
      simp only [Act.put, List.setIfInBounds_toArray, List.set_cons_zero, List.set_cons_succ]
      refine wpAnyU_take (i := 42) (oi := { dst := some 99, op := _, type := _, pos := _, after := _, guard := some (34, false) }) (v := undef) rfl (by kernel_rfl) (by kernel_rfl) (by kernel_rfl) (by kernel_rfl) (fun _ _ _ h => h) (.inr ⟨rfl, rfl⟩) hS0.out ?_
      simp only [Act.put, List.setIfInBounds_toArray, List.set_cons_zero, List.set_cons_succ]
      refine wpAnyU_take (i := 43) (oi := { dst := some 100, op := _, type := _, pos := _, after := _, guard := some (34, false) }) (v := undef) rfl (by kernel_rfl) (by kernel_rfl) (by kernel_rfl) (by kernel_rfl) (fun _ _ _ h => h) (.inr ⟨rfl, rfl⟩) hS0.out ?_
      simp only [Act.put, List.setIfInBounds_toArray, List.set_cons_zero, List.set_cons_succ]
      refine wpAnyU_take (i := 44) (oi := { dst := some 101, op := _, type := _, pos := _, after := _, guard := some (34, false) }) (v := undef) rfl (by kernel_rfl) (by kernel_rfl) (by kernel_rfl) (by kernel_rfl) (fun _ _ _ h => h) (.inr ⟨rfl, rfl⟩) hS0.out ?_
      simp only [Act.put, List.setIfInBounds_toArray, List.set_cons_zero, List.set_cons_succ]
      refine wpAnyU_take (i := 45) (oi := { dst := some 102, op := _, type := _, pos := _, after := _, guard := some (34, false) }) (v := undef) rfl (by kernel_rfl) (by kernel_rfl) (by kernel_rfl) (by kernel_rfl) (fun _ _ _ h => h) (.inr ⟨rfl, rfl⟩) hS0.out ?_
      simp only [Act.put, List.setIfInBounds_toArray, List.set_cons_zero, List.set_cons_succ]
      refine wpAnyU_take (i := 46) (oi := { dst := some 103, op := _, type := _, pos := _, after := _, guard := some (34, false) }) (v := undef) rfl (by kernel_rfl) (by kernel_rfl) (by kernel_rfl) (by kernel_rfl) (fun _ _ _ h => h) (.inr ⟨rfl, rfl⟩) hS0.out ?_
      simp only [Act.put, List.setIfInBounds_toArray, List.set_cons_zero, List.set_cons_succ]
      refine wpAnyU_take (i := 47) (oi := { dst := some 104, op := _, type := _, pos := _, after := _, guard := some (34, false) }) (v := undef) rfl (by kernel_rfl) (by kernel_rfl) (by kernel_rfl) (by kernel_rfl) (fun _ _ _ h => h) (.inr ⟨rfl, rfl⟩) hS0.out ?_
      simp only [Act.put, List.setIfInBounds_toArray, List.set_cons_zero, List.set_cons_succ]
      refine wpAnyU_take (i := 48) (oi := { dst := some 105, op := _, type := _, pos := _, after := _, guard := some (34, false) }) (v := undef) rfl (by kernel_rfl) (by kernel_rfl) (by kernel_rfl) (by kernel_rfl) (fun _ _ _ h => h) (.inr ⟨rfl, rfl⟩) hS0.out ?_
      simp only [Act.put, List.setIfInBounds_toArray, List.set_cons_zero, List.set_cons_succ]
      refine wpAnyU_take (i := 49) (oi := { dst := some 106, op := _, type := _, pos := _, after := _, guard := some (34, false) }) (v := undef) rfl (by kernel_rfl) (by kernel_rfl) (by kernel_rfl) (by kernel_rfl) (fun _ _ _ h => h) (.inr ⟨rfl, rfl⟩) hS0.out ?_
      simp only [Act.put, List.setIfInBounds_toArray, List.set_cons_zero, List.set_cons_succ]
      refine wpAnyU_take (i := 50) (oi := { dst := some 107, op := _, type := _, pos := _, after := _, guard := some (34, false) }) (v := undef) rfl (by kernel_rfl) (by kernel_rfl) (by kernel_rfl) (by kernel_rfl) (fun _ _ _ h => h) (.inr ⟨rfl, rfl⟩) hS0.out ?_
      simp only [Act.put, List.setIfInBounds_toArray, List.set_cons_zero, List.set_cons_succ]
      refine wpAnyU_take (i := 51) (oi := { dst := some 108, op := _, type := _, pos := _, after := _, guard := some (34, false) }) (v := undef) rfl (by kernel_rfl) (by kernel_rfl) (by kernel_rfl) (by kernel_rfl) (fun _ _ _ h => h) (.inr ⟨rfl, rfl⟩) hS0.out ?_
      simp only [Act.put, List.setIfInBounds_toArray, List.set_cons_zero, List.set_cons_succ]
      refine wpAnyU_take (i := 52) (oi := { dst := some 109, op := _, type := _, pos := _, after := _, guard := some (34, false) }) (v := undef) rfl (by kernel_rfl) (by kernel_rfl) (by kernel_rfl) (by kernel_rfl) (fun _ _ _ h => h) (.inr ⟨rfl, rfl⟩) hS0.out ?_
      simp only [Act.put, List.setIfInBounds_toArray, List.set_cons_zero, List.set_cons_succ]
      refine wpAnyU_take (i := 53) (oi := { dst := some 110, op := _, type := _, pos := _, after := _, guard := some (34, false) }) (v := undef) rfl (by kernel_rfl) (by kernel_rfl) (by kernel_rfl) (by kernel_rfl) (fun _ _ _ h => h) (.inr ⟨rfl, rfl⟩) hS0.out ?_
      simp only [Act.put, List.setIfInBounds_toArray, List.set_cons_zero, List.set_cons_succ]
      refine wpAnyU_take (i := 54) (oi := { dst := some 111, op := _, type := _, pos := _, after := _, guard := some (34, false) }) (v := undef) rfl (by kernel_rfl) (by kernel_rfl) (by kernel_rfl) (by kernel_rfl) (fun _ _ _ h => h) (.inr ⟨rfl, rfl⟩) hS0.out ?_
      simp only [Act.put, List.setIfInBounds_toArray, List.set_cons_zero, List.set_cons_succ]
      refine wpAnyU_take (i := 55) (oi := { dst := some 112, op := _, type := _, pos := _, after := _, guard := some (2, true) }) (v := undef) rfl (by kernel_rfl) (by kernel_rfl) (by kernel_rfl) (by kernel_rfl) (fun _ _ _ h => h) (.inr ⟨rfl, rfl⟩) hS0.out ?_
      simp only [Act.put, List.setIfInBounds_toArray, List.set_cons_zero, List.set_cons_succ]
      refine wpAnyU_take (i := 56) (oi := { dst := some 113, op := _, type := _, pos := _, after := _, guard := none }) (v := .bool false) rfl (by kernel_rfl) (by kernel_rfl) (by kernel_rfl) (by kernel_rfl) (fun _ _ _ h => h) (yields_take rfl (fun w' hw => by go_simp)) hS0.out ?_
      simp only [Act.put, List.setIfInBounds_toArray, List.set_cons_zero, List.set_cons_succ]
      refine wpAnyU_done (by kernel_rfl) ?_ _
      clear hS0
      have HEND := hide hd0
      clear hd0
      go_wp2
      go_meet
      exact ⟨rfl, HEND⟩
    have hE0 := HR_E.out
    rw [hE] at hE0
    obtain ⟨⟨_, _, _, _, hp0, hp8⟩, _, hz0⟩ := shp8E_iff.1 hE0.symm
    obtain ⟨O', Y, X, hsl⟩ := three_of hz0 rfl
    have hS : S = [(O' : Int), (Y : Int), (X : Int)] := by rw [HR_S.out, shp8S, if_pos hE0.symm, hsl]
    rw [hsl] at hz0
    have hz2 := size_dims hz0
    have hzY := hz2 (Y : Int) (by simp)
    have hzX := hz2 (X : Int) (by simp)
    simp only [shp8L, List.getD_cons_zero, List.getD_cons_succ, List.cons.injEq, and_true] at hsl
    obtain ⟨hO', hYv, hXv⟩ := hsl
    obtain rfl : O = O' := by omega
    obtain ⟨pp, hpp⟩ : ∃ z, z = 2 * pd := ⟨_, rfl⟩
    rw [← hpp] at hYv hXv
    obtain ⟨hp, hhp⟩ : ∃ z, z = (H : Int) + pp := ⟨_, rfl⟩
    obtain ⟨vp, hvp⟩ : ∃ z, z = (V : Int) + pp := ⟨_, rfl⟩
    rw [← hhp] at hYv
    rw [← hvp] at hXv
    have hYe : (Y : Int) = hp - (a : Int) + 1 := by
      unfold hm8 at hYv
      split at hYv
      · omega
      · rw [Int.ediv_one] at hYv; omega
    have hXe : (X : Int) = vp - (b : Int) + 1 := by
      unfold hm8 at hXv
      split at hXv
      · omega
      · rw [Int.ediv_one] at hXv; omega
    obtain ⟨d1, hd1⟩ : ∃ z, z = hp - (a : Int) := ⟨_, rfl⟩
    obtain ⟨d2, hd2⟩ : ∃ z, z = vp - (b : Int) := ⟨_, rfl⟩
    have q1 : IntKind.i64.wrap (2 * pd) = pp := by rw [hpp, IntKind.wrap_i64]; omega
    have q2 : IntKind.i64.wrap ((H : Int) + pp) = hp := by rw [hhp, IntKind.wrap_i64]; omega
    have q3 : IntKind.i64.wrap ((V : Int) + pp) = vp := by rw [hvp, IntKind.wrap_i64]; omega
    have q4 : IntKind.i64.wrap (hp - (a : Int)) = d1 := by rw [hd1, IntKind.wrap_i64]; omega
    have q5 : IntKind.i64.wrap (vp - (b : Int)) = d2 := by rw [hd2, IntKind.wrap_i64]; omega
    have q6 : IntKind.i64.wrap (d1 + 1) = (Y : Int) := by rw [hYe, hd1, IntKind.wrap_i64]; omega
    have q7 : IntKind.i64.wrap (d2 + 1) = (X : Int) := by rw [hXe, hd2, IntKind.wrap_i64]; omega
    have HOR2 := HOR
    rw [hS] at HOR2
    obtain rfl : kr = 3 := (lies_len HOR2.out).symm
    have HSS := HT_z.out.S
    have HSW := HT_z.out.S'
    obtain ⟨bA, oA, rfl, _, _⟩ := byte_at HSS (by omega)
    obtain ⟨bB, oB, rfl, _, _⟩ := byte_at HSW (by omega)
    obtain ⟨bR, oR, rfl, _, _⟩ := byte_at HOR2.out (by omega)
    have HG : Hid (∀ v, Below u13.heap.size u13 v → v.cell? ⟨w.heap.size, 0, none⟩ = some (.slice (some ⟨bA, oA, none⟩) 3 c) ∧ v.cell? ⟨w.heap.size, 2, none⟩ = some (.slice (some ⟨bB, oB, none⟩) 4 c') ∧ v.cell? ⟨w.heap.size, 5, none⟩ = some (.int .i64 pd) ∧ v.cell? ⟨bA, oA + 1, none⟩ = some (.int .i64 (H : Int)) ∧ v.cell? ⟨bA, oA + 2, none⟩ = some (.int .i64 (V : Int)) ∧ v.cell? ⟨bB, oB, none⟩ = some (.int .i64 (O : Int)) ∧ v.cell? ⟨bB, oB + 2, none⟩ = some (.int .i64 (a : Int)) ∧ v.cell? ⟨bB, oB + 3, none⟩ = some (.int .i64 (b : Int)) ∧ v.cell? ⟨bR, oR, none⟩ = some (.int .i64 (O : Int)) ∧ v.cell? ⟨bR, oR + 1, none⟩ = some (.int .i64 (Y : Int)) ∧ v.cell? ⟨bR, oR + 2, none⟩ = some (.int .i64 (X : Int))) := hide (fun v hv => by
      have hz := HT_z.out.kept hv
      obtain ⟨_, _, e1, _, x1⟩ := byte_at hz.S (by omega)
      cases e1
      obtain ⟨_, _, e2, _, x2⟩ := byte_at hz.S' (by omega)
      cases e2
      obtain ⟨_, _, e3, _, x3⟩ := byte_at (HOR2.out.below hv) (by omega)
      cases e3
      exact ⟨hz.c0, hz.c2, hz.c5, x1 1 (by omega), x1 2 (by omega), x2 0 (by omega), x2 2 (by omega), x2 3 (by omega), x3 0 (by omega), x3 1 (by omega), x3 2 (by omega)⟩)
    clear hz0 hz2 hYv hXv hYe hXe hpp hhp hvp hd1 hd2 hE0 hO' HSS HSW hS
    subst hE
    have hS0 : Hid (u13.drew.cell? ⟨w.heap.size, 0, none⟩ = some (.slice (some ⟨bA, oA, none⟩) 3 c) ∧ u13.drew.cell? ⟨w.heap.size, 2, none⟩ = some (.slice (some ⟨bB, oB, none⟩) 4 c') ∧ u13.drew.cell? ⟨w.heap.size, 5, none⟩ = some (.int .i64 pd) ∧ u13.drew.cell? ⟨bA, oA + 1, none⟩ = some (.int .i64 (H : Int)) ∧ u13.drew.cell? ⟨bA, oA + 2, none⟩ = some (.int .i64 (V : Int)) ∧ u13.drew.cell? ⟨bB, oB, none⟩ = some (.int .i64 (O : Int)) ∧ u13.drew.cell? ⟨bB, oB + 2, none⟩ = some (.int .i64 (a : Int)) ∧ u13.drew.cell? ⟨bB, oB + 3, none⟩ = some (.int .i64 (b : Int)) ∧ u13.drew.cell? ⟨bR, oR, none⟩ = some (.int .i64 (O : Int)) ∧ u13.drew.cell? ⟨bR, oR + 1, none⟩ = some (.int .i64 (Y : Int)) ∧ u13.drew.cell? ⟨bR, oR + 2, none⟩ = some (.int .i64 (X : Int))) := hide (HG.out _ hd0)
    refine wp_region_U (fun _ v => v.cell? ⟨w.heap.size, 0, none⟩ = some (.slice (some ⟨bA, oA, none⟩) 3 c) ∧ v.cell? ⟨w.heap.size, 2, none⟩ = some (.slice (some ⟨bB, oB, none⟩) 4 c') ∧ v.cell? ⟨w.heap.size, 5, none⟩ = some (.int .i64 pd) ∧ v.cell? ⟨bA, oA + 1, none⟩ = some (.int .i64 (H : Int)) ∧ v.cell? ⟨bA, oA + 2, none⟩ = some (.int .i64 (V : Int)) ∧ v.cell? ⟨bB, oB, none⟩ = some (.int .i64 (O : Int)) ∧ v.cell? ⟨bB, oB + 2, none⟩ = some (.int .i64 (a : Int)) ∧ v.cell? ⟨bB, oB + 3, none⟩ = some (.int .i64 (b : Int)) ∧ v.cell? ⟨bR, oR, none⟩ = some (.int .i64 (O : Int)) ∧ v.cell? ⟨bR, oR + 1, none⟩ = some (.int .i64 (Y : Int)) ∧ v.cell? ⟨bR, oR + 2, none⟩ = some (.int .i64 (X : Int))) 99 (by kernel_rfl) ?_
    refine wpAnyU_take (i := 0) (oi := { dst := some 57, op := _, type := _, pos := _, after := _, guard := none }) (v := .int .i64 0) rfl (by kernel_rfl) (by kernel_rfl) (by kernel_rfl) (by kernel_rfl) (fun _ _ _ h => h) (yields_take rfl (fun w' hw => by obtain ⟨h1, h2, h3, h4, h5, h6, h7, h8, h9, h10, h11⟩ := hw.const; go_simp)) hS0.out ?_
    simp only [Act.put, List.setIfInBounds_toArray, List.set_cons_zero, List.set_cons_succ]
    refine wpAnyU_take (i := 1) (oi := { dst := some 58, op := _, type := _, pos := _, after := _, guard := none }) (v := .bool true) rfl (by kernel_rfl) (by kernel_rfl) (by kernel_rfl) (by kernel_rfl) (fun _ _ _ h => h) (yields_take rfl (fun w' hw => by obtain ⟨h1, h2, h3, h4, h5, h6, h7, h8, h9, h10, h11⟩ := hw.const; go_simp)) hS0.out ?_
    simp only [Act.put, List.setIfInBounds_toArray, List.set_cons_zero, List.set_cons_succ]
    refine wpAnyU_take (i := 2) (oi := { dst := some 59, op := _, type := _, pos := _, after := _, guard := none }) (v := .bool true) rfl (by kernel_rfl) (by kernel_rfl) (by kernel_rfl) (by kernel_rfl) (fun _ _ _ h => h) (yields_take rfl (fun w' hw => by obtain ⟨h1, h2, h3, h4, h5, h6, h7, h8, h9, h10, h11⟩ := hw.const; go_simp)) hS0.out ?_
    simp only [Act.put, List.setIfInBounds_toArray, List.set_cons_zero, List.set_cons_succ]
    refine wpAnyU_take (i := 3) (oi := { dst := some 60, op := _, type := _, pos := _, after := _, guard := some (2, true) }) (v := .slice (some ⟨bR, oR, none⟩) 3 kc) rfl (by kernel_rfl) (by kernel_rfl) (by kernel_rfl) (by kernel_rfl) (fun _ _ _ h => h) (yields_take rfl (fun w' hw => by obtain ⟨h1, h2, h3, h4, h5, h6, h7, h8, h9, h10, h11⟩ := hw.const; go_simp)) hS0.out ?_
    simp only [Act.put, List.setIfInBounds_toArray, List.set_cons_zero, List.set_cons_succ]
    refine wpAnyU_take (i := 4) (oi := { dst := some 61, op := _, type := _, pos := _, after := _, guard := some (2, true) }) (v := .pointer (some ⟨bR, oR, none⟩)) rfl (by kernel_rfl) (by kernel_rfl) (by kernel_rfl) (by kernel_rfl) (fun _ _ _ h => h) (yields_take rfl (fun w' hw => by obtain ⟨h1, h2, h3, h4, h5, h6, h7, h8, h9, h10, h11⟩ := hw.const; go_simp)) hS0.out ?_
    simp only [Act.put, List.setIfInBounds_toArray, List.set_cons_zero, List.set_cons_succ]
    refine wpAnyU_take (i := 5) (oi := { dst := some 62, op := _, type := _, pos := _, after := _, guard := some (2, true) }) (v := .int .i64 (O : Int)) rfl (by kernel_rfl) (by kernel_rfl) (by kernel_rfl) (by kernel_rfl) (fun _ _ _ h => h) (yields_take rfl (fun w' hw => by obtain ⟨h1, h2, h3, h4, h5, h6, h7, h8, h9, h10, h11⟩ := hw.const; go_simp)) hS0.out ?_
    simp only [Act.put, List.setIfInBounds_toArray, List.set_cons_zero, List.set_cons_succ]
    refine wpAnyU_take (i := 6) (oi := { dst := some 63, op := _, type := _, pos := _, after := _, guard := some (2, true) }) (v := .pointer (some ⟨w.heap.size, 2, none⟩)) rfl (by kernel_rfl) (by kernel_rfl) (by kernel_rfl) (by kernel_rfl) (fun _ _ _ h => h) (yields_take rfl (fun w' hw => by obtain ⟨h1, h2, h3, h4, h5, h6, h7, h8, h9, h10, h11⟩ := hw.const; go_simp)) hS0.out ?_
    simp only [Act.put, List.setIfInBounds_toArray, List.set_cons_zero, List.set_cons_succ]
    refine wpAnyU_take (i := 7) (oi := { dst := some 64, op := _, type := _, pos := _, after := _, guard := some (2, true) }) (v := .pointer (some ⟨w.heap.size, 2, none⟩)) rfl (by kernel_rfl) (by kernel_rfl) (by kernel_rfl) (by kernel_rfl) (fun _ _ _ h => h) (yields_take rfl (fun w' hw => by obtain ⟨h1, h2, h3, h4, h5, h6, h7, h8, h9, h10, h11⟩ := hw.const; go_simp)) hS0.out ?_
    simp only [Act.put, List.setIfInBounds_toArray, List.set_cons_zero, List.set_cons_succ]
    refine wpAnyU_take (i := 8) (oi := { dst := some 65, op := _, type := _, pos := _, after := _, guard := some (2, true) }) (v := .slice (some ⟨bB, oB, none⟩) 4 c') rfl (by kernel_rfl) (by kernel_rfl) (by kernel_rfl) (by kernel_rfl) (fun _ _ _ h => h) (yields_take rfl (fun w' hw => by obtain ⟨h1, h2, h3, h4, h5, h6, h7, h8, h9, h10, h11⟩ := hw.const; go_simp)) hS0.out ?_
    simp only [Act.put, List.setIfInBounds_toArray, List.set_cons_zero, List.set_cons_succ]
    refine wpAnyU_take (i := 9) (oi := { dst := some 66, op := _, type := _, pos := _, after := _, guard := some (2, true) }) (v := .pointer (some ⟨bB, oB, none⟩)) rfl (by kernel_rfl) (by kernel_rfl) (by kernel_rfl) (by kernel_rfl) (fun _ _ _ h => h) (yields_take rfl (fun w' hw => by obtain ⟨h1, h2, h3, h4, h5, h6, h7, h8, h9, h10, h11⟩ := hw.const; go_simp)) hS0.out ?_
    simp only [Act.put, List.setIfInBounds_toArray, List.set_cons_zero, List.set_cons_succ]
    refine wpAnyU_take (i := 10) (oi := { dst := some 67, op := _, type := _, pos := _, after := _, guard := some (2, true) }) (v := .int .i64 (O : Int)) rfl (by kernel_rfl) (by kernel_rfl) (by kernel_rfl) (by kernel_rfl) (fun _ _ _ h => h) (yields_take rfl (fun w' hw => by obtain ⟨h1, h2, h3, h4, h5, h6, h7, h8, h9, h10, h11⟩ := hw.const; go_simp)) hS0.out ?_
    simp only [Act.put, List.setIfInBounds_toArray, List.set_cons_zero, List.set_cons_succ]
    refine wpAnyU_take (i := 11) (oi := { dst := some 68, op := _, type := _, pos := _, after := _, guard := some (2, true) }) (v := .bool false) rfl (by kernel_rfl) (by kernel_rfl) (by kernel_rfl) (by kernel_rfl) (fun _ _ _ h => h) (yields_take rfl (fun w' hw => by obtain ⟨h1, h2, h3, h4, h5, h6, h7, h8, h9, h10, h11⟩ := hw.const; go_simp)) hS0.out ?_
    simp only [Act.put, List.setIfInBounds_toArray, List.set_cons_zero, List.set_cons_succ]
    refine wpAnyU_take (i := 12) (oi := { dst := some 69, op := _, type := _, pos := _, after := _, guard := some (2, true) }) (v := .bool false) rfl (by kernel_rfl) (by kernel_rfl) (by kernel_rfl) (by kernel_rfl) (fun _ _ _ h => h) (yields_take rfl (fun w' hw => by obtain ⟨h1, h2, h3, h4, h5, h6, h7, h8, h9, h10, h11⟩ := hw.const; go_simp)) hS0.out ?_
    simp only [Act.put, List.setIfInBounds_toArray, List.set_cons_zero, List.set_cons_succ]
    refine wpAnyU_take (i := 13) (oi := { dst := some 70, op := _, type := _, pos := _, after := _, guard := some (12, false) }) (v := .slice (some ⟨bR, oR, none⟩) 3 kc) rfl (by kernel_rfl) (by kernel_rfl) (by kernel_rfl) (by kernel_rfl) (fun _ _ _ h => h) (yields_take rfl (fun w' hw => by obtain ⟨h1, h2, h3, h4, h5, h6, h7, h8, h9, h10, h11⟩ := hw.const; go_simp)) hS0.out ?_
    simp only [Act.put, List.setIfInBounds_toArray, List.set_cons_zero, List.set_cons_succ]
    refine wpAnyU_take (i := 14) (oi := { dst := some 71, op := _, type := _, pos := _, after := _, guard := some (12, false) }) (v := .pointer (some ⟨bR, oR + 1, none⟩)) rfl (by kernel_rfl) (by kernel_rfl) (by kernel_rfl) (by kernel_rfl) (fun _ _ _ h => h) (yields_take rfl (fun w' hw => by obtain ⟨h1, h2, h3, h4, h5, h6, h7, h8, h9, h10, h11⟩ := hw.const; go_simp)) hS0.out ?_
    simp only [Act.put, List.setIfInBounds_toArray, List.set_cons_zero, List.set_cons_succ]
    refine wpAnyU_take (i := 15) (oi := { dst := some 72, op := _, type := _, pos := _, after := _, guard := some (12, false) }) (v := .int .i64 (Y : Int)) rfl (by kernel_rfl) (by kernel_rfl) (by kernel_rfl) (by kernel_rfl) (fun _ _ _ h => h) (yields_take rfl (fun w' hw => by obtain ⟨h1, h2, h3, h4, h5, h6, h7, h8, h9, h10, h11⟩ := hw.const; go_simp)) hS0.out ?_
    simp only [Act.put, List.setIfInBounds_toArray, List.set_cons_zero, List.set_cons_succ]
    refine wpAnyU_take (i := 16) (oi := { dst := some 73, op := _, type := _, pos := _, after := _, guard := some (12, false) }) (v := .pointer (some ⟨w.heap.size, 0, none⟩)) rfl (by kernel_rfl) (by kernel_rfl) (by kernel_rfl) (by kernel_rfl) (fun _ _ _ h => h) (yields_take rfl (fun w' hw => by obtain ⟨h1, h2, h3, h4, h5, h6, h7, h8, h9, h10, h11⟩ := hw.const; go_simp)) hS0.out ?_
    simp only [Act.put, List.setIfInBounds_toArray, List.set_cons_zero, List.set_cons_succ]
    refine wpAnyU_take (i := 17) (oi := { dst := some 74, op := _, type := _, pos := _, after := _, guard := some (12, false) }) (v := .pointer (some ⟨w.heap.size, 0, none⟩)) rfl (by kernel_rfl) (by kernel_rfl) (by kernel_rfl) (by kernel_rfl) (fun _ _ _ h => h) (yields_take rfl (fun w' hw => by obtain ⟨h1, h2, h3, h4, h5, h6, h7, h8, h9, h10, h11⟩ := hw.const; go_simp)) hS0.out ?_
    simp only [Act.put, List.setIfInBounds_toArray, List.set_cons_zero, List.set_cons_succ]
    refine wpAnyU_take (i := 18) (oi := { dst := some 75, op := _, type := _, pos := _, after := _, guard := some (12, false) }) (v := .slice (some ⟨bA, oA, none⟩) 3 c) rfl (by kernel_rfl) (by kernel_rfl) (by kernel_rfl) (by kernel_rfl) (fun _ _ _ h => h) (yields_take rfl (fun w' hw => by obtain ⟨h1, h2, h3, h4, h5, h6, h7, h8, h9, h10, h11⟩ := hw.const; go_simp)) hS0.out ?_
    simp only [Act.put, List.setIfInBounds_toArray, List.set_cons_zero, List.set_cons_succ]
    refine wpAnyU_take (i := 19) (oi := { dst := some 76, op := _, type := _, pos := _, after := _, guard := some (12, false) }) (v := .pointer (some ⟨bA, oA + 1, none⟩)) rfl (by kernel_rfl) (by kernel_rfl) (by kernel_rfl) (by kernel_rfl) (fun _ _ _ h => h) (yields_take rfl (fun w' hw => by obtain ⟨h1, h2, h3, h4, h5, h6, h7, h8, h9, h10, h11⟩ := hw.const; go_simp)) hS0.out ?_
    simp only [Act.put, List.setIfInBounds_toArray, List.set_cons_zero, List.set_cons_succ]
    refine wpAnyU_take (i := 20) (oi := { dst := some 77, op := _, type := _, pos := _, after := _, guard := some (12, false) }) (v := .int .i64 (H : Int)) rfl (by kernel_rfl) (by kernel_rfl) (by kernel_rfl) (by kernel_rfl) (fun _ _ _ h => h) (yields_take rfl (fun w' hw => by obtain ⟨h1, h2, h3, h4, h5, h6, h7, h8, h9, h10, h11⟩ := hw.const; go_simp)) hS0.out ?_
    simp only [Act.put, List.setIfInBounds_toArray, List.set_cons_zero, List.set_cons_succ]
    refine wpAnyU_take (i := 21) (oi := { dst := some 78, op := _, type := _, pos := _, after := _, guard := some (12, false) }) (v := .pointer (some ⟨w.heap.size, 5, none⟩)) rfl (by kernel_rfl) (by kernel_rfl) (by kernel_rfl) (by kernel_rfl) (fun _ _ _ h => h) (yields_take rfl (fun w' hw => by obtain ⟨h1, h2, h3, h4, h5, h6, h7, h8, h9, h10, h11⟩ := hw.const; go_simp)) hS0.out ?_
    simp only [Act.put, List.setIfInBounds_toArray, List.set_cons_zero, List.set_cons_succ]
    refine wpAnyU_take (i := 22) (oi := { dst := some 79, op := _, type := _, pos := _, after := _, guard := some (12, false) }) (v := .int .i64 pd) rfl (by kernel_rfl) (by kernel_rfl) (by kernel_rfl) (by kernel_rfl) (fun _ _ _ h => h) (yields_take rfl (fun w' hw => by obtain ⟨h1, h2, h3, h4, h5, h6, h7, h8, h9, h10, h11⟩ := hw.const; go_simp)) hS0.out ?_
    simp only [Act.put, List.setIfInBounds_toArray, List.set_cons_zero, List.set_cons_succ]
    refine wpAnyU_take (i := 23) (oi := { dst := some 80, op := _, type := _, pos := _, after := _, guard := some (12, false) }) (v := .int .i64 pp) rfl (by kernel_rfl) (by kernel_rfl) (by kernel_rfl) (by kernel_rfl) (fun _ _ _ h => h) (yields_take rfl (fun w' hw => by obtain ⟨h1, h2, h3, h4, h5, h6, h7, h8, h9, h10, h11⟩ := hw.const; go_simp)) hS0.out ?_
    simp only [Act.put, List.setIfInBounds_toArray, List.set_cons_zero, List.set_cons_succ]
    refine wpAnyU_take (i := 24) (oi := { dst := some 81, op := _, type := _, pos := _, after := _, guard := some (12, false) }) (v := .int .i64 hp) rfl (by kernel_rfl) (by kernel_rfl) (by kernel_rfl) (by kernel_rfl) (fun _ _ _ h => h) (yields_take rfl (fun w' hw => by obtain ⟨h1, h2, h3, h4, h5, h6, h7, h8, h9, h10, h11⟩ := hw.const; go_simp)) hS0.out ?_
    simp only [Act.put, List.setIfInBounds_toArray, List.set_cons_zero, List.set_cons_succ]
    refine wpAnyU_take (i := 25) (oi := { dst := some 82, op := _, type := _, pos := _, after := _, guard := some (12, false) }) (v := .pointer (some ⟨w.heap.size, 2, none⟩)) rfl (by kernel_rfl) (by kernel_rfl) (by kernel_rfl) (by kernel_rfl) (fun _ _ _ h => h) (yields_take rfl (fun w' hw => by obtain ⟨h1, h2, h3, h4, h5, h6, h7, h8, h9, h10, h11⟩ := hw.const; go_simp)) hS0.out ?_
    simp only [Act.put, List.setIfInBounds_toArray, List.set_cons_zero, List.set_cons_succ]
    refine wpAnyU_take (i := 26) (oi := { dst := some 83, op := _, type := _, pos := _, after := _, guard := some (12, false) }) (v := .pointer (some ⟨w.heap.size, 2, none⟩)) rfl (by kernel_rfl) (by kernel_rfl) (by kernel_rfl) (by kernel_rfl) (fun _ _ _ h => h) (yields_take rfl (fun w' hw => by obtain ⟨h1, h2, h3, h4, h5, h6, h7, h8, h9, h10, h11⟩ := hw.const; go_simp)) hS0.out ?_
    simp only [Act.put, List.setIfInBounds_toArray, List.set_cons_zero, List.set_cons_succ]
    refine wpAnyU_take (i := 27) (oi := { dst := some 84, op := _, type := _, pos := _, after := _, guard := some (12, false) }) (v := .slice (some ⟨bB, oB, none⟩) 4 c') rfl (by kernel_rfl) (by kernel_rfl) (by kernel_rfl) (by kernel_rfl) (fun _ _ _ h => h) (yields_take rfl (fun w' hw => by obtain ⟨h1, h2, h3, h4, h5, h6, h7, h8, h9, h10, h11⟩ := hw.const; go_simp)) hS0.out ?_
    simp only [Act.put, List.setIfInBounds_toArray, List.set_cons_zero, List.set_cons_succ]
    refine wpAnyU_take (i := 28) (oi := { dst := some 85, op := _, type := _, pos := _, after := _, guard := some (12, false) }) (v := .pointer (some ⟨bB, oB + 2, none⟩)) rfl (by kernel_rfl) (by kernel_rfl) (by kernel_rfl) (by kernel_rfl) (fun _ _ _ h => h) (yields_take rfl (fun w' hw => by obtain ⟨h1, h2, h3, h4, h5, h6, h7, h8, h9, h10, h11⟩ := hw.const; go_simp)) hS0.out ?_
    simp only [Act.put, List.setIfInBounds_toArray, List.set_cons_zero, List.set_cons_succ]
    refine wpAnyU_take (i := 29) (oi := { dst := some 86, op := _, type := _, pos := _, after := _, guard := some (12, false) }) (v := .int .i64 (a : Int)) rfl (by kernel_rfl) (by kernel_rfl) (by kernel_rfl) (by kernel_rfl) (fun _ _ _ h => h) (yields_take rfl (fun w' hw => by obtain ⟨h1, h2, h3, h4, h5, h6, h7, h8, h9, h10, h11⟩ := hw.const; go_simp)) hS0.out ?_
    simp only [Act.put, List.setIfInBounds_toArray, List.set_cons_zero, List.set_cons_succ]
    refine wpAnyU_take (i := 30) (oi := { dst := some 87, op := _, type := _, pos := _, after := _, guard := some (12, false) }) (v := .int .i64 d1) rfl (by kernel_rfl) (by kernel_rfl) (by kernel_rfl) (by kernel_rfl) (fun _ _ _ h => h) (yields_take rfl (fun w' hw => by obtain ⟨h1, h2, h3, h4, h5, h6, h7, h8, h9, h10, h11⟩ := hw.const; go_simp)) hS0.out ?_
    simp only [Act.put, List.setIfInBounds_toArray, List.set_cons_zero, List.set_cons_succ]
    refine wpAnyU_take (i := 31) (oi := { dst := some 88, op := _, type := _, pos := _, after := _, guard := some (12, false) }) (v := .int .i64 (Y : Int)) rfl (by kernel_rfl) (by kernel_rfl) (by kernel_rfl) (by kernel_rfl) (fun _ _ _ h => h) (yields_take rfl (fun w' hw => by obtain ⟨h1, h2, h3, h4, h5, h6, h7, h8, h9, h10, h11⟩ := hw.const; go_simp)) hS0.out ?_
    simp only [Act.put, List.setIfInBounds_toArray, List.set_cons_zero, List.set_cons_succ]
    refine wpAnyU_take (i := 32) (oi := { dst := some 89, op := _, type := _, pos := _, after := _, guard := some (12, false) }) (v := .bool false) rfl (by kernel_rfl) (by kernel_rfl) (by kernel_rfl) (by kernel_rfl) (fun _ _ _ h => h) (yields_take rfl (fun w' hw => by obtain ⟨h1, h2, h3, h4, h5, h6, h7, h8, h9, h10, h11⟩ := hw.const; go_simp)) hS0.out ?_
    simp only [Act.put, List.setIfInBounds_toArray, List.set_cons_zero, List.set_cons_succ]
    refine wpAnyU_take (i := 33) (oi := { dst := some 90, op := _, type := _, pos := _, after := _, guard := some (2, true) }) (v := .bool false) rfl (by kernel_rfl) (by kernel_rfl) (by kernel_rfl) (by kernel_rfl) (fun _ _ _ h => h) (yields_take rfl (fun w' hw => by obtain ⟨h1, h2, h3, h4, h5, h6, h7, h8, h9, h10, h11⟩ := hw.const; go_simp)) hS0.out ?_
    simp only [Act.put, List.setIfInBounds_toArray, List.set_cons_zero, List.set_cons_succ]
    refine wpAnyU_take (i := 34) (oi := { dst := some 91, op := _, type := _, pos := _, after := _, guard := some (2, true) }) (v := .bool false) rfl (by kernel_rfl) (by kernel_rfl) (by kernel_rfl) (by kernel_rfl) (fun _ _ _ h => h) (yields_take rfl (fun w' hw => by obtain ⟨h1, h2, h3, h4, h5, h6, h7, h8, h9, h10, h11⟩ := hw.const; go_simp)) hS0.out ?_
    simp only [Act.put, List.setIfInBounds_toArray, List.set_cons_zero, List.set_cons_succ]
    refine wpAnyU_take (i := 35) (oi := { dst := some 92, op := _, type := _, pos := _, after := _, guard := some (34, false) }) (v := .slice (some ⟨bR, oR, none⟩) 3 kc) rfl (by kernel_rfl) (by kernel_rfl) (by kernel_rfl) (by kernel_rfl) (fun _ _ _ h => h) (yields_take rfl (fun w' hw => by obtain ⟨h1, h2, h3, h4, h5, h6, h7, h8, h9, h10, h11⟩ := hw.const; go_simp)) hS0.out ?_
    simp only [Act.put, List.setIfInBounds_toArray, List.set_cons_zero, List.set_cons_succ]
    refine wpAnyU_take (i := 36) (oi := { dst := some 93, op := _, type := _, pos := _, after := _, guard := some (34, false) }) (v := .pointer (some ⟨bR, oR + 2, none⟩)) rfl (by kernel_rfl) (by kernel_rfl) (by kernel_rfl) (by kernel_rfl) (fun _ _ _ h => h) (yields_take rfl (fun w' hw => by obtain ⟨h1, h2, h3, h4, h5, h6, h7, h8, h9, h10, h11⟩ := hw.const; go_simp)) hS0.out ?_
    simp only [Act.put, List.setIfInBounds_toArray, List.set_cons_zero, List.set_cons_succ]
    refine wpAnyU_take (i := 37) (oi := { dst := some 94, op := _, type := _, pos := _, after := _, guard := some (34, false) }) (v := .int .i64 (X : Int)) rfl (by kernel_rfl) (by kernel_rfl) (by kernel_rfl) (by kernel_rfl) (fun _ _ _ h => h) (yields_take rfl (fun w' hw => by obtain ⟨h1, h2, h3, h4, h5, h6, h7, h8, h9, h10, h11⟩ := hw.const; go_simp)) hS0.out ?_
    simp only [Act.put, List.setIfInBounds_toArray, List.set_cons_zero, List.set_cons_succ]
    refine wpAnyU_take (i := 38) (oi := { dst := some 95, op := _, type := _, pos := _, after := _, guard := some (34, false) }) (v := .pointer (some ⟨w.heap.size, 0, none⟩)) rfl (by kernel_rfl) (by kernel_rfl) (by kernel_rfl) (by kernel_rfl) (fun _ _ _ h => h) (yields_take rfl (fun w' hw => by obtain ⟨h1, h2, h3, h4, h5, h6, h7, h8, h9, h10, h11⟩ := hw.const; go_simp)) hS0.out ?_
    simp only [Act.put, List.setIfInBounds_toArray, List.set_cons_zero, List.set_cons_succ]
    refine wpAnyU_take (i := 39) (oi := { dst := some 96, op := _, type := _, pos := _, after := _, guard := some (34, false) }) (v := .pointer (some ⟨w.heap.size, 0, none⟩)) rfl (by kernel_rfl) (by kernel_rfl) (by kernel_rfl) (by kernel_rfl) (fun _ _ _ h => h) (yields_take rfl (fun w' hw => by obtain ⟨h1, h2, h3, h4, h5, h6, h7, h8, h9, h10, h11⟩ := hw.const; go_simp)) hS0.out ?_
    simp only [Act.put, List.setIfInBounds_toArray, List.set_cons_zero, List.set_cons_succ]
    refine wpAnyU_take (i := 40) (oi := { dst := some 97, op := _, type := _, pos := _, after := _, guard := some (34, false) }) (v := .slice (some ⟨bA, oA, none⟩) 3 c) rfl (by kernel_rfl) (by kernel_rfl) (by kernel_rfl) (by kernel_rfl) (fun _ _ _ h => h) (yields_take rfl (fun w' hw => by obtain ⟨h1, h2, h3, h4, h5, h6, h7, h8, h9, h10, h11⟩ := hw.const; go_simp)) hS0.out ?_
    simp only [Act.put, List.setIfInBounds_toArray, List.set_cons_zero, List.set_cons_succ]
    refine wpAnyU_take (i := 41) (oi := { dst := some 98, op := _, type := _, pos := _, after := _, guard := some (34, false) }) (v := .pointer (some ⟨bA, oA + 2, none⟩)) rfl (by kernel_rfl) (by kernel_rfl) (by kernel_rfl) (by kernel_rfl) (fun _ _ _ h => h) (yields_take rfl (fun w' hw => by obtain ⟨h1, h2, h3, h4, h5, h6, h7, h8, h9, h10, h11⟩ := hw.const; go_simp)) hS0.out ?_
    simp only [Act.put, List.setIfInBounds_toArray, List.set_cons_zero, List.set_cons_succ]
    refine wpAnyU_take (i := 42) (oi := { dst := some 99, op := _, type := _, pos := _, after := _, guard := some (34, false) }) (v := .int .i64 (V : Int)) rfl (by kernel_rfl) (by kernel_rfl) (by kernel_rfl) (by kernel_rfl) (fun _ _ _ h => h) (yields_take rfl (fun w' hw => by obtain ⟨h1, h2, h3, h4, h5, h6, h7, h8, h9, h10, h11⟩ := hw.const; go_simp)) hS0.out ?_
    simp only [Act.put, List.setIfInBounds_toArray, List.set_cons_zero, List.set_cons_succ]
    refine wpAnyU_take (i := 43) (oi := { dst := some 100, op := _, type := _, pos := _, after := _, guard := some (34, false) }) (v := .pointer (some ⟨w.heap.size, 5, none⟩)) rfl (by kernel_rfl) (by kernel_rfl) (by kernel_rfl) (by kernel_rfl) (fun _ _ _ h => h) (yields_take rfl (fun w' hw => by obtain ⟨h1, h2, h3, h4, h5, h6, h7, h8, h9, h10, h11⟩ := hw.const; go_simp)) hS0.out ?_
    simp only [Act.put, List.setIfInBounds_toArray, List.set_cons_zero, List.set_cons_succ]
    refine wpAnyU_take (i := 44) (oi := { dst := some 101, op := _, type := _, pos := _, after := _, guard := some (34, false) }) (v := .int .i64 pd) rfl (by kernel_rfl) (by kernel_rfl) (by kernel_rfl) (by kernel_rfl) (fun _ _ _ h => h) (yields_take rfl (fun w' hw => by obtain ⟨h1, h2, h3, h4, h5, h6, h7, h8, h9, h10, h11⟩ := hw.const; go_simp)) hS0.out ?_
    simp only [Act.put, List.setIfInBounds_toArray, List.set_cons_zero, List.set_cons_succ]
    refine wpAnyU_take (i := 45) (oi := { dst := some 102, op := _, type := _, pos := _, after := _, guard := some (34, false) }) (v := .int .i64 pp) rfl (by kernel_rfl) (by kernel_rfl) (by kernel_rfl) (by kernel_rfl) (fun _ _ _ h => h) (yields_take rfl (fun w' hw => by obtain ⟨h1, h2, h3, h4, h5, h6, h7, h8, h9, h10, h11⟩ := hw.const; go_simp)) hS0.out ?_
    simp only [Act.put, List.setIfInBounds_toArray, List.set_cons_zero, List.set_cons_succ]
    refine wpAnyU_take (i := 46) (oi := { dst := some 103, op := _, type := _, pos := _, after := _, guard := some (34, false) }) (v := .int .i64 vp) rfl (by kernel_rfl) (by kernel_rfl) (by kernel_rfl) (by kernel_rfl) (fun _ _ _ h => h) (yields_take rfl (fun w' hw => by obtain ⟨h1, h2, h3, h4, h5, h6, h7, h8, h9, h10, h11⟩ := hw.const; go_simp)) hS0.out ?_
    simp only [Act.put, List.setIfInBounds_toArray, List.set_cons_zero, List.set_cons_succ]
    refine wpAnyU_take (i := 47) (oi := { dst := some 104, op := _, type := _, pos := _, after := _, guard := some (34, false) }) (v := .pointer (some ⟨w.heap.size, 2, none⟩)) rfl (by kernel_rfl) (by kernel_rfl) (by kernel_rfl) (by kernel_rfl) (fun _ _ _ h => h) (yields_take rfl (fun w' hw => by obtain ⟨h1, h2, h3, h4, h5, h6, h7, h8, h9, h10, h11⟩ := hw.const; go_simp)) hS0.out ?_
    simp only [Act.put, List.setIfInBounds_toArray, List.set_cons_zero, List.set_cons_succ]
    refine wpAnyU_take (i := 48) (oi := { dst := some 105, op := _, type := _, pos := _, after := _, guard := some (34, false) }) (v := .pointer (some ⟨w.heap.size, 2, none⟩)) rfl (by kernel_rfl) (by kernel_rfl) (by kernel_rfl) (by kernel_rfl) (fun _ _ _ h => h) (yields_take rfl (fun w' hw => by obtain ⟨h1, h2, h3, h4, h5, h6, h7, h8, h9, h10, h11⟩ := hw.const; go_simp)) hS0.out ?_
    simp only [Act.put, List.setIfInBounds_toArray, List.set_cons_zero, List.set_cons_succ]
    refine wpAnyU_take (i := 49) (oi := { dst := some 106, op := _, type := _, pos := _, after := _, guard := some (34, false) }) (v := .slice (some ⟨bB, oB, none⟩) 4 c') rfl (by kernel_rfl) (by kernel_rfl) (by kernel_rfl) (by kernel_rfl) (fun _ _ _ h => h) (yields_take rfl (fun w' hw => by obtain ⟨h1, h2, h3, h4, h5, h6, h7, h8, h9, h10, h11⟩ := hw.const; go_simp)) hS0.out ?_
    simp only [Act.put, List.setIfInBounds_toArray, List.set_cons_zero, List.set_cons_succ]
    refine wpAnyU_take (i := 50) (oi := { dst := some 107, op := _, type := _, pos := _, after := _, guard := some (34, false) }) (v := .pointer (some ⟨bB, oB + 3, none⟩)) rfl (by kernel_rfl) (by kernel_rfl) (by kernel_rfl) (by kernel_rfl) (fun _ _ _ h => h) (yields_take rfl (fun w' hw => by obtain ⟨h1, h2, h3, h4, h5, h6, h7, h8, h9, h10, h11⟩ := hw.const; go_simp)) hS0.out ?_
    simp only [Act.put, List.setIfInBounds_toArray, List.set_cons_zero, List.set_cons_succ]
    refine wpAnyU_take (i := 51) (oi := { dst := some 108, op := _, type := _, pos := _, after := _, guard := some (34, false) }) (v := .int .i64 (b : Int)) rfl (by kernel_rfl) (by kernel_rfl) (by kernel_rfl) (by kernel_rfl) (fun _ _ _ h => h) (yields_take rfl (fun w' hw => by obtain ⟨h1, h2, h3, h4, h5, h6, h7, h8, h9, h10, h11⟩ := hw.const; go_simp)) hS0.out ?_
    simp only [Act.put, List.setIfInBounds_toArray, List.set_cons_zero, List.set_cons_succ]
    refine wpAnyU_take (i := 52) (oi := { dst := some 109, op := _, type := _, pos := _, after := _, guard := some (34, false) }) (v := .int .i64 d2) rfl (by kernel_rfl) (by kernel_rfl) (by kernel_rfl) (by kernel_rfl) (fun _ _ _ h => h) (yields_take rfl (fun w' hw => by obtain ⟨h1, h2, h3, h4, h5, h6, h7, h8, h9, h10, h11⟩ := hw.const; go_simp)) hS0.out ?_
    simp only [Act.put, List.setIfInBounds_toArray, List.set_cons_zero, List.set_cons_succ]
    refine wpAnyU_take (i := 53) (oi := { dst := some 110, op := _, type := _, pos := _, after := _, guard := some (34, false) }) (v := .int .i64 (X : Int)) rfl (by kernel_rfl) (by kernel_rfl) (by kernel_rfl) (by kernel_rfl) (fun _ _ _ h => h) (yields_take rfl (fun w' hw => by obtain ⟨h1, h2, h3, h4, h5, h6, h7, h8, h9, h10, h11⟩ := hw.const; go_simp)) hS0.out ?_
    simp only [Act.put, List.setIfInBounds_toArray, List.set_cons_zero, List.set_cons_succ]
    refine wpAnyU_take (i := 54) (oi := { dst := some 111, op := _, type := _, pos := _, after := _, guard := some (34, false) }) (v := .bool false) rfl (by kernel_rfl) (by kernel_rfl) (by kernel_rfl) (by kernel_rfl) (fun _ _ _ h => h) (yields_take rfl (fun w' hw => by obtain ⟨h1, h2, h3, h4, h5, h6, h7, h8, h9, h10, h11⟩ := hw.const; go_simp)) hS0.out ?_
    simp only [Act.put, List.setIfInBounds_toArray, List.set_cons_zero, List.set_cons_succ]
    refine wpAnyU_take (i := 55) (oi := { dst := some 112, op := _, type := _, pos := _, after := _, guard := some (2, true) }) (v := .bool false) rfl (by kernel_rfl) (by kernel_rfl) (by kernel_rfl) (by kernel_rfl) (fun _ _ _ h => h) (yields_take rfl (fun w' hw => by obtain ⟨h1, h2, h3, h4, h5, h6, h7, h8, h9, h10, h11⟩ := hw.const; go_simp)) hS0.out ?_
    simp only [Act.put, List.setIfInBounds_toArray, List.set_cons_zero, List.set_cons_succ]
    refine wpAnyU_take (i := 56) (oi := { dst := some 113, op := _, type := _, pos := _, after := _, guard := none }) (v := .bool false) rfl (by kernel_rfl) (by kernel_rfl) (by kernel_rfl) (by kernel_rfl) (fun _ _ _ h => h) (yields_take rfl (fun w' hw => by obtain ⟨h1, h2, h3, h4, h5, h6, h7, h8, h9, h10, h11⟩ := hw.const; go_simp)) hS0.out ?_
    simp only [Act.put, List.setIfInBounds_toArray, List.set_cons_zero, List.set_cons_succ]
    refine wpAnyU_done (by kernel_rfl) ?_ _
    clear hS0
    have HEND := hide hd0
    clear hd0
    go_wp2
    go_meet
    exact ⟨rfl, HEND⟩
  case rest =>
    obtain ⟨rfl, hb0⟩ := hcut
    obtain ⟨V4, hV4⟩ : ∃ W, W = wc := ⟨_, rfl⟩
    rw [← hV4] at hb0 ⊢
    have hb : Below u13.heap.size u13 V4 := hb0.out
    clear hV4 hb0
    replace HT_z := hide (HT_z.out.kept hb)
    replace HBW := hide (HBW.out.trans (hb.mono HBW.out.size))
    clear hb HOR
    obtain ⟨bA, oA, rfl, _, _⟩ := byte_at HT_z.out.S (by omega)
    obtain ⟨bB, oB, rfl, _, _⟩ := byte_at HT_z.out.L (by omega)
    obtain ⟨iI, hiI, hzI0, hzI1, hzI2⟩ := info_parts Try.infoI
    obtain ⟨iN, hiN, hzN0, hzN1, hzN2⟩ := info_parts info8N
    have HiI := hide (And.intro hiI (And.intro hzI0 (And.intro hzI1 hzI2)))
    have HiN := hide (And.intro hiN (And.intro hzN0 (And.intro hzN1 hzN2)))
    clear hiI hzI0 hzI1 hzI2 hiN hzN0 hzN1 hzN2
    have cxz0 := HT_z.out.c0
    have cxz1 := HT_z.out.c1
    have cxz2 := HT_z.out.c2
    have cxz3 := HT_z.out.c3
    have cxz4 := HT_z.out.c4
    have cxz5 := HT_z.out.c5
    have cxz6 := HT_z.out.c6
    go_wp2
    clear cxz0 cxz1 cxz2 cxz3 cxz4 cxz5 cxz6
    go_cut [6] from 118 (fun s1 wc => ∃ px bS oS c1 g2 c2, s1 = .pointer (some ⟨px, 0, none⟩) ∧ Hid (BoxT wc px (.slice (some ⟨bS, oS, none⟩) 4 c1) (.slice (some ⟨g2, 0, none⟩) m c2)) ∧ Hid (Lies wc (some ⟨bS, oS, none⟩) 4 (([(1 : Int), (C : Int), (H : Int), (V : Int)] : List Int).map (Value.int .i64))) ∧ Hid (wc.ownsRow V4.heap.size 21 1 (.slice (some ⟨g2, 0, none⟩) m c2) m (l.map (Value.int .i32))) ∧ Hid (bS ≠ g2 ∧ px ≠ g2) ∧ Hid (Below V4.heap.size V4 wc))
    case first =>
      have he := Below.refl V4.heap.size V4
      have hsz0 := HT_z.out.lt
      have hS0 : Hid (V4.drew.cell? ⟨w.heap.size, 0, none⟩ = some (.slice (some ⟨bA, oA, none⟩) 3 c) ∧ V4.drew.cell? ⟨w.heap.size, 1, none⟩ = some (.slice (some ⟨bB, oB, none⟩) m d)) := hide (⟨(HT_z.out.kept (below_drewN (Below.refl _ _) 1)).c0, (HT_z.out.kept (below_drewN (Below.refl _ _) 1)).c1⟩)
      refine wp_region_U (fun _ v => v.cell? ⟨w.heap.size, 0, none⟩ = some (.slice (some ⟨bA, oA, none⟩) 3 c) ∧ v.cell? ⟨w.heap.size, 1, none⟩ = some (.slice (some ⟨bB, oB, none⟩) m d)) 99 (by kernel_rfl) ?_
      refine wpAnyU_take (i := 1) (oi := { dst := some 119, op := _, type := _, pos := _, after := _, guard := none }) (v := .pointer (some ⟨w.heap.size, 0, none⟩)) rfl (by kernel_rfl) (by kernel_rfl) (by kernel_rfl) (by kernel_rfl) (fun _ _ _ h => h) (yields_take rfl (fun w' hw => by obtain ⟨h1, h2⟩ := hw.const; go_simp)) hS0.out ?_
      simp only [Act.put, List.setIfInBounds_toArray, List.set_cons_zero, List.set_cons_succ]
      refine wpAnyU_take (i := 2) (oi := { dst := some 120, op := _, type := _, pos := _, after := _, guard := none }) (v := .pointer (some ⟨w.heap.size, 0, none⟩)) rfl (by kernel_rfl) (by kernel_rfl) (by kernel_rfl) (by kernel_rfl) (fun _ _ _ h => h) (yields_take rfl (fun w' hw => by obtain ⟨h1, h2⟩ := hw.const; go_simp)) hS0.out ?_
      simp only [Act.put, List.setIfInBounds_toArray, List.set_cons_zero, List.set_cons_succ]
      refine wpAnyU_take (i := 3) (oi := { dst := some 121, op := _, type := _, pos := _, after := _, guard := none }) (v := .slice (some ⟨bA, oA, none⟩) 3 c) rfl (by kernel_rfl) (by kernel_rfl) (by kernel_rfl) (by kernel_rfl) (fun _ _ _ h => h) (yields_take rfl (fun w' hw => by obtain ⟨h1, h2⟩ := hw.const; go_simp)) hS0.out ?_
      simp only [Act.put, List.setIfInBounds_toArray, List.set_cons_zero, List.set_cons_succ]
      refine wpAnyU_take (i := 5) (oi := { dst := some 123, op := _, type := _, pos := _, after := _, guard := none }) (v := .pointer (some ⟨w.heap.size, 0, none⟩)) rfl (by kernel_rfl) (by kernel_rfl) (by kernel_rfl) (by kernel_rfl) (fun _ _ _ h => h) (yields_take rfl (fun w' hw => by obtain ⟨h1, h2⟩ := hw.const; go_simp)) hS0.out ?_
      simp only [Act.put, List.setIfInBounds_toArray, List.set_cons_zero, List.set_cons_succ]
      refine wpAnyU_take (i := 6) (oi := { dst := some 124, op := _, type := _, pos := _, after := _, guard := none }) (v := .pointer (some ⟨w.heap.size, 1, none⟩)) rfl (by kernel_rfl) (by kernel_rfl) (by kernel_rfl) (by kernel_rfl) (fun _ _ _ h => h) (yields_take rfl (fun w' hw => by obtain ⟨h1, h2⟩ := hw.const; go_simp)) hS0.out ?_
      simp only [Act.put, List.setIfInBounds_toArray, List.set_cons_zero, List.set_cons_succ]
      refine wpAnyU_take (i := 7) (oi := { dst := some 125, op := _, type := _, pos := _, after := _, guard := none }) (v := .slice (some ⟨bB, oB, none⟩) m d) rfl (by kernel_rfl) (by kernel_rfl) (by kernel_rfl) (by kernel_rfl) (fun _ _ _ h => h) (yields_take rfl (fun w' hw => by obtain ⟨h1, h2⟩ := hw.const; go_simp)) hS0.out ?_
      simp only [Act.put, List.setIfInBounds_toArray, List.set_cons_zero, List.set_cons_succ]
      generalize hU0 : V4.drew = U0
      have he : Below V4.heap.size V4 U0 := by rw [← hU0]; exact below_drewN (Below.refl _ _) 1
      rw [hU0] at hS0
      clear hU0
      refine wpAnyU_or (i := 0) (j := 10) (by kernel_rfl) rfl rfl ?_ ?_
      · intro K hK
        go_simp
        obtain ⟨U1, hU⟩ : ∃ U, U = U0.alloc (.cells #[.int .i64 1] 3) := ⟨_, rfl⟩
        rw [← hU]
        have hb : Below U0.heap.size U0 U1 := by rw [hU]; exact below_al6 (Below.refl _ _)
        have FL0 : Lies U1 (some ⟨U0.heap.size, 0, none⟩) 1 (([1] : List Int).map (Value.int .i64)) := by rw [hU]; exact lit_lies U0 .i64 ([1] : List Int) 3
        clear hU
        replace he : Below V4.heap.size V4 U1 := below_nx6 he hb
        clear hb
        have hS1 : Hid (U1.cell? ⟨w.heap.size, 0, none⟩ = some (.slice (some ⟨bA, oA, none⟩) 3 c) ∧ U1.cell? ⟨w.heap.size, 1, none⟩ = some (.slice (some ⟨bB, oB, none⟩) m d)) := hide (⟨(HT_z.out.kept he).c0, (HT_z.out.kept he).c1⟩)
        refine hK _ _ hS1.out (fun _ => ?_)
        clear hK K hS0
        refine wpAnyU_or (i := 4) (j := 10) (by kernel_rfl) rfl rfl ?_ ?_
        · intro K hK
          refine step_append_full rfl (.tmp 118) (.tmp 121) 22 rfl 3 iI (.int .i64 0) 8 Try.underlying22 HiI.out.1 HiI.out.2.1 HiI.out.2.2.1 HiI.out.2.2.2 rfl (U0.heap.size) 0 1 (([1] : List Int).map (Value.int .i64)) rfl FL0 (some ⟨bA, oA, none⟩) 3 c (([(C : Int), (H : Int), (V : Int)] : List Int).map (Value.int .i64)) rfl (HT_z.out.S.below he) (by omega) (by unfold maxLen; omega) ?_
          intro A1 c1 U2 hc1 FP1 hb
          clear FL0
          replace he : Below V4.heap.size V4 U2 := below_nx6 he hb
          clear hb
          have hS2 : Hid (U2.cell? ⟨w.heap.size, 0, none⟩ = some (.slice (some ⟨bA, oA, none⟩) 3 c) ∧ U2.cell? ⟨w.heap.size, 1, none⟩ = some (.slice (some ⟨bB, oB, none⟩) m d)) := hide (⟨(HT_z.out.kept he).c0, (HT_z.out.kept he).c1⟩)
          refine hK _ _ hS2.out (fun _ => ?_)
          clear hK K hS1
          refine wpAnyU_or (i := 8) (j := 10) (by kernel_rfl) rfl rfl ?_ ?_
          · intro K hK
            refine step_append_ints8 rfl (.const (.slice none 0 0)) (.tmp 125) 23 rfl 21 iN (.int .i32 0) 4 Try.underlying23 HiN.out.1 HiN.out.2.1 HiN.out.2.2.1 HiN.out.2.2.2 rfl U2.heap.size none 0 0 m .i32 [] rfl (World.ownsRow_nil _ _ _ _) (Nat.le_refl _) (fun _ => rfl) (some ⟨bB, oB, none⟩) m d l rfl (HT_z.out.L.below he) (by simp) (by omega) (by omega) (by unfold maxLen; omega) ?_
            intro A2 c2 U3 FP2 hg2
            have hb : Below U2.heap.size U2 U3 := ⟨hg2.os, hg2.tape, hg2.output, hg2.size, fun k hk => hg2.block k hk (by simp [Value.ownBlock])⟩
            have hbase : U2.heap.size ≤ U2.heap.size := Nat.le_refl _
            have hheb := he.size
            obtain ⟨bS, oS, rfl, hbS, _⟩ := byte_at (k := .i64) (bs := [(1 : Int), (C : Int), (H : Int), (V : Int)]) FP1 (by omega)
            obtain ⟨g2, rfl⟩ := own_some FP2 (by omega)
            have hl2 := FP2.lt g2 rfl
            have hSg : bS ≠ g2 := by omega
            clear hg2
            replace FP1 := FP1.below hb
            replace he : Below V4.heap.size V4 U3 := below_nx6 he hb
            clear hb
            have hS3 : Hid (U3.cell? ⟨w.heap.size, 0, none⟩ = some (.slice (some ⟨bA, oA, none⟩) 3 c) ∧ U3.cell? ⟨w.heap.size, 1, none⟩ = some (.slice (some ⟨bB, oB, none⟩) m d)) := hide (⟨(HT_z.out.kept he).c0, (HT_z.out.kept he).c1⟩)
            refine hK _ _ hS3.out (fun _ => ?_)
            clear hK K hS2
            refine wpAnyU_take (i := 9) (oi := { dst := some 127, op := _, type := _, pos := _, after := _, guard := none }) (v := .agg #[.slice (some ⟨bS, oS, none⟩) (1 + 3) c1, .slice (some ⟨g2, 0, none⟩) m c2]) rfl (by kernel_rfl) (by kernel_rfl) (by kernel_rfl) (by kernel_rfl) (fun _ _ _ h => h) (yields_take rfl (fun w' hw => by obtain ⟨h1, h2⟩ := hw.const; go_simp)) hS3.out ?_
            simp only [Act.put, List.setIfInBounds_toArray, List.set_cons_zero, List.set_cons_succ]
            refine wpAnyU_one (i := 10) (by kernel_rfl) rfl ?_
            intro K hK
            go_simp
            obtain ⟨U4, hU⟩ : ∃ U, U = U3.alloc (.cells #[.slice none 0 0, .slice none 0 0] 25) := ⟨_, rfl⟩
            rw [← hU]
            have hb : Below U3.heap.size U3 U4 := by rw [hU]; exact below_al6 (Below.refl _ _)
            have FAL : BoxT U4 U3.heap.size (.slice none 0 0) (.slice none 0 0) := by rw [hU]; exact BoxT.new U3 _ _
            have hpx : V4.heap.size ≤ U3.heap.size := he.size
            clear hU
            replace FP1 := FP1.below hb
            replace FP2 := own_below FP2 hb
            replace he : Below V4.heap.size V4 U4 := below_nx6 he hb
            clear hb
            have hS4 : Hid (U4.cell? ⟨w.heap.size, 0, none⟩ = some (.slice (some ⟨bA, oA, none⟩) 3 c) ∧ U4.cell? ⟨w.heap.size, 1, none⟩ = some (.slice (some ⟨bB, oB, none⟩) m d)) := hide (⟨(HT_z.out.kept he).c0, (HT_z.out.kept he).c1⟩)
            refine hK _ _ hS4.out (fun _ => ?_)
            clear hK K hS3
            have r0 := FAL.c0
            have r1 := FAL.c1
            have rf0 := FAL.f0 0
            have rf1 := FAL.f0 1
            have hlx := FAL.lt
            have hpg : U3.heap.size ≠ g2 := by omega
            have hpS : bS ≠ U3.heap.size := box_ne_lies FAL (xs := [(1 : Int), (C : Int), (H : Int), (V : Int)]) FP1 (by omega)
            refine wpAnyU_one (i := 11) (by kernel_rfl) rfl ?_
            intro K hK
            go_simp
            have he2 : Below V4.heap.size V4 ((U4.setCell ⟨U3.heap.size, 0, none⟩ (.slice (some ⟨bS, oS, none⟩) (1 + 3) c1)).setCell ⟨U3.heap.size, 1, none⟩ (.slice (some ⟨g2, 0, none⟩) m c2)) := (he.setCell (by dsimp only; omega) _).setCell (by dsimp only; omega) _
            have hS5 : Hid (((U4.setCell ⟨U3.heap.size, 0, none⟩ (.slice (some ⟨bS, oS, none⟩) (1 + 3) c1)).setCell ⟨U3.heap.size, 1, none⟩ (.slice (some ⟨g2, 0, none⟩) m c2)).cell? ⟨w.heap.size, 0, none⟩ = some (.slice (some ⟨bA, oA, none⟩) 3 c) ∧ ((U4.setCell ⟨U3.heap.size, 0, none⟩ (.slice (some ⟨bS, oS, none⟩) (1 + 3) c1)).setCell ⟨U3.heap.size, 1, none⟩ (.slice (some ⟨g2, 0, none⟩) m c2)).cell? ⟨w.heap.size, 1, none⟩ = some (.slice (some ⟨bB, oB, none⟩) m d)) := hide (⟨(HT_z.out.kept he2).c0, (HT_z.out.kept he2).c1⟩)
            refine hK.out _ _ hS5.out (fun _ => ?_)
            clear hK K hS4
            refine wpAnyU_done (by kernel_rfl) ?_ _
            clear hS5
            have HB1 : Hid (BoxT ((U4.setCell ⟨U3.heap.size, 0, none⟩ (.slice (some ⟨bS, oS, none⟩) (1 + 3) c1)).setCell ⟨U3.heap.size, 1, none⟩ (.slice (some ⟨g2, 0, none⟩) m c2)) U3.heap.size (.slice (some ⟨bS, oS, none⟩) 4 c1) (.slice (some ⟨g2, 0, none⟩) m c2)) := hide (FAL.set2 _ _)
            have HB2 : Hid (Lies ((U4.setCell ⟨U3.heap.size, 0, none⟩ (.slice (some ⟨bS, oS, none⟩) (1 + 3) c1)).setCell ⟨U3.heap.size, 1, none⟩ (.slice (some ⟨g2, 0, none⟩) m c2)) (some ⟨bS, oS, none⟩) 4 (([(1 : Int), (C : Int), (H : Int), (V : Int)] : List Int).map (Value.int .i64))) := hide (lies_set8 FP1 (by intro b o e; cases e; exact hpS))
            have HB3 : Hid (((U4.setCell ⟨U3.heap.size, 0, none⟩ (.slice (some ⟨bS, oS, none⟩) (1 + 3) c1)).setCell ⟨U3.heap.size, 1, none⟩ (.slice (some ⟨g2, 0, none⟩) m c2)).ownsRow V4.heap.size 21 1 (.slice (some ⟨g2, 0, none⟩) m c2) m (l.map (Value.int .i32))) := hide (own_setCell' (own_setCell' (own_base (by simpa using FP2) (by omega)) (by dsimp only; omega) _) (by dsimp only; omega) _)
            have HE2 := hide he2
            clear FP1 FP2 FAL he he2 r0 r1 rf0 rf1
            go_wp2
            go_meet
            exact ⟨_, _, _, _, _, _, rfl, HB1, HB2, HB3, hide ⟨hSg, hpg⟩, HE2⟩
          · intro K hK
            go_simp
            obtain ⟨U5, hU⟩ : ∃ U, U = U2.alloc (.cells #[.slice none 0 0, .slice none 0 0] 25) := ⟨_, rfl⟩
            rw [← hU]
            have hb : Below U2.heap.size U2 U5 := by rw [hU]; exact below_al6 (Below.refl _ _)
            have FAL : BoxT U5 U2.heap.size (.slice none 0 0) (.slice none 0 0) := by rw [hU]; exact BoxT.new U2 _ _
            have hpx : V4.heap.size ≤ U2.heap.size := he.size
            clear hU
            replace FP1 := FP1.below hb
            replace he : Below V4.heap.size V4 U5 := below_nx6 he hb
            clear hb
            have hS3 : Hid (U5.cell? ⟨w.heap.size, 0, none⟩ = some (.slice (some ⟨bA, oA, none⟩) 3 c) ∧ U5.cell? ⟨w.heap.size, 1, none⟩ = some (.slice (some ⟨bB, oB, none⟩) m d)) := hide (⟨(HT_z.out.kept he).c0, (HT_z.out.kept he).c1⟩)
            refine hK _ _ hS3.out (fun _ => ?_)
            clear hK K hS2
            refine wpAnyU_one (i := 8) (by kernel_rfl) rfl ?_
            intro K hK
            refine step_append_ints8 rfl (.const (.slice none 0 0)) (.tmp 125) 23 rfl 21 iN (.int .i32 0) 4 Try.underlying23 HiN.out.1 HiN.out.2.1 HiN.out.2.2.1 HiN.out.2.2.2 rfl U5.heap.size none 0 0 m .i32 [] rfl (World.ownsRow_nil _ _ _ _) (Nat.le_refl _) (fun _ => rfl) (some ⟨bB, oB, none⟩) m d l rfl (HT_z.out.L.below he) (by simp) (by omega) (by omega) (by unfold maxLen; omega) ?_
            intro A2 c2 U6 FP2 hg2
            have hb : Below U5.heap.size U5 U6 := ⟨hg2.os, hg2.tape, hg2.output, hg2.size, fun k hk => hg2.block k hk (by simp [Value.ownBlock])⟩
            have hbase : U5.heap.size ≤ U5.heap.size := Nat.le_refl _
            have hheb := he.size
            obtain ⟨bS, oS, rfl, hbS, _⟩ := byte_at (k := .i64) (bs := [(1 : Int), (C : Int), (H : Int), (V : Int)]) FP1 (by omega)
            obtain ⟨g2, rfl⟩ := own_some FP2 (by omega)
            have hl2 := FP2.lt g2 rfl
            have hSg : bS ≠ g2 := by omega
            clear hg2
            have hax := FAL.lt
            replace FP1 := FP1.below hb
            replace FAL := FAL.kept hb
            replace he : Below V4.heap.size V4 U6 := below_nx6 he hb
            clear hb
            have hS4 : Hid (U6.cell? ⟨w.heap.size, 0, none⟩ = some (.slice (some ⟨bA, oA, none⟩) 3 c) ∧ U6.cell? ⟨w.heap.size, 1, none⟩ = some (.slice (some ⟨bB, oB, none⟩) m d)) := hide (⟨(HT_z.out.kept he).c0, (HT_z.out.kept he).c1⟩)
            refine hK _ _ hS4.out (fun _ => ?_)
            clear hK K hS3
            refine wpAnyU_take (i := 9) (oi := { dst := some 127, op := _, type := _, pos := _, after := _, guard := none }) (v := .agg #[.slice (some ⟨bS, oS, none⟩) (1 + 3) c1, .slice (some ⟨g2, 0, none⟩) m c2]) rfl (by kernel_rfl) (by kernel_rfl) (by kernel_rfl) (by kernel_rfl) (fun _ _ _ h => h) (yields_take rfl (fun w' hw => by obtain ⟨h1, h2⟩ := hw.const; go_simp)) hS4.out ?_
            simp only [Act.put, List.setIfInBounds_toArray, List.set_cons_zero, List.set_cons_succ]
            have r0 := FAL.c0
            have r1 := FAL.c1
            have rf0 := FAL.f0 0
            have rf1 := FAL.f0 1
            have hlx := FAL.lt
            have hpg : U2.heap.size ≠ g2 := by omega
            have hpS : bS ≠ U2.heap.size := box_ne_lies FAL (xs := [(1 : Int), (C : Int), (H : Int), (V : Int)]) FP1 (by omega)
            refine wpAnyU_one (i := 11) (by kernel_rfl) rfl ?_
            intro K hK
            go_simp
            have he2 : Below V4.heap.size V4 ((U6.setCell ⟨U2.heap.size, 0, none⟩ (.slice (some ⟨bS, oS, none⟩) (1 + 3) c1)).setCell ⟨U2.heap.size, 1, none⟩ (.slice (some ⟨g2, 0, none⟩) m c2)) := (he.setCell (by dsimp only; omega) _).setCell (by dsimp only; omega) _
            have hS5 : Hid (((U6.setCell ⟨U2.heap.size, 0, none⟩ (.slice (some ⟨bS, oS, none⟩) (1 + 3) c1)).setCell ⟨U2.heap.size, 1, none⟩ (.slice (some ⟨g2, 0, none⟩) m c2)).cell? ⟨w.heap.size, 0, none⟩ = some (.slice (some ⟨bA, oA, none⟩) 3 c) ∧ ((U6.setCell ⟨U2.heap.size, 0, none⟩ (.slice (some ⟨bS, oS, none⟩) (1 + 3) c1)).setCell ⟨U2.heap.size, 1, none⟩ (.slice (some ⟨g2, 0, none⟩) m c2)).cell? ⟨w.heap.size, 1, none⟩ = some (.slice (some ⟨bB, oB, none⟩) m d)) := hide (⟨(HT_z.out.kept he2).c0, (HT_z.out.kept he2).c1⟩)
            refine hK.out _ _ hS5.out (fun _ => ?_)
            clear hK K hS4
            refine wpAnyU_done (by kernel_rfl) ?_ _
            clear hS5
            have HB1 : Hid (BoxT ((U6.setCell ⟨U2.heap.size, 0, none⟩ (.slice (some ⟨bS, oS, none⟩) (1 + 3) c1)).setCell ⟨U2.heap.size, 1, none⟩ (.slice (some ⟨g2, 0, none⟩) m c2)) U2.heap.size (.slice (some ⟨bS, oS, none⟩) 4 c1) (.slice (some ⟨g2, 0, none⟩) m c2)) := hide (FAL.set2 _ _)
            have HB2 : Hid (Lies ((U6.setCell ⟨U2.heap.size, 0, none⟩ (.slice (some ⟨bS, oS, none⟩) (1 + 3) c1)).setCell ⟨U2.heap.size, 1, none⟩ (.slice (some ⟨g2, 0, none⟩) m c2)) (some ⟨bS, oS, none⟩) 4 (([(1 : Int), (C : Int), (H : Int), (V : Int)] : List Int).map (Value.int .i64))) := hide (lies_set8 FP1 (by intro b o e; cases e; exact hpS))
            have HB3 : Hid (((U6.setCell ⟨U2.heap.size, 0, none⟩ (.slice (some ⟨bS, oS, none⟩) (1 + 3) c1)).setCell ⟨U2.heap.size, 1, none⟩ (.slice (some ⟨g2, 0, none⟩) m c2)).ownsRow V4.heap.size 21 1 (.slice (some ⟨g2, 0, none⟩) m c2) m (l.map (Value.int .i32))) := hide (own_setCell' (own_setCell' (own_base (by simpa using FP2) (by omega)) (by dsimp only; omega) _) (by dsimp only; omega) _)
            have HE2 := hide he2
            clear FP1 FP2 FAL he he2 r0 r1 rf0 rf1
            go_wp2
            go_meet
            exact ⟨_, _, _, _, _, _, rfl, HB1, HB2, HB3, hide ⟨hSg, hpg⟩, HE2⟩
        · intro K hK
          go_simp
          obtain ⟨U7, hU⟩ : ∃ U, U = U1.alloc (.cells #[.slice none 0 0, .slice none 0 0] 25) := ⟨_, rfl⟩
          rw [← hU]
          have hb : Below U1.heap.size U1 U7 := by rw [hU]; exact below_al6 (Below.refl _ _)
          have FAL : BoxT U7 U1.heap.size (.slice none 0 0) (.slice none 0 0) := by rw [hU]; exact BoxT.new U1 _ _
          have hpx : V4.heap.size ≤ U1.heap.size := he.size
          clear hU
          replace FL0 := FL0.below hb
          replace he : Below V4.heap.size V4 U7 := below_nx6 he hb
          clear hb
          have hS2 : Hid (U7.cell? ⟨w.heap.size, 0, none⟩ = some (.slice (some ⟨bA, oA, none⟩) 3 c) ∧ U7.cell? ⟨w.heap.size, 1, none⟩ = some (.slice (some ⟨bB, oB, none⟩) m d)) := hide (⟨(HT_z.out.kept he).c0, (HT_z.out.kept he).c1⟩)
          refine hK _ _ hS2.out (fun _ => ?_)
          clear hK K hS1
          refine wpAnyU_one (i := 4) (by kernel_rfl) rfl ?_
          intro K hK
          refine step_append_full rfl (.tmp 118) (.tmp 121) 22 rfl 3 iI (.int .i64 0) 8 Try.underlying22 HiI.out.1 HiI.out.2.1 HiI.out.2.2.1 HiI.out.2.2.2 rfl (U0.heap.size) 0 1 (([1] : List Int).map (Value.int .i64)) rfl FL0 (some ⟨bA, oA, none⟩) 3 c (([(C : Int), (H : Int), (V : Int)] : List Int).map (Value.int .i64)) rfl (HT_z.out.S.below he) (by omega) (by unfold maxLen; omega) ?_
          intro A1 c1 U8 hc1 FP1 hb
          clear FL0
          replace FAL := FAL.kept hb
          replace he : Below V4.heap.size V4 U8 := below_nx6 he hb
          clear hb
          have hS3 : Hid (U8.cell? ⟨w.heap.size, 0, none⟩ = some (.slice (some ⟨bA, oA, none⟩) 3 c) ∧ U8.cell? ⟨w.heap.size, 1, none⟩ = some (.slice (some ⟨bB, oB, none⟩) m d)) := hide (⟨(HT_z.out.kept he).c0, (HT_z.out.kept he).c1⟩)
          refine hK _ _ hS3.out (fun _ => ?_)
          clear hK K hS2
          refine wpAnyU_one (i := 8) (by kernel_rfl) rfl ?_
          intro K hK
          refine step_append_ints8 rfl (.const (.slice none 0 0)) (.tmp 125) 23 rfl 21 iN (.int .i32 0) 4 Try.underlying23 HiN.out.1 HiN.out.2.1 HiN.out.2.2.1 HiN.out.2.2.2 rfl U8.heap.size none 0 0 m .i32 [] rfl (World.ownsRow_nil _ _ _ _) (Nat.le_refl _) (fun _ => rfl) (some ⟨bB, oB, none⟩) m d l rfl (HT_z.out.L.below he) (by simp) (by omega) (by omega) (by unfold maxLen; omega) ?_
          intro A2 c2 U9 FP2 hg2
          have hb : Below U8.heap.size U8 U9 := ⟨hg2.os, hg2.tape, hg2.output, hg2.size, fun k hk => hg2.block k hk (by simp [Value.ownBlock])⟩
          have hbase : U8.heap.size ≤ U8.heap.size := Nat.le_refl _
          have hheb := he.size
          obtain ⟨bS, oS, rfl, hbS, _⟩ := byte_at (k := .i64) (bs := [(1 : Int), (C : Int), (H : Int), (V : Int)]) FP1 (by omega)
          obtain ⟨g2, rfl⟩ := own_some FP2 (by omega)
          have hl2 := FP2.lt g2 rfl
          have hSg : bS ≠ g2 := by omega
          clear hg2
          have hax := FAL.lt
          replace FAL := FAL.kept hb
          replace FP1 := FP1.below hb
          replace he : Below V4.heap.size V4 U9 := below_nx6 he hb
          clear hb
          have hS4 : Hid (U9.cell? ⟨w.heap.size, 0, none⟩ = some (.slice (some ⟨bA, oA, none⟩) 3 c) ∧ U9.cell? ⟨w.heap.size, 1, none⟩ = some (.slice (some ⟨bB, oB, none⟩) m d)) := hide (⟨(HT_z.out.kept he).c0, (HT_z.out.kept he).c1⟩)
          refine hK _ _ hS4.out (fun _ => ?_)
          clear hK K hS3
          refine wpAnyU_take (i := 9) (oi := { dst := some 127, op := _, type := _, pos := _, after := _, guard := none }) (v := .agg #[.slice (some ⟨bS, oS, none⟩) (1 + 3) c1, .slice (some ⟨g2, 0, none⟩) m c2]) rfl (by kernel_rfl) (by kernel_rfl) (by kernel_rfl) (by kernel_rfl) (fun _ _ _ h => h) (yields_take rfl (fun w' hw => by obtain ⟨h1, h2⟩ := hw.const; go_simp)) hS4.out ?_
          simp only [Act.put, List.setIfInBounds_toArray, List.set_cons_zero, List.set_cons_succ]
          have r0 := FAL.c0
          have r1 := FAL.c1
          have rf0 := FAL.f0 0
          have rf1 := FAL.f0 1
          have hlx := FAL.lt
          have hpg : U1.heap.size ≠ g2 := by omega
          have hpS : bS ≠ U1.heap.size := box_ne_lies FAL (xs := [(1 : Int), (C : Int), (H : Int), (V : Int)]) FP1 (by omega)
          refine wpAnyU_one (i := 11) (by kernel_rfl) rfl ?_
          intro K hK
          go_simp
          have he2 : Below V4.heap.size V4 ((U9.setCell ⟨U1.heap.size, 0, none⟩ (.slice (some ⟨bS, oS, none⟩) (1 + 3) c1)).setCell ⟨U1.heap.size, 1, none⟩ (.slice (some ⟨g2, 0, none⟩) m c2)) := (he.setCell (by dsimp only; omega) _).setCell (by dsimp only; omega) _
          have hS5 : Hid (((U9.setCell ⟨U1.heap.size, 0, none⟩ (.slice (some ⟨bS, oS, none⟩) (1 + 3) c1)).setCell ⟨U1.heap.size, 1, none⟩ (.slice (some ⟨g2, 0, none⟩) m c2)).cell? ⟨w.heap.size, 0, none⟩ = some (.slice (some ⟨bA, oA, none⟩) 3 c) ∧ ((U9.setCell ⟨U1.heap.size, 0, none⟩ (.slice (some ⟨bS, oS, none⟩) (1 + 3) c1)).setCell ⟨U1.heap.size, 1, none⟩ (.slice (some ⟨g2, 0, none⟩) m c2)).cell? ⟨w.heap.size, 1, none⟩ = some (.slice (some ⟨bB, oB, none⟩) m d)) := hide (⟨(HT_z.out.kept he2).c0, (HT_z.out.kept he2).c1⟩)
          refine hK.out _ _ hS5.out (fun _ => ?_)
          clear hK K hS4
          refine wpAnyU_done (by kernel_rfl) ?_ _
          clear hS5
          have HB1 : Hid (BoxT ((U9.setCell ⟨U1.heap.size, 0, none⟩ (.slice (some ⟨bS, oS, none⟩) (1 + 3) c1)).setCell ⟨U1.heap.size, 1, none⟩ (.slice (some ⟨g2, 0, none⟩) m c2)) U1.heap.size (.slice (some ⟨bS, oS, none⟩) 4 c1) (.slice (some ⟨g2, 0, none⟩) m c2)) := hide (FAL.set2 _ _)
          have HB2 : Hid (Lies ((U9.setCell ⟨U1.heap.size, 0, none⟩ (.slice (some ⟨bS, oS, none⟩) (1 + 3) c1)).setCell ⟨U1.heap.size, 1, none⟩ (.slice (some ⟨g2, 0, none⟩) m c2)) (some ⟨bS, oS, none⟩) 4 (([(1 : Int), (C : Int), (H : Int), (V : Int)] : List Int).map (Value.int .i64))) := hide (lies_set8 FP1 (by intro b o e; cases e; exact hpS))
          have HB3 : Hid (((U9.setCell ⟨U1.heap.size, 0, none⟩ (.slice (some ⟨bS, oS, none⟩) (1 + 3) c1)).setCell ⟨U1.heap.size, 1, none⟩ (.slice (some ⟨g2, 0, none⟩) m c2)).ownsRow V4.heap.size 21 1 (.slice (some ⟨g2, 0, none⟩) m c2) m (l.map (Value.int .i32))) := hide (own_setCell' (own_setCell' (own_base (by simpa using FP2) (by omega)) (by dsimp only; omega) _) (by dsimp only; omega) _)
          have HE2 := hide he2
          clear FP1 FP2 FAL he he2 r0 r1 rf0 rf1
          go_wp2
          go_meet
          exact ⟨_, _, _, _, _, _, rfl, HB1, HB2, HB3, hide ⟨hSg, hpg⟩, HE2⟩
      · intro K hK
        go_simp
        obtain ⟨U10, hU⟩ : ∃ U, U = U0.alloc (.cells #[.slice none 0 0, .slice none 0 0] 25) := ⟨_, rfl⟩
        rw [← hU]
        have hb : Below U0.heap.size U0 U10 := by rw [hU]; exact below_al6 (Below.refl _ _)
        have FAL : BoxT U10 U0.heap.size (.slice none 0 0) (.slice none 0 0) := by rw [hU]; exact BoxT.new U0 _ _
        have hpx : V4.heap.size ≤ U0.heap.size := he.size
        clear hU
        replace he : Below V4.heap.size V4 U10 := below_nx6 he hb
        clear hb
        have hS1 : Hid (U10.cell? ⟨w.heap.size, 0, none⟩ = some (.slice (some ⟨bA, oA, none⟩) 3 c) ∧ U10.cell? ⟨w.heap.size, 1, none⟩ = some (.slice (some ⟨bB, oB, none⟩) m d)) := hide (⟨(HT_z.out.kept he).c0, (HT_z.out.kept he).c1⟩)
        refine hK _ _ hS1.out (fun _ => ?_)
        clear hK K hS0
        refine wpAnyU_one (i := 0) (by kernel_rfl) rfl ?_
        intro K hK
        go_simp
        obtain ⟨U11, hU⟩ : ∃ U, U = U10.alloc (.cells #[.int .i64 1] 3) := ⟨_, rfl⟩
        rw [← hU]
        have hb : Below U10.heap.size U10 U11 := by rw [hU]; exact below_al6 (Below.refl _ _)
        have FL0 : Lies U11 (some ⟨U10.heap.size, 0, none⟩) 1 (([1] : List Int).map (Value.int .i64)) := by rw [hU]; exact lit_lies U10 .i64 ([1] : List Int) 3
        clear hU
        replace FAL := FAL.kept hb
        replace he : Below V4.heap.size V4 U11 := below_nx6 he hb
        clear hb
        have hS2 : Hid (U11.cell? ⟨w.heap.size, 0, none⟩ = some (.slice (some ⟨bA, oA, none⟩) 3 c) ∧ U11.cell? ⟨w.heap.size, 1, none⟩ = some (.slice (some ⟨bB, oB, none⟩) m d)) := hide (⟨(HT_z.out.kept he).c0, (HT_z.out.kept he).c1⟩)
        refine hK _ _ hS2.out (fun _ => ?_)
        clear hK K hS1
        refine wpAnyU_one (i := 4) (by kernel_rfl) rfl ?_
        intro K hK
        refine step_append_full rfl (.tmp 118) (.tmp 121) 22 rfl 3 iI (.int .i64 0) 8 Try.underlying22 HiI.out.1 HiI.out.2.1 HiI.out.2.2.1 HiI.out.2.2.2 rfl (U10.heap.size) 0 1 (([1] : List Int).map (Value.int .i64)) rfl FL0 (some ⟨bA, oA, none⟩) 3 c (([(C : Int), (H : Int), (V : Int)] : List Int).map (Value.int .i64)) rfl (HT_z.out.S.below he) (by omega) (by unfold maxLen; omega) ?_
        intro A1 c1 U12 hc1 FP1 hb
        replace FAL := FAL.kept hb
        clear FL0
        replace he : Below V4.heap.size V4 U12 := below_nx6 he hb
        clear hb
        have hS3 : Hid (U12.cell? ⟨w.heap.size, 0, none⟩ = some (.slice (some ⟨bA, oA, none⟩) 3 c) ∧ U12.cell? ⟨w.heap.size, 1, none⟩ = some (.slice (some ⟨bB, oB, none⟩) m d)) := hide (⟨(HT_z.out.kept he).c0, (HT_z.out.kept he).c1⟩)
        refine hK _ _ hS3.out (fun _ => ?_)
        clear hK K hS2
        refine wpAnyU_one (i := 8) (by kernel_rfl) rfl ?_
        intro K hK
        refine step_append_ints8 rfl (.const (.slice none 0 0)) (.tmp 125) 23 rfl 21 iN (.int .i32 0) 4 Try.underlying23 HiN.out.1 HiN.out.2.1 HiN.out.2.2.1 HiN.out.2.2.2 rfl U12.heap.size none 0 0 m .i32 [] rfl (World.ownsRow_nil _ _ _ _) (Nat.le_refl _) (fun _ => rfl) (some ⟨bB, oB, none⟩) m d l rfl (HT_z.out.L.below he) (by simp) (by omega) (by omega) (by unfold maxLen; omega) ?_
        intro A2 c2 U13 FP2 hg2
        have hb : Below U12.heap.size U12 U13 := ⟨hg2.os, hg2.tape, hg2.output, hg2.size, fun k hk => hg2.block k hk (by simp [Value.ownBlock])⟩
        have hbase : U12.heap.size ≤ U12.heap.size := Nat.le_refl _
        have hheb := he.size
        obtain ⟨bS, oS, rfl, hbS, _⟩ := byte_at (k := .i64) (bs := [(1 : Int), (C : Int), (H : Int), (V : Int)]) FP1 (by omega)
        obtain ⟨g2, rfl⟩ := own_some FP2 (by omega)
        have hl2 := FP2.lt g2 rfl
        have hSg : bS ≠ g2 := by omega
        clear hg2
        have hax := FAL.lt
        replace FAL := FAL.kept hb
        replace FP1 := FP1.below hb
        replace he : Below V4.heap.size V4 U13 := below_nx6 he hb
        clear hb
        have hS4 : Hid (U13.cell? ⟨w.heap.size, 0, none⟩ = some (.slice (some ⟨bA, oA, none⟩) 3 c) ∧ U13.cell? ⟨w.heap.size, 1, none⟩ = some (.slice (some ⟨bB, oB, none⟩) m d)) := hide (⟨(HT_z.out.kept he).c0, (HT_z.out.kept he).c1⟩)
        refine hK _ _ hS4.out (fun _ => ?_)
        clear hK K hS3
        refine wpAnyU_take (i := 9) (oi := { dst := some 127, op := _, type := _, pos := _, after := _, guard := none }) (v := .agg #[.slice (some ⟨bS, oS, none⟩) (1 + 3) c1, .slice (some ⟨g2, 0, none⟩) m c2]) rfl (by kernel_rfl) (by kernel_rfl) (by kernel_rfl) (by kernel_rfl) (fun _ _ _ h => h) (yields_take rfl (fun w' hw => by obtain ⟨h1, h2⟩ := hw.const; go_simp)) hS4.out ?_
        simp only [Act.put, List.setIfInBounds_toArray, List.set_cons_zero, List.set_cons_succ]
        have r0 := FAL.c0
        have r1 := FAL.c1
        have rf0 := FAL.f0 0
        have rf1 := FAL.f0 1
        have hlx := FAL.lt
        have hpg : U0.heap.size ≠ g2 := by omega
        have hpS : bS ≠ U0.heap.size := box_ne_lies FAL (xs := [(1 : Int), (C : Int), (H : Int), (V : Int)]) FP1 (by omega)
        refine wpAnyU_one (i := 11) (by kernel_rfl) rfl ?_
        intro K hK
        go_simp
        have he2 : Below V4.heap.size V4 ((U13.setCell ⟨U0.heap.size, 0, none⟩ (.slice (some ⟨bS, oS, none⟩) (1 + 3) c1)).setCell ⟨U0.heap.size, 1, none⟩ (.slice (some ⟨g2, 0, none⟩) m c2)) := (he.setCell (by dsimp only; omega) _).setCell (by dsimp only; omega) _
        have hS5 : Hid (((U13.setCell ⟨U0.heap.size, 0, none⟩ (.slice (some ⟨bS, oS, none⟩) (1 + 3) c1)).setCell ⟨U0.heap.size, 1, none⟩ (.slice (some ⟨g2, 0, none⟩) m c2)).cell? ⟨w.heap.size, 0, none⟩ = some (.slice (some ⟨bA, oA, none⟩) 3 c) ∧ ((U13.setCell ⟨U0.heap.size, 0, none⟩ (.slice (some ⟨bS, oS, none⟩) (1 + 3) c1)).setCell ⟨U0.heap.size, 1, none⟩ (.slice (some ⟨g2, 0, none⟩) m c2)).cell? ⟨w.heap.size, 1, none⟩ = some (.slice (some ⟨bB, oB, none⟩) m d)) := hide (⟨(HT_z.out.kept he2).c0, (HT_z.out.kept he2).c1⟩)
        refine hK.out _ _ hS5.out (fun _ => ?_)
        clear hK K hS4
        refine wpAnyU_done (by kernel_rfl) ?_ _
        clear hS5
        have HB1 : Hid (BoxT ((U13.setCell ⟨U0.heap.size, 0, none⟩ (.slice (some ⟨bS, oS, none⟩) (1 + 3) c1)).setCell ⟨U0.heap.size, 1, none⟩ (.slice (some ⟨g2, 0, none⟩) m c2)) U0.heap.size (.slice (some ⟨bS, oS, none⟩) 4 c1) (.slice (some ⟨g2, 0, none⟩) m c2)) := hide (FAL.set2 _ _)
        have HB2 : Hid (Lies ((U13.setCell ⟨U0.heap.size, 0, none⟩ (.slice (some ⟨bS, oS, none⟩) (1 + 3) c1)).setCell ⟨U0.heap.size, 1, none⟩ (.slice (some ⟨g2, 0, none⟩) m c2)) (some ⟨bS, oS, none⟩) 4 (([(1 : Int), (C : Int), (H : Int), (V : Int)] : List Int).map (Value.int .i64))) := hide (lies_set8 FP1 (by intro b o e; cases e; exact hpS))
        have HB3 : Hid (((U13.setCell ⟨U0.heap.size, 0, none⟩ (.slice (some ⟨bS, oS, none⟩) (1 + 3) c1)).setCell ⟨U0.heap.size, 1, none⟩ (.slice (some ⟨g2, 0, none⟩) m c2)).ownsRow V4.heap.size 21 1 (.slice (some ⟨g2, 0, none⟩) m c2) m (l.map (Value.int .i32))) := hide (own_setCell' (own_setCell' (own_base (by simpa using FP2) (by omega)) (by dsimp only; omega) _) (by dsimp only; omega) _)
        have HE2 := hide he2
        clear FP1 FP2 FAL he he2 r0 r1 rf0 rf1
        go_wp2
        go_meet
        exact ⟨_, _, _, _, _, _, rfl, HB1, HB2, HB3, hide ⟨hSg, hpg⟩, HE2⟩
    case rest =>
      obtain ⟨px, bS, oS, c1, g2, c2, rfl, HB1, HB2, HB3, HNE, HE2⟩ := hcut
      obtain ⟨V5, hV5⟩ : ∃ W, W = wc := ⟨_, rfl⟩
      rw [← hV5] at HB1 HB2 HB3 HE2 ⊢
      clear hV5
      obtain ⟨ZS, hZS⟩ : ∃ z : List Int, z = xor8 l l' m m' := ⟨_, rfl⟩
      have hmW : 1 ≤ m' := by omega
      have HZL : Hid (ZS.length = l.length) := hide (by rw [hZS, xor8_len, HLL.out])
      have HZK : Hid (∀ k, k < m → ZS.getD k 0 = bits .xor .i32 (l.getD k 0) (l'.getD (k % m') 0)) := hide (fun k hk => by rw [hZS]; exact xor8_at hk)
      clear hZS
      replace HB3 : Hid (V5.ownsRow V4.heap.size 21 1 (.slice (some ⟨g2, 0, none⟩) m c2) m ((mix8 ZS l 0).map (Value.int .i32))) := hide (by rw [mix8_zero]; exact HB3.out)
      go_wp2
      go_loopw [7] (fun i wr => ∃ k : Nat, k ≤ m ∧ i = .int .i64 k ∧ Hid (BoxT wr px (.slice (some ⟨bS, oS, none⟩) 4 c1) (.slice (some ⟨g2, 0, none⟩) m c2)) ∧ Hid (Lies wr (some ⟨bS, oS, none⟩) 4 (([(1 : Int), (C : Int), (H : Int), (V : Int)] : List Int).map (Value.int .i64))) ∧ Hid (wr.ownsRow V4.heap.size 21 1 (.slice (some ⟨g2, 0, none⟩) m c2) m ((mix8 ZS l k).map (Value.int .i32))) ∧ Hid (Below V4.heap.size V4 wr)) (fun i _ => m - (intOf i).toNat)
      case atStart => exact ⟨0, Nat.zero_le _, rfl, HB1, HB2, HB3, HE2⟩
      case round =>
        obtain ⟨k, hk, rfl, HX, HS, HO, HE⟩ := hrel
        have hx1 := HX.out.c1
        by_cases hlt : k < m
        · have h0 : (0 : Int) ≤ (k : Int) := by omega
          have h3 : (k : Int) < (m : Int) := by omega
          obtain ⟨hg1, hf1⟩ := own_cells8 HO.out hlt
          rw [mix8_at (HZL.out) (by rw [HLL.out]; exact hlt)] at hg1
          obtain ⟨x, hx⟩ : ∃ x, x = l.getD k 0 := ⟨_, rfl⟩
          obtain ⟨r, hr⟩ : ∃ r, r = k % m' := ⟨_, rfl⟩
          have hrm : r < m' := by rw [hr]; exact Nat.mod_lt _ (by omega)
          obtain ⟨bW, oW, rfl, _, hy⟩ := byte_at (HT_z.out.kept (below_drewN HE.out 1)).L' (by omega)
          obtain ⟨y, hyy⟩ : ∃ y, y = l'.getD r 0 := ⟨_, rfl⟩
          obtain ⟨z, hz⟩ : ∃ z, z = bits .xor .i32 x y := ⟨_, rfl⟩
          have HV : Hid (ZS.getD k 0 = z) := hide (by rw [HZK.out k hlt, hz, hx, hyy, hr])
          rw [← hx] at hg1
          have hy2 := hy r hrm
          rw [← hyy] at hy2
          have m1 : (k : Int).tmod (m' : Int) = (r : Int) := by rw [hr]; rfl
          have m2 : IntKind.i64.wrap (r : Int) = (r : Int) := by rw [IntKind.wrap_i64]; omega
          have hi0 : (0 : Int) ≤ (r : Int) := by omega
          have hi1 : (r : Int) < (m' : Int) := by omega
          have hm0 : ¬ (m' : Int) = 0 := by omega
          have hm0' : ¬ m' = 0 := by omega
          have hz' := hz.symm
          clear hx hr hyy hz hy
          have hf2 : wr.drew.frozen? ⟨g2, k, none⟩ = false := hf1
          go_wp2
          have hS0 : Hid (wr.drew.cell? ⟨w.heap.size, 3, none⟩ = some (.slice (some ⟨bW, oW, none⟩) m' d') ∧ wr.drew.cell? ⟨px, 1, none⟩ = some (.slice (some ⟨g2, 0, none⟩) m c2) ∧ wr.drew.cell? ⟨g2, k, none⟩ = some (.int .i32 x) ∧ wr.drew.cell? ⟨bW, oW + r, none⟩ = some (.int .i32 y)) := hide (⟨(HT_z.out.kept (below_drewN HE.out 1)).c3, HX.out.c1, hg1, hy2⟩)
          refine wp_region_U (fun b v => b = false → v.cell? ⟨w.heap.size, 3, none⟩ = some (.slice (some ⟨bW, oW, none⟩) m' d') ∧ v.cell? ⟨px, 1, none⟩ = some (.slice (some ⟨g2, 0, none⟩) m c2) ∧ v.cell? ⟨g2, k, none⟩ = some (.int .i32 x) ∧ v.cell? ⟨bW, oW + r, none⟩ = some (.int .i32 y)) 21 (by kernel_rfl) ?_
          refine wpAnyU_take (i := 0) (oi := { dst := some 133, op := _, type := _, pos := _, after := _, guard := none }) (v := .pointer (some ⟨px, 1, none⟩)) rfl (by kernel_rfl) (by kernel_rfl) (by kernel_rfl) (by kernel_rfl) (fun _ _ _ h => h) (yields_take rfl (fun w' hw => by obtain ⟨h1, h2, h3, h4⟩ := hw.no (by kernel_rfl) rfl; go_simp)) (fun _ => hS0.out) ?_
          simp only [Act.put, List.setIfInBounds_toArray, List.set_cons_zero, List.set_cons_succ]
          refine wpAnyU_take (i := 1) (oi := { dst := some 134, op := _, type := _, pos := _, after := _, guard := none }) (v := .slice (some ⟨g2, 0, none⟩) m c2) rfl (by kernel_rfl) (by kernel_rfl) (by kernel_rfl) (by kernel_rfl) (fun _ _ _ h => h) (yields_take rfl (fun w' hw => by obtain ⟨h1, h2, h3, h4⟩ := hw.no (by kernel_rfl) rfl; go_simp)) (fun _ => hS0.out) ?_
          simp only [Act.put, List.setIfInBounds_toArray, List.set_cons_zero, List.set_cons_succ]
          refine wpAnyU_take (i := 2) (oi := { dst := some 135, op := _, type := _, pos := _, after := _, guard := none }) (v := .int .i64 (k : Int)) rfl (by kernel_rfl) (by kernel_rfl) (by kernel_rfl) (by kernel_rfl) (fun _ _ _ h => h) (yields_take rfl (fun w' hw => by obtain ⟨h1, h2, h3, h4⟩ := hw.no (by kernel_rfl) rfl; go_simp)) (fun _ => hS0.out) ?_
          simp only [Act.put, List.setIfInBounds_toArray, List.set_cons_zero, List.set_cons_succ]
          refine wpAnyU_take (i := 3) (oi := { dst := some 136, op := _, type := _, pos := _, after := _, guard := none }) (v := .pointer (some ⟨px, 1, none⟩)) rfl (by kernel_rfl) (by kernel_rfl) (by kernel_rfl) (by kernel_rfl) (fun _ _ _ h => h) (yields_take rfl (fun w' hw => by obtain ⟨h1, h2, h3, h4⟩ := hw.no (by kernel_rfl) rfl; go_simp)) (fun _ => hS0.out) ?_
          simp only [Act.put, List.setIfInBounds_toArray, List.set_cons_zero, List.set_cons_succ]
          refine wpAnyU_take (i := 4) (oi := { dst := some 137, op := _, type := _, pos := _, after := _, guard := none }) (v := .slice (some ⟨g2, 0, none⟩) m c2) rfl (by kernel_rfl) (by kernel_rfl) (by kernel_rfl) (by kernel_rfl) (fun _ _ _ h => h) (yields_take rfl (fun w' hw => by obtain ⟨h1, h2, h3, h4⟩ := hw.no (by kernel_rfl) rfl; go_simp)) (fun _ => hS0.out) ?_
          simp only [Act.put, List.setIfInBounds_toArray, List.set_cons_zero, List.set_cons_succ]
          refine wpAnyU_take (i := 5) (oi := { dst := some 138, op := _, type := _, pos := _, after := _, guard := none }) (v := .int .i64 (k : Int)) rfl (by kernel_rfl) (by kernel_rfl) (by kernel_rfl) (by kernel_rfl) (fun _ _ _ h => h) (yields_take rfl (fun w' hw => by obtain ⟨h1, h2, h3, h4⟩ := hw.no (by kernel_rfl) rfl; go_simp)) (fun _ => hS0.out) ?_
          simp only [Act.put, List.setIfInBounds_toArray, List.set_cons_zero, List.set_cons_succ]
          refine wpAnyU_take (i := 6) (oi := { dst := some 139, op := _, type := _, pos := _, after := _, guard := none }) (v := .pointer (some ⟨g2, k, none⟩)) rfl (by kernel_rfl) (by kernel_rfl) (by kernel_rfl) (by kernel_rfl) (fun _ _ _ h => h) (yields_take rfl (fun w' hw => by obtain ⟨h1, h2, h3, h4⟩ := hw.no (by kernel_rfl) rfl; go_simp)) (fun _ => hS0.out) ?_
          simp only [Act.put, List.setIfInBounds_toArray, List.set_cons_zero, List.set_cons_succ]
          refine wpAnyU_take (i := 7) (oi := { dst := some 140, op := _, type := _, pos := _, after := _, guard := none }) (v := .int .i32 x) rfl (by kernel_rfl) (by kernel_rfl) (by kernel_rfl) (by kernel_rfl) (fun _ _ _ h => h) (yields_take rfl (fun w' hw => by obtain ⟨h1, h2, h3, h4⟩ := hw.no (by kernel_rfl) rfl; go_simp)) (fun _ => hS0.out) ?_
          simp only [Act.put, List.setIfInBounds_toArray, List.set_cons_zero, List.set_cons_succ]
          refine wpAnyU_take (i := 8) (oi := { dst := some 141, op := _, type := _, pos := _, after := _, guard := none }) (v := .pointer (some ⟨w.heap.size, 2, none⟩)) rfl (by kernel_rfl) (by kernel_rfl) (by kernel_rfl) (by kernel_rfl) (fun _ _ _ h => h) (yields_take rfl (fun w' hw => by obtain ⟨h1, h2, h3, h4⟩ := hw.no (by kernel_rfl) rfl; go_simp)) (fun _ => hS0.out) ?_
          simp only [Act.put, List.setIfInBounds_toArray, List.set_cons_zero, List.set_cons_succ]
          refine wpAnyU_take (i := 9) (oi := { dst := some 142, op := _, type := _, pos := _, after := _, guard := none }) (v := .pointer (some ⟨w.heap.size, 3, none⟩)) rfl (by kernel_rfl) (by kernel_rfl) (by kernel_rfl) (by kernel_rfl) (fun _ _ _ h => h) (yields_take rfl (fun w' hw => by obtain ⟨h1, h2, h3, h4⟩ := hw.no (by kernel_rfl) rfl; go_simp)) (fun _ => hS0.out) ?_
          simp only [Act.put, List.setIfInBounds_toArray, List.set_cons_zero, List.set_cons_succ]
          refine wpAnyU_take (i := 10) (oi := { dst := some 143, op := _, type := _, pos := _, after := _, guard := none }) (v := .slice (some ⟨bW, oW, none⟩) m' d') rfl (by kernel_rfl) (by kernel_rfl) (by kernel_rfl) (by kernel_rfl) (fun _ _ _ h => h) (yields_take rfl (fun w' hw => by obtain ⟨h1, h2, h3, h4⟩ := hw.no (by kernel_rfl) rfl; go_simp)) (fun _ => hS0.out) ?_
          simp only [Act.put, List.setIfInBounds_toArray, List.set_cons_zero, List.set_cons_succ]
          refine wpAnyU_take (i := 11) (oi := { dst := some 144, op := _, type := _, pos := _, after := _, guard := none }) (v := .int .i64 (k : Int)) rfl (by kernel_rfl) (by kernel_rfl) (by kernel_rfl) (by kernel_rfl) (fun _ _ _ h => h) (yields_take rfl (fun w' hw => by obtain ⟨h1, h2, h3, h4⟩ := hw.no (by kernel_rfl) rfl; go_simp)) (fun _ => hS0.out) ?_
          simp only [Act.put, List.setIfInBounds_toArray, List.set_cons_zero, List.set_cons_succ]
          refine wpAnyU_take (i := 12) (oi := { dst := some 145, op := _, type := _, pos := _, after := _, guard := none }) (v := .pointer (some ⟨w.heap.size, 2, none⟩)) rfl (by kernel_rfl) (by kernel_rfl) (by kernel_rfl) (by kernel_rfl) (fun _ _ _ h => h) (yields_take rfl (fun w' hw => by obtain ⟨h1, h2, h3, h4⟩ := hw.no (by kernel_rfl) rfl; go_simp)) (fun _ => hS0.out) ?_
          simp only [Act.put, List.setIfInBounds_toArray, List.set_cons_zero, List.set_cons_succ]
          refine wpAnyU_take (i := 13) (oi := { dst := some 146, op := _, type := _, pos := _, after := _, guard := none }) (v := .pointer (some ⟨w.heap.size, 3, none⟩)) rfl (by kernel_rfl) (by kernel_rfl) (by kernel_rfl) (by kernel_rfl) (fun _ _ _ h => h) (yields_take rfl (fun w' hw => by obtain ⟨h1, h2, h3, h4⟩ := hw.no (by kernel_rfl) rfl; go_simp)) (fun _ => hS0.out) ?_
          simp only [Act.put, List.setIfInBounds_toArray, List.set_cons_zero, List.set_cons_succ]
          refine wpAnyU_take (i := 14) (oi := { dst := some 147, op := _, type := _, pos := _, after := _, guard := none }) (v := .slice (some ⟨bW, oW, none⟩) m' d') rfl (by kernel_rfl) (by kernel_rfl) (by kernel_rfl) (by kernel_rfl) (fun _ _ _ h => h) (yields_take rfl (fun w' hw => by obtain ⟨h1, h2, h3, h4⟩ := hw.no (by kernel_rfl) rfl; go_simp)) (fun _ => hS0.out) ?_
          simp only [Act.put, List.setIfInBounds_toArray, List.set_cons_zero, List.set_cons_succ]
          refine wpAnyU_take (i := 15) (oi := { dst := some 148, op := _, type := _, pos := _, after := _, guard := none }) (v := .int .i64 (m' : Int)) rfl (by kernel_rfl) (by kernel_rfl) (by kernel_rfl) (by kernel_rfl) (fun _ _ _ h => h) (yields_take rfl (fun w' hw => by obtain ⟨h1, h2, h3, h4⟩ := hw.no (by kernel_rfl) rfl; go_simp)) (fun _ => hS0.out) ?_
          simp only [Act.put, List.setIfInBounds_toArray, List.set_cons_zero, List.set_cons_succ]
          refine wpAnyU_take (i := 16) (oi := { dst := some 149, op := _, type := _, pos := _, after := _, guard := none }) (v := .int .i64 (r : Int)) rfl (by kernel_rfl) (by kernel_rfl) (by kernel_rfl) (by kernel_rfl) (fun _ _ _ h => h) (yields_take rfl (fun w' hw => by obtain ⟨h1, h2, h3, h4⟩ := hw.no (by kernel_rfl) rfl; go_simp)) (fun _ => hS0.out) ?_
          simp only [Act.put, List.setIfInBounds_toArray, List.set_cons_zero, List.set_cons_succ]
          refine wpAnyU_take (i := 17) (oi := { dst := some 150, op := _, type := _, pos := _, after := _, guard := none }) (v := .pointer (some ⟨bW, oW + r, none⟩)) rfl (by kernel_rfl) (by kernel_rfl) (by kernel_rfl) (by kernel_rfl) (fun _ _ _ h => h) (yields_take rfl (fun w' hw => by obtain ⟨h1, h2, h3, h4⟩ := hw.no (by kernel_rfl) rfl; go_simp)) (fun _ => hS0.out) ?_
          simp only [Act.put, List.setIfInBounds_toArray, List.set_cons_zero, List.set_cons_succ]
          refine wpAnyU_take (i := 18) (oi := { dst := some 151, op := _, type := _, pos := _, after := _, guard := none }) (v := .int .i32 y) rfl (by kernel_rfl) (by kernel_rfl) (by kernel_rfl) (by kernel_rfl) (fun _ _ _ h => h) (yields_take rfl (fun w' hw => by obtain ⟨h1, h2, h3, h4⟩ := hw.no (by kernel_rfl) rfl; go_simp)) (fun _ => hS0.out) ?_
          simp only [Act.put, List.setIfInBounds_toArray, List.set_cons_zero, List.set_cons_succ]
          refine wpAnyU_take (i := 19) (oi := { dst := some 152, op := _, type := _, pos := _, after := _, guard := none }) (v := .int .i32 z) rfl (by kernel_rfl) (by kernel_rfl) (by kernel_rfl) (by kernel_rfl) (fun _ _ _ h => h) (yields_take rfl (fun w' hw => by obtain ⟨h1, h2, h3, h4⟩ := hw.no (by kernel_rfl) rfl; go_simp)) (fun _ => hS0.out) ?_
          simp only [Act.put, List.setIfInBounds_toArray, List.set_cons_zero, List.set_cons_succ]
          refine wpAnyU_take (i := 20) (oi := { dst := some 153, op := _, type := _, pos := _, after := _, guard := none }) (v := .pointer (some ⟨g2, k, none⟩)) rfl (by kernel_rfl) (by kernel_rfl) (by kernel_rfl) (by kernel_rfl) (fun _ _ _ h => h) (yields_take rfl (fun w' hw => by obtain ⟨h1, h2, h3, h4⟩ := hw.no (by kernel_rfl) rfl; go_simp)) (fun _ => hS0.out) ?_
          simp only [Act.put, List.setIfInBounds_toArray, List.set_cons_zero, List.set_cons_succ]
          refine wpAnyU_one (i := 21) (by kernel_rfl) rfl ?_
          intro K hK
          go_simp
          refine hK _ _ (fun h => by cases h) (fun _ => ?_)
          clear hK K
          refine wpAnyU_done (by kernel_rfl) ?_ _
          clear hS0
          have HO2 : Hid ((wr.drew.setCell ⟨g2, k, none⟩ (.int .i32 z)).ownsRow V4.heap.size 21 1 (.slice (some ⟨g2, 0, none⟩) m c2) m ((mix8 ZS l (k + 1)).map (Value.int .i32))) := hide (by
            have h := own_set8 (v := .int .i32 z) (own_below HO.out (below_drewN (Below.refl _ _) 1)) hlt
            have e : ((mix8 ZS l k).map (Value.int .i32)).set k (.int .i32 z) = (mix8 ZS l (k + 1)).map (Value.int .i32) := by
              rw [← List.map_set, ← HV.out, mix8_set HZL.out (by rw [HLL.out]; exact hlt)]
            rwa [e] at h)
          have HX2 : Hid (BoxT (wr.drew.setCell ⟨g2, k, none⟩ (.int .i32 z)) px (.slice (some ⟨bS, oS, none⟩) 4 c1) (.slice (some ⟨g2, 0, none⟩) m c2)) := hide ((Below.heap_setCell _ _ _ _ (by dsimp only; exact HNE.out.2)).trans HX.out)
          have HS2 : Hid (Lies (wr.drew.setCell ⟨g2, k, none⟩ (.int .i32 z)) (some ⟨bS, oS, none⟩) 4 (([(1 : Int), (C : Int), (H : Int), (V : Int)] : List Int).map (Value.int .i64))) := hide (HS.out.keep (by simp) (fun b o e hb j => by cases e; exact World.cell?_of_block (Below.heap_setCell _ _ _ _ (by dsimp only; exact HNE.out.1))))
          have HE3 : Hid (Below V4.heap.size V4 (wr.drew.setCell ⟨g2, k, none⟩ (.int .i32 z))) := hide ((below_drewN HE.out 1).setCell (by dsimp only; exact own_ge8 HO.out) _)
          clear hf1 hf2 hg1 hy2
          go_wp2
          go_roundw
          case rel => exact ⟨k + 1, by omega, by go_num, HX2, HS2, HO2, HE3⟩
          case measure => simp [intOf]; omega
        · obtain rfl : m = k := by omega
          have hmix : mix8 ZS l m = ZS := by rw [← HLL.out]; exact mix8_all HZL.out
          have HOZ : Hid (wr.ownsRow V4.heap.size 21 1 (.slice (some ⟨g2, 0, none⟩) m c2) m ((ZS).map (Value.int .i32))) := hide (by rw [← hmix]; exact HO.out)
          have HT_o : Hid (TenAt wr px (some ⟨bS, oS, none⟩) (some ⟨g2, 0, none⟩) 4 c1 m c2 [(1 : Int), (C : Int), (H : Int), (V : Int)] ZS) := hide ⟨HX.out, HS.out, lies_of_own HOZ.out⟩
          have hb := HE.out
          clear hmix
          replace HT_z := hide (HT_z.out.kept hb)
          replace HBW := hide (HBW.out.trans (hb.mono HBW.out.size))
          clear hb hx1 HX HS HO HB1 HB2 HB3 HE2 HE
          have hcm : C * (H * V) = m := by rw [← Nat.mul_assoc]; exact HM3.out.symm
          have hcon := wof_ok (some ⟨bA, oA, none⟩) (some ⟨bB, oB, none⟩) (some ⟨bS, oS, none⟩) (some ⟨g2, 0, none⟩) c m d c1 m c2 C H V 1 H V 1 1 3 0 l ZS wr HT_z.out.S HT_z.out.L HT_o.out.S HT_o.out.L HOK.out (ten_whole8 HOK.out) (own_cap HOZ.out) (shp_whole8 HOK.out).1 (shp_whole8 HOK.out).2
          rw [win_full l ZS (by omega) (by omega), hcm] at hcon
          simp only [Nat.mul_one] at hcon
          clear hcm HOZ
          obtain ⟨D, hD⟩ : ∃ D, D = dot8 ZS l m := ⟨_, rfl⟩
          rw [← hD] at hcon
          have HD := hide hD
          clear hD
          have cxz0 := HT_z.out.c0
          have cxz1 := HT_z.out.c1
          have cxz2 := HT_z.out.c2
          have cxz3 := HT_z.out.c3
          have cxz4 := HT_z.out.c4
          have cxz5 := HT_z.out.c5
          have cxz6 := HT_z.out.c6
          have cxo0 := HT_o.out.c0
          have cxo1 := HT_o.out.c1
          go_wp2_with fail
          refine Calls.mono (hcon) ?_
          rintro e u14 ⟨g1y, c1y, g2y, rfl, ho1, ho2, _, hb0⟩
          obtain ⟨V15, hV15⟩ : ∃ W, W = u14.alloc (.cells #[.slice (some ⟨g1y, 0, none⟩) 3 c1y, .slice (some ⟨g2y, 0, none⟩) 1 1] 25) := ⟨_, rfl⟩
          have HT_y : Hid (TenAt V15 u14.heap.size (some ⟨g1y, 0, none⟩) (some ⟨g2y, 0, none⟩) 3 c1y 1 1 [((1 : Nat) : Int), ((1 : Nat) : Int), ((1 : Nat) : Int)] [D]) := hide (by rw [hV15]; exact TenAt.made ho1 ho2)
          have hb : Below wr.heap.size wr V15 := by rw [hV15]; exact below_al6 hb0
          replace HT_z := hide (HT_z.out.kept hb)
          replace HT_o := hide (HT_o.out.kept hb)
          replace HBW := hide (HBW.out.trans (hb.mono HBW.out.size))
          have hV15' := hV15.symm
          clear cxz0 cxz1 cxz2 cxz3 cxz4 cxz5 cxz6 cxo0 cxo1 hV15 hb hb0 ho1 ho2
          have hlt_y := HT_y.out.1.lt
          clear hcon
          have cxz0 := HT_z.out.c0
          have cxz1 := HT_z.out.c1
          have cxz2 := HT_z.out.c2
          have cxz3 := HT_z.out.c3
          have cxz4 := HT_z.out.c4
          have cxz5 := HT_z.out.c5
          have cxz6 := HT_z.out.c6
          have cxo0 := HT_o.out.c0
          have cxo1 := HT_o.out.c1
          go_wp2
          clear cxz0 cxz1 cxz2 cxz3 cxz4 cxz5 cxz6 cxo0 cxo1
          go_loopw [10, 11] (fun x i wr => ∃ k : Nat, k ≤ m ∧ i = .int .i64 k ∧ x = .int .i32 (dot8 ZS l k) ∧ Hid (Below V15.heap.size V15 wr)) (fun _ i _ => m - (intOf i).toNat)
          case atStart => exact ⟨0, Nat.zero_le _, rfl, rfl, hide (Below.refl _ _)⟩
          case round =>
            obtain ⟨k, hk, rfl, rfl, HF⟩ := hrel
            by_cases hlt : k < m
            · have h0 : (0 : Int) ≤ (k : Int) := by omega
              have h3 : (k : Int) < (m : Int) := by omega
              have he : Below V15.heap.size V15 wr.drew := below_drewN HF.out 1
              obtain ⟨_, _, e1, _, hx⟩ := byte_at (HT_o.out.kept he).L (by omega)
              cases e1
              obtain ⟨_, _, e2, _, hy⟩ := byte_at (HT_z.out.kept he).L (by omega)
              cases e2
              obtain ⟨x, hxx⟩ : ∃ x, x = ZS.getD k 0 := ⟨_, rfl⟩
              obtain ⟨y, hyy⟩ : ∃ y, y = l.getD k 0 := ⟨_, rfl⟩
              obtain ⟨S0, hS⟩ : ∃ z, z = dot8 ZS l k := ⟨_, rfl⟩
              obtain ⟨p, hp⟩ : ∃ z, z = mul32 x y := ⟨_, rfl⟩
              obtain ⟨q, hq⟩ : ∃ z, z = add32 S0 p := ⟨_, rfl⟩
              have HQ : Hid (q = dot8 ZS l (k + 1)) := hide (by rw [dot8, hq, hp, hS, hxx, hyy])
              have hg1 := hx k hlt
              have hy2 := hy k hlt
              rw [Nat.zero_add, ← hxx] at hg1
              rw [← hyy] at hy2
              have m1 : IntKind.i32.wrap (x * y) = p := by rw [hp, mul32, wrap32, IntKind.wrap_i32]
              have m2 : IntKind.i32.wrap (S0 + p) = q := by rw [hq, add32, wrap32, IntKind.wrap_i32]
              rw [← hS]
              clear hx hy hxx hyy hp hq hS
              go_wp2
              have hS0 : Hid (wr.drew.cell? ⟨w.heap.size, 0, none⟩ = some (.slice (some ⟨bA, oA, none⟩) 3 c) ∧ wr.drew.cell? ⟨w.heap.size, 1, none⟩ = some (.slice (some ⟨bB, oB, none⟩) m d) ∧ wr.drew.cell? ⟨px, 1, none⟩ = some (.slice (some ⟨g2, 0, none⟩) m c2) ∧ wr.drew.cell? ⟨g2, k, none⟩ = some (.int .i32 x) ∧ wr.drew.cell? ⟨bB, oB + k, none⟩ = some (.int .i32 y)) := hide (⟨(HT_z.out.kept he).c0, (HT_z.out.kept he).c1, (HT_o.out.kept he).c1, hg1, hy2⟩)
              refine wp_region_U (fun _ v => v.cell? ⟨w.heap.size, 0, none⟩ = some (.slice (some ⟨bA, oA, none⟩) 3 c) ∧ v.cell? ⟨w.heap.size, 1, none⟩ = some (.slice (some ⟨bB, oB, none⟩) m d) ∧ v.cell? ⟨px, 1, none⟩ = some (.slice (some ⟨g2, 0, none⟩) m c2) ∧ v.cell? ⟨g2, k, none⟩ = some (.int .i32 x) ∧ v.cell? ⟨bB, oB + k, none⟩ = some (.int .i32 y)) 99 (by kernel_rfl) ?_
              refine wpAnyU_take (i := 0) (oi := { dst := some 166, op := _, type := _, pos := _, after := _, guard := none }) (v := .int .i32 S0) rfl (by kernel_rfl) (by kernel_rfl) (by kernel_rfl) (by kernel_rfl) (fun _ _ _ h => h) (yields_take rfl (fun w' hw => by obtain ⟨h1, h2, h3, h4, h5⟩ := hw.const; go_simp)) hS0.out ?_
              simp only [Act.put, List.setIfInBounds_toArray, List.set_cons_zero, List.set_cons_succ]
              refine wpAnyU_take (i := 1) (oi := { dst := some 167, op := _, type := _, pos := _, after := _, guard := none }) (v := .pointer (some ⟨px, 1, none⟩)) rfl (by kernel_rfl) (by kernel_rfl) (by kernel_rfl) (by kernel_rfl) (fun _ _ _ h => h) (yields_take rfl (fun w' hw => by obtain ⟨h1, h2, h3, h4, h5⟩ := hw.const; go_simp)) hS0.out ?_
              simp only [Act.put, List.setIfInBounds_toArray, List.set_cons_zero, List.set_cons_succ]
              refine wpAnyU_take (i := 2) (oi := { dst := some 168, op := _, type := _, pos := _, after := _, guard := none }) (v := .slice (some ⟨g2, 0, none⟩) m c2) rfl (by kernel_rfl) (by kernel_rfl) (by kernel_rfl) (by kernel_rfl) (fun _ _ _ h => h) (yields_take rfl (fun w' hw => by obtain ⟨h1, h2, h3, h4, h5⟩ := hw.const; go_simp)) hS0.out ?_
              simp only [Act.put, List.setIfInBounds_toArray, List.set_cons_zero, List.set_cons_succ]
              refine wpAnyU_take (i := 3) (oi := { dst := some 169, op := _, type := _, pos := _, after := _, guard := none }) (v := .int .i64 (k : Int)) rfl (by kernel_rfl) (by kernel_rfl) (by kernel_rfl) (by kernel_rfl) (fun _ _ _ h => h) (yields_take rfl (fun w' hw => by obtain ⟨h1, h2, h3, h4, h5⟩ := hw.const; go_simp)) hS0.out ?_
              simp only [Act.put, List.setIfInBounds_toArray, List.set_cons_zero, List.set_cons_succ]
              refine wpAnyU_take (i := 4) (oi := { dst := some 170, op := _, type := _, pos := _, after := _, guard := none }) (v := .pointer (some ⟨g2, k, none⟩)) rfl (by kernel_rfl) (by kernel_rfl) (by kernel_rfl) (by kernel_rfl) (fun _ _ _ h => h) (yields_take rfl (fun w' hw => by obtain ⟨h1, h2, h3, h4, h5⟩ := hw.const; go_simp)) hS0.out ?_
              simp only [Act.put, List.setIfInBounds_toArray, List.set_cons_zero, List.set_cons_succ]
              refine wpAnyU_take (i := 5) (oi := { dst := some 171, op := _, type := _, pos := _, after := _, guard := none }) (v := .int .i32 x) rfl (by kernel_rfl) (by kernel_rfl) (by kernel_rfl) (by kernel_rfl) (fun _ _ _ h => h) (yields_take rfl (fun w' hw => by obtain ⟨h1, h2, h3, h4, h5⟩ := hw.const; go_simp)) hS0.out ?_
              simp only [Act.put, List.setIfInBounds_toArray, List.set_cons_zero, List.set_cons_succ]
              refine wpAnyU_take (i := 6) (oi := { dst := some 172, op := _, type := _, pos := _, after := _, guard := none }) (v := .pointer (some ⟨w.heap.size, 0, none⟩)) rfl (by kernel_rfl) (by kernel_rfl) (by kernel_rfl) (by kernel_rfl) (fun _ _ _ h => h) (yields_take rfl (fun w' hw => by obtain ⟨h1, h2, h3, h4, h5⟩ := hw.const; go_simp)) hS0.out ?_
              simp only [Act.put, List.setIfInBounds_toArray, List.set_cons_zero, List.set_cons_succ]
              refine wpAnyU_take (i := 7) (oi := { dst := some 173, op := _, type := _, pos := _, after := _, guard := none }) (v := .pointer (some ⟨w.heap.size, 1, none⟩)) rfl (by kernel_rfl) (by kernel_rfl) (by kernel_rfl) (by kernel_rfl) (fun _ _ _ h => h) (yields_take rfl (fun w' hw => by obtain ⟨h1, h2, h3, h4, h5⟩ := hw.const; go_simp)) hS0.out ?_
              simp only [Act.put, List.setIfInBounds_toArray, List.set_cons_zero, List.set_cons_succ]
              refine wpAnyU_take (i := 8) (oi := { dst := some 174, op := _, type := _, pos := _, after := _, guard := none }) (v := .slice (some ⟨bB, oB, none⟩) m d) rfl (by kernel_rfl) (by kernel_rfl) (by kernel_rfl) (by kernel_rfl) (fun _ _ _ h => h) (yields_take rfl (fun w' hw => by obtain ⟨h1, h2, h3, h4, h5⟩ := hw.const; go_simp)) hS0.out ?_
              simp only [Act.put, List.setIfInBounds_toArray, List.set_cons_zero, List.set_cons_succ]
              refine wpAnyU_take (i := 9) (oi := { dst := some 175, op := _, type := _, pos := _, after := _, guard := none }) (v := .int .i64 (k : Int)) rfl (by kernel_rfl) (by kernel_rfl) (by kernel_rfl) (by kernel_rfl) (fun _ _ _ h => h) (yields_take rfl (fun w' hw => by obtain ⟨h1, h2, h3, h4, h5⟩ := hw.const; go_simp)) hS0.out ?_
              simp only [Act.put, List.setIfInBounds_toArray, List.set_cons_zero, List.set_cons_succ]
              refine wpAnyU_take (i := 10) (oi := { dst := some 176, op := _, type := _, pos := _, after := _, guard := none }) (v := .pointer (some ⟨bB, oB + k, none⟩)) rfl (by kernel_rfl) (by kernel_rfl) (by kernel_rfl) (by kernel_rfl) (fun _ _ _ h => h) (yields_take rfl (fun w' hw => by obtain ⟨h1, h2, h3, h4, h5⟩ := hw.const; go_simp)) hS0.out ?_
              simp only [Act.put, List.setIfInBounds_toArray, List.set_cons_zero, List.set_cons_succ]
              refine wpAnyU_take (i := 11) (oi := { dst := some 177, op := _, type := _, pos := _, after := _, guard := none }) (v := .int .i32 y) rfl (by kernel_rfl) (by kernel_rfl) (by kernel_rfl) (by kernel_rfl) (fun _ _ _ h => h) (yields_take rfl (fun w' hw => by obtain ⟨h1, h2, h3, h4, h5⟩ := hw.const; go_simp)) hS0.out ?_
              simp only [Act.put, List.setIfInBounds_toArray, List.set_cons_zero, List.set_cons_succ]
              refine wpAnyU_take (i := 12) (oi := { dst := some 178, op := _, type := _, pos := _, after := _, guard := none }) (v := .int .i32 p) rfl (by kernel_rfl) (by kernel_rfl) (by kernel_rfl) (by kernel_rfl) (fun _ _ _ h => h) (yields_take rfl (fun w' hw => by obtain ⟨h1, h2, h3, h4, h5⟩ := hw.const; go_simp)) hS0.out ?_
              simp only [Act.put, List.setIfInBounds_toArray, List.set_cons_zero, List.set_cons_succ]
              refine wpAnyU_take (i := 13) (oi := { dst := some 179, op := _, type := _, pos := _, after := _, guard := none }) (v := .int .i32 q) rfl (by kernel_rfl) (by kernel_rfl) (by kernel_rfl) (by kernel_rfl) (fun _ _ _ h => h) (yields_take rfl (fun w' hw => by obtain ⟨h1, h2, h3, h4, h5⟩ := hw.const; go_simp)) hS0.out ?_
              simp only [Act.put, List.setIfInBounds_toArray, List.set_cons_zero, List.set_cons_succ]
              refine wpAnyU_take (i := 14) (oi := { dst := some 10, op := _, type := _, pos := _, after := _, guard := none }) (v := .int .i32 q) rfl (by kernel_rfl) (by kernel_rfl) (by kernel_rfl) (by kernel_rfl) (fun _ _ _ h => h) (yields_take rfl (fun w' hw => by obtain ⟨h1, h2, h3, h4, h5⟩ := hw.const; go_simp)) hS0.out ?_
              simp only [Act.put, List.setIfInBounds_toArray, List.set_cons_zero, List.set_cons_succ]
              refine wpAnyU_done (by kernel_rfl) ?_ _
              clear hS0
              have HFE := hide he
              clear he hg1 hy2
              go_wp2
              go_roundw
              case rel => exact ⟨k + 1, by omega, by go_num, by rw [HQ.out], HFE⟩
              case measure => simp [intOf]; omega
            · obtain rfl : m = k := by omega
              rw [← HD.out]
              have hb := HF.out
              replace HT_z := hide (HT_z.out.kept hb)
              replace HT_o := hide (HT_o.out.kept hb)
              replace HT_y := hide (HT_y.out.kept hb)
              replace HBW := hide (HBW.out.trans (hb.mono HBW.out.size))
              clear hb
              have HC : Hid (∀ v, Below wr.heap.size wr v → v.cell? ⟨u14.heap.size, 0, none⟩ = some (.slice (some ⟨g1y, 0, none⟩) 3 c1y) ∧ v.cell? ⟨u14.heap.size, 1, none⟩ = some (.slice (some ⟨g2y, 0, none⟩) 1 1)) := hide (fun v hv => ⟨(HT_y.out.kept hv).c0, (HT_y.out.kept hv).c1⟩)
              have hd0 : Below wr.heap.size wr wr.drew := below_drewN (Below.refl _ _) 1
              go_wp2
              have hS0 : Hid (wr.drew.cell? ⟨u14.heap.size, 0, none⟩ = some (.slice (some ⟨g1y, 0, none⟩) 3 c1y) ∧ wr.drew.cell? ⟨u14.heap.size, 1, none⟩ = some (.slice (some ⟨g2y, 0, none⟩) 1 1)) := hide (HC.out _ hd0)
              refine wp_region_U (fun _ v => v.cell? ⟨u14.heap.size, 0, none⟩ = some (.slice (some ⟨g1y, 0, none⟩) 3 c1y) ∧ v.cell? ⟨u14.heap.size, 1, none⟩ = some (.slice (some ⟨g2y, 0, none⟩) 1 1)) 99 (by kernel_rfl) ?_
              refine wpAnyU_take (i := 0) (oi := { dst := some 180, op := _, type := _, pos := _, after := _, guard := none }) (v := .int .i64 (0 : Int)) rfl (by kernel_rfl) (by kernel_rfl) (by kernel_rfl) (by kernel_rfl) (fun _ _ _ h => h) (yields_take rfl (fun w' hw => by obtain ⟨h1, h2⟩ := hw.const; go_simp)) hS0.out ?_
              simp only [Act.put, List.setIfInBounds_toArray, List.set_cons_zero, List.set_cons_succ]
              refine wpAnyU_take (i := 1) (oi := { dst := some 181, op := _, type := _, pos := _, after := _, guard := none }) (v := .bool true) rfl (by kernel_rfl) (by kernel_rfl) (by kernel_rfl) (by kernel_rfl) (fun _ _ _ h => h) (yields_take rfl (fun w' hw => by obtain ⟨h1, h2⟩ := hw.const; go_simp)) hS0.out ?_
              simp only [Act.put, List.setIfInBounds_toArray, List.set_cons_zero, List.set_cons_succ]
              refine wpAnyU_take (i := 2) (oi := { dst := some 182, op := _, type := _, pos := _, after := _, guard := none }) (v := .bool true) rfl (by kernel_rfl) (by kernel_rfl) (by kernel_rfl) (by kernel_rfl) (fun _ _ _ h => h) (yields_take rfl (fun w' hw => by obtain ⟨h1, h2⟩ := hw.const; go_simp)) hS0.out ?_
              simp only [Act.put, List.setIfInBounds_toArray, List.set_cons_zero, List.set_cons_succ]
              refine wpAnyU_take (i := 3) (oi := { dst := some 183, op := _, type := _, pos := _, after := _, guard := some (2, true) }) (v := .agg #[.slice (some ⟨g1y, 0, none⟩) 3 c1y, .slice (some ⟨g2y, 0, none⟩) 1 1]) rfl (by kernel_rfl) (by kernel_rfl) (by kernel_rfl) (by kernel_rfl) (fun _ _ _ h => h) (yields_take rfl (fun w' hw => by obtain ⟨h1, h2⟩ := hw.const; go_simp)) hS0.out ?_
              simp only [Act.put, List.setIfInBounds_toArray, List.set_cons_zero, List.set_cons_succ]
              refine wpAnyU_take (i := 5) (oi := { dst := some 185, op := _, type := _, pos := _, after := _, guard := some (2, true) }) (v := .int .i32 D) rfl (by kernel_rfl) (by kernel_rfl) (by kernel_rfl) (by kernel_rfl) (fun _ _ _ h => h) (yields_take rfl (fun w' hw => by obtain ⟨h1, h2⟩ := hw.const; go_simp)) hS0.out ?_
              simp only [Act.put, List.setIfInBounds_toArray, List.set_cons_zero, List.set_cons_succ]
              refine wpAnyU_two (i := 4) (j := 6) (oi := { dst := some 184, op := _, type := _, pos := _, after := _, guard := some (2, true) }) (oj := { dst := some 186, op := _, type := _, pos := _, after := _, guard := some (2, true) }) (TwoL wr .i64 .i32 ([1, 1, 1] : List Int) ([D] : List Int)) (by kernel_rfl) (by kernel_rfl) (by kernel_rfl) rfl rfl rfl rfl (by decide) (by decide) (by kernel_rfl) (by kernel_rfl) (fun _ => by kernel_rfl) (fun _ => by kernel_rfl) ⟨.slice (some ⟨wr.drew.heap.size, 0, none⟩) 3 3, (wr.drew.alloc (.cells (([1, 1, 1] : List Int).map (Value.int .i64)).toArray 3)), by go_simp, (by have hv := below_al6 (o := (.cells (([1, 1, 1] : List Int).map (Value.int .i64)).toArray 3)) (hd0); exact HC.out _ hv), .slice (some ⟨wr.drew.heap.size + 1, 0, none⟩) 1 1, ((wr.drew.alloc (.cells (([1, 1, 1] : List Int).map (Value.int .i64)).toArray 3)).alloc (.cells (([D] : List Int).map (Value.int .i32)).toArray 21)), by go_simp, TwoL.fst _ _ (hd0)⟩ ⟨.slice (some ⟨wr.drew.heap.size, 0, none⟩) 1 1, (wr.drew.alloc (.cells (([D] : List Int).map (Value.int .i32)).toArray 21)), by go_simp, (by have hv := below_al6 (o := (.cells (([D] : List Int).map (Value.int .i32)).toArray 21)) (hd0); exact HC.out _ hv), .slice (some ⟨wr.drew.heap.size + 1, 0, none⟩) 3 3, ((wr.drew.alloc (.cells (([D] : List Int).map (Value.int .i32)).toArray 21)).alloc (.cells (([1, 1, 1] : List Int).map (Value.int .i64)).toArray 3)), by go_simp, TwoL.snd _ _ (hd0)⟩ (fun _ _ _ hr => by obtain ⟨_, _, _, _, _, _, hv⟩ := hr; exact HC.out _ hv) ?_
              rintro _ _ q0 ⟨gq0x, gq0y, rfl, rfl, hlq0x, hlq0y, hd1⟩
              simp only [List.length_cons, List.length_nil, Nat.reduceAdd] at hlq0x hlq0y ⊢
              simp only [Act.put, List.setIfInBounds_toArray, List.set_cons_zero, List.set_cons_succ]
              have hS1 : Hid (q0.cell? ⟨u14.heap.size, 0, none⟩ = some (.slice (some ⟨g1y, 0, none⟩) 3 c1y) ∧ q0.cell? ⟨u14.heap.size, 1, none⟩ = some (.slice (some ⟨g2y, 0, none⟩) 1 1)) := hide (by have hv := hd1; exact HC.out _ hv)
              clear hS0
              refine wpAnyU_one (i := 7) (by kernel_rfl) rfl ?_
              intro K hK
              go_simp
              refine Calls.mono (of8_any (some ⟨gq0x, 0, none⟩) (some ⟨gq0y, 0, none⟩) 3 3 1 1 _) ?_
              rintro e r0 ⟨rfl, hb⟩
              dsimp only
              have hd2 : Below wr.heap.size wr r0 := below_nx6 hd1 hb
              replace hlq0x := hlq0x.below hb
              replace hlq0y := hlq0y.below hb
              clear hb
              have hS2 : Hid (r0.cell? ⟨u14.heap.size, 0, none⟩ = some (.slice (some ⟨g1y, 0, none⟩) 3 c1y) ∧ r0.cell? ⟨u14.heap.size, 1, none⟩ = some (.slice (some ⟨g2y, 0, none⟩) 1 1)) := hide (HC.out _ hd2)
              refine hK.out _ _ hS2.out (fun _ => ?_)
              clear hK K hS1
              refine wpAnyU_one (i := 8) (by kernel_rfl) rfl ?_
              intro K hK
              go_simp
              refine Calls.mono (tsame_any (some ⟨g1y, 0, none⟩) (some ⟨g2y, 0, none⟩) (some ⟨gq0x, 0, none⟩) (some ⟨gq0y, 0, none⟩) 3 c1y 1 1 3 3 1 1 [((1 : Nat) : Int), ((1 : Nat) : Int), ((1 : Nat) : Int)] [D] [1, 1, 1] [D] _ (HT_y.out.S.below hd2) (HT_y.out.L.below hd2) hlq0x hlq0y (by omega) (by omega)) ?_
              rintro e s0 ⟨rfl, hb⟩
              dsimp only
              have hd3 : Below wr.heap.size wr s0 := below_nx6 hd2 hb
              clear hb hlq0x hlq0y
              have hS3 : Hid (s0.cell? ⟨u14.heap.size, 0, none⟩ = some (.slice (some ⟨g1y, 0, none⟩) 3 c1y) ∧ s0.cell? ⟨u14.heap.size, 1, none⟩ = some (.slice (some ⟨g2y, 0, none⟩) 1 1)) := hide (HC.out _ hd3)
              refine hK.out _ _ hS3.out (fun _ => ?_)
              clear hK K hS2
              refine wpAnyU_take (i := 9) (oi := { dst := some 189, op := _, type := _, pos := _, after := _, guard := none }) (v := .bool true) rfl (by kernel_rfl) (by kernel_rfl) (by kernel_rfl) (by kernel_rfl) (fun _ _ _ h => h) (yields_take rfl (fun w' hw => by obtain ⟨h1, h2⟩ := hw.const; go_simp)) hS3.out ?_
              simp only [Act.put, List.setIfInBounds_toArray, List.set_cons_zero, List.set_cons_succ]
              refine wpAnyU_take (i := 10) (oi := { dst := some 2, op := _, type := _, pos := _, after := _, guard := none }) (v := .bool true) rfl (by kernel_rfl) (by kernel_rfl) (by kernel_rfl) (by kernel_rfl) (fun _ _ _ h => h) (yields_take rfl (fun w' hw => by obtain ⟨h1, h2⟩ := hw.const; go_simp)) hS3.out ?_
              simp only [Act.put, List.setIfInBounds_toArray, List.set_cons_zero, List.set_cons_succ]
              refine wpAnyU_done (by kernel_rfl) ?_ _
              clear hS3
              have HBE := hide (HBW.out.trans (hd3.mono HBW.out.size))
              go_wp2
              go_ret
              exact ⟨rfl, HBE.out⟩

end Go.Proofs.Ytgkilankaknfcaa
