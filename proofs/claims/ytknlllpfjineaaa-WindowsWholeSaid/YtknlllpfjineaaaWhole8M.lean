/- WindowsWhole: for every slide the walk of its Go text ends in true. -/
import Derived.Test.YtknlllpfjineaaaAlive8M
import Derived.Test.YtknlllpfjineaaaPm15M
import Derived.Deep.Cut
import Derived.Deep.CutBlock
import Derived.Deep.DeepCutAuto
namespace Go.Proofs.Ytknlllpfjineaaa
open Go.RowKit
set_option linter.unusedVariables false
set_option linter.unusedSimpArgs false
set_option maxRecDepth 100000

set_option maxHeartbeats 16000000 in
theorem whole8_any (A B A' B' : Option Addr) (n c m d n' c' m' d' : Nat) (s l s' l' : List Int) (st pd wd : Int) (w : World)
    (hA : Lies w A n (s.map (Value.int .i64))) (hB : Lies w B m (l.map (Value.int .i32))) (hA' : Lies w A' n' (s'.map (Value.int .i64))) (hB' : Lies w B' m' (l'.map (Value.int .i32)))
    (hn : n ≤ 70368744177664) (hm : m ≤ 70368744177664) (hn' : n' ≤ 70368744177664) (hm' : m' ≤ 70368744177664) (hcap : m' ≤ d') :
    Calls Try.prog 8 #[slideV A n c B m d A' n' c' B' m' d' st pd wd] w fun e w' => e = .returned (.bool true) ∧ Below w.heap.size w w' := by
  obtain ⟨W0, hW0⟩ : ∃ W0, W0 = w.alloc (.cells #[.slice A n c, .slice B m d, .slice A' n' c', .slice B' m' d', .int .i64 st, .int .i64 pd, .int .i64 wd] 50) := ⟨_, rfl⟩
  have HBW : Hid (Below w.heap.size w W0) := hide (by rw [hW0]; exact below_al6 (Below.refl _ _))
  have HT_z : Hid (SlideAt W0 w.heap.size A n c B m d A' n' c' B' m' d' st pd wd s l s' l') := hide (by rw [hW0]; exact SlideAt.new w c d c' d' st pd wd hA hB hA' hB')
  have hW0' := hW0.symm
  clear hW0 hA hB hA' hB' 
  go_enter Try.func8, Try.ntmps8
  go_wp2_with fail
  refine Calls.mono (alive8_any _) ?_
  rintro e ua1 ⟨rfl, hb⟩
  replace HT_z := hide (HT_z.out.kept hb)
  replace HBW := hide (HBW.out.trans (hb.mono HBW.out.size))
  clear hb
  by_cases hf : far8 n m n' m' = true
  · have cxz0 := HT_z.out.c0
    have cxz1 := HT_z.out.c1
    have cxz2 := HT_z.out.c2
    have cxz3 := HT_z.out.c3
    have cxz4 := HT_z.out.c4
    have cxz5 := HT_z.out.c5
    have cxz6 := HT_z.out.c6
    go_wp2_with fail
    refine Calls.mono (great8_any A B A' B' n c m d n' c' m' d' st pd wd _ hn hm hn' hm') ?_
    rw [hf]
    rintro e ua2 ⟨rfl, hb⟩
    replace HT_z := hide (HT_z.out.kept hb)
    replace HBW := hide (HBW.out.trans (hb.mono HBW.out.size))
    clear cxz0 cxz1 cxz2 cxz3 cxz4 cxz5 cxz6 hb
    go_wp2_with fail
    refine Calls.mono (alive8_any _) ?_
    rintro e ua3 ⟨rfl, hb⟩
    replace HT_z := hide (HT_z.out.kept hb)
    replace HBW := hide (HBW.out.trans (hb.mono HBW.out.size))
    clear hb
    go_wp2
    go_ret
    exact ⟨rfl, HBW.out⟩
  obtain ⟨hf0, fb1, fb2, fb3, fb4⟩ := far8_no hf
  have cxz0 := HT_z.out.c0
  have cxz1 := HT_z.out.c1
  have cxz2 := HT_z.out.c2
  have cxz3 := HT_z.out.c3
  have cxz4 := HT_z.out.c4
  have cxz5 := HT_z.out.c5
  have cxz6 := HT_z.out.c6
  go_wp2_with fail
  refine Calls.mono (great8_any A B A' B' n c m d n' c' m' d' st pd wd _ hn hm hn' hm') ?_
  rw [hf0]
  rintro e ua4 ⟨rfl, hb⟩
  replace HT_z := hide (HT_z.out.kept hb)
  replace HBW := hide (HBW.out.trans (hb.mono HBW.out.size))
  clear cxz0 cxz1 cxz2 cxz3 cxz4 cxz5 cxz6 hb hf hf0
  obtain ⟨E, hE⟩ : ∃ z : Int, z = of8E s m s' m' st pd := ⟨_, rfl⟩
  have HR_E := hide hE
  clear hE
  obtain ⟨S, hS⟩ : ∃ z : List Int, z = of8S s m s' m' st pd := ⟨_, rfl⟩
  have HR_S := hide hS
  clear hS
  obtain ⟨L, hL⟩ : ∃ z : List Int, z = of8L s m s' m' l l' st pd := ⟨_, rfl⟩
  have HR_L := hide hL
  clear hL
  have cxz0 := HT_z.out.c0
  have cxz1 := HT_z.out.c1
  have cxz2 := HT_z.out.c2
  have cxz3 := HT_z.out.c3
  have cxz4 := HT_z.out.c4
  have cxz5 := HT_z.out.c5
  have cxz6 := HT_z.out.c6
  go_wp2_with fail
  refine Calls.mono (wof_own A B A' B' n c m d n' c' m' d' s l s' l' st pd _ HT_z.out.S HT_z.out.L HT_z.out.S' HT_z.out.L' (by omega) (by omega) hcap) ?_
  rw [← HR_E.out, ← HR_S.out, ← HR_L.out]
  rintro e ua5 ⟨A1x, k1x, c1x, A2x, k2x, c2x, rfl, ho1, ho2, hk1x, hk2x, hb0⟩
  obtain ⟨V6, hV6⟩ : ∃ W, W = ua5.alloc (.cells #[.slice A1x k1x c1x, .slice A2x k2x c2x] 25) := ⟨_, rfl⟩
  have HT_x : Hid (TenAt V6 ua5.heap.size A1x A2x k1x c1x k2x c2x S L) := hide (by rw [hV6]; exact TenAt.own ho1 ho2)
  have hcapx := own_cap ho2
  have hb : Below ua4.heap.size ua4 V6 := by rw [hV6]; exact below_al6 hb0
  replace HT_z := hide (HT_z.out.kept hb)
  replace HBW := hide (HBW.out.trans (hb.mono HBW.out.size))
  have hV6' := hV6.symm
  clear cxz0 cxz1 cxz2 cxz3 cxz4 cxz5 cxz6 hV6 hb hb0 ho1 ho2
  have hlt_x := HT_x.out.1.lt
  by_cases hE : E = 0
  rotate_left
  · have hk : k2x = 0 := by
      have h := lies_len HT_x.out.L
      rw [HR_L.out, of8L_no (by rw [← HR_E.out]; exact hE)] at h
      simpa using h.symm
    subst hk
    have e1 : (E == 0) = false := by simpa using hE
    have cxx0 := HT_x.out.c0
    have cxx1 := HT_x.out.c1
    go_wp2
    go_ret
    exact ⟨rfl, HBW.out⟩
  have hE0 := HR_E.out
  rw [hE] at hE0
  obtain ⟨C, H, V, O, a, b, Y, X, stn, pdn, rfl, rfl, rfl, rfl, hk, hk', hsE, hsL⟩ := of8_nat hE0.symm
  obtain rfl : 3 = n := lies_len HT_z.out.S
  obtain rfl : 4 = n' := lies_len HT_z.out.S'
  obtain ⟨hC, hH, hV, hm3, hm4⟩ := ten_three hk
  obtain ⟨hO, hC2, ha, hb', hm5, hm6⟩ := ten_four hk'
  have e5 : S = [(O : Int), (Y : Int), (X : Int)] := by rw [HR_S.out, of8S, if_pos hE0.symm, hsL]
  have HL1 : Hid (L = winL l l' C H V O a b stn pdn Y X) := hide (by
    rw [HR_L.out, of8L, if_pos hE0.symm, hsL]
    simp only [List.getD_cons_zero, List.getD_cons_succ, Int.toNat_natCast])
  have hp8 := (shp8E_iff.1 hsE).1
  have hz3 := (shp8E_iff.1 hsE).2.2
  rw [hsL] at hz3
  obtain ⟨_, hY, hX, _, hq1, hq2⟩ := three_size hz3
  have hst : 1 ≤ stn ∧ stn ≤ 8 := by omega
  have hpd : pdn ≤ 8 := by omega
  have HSE := hide hsE
  have HSL := hide hsL
  have HK := hide hk
  have HK' := hide hk'
  have HM3 := hide hm3
  have HM5 := hide hm5
  have hm1 : 1 ≤ m := by rw [hm3]; exact Nat.mul_pos (Nat.mul_pos (by omega) (by omega)) (by omega)
  have hm1' : 1 ≤ m' := by rw [hm5]; exact Nat.mul_pos (by omega) (Nat.mul_pos (by omega) (Nat.mul_pos (by omega) (by omega)))
  clear hz3 hp8 hsE hsL hk hk' hm3 hm5 hE0
  subst hE e5
  obtain rfl : 3 = k1x := lies_len HT_x.out.S
  obtain ⟨Q, hQ⟩ : ∃ z, z = O * Y * X := ⟨_, rfl⟩
  obtain rfl : Q = k2x := by rw [hQ, ← lies_len HT_x.out.L, HL1.out, winL_len]
  rw [← hQ] at hq1 hq2
  have HQ := hide hQ
  have HZL : Hid (l.length = m) := hide (lies_len HT_z.out.L)
  clear hQ
  obtain ⟨bA, oA, rfl, _, hsA⟩ := byte_at HT_z.out.S (by omega)
  obtain ⟨bB, oB, rfl, _, hsB⟩ := byte_at HT_z.out.L (by omega)
  obtain ⟨bS, oS, rfl, _, hsS⟩ := byte_at HT_z.out.S' (by omega)
  obtain ⟨bW, oW, rfl, _, hsW⟩ := byte_at HT_z.out.L' (by omega)
  clear hsA hsB hsS hsW
  have HCZ : Hid (∀ v, Below V6.heap.size V6 v → v.cell? ⟨w.heap.size, 0, none⟩ = some (.slice (some ⟨bA, oA, none⟩) 3 c) ∧ v.cell? ⟨w.heap.size, 1, none⟩ = some (.slice (some ⟨bB, oB, none⟩) m d) ∧ v.cell? ⟨w.heap.size, 2, none⟩ = some (.slice (some ⟨bS, oS, none⟩) 4 c') ∧ v.cell? ⟨w.heap.size, 3, none⟩ = some (.slice (some ⟨bW, oW, none⟩) m' d') ∧ v.cell? ⟨w.heap.size, 4, none⟩ = some (.int .i64 (stn : Int)) ∧ v.cell? ⟨w.heap.size, 5, none⟩ = some (.int .i64 (pdn : Int)) ∧ v.cell? ⟨bA, oA, none⟩ = some (.int .i64 (C : Int)) ∧ v.cell? ⟨bA, oA + 1, none⟩ = some (.int .i64 (H : Int)) ∧ v.cell? ⟨bA, oA + 2, none⟩ = some (.int .i64 (V : Int)) ∧ v.cell? ⟨bS, oS, none⟩ = some (.int .i64 (O : Int)) ∧ v.cell? ⟨bS, oS + 2, none⟩ = some (.int .i64 (a : Int)) ∧ v.cell? ⟨bS, oS + 3, none⟩ = some (.int .i64 (b : Int))) := hide (fun v hv => by
    have hx := HT_z.out.kept hv
    obtain ⟨_, _, e1, _, x1⟩ := byte_at hx.S (by omega)
    cases e1
    obtain ⟨_, _, e2, _, x2⟩ := byte_at hx.S' (by omega)
    cases e2
    exact ⟨hx.c0, hx.c1, hx.c2, hx.c3, hx.c4, hx.c5, x1 0 (by omega), x1 1 (by omega), x1 2 (by omega), x2 0 (by omega), x2 2 (by omega), x2 3 (by omega)⟩)
  obtain ⟨z0, z1, z2, z3, z4, z5, za0, za1, za2, zs0, zs2, zs3⟩ := HCZ.out _ (Below.refl _ _)
  obtain ⟨p2, hp2⟩ : ∃ z, z = 2 * pdn := ⟨_, rfl⟩
  obtain ⟨H2, hH2⟩ : ∃ z, z = H + p2 := ⟨_, rfl⟩
  obtain ⟨V2, hV2⟩ : ∃ z, z = V + p2 := ⟨_, rfl⟩
  have hp21 : p2 ≤ 16 := by omega
  have hH21 : H2 ≤ 80 := by omega
  have hV21 : V2 ≤ 80 := by omega
  have HH2 : Hid (H2 = H + 2 * pdn) := hide (by omega)
  have HV2 : Hid (V2 = V + 2 * pdn) := hide (by omega)
  have y1 : 2 * (pdn : Int) = (p2 : Int) := by omega
  have y2 : (H : Int) + (p2 : Int) = (H2 : Int) := by omega
  have y3 : (V : Int) + (p2 : Int) = (V2 : Int) := by omega
  have Y1 := hide y1
  have Y2 := hide y2
  have Y3 := hide y3
  clear hp2 hH2 hV2
  by_cases hz : 0 < sizeI ([(C : Int), (H2 : Int), (V2 : Int)] : List Int)
  rotate_left
  · have HZN := hide hz
    clear hz
    go_wp2_with fail
    refine Calls.mono (new_err (some ⟨V6.heap.size, 0, none⟩) 3 3 [(C : Int), (H2 : Int), (V2 : Int)] _ (lies_lit V6 .i64 [(C : Int), (H2 : Int), (V2 : Int)] 3) (by omega) (by have := HZN.out; omega)) ?_
    rintro e ua7 ⟨rfl, hb0⟩
    go_wp2
    obtain ⟨V8, hV8⟩ : ∃ W, W = ua7.alloc (.cells #[.slice none 0 0, .slice none 0 0] 25) := ⟨_, rfl⟩
    have hb : Below V6.heap.size V6 V8 := by rw [hV8]; exact below_al6 (below_nx6 (below_al6 (Below.refl _ _)) hb0)
    rw [← hV8]
    clear hV8 hb0 HCZ
    clear z0 z1 z2 z3 z4 z5 za0 za1 za2 zs0 zs2 zs3 y1 y2 y3
    replace HT_z := hide (HT_z.out.kept hb)
    replace HT_x := hide (HT_x.out.kept hb)
    replace HBW := hide (HBW.out.trans (hb.mono HBW.out.size))
    clear hb
    clear Y1 Y2 Y3
    have HCZ : Hid (∀ v, Below V8.heap.size V8 v → v.cell? ⟨w.heap.size, 0, none⟩ = some (.slice (some ⟨bA, oA, none⟩) 3 c) ∧ v.cell? ⟨w.heap.size, 1, none⟩ = some (.slice (some ⟨bB, oB, none⟩) m d) ∧ v.cell? ⟨w.heap.size, 2, none⟩ = some (.slice (some ⟨bS, oS, none⟩) 4 c') ∧ v.cell? ⟨w.heap.size, 3, none⟩ = some (.slice (some ⟨bW, oW, none⟩) m' d') ∧ v.cell? ⟨w.heap.size, 4, none⟩ = some (.int .i64 (stn : Int)) ∧ v.cell? ⟨w.heap.size, 5, none⟩ = some (.int .i64 (pdn : Int)) ∧ v.cell? ⟨bA, oA, none⟩ = some (.int .i64 (C : Int)) ∧ v.cell? ⟨bA, oA + 1, none⟩ = some (.int .i64 (H : Int)) ∧ v.cell? ⟨bA, oA + 2, none⟩ = some (.int .i64 (V : Int)) ∧ v.cell? ⟨bS, oS, none⟩ = some (.int .i64 (O : Int)) ∧ v.cell? ⟨bS, oS + 2, none⟩ = some (.int .i64 (a : Int)) ∧ v.cell? ⟨bS, oS + 3, none⟩ = some (.int .i64 (b : Int))) := hide (fun v hv => by
      have hx := HT_z.out.kept hv
      obtain ⟨_, _, e1, _, x1⟩ := byte_at hx.S (by omega)
      cases e1
      obtain ⟨_, _, e2, _, x2⟩ := byte_at hx.S' (by omega)
      cases e2
      exact ⟨hx.c0, hx.c1, hx.c2, hx.c3, hx.c4, hx.c5, x1 0 (by omega), x1 1 (by omega), x1 2 (by omega), x2 0 (by omega), x2 2 (by omega), x2 3 (by omega)⟩)
    obtain ⟨NN, hNN⟩ : ∃ z, z = C * (a * b) := ⟨_, rfl⟩
    have hNm : m' = O * NN := by rw [hNN]; exact HM5.out
    have hNN1 : 1 ≤ NN := by rw [hNN]; exact Nat.mul_pos (by omega) (Nat.mul_pos (by omega) (by omega))
    have hNN2 : NN ≤ 4096 := by rw [hNm] at hm6; exact Nat.le_trans (Nat.le_mul_of_pos_left _ (by omega)) hm6
    have HNN := hide hNN
    have HNm := hide hNm
    obtain ⟨YX, hYX⟩ : ∃ z, z = Y * X := ⟨_, rfl⟩
    have HYX := hide hYX
    have hdv : m' / O = NN := by rw [hNm, Nat.mul_comm]; exact Nat.mul_div_cancel _ (by omega)
    have v1 : (m' : Int).tdiv (O : Int) = (NN : Int) := by rw [← hdv]; rfl
    have v2 : IntKind.i64.wrap (NN : Int) = (NN : Int) := by rw [IntKind.wrap_i64]; omega
    have n1 : ¬ (O : Int) = 0 := by omega
    have n1' : ¬ O = 0 := by omega
    have hd0 : Below V8.heap.size V8 V8.drew := below_drewN (Below.refl _ _) 1
    clear hNN hNm hYX hdv
    have hS0 : Hid (V8.drew.cell? ⟨w.heap.size, 2, none⟩ = some (.slice (some ⟨bS, oS, none⟩) 4 c') ∧ V8.drew.cell? ⟨w.heap.size, 3, none⟩ = some (.slice (some ⟨bW, oW, none⟩) m' d') ∧ V8.drew.cell? ⟨bS, oS, none⟩ = some (.int .i64 (O : Int))) := hide (by obtain ⟨_, _, a2, a3, _, _, _, _, _, s0, _, _⟩ := HCZ.out _ hd0; exact ⟨a2, a3, s0⟩)
    refine wp_region_U (fun _ v => v.cell? ⟨w.heap.size, 2, none⟩ = some (.slice (some ⟨bS, oS, none⟩) 4 c') ∧ v.cell? ⟨w.heap.size, 3, none⟩ = some (.slice (some ⟨bW, oW, none⟩) m' d') ∧ v.cell? ⟨bS, oS, none⟩ = some (.int .i64 (O : Int))) 99 (by kernel_rfl) ?_
    refine wpAnyU_take (i := 0) (oi := { dst := some 141, op := _, type := _, pos := _, after := _, guard := none }) (v := .pointer (some ⟨w.heap.size, 2, none⟩)) rfl (by kernel_rfl) (by kernel_rfl) (by kernel_rfl) (by kernel_rfl) (fun _ _ _ h => h) (yields_take rfl (fun w' hw => by obtain ⟨h1, h2, h3⟩ := hw.const; go_simp)) hS0.out ?_
    simp only [Act.put, List.setIfInBounds_toArray, List.set_cons_zero, List.set_cons_succ]
    refine wpAnyU_take (i := 1) (oi := { dst := some 142, op := _, type := _, pos := _, after := _, guard := none }) (v := .pointer (some ⟨w.heap.size, 3, none⟩)) rfl (by kernel_rfl) (by kernel_rfl) (by kernel_rfl) (by kernel_rfl) (fun _ _ _ h => h) (yields_take rfl (fun w' hw => by obtain ⟨h1, h2, h3⟩ := hw.const; go_simp)) hS0.out ?_
    simp only [Act.put, List.setIfInBounds_toArray, List.set_cons_zero, List.set_cons_succ]
    refine wpAnyU_take (i := 2) (oi := { dst := some 143, op := _, type := _, pos := _, after := _, guard := none }) (v := .slice (some ⟨bW, oW, none⟩) m' d') rfl (by kernel_rfl) (by kernel_rfl) (by kernel_rfl) (by kernel_rfl) (fun _ _ _ h => h) (yields_take rfl (fun w' hw => by obtain ⟨h1, h2, h3⟩ := hw.const; go_simp)) hS0.out ?_
    simp only [Act.put, List.setIfInBounds_toArray, List.set_cons_zero, List.set_cons_succ]
    refine wpAnyU_take (i := 3) (oi := { dst := some 144, op := _, type := _, pos := _, after := _, guard := none }) (v := .int .i64 (m' : Int)) rfl (by kernel_rfl) (by kernel_rfl) (by kernel_rfl) (by kernel_rfl) (fun _ _ _ h => h) (yields_take rfl (fun w' hw => by obtain ⟨h1, h2, h3⟩ := hw.const; go_simp)) hS0.out ?_
    simp only [Act.put, List.setIfInBounds_toArray, List.set_cons_zero, List.set_cons_succ]
    refine wpAnyU_take (i := 4) (oi := { dst := some 145, op := _, type := _, pos := _, after := _, guard := none }) (v := .pointer (some ⟨w.heap.size, 2, none⟩)) rfl (by kernel_rfl) (by kernel_rfl) (by kernel_rfl) (by kernel_rfl) (fun _ _ _ h => h) (yields_take rfl (fun w' hw => by obtain ⟨h1, h2, h3⟩ := hw.const; go_simp)) hS0.out ?_
    simp only [Act.put, List.setIfInBounds_toArray, List.set_cons_zero, List.set_cons_succ]
    refine wpAnyU_take (i := 5) (oi := { dst := some 146, op := _, type := _, pos := _, after := _, guard := none }) (v := .pointer (some ⟨w.heap.size, 2, none⟩)) rfl (by kernel_rfl) (by kernel_rfl) (by kernel_rfl) (by kernel_rfl) (fun _ _ _ h => h) (yields_take rfl (fun w' hw => by obtain ⟨h1, h2, h3⟩ := hw.const; go_simp)) hS0.out ?_
    simp only [Act.put, List.setIfInBounds_toArray, List.set_cons_zero, List.set_cons_succ]
    refine wpAnyU_take (i := 6) (oi := { dst := some 147, op := _, type := _, pos := _, after := _, guard := none }) (v := .slice (some ⟨bS, oS, none⟩) 4 c') rfl (by kernel_rfl) (by kernel_rfl) (by kernel_rfl) (by kernel_rfl) (fun _ _ _ h => h) (yields_take rfl (fun w' hw => by obtain ⟨h1, h2, h3⟩ := hw.const; go_simp)) hS0.out ?_
    simp only [Act.put, List.setIfInBounds_toArray, List.set_cons_zero, List.set_cons_succ]
    refine wpAnyU_take (i := 7) (oi := { dst := some 148, op := _, type := _, pos := _, after := _, guard := none }) (v := .pointer (some ⟨bS, oS, none⟩)) rfl (by kernel_rfl) (by kernel_rfl) (by kernel_rfl) (by kernel_rfl) (fun _ _ _ h => h) (yields_take rfl (fun w' hw => by obtain ⟨h1, h2, h3⟩ := hw.const; go_simp)) hS0.out ?_
    simp only [Act.put, List.setIfInBounds_toArray, List.set_cons_zero, List.set_cons_succ]
    refine wpAnyU_take (i := 8) (oi := { dst := some 149, op := _, type := _, pos := _, after := _, guard := none }) (v := .int .i64 (O : Int)) rfl (by kernel_rfl) (by kernel_rfl) (by kernel_rfl) (by kernel_rfl) (fun _ _ _ h => h) (yields_take rfl (fun w' hw => by obtain ⟨h1, h2, h3⟩ := hw.const; go_simp)) hS0.out ?_
    simp only [Act.put, List.setIfInBounds_toArray, List.set_cons_zero, List.set_cons_succ]
    refine wpAnyU_take (i := 9) (oi := { dst := some 150, op := _, type := _, pos := _, after := _, guard := none }) (v := .int .i64 (NN : Int)) rfl (by kernel_rfl) (by kernel_rfl) (by kernel_rfl) (by kernel_rfl) (fun _ _ _ h => h) (yields_take rfl (fun w' hw => by obtain ⟨h1, h2, h3⟩ := hw.const; go_simp)) hS0.out ?_
    simp only [Act.put, List.setIfInBounds_toArray, List.set_cons_zero, List.set_cons_succ]
    refine wpAnyU_take (i := 10) (oi := { dst := some 15, op := _, type := _, pos := _, after := _, guard := none }) (v := .int .i64 (NN : Int)) rfl (by kernel_rfl) (by kernel_rfl) (by kernel_rfl) (by kernel_rfl) (fun _ _ _ h => h) (yields_take rfl (fun w' hw => by obtain ⟨h1, h2, h3⟩ := hw.const; go_simp)) hS0.out ?_
    simp only [Act.put, List.setIfInBounds_toArray, List.set_cons_zero, List.set_cons_succ]
    refine wpAnyU_done (by kernel_rfl) ?_ _
    clear hS0
    have HD0 := hide hd0
    clear hd0 v1 v2 n1 n1'
    go_wp2
    go_loopw [16, 17] (fun v i wr => ∃ (o k c3 : Nat) (A3 : Option Addr), o ≤ O ∧ i = .int .i64 o ∧ v = .slice A3 k c3 ∧ Hid (wr.ownsRow V8.heap.size 21 1 (.slice A3 k c3) k ((L.take (o * YX)).map (Value.int .i32))) ∧ Hid (Below V8.heap.size V8 wr)) (fun _ i _ => O - (intOf i).toNat)
    case atStart => exact ⟨0, 0, 0, none, Nat.zero_le _, rfl, rfl, hide (by rw [Nat.zero_mul, List.take_zero]; exact World.ownsRow_nil _ _ _ _), HD0⟩
    case round =>
      clear HD0
      obtain ⟨o, k, c3, A3, ho, rfl, rfl, HO, HE⟩ := hrel
      have hb := HE.out
      obtain ⟨z0, z1, z2, z3, z4, z5, za0, za1, za2, zs0, zs2, zs3⟩ := HCZ.out _ HE.out
      clear HCZ
      replace HT_z := hide (HT_z.out.kept hb)
      replace HT_x := hide (HT_x.out.kept hb)
      replace HBW := hide (HBW.out.trans (hb.mono HBW.out.size))
      clear hb
      have HBR := hide (Below.refl wr.heap.size wr)
      by_cases hlt : o < O
      · have h0 : (0 : Int) ≤ (o : Int) := by omega
        have h3 : (o : Int) < (O : Int) := by omega
        obtain ⟨oN, hoN⟩ : ∃ z, z = o * NN := ⟨_, rfl⟩
        have ho1 : oN + NN ≤ m' := by rw [hoN, HNm.out, ← Nat.succ_mul]; exact Nat.mul_le_mul_right _ hlt
        obtain ⟨o1, ho1'⟩ : ∃ z, z = oN + NN := ⟨_, rfl⟩
        have HON := hide hoN
        have v1 : IntKind.i64.wrap ((o : Int) * (NN : Int)) = (oN : Int) := by rw [← Int.natCast_mul, ← hoN, IntKind.wrap_i64]; omega
        have v2 : IntKind.i64.wrap ((oN : Int) + (NN : Int)) = (o1 : Int) := by rw [IntKind.wrap_i64]; omega
        have v3 : (0 : Int) ≤ (oN : Int) := by omega
        have v4 : (oN : Int) ≤ (o1 : Int) := by omega
        have v5 : (o1 : Int) ≤ (d' : Int) := by omega
        have v6 : oN ≤ o1 := by omega
        have v7 : o1 ≤ d' := by omega
        have v8 : o1 - oN = NN := by omega
        have v9 : ¬ d' = oN := by omega
        clear hoN ho1'
        go_wp2
        go_cut [18] from 160 to 184 (fun s1 wc => ∃ pb bL, s1 = .pointer (some ⟨pb, 0, none⟩) ∧ Hid (BoxT wc pb (.slice (some ⟨bL, 0, none⟩) 4 4) (.slice (some ⟨bW, oW + oN, none⟩) NN (d' - oN))) ∧ Hid (Lies wc (some ⟨bL, 0, none⟩) 4 (([((1 : Nat) : Int), (C : Int), (a : Int), (b : Int)] : List Int).map (Value.int .i64))) ∧ Hid (Below wr.heap.size wr wc))
        case first =>
          have HCY : Hid (∀ v, Below wr.heap.size wr v → v.cell? ⟨w.heap.size, 2, none⟩ = some (.slice (some ⟨bS, oS, none⟩) 4 c') ∧ v.cell? ⟨w.heap.size, 3, none⟩ = some (.slice (some ⟨bW, oW, none⟩) m' d') ∧ v.cell? ⟨bS, oS + 2, none⟩ = some (.int .i64 (a : Int)) ∧ v.cell? ⟨bS, oS + 3, none⟩ = some (.int .i64 (b : Int))) := hide (fun v hv => by
            have hx := HT_z.out.kept hv
            obtain ⟨_, _, e2, _, x2⟩ := byte_at hx.S' (by omega)
            cases e2
            exact ⟨hx.c2, hx.c3, x2 2 (by omega), x2 3 (by omega)⟩)
          clear z0 z1 z2 z3 z4 z5 za0 za1 za2 zs0 zs2 zs3
          have he := Below.refl wr.heap.size wr
          have hS0 : Hid (wr.drew.cell? ⟨w.heap.size, 2, none⟩ = some (.slice (some ⟨bS, oS, none⟩) 4 c') ∧ wr.drew.cell? ⟨w.heap.size, 3, none⟩ = some (.slice (some ⟨bW, oW, none⟩) m' d') ∧ wr.drew.cell? ⟨bS, oS + 2, none⟩ = some (.int .i64 (a : Int)) ∧ wr.drew.cell? ⟨bS, oS + 3, none⟩ = some (.int .i64 (b : Int))) := hide (HCY.out _ (below_drewN (Below.refl _ _) 1))
          refine wp_region_U (fun _ v => v.cell? ⟨w.heap.size, 2, none⟩ = some (.slice (some ⟨bS, oS, none⟩) 4 c') ∧ v.cell? ⟨w.heap.size, 3, none⟩ = some (.slice (some ⟨bW, oW, none⟩) m' d') ∧ v.cell? ⟨bS, oS + 2, none⟩ = some (.int .i64 (a : Int)) ∧ v.cell? ⟨bS, oS + 3, none⟩ = some (.int .i64 (b : Int))) 99 (by kernel_rfl) ?_
          refine wpAnyU_take (i := 0) (oi := { dst := some 160, op := _, type := _, pos := _, after := _, guard := none }) (v := .int .i64 (C : Int)) rfl (by kernel_rfl) (by kernel_rfl) (by kernel_rfl) (by kernel_rfl) (fun _ _ _ h => h) (yields_take rfl (fun w' hw => by obtain ⟨h1, h2, h3, h4⟩ := hw.const; go_simp)) hS0.out ?_
          simp only [Act.put, List.setIfInBounds_toArray, List.set_cons_zero, List.set_cons_succ]
          refine wpAnyU_take (i := 1) (oi := { dst := some 161, op := _, type := _, pos := _, after := _, guard := none }) (v := .pointer (some ⟨w.heap.size, 2, none⟩)) rfl (by kernel_rfl) (by kernel_rfl) (by kernel_rfl) (by kernel_rfl) (fun _ _ _ h => h) (yields_take rfl (fun w' hw => by obtain ⟨h1, h2, h3, h4⟩ := hw.const; go_simp)) hS0.out ?_
          simp only [Act.put, List.setIfInBounds_toArray, List.set_cons_zero, List.set_cons_succ]
          refine wpAnyU_take (i := 2) (oi := { dst := some 162, op := _, type := _, pos := _, after := _, guard := none }) (v := .pointer (some ⟨w.heap.size, 2, none⟩)) rfl (by kernel_rfl) (by kernel_rfl) (by kernel_rfl) (by kernel_rfl) (fun _ _ _ h => h) (yields_take rfl (fun w' hw => by obtain ⟨h1, h2, h3, h4⟩ := hw.const; go_simp)) hS0.out ?_
          simp only [Act.put, List.setIfInBounds_toArray, List.set_cons_zero, List.set_cons_succ]
          refine wpAnyU_take (i := 3) (oi := { dst := some 163, op := _, type := _, pos := _, after := _, guard := none }) (v := .slice (some ⟨bS, oS, none⟩) 4 c') rfl (by kernel_rfl) (by kernel_rfl) (by kernel_rfl) (by kernel_rfl) (fun _ _ _ h => h) (yields_take rfl (fun w' hw => by obtain ⟨h1, h2, h3, h4⟩ := hw.const; go_simp)) hS0.out ?_
          simp only [Act.put, List.setIfInBounds_toArray, List.set_cons_zero, List.set_cons_succ]
          refine wpAnyU_take (i := 4) (oi := { dst := some 164, op := _, type := _, pos := _, after := _, guard := none }) (v := .pointer (some ⟨bS, oS + 2, none⟩)) rfl (by kernel_rfl) (by kernel_rfl) (by kernel_rfl) (by kernel_rfl) (fun _ _ _ h => h) (yields_take rfl (fun w' hw => by obtain ⟨h1, h2, h3, h4⟩ := hw.const; go_simp)) hS0.out ?_
          simp only [Act.put, List.setIfInBounds_toArray, List.set_cons_zero, List.set_cons_succ]
          refine wpAnyU_take (i := 5) (oi := { dst := some 165, op := _, type := _, pos := _, after := _, guard := none }) (v := .int .i64 (a : Int)) rfl (by kernel_rfl) (by kernel_rfl) (by kernel_rfl) (by kernel_rfl) (fun _ _ _ h => h) (yields_take rfl (fun w' hw => by obtain ⟨h1, h2, h3, h4⟩ := hw.const; go_simp)) hS0.out ?_
          simp only [Act.put, List.setIfInBounds_toArray, List.set_cons_zero, List.set_cons_succ]
          refine wpAnyU_take (i := 6) (oi := { dst := some 166, op := _, type := _, pos := _, after := _, guard := none }) (v := .pointer (some ⟨w.heap.size, 2, none⟩)) rfl (by kernel_rfl) (by kernel_rfl) (by kernel_rfl) (by kernel_rfl) (fun _ _ _ h => h) (yields_take rfl (fun w' hw => by obtain ⟨h1, h2, h3, h4⟩ := hw.const; go_simp)) hS0.out ?_
          simp only [Act.put, List.setIfInBounds_toArray, List.set_cons_zero, List.set_cons_succ]
          refine wpAnyU_take (i := 7) (oi := { dst := some 167, op := _, type := _, pos := _, after := _, guard := none }) (v := .pointer (some ⟨w.heap.size, 2, none⟩)) rfl (by kernel_rfl) (by kernel_rfl) (by kernel_rfl) (by kernel_rfl) (fun _ _ _ h => h) (yields_take rfl (fun w' hw => by obtain ⟨h1, h2, h3, h4⟩ := hw.const; go_simp)) hS0.out ?_
          simp only [Act.put, List.setIfInBounds_toArray, List.set_cons_zero, List.set_cons_succ]
          refine wpAnyU_take (i := 8) (oi := { dst := some 168, op := _, type := _, pos := _, after := _, guard := none }) (v := .slice (some ⟨bS, oS, none⟩) 4 c') rfl (by kernel_rfl) (by kernel_rfl) (by kernel_rfl) (by kernel_rfl) (fun _ _ _ h => h) (yields_take rfl (fun w' hw => by obtain ⟨h1, h2, h3, h4⟩ := hw.const; go_simp)) hS0.out ?_
          simp only [Act.put, List.setIfInBounds_toArray, List.set_cons_zero, List.set_cons_succ]
          refine wpAnyU_take (i := 9) (oi := { dst := some 169, op := _, type := _, pos := _, after := _, guard := none }) (v := .pointer (some ⟨bS, oS + 3, none⟩)) rfl (by kernel_rfl) (by kernel_rfl) (by kernel_rfl) (by kernel_rfl) (fun _ _ _ h => h) (yields_take rfl (fun w' hw => by obtain ⟨h1, h2, h3, h4⟩ := hw.const; go_simp)) hS0.out ?_
          simp only [Act.put, List.setIfInBounds_toArray, List.set_cons_zero, List.set_cons_succ]
          refine wpAnyU_take (i := 10) (oi := { dst := some 170, op := _, type := _, pos := _, after := _, guard := none }) (v := .int .i64 (b : Int)) rfl (by kernel_rfl) (by kernel_rfl) (by kernel_rfl) (by kernel_rfl) (fun _ _ _ h => h) (yields_take rfl (fun w' hw => by obtain ⟨h1, h2, h3, h4⟩ := hw.const; go_simp)) hS0.out ?_
          simp only [Act.put, List.setIfInBounds_toArray, List.set_cons_zero, List.set_cons_succ]
          refine wpAnyU_take (i := 12) (oi := { dst := some 172, op := _, type := _, pos := _, after := _, guard := none }) (v := .pointer (some ⟨w.heap.size, 2, none⟩)) rfl (by kernel_rfl) (by kernel_rfl) (by kernel_rfl) (by kernel_rfl) (fun _ _ _ h => h) (yields_take rfl (fun w' hw => by obtain ⟨h1, h2, h3, h4⟩ := hw.const; go_simp)) hS0.out ?_
          simp only [Act.put, List.setIfInBounds_toArray, List.set_cons_zero, List.set_cons_succ]
          refine wpAnyU_take (i := 13) (oi := { dst := some 173, op := _, type := _, pos := _, after := _, guard := none }) (v := .pointer (some ⟨w.heap.size, 3, none⟩)) rfl (by kernel_rfl) (by kernel_rfl) (by kernel_rfl) (by kernel_rfl) (fun _ _ _ h => h) (yields_take rfl (fun w' hw => by obtain ⟨h1, h2, h3, h4⟩ := hw.const; go_simp)) hS0.out ?_
          simp only [Act.put, List.setIfInBounds_toArray, List.set_cons_zero, List.set_cons_succ]
          refine wpAnyU_take (i := 14) (oi := { dst := some 174, op := _, type := _, pos := _, after := _, guard := none }) (v := .slice (some ⟨bW, oW, none⟩) m' d') rfl (by kernel_rfl) (by kernel_rfl) (by kernel_rfl) (by kernel_rfl) (fun _ _ _ h => h) (yields_take rfl (fun w' hw => by obtain ⟨h1, h2, h3, h4⟩ := hw.const; go_simp)) hS0.out ?_
          simp only [Act.put, List.setIfInBounds_toArray, List.set_cons_zero, List.set_cons_succ]
          refine wpAnyU_take (i := 15) (oi := { dst := some 175, op := _, type := _, pos := _, after := _, guard := none }) (v := .int .i64 (o : Int)) rfl (by kernel_rfl) (by kernel_rfl) (by kernel_rfl) (by kernel_rfl) (fun _ _ _ h => h) (yields_take rfl (fun w' hw => by obtain ⟨h1, h2, h3, h4⟩ := hw.const; go_simp)) hS0.out ?_
          simp only [Act.put, List.setIfInBounds_toArray, List.set_cons_zero, List.set_cons_succ]
          refine wpAnyU_take (i := 16) (oi := { dst := some 176, op := _, type := _, pos := _, after := _, guard := none }) (v := .int .i64 (NN : Int)) rfl (by kernel_rfl) (by kernel_rfl) (by kernel_rfl) (by kernel_rfl) (fun _ _ _ h => h) (yields_take rfl (fun w' hw => by obtain ⟨h1, h2, h3, h4⟩ := hw.const; go_simp)) hS0.out ?_
          simp only [Act.put, List.setIfInBounds_toArray, List.set_cons_zero, List.set_cons_succ]
          refine wpAnyU_take (i := 17) (oi := { dst := some 177, op := _, type := _, pos := _, after := _, guard := none }) (v := .int .i64 (oN : Int)) rfl (by kernel_rfl) (by kernel_rfl) (by kernel_rfl) (by kernel_rfl) (fun _ _ _ h => h) (yields_take rfl (fun w' hw => by obtain ⟨h1, h2, h3, h4⟩ := hw.const; go_simp)) hS0.out ?_
          simp only [Act.put, List.setIfInBounds_toArray, List.set_cons_zero, List.set_cons_succ]
          refine wpAnyU_take (i := 18) (oi := { dst := some 178, op := _, type := _, pos := _, after := _, guard := none }) (v := .int .i64 (o : Int)) rfl (by kernel_rfl) (by kernel_rfl) (by kernel_rfl) (by kernel_rfl) (fun _ _ _ h => h) (yields_take rfl (fun w' hw => by obtain ⟨h1, h2, h3, h4⟩ := hw.const; go_simp)) hS0.out ?_
          simp only [Act.put, List.setIfInBounds_toArray, List.set_cons_zero, List.set_cons_succ]
          refine wpAnyU_take (i := 19) (oi := { dst := some 179, op := _, type := _, pos := _, after := _, guard := none }) (v := .int .i64 (NN : Int)) rfl (by kernel_rfl) (by kernel_rfl) (by kernel_rfl) (by kernel_rfl) (fun _ _ _ h => h) (yields_take rfl (fun w' hw => by obtain ⟨h1, h2, h3, h4⟩ := hw.const; go_simp)) hS0.out ?_
          simp only [Act.put, List.setIfInBounds_toArray, List.set_cons_zero, List.set_cons_succ]
          refine wpAnyU_take (i := 20) (oi := { dst := some 180, op := _, type := _, pos := _, after := _, guard := none }) (v := .int .i64 (oN : Int)) rfl (by kernel_rfl) (by kernel_rfl) (by kernel_rfl) (by kernel_rfl) (fun _ _ _ h => h) (yields_take rfl (fun w' hw => by obtain ⟨h1, h2, h3, h4⟩ := hw.const; go_simp)) hS0.out ?_
          simp only [Act.put, List.setIfInBounds_toArray, List.set_cons_zero, List.set_cons_succ]
          refine wpAnyU_take (i := 21) (oi := { dst := some 181, op := _, type := _, pos := _, after := _, guard := none }) (v := .int .i64 (NN : Int)) rfl (by kernel_rfl) (by kernel_rfl) (by kernel_rfl) (by kernel_rfl) (fun _ _ _ h => h) (yields_take rfl (fun w' hw => by obtain ⟨h1, h2, h3, h4⟩ := hw.const; go_simp)) hS0.out ?_
          simp only [Act.put, List.setIfInBounds_toArray, List.set_cons_zero, List.set_cons_succ]
          refine wpAnyU_take (i := 22) (oi := { dst := some 182, op := _, type := _, pos := _, after := _, guard := none }) (v := .int .i64 (o1 : Int)) rfl (by kernel_rfl) (by kernel_rfl) (by kernel_rfl) (by kernel_rfl) (fun _ _ _ h => h) (yields_take rfl (fun w' hw => by obtain ⟨h1, h2, h3, h4⟩ := hw.const; go_simp)) hS0.out ?_
          simp only [Act.put, List.setIfInBounds_toArray, List.set_cons_zero, List.set_cons_succ]
          refine wpAnyU_take (i := 23) (oi := { dst := some 183, op := _, type := _, pos := _, after := _, guard := none }) (v := .slice (some ⟨bW, oW + oN, none⟩) NN (d' - oN)) rfl (by kernel_rfl) (by kernel_rfl) (by kernel_rfl) (by kernel_rfl) (fun _ _ _ h => h) (yields_take rfl (fun w' hw => by obtain ⟨h1, h2, h3, h4⟩ := hw.const; go_simp)) hS0.out ?_
          simp only [Act.put, List.setIfInBounds_toArray, List.set_cons_zero, List.set_cons_succ]
          generalize hU0 : wr.drew = U0
          have he : Below wr.heap.size wr U0 := by rw [← hU0]; exact below_drewN (Below.refl _ _) 1
          rw [hU0] at hS0
          clear hU0
          refine wpAnyU_or (i := 11) (j := 25) (by kernel_rfl) rfl rfl ?_ ?_
          · intro K hK
            go_simp
            obtain ⟨U1, hU⟩ : ∃ U, U = U0.alloc (.cells #[.int .i64 1, .int .i64 (C : Int), .int .i64 (a : Int), .int .i64 (b : Int)] 3) := ⟨_, rfl⟩
            rw [← hU]
            have hb : Below U0.heap.size U0 U1 := by rw [hU]; exact below_al6 (Below.refl _ _)
            have FL0 : Lies U1 (some ⟨U0.heap.size, 0, none⟩) 4 (([1, (C : Int), (a : Int), (b : Int)] : List Int).map (Value.int .i64)) := by rw [hU]; exact lit_lies U0 .i64 ([1, (C : Int), (a : Int), (b : Int)] : List Int) 3
            clear hU
            replace he : Below wr.heap.size wr U1 := below_nx6 he hb
            clear hb
            have hS1 : Hid (U1.cell? ⟨w.heap.size, 2, none⟩ = some (.slice (some ⟨bS, oS, none⟩) 4 c') ∧ U1.cell? ⟨w.heap.size, 3, none⟩ = some (.slice (some ⟨bW, oW, none⟩) m' d') ∧ U1.cell? ⟨bS, oS + 2, none⟩ = some (.int .i64 (a : Int)) ∧ U1.cell? ⟨bS, oS + 3, none⟩ = some (.int .i64 (b : Int))) := hide (HCY.out _ he)
            refine hK _ _ hS1.out (fun _ => ?_)
            clear hK K hS0
            refine wpAnyU_take (i := 24) (oi := { dst := some 184, op := _, type := _, pos := _, after := _, guard := none }) (v := .agg #[.slice (some ⟨U0.heap.size, 0, none⟩) 4 4, .slice (some ⟨bW, oW + oN, none⟩) NN (d' - oN)]) rfl (by kernel_rfl) (by kernel_rfl) (by kernel_rfl) (by kernel_rfl) (fun _ _ _ h => h) (yields_take rfl (fun w' hw => by obtain ⟨h1, h2, h3, h4⟩ := hw.const; go_simp)) hS1.out ?_
            simp only [Act.put, List.setIfInBounds_toArray, List.set_cons_zero, List.set_cons_succ]
            refine wpAnyU_one (i := 25) (by kernel_rfl) rfl ?_
            intro K hK
            go_simp
            obtain ⟨U2, hU⟩ : ∃ U, U = U1.alloc (.cells #[.slice none 0 0, .slice none 0 0] 25) := ⟨_, rfl⟩
            rw [← hU]
            have hb : Below U1.heap.size U1 U2 := by rw [hU]; exact below_al6 (Below.refl _ _)
            have FAL : BoxT U2 U1.heap.size (.slice none 0 0) (.slice none 0 0) := by rw [hU]; exact BoxT.new U1 _ _
            have hpx : wr.heap.size ≤ U1.heap.size := he.size
            clear hU
            replace FL0 := FL0.below hb
            replace he : Below wr.heap.size wr U2 := below_nx6 he hb
            clear hb
            have hS2 : Hid (U2.cell? ⟨w.heap.size, 2, none⟩ = some (.slice (some ⟨bS, oS, none⟩) 4 c') ∧ U2.cell? ⟨w.heap.size, 3, none⟩ = some (.slice (some ⟨bW, oW, none⟩) m' d') ∧ U2.cell? ⟨bS, oS + 2, none⟩ = some (.int .i64 (a : Int)) ∧ U2.cell? ⟨bS, oS + 3, none⟩ = some (.int .i64 (b : Int))) := hide (HCY.out _ he)
            refine hK _ _ hS2.out (fun _ => ?_)
            clear hK K hS1
            have r0 := FAL.c0
            have r1 := FAL.c1
            have rf0 := FAL.f0 0
            have rf1 := FAL.f0 1
            have hlx := FAL.lt
            have hpL : U0.heap.size ≠ U1.heap.size := box_ne_lies FAL (xs := [((1 : Nat) : Int), (C : Int), (a : Int), (b : Int)]) FL0 (by omega)
            refine wpAnyU_one (i := 26) (by kernel_rfl) rfl ?_
            intro K hK
            go_simp
            have he2 : Below wr.heap.size wr ((U2.setCell ⟨U1.heap.size, 0, none⟩ (.slice (some ⟨U0.heap.size, 0, none⟩) 4 4)).setCell ⟨U1.heap.size, 1, none⟩ (.slice (some ⟨bW, oW + oN, none⟩) NN (d' - oN))) := (he.setCell (by dsimp only; omega) _).setCell (by dsimp only; omega) _
            have hS3 : Hid (((U2.setCell ⟨U1.heap.size, 0, none⟩ (.slice (some ⟨U0.heap.size, 0, none⟩) 4 4)).setCell ⟨U1.heap.size, 1, none⟩ (.slice (some ⟨bW, oW + oN, none⟩) NN (d' - oN))).cell? ⟨w.heap.size, 2, none⟩ = some (.slice (some ⟨bS, oS, none⟩) 4 c') ∧ ((U2.setCell ⟨U1.heap.size, 0, none⟩ (.slice (some ⟨U0.heap.size, 0, none⟩) 4 4)).setCell ⟨U1.heap.size, 1, none⟩ (.slice (some ⟨bW, oW + oN, none⟩) NN (d' - oN))).cell? ⟨w.heap.size, 3, none⟩ = some (.slice (some ⟨bW, oW, none⟩) m' d') ∧ ((U2.setCell ⟨U1.heap.size, 0, none⟩ (.slice (some ⟨U0.heap.size, 0, none⟩) 4 4)).setCell ⟨U1.heap.size, 1, none⟩ (.slice (some ⟨bW, oW + oN, none⟩) NN (d' - oN))).cell? ⟨bS, oS + 2, none⟩ = some (.int .i64 (a : Int)) ∧ ((U2.setCell ⟨U1.heap.size, 0, none⟩ (.slice (some ⟨U0.heap.size, 0, none⟩) 4 4)).setCell ⟨U1.heap.size, 1, none⟩ (.slice (some ⟨bW, oW + oN, none⟩) NN (d' - oN))).cell? ⟨bS, oS + 3, none⟩ = some (.int .i64 (b : Int))) := hide (HCY.out _ he2)
            refine hK.out _ _ hS3.out (fun _ => ?_)
            clear hK K hS2
            refine wpAnyU_done (by kernel_rfl) ?_ _
            clear hS3
            have HB1 : Hid (BoxT ((U2.setCell ⟨U1.heap.size, 0, none⟩ (.slice (some ⟨U0.heap.size, 0, none⟩) 4 4)).setCell ⟨U1.heap.size, 1, none⟩ (.slice (some ⟨bW, oW + oN, none⟩) NN (d' - oN))) U1.heap.size (.slice (some ⟨U0.heap.size, 0, none⟩) 4 4) (.slice (some ⟨bW, oW + oN, none⟩) NN (d' - oN))) := hide (FAL.set2 _ _)
            have HB2 : Hid (Lies ((U2.setCell ⟨U1.heap.size, 0, none⟩ (.slice (some ⟨U0.heap.size, 0, none⟩) 4 4)).setCell ⟨U1.heap.size, 1, none⟩ (.slice (some ⟨bW, oW + oN, none⟩) NN (d' - oN))) (some ⟨U0.heap.size, 0, none⟩) 4 (([((1 : Nat) : Int), (C : Int), (a : Int), (b : Int)] : List Int).map (Value.int .i64))) := hide (lies_set8 FL0 (by intro b o e; cases e; exact hpL))
            have HE2 := hide he2
            clear FL0 FAL he he2 r0 r1 rf0 rf1
            go_wp2
            go_meet
            exact ⟨_, _, rfl, HB1, HB2, HE2⟩
          · intro K hK
            go_simp
            obtain ⟨U3, hU⟩ : ∃ U, U = U0.alloc (.cells #[.slice none 0 0, .slice none 0 0] 25) := ⟨_, rfl⟩
            rw [← hU]
            have hb : Below U0.heap.size U0 U3 := by rw [hU]; exact below_al6 (Below.refl _ _)
            have FAL : BoxT U3 U0.heap.size (.slice none 0 0) (.slice none 0 0) := by rw [hU]; exact BoxT.new U0 _ _
            have hpx : wr.heap.size ≤ U0.heap.size := he.size
            clear hU
            replace he : Below wr.heap.size wr U3 := below_nx6 he hb
            clear hb
            have hS1 : Hid (U3.cell? ⟨w.heap.size, 2, none⟩ = some (.slice (some ⟨bS, oS, none⟩) 4 c') ∧ U3.cell? ⟨w.heap.size, 3, none⟩ = some (.slice (some ⟨bW, oW, none⟩) m' d') ∧ U3.cell? ⟨bS, oS + 2, none⟩ = some (.int .i64 (a : Int)) ∧ U3.cell? ⟨bS, oS + 3, none⟩ = some (.int .i64 (b : Int))) := hide (HCY.out _ he)
            refine hK _ _ hS1.out (fun _ => ?_)
            clear hK K hS0
            refine wpAnyU_one (i := 11) (by kernel_rfl) rfl ?_
            intro K hK
            go_simp
            obtain ⟨U4, hU⟩ : ∃ U, U = U3.alloc (.cells #[.int .i64 1, .int .i64 (C : Int), .int .i64 (a : Int), .int .i64 (b : Int)] 3) := ⟨_, rfl⟩
            rw [← hU]
            have hb : Below U3.heap.size U3 U4 := by rw [hU]; exact below_al6 (Below.refl _ _)
            have FL0 : Lies U4 (some ⟨U3.heap.size, 0, none⟩) 4 (([1, (C : Int), (a : Int), (b : Int)] : List Int).map (Value.int .i64)) := by rw [hU]; exact lit_lies U3 .i64 ([1, (C : Int), (a : Int), (b : Int)] : List Int) 3
            clear hU
            replace FAL := FAL.kept hb
            replace he : Below wr.heap.size wr U4 := below_nx6 he hb
            clear hb
            have hS2 : Hid (U4.cell? ⟨w.heap.size, 2, none⟩ = some (.slice (some ⟨bS, oS, none⟩) 4 c') ∧ U4.cell? ⟨w.heap.size, 3, none⟩ = some (.slice (some ⟨bW, oW, none⟩) m' d') ∧ U4.cell? ⟨bS, oS + 2, none⟩ = some (.int .i64 (a : Int)) ∧ U4.cell? ⟨bS, oS + 3, none⟩ = some (.int .i64 (b : Int))) := hide (HCY.out _ he)
            refine hK _ _ hS2.out (fun _ => ?_)
            clear hK K hS1
            refine wpAnyU_take (i := 24) (oi := { dst := some 184, op := _, type := _, pos := _, after := _, guard := none }) (v := .agg #[.slice (some ⟨U3.heap.size, 0, none⟩) 4 4, .slice (some ⟨bW, oW + oN, none⟩) NN (d' - oN)]) rfl (by kernel_rfl) (by kernel_rfl) (by kernel_rfl) (by kernel_rfl) (fun _ _ _ h => h) (yields_take rfl (fun w' hw => by obtain ⟨h1, h2, h3, h4⟩ := hw.const; go_simp)) hS2.out ?_
            simp only [Act.put, List.setIfInBounds_toArray, List.set_cons_zero, List.set_cons_succ]
            have r0 := FAL.c0
            have r1 := FAL.c1
            have rf0 := FAL.f0 0
            have rf1 := FAL.f0 1
            have hlx := FAL.lt
            have hpL : U3.heap.size ≠ U0.heap.size := box_ne_lies FAL (xs := [((1 : Nat) : Int), (C : Int), (a : Int), (b : Int)]) FL0 (by omega)
            refine wpAnyU_one (i := 26) (by kernel_rfl) rfl ?_
            intro K hK
            go_simp
            have he2 : Below wr.heap.size wr ((U4.setCell ⟨U0.heap.size, 0, none⟩ (.slice (some ⟨U3.heap.size, 0, none⟩) 4 4)).setCell ⟨U0.heap.size, 1, none⟩ (.slice (some ⟨bW, oW + oN, none⟩) NN (d' - oN))) := (he.setCell (by dsimp only; omega) _).setCell (by dsimp only; omega) _
            have hS3 : Hid (((U4.setCell ⟨U0.heap.size, 0, none⟩ (.slice (some ⟨U3.heap.size, 0, none⟩) 4 4)).setCell ⟨U0.heap.size, 1, none⟩ (.slice (some ⟨bW, oW + oN, none⟩) NN (d' - oN))).cell? ⟨w.heap.size, 2, none⟩ = some (.slice (some ⟨bS, oS, none⟩) 4 c') ∧ ((U4.setCell ⟨U0.heap.size, 0, none⟩ (.slice (some ⟨U3.heap.size, 0, none⟩) 4 4)).setCell ⟨U0.heap.size, 1, none⟩ (.slice (some ⟨bW, oW + oN, none⟩) NN (d' - oN))).cell? ⟨w.heap.size, 3, none⟩ = some (.slice (some ⟨bW, oW, none⟩) m' d') ∧ ((U4.setCell ⟨U0.heap.size, 0, none⟩ (.slice (some ⟨U3.heap.size, 0, none⟩) 4 4)).setCell ⟨U0.heap.size, 1, none⟩ (.slice (some ⟨bW, oW + oN, none⟩) NN (d' - oN))).cell? ⟨bS, oS + 2, none⟩ = some (.int .i64 (a : Int)) ∧ ((U4.setCell ⟨U0.heap.size, 0, none⟩ (.slice (some ⟨U3.heap.size, 0, none⟩) 4 4)).setCell ⟨U0.heap.size, 1, none⟩ (.slice (some ⟨bW, oW + oN, none⟩) NN (d' - oN))).cell? ⟨bS, oS + 3, none⟩ = some (.int .i64 (b : Int))) := hide (HCY.out _ he2)
            refine hK.out _ _ hS3.out (fun _ => ?_)
            clear hK K hS2
            refine wpAnyU_done (by kernel_rfl) ?_ _
            clear hS3
            have HB1 : Hid (BoxT ((U4.setCell ⟨U0.heap.size, 0, none⟩ (.slice (some ⟨U3.heap.size, 0, none⟩) 4 4)).setCell ⟨U0.heap.size, 1, none⟩ (.slice (some ⟨bW, oW + oN, none⟩) NN (d' - oN))) U0.heap.size (.slice (some ⟨U3.heap.size, 0, none⟩) 4 4) (.slice (some ⟨bW, oW + oN, none⟩) NN (d' - oN))) := hide (FAL.set2 _ _)
            have HB2 : Hid (Lies ((U4.setCell ⟨U0.heap.size, 0, none⟩ (.slice (some ⟨U3.heap.size, 0, none⟩) 4 4)).setCell ⟨U0.heap.size, 1, none⟩ (.slice (some ⟨bW, oW + oN, none⟩) NN (d' - oN))) (some ⟨U3.heap.size, 0, none⟩) 4 (([((1 : Nat) : Int), (C : Int), (a : Int), (b : Int)] : List Int).map (Value.int .i64))) := hide (lies_set8 FL0 (by intro b o e; cases e; exact hpL))
            have HE2 := hide he2
            clear FL0 FAL he he2 r0 r1 rf0 rf1
            go_wp2
            go_meet
            exact ⟨_, _, rfl, HB1, HB2, HE2⟩
        case rest =>
          obtain ⟨pb, bL, rfl, HB1, HB2, HE2⟩ := hcut
          obtain ⟨V5, hV5⟩ : ∃ W, W = wc := ⟨_, rfl⟩
          rw [← hV5] at HB1 HB2 HE2 ⊢
          have hb : Below wr.heap.size wr V5 := HE2.out
          clear hV5 v1 v2 v3 v4 v5 v6 v7 v8 v9
          clear z0 z1 z2 z3 z4 z5 za0 za1 za2 zs0 zs2 zs3
          replace HT_z := hide (HT_z.out.kept hb)
          replace HT_x := hide (HT_x.out.kept hb)
          replace HBR := hide (below_nx6 HBR.out hb)
          replace HBW := hide (HBW.out.trans (hb.mono HBW.out.size))
          clear hb HE2
          obtain ⟨PL, hPL⟩ : ∃ z : List Int, z = (l'.drop oN).take NN := ⟨_, rfl⟩
          have HPL := hide hPL
          have HT_o : Hid (TenAt V5 pb (some ⟨bL, 0, none⟩) (some ⟨bW, oW + oN, none⟩) 4 4 NN (d' - oN) [((1 : Nat) : Int), (C : Int), (a : Int), (b : Int)] PL) := hide ⟨HB1.out, HB2.out, by rw [hPL]; exact lies_part8 HT_z.out.L' ho1 hcap hNN1⟩
          clear hPL HB1 HB2
          obtain ⟨hkP, hsE1, hsL1⟩ := shp_part8 HSE.out HSL.out HK'.out
          rw [← HNN.out] at hkP
          have hcon := wof_ok (some ⟨bA, oA, none⟩) (some ⟨bB, oB, none⟩) (some ⟨bL, 0, none⟩) (some ⟨bW, oW + oN, none⟩) c m d 4 NN (d' - oN) C H V 1 a b Y X stn pdn l PL V5 HT_z.out.S HT_z.out.L HT_o.out.S HT_o.out.L HK.out hkP (by omega) hsE1 hsL1
          have hq3 : 1 * Y * X = YX := by rw [HYX.out, Nat.one_mul]
          rw [hq3] at hcon
          obtain ⟨PY, hPY⟩ : ∃ z : List Int, z = winL l PL C H V 1 a b stn pdn Y X := ⟨_, rfl⟩
          rw [← hPY] at hcon
          have HPY := hide hPY
          clear hkP hsE1 hsL1 hPY hq3
          have cxz0 := HT_z.out.c0
          have cxz1 := HT_z.out.c1
          have cxz2 := HT_z.out.c2
          have cxz3 := HT_z.out.c3
          have cxz4 := HT_z.out.c4
          have cxz5 := HT_z.out.c5
          have cxz6 := HT_z.out.c6
          have cxo0 := HT_o.out.c0
          have cxo1 := HT_o.out.c1
          go_wp2_with fail
          refine Calls.mono (hcon) ?_
          rintro e ua9 ⟨g1y, c1y, g2y, rfl, ho1, ho2, _, hb0⟩
          obtain ⟨V10, hV10⟩ : ∃ W, W = ua9.alloc (.cells #[.slice (some ⟨g1y, 0, none⟩) 3 c1y, .slice (some ⟨g2y, 0, none⟩) YX YX] 25) := ⟨_, rfl⟩
          have HT_y : Hid (TenAt V10 ua9.heap.size (some ⟨g1y, 0, none⟩) (some ⟨g2y, 0, none⟩) 3 c1y YX YX [((1 : Nat) : Int), (Y : Int), (X : Int)] PY) := hide (by rw [hV10]; exact TenAt.made ho1 ho2)
          have hb : Below V5.heap.size V5 V10 := by rw [hV10]; exact below_al6 hb0
          replace HT_z := hide (HT_z.out.kept hb)
          replace HT_x := hide (HT_x.out.kept hb)
          replace HT_o := hide (HT_o.out.kept hb)
          replace HBR := hide (below_nx6 HBR.out hb)
          replace HBW := hide (HBW.out.trans (hb.mono HBW.out.size))
          have hV10' := hV10.symm
          clear cxz0 cxz1 cxz2 cxz3 cxz4 cxz5 cxz6 cxo0 cxo1 hV10 hb hb0 ho1 ho2
          have hlt_y := HT_y.out.1.lt
          clear hcon
          have HOE := own_below HO.out HBR.out
          have hbs : V8.heap.size ≤ V10.heap.size := Nat.le_trans HE.out.size HBR.out.size
          have hkY : k + YX ≤ 4096 := by
            have hkk : k = o * YX := by
              have h := HO.out.1
              have hle : o * YX ≤ O * (Y * X) := by rw [← HYX.out]; exact Nat.mul_le_mul_right _ ho
              rw [List.length_map, List.length_take, HL1.out, winL_len, Nat.mul_assoc] at h
              omega
            rw [hkk, ← Nat.succ_mul]
            refine Nat.le_trans (Nat.mul_le_mul_right _ hlt) ?_
            rw [HYX.out, ← Nat.mul_assoc, ← HQ.out]; exact hq2
          obtain ⟨iN, hiN, hzN0, hzN1, hzN2⟩ := info_parts info8N
          have cxy0 := HT_y.out.c0
          have cxy1 := HT_y.out.c1
          go_wp2_with (at_builtin; refine wpList_append_src rfl _ _ 23 rfl 21 iN (.int .i32 0) 4 Try.underlying23 hiN hzN0 hzN1 hzN2 rfl V8.heap.size (.slice A3 k c3) k _ rfl HOE hbs (some ⟨g2y, 0, none⟩) YX YX (PY.map (Value.int .i32)) rfl HT_y.out.L (by simp) (ints_one _ _) (by omega) (by unfold maxLen; omega) ?_)
          intro A4 c4 w9 HO4 hg4
          clear cxy0 cxy1
          have hcat : (L.map (Value.int .i32)).take (o * YX) ++ PY.map (Value.int .i32) = (L.take ((o + 1) * YX)).map (Value.int .i32) := by
            rw [← List.map_take, ← List.map_append, HL1.out, HPY.out, HPL.out, HYX.out, HON.out, HNN.out, win_next hlt]
          rw [hcat] at HO4
          have hb9 : Below V8.heap.size V8 w9 := below_own8 (HE.out.trans (HBR.out.mono HE.out.size)) hbs HOE hg4 (Nat.le_refl _)
          have HB9 := hide hb9
          have HO9 : Hid (w9.ownsRow V8.heap.size 21 1 (.slice A4 (k + YX) c4) (k + YX) ((L.take ((o + 1) * YX)).map (Value.int .i32))) := hide HO4
          clear hb9 HO4 hg4 hcat HOE
          go_wp2
          go_roundw
          case rel => exact ⟨o + 1, k + YX, c4, A4, by omega, by go_num, rfl, HO9, HB9⟩
          case measure => simp [intOf]; omega
      · obtain rfl : O = o := by omega
        have h3 : ¬ ((O : Int) < (O : Int)) := by omega
        have hall : L.take (O * YX) = L := List.take_of_length_le (by rw [HL1.out, winL_len, HYX.out, Nat.mul_assoc]; exact Nat.le_refl _)
        have HOL := lies_of_own HO.out
        have hk6 : k ≤ 4096 := by
          have h := HO.out.1
          rw [List.length_map, List.length_take, HL1.out, winL_len, ← HQ.out] at h
          omega
        rw [hall] at HOL
        clear hall
        have cxx0 := HT_x.out.c0
        have cxx1 := HT_x.out.c1
        go_wp2_with fail
        refine Calls.mono (same_any8 A3 A2x k c3 Q c2x L _ HOL HT_x.out.L (by omega)) ?_
        rintro e ua11 ⟨rfl, hb⟩
        replace HT_z := hide (HT_z.out.kept hb)
        replace HT_x := hide (HT_x.out.kept hb)
        replace HBR := hide (below_nx6 HBR.out hb)
        replace HBW := hide (HBW.out.trans (hb.mono HBW.out.size))
        clear cxx0 cxx1 hb
        go_wp2
        go_ret
        exact ⟨rfl, HBW.out⟩
  obtain ⟨hC3, hH3, hV3, hsz, hN1, hN2⟩ := three_size hz
  obtain ⟨N, hN⟩ : ∃ z, z = C * H2 * V2 := ⟨_, rfl⟩
  rw [← hN] at hsz hN1 hN2
  have HN := hide hN
  have HKW : Hid (tenOk [(C : Int), (H2 : Int), (V2 : Int)] N = true) := hide (tenOk_iff.2 ⟨hz, by rw [hsz]⟩)
  have HZZ := hide hz
  clear hN
  go_wp2_with fail
  refine Calls.mono (new_ok (some ⟨V6.heap.size, 0, none⟩) 3 3 N [(C : Int), (H2 : Int), (V2 : Int)] _ (lies_lit V6 .i64 [(C : Int), (H2 : Int), (V2 : Int)] 3) hsz (by omega)) ?_
  rintro e ua12 ⟨g1, c1, g2, rfl, ho1, ho2, hne, hb0⟩
  have hlo1 := ho1.lt g1 rfl
  have hlo2 := ho2.lt g2 rfl
  have hpx1 : ua12.heap.size ≠ g2 := by omega
  have HNE := hide (And.intro hne hpx1)
  have hb1 : Below V6.heap.size V6 ua12 := below_nx6 (below_al6 (Below.refl _ _)) hb0
  have hle : V6.heap.size ≤ (V6.alloc (.cells (([(C : Int), (H2 : Int), (V2 : Int)] : List Int).map (Value.int .i64)).toArray 3)).heap.size := by rw [World.size_alloc]; omega
  obtain ⟨V13, hV13⟩ : ∃ W, W = ua12.alloc (.cells #[.slice (some ⟨g1, 0, none⟩) 3 c1, .slice (some ⟨g2, 0, none⟩) N N] 25) := ⟨_, rfl⟩
  have HE2 : Hid (Below V6.heap.size V6 V13) := hide (by rw [hV13]; exact below_al6 hb1)
  have HB1 : Hid (BoxT V13 ua12.heap.size (.slice (some ⟨g1, 0, none⟩) 3 c1) (.slice (some ⟨g2, 0, none⟩) N N)) := hide (by rw [hV13]; exact BoxT.new ua12 _ _)
  have HB2 : Hid (Lies V13 (some ⟨g1, 0, none⟩) 3 (([(C : Int), (H2 : Int), (V2 : Int)] : List Int).map (Value.int .i64))) := hide (by rw [hV13]; exact (lies_of_own ho1).alloc _)
  have HB3 : Hid (V13.ownsRow V6.heap.size 21 1 (.slice (some ⟨g2, 0, none⟩) N N) N ((wid8 l H V pdn N 0).map (Value.int .i32))) := hide (by rw [wid8_zero, hV13]; exact own_base (own_below ho2 (below_al6 (Below.refl _ _))) hle)
  have hV13' := hV13.symm
  clear hV13 ho1 ho2 hb0 hb1 hle hne hpx1 y1 y2 y3 hsz
  obtain ⟨HV0, hHV⟩ : ∃ z, z = H * V := ⟨_, rfl⟩
  have hHV1 := Nat.mul_le_mul hH.2 hV.2
  have hHV0 := Nat.mul_pos hH.1 hV.1
  rw [← hHV] at hHV1 hHV0
  have HHV := hide hHV
  clear hHV
  clear z0 z1 z2 z3 z4 z5 za0 za1 za2 zs0 zs2 zs3
  obtain ⟨z0, z1, z2, z3, z4, z5, za0, za1, za2, zs0, zs2, zs3⟩ := HCZ.out _ HE2.out
  go_wp2
  clear z0 z1 z2 z3 z4 z5 za0 za1 za2 zs0 zs2 zs3
  go_loopw [11] (fun i wr => ∃ k : Nat, k ≤ m ∧ i = .int .i64 k ∧ Hid (BoxT wr ua12.heap.size (.slice (some ⟨g1, 0, none⟩) 3 c1) (.slice (some ⟨g2, 0, none⟩) N N)) ∧ Hid (Lies wr (some ⟨g1, 0, none⟩) 3 (([(C : Int), (H2 : Int), (V2 : Int)] : List Int).map (Value.int .i64))) ∧ Hid (wr.ownsRow V6.heap.size 21 1 (.slice (some ⟨g2, 0, none⟩) N N) N ((wid8 l H V pdn N k).map (Value.int .i32))) ∧ Hid (Below V6.heap.size V6 wr)) (fun i _ => m - (intOf i).toNat)
  case atStart => exact ⟨0, Nat.zero_le _, rfl, HB1, HB2, HB3, HE2⟩
  case round =>
    clear HB1 HB2 HB3 HE2
    obtain ⟨k, hk, rfl, HX, HS, HO, HE⟩ := hrel
    obtain ⟨z0, z1, z2, z3, z4, z5, za0, za1, za2, zs0, zs2, zs3⟩ := HCZ.out _ HE.out
    by_cases hlt : k < m
    · have h0 : (0 : Int) ≤ (k : Int) := by omega
      have h3 : (k : Int) < (m : Int) := by omega
      have hpl := plc8_lt (C := C) (p := pdn) (show k < C * H * V by rw [← HM3.out]; exact hlt)
      rw [← HH2.out, ← HV2.out, ← HN.out] at hpl
      obtain ⟨P, hP⟩ : ∃ z, z = plc8 H V pdn k := ⟨_, rfl⟩
      rw [← hP] at hpl
      have HP := hide hP
      rw [plc8, ← HH2.out, ← HV2.out, ← HHV.out] at hP
      obtain ⟨cc, hcc⟩ : ∃ z, z = k / HV0 := ⟨_, rfl⟩
      obtain ⟨kv, hkv⟩ : ∃ z, z = k / V := ⟨_, rfl⟩
      obtain ⟨xx, hxx⟩ : ∃ z, z = k % V := ⟨_, rfl⟩
      rw [← hcc, ← hkv, ← hxx] at hP
      obtain ⟨yy, hyy⟩ : ∃ z, z = kv % H := ⟨_, rfl⟩
      rw [← hyy] at hP
      obtain ⟨b1, hb1⟩ : ∃ z, z = cc * H2 := ⟨_, rfl⟩
      rw [← hb1] at hP
      obtain ⟨b2, hb2⟩ : ∃ z, z = b1 + yy := ⟨_, rfl⟩
      obtain ⟨b3, hb3⟩ : ∃ z, z = b2 + pdn := ⟨_, rfl⟩
      rw [show b1 + (yy + pdn) = b3 by omega] at hP
      obtain ⟨b4, hb4⟩ : ∃ z, z = b3 * V2 := ⟨_, rfl⟩
      rw [← hb4] at hP
      obtain ⟨b5, hb5⟩ : ∃ z, z = b4 + xx := ⟨_, rfl⟩
      have hP' : P = b5 + pdn := by omega
      have hb34 : b3 ≤ b4 := by rw [hb4]; exact Nat.le_mul_of_pos_right _ (by omega)
      obtain ⟨x, hx⟩ : ∃ z, z = l.getD k 0 := ⟨_, rfl⟩
      have HXV := hide hx
      have hcc1 : cc ≤ k := by rw [hcc]; exact Nat.div_le_self _ _
      have hkv1 : kv ≤ k := by rw [hkv]; exact Nat.div_le_self _ _
      have m1 : IntKind.i64.wrap ((H : Int) * (V : Int)) = (HV0 : Int) := by rw [← Int.natCast_mul, ← HHV.out, IntKind.wrap_i64]; omega
      have m2 : (k : Int).tdiv (HV0 : Int) = (cc : Int) := by rw [hcc]; rfl
      have m2' : (k : Int) / (HV0 : Int) = (cc : Int) := by rw [hcc]; rfl
      have m3 : IntKind.i64.wrap (cc : Int) = (cc : Int) := by rw [IntKind.wrap_i64]; omega
      have m4 : IntKind.i64.wrap (2 * (pdn : Int)) = (p2 : Int) := by rw [Y1.out, IntKind.wrap_i64]; omega
      have m5 : IntKind.i64.wrap ((H : Int) + (p2 : Int)) = (H2 : Int) := by rw [Y2.out, IntKind.wrap_i64]; omega
      have m6 : IntKind.i64.wrap ((cc : Int) * (H2 : Int)) = (b1 : Int) := by rw [← Int.natCast_mul, ← hb1, IntKind.wrap_i64]; omega
      have m7 : (k : Int).tdiv (V : Int) = (kv : Int) := by rw [hkv]; rfl
      have m8 : IntKind.i64.wrap (kv : Int) = (kv : Int) := by rw [IntKind.wrap_i64]; omega
      have m9 : (kv : Int).tmod (H : Int) = (yy : Int) := by rw [hyy]; rfl
      have m10 : IntKind.i64.wrap (yy : Int) = (yy : Int) := by rw [IntKind.wrap_i64]; omega
      have m11 : IntKind.i64.wrap ((b1 : Int) + (yy : Int)) = (b2 : Int) := by rw [IntKind.wrap_i64]; omega
      have m12 : IntKind.i64.wrap ((b2 : Int) + (pdn : Int)) = (b3 : Int) := by rw [IntKind.wrap_i64]; omega
      have m13 : IntKind.i64.wrap ((V : Int) + (p2 : Int)) = (V2 : Int) := by rw [Y3.out, IntKind.wrap_i64]; omega
      have m14 : IntKind.i64.wrap ((b3 : Int) * (V2 : Int)) = (b4 : Int) := by rw [← Int.natCast_mul, ← hb4, IntKind.wrap_i64]; omega
      have m15 : (k : Int).tmod (V : Int) = (xx : Int) := by rw [hxx]; rfl
      have m16 : IntKind.i64.wrap (xx : Int) = (xx : Int) := by rw [IntKind.wrap_i64]; omega
      have m17 : IntKind.i64.wrap ((b4 : Int) + (xx : Int)) = (b5 : Int) := by rw [IntKind.wrap_i64]; omega
      have m18 : IntKind.i64.wrap ((b5 : Int) + (pdn : Int)) = (P : Int) := by rw [IntKind.wrap_i64]; omega
      have n1 : ¬ (HV0 : Int) = 0 := by omega
      have n1' : ¬ HV0 = 0 := by omega
      have n2 : ¬ (V : Int) = 0 := by omega
      have n2' : ¬ V = 0 := by omega
      have n3 : ¬ (H : Int) = 0 := by omega
      have n3' : ¬ H = 0 := by omega
      have hP0 : (0 : Int) ≤ (P : Int) := by omega
      have hP1 : (P : Int) < (N : Int) := by omega
      obtain ⟨hg1, hf1⟩ := own_cells8 HO.out hpl
      have hf2 : wr.drew.frozen? ⟨g2, P, none⟩ = false := hf1
      obtain ⟨zz, hzz⟩ : ∃ z, z = (wid8 l H V pdn N k).getD P 0 := ⟨_, rfl⟩
      rw [← hzz] at hg1
      clear hzz
      have hd1 : Below V6.heap.size V6 wr.drew := below_drewN HE.out 1
      have hcx : wr.drew.cell? ⟨bB, oB + k, none⟩ = some (.int .i32 x) := by
        obtain ⟨_, _, e2, _, x2⟩ := byte_at (HT_z.out.kept hd1).L (by omega)
        cases e2
        rw [hx]; exact x2 k hlt
      have hcy := HX.out.c1
      clear hP hcc hkv hxx hyy hb1 hb2 hb3 hb4 hb5 hP' hx hcc1 hkv1 hb34
      go_wp2
      have hS0 : Hid (wr.drew.cell? ⟨ua12.heap.size, 1, none⟩ = some (.slice (some ⟨g2, 0, none⟩) N N) ∧ wr.drew.cell? ⟨w.heap.size, 1, none⟩ = some (.slice (some ⟨bB, oB, none⟩) m d) ∧ wr.drew.cell? ⟨bB, oB + k, none⟩ = some (.int .i32 x)) := hide (⟨hcy, z1, hcx⟩)
      refine wp_region_U (fun b v => b = false → v.cell? ⟨ua12.heap.size, 1, none⟩ = some (.slice (some ⟨g2, 0, none⟩) N N) ∧ v.cell? ⟨w.heap.size, 1, none⟩ = some (.slice (some ⟨bB, oB, none⟩) m d) ∧ v.cell? ⟨bB, oB + k, none⟩ = some (.int .i32 x)) 34 (by kernel_rfl) ?_
      refine wpAnyU_take (i := 0) (oi := { dst := some 92, op := _, type := _, pos := _, after := _, guard := none }) (v := .pointer (some ⟨ua12.heap.size, 1, none⟩)) rfl (by kernel_rfl) (by kernel_rfl) (by kernel_rfl) (by kernel_rfl) (fun _ _ _ h => h) (yields_take rfl (fun w' hw => by obtain ⟨h1, h2, h3⟩ := hw.no (by kernel_rfl) rfl; go_simp)) (fun _ => hS0.out) ?_
      simp only [Act.put, List.setIfInBounds_toArray, List.set_cons_zero, List.set_cons_succ]
      refine wpAnyU_take (i := 1) (oi := { dst := some 93, op := _, type := _, pos := _, after := _, guard := none }) (v := .slice (some ⟨g2, 0, none⟩) N N) rfl (by kernel_rfl) (by kernel_rfl) (by kernel_rfl) (by kernel_rfl) (fun _ _ _ h => h) (yields_take rfl (fun w' hw => by obtain ⟨h1, h2, h3⟩ := hw.no (by kernel_rfl) rfl; go_simp)) (fun _ => hS0.out) ?_
      simp only [Act.put, List.setIfInBounds_toArray, List.set_cons_zero, List.set_cons_succ]
      refine wpAnyU_take (i := 2) (oi := { dst := some 94, op := _, type := _, pos := _, after := _, guard := none }) (v := .int .i64 (cc : Int)) rfl (by kernel_rfl) (by kernel_rfl) (by kernel_rfl) (by kernel_rfl) (fun _ _ _ h => h) (yields_take rfl (fun w' hw => by obtain ⟨h1, h2, h3⟩ := hw.no (by kernel_rfl) rfl; go_simp)) (fun _ => hS0.out) ?_
      simp only [Act.put, List.setIfInBounds_toArray, List.set_cons_zero, List.set_cons_succ]
      refine wpAnyU_take (i := 3) (oi := { dst := some 95, op := _, type := _, pos := _, after := _, guard := none }) (v := .int .i64 (H : Int)) rfl (by kernel_rfl) (by kernel_rfl) (by kernel_rfl) (by kernel_rfl) (fun _ _ _ h => h) (yields_take rfl (fun w' hw => by obtain ⟨h1, h2, h3⟩ := hw.no (by kernel_rfl) rfl; go_simp)) (fun _ => hS0.out) ?_
      simp only [Act.put, List.setIfInBounds_toArray, List.set_cons_zero, List.set_cons_succ]
      refine wpAnyU_take (i := 4) (oi := { dst := some 96, op := _, type := _, pos := _, after := _, guard := none }) (v := .int .i64 (pdn : Int)) rfl (by kernel_rfl) (by kernel_rfl) (by kernel_rfl) (by kernel_rfl) (fun _ _ _ h => h) (yields_take rfl (fun w' hw => by obtain ⟨h1, h2, h3⟩ := hw.no (by kernel_rfl) rfl; go_simp)) (fun _ => hS0.out) ?_
      simp only [Act.put, List.setIfInBounds_toArray, List.set_cons_zero, List.set_cons_succ]
      refine wpAnyU_take (i := 5) (oi := { dst := some 97, op := _, type := _, pos := _, after := _, guard := none }) (v := .int .i64 (p2 : Int)) rfl (by kernel_rfl) (by kernel_rfl) (by kernel_rfl) (by kernel_rfl) (fun _ _ _ h => h) (yields_take rfl (fun w' hw => by obtain ⟨h1, h2, h3⟩ := hw.no (by kernel_rfl) rfl; go_simp)) (fun _ => hS0.out) ?_
      simp only [Act.put, List.setIfInBounds_toArray, List.set_cons_zero, List.set_cons_succ]
      refine wpAnyU_take (i := 6) (oi := { dst := some 98, op := _, type := _, pos := _, after := _, guard := none }) (v := .int .i64 (H2 : Int)) rfl (by kernel_rfl) (by kernel_rfl) (by kernel_rfl) (by kernel_rfl) (fun _ _ _ h => h) (yields_take rfl (fun w' hw => by obtain ⟨h1, h2, h3⟩ := hw.no (by kernel_rfl) rfl; go_simp)) (fun _ => hS0.out) ?_
      simp only [Act.put, List.setIfInBounds_toArray, List.set_cons_zero, List.set_cons_succ]
      refine wpAnyU_take (i := 7) (oi := { dst := some 99, op := _, type := _, pos := _, after := _, guard := none }) (v := .int .i64 (b1 : Int)) rfl (by kernel_rfl) (by kernel_rfl) (by kernel_rfl) (by kernel_rfl) (fun _ _ _ h => h) (yields_take rfl (fun w' hw => by obtain ⟨h1, h2, h3⟩ := hw.no (by kernel_rfl) rfl; go_simp)) (fun _ => hS0.out) ?_
      simp only [Act.put, List.setIfInBounds_toArray, List.set_cons_zero, List.set_cons_succ]
      refine wpAnyU_take (i := 8) (oi := { dst := some 100, op := _, type := _, pos := _, after := _, guard := none }) (v := .int .i64 (k : Int)) rfl (by kernel_rfl) (by kernel_rfl) (by kernel_rfl) (by kernel_rfl) (fun _ _ _ h => h) (yields_take rfl (fun w' hw => by obtain ⟨h1, h2, h3⟩ := hw.no (by kernel_rfl) rfl; go_simp)) (fun _ => hS0.out) ?_
      simp only [Act.put, List.setIfInBounds_toArray, List.set_cons_zero, List.set_cons_succ]
      refine wpAnyU_take (i := 9) (oi := { dst := some 101, op := _, type := _, pos := _, after := _, guard := none }) (v := .int .i64 (V : Int)) rfl (by kernel_rfl) (by kernel_rfl) (by kernel_rfl) (by kernel_rfl) (fun _ _ _ h => h) (yields_take rfl (fun w' hw => by obtain ⟨h1, h2, h3⟩ := hw.no (by kernel_rfl) rfl; go_simp)) (fun _ => hS0.out) ?_
      simp only [Act.put, List.setIfInBounds_toArray, List.set_cons_zero, List.set_cons_succ]
      refine wpAnyU_take (i := 10) (oi := { dst := some 102, op := _, type := _, pos := _, after := _, guard := none }) (v := .int .i64 (kv : Int)) rfl (by kernel_rfl) (by kernel_rfl) (by kernel_rfl) (by kernel_rfl) (fun _ _ _ h => h) (yields_take rfl (fun w' hw => by obtain ⟨h1, h2, h3⟩ := hw.no (by kernel_rfl) rfl; go_simp)) (fun _ => hS0.out) ?_
      simp only [Act.put, List.setIfInBounds_toArray, List.set_cons_zero, List.set_cons_succ]
      refine wpAnyU_take (i := 11) (oi := { dst := some 103, op := _, type := _, pos := _, after := _, guard := none }) (v := .int .i64 (H : Int)) rfl (by kernel_rfl) (by kernel_rfl) (by kernel_rfl) (by kernel_rfl) (fun _ _ _ h => h) (yields_take rfl (fun w' hw => by obtain ⟨h1, h2, h3⟩ := hw.no (by kernel_rfl) rfl; go_simp)) (fun _ => hS0.out) ?_
      simp only [Act.put, List.setIfInBounds_toArray, List.set_cons_zero, List.set_cons_succ]
      refine wpAnyU_take (i := 12) (oi := { dst := some 104, op := _, type := _, pos := _, after := _, guard := none }) (v := .int .i64 (yy : Int)) rfl (by kernel_rfl) (by kernel_rfl) (by kernel_rfl) (by kernel_rfl) (fun _ _ _ h => h) (yields_take rfl (fun w' hw => by obtain ⟨h1, h2, h3⟩ := hw.no (by kernel_rfl) rfl; go_simp)) (fun _ => hS0.out) ?_
      simp only [Act.put, List.setIfInBounds_toArray, List.set_cons_zero, List.set_cons_succ]
      refine wpAnyU_take (i := 13) (oi := { dst := some 105, op := _, type := _, pos := _, after := _, guard := none }) (v := .int .i64 (b2 : Int)) rfl (by kernel_rfl) (by kernel_rfl) (by kernel_rfl) (by kernel_rfl) (fun _ _ _ h => h) (yields_take rfl (fun w' hw => by obtain ⟨h1, h2, h3⟩ := hw.no (by kernel_rfl) rfl; go_simp)) (fun _ => hS0.out) ?_
      simp only [Act.put, List.setIfInBounds_toArray, List.set_cons_zero, List.set_cons_succ]
      refine wpAnyU_take (i := 14) (oi := { dst := some 106, op := _, type := _, pos := _, after := _, guard := none }) (v := .int .i64 (pdn : Int)) rfl (by kernel_rfl) (by kernel_rfl) (by kernel_rfl) (by kernel_rfl) (fun _ _ _ h => h) (yields_take rfl (fun w' hw => by obtain ⟨h1, h2, h3⟩ := hw.no (by kernel_rfl) rfl; go_simp)) (fun _ => hS0.out) ?_
      simp only [Act.put, List.setIfInBounds_toArray, List.set_cons_zero, List.set_cons_succ]
      refine wpAnyU_take (i := 15) (oi := { dst := some 107, op := _, type := _, pos := _, after := _, guard := none }) (v := .int .i64 (b3 : Int)) rfl (by kernel_rfl) (by kernel_rfl) (by kernel_rfl) (by kernel_rfl) (fun _ _ _ h => h) (yields_take rfl (fun w' hw => by obtain ⟨h1, h2, h3⟩ := hw.no (by kernel_rfl) rfl; go_simp)) (fun _ => hS0.out) ?_
      simp only [Act.put, List.setIfInBounds_toArray, List.set_cons_zero, List.set_cons_succ]
      refine wpAnyU_take (i := 16) (oi := { dst := some 108, op := _, type := _, pos := _, after := _, guard := none }) (v := .int .i64 (V : Int)) rfl (by kernel_rfl) (by kernel_rfl) (by kernel_rfl) (by kernel_rfl) (fun _ _ _ h => h) (yields_take rfl (fun w' hw => by obtain ⟨h1, h2, h3⟩ := hw.no (by kernel_rfl) rfl; go_simp)) (fun _ => hS0.out) ?_
      simp only [Act.put, List.setIfInBounds_toArray, List.set_cons_zero, List.set_cons_succ]
      refine wpAnyU_take (i := 17) (oi := { dst := some 109, op := _, type := _, pos := _, after := _, guard := none }) (v := .int .i64 (pdn : Int)) rfl (by kernel_rfl) (by kernel_rfl) (by kernel_rfl) (by kernel_rfl) (fun _ _ _ h => h) (yields_take rfl (fun w' hw => by obtain ⟨h1, h2, h3⟩ := hw.no (by kernel_rfl) rfl; go_simp)) (fun _ => hS0.out) ?_
      simp only [Act.put, List.setIfInBounds_toArray, List.set_cons_zero, List.set_cons_succ]
      refine wpAnyU_take (i := 18) (oi := { dst := some 110, op := _, type := _, pos := _, after := _, guard := none }) (v := .int .i64 (p2 : Int)) rfl (by kernel_rfl) (by kernel_rfl) (by kernel_rfl) (by kernel_rfl) (fun _ _ _ h => h) (yields_take rfl (fun w' hw => by obtain ⟨h1, h2, h3⟩ := hw.no (by kernel_rfl) rfl; go_simp)) (fun _ => hS0.out) ?_
      simp only [Act.put, List.setIfInBounds_toArray, List.set_cons_zero, List.set_cons_succ]
      refine wpAnyU_take (i := 19) (oi := { dst := some 111, op := _, type := _, pos := _, after := _, guard := none }) (v := .int .i64 (V2 : Int)) rfl (by kernel_rfl) (by kernel_rfl) (by kernel_rfl) (by kernel_rfl) (fun _ _ _ h => h) (yields_take rfl (fun w' hw => by obtain ⟨h1, h2, h3⟩ := hw.no (by kernel_rfl) rfl; go_simp)) (fun _ => hS0.out) ?_
      simp only [Act.put, List.setIfInBounds_toArray, List.set_cons_zero, List.set_cons_succ]
      refine wpAnyU_take (i := 20) (oi := { dst := some 112, op := _, type := _, pos := _, after := _, guard := none }) (v := .int .i64 (b4 : Int)) rfl (by kernel_rfl) (by kernel_rfl) (by kernel_rfl) (by kernel_rfl) (fun _ _ _ h => h) (yields_take rfl (fun w' hw => by obtain ⟨h1, h2, h3⟩ := hw.no (by kernel_rfl) rfl; go_simp)) (fun _ => hS0.out) ?_
      simp only [Act.put, List.setIfInBounds_toArray, List.set_cons_zero, List.set_cons_succ]
      refine wpAnyU_take (i := 21) (oi := { dst := some 113, op := _, type := _, pos := _, after := _, guard := none }) (v := .int .i64 (k : Int)) rfl (by kernel_rfl) (by kernel_rfl) (by kernel_rfl) (by kernel_rfl) (fun _ _ _ h => h) (yields_take rfl (fun w' hw => by obtain ⟨h1, h2, h3⟩ := hw.no (by kernel_rfl) rfl; go_simp)) (fun _ => hS0.out) ?_
      simp only [Act.put, List.setIfInBounds_toArray, List.set_cons_zero, List.set_cons_succ]
      refine wpAnyU_take (i := 22) (oi := { dst := some 114, op := _, type := _, pos := _, after := _, guard := none }) (v := .int .i64 (V : Int)) rfl (by kernel_rfl) (by kernel_rfl) (by kernel_rfl) (by kernel_rfl) (fun _ _ _ h => h) (yields_take rfl (fun w' hw => by obtain ⟨h1, h2, h3⟩ := hw.no (by kernel_rfl) rfl; go_simp)) (fun _ => hS0.out) ?_
      simp only [Act.put, List.setIfInBounds_toArray, List.set_cons_zero, List.set_cons_succ]
      refine wpAnyU_take (i := 23) (oi := { dst := some 115, op := _, type := _, pos := _, after := _, guard := none }) (v := .int .i64 (xx : Int)) rfl (by kernel_rfl) (by kernel_rfl) (by kernel_rfl) (by kernel_rfl) (fun _ _ _ h => h) (yields_take rfl (fun w' hw => by obtain ⟨h1, h2, h3⟩ := hw.no (by kernel_rfl) rfl; go_simp)) (fun _ => hS0.out) ?_
      simp only [Act.put, List.setIfInBounds_toArray, List.set_cons_zero, List.set_cons_succ]
      refine wpAnyU_take (i := 24) (oi := { dst := some 116, op := _, type := _, pos := _, after := _, guard := none }) (v := .int .i64 (b5 : Int)) rfl (by kernel_rfl) (by kernel_rfl) (by kernel_rfl) (by kernel_rfl) (fun _ _ _ h => h) (yields_take rfl (fun w' hw => by obtain ⟨h1, h2, h3⟩ := hw.no (by kernel_rfl) rfl; go_simp)) (fun _ => hS0.out) ?_
      simp only [Act.put, List.setIfInBounds_toArray, List.set_cons_zero, List.set_cons_succ]
      refine wpAnyU_take (i := 25) (oi := { dst := some 117, op := _, type := _, pos := _, after := _, guard := none }) (v := .int .i64 (pdn : Int)) rfl (by kernel_rfl) (by kernel_rfl) (by kernel_rfl) (by kernel_rfl) (fun _ _ _ h => h) (yields_take rfl (fun w' hw => by obtain ⟨h1, h2, h3⟩ := hw.no (by kernel_rfl) rfl; go_simp)) (fun _ => hS0.out) ?_
      simp only [Act.put, List.setIfInBounds_toArray, List.set_cons_zero, List.set_cons_succ]
      refine wpAnyU_take (i := 26) (oi := { dst := some 118, op := _, type := _, pos := _, after := _, guard := none }) (v := .int .i64 (P : Int)) rfl (by kernel_rfl) (by kernel_rfl) (by kernel_rfl) (by kernel_rfl) (fun _ _ _ h => h) (yields_take rfl (fun w' hw => by obtain ⟨h1, h2, h3⟩ := hw.no (by kernel_rfl) rfl; go_simp)) (fun _ => hS0.out) ?_
      simp only [Act.put, List.setIfInBounds_toArray, List.set_cons_zero, List.set_cons_succ]
      refine wpAnyU_take (i := 27) (oi := { dst := some 119, op := _, type := _, pos := _, after := _, guard := none }) (v := .pointer (some ⟨w.heap.size, 0, none⟩)) rfl (by kernel_rfl) (by kernel_rfl) (by kernel_rfl) (by kernel_rfl) (fun _ _ _ h => h) (yields_take rfl (fun w' hw => by obtain ⟨h1, h2, h3⟩ := hw.no (by kernel_rfl) rfl; go_simp)) (fun _ => hS0.out) ?_
      simp only [Act.put, List.setIfInBounds_toArray, List.set_cons_zero, List.set_cons_succ]
      refine wpAnyU_take (i := 28) (oi := { dst := some 120, op := _, type := _, pos := _, after := _, guard := none }) (v := .pointer (some ⟨w.heap.size, 1, none⟩)) rfl (by kernel_rfl) (by kernel_rfl) (by kernel_rfl) (by kernel_rfl) (fun _ _ _ h => h) (yields_take rfl (fun w' hw => by obtain ⟨h1, h2, h3⟩ := hw.no (by kernel_rfl) rfl; go_simp)) (fun _ => hS0.out) ?_
      simp only [Act.put, List.setIfInBounds_toArray, List.set_cons_zero, List.set_cons_succ]
      refine wpAnyU_take (i := 29) (oi := { dst := some 121, op := _, type := _, pos := _, after := _, guard := none }) (v := .slice (some ⟨bB, oB, none⟩) m d) rfl (by kernel_rfl) (by kernel_rfl) (by kernel_rfl) (by kernel_rfl) (fun _ _ _ h => h) (yields_take rfl (fun w' hw => by obtain ⟨h1, h2, h3⟩ := hw.no (by kernel_rfl) rfl; go_simp)) (fun _ => hS0.out) ?_
      simp only [Act.put, List.setIfInBounds_toArray, List.set_cons_zero, List.set_cons_succ]
      refine wpAnyU_take (i := 30) (oi := { dst := some 122, op := _, type := _, pos := _, after := _, guard := none }) (v := .int .i64 (k : Int)) rfl (by kernel_rfl) (by kernel_rfl) (by kernel_rfl) (by kernel_rfl) (fun _ _ _ h => h) (yields_take rfl (fun w' hw => by obtain ⟨h1, h2, h3⟩ := hw.no (by kernel_rfl) rfl; go_simp)) (fun _ => hS0.out) ?_
      simp only [Act.put, List.setIfInBounds_toArray, List.set_cons_zero, List.set_cons_succ]
      refine wpAnyU_take (i := 31) (oi := { dst := some 123, op := _, type := _, pos := _, after := _, guard := none }) (v := .pointer (some ⟨bB, oB + k, none⟩)) rfl (by kernel_rfl) (by kernel_rfl) (by kernel_rfl) (by kernel_rfl) (fun _ _ _ h => h) (yields_take rfl (fun w' hw => by obtain ⟨h1, h2, h3⟩ := hw.no (by kernel_rfl) rfl; go_simp)) (fun _ => hS0.out) ?_
      simp only [Act.put, List.setIfInBounds_toArray, List.set_cons_zero, List.set_cons_succ]
      refine wpAnyU_take (i := 32) (oi := { dst := some 124, op := _, type := _, pos := _, after := _, guard := none }) (v := .int .i32 x) rfl (by kernel_rfl) (by kernel_rfl) (by kernel_rfl) (by kernel_rfl) (fun _ _ _ h => h) (yields_take rfl (fun w' hw => by obtain ⟨h1, h2, h3⟩ := hw.no (by kernel_rfl) rfl; go_simp)) (fun _ => hS0.out) ?_
      simp only [Act.put, List.setIfInBounds_toArray, List.set_cons_zero, List.set_cons_succ]
      refine wpAnyU_take (i := 33) (oi := { dst := some 125, op := _, type := _, pos := _, after := _, guard := none }) (v := .pointer (some ⟨g2, P, none⟩)) rfl (by kernel_rfl) (by kernel_rfl) (by kernel_rfl) (by kernel_rfl) (fun _ _ _ h => h) (yields_take rfl (fun w' hw => by obtain ⟨h1, h2, h3⟩ := hw.no (by kernel_rfl) rfl; go_simp)) (fun _ => hS0.out) ?_
      simp only [Act.put, List.setIfInBounds_toArray, List.set_cons_zero, List.set_cons_succ]
      refine wpAnyU_one (i := 34) (by kernel_rfl) rfl ?_
      intro K hK
      go_simp
      refine hK _ _ (fun h => by cases h) (fun _ => ?_)
      clear hK K
      refine wpAnyU_done (by kernel_rfl) ?_ _
      clear hS0
      have HO2 : Hid ((wr.drew.setCell ⟨g2, P, none⟩ (.int .i32 x)).ownsRow V6.heap.size 21 1 (.slice (some ⟨g2, 0, none⟩) N N) N ((wid8 l H V pdn N (k + 1)).map (Value.int .i32))) := hide (by
        have h := own_set8 (v := .int .i32 x) (own_below HO.out (below_drewN (Below.refl _ _) 1)) hpl
        have e : ((wid8 l H V pdn N k).map (Value.int .i32)).set P (.int .i32 x) = (wid8 l H V pdn N (k + 1)).map (Value.int .i32) := by
          rw [HP.out, HXV.out, wid8_set]
        rwa [e] at h)
      have HX2 : Hid (BoxT (wr.drew.setCell ⟨g2, P, none⟩ (.int .i32 x)) ua12.heap.size (.slice (some ⟨g1, 0, none⟩) 3 c1) (.slice (some ⟨g2, 0, none⟩) N N)) := hide ((Below.heap_setCell _ _ _ _ (by dsimp only; exact HNE.out.2)).trans HX.out)
      have HS2 : Hid (Lies (wr.drew.setCell ⟨g2, P, none⟩ (.int .i32 x)) (some ⟨g1, 0, none⟩) 3 (([(C : Int), (H2 : Int), (V2 : Int)] : List Int).map (Value.int .i64))) := hide (HS.out.keep (by simp) (fun b o e hb j => by cases e; exact World.cell?_of_block (Below.heap_setCell _ _ _ _ (by dsimp only; exact HNE.out.1))))
      have HE3 : Hid (Below V6.heap.size V6 (wr.drew.setCell ⟨g2, P, none⟩ (.int .i32 x))) := hide (hd1.setCell (by dsimp only; exact own_ge8 HO.out) _)
      clear hf1 hf2 hg1 hd1 hcx hcy m1 m2 m2' m3 m4 m5 m6 m7 m8 m9 m10 m11 m12 m13 m14 m15 m16 m17 m18
      clear z0 z1 z2 z3 z4 z5 za0 za1 za2 zs0 zs2 zs3
      go_wp2
      go_roundw
      case rel => exact ⟨k + 1, by omega, by go_num, HX2, HS2, HO2, HE3⟩
      case measure => simp [intOf]; omega
    · obtain rfl : m = k := by omega
      obtain ⟨WZ, hWZ⟩ : ∃ z : List Int, z = wid8 l H V pdn N m := ⟨_, rfl⟩
      have HOZ : Hid (wr.ownsRow V6.heap.size 21 1 (.slice (some ⟨g2, 0, none⟩) N N) N ((WZ).map (Value.int .i32))) := hide (by rw [hWZ]; exact HO.out)
      have HWL : Hid (winL WZ l' C H2 V2 O a b stn 0 Y X = L) := hide (by
        rw [hWZ, HN.out, HH2.out, HV2.out, HM3.out, win_wid (by omega) (by omega), ← HL1.out])
      have HT_v : Hid (TenAt wr ua12.heap.size (some ⟨g1, 0, none⟩) (some ⟨g2, 0, none⟩) 3 c1 N N [(C : Int), (H2 : Int), (V2 : Int)] WZ) := hide ⟨HX.out, HS.out, lies_of_own HOZ.out⟩
      have hb := HE.out
      clear hWZ HCZ
      clear z0 z1 z2 z3 z4 z5 za0 za1 za2 zs0 zs2 zs3
      replace HT_z := hide (HT_z.out.kept hb)
      replace HT_x := hide (HT_x.out.kept hb)
      replace HBW := hide (HBW.out.trans (hb.mono HBW.out.size))
      clear hb HX HS HO HE HOZ HNE
      obtain ⟨hsE2, hsL2⟩ := shp_wide8 HSE.out HSL.out HH2.out HV2.out HZZ.out
      have hcon := wof_ok (some ⟨g1, 0, none⟩) (some ⟨g2, 0, none⟩) (some ⟨bS, oS, none⟩) (some ⟨bW, oW, none⟩) c1 N N c' m' d' C H2 V2 O a b Y X stn 0 WZ l' wr HT_v.out.S HT_v.out.L HT_z.out.S' HT_z.out.L' HKW.out HK'.out hcap hsE2 hsL2
      rw [HWL.out, ← HQ.out] at hcon
      clear hsE2 hsL2
      have cxz0 := HT_z.out.c0
      have cxz1 := HT_z.out.c1
      have cxz2 := HT_z.out.c2
      have cxz3 := HT_z.out.c3
      have cxz4 := HT_z.out.c4
      have cxz5 := HT_z.out.c5
      have cxz6 := HT_z.out.c6
      have cxv0 := HT_v.out.c0
      have cxv1 := HT_v.out.c1
      go_wp2_with fail
      refine Calls.mono (hcon) ?_
      rintro e ua14 ⟨g1y, c1y, g2y, rfl, ho1, ho2, _, hb0⟩
      obtain ⟨V15, hV15⟩ : ∃ W, W = ua14.alloc (.cells #[.slice (some ⟨g1y, 0, none⟩) 3 c1y, .slice (some ⟨g2y, 0, none⟩) Q Q] 25) := ⟨_, rfl⟩
      have HT_y : Hid (TenAt V15 ua14.heap.size (some ⟨g1y, 0, none⟩) (some ⟨g2y, 0, none⟩) 3 c1y Q Q [(O : Int), (Y : Int), (X : Int)] L) := hide (by rw [hV15]; exact TenAt.made ho1 ho2)
      have hb : Below wr.heap.size wr V15 := by rw [hV15]; exact below_al6 hb0
      replace HT_z := hide (HT_z.out.kept hb)
      replace HT_x := hide (HT_x.out.kept hb)
      replace HT_v := hide (HT_v.out.kept hb)
      replace HBW := hide (HBW.out.trans (hb.mono HBW.out.size))
      have hV15' := hV15.symm
      clear cxz0 cxz1 cxz2 cxz3 cxz4 cxz5 cxz6 cxv0 cxv1 hV15 hb hb0 ho1 ho2
      have hlt_y := HT_y.out.1.lt
      clear hcon
      have cxx0 := HT_x.out.c0
      have cxx1 := HT_x.out.c1
      have cxy0 := HT_y.out.c0
      have cxy1 := HT_y.out.c1
      go_wp2_with fail
      refine Calls.mono (same8_any A1x A2x (some ⟨g1y, 0, none⟩) (some ⟨g2y, 0, none⟩) 3 c1x Q c2x 3 c1y Q Q [(O : Int), (Y : Int), (X : Int)] L [(O : Int), (Y : Int), (X : Int)] L 0 0 _ HT_x.out.S HT_x.out.L HT_y.out.S HT_y.out.L (by omega) (by omega) rfl) ?_
      rw [show decide ([(O : Int), (Y : Int), (X : Int)] = [(O : Int), (Y : Int), (X : Int)] ∧ L = L) = true from decide_eq_true ⟨rfl, rfl⟩]
      rintro e ua16 ⟨rfl, hb⟩
      replace HT_z := hide (HT_z.out.kept hb)
      replace HT_x := hide (HT_x.out.kept hb)
      replace HT_v := hide (HT_v.out.kept hb)
      replace HT_y := hide (HT_y.out.kept hb)
      replace HBW := hide (HBW.out.trans (hb.mono HBW.out.size))
      clear cxx0 cxx1 cxy0 cxy1 hb
      clear HT_v HT_y HWL
      clear Y1 Y2 Y3
      have HCZ : Hid (∀ v, Below ua16.heap.size ua16 v → v.cell? ⟨w.heap.size, 0, none⟩ = some (.slice (some ⟨bA, oA, none⟩) 3 c) ∧ v.cell? ⟨w.heap.size, 1, none⟩ = some (.slice (some ⟨bB, oB, none⟩) m d) ∧ v.cell? ⟨w.heap.size, 2, none⟩ = some (.slice (some ⟨bS, oS, none⟩) 4 c') ∧ v.cell? ⟨w.heap.size, 3, none⟩ = some (.slice (some ⟨bW, oW, none⟩) m' d') ∧ v.cell? ⟨w.heap.size, 4, none⟩ = some (.int .i64 (stn : Int)) ∧ v.cell? ⟨w.heap.size, 5, none⟩ = some (.int .i64 (pdn : Int)) ∧ v.cell? ⟨bA, oA, none⟩ = some (.int .i64 (C : Int)) ∧ v.cell? ⟨bA, oA + 1, none⟩ = some (.int .i64 (H : Int)) ∧ v.cell? ⟨bA, oA + 2, none⟩ = some (.int .i64 (V : Int)) ∧ v.cell? ⟨bS, oS, none⟩ = some (.int .i64 (O : Int)) ∧ v.cell? ⟨bS, oS + 2, none⟩ = some (.int .i64 (a : Int)) ∧ v.cell? ⟨bS, oS + 3, none⟩ = some (.int .i64 (b : Int))) := hide (fun v hv => by
        have hx := HT_z.out.kept hv
        obtain ⟨_, _, e1, _, x1⟩ := byte_at hx.S (by omega)
        cases e1
        obtain ⟨_, _, e2, _, x2⟩ := byte_at hx.S' (by omega)
        cases e2
        exact ⟨hx.c0, hx.c1, hx.c2, hx.c3, hx.c4, hx.c5, x1 0 (by omega), x1 1 (by omega), x1 2 (by omega), x2 0 (by omega), x2 2 (by omega), x2 3 (by omega)⟩)
      obtain ⟨NN, hNN⟩ : ∃ z, z = C * (a * b) := ⟨_, rfl⟩
      have hNm : m' = O * NN := by rw [hNN]; exact HM5.out
      have hNN1 : 1 ≤ NN := by rw [hNN]; exact Nat.mul_pos (by omega) (Nat.mul_pos (by omega) (by omega))
      have hNN2 : NN ≤ 4096 := by rw [hNm] at hm6; exact Nat.le_trans (Nat.le_mul_of_pos_left _ (by omega)) hm6
      have HNN := hide hNN
      have HNm := hide hNm
      obtain ⟨YX, hYX⟩ : ∃ z, z = Y * X := ⟨_, rfl⟩
      have HYX := hide hYX
      have hdv : m' / O = NN := by rw [hNm, Nat.mul_comm]; exact Nat.mul_div_cancel _ (by omega)
      have v1 : (m' : Int).tdiv (O : Int) = (NN : Int) := by rw [← hdv]; rfl
      have v2 : IntKind.i64.wrap (NN : Int) = (NN : Int) := by rw [IntKind.wrap_i64]; omega
      have n1 : ¬ (O : Int) = 0 := by omega
      have n1' : ¬ O = 0 := by omega
      have hd0 : Below ua16.heap.size ua16 ua16.drew := below_drewN (Below.refl _ _) 1
      clear hNN hNm hYX hdv
      have cxx0 := HT_x.out.c0
      have cxx1 := HT_x.out.c1
      go_wp2
      clear cxx0 cxx1
      have hS0 : Hid (ua16.drew.cell? ⟨w.heap.size, 2, none⟩ = some (.slice (some ⟨bS, oS, none⟩) 4 c') ∧ ua16.drew.cell? ⟨w.heap.size, 3, none⟩ = some (.slice (some ⟨bW, oW, none⟩) m' d') ∧ ua16.drew.cell? ⟨bS, oS, none⟩ = some (.int .i64 (O : Int))) := hide (by obtain ⟨_, _, a2, a3, _, _, _, _, _, s0, _, _⟩ := HCZ.out _ hd0; exact ⟨a2, a3, s0⟩)
      refine wp_region_U (fun _ v => v.cell? ⟨w.heap.size, 2, none⟩ = some (.slice (some ⟨bS, oS, none⟩) 4 c') ∧ v.cell? ⟨w.heap.size, 3, none⟩ = some (.slice (some ⟨bW, oW, none⟩) m' d') ∧ v.cell? ⟨bS, oS, none⟩ = some (.int .i64 (O : Int))) 99 (by kernel_rfl) ?_
      refine wpAnyU_take (i := 0) (oi := { dst := some 141, op := _, type := _, pos := _, after := _, guard := none }) (v := .pointer (some ⟨w.heap.size, 2, none⟩)) rfl (by kernel_rfl) (by kernel_rfl) (by kernel_rfl) (by kernel_rfl) (fun _ _ _ h => h) (yields_take rfl (fun w' hw => by obtain ⟨h1, h2, h3⟩ := hw.const; go_simp)) hS0.out ?_
      simp only [Act.put, List.setIfInBounds_toArray, List.set_cons_zero, List.set_cons_succ]
      refine wpAnyU_take (i := 1) (oi := { dst := some 142, op := _, type := _, pos := _, after := _, guard := none }) (v := .pointer (some ⟨w.heap.size, 3, none⟩)) rfl (by kernel_rfl) (by kernel_rfl) (by kernel_rfl) (by kernel_rfl) (fun _ _ _ h => h) (yields_take rfl (fun w' hw => by obtain ⟨h1, h2, h3⟩ := hw.const; go_simp)) hS0.out ?_
      simp only [Act.put, List.setIfInBounds_toArray, List.set_cons_zero, List.set_cons_succ]
      refine wpAnyU_take (i := 2) (oi := { dst := some 143, op := _, type := _, pos := _, after := _, guard := none }) (v := .slice (some ⟨bW, oW, none⟩) m' d') rfl (by kernel_rfl) (by kernel_rfl) (by kernel_rfl) (by kernel_rfl) (fun _ _ _ h => h) (yields_take rfl (fun w' hw => by obtain ⟨h1, h2, h3⟩ := hw.const; go_simp)) hS0.out ?_
      simp only [Act.put, List.setIfInBounds_toArray, List.set_cons_zero, List.set_cons_succ]
      refine wpAnyU_take (i := 3) (oi := { dst := some 144, op := _, type := _, pos := _, after := _, guard := none }) (v := .int .i64 (m' : Int)) rfl (by kernel_rfl) (by kernel_rfl) (by kernel_rfl) (by kernel_rfl) (fun _ _ _ h => h) (yields_take rfl (fun w' hw => by obtain ⟨h1, h2, h3⟩ := hw.const; go_simp)) hS0.out ?_
      simp only [Act.put, List.setIfInBounds_toArray, List.set_cons_zero, List.set_cons_succ]
      refine wpAnyU_take (i := 4) (oi := { dst := some 145, op := _, type := _, pos := _, after := _, guard := none }) (v := .pointer (some ⟨w.heap.size, 2, none⟩)) rfl (by kernel_rfl) (by kernel_rfl) (by kernel_rfl) (by kernel_rfl) (fun _ _ _ h => h) (yields_take rfl (fun w' hw => by obtain ⟨h1, h2, h3⟩ := hw.const; go_simp)) hS0.out ?_
      simp only [Act.put, List.setIfInBounds_toArray, List.set_cons_zero, List.set_cons_succ]
      refine wpAnyU_take (i := 5) (oi := { dst := some 146, op := _, type := _, pos := _, after := _, guard := none }) (v := .pointer (some ⟨w.heap.size, 2, none⟩)) rfl (by kernel_rfl) (by kernel_rfl) (by kernel_rfl) (by kernel_rfl) (fun _ _ _ h => h) (yields_take rfl (fun w' hw => by obtain ⟨h1, h2, h3⟩ := hw.const; go_simp)) hS0.out ?_
      simp only [Act.put, List.setIfInBounds_toArray, List.set_cons_zero, List.set_cons_succ]
      refine wpAnyU_take (i := 6) (oi := { dst := some 147, op := _, type := _, pos := _, after := _, guard := none }) (v := .slice (some ⟨bS, oS, none⟩) 4 c') rfl (by kernel_rfl) (by kernel_rfl) (by kernel_rfl) (by kernel_rfl) (fun _ _ _ h => h) (yields_take rfl (fun w' hw => by obtain ⟨h1, h2, h3⟩ := hw.const; go_simp)) hS0.out ?_
      simp only [Act.put, List.setIfInBounds_toArray, List.set_cons_zero, List.set_cons_succ]
      refine wpAnyU_take (i := 7) (oi := { dst := some 148, op := _, type := _, pos := _, after := _, guard := none }) (v := .pointer (some ⟨bS, oS, none⟩)) rfl (by kernel_rfl) (by kernel_rfl) (by kernel_rfl) (by kernel_rfl) (fun _ _ _ h => h) (yields_take rfl (fun w' hw => by obtain ⟨h1, h2, h3⟩ := hw.const; go_simp)) hS0.out ?_
      simp only [Act.put, List.setIfInBounds_toArray, List.set_cons_zero, List.set_cons_succ]
      refine wpAnyU_take (i := 8) (oi := { dst := some 149, op := _, type := _, pos := _, after := _, guard := none }) (v := .int .i64 (O : Int)) rfl (by kernel_rfl) (by kernel_rfl) (by kernel_rfl) (by kernel_rfl) (fun _ _ _ h => h) (yields_take rfl (fun w' hw => by obtain ⟨h1, h2, h3⟩ := hw.const; go_simp)) hS0.out ?_
      simp only [Act.put, List.setIfInBounds_toArray, List.set_cons_zero, List.set_cons_succ]
      refine wpAnyU_take (i := 9) (oi := { dst := some 150, op := _, type := _, pos := _, after := _, guard := none }) (v := .int .i64 (NN : Int)) rfl (by kernel_rfl) (by kernel_rfl) (by kernel_rfl) (by kernel_rfl) (fun _ _ _ h => h) (yields_take rfl (fun w' hw => by obtain ⟨h1, h2, h3⟩ := hw.const; go_simp)) hS0.out ?_
      simp only [Act.put, List.setIfInBounds_toArray, List.set_cons_zero, List.set_cons_succ]
      refine wpAnyU_take (i := 10) (oi := { dst := some 15, op := _, type := _, pos := _, after := _, guard := none }) (v := .int .i64 (NN : Int)) rfl (by kernel_rfl) (by kernel_rfl) (by kernel_rfl) (by kernel_rfl) (fun _ _ _ h => h) (yields_take rfl (fun w' hw => by obtain ⟨h1, h2, h3⟩ := hw.const; go_simp)) hS0.out ?_
      simp only [Act.put, List.setIfInBounds_toArray, List.set_cons_zero, List.set_cons_succ]
      refine wpAnyU_done (by kernel_rfl) ?_ _
      clear hS0
      have HD0 := hide hd0
      clear hd0 v1 v2 n1 n1'
      go_wp2
      go_loopw [16, 17] (fun v i wr => ∃ (o k c3 : Nat) (A3 : Option Addr), o ≤ O ∧ i = .int .i64 o ∧ v = .slice A3 k c3 ∧ Hid (wr.ownsRow ua16.heap.size 21 1 (.slice A3 k c3) k ((L.take (o * YX)).map (Value.int .i32))) ∧ Hid (Below ua16.heap.size ua16 wr)) (fun _ i _ => O - (intOf i).toNat)
      case atStart => exact ⟨0, 0, 0, none, Nat.zero_le _, rfl, rfl, hide (by rw [Nat.zero_mul, List.take_zero]; exact World.ownsRow_nil _ _ _ _), HD0⟩
      case round =>
        clear HD0
        obtain ⟨o, k, c3, A3, ho, rfl, rfl, HO, HE⟩ := hrel
        have hb := HE.out
        obtain ⟨z0, z1, z2, z3, z4, z5, za0, za1, za2, zs0, zs2, zs3⟩ := HCZ.out _ HE.out
        clear HCZ
        replace HT_z := hide (HT_z.out.kept hb)
        replace HT_x := hide (HT_x.out.kept hb)
        replace HBW := hide (HBW.out.trans (hb.mono HBW.out.size))
        clear hb
        have HBR := hide (Below.refl wr.heap.size wr)
        by_cases hlt : o < O
        · have h0 : (0 : Int) ≤ (o : Int) := by omega
          have h3 : (o : Int) < (O : Int) := by omega
          obtain ⟨oN, hoN⟩ : ∃ z, z = o * NN := ⟨_, rfl⟩
          have ho1 : oN + NN ≤ m' := by rw [hoN, HNm.out, ← Nat.succ_mul]; exact Nat.mul_le_mul_right _ hlt
          obtain ⟨o1, ho1'⟩ : ∃ z, z = oN + NN := ⟨_, rfl⟩
          have HON := hide hoN
          have v1 : IntKind.i64.wrap ((o : Int) * (NN : Int)) = (oN : Int) := by rw [← Int.natCast_mul, ← hoN, IntKind.wrap_i64]; omega
          have v2 : IntKind.i64.wrap ((oN : Int) + (NN : Int)) = (o1 : Int) := by rw [IntKind.wrap_i64]; omega
          have v3 : (0 : Int) ≤ (oN : Int) := by omega
          have v4 : (oN : Int) ≤ (o1 : Int) := by omega
          have v5 : (o1 : Int) ≤ (d' : Int) := by omega
          have v6 : oN ≤ o1 := by omega
          have v7 : o1 ≤ d' := by omega
          have v8 : o1 - oN = NN := by omega
          have v9 : ¬ d' = oN := by omega
          clear hoN ho1'
          go_wp2
          go_cut [18] from 160 to 184 (fun s1 wc => ∃ pb bL, s1 = .pointer (some ⟨pb, 0, none⟩) ∧ Hid (BoxT wc pb (.slice (some ⟨bL, 0, none⟩) 4 4) (.slice (some ⟨bW, oW + oN, none⟩) NN (d' - oN))) ∧ Hid (Lies wc (some ⟨bL, 0, none⟩) 4 (([((1 : Nat) : Int), (C : Int), (a : Int), (b : Int)] : List Int).map (Value.int .i64))) ∧ Hid (Below wr.heap.size wr wc))
          case first =>
            have HCY : Hid (∀ v, Below wr.heap.size wr v → v.cell? ⟨w.heap.size, 2, none⟩ = some (.slice (some ⟨bS, oS, none⟩) 4 c') ∧ v.cell? ⟨w.heap.size, 3, none⟩ = some (.slice (some ⟨bW, oW, none⟩) m' d') ∧ v.cell? ⟨bS, oS + 2, none⟩ = some (.int .i64 (a : Int)) ∧ v.cell? ⟨bS, oS + 3, none⟩ = some (.int .i64 (b : Int))) := hide (fun v hv => by
              have hx := HT_z.out.kept hv
              obtain ⟨_, _, e2, _, x2⟩ := byte_at hx.S' (by omega)
              cases e2
              exact ⟨hx.c2, hx.c3, x2 2 (by omega), x2 3 (by omega)⟩)
            clear z0 z1 z2 z3 z4 z5 za0 za1 za2 zs0 zs2 zs3
            have he := Below.refl wr.heap.size wr
            have hS0 : Hid (wr.drew.cell? ⟨w.heap.size, 2, none⟩ = some (.slice (some ⟨bS, oS, none⟩) 4 c') ∧ wr.drew.cell? ⟨w.heap.size, 3, none⟩ = some (.slice (some ⟨bW, oW, none⟩) m' d') ∧ wr.drew.cell? ⟨bS, oS + 2, none⟩ = some (.int .i64 (a : Int)) ∧ wr.drew.cell? ⟨bS, oS + 3, none⟩ = some (.int .i64 (b : Int))) := hide (HCY.out _ (below_drewN (Below.refl _ _) 1))
            refine wp_region_U (fun _ v => v.cell? ⟨w.heap.size, 2, none⟩ = some (.slice (some ⟨bS, oS, none⟩) 4 c') ∧ v.cell? ⟨w.heap.size, 3, none⟩ = some (.slice (some ⟨bW, oW, none⟩) m' d') ∧ v.cell? ⟨bS, oS + 2, none⟩ = some (.int .i64 (a : Int)) ∧ v.cell? ⟨bS, oS + 3, none⟩ = some (.int .i64 (b : Int))) 99 (by kernel_rfl) ?_
            refine wpAnyU_take (i := 0) (oi := { dst := some 160, op := _, type := _, pos := _, after := _, guard := none }) (v := .int .i64 (C : Int)) rfl (by kernel_rfl) (by kernel_rfl) (by kernel_rfl) (by kernel_rfl) (fun _ _ _ h => h) (yields_take rfl (fun w' hw => by obtain ⟨h1, h2, h3, h4⟩ := hw.const; go_simp)) hS0.out ?_
            simp only [Act.put, List.setIfInBounds_toArray, List.set_cons_zero, List.set_cons_succ]
            refine wpAnyU_take (i := 1) (oi := { dst := some 161, op := _, type := _, pos := _, after := _, guard := none }) (v := .pointer (some ⟨w.heap.size, 2, none⟩)) rfl (by kernel_rfl) (by kernel_rfl) (by kernel_rfl) (by kernel_rfl) (fun _ _ _ h => h) (yields_take rfl (fun w' hw => by obtain ⟨h1, h2, h3, h4⟩ := hw.const; go_simp)) hS0.out ?_
            simp only [Act.put, List.setIfInBounds_toArray, List.set_cons_zero, List.set_cons_succ]
            refine wpAnyU_take (i := 2) (oi := { dst := some 162, op := _, type := _, pos := _, after := _, guard := none }) (v := .pointer (some ⟨w.heap.size, 2, none⟩)) rfl (by kernel_rfl) (by kernel_rfl) (by kernel_rfl) (by kernel_rfl) (fun _ _ _ h => h) (yields_take rfl (fun w' hw => by obtain ⟨h1, h2, h3, h4⟩ := hw.const; go_simp)) hS0.out ?_
            simp only [Act.put, List.setIfInBounds_toArray, List.set_cons_zero, List.set_cons_succ]
            refine wpAnyU_take (i := 3) (oi := { dst := some 163, op := _, type := _, pos := _, after := _, guard := none }) (v := .slice (some ⟨bS, oS, none⟩) 4 c') rfl (by kernel_rfl) (by kernel_rfl) (by kernel_rfl) (by kernel_rfl) (fun _ _ _ h => h) (yields_take rfl (fun w' hw => by obtain ⟨h1, h2, h3, h4⟩ := hw.const; go_simp)) hS0.out ?_
            simp only [Act.put, List.setIfInBounds_toArray, List.set_cons_zero, List.set_cons_succ]
            refine wpAnyU_take (i := 4) (oi := { dst := some 164, op := _, type := _, pos := _, after := _, guard := none }) (v := .pointer (some ⟨bS, oS + 2, none⟩)) rfl (by kernel_rfl) (by kernel_rfl) (by kernel_rfl) (by kernel_rfl) (fun _ _ _ h => h) (yields_take rfl (fun w' hw => by obtain ⟨h1, h2, h3, h4⟩ := hw.const; go_simp)) hS0.out ?_
            simp only [Act.put, List.setIfInBounds_toArray, List.set_cons_zero, List.set_cons_succ]
            refine wpAnyU_take (i := 5) (oi := { dst := some 165, op := _, type := _, pos := _, after := _, guard := none }) (v := .int .i64 (a : Int)) rfl (by kernel_rfl) (by kernel_rfl) (by kernel_rfl) (by kernel_rfl) (fun _ _ _ h => h) (yields_take rfl (fun w' hw => by obtain ⟨h1, h2, h3, h4⟩ := hw.const; go_simp)) hS0.out ?_
            simp only [Act.put, List.setIfInBounds_toArray, List.set_cons_zero, List.set_cons_succ]
            refine wpAnyU_take (i := 6) (oi := { dst := some 166, op := _, type := _, pos := _, after := _, guard := none }) (v := .pointer (some ⟨w.heap.size, 2, none⟩)) rfl (by kernel_rfl) (by kernel_rfl) (by kernel_rfl) (by kernel_rfl) (fun _ _ _ h => h) (yields_take rfl (fun w' hw => by obtain ⟨h1, h2, h3, h4⟩ := hw.const; go_simp)) hS0.out ?_
            simp only [Act.put, List.setIfInBounds_toArray, List.set_cons_zero, List.set_cons_succ]
            refine wpAnyU_take (i := 7) (oi := { dst := some 167, op := _, type := _, pos := _, after := _, guard := none }) (v := .pointer (some ⟨w.heap.size, 2, none⟩)) rfl (by kernel_rfl) (by kernel_rfl) (by kernel_rfl) (by kernel_rfl) (fun _ _ _ h => h) (yields_take rfl (fun w' hw => by obtain ⟨h1, h2, h3, h4⟩ := hw.const; go_simp)) hS0.out ?_
            simp only [Act.put, List.setIfInBounds_toArray, List.set_cons_zero, List.set_cons_succ]
            refine wpAnyU_take (i := 8) (oi := { dst := some 168, op := _, type := _, pos := _, after := _, guard := none }) (v := .slice (some ⟨bS, oS, none⟩) 4 c') rfl (by kernel_rfl) (by kernel_rfl) (by kernel_rfl) (by kernel_rfl) (fun _ _ _ h => h) (yields_take rfl (fun w' hw => by obtain ⟨h1, h2, h3, h4⟩ := hw.const; go_simp)) hS0.out ?_
            simp only [Act.put, List.setIfInBounds_toArray, List.set_cons_zero, List.set_cons_succ]
            refine wpAnyU_take (i := 9) (oi := { dst := some 169, op := _, type := _, pos := _, after := _, guard := none }) (v := .pointer (some ⟨bS, oS + 3, none⟩)) rfl (by kernel_rfl) (by kernel_rfl) (by kernel_rfl) (by kernel_rfl) (fun _ _ _ h => h) (yields_take rfl (fun w' hw => by obtain ⟨h1, h2, h3, h4⟩ := hw.const; go_simp)) hS0.out ?_
            simp only [Act.put, List.setIfInBounds_toArray, List.set_cons_zero, List.set_cons_succ]
            refine wpAnyU_take (i := 10) (oi := { dst := some 170, op := _, type := _, pos := _, after := _, guard := none }) (v := .int .i64 (b : Int)) rfl (by kernel_rfl) (by kernel_rfl) (by kernel_rfl) (by kernel_rfl) (fun _ _ _ h => h) (yields_take rfl (fun w' hw => by obtain ⟨h1, h2, h3, h4⟩ := hw.const; go_simp)) hS0.out ?_
            simp only [Act.put, List.setIfInBounds_toArray, List.set_cons_zero, List.set_cons_succ]
            refine wpAnyU_take (i := 12) (oi := { dst := some 172, op := _, type := _, pos := _, after := _, guard := none }) (v := .pointer (some ⟨w.heap.size, 2, none⟩)) rfl (by kernel_rfl) (by kernel_rfl) (by kernel_rfl) (by kernel_rfl) (fun _ _ _ h => h) (yields_take rfl (fun w' hw => by obtain ⟨h1, h2, h3, h4⟩ := hw.const; go_simp)) hS0.out ?_
            simp only [Act.put, List.setIfInBounds_toArray, List.set_cons_zero, List.set_cons_succ]
            refine wpAnyU_take (i := 13) (oi := { dst := some 173, op := _, type := _, pos := _, after := _, guard := none }) (v := .pointer (some ⟨w.heap.size, 3, none⟩)) rfl (by kernel_rfl) (by kernel_rfl) (by kernel_rfl) (by kernel_rfl) (fun _ _ _ h => h) (yields_take rfl (fun w' hw => by obtain ⟨h1, h2, h3, h4⟩ := hw.const; go_simp)) hS0.out ?_
            simp only [Act.put, List.setIfInBounds_toArray, List.set_cons_zero, List.set_cons_succ]
            refine wpAnyU_take (i := 14) (oi := { dst := some 174, op := _, type := _, pos := _, after := _, guard := none }) (v := .slice (some ⟨bW, oW, none⟩) m' d') rfl (by kernel_rfl) (by kernel_rfl) (by kernel_rfl) (by kernel_rfl) (fun _ _ _ h => h) (yields_take rfl (fun w' hw => by obtain ⟨h1, h2, h3, h4⟩ := hw.const; go_simp)) hS0.out ?_
            simp only [Act.put, List.setIfInBounds_toArray, List.set_cons_zero, List.set_cons_succ]
            refine wpAnyU_take (i := 15) (oi := { dst := some 175, op := _, type := _, pos := _, after := _, guard := none }) (v := .int .i64 (o : Int)) rfl (by kernel_rfl) (by kernel_rfl) (by kernel_rfl) (by kernel_rfl) (fun _ _ _ h => h) (yields_take rfl (fun w' hw => by obtain ⟨h1, h2, h3, h4⟩ := hw.const; go_simp)) hS0.out ?_
            simp only [Act.put, List.setIfInBounds_toArray, List.set_cons_zero, List.set_cons_succ]
            refine wpAnyU_take (i := 16) (oi := { dst := some 176, op := _, type := _, pos := _, after := _, guard := none }) (v := .int .i64 (NN : Int)) rfl (by kernel_rfl) (by kernel_rfl) (by kernel_rfl) (by kernel_rfl) (fun _ _ _ h => h) (yields_take rfl (fun w' hw => by obtain ⟨h1, h2, h3, h4⟩ := hw.const; go_simp)) hS0.out ?_
            simp only [Act.put, List.setIfInBounds_toArray, List.set_cons_zero, List.set_cons_succ]
            refine wpAnyU_take (i := 17) (oi := { dst := some 177, op := _, type := _, pos := _, after := _, guard := none }) (v := .int .i64 (oN : Int)) rfl (by kernel_rfl) (by kernel_rfl) (by kernel_rfl) (by kernel_rfl) (fun _ _ _ h => h) (yields_take rfl (fun w' hw => by obtain ⟨h1, h2, h3, h4⟩ := hw.const; go_simp)) hS0.out ?_
            simp only [Act.put, List.setIfInBounds_toArray, List.set_cons_zero, List.set_cons_succ]
            refine wpAnyU_take (i := 18) (oi := { dst := some 178, op := _, type := _, pos := _, after := _, guard := none }) (v := .int .i64 (o : Int)) rfl (by kernel_rfl) (by kernel_rfl) (by kernel_rfl) (by kernel_rfl) (fun _ _ _ h => h) (yields_take rfl (fun w' hw => by obtain ⟨h1, h2, h3, h4⟩ := hw.const; go_simp)) hS0.out ?_
            simp only [Act.put, List.setIfInBounds_toArray, List.set_cons_zero, List.set_cons_succ]
            refine wpAnyU_take (i := 19) (oi := { dst := some 179, op := _, type := _, pos := _, after := _, guard := none }) (v := .int .i64 (NN : Int)) rfl (by kernel_rfl) (by kernel_rfl) (by kernel_rfl) (by kernel_rfl) (fun _ _ _ h => h) (yields_take rfl (fun w' hw => by obtain ⟨h1, h2, h3, h4⟩ := hw.const; go_simp)) hS0.out ?_
            simp only [Act.put, List.setIfInBounds_toArray, List.set_cons_zero, List.set_cons_succ]
            refine wpAnyU_take (i := 20) (oi := { dst := some 180, op := _, type := _, pos := _, after := _, guard := none }) (v := .int .i64 (oN : Int)) rfl (by kernel_rfl) (by kernel_rfl) (by kernel_rfl) (by kernel_rfl) (fun _ _ _ h => h) (yields_take rfl (fun w' hw => by obtain ⟨h1, h2, h3, h4⟩ := hw.const; go_simp)) hS0.out ?_
            simp only [Act.put, List.setIfInBounds_toArray, List.set_cons_zero, List.set_cons_succ]
            refine wpAnyU_take (i := 21) (oi := { dst := some 181, op := _, type := _, pos := _, after := _, guard := none }) (v := .int .i64 (NN : Int)) rfl (by kernel_rfl) (by kernel_rfl) (by kernel_rfl) (by kernel_rfl) (fun _ _ _ h => h) (yields_take rfl (fun w' hw => by obtain ⟨h1, h2, h3, h4⟩ := hw.const; go_simp)) hS0.out ?_
            simp only [Act.put, List.setIfInBounds_toArray, List.set_cons_zero, List.set_cons_succ]
            refine wpAnyU_take (i := 22) (oi := { dst := some 182, op := _, type := _, pos := _, after := _, guard := none }) (v := .int .i64 (o1 : Int)) rfl (by kernel_rfl) (by kernel_rfl) (by kernel_rfl) (by kernel_rfl) (fun _ _ _ h => h) (yields_take rfl (fun w' hw => by obtain ⟨h1, h2, h3, h4⟩ := hw.const; go_simp)) hS0.out ?_
            simp only [Act.put, List.setIfInBounds_toArray, List.set_cons_zero, List.set_cons_succ]
            refine wpAnyU_take (i := 23) (oi := { dst := some 183, op := _, type := _, pos := _, after := _, guard := none }) (v := .slice (some ⟨bW, oW + oN, none⟩) NN (d' - oN)) rfl (by kernel_rfl) (by kernel_rfl) (by kernel_rfl) (by kernel_rfl) (fun _ _ _ h => h) (yields_take rfl (fun w' hw => by obtain ⟨h1, h2, h3, h4⟩ := hw.const; go_simp)) hS0.out ?_
            simp only [Act.put, List.setIfInBounds_toArray, List.set_cons_zero, List.set_cons_succ]
            generalize hU0 : wr.drew = U0
            have he : Below wr.heap.size wr U0 := by rw [← hU0]; exact below_drewN (Below.refl _ _) 1
            rw [hU0] at hS0
            clear hU0
            refine wpAnyU_or (i := 11) (j := 25) (by kernel_rfl) rfl rfl ?_ ?_
            · intro K hK
              go_simp
              obtain ⟨U1, hU⟩ : ∃ U, U = U0.alloc (.cells #[.int .i64 1, .int .i64 (C : Int), .int .i64 (a : Int), .int .i64 (b : Int)] 3) := ⟨_, rfl⟩
              rw [← hU]
              have hb : Below U0.heap.size U0 U1 := by rw [hU]; exact below_al6 (Below.refl _ _)
              have FL0 : Lies U1 (some ⟨U0.heap.size, 0, none⟩) 4 (([1, (C : Int), (a : Int), (b : Int)] : List Int).map (Value.int .i64)) := by rw [hU]; exact lit_lies U0 .i64 ([1, (C : Int), (a : Int), (b : Int)] : List Int) 3
              clear hU
              replace he : Below wr.heap.size wr U1 := below_nx6 he hb
              clear hb
              have hS1 : Hid (U1.cell? ⟨w.heap.size, 2, none⟩ = some (.slice (some ⟨bS, oS, none⟩) 4 c') ∧ U1.cell? ⟨w.heap.size, 3, none⟩ = some (.slice (some ⟨bW, oW, none⟩) m' d') ∧ U1.cell? ⟨bS, oS + 2, none⟩ = some (.int .i64 (a : Int)) ∧ U1.cell? ⟨bS, oS + 3, none⟩ = some (.int .i64 (b : Int))) := hide (HCY.out _ he)
              refine hK _ _ hS1.out (fun _ => ?_)
              clear hK K hS0
              refine wpAnyU_take (i := 24) (oi := { dst := some 184, op := _, type := _, pos := _, after := _, guard := none }) (v := .agg #[.slice (some ⟨U0.heap.size, 0, none⟩) 4 4, .slice (some ⟨bW, oW + oN, none⟩) NN (d' - oN)]) rfl (by kernel_rfl) (by kernel_rfl) (by kernel_rfl) (by kernel_rfl) (fun _ _ _ h => h) (yields_take rfl (fun w' hw => by obtain ⟨h1, h2, h3, h4⟩ := hw.const; go_simp)) hS1.out ?_
              simp only [Act.put, List.setIfInBounds_toArray, List.set_cons_zero, List.set_cons_succ]
              refine wpAnyU_one (i := 25) (by kernel_rfl) rfl ?_
              intro K hK
              go_simp
              obtain ⟨U2, hU⟩ : ∃ U, U = U1.alloc (.cells #[.slice none 0 0, .slice none 0 0] 25) := ⟨_, rfl⟩
              rw [← hU]
              have hb : Below U1.heap.size U1 U2 := by rw [hU]; exact below_al6 (Below.refl _ _)
              have FAL : BoxT U2 U1.heap.size (.slice none 0 0) (.slice none 0 0) := by rw [hU]; exact BoxT.new U1 _ _
              have hpx : wr.heap.size ≤ U1.heap.size := he.size
              clear hU
              replace FL0 := FL0.below hb
              replace he : Below wr.heap.size wr U2 := below_nx6 he hb
              clear hb
              have hS2 : Hid (U2.cell? ⟨w.heap.size, 2, none⟩ = some (.slice (some ⟨bS, oS, none⟩) 4 c') ∧ U2.cell? ⟨w.heap.size, 3, none⟩ = some (.slice (some ⟨bW, oW, none⟩) m' d') ∧ U2.cell? ⟨bS, oS + 2, none⟩ = some (.int .i64 (a : Int)) ∧ U2.cell? ⟨bS, oS + 3, none⟩ = some (.int .i64 (b : Int))) := hide (HCY.out _ he)
              refine hK _ _ hS2.out (fun _ => ?_)
              clear hK K hS1
              have r0 := FAL.c0
              have r1 := FAL.c1
              have rf0 := FAL.f0 0
              have rf1 := FAL.f0 1
              have hlx := FAL.lt
              have hpL : U0.heap.size ≠ U1.heap.size := box_ne_lies FAL (xs := [((1 : Nat) : Int), (C : Int), (a : Int), (b : Int)]) FL0 (by omega)
              refine wpAnyU_one (i := 26) (by kernel_rfl) rfl ?_
              intro K hK
              go_simp
              have he2 : Below wr.heap.size wr ((U2.setCell ⟨U1.heap.size, 0, none⟩ (.slice (some ⟨U0.heap.size, 0, none⟩) 4 4)).setCell ⟨U1.heap.size, 1, none⟩ (.slice (some ⟨bW, oW + oN, none⟩) NN (d' - oN))) := (he.setCell (by dsimp only; omega) _).setCell (by dsimp only; omega) _
              have hS3 : Hid (((U2.setCell ⟨U1.heap.size, 0, none⟩ (.slice (some ⟨U0.heap.size, 0, none⟩) 4 4)).setCell ⟨U1.heap.size, 1, none⟩ (.slice (some ⟨bW, oW + oN, none⟩) NN (d' - oN))).cell? ⟨w.heap.size, 2, none⟩ = some (.slice (some ⟨bS, oS, none⟩) 4 c') ∧ ((U2.setCell ⟨U1.heap.size, 0, none⟩ (.slice (some ⟨U0.heap.size, 0, none⟩) 4 4)).setCell ⟨U1.heap.size, 1, none⟩ (.slice (some ⟨bW, oW + oN, none⟩) NN (d' - oN))).cell? ⟨w.heap.size, 3, none⟩ = some (.slice (some ⟨bW, oW, none⟩) m' d') ∧ ((U2.setCell ⟨U1.heap.size, 0, none⟩ (.slice (some ⟨U0.heap.size, 0, none⟩) 4 4)).setCell ⟨U1.heap.size, 1, none⟩ (.slice (some ⟨bW, oW + oN, none⟩) NN (d' - oN))).cell? ⟨bS, oS + 2, none⟩ = some (.int .i64 (a : Int)) ∧ ((U2.setCell ⟨U1.heap.size, 0, none⟩ (.slice (some ⟨U0.heap.size, 0, none⟩) 4 4)).setCell ⟨U1.heap.size, 1, none⟩ (.slice (some ⟨bW, oW + oN, none⟩) NN (d' - oN))).cell? ⟨bS, oS + 3, none⟩ = some (.int .i64 (b : Int))) := hide (HCY.out _ he2)
              refine hK.out _ _ hS3.out (fun _ => ?_)
              clear hK K hS2
              refine wpAnyU_done (by kernel_rfl) ?_ _
              clear hS3
              have HB1 : Hid (BoxT ((U2.setCell ⟨U1.heap.size, 0, none⟩ (.slice (some ⟨U0.heap.size, 0, none⟩) 4 4)).setCell ⟨U1.heap.size, 1, none⟩ (.slice (some ⟨bW, oW + oN, none⟩) NN (d' - oN))) U1.heap.size (.slice (some ⟨U0.heap.size, 0, none⟩) 4 4) (.slice (some ⟨bW, oW + oN, none⟩) NN (d' - oN))) := hide (FAL.set2 _ _)
              have HB2 : Hid (Lies ((U2.setCell ⟨U1.heap.size, 0, none⟩ (.slice (some ⟨U0.heap.size, 0, none⟩) 4 4)).setCell ⟨U1.heap.size, 1, none⟩ (.slice (some ⟨bW, oW + oN, none⟩) NN (d' - oN))) (some ⟨U0.heap.size, 0, none⟩) 4 (([((1 : Nat) : Int), (C : Int), (a : Int), (b : Int)] : List Int).map (Value.int .i64))) := hide (lies_set8 FL0 (by intro b o e; cases e; exact hpL))
              have HE2 := hide he2
              clear FL0 FAL he he2 r0 r1 rf0 rf1
              go_wp2
              go_meet
              exact ⟨_, _, rfl, HB1, HB2, HE2⟩
            · intro K hK
              go_simp
              obtain ⟨U3, hU⟩ : ∃ U, U = U0.alloc (.cells #[.slice none 0 0, .slice none 0 0] 25) := ⟨_, rfl⟩
              rw [← hU]
              have hb : Below U0.heap.size U0 U3 := by rw [hU]; exact below_al6 (Below.refl _ _)
              have FAL : BoxT U3 U0.heap.size (.slice none 0 0) (.slice none 0 0) := by rw [hU]; exact BoxT.new U0 _ _
              have hpx : wr.heap.size ≤ U0.heap.size := he.size
              clear hU
              replace he : Below wr.heap.size wr U3 := below_nx6 he hb
              clear hb
              have hS1 : Hid (U3.cell? ⟨w.heap.size, 2, none⟩ = some (.slice (some ⟨bS, oS, none⟩) 4 c') ∧ U3.cell? ⟨w.heap.size, 3, none⟩ = some (.slice (some ⟨bW, oW, none⟩) m' d') ∧ U3.cell? ⟨bS, oS + 2, none⟩ = some (.int .i64 (a : Int)) ∧ U3.cell? ⟨bS, oS + 3, none⟩ = some (.int .i64 (b : Int))) := hide (HCY.out _ he)
              refine hK _ _ hS1.out (fun _ => ?_)
              clear hK K hS0
              refine wpAnyU_one (i := 11) (by kernel_rfl) rfl ?_
              intro K hK
              go_simp
              obtain ⟨U4, hU⟩ : ∃ U, U = U3.alloc (.cells #[.int .i64 1, .int .i64 (C : Int), .int .i64 (a : Int), .int .i64 (b : Int)] 3) := ⟨_, rfl⟩
              rw [← hU]
              have hb : Below U3.heap.size U3 U4 := by rw [hU]; exact below_al6 (Below.refl _ _)
              have FL0 : Lies U4 (some ⟨U3.heap.size, 0, none⟩) 4 (([1, (C : Int), (a : Int), (b : Int)] : List Int).map (Value.int .i64)) := by rw [hU]; exact lit_lies U3 .i64 ([1, (C : Int), (a : Int), (b : Int)] : List Int) 3
              clear hU
              replace FAL := FAL.kept hb
              replace he : Below wr.heap.size wr U4 := below_nx6 he hb
              clear hb
              have hS2 : Hid (U4.cell? ⟨w.heap.size, 2, none⟩ = some (.slice (some ⟨bS, oS, none⟩) 4 c') ∧ U4.cell? ⟨w.heap.size, 3, none⟩ = some (.slice (some ⟨bW, oW, none⟩) m' d') ∧ U4.cell? ⟨bS, oS + 2, none⟩ = some (.int .i64 (a : Int)) ∧ U4.cell? ⟨bS, oS + 3, none⟩ = some (.int .i64 (b : Int))) := hide (HCY.out _ he)
              refine hK _ _ hS2.out (fun _ => ?_)
              clear hK K hS1
              refine wpAnyU_take (i := 24) (oi := { dst := some 184, op := _, type := _, pos := _, after := _, guard := none }) (v := .agg #[.slice (some ⟨U3.heap.size, 0, none⟩) 4 4, .slice (some ⟨bW, oW + oN, none⟩) NN (d' - oN)]) rfl (by kernel_rfl) (by kernel_rfl) (by kernel_rfl) (by kernel_rfl) (fun _ _ _ h => h) (yields_take rfl (fun w' hw => by obtain ⟨h1, h2, h3, h4⟩ := hw.const; go_simp)) hS2.out ?_
              simp only [Act.put, List.setIfInBounds_toArray, List.set_cons_zero, List.set_cons_succ]
              have r0 := FAL.c0
              have r1 := FAL.c1
              have rf0 := FAL.f0 0
              have rf1 := FAL.f0 1
              have hlx := FAL.lt
              have hpL : U3.heap.size ≠ U0.heap.size := box_ne_lies FAL (xs := [((1 : Nat) : Int), (C : Int), (a : Int), (b : Int)]) FL0 (by omega)
              refine wpAnyU_one (i := 26) (by kernel_rfl) rfl ?_
              intro K hK
              go_simp
              have he2 : Below wr.heap.size wr ((U4.setCell ⟨U0.heap.size, 0, none⟩ (.slice (some ⟨U3.heap.size, 0, none⟩) 4 4)).setCell ⟨U0.heap.size, 1, none⟩ (.slice (some ⟨bW, oW + oN, none⟩) NN (d' - oN))) := (he.setCell (by dsimp only; omega) _).setCell (by dsimp only; omega) _
              have hS3 : Hid (((U4.setCell ⟨U0.heap.size, 0, none⟩ (.slice (some ⟨U3.heap.size, 0, none⟩) 4 4)).setCell ⟨U0.heap.size, 1, none⟩ (.slice (some ⟨bW, oW + oN, none⟩) NN (d' - oN))).cell? ⟨w.heap.size, 2, none⟩ = some (.slice (some ⟨bS, oS, none⟩) 4 c') ∧ ((U4.setCell ⟨U0.heap.size, 0, none⟩ (.slice (some ⟨U3.heap.size, 0, none⟩) 4 4)).setCell ⟨U0.heap.size, 1, none⟩ (.slice (some ⟨bW, oW + oN, none⟩) NN (d' - oN))).cell? ⟨w.heap.size, 3, none⟩ = some (.slice (some ⟨bW, oW, none⟩) m' d') ∧ ((U4.setCell ⟨U0.heap.size, 0, none⟩ (.slice (some ⟨U3.heap.size, 0, none⟩) 4 4)).setCell ⟨U0.heap.size, 1, none⟩ (.slice (some ⟨bW, oW + oN, none⟩) NN (d' - oN))).cell? ⟨bS, oS + 2, none⟩ = some (.int .i64 (a : Int)) ∧ ((U4.setCell ⟨U0.heap.size, 0, none⟩ (.slice (some ⟨U3.heap.size, 0, none⟩) 4 4)).setCell ⟨U0.heap.size, 1, none⟩ (.slice (some ⟨bW, oW + oN, none⟩) NN (d' - oN))).cell? ⟨bS, oS + 3, none⟩ = some (.int .i64 (b : Int))) := hide (HCY.out _ he2)
              refine hK.out _ _ hS3.out (fun _ => ?_)
              clear hK K hS2
              refine wpAnyU_done (by kernel_rfl) ?_ _
              clear hS3
              have HB1 : Hid (BoxT ((U4.setCell ⟨U0.heap.size, 0, none⟩ (.slice (some ⟨U3.heap.size, 0, none⟩) 4 4)).setCell ⟨U0.heap.size, 1, none⟩ (.slice (some ⟨bW, oW + oN, none⟩) NN (d' - oN))) U0.heap.size (.slice (some ⟨U3.heap.size, 0, none⟩) 4 4) (.slice (some ⟨bW, oW + oN, none⟩) NN (d' - oN))) := hide (FAL.set2 _ _)
              have HB2 : Hid (Lies ((U4.setCell ⟨U0.heap.size, 0, none⟩ (.slice (some ⟨U3.heap.size, 0, none⟩) 4 4)).setCell ⟨U0.heap.size, 1, none⟩ (.slice (some ⟨bW, oW + oN, none⟩) NN (d' - oN))) (some ⟨U3.heap.size, 0, none⟩) 4 (([((1 : Nat) : Int), (C : Int), (a : Int), (b : Int)] : List Int).map (Value.int .i64))) := hide (lies_set8 FL0 (by intro b o e; cases e; exact hpL))
              have HE2 := hide he2
              clear FL0 FAL he he2 r0 r1 rf0 rf1
              go_wp2
              go_meet
              exact ⟨_, _, rfl, HB1, HB2, HE2⟩
          case rest =>
            obtain ⟨pb, bL, rfl, HB1, HB2, HE2⟩ := hcut
            obtain ⟨V5, hV5⟩ : ∃ W, W = wc := ⟨_, rfl⟩
            rw [← hV5] at HB1 HB2 HE2 ⊢
            have hb : Below wr.heap.size wr V5 := HE2.out
            clear hV5 v1 v2 v3 v4 v5 v6 v7 v8 v9
            clear z0 z1 z2 z3 z4 z5 za0 za1 za2 zs0 zs2 zs3
            replace HT_z := hide (HT_z.out.kept hb)
            replace HT_x := hide (HT_x.out.kept hb)
            replace HBR := hide (below_nx6 HBR.out hb)
            replace HBW := hide (HBW.out.trans (hb.mono HBW.out.size))
            clear hb HE2
            obtain ⟨PL, hPL⟩ : ∃ z : List Int, z = (l'.drop oN).take NN := ⟨_, rfl⟩
            have HPL := hide hPL
            have HT_o : Hid (TenAt V5 pb (some ⟨bL, 0, none⟩) (some ⟨bW, oW + oN, none⟩) 4 4 NN (d' - oN) [((1 : Nat) : Int), (C : Int), (a : Int), (b : Int)] PL) := hide ⟨HB1.out, HB2.out, by rw [hPL]; exact lies_part8 HT_z.out.L' ho1 hcap hNN1⟩
            clear hPL HB1 HB2
            obtain ⟨hkP, hsE1, hsL1⟩ := shp_part8 HSE.out HSL.out HK'.out
            rw [← HNN.out] at hkP
            have hcon := wof_ok (some ⟨bA, oA, none⟩) (some ⟨bB, oB, none⟩) (some ⟨bL, 0, none⟩) (some ⟨bW, oW + oN, none⟩) c m d 4 NN (d' - oN) C H V 1 a b Y X stn pdn l PL V5 HT_z.out.S HT_z.out.L HT_o.out.S HT_o.out.L HK.out hkP (by omega) hsE1 hsL1
            have hq3 : 1 * Y * X = YX := by rw [HYX.out, Nat.one_mul]
            rw [hq3] at hcon
            obtain ⟨PY, hPY⟩ : ∃ z : List Int, z = winL l PL C H V 1 a b stn pdn Y X := ⟨_, rfl⟩
            rw [← hPY] at hcon
            have HPY := hide hPY
            clear hkP hsE1 hsL1 hPY hq3
            have cxz0 := HT_z.out.c0
            have cxz1 := HT_z.out.c1
            have cxz2 := HT_z.out.c2
            have cxz3 := HT_z.out.c3
            have cxz4 := HT_z.out.c4
            have cxz5 := HT_z.out.c5
            have cxz6 := HT_z.out.c6
            have cxo0 := HT_o.out.c0
            have cxo1 := HT_o.out.c1
            go_wp2_with fail
            refine Calls.mono (hcon) ?_
            rintro e ua17 ⟨g1y, c1y, g2y, rfl, ho1, ho2, _, hb0⟩
            obtain ⟨V18, hV18⟩ : ∃ W, W = ua17.alloc (.cells #[.slice (some ⟨g1y, 0, none⟩) 3 c1y, .slice (some ⟨g2y, 0, none⟩) YX YX] 25) := ⟨_, rfl⟩
            have HT_y : Hid (TenAt V18 ua17.heap.size (some ⟨g1y, 0, none⟩) (some ⟨g2y, 0, none⟩) 3 c1y YX YX [((1 : Nat) : Int), (Y : Int), (X : Int)] PY) := hide (by rw [hV18]; exact TenAt.made ho1 ho2)
            have hb : Below V5.heap.size V5 V18 := by rw [hV18]; exact below_al6 hb0
            replace HT_z := hide (HT_z.out.kept hb)
            replace HT_x := hide (HT_x.out.kept hb)
            replace HT_o := hide (HT_o.out.kept hb)
            replace HBR := hide (below_nx6 HBR.out hb)
            replace HBW := hide (HBW.out.trans (hb.mono HBW.out.size))
            have hV18' := hV18.symm
            clear cxz0 cxz1 cxz2 cxz3 cxz4 cxz5 cxz6 cxo0 cxo1 hV18 hb hb0 ho1 ho2
            have hlt_y := HT_y.out.1.lt
            clear hcon
            have HOE := own_below HO.out HBR.out
            have hbs : ua16.heap.size ≤ V18.heap.size := Nat.le_trans HE.out.size HBR.out.size
            have hkY : k + YX ≤ 4096 := by
              have hkk : k = o * YX := by
                have h := HO.out.1
                have hle : o * YX ≤ O * (Y * X) := by rw [← HYX.out]; exact Nat.mul_le_mul_right _ ho
                rw [List.length_map, List.length_take, HL1.out, winL_len, Nat.mul_assoc] at h
                omega
              rw [hkk, ← Nat.succ_mul]
              refine Nat.le_trans (Nat.mul_le_mul_right _ hlt) ?_
              rw [HYX.out, ← Nat.mul_assoc, ← HQ.out]; exact hq2
            obtain ⟨iN, hiN, hzN0, hzN1, hzN2⟩ := info_parts info8N
            have cxy0 := HT_y.out.c0
            have cxy1 := HT_y.out.c1
            go_wp2_with (at_builtin; refine wpList_append_src rfl _ _ 23 rfl 21 iN (.int .i32 0) 4 Try.underlying23 hiN hzN0 hzN1 hzN2 rfl ua16.heap.size (.slice A3 k c3) k _ rfl HOE hbs (some ⟨g2y, 0, none⟩) YX YX (PY.map (Value.int .i32)) rfl HT_y.out.L (by simp) (ints_one _ _) (by omega) (by unfold maxLen; omega) ?_)
            intro A4 c4 w9 HO4 hg4
            clear cxy0 cxy1
            have hcat : (L.map (Value.int .i32)).take (o * YX) ++ PY.map (Value.int .i32) = (L.take ((o + 1) * YX)).map (Value.int .i32) := by
              rw [← List.map_take, ← List.map_append, HL1.out, HPY.out, HPL.out, HYX.out, HON.out, HNN.out, win_next hlt]
            rw [hcat] at HO4
            have hb9 : Below ua16.heap.size ua16 w9 := below_own8 (HE.out.trans (HBR.out.mono HE.out.size)) hbs HOE hg4 (Nat.le_refl _)
            have HB9 := hide hb9
            have HO9 : Hid (w9.ownsRow ua16.heap.size 21 1 (.slice A4 (k + YX) c4) (k + YX) ((L.take ((o + 1) * YX)).map (Value.int .i32))) := hide HO4
            clear hb9 HO4 hg4 hcat HOE
            go_wp2
            go_roundw
            case rel => exact ⟨o + 1, k + YX, c4, A4, by omega, by go_num, rfl, HO9, HB9⟩
            case measure => simp [intOf]; omega
        · obtain rfl : O = o := by omega
          have h3 : ¬ ((O : Int) < (O : Int)) := by omega
          have hall : L.take (O * YX) = L := List.take_of_length_le (by rw [HL1.out, winL_len, HYX.out, Nat.mul_assoc]; exact Nat.le_refl _)
          have HOL := lies_of_own HO.out
          have hk6 : k ≤ 4096 := by
            have h := HO.out.1
            rw [List.length_map, List.length_take, HL1.out, winL_len, ← HQ.out] at h
            omega
          rw [hall] at HOL
          clear hall
          have cxx0 := HT_x.out.c0
          have cxx1 := HT_x.out.c1
          go_wp2_with fail
          refine Calls.mono (same_any8 A3 A2x k c3 Q c2x L _ HOL HT_x.out.L (by omega)) ?_
          rintro e ua19 ⟨rfl, hb⟩
          replace HT_z := hide (HT_z.out.kept hb)
          replace HT_x := hide (HT_x.out.kept hb)
          replace HBR := hide (below_nx6 HBR.out hb)
          replace HBW := hide (HBW.out.trans (hb.mono HBW.out.size))
          clear cxx0 cxx1 hb
          go_wp2
          go_ret
          exact ⟨rfl, HBW.out⟩

end Go.Proofs.Ytknlllpfjineaaa
