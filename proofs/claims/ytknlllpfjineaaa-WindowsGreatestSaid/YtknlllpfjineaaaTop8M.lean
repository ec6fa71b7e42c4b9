/- WindowsGreatest: for every picture and any two widths the walk of its Go text ends in true. -/
import Derived.Test.YtknlllpfjineaaaAlive8M
import Derived.Test.YtknlllpfjineaaaFl8M
import Derived.Test.YtknlllpfjineaaaPm13M
import Derived.Test.YtknlllpfjineaaaWB
import Derived.Deep.Cut
namespace Go.Proofs.Ytknlllpfjineaaa
open Go.RowKit
set_option linter.unusedVariables false
set_option linter.unusedSimpArgs false
set_option maxRecDepth 100000

set_option maxHeartbeats 16000000 in
theorem top8_any (A B : Option Addr) (n c m d : Nat) (s l : List Int) (x y : Int) (w : World) (hA : Lies w A n (s.map (Value.int .i64))) (hB : Lies w B m (l.map (Value.int .i32))) (hx : 0 ≤ x ∧ x < 256) (hy : 0 ≤ y ∧ y < 256) (hn : n ≤ 70368744177664) (hm : m ≤ 70368744177664) :
    Calls Try.prog 9 #[tenV A n c B m d, .int .u8 x, .int .u8 y] w fun e w' => e = .returned (.bool true) ∧ Below w.heap.size w w' := by
  obtain ⟨W0, hW0⟩ : ∃ W0, W0 = w.alloc (.cells #[.slice A n c, .slice B m d] 25) := ⟨_, rfl⟩
  have HBW : Hid (Below w.heap.size w W0) := hide (by rw [hW0]; exact below_al6 (Below.refl _ _))
  have HT_t : Hid (TenAt W0 w.heap.size A B n c m d s l) := hide (by rw [hW0]; exact ⟨BoxT.new w _ _, hA.alloc _, hB.alloc _⟩)
  have hW0' := hW0.symm
  clear hW0 hA hB
  have HL : Hid (l.length = m) := hide (by have := HT_t.out.L.len; simpa using this)
  have hslen : s.length = n := by have := HT_t.out.S.len; simpa using this
  have ht0 := tsz_nn6 n m
  have ht1 := tsz_hi6 hn hm
  go_enter Try.func9, Try.ntmps9
  go_wp2_with fail
  refine Calls.mono (alive8_any _) ?_
  rintro e ua1 ⟨rfl, hb⟩
  replace HT_t := hide (HT_t.out.kept hb)
  replace HBW := hide (HBW.out.trans (hb.mono HBW.out.size))
  clear hb
  have cxt0 := HT_t.out.c0
  have cxt1 := HT_t.out.c1
  go_wp2_with fail
  refine Calls.mono (tsize_any A B n c m d _ (by omega) (by omega)) ?_
  rintro e ua2 ⟨rfl, hb⟩
  replace HT_t := hide (HT_t.out.kept hb)
  replace HBW := hide (HBW.out.trans (hb.mono HBW.out.size))
  clear cxt0 cxt1 hb
  by_cases hfar : 1048576 < tsz n m
  · go_wp2_with fail
    refine Calls.mono (beyond_yes (some ⟨ua2.heap.size, 0, none⟩) 1 1 [(tsz n m : Int)] _ (lies_lit ua2 .i64 [(tsz n m : Int)] 3) (by intro z hz; simp at hz; omega) (by simp; omega) (by omega)) ?_
    rintro e ua3 ⟨rfl, hw3⟩
    have hb : Below ua2.heap.size ua2 ua3 := by rw [← hw3]; exact below_al6 (Below.refl _ _)
    replace HT_t := hide (HT_t.out.kept hb)
    replace HBW := hide (HBW.out.trans (hb.mono HBW.out.size))
    clear hb hw3
    go_wp2_with fail
    refine Calls.mono (alive8_any _) ?_
    rintro e ua4 ⟨rfl, hb⟩
    replace HT_t := hide (HT_t.out.kept hb)
    replace HBW := hide (HBW.out.trans (hb.mono HBW.out.size))
    clear hb
    go_wp2
    go_ret
    exact ⟨rfl, HBW.out⟩
  go_wp2_with fail
  refine Calls.mono (beyond_no (some ⟨ua2.heap.size, 0, none⟩) 1 1 [(tsz n m : Int)] _ (lies_lit ua2 .i64 [(tsz n m : Int)] 3) (by intro z hz; simp at hz; omega) (by simp; omega) (by omega)) ?_
  rintro e ua5 ⟨rfl, hw3⟩
  have hb : Below ua2.heap.size ua2 ua5 := by rw [← hw3]; exact below_al6 (Below.refl _ _)
  replace HT_t := hide (HT_t.out.kept hb)
  replace HBW := hide (HBW.out.trans (hb.mono HBW.out.size))
  clear hb hw3
  have cxt0 := HT_t.out.c0
  have cxt1 := HT_t.out.c1
  by_cases hok : tenOk s m = true
  rotate_left
  · have hno : tenOk s m = false := by simpa using hok
    go_wp2_with fail
    refine Calls.mono (tcheck_any A B n c m d s _ HT_t.out.S (by omega)) ?_
    rw [hno]
    rintro e ua6 ⟨rfl, hb⟩
    replace HT_t := hide (HT_t.out.kept hb)
    replace HBW := hide (HBW.out.trans (hb.mono HBW.out.size))
    clear cxt0 cxt1 hb
    go_wp2_with fail
    refine Calls.mono (alive8_any _) ?_
    rintro e ua7 ⟨rfl, hb⟩
    replace HT_t := hide (HT_t.out.kept hb)
    replace HBW := hide (HBW.out.trans (hb.mono HBW.out.size))
    clear hb
    go_wp2
    go_ret
    exact ⟨rfl, HBW.out⟩
  go_wp2_with fail
  refine Calls.mono (tcheck_any A B n c m d s _ HT_t.out.S (by omega)) ?_
  rw [hok]
  rintro e ua8 ⟨rfl, hb⟩
  replace HT_t := hide (HT_t.out.kept hb)
  replace HBW := hide (HBW.out.trans (hb.mono HBW.out.size))
  clear cxt0 cxt1 hb
  by_cases hn3 : n = 3
  rotate_left
  · have e1 : ((n : Int) == 3) = false := by simpa using (by omega : ¬ (n : Int) = 3)
    have e2 : ((n : Int) != 3) = true := by simpa using (by omega : ¬ (n : Int) = 3)
    have cxt0 := HT_t.out.c0
    have cxt1 := HT_t.out.c1
    go_wp2_with fail
    refine Calls.mono (alive8_any _) ?_
    rintro e ua9 ⟨rfl, hb⟩
    clear cxt0 cxt1
    replace HT_t := hide (HT_t.out.kept hb)
    replace HBW := hide (HBW.out.trans (hb.mono HBW.out.size))
    clear hb
    go_wp2
    go_ret
    exact ⟨rfl, HBW.out⟩
  subst hn3
  obtain ⟨C, H, V, rfl⟩ := three_of (tenOk_iff.1 hok).1 hslen
  obtain ⟨hC, hH, hV, hm3, hm4⟩ := ten_three hok
  have HOK := hide hok
  have HM3 := hide hm3
  have hm1 : 1 ≤ m := by rw [hm3]; exact Nat.mul_pos (Nat.mul_pos (by omega) (by omega)) (by omega)
  clear hok hm3 hslen ht0 ht1 hfar
  obtain ⟨xn, rfl⟩ := Int.eq_ofNat_of_zero_le hx.1
  obtain ⟨yn, rfl⟩ := Int.eq_ofNat_of_zero_le hy.1
  obtain ⟨xm, hxm⟩ : ∃ z, z = xn % 9 := ⟨_, rfl⟩
  obtain ⟨ym, hym⟩ : ∃ z, z = yn % 7 := ⟨_, rfl⟩
  obtain ⟨M, hM⟩ : ∃ z, z = xm + 1 := ⟨_, rfl⟩
  obtain ⟨N, hN⟩ : ∃ z, z = ym + 1 := ⟨_, rfl⟩
  have hM1 : 1 ≤ M ∧ M ≤ 9 := by omega
  have hN1 : 1 ≤ N ∧ N ≤ 7 := by omega
  have r1 : Int.tmod (xn : Int) 9 = (xm : Int) := by rw [hxm]; rfl
  have r2 : Int.tmod (yn : Int) 7 = (ym : Int) := by rw [hym]; rfl
  have r3 : IntKind.u8.wrap (xm : Int) = (xm : Int) := by rw [IntKind.wrap_u8]; omega
  have r4 : IntKind.u8.wrap (ym : Int) = (ym : Int) := by rw [IntKind.wrap_u8]; omega
  have r5 : IntKind.i64.wrap (xm : Int) = (xm : Int) := by rw [IntKind.wrap_i64]; omega
  have r6 : IntKind.i64.wrap (ym : Int) = (ym : Int) := by rw [IntKind.wrap_i64]; omega
  have r7 : IntKind.i64.wrap (1 + (xm : Int)) = (M : Int) := by rw [IntKind.wrap_i64]; omega
  have r8 : IntKind.i64.wrap (1 + (ym : Int)) = (N : Int) := by rw [IntKind.wrap_i64]; omega
  obtain ⟨MN, hMN⟩ : ∃ z, z = M * N := ⟨_, rfl⟩
  have HM9 := Nat.mul_le_mul hM1.2 hN1.2
  rw [← hMN] at HM9
  have r9 : (M : Int) * (N : Int) = (MN : Int) := by rw [← Int.natCast_mul, ← hMN]
  have HR9 := hide r9
  clear r9
  clear hxm hym hM hN
  obtain ⟨E1, hE1⟩ : ∃ z : Int, z = pl8E [(C : Int), (H : Int), (V : Int)] m 1 := ⟨_, rfl⟩
  have HR_E1 := hide hE1
  clear hE1
  obtain ⟨S1, hS1⟩ : ∃ z : List Int, z = pl8S [(C : Int), (H : Int), (V : Int)] m 1 := ⟨_, rfl⟩
  have HR_S1 := hide hS1
  clear hS1
  obtain ⟨L1, hL1⟩ : ∃ z : List Int, z = pl8L [(C : Int), (H : Int), (V : Int)] m l 1 := ⟨_, rfl⟩
  have HR_L1 := hide hL1
  clear hL1
  have cxt0 := HT_t.out.c0
  have cxt1 := HT_t.out.c1
  go_wp2_with fail
  refine Calls.mono (pool_own A B 3 c m d [(C : Int), (H : Int), (V : Int)] l 1 _ HT_t.out.S HT_t.out.L (by omega)) ?_
  rw [← HR_E1.out, ← HR_S1.out, ← HR_L1.out]
  rintro e ua10 ⟨A1one, k1one, c1one, A2one, k2one, c2one, rfl, ho1, ho2, hk1one, hk2one, hb0⟩
  obtain ⟨V11, hV11⟩ : ∃ W, W = ua10.alloc (.cells #[.slice A1one k1one c1one, .slice A2one k2one c2one] 25) := ⟨_, rfl⟩
  have HT_one : Hid (TenAt V11 ua10.heap.size A1one A2one k1one c1one k2one c2one S1 L1) := hide (by rw [hV11]; exact TenAt.own ho1 ho2)
  have hcapone := own_cap ho2
  have hb : Below ua8.heap.size ua8 V11 := by rw [hV11]; exact below_al6 hb0
  replace HT_t := hide (HT_t.out.kept hb)
  replace HBW := hide (HBW.out.trans (hb.mono HBW.out.size))
  have hV11' := hV11.symm
  clear cxt0 cxt1 hV11 hb hb0 ho1 ho2
  have hlt_one := HT_one.out.1.lt
  clear r1 r2 r3 r4 r5 r6 r7 r8 hx hy
  obtain ⟨E2, hE2⟩ : ∃ z : Int, z = pl8E [(C : Int), (H : Int), (V : Int)] m (M : Int) := ⟨_, rfl⟩
  have HR_E2 := hide hE2
  clear hE2
  obtain ⟨S2, hS2⟩ : ∃ z : List Int, z = pl8S [(C : Int), (H : Int), (V : Int)] m (M : Int) := ⟨_, rfl⟩
  have HR_S2 := hide hS2
  clear hS2
  obtain ⟨L2, hL2⟩ : ∃ z : List Int, z = pl8L [(C : Int), (H : Int), (V : Int)] m l (M : Int) := ⟨_, rfl⟩
  have HR_L2 := hide hL2
  clear hL2
  have cxt0 := HT_t.out.c0
  have cxt1 := HT_t.out.c1
  go_wp2_with fail
  refine Calls.mono (pool_own A B 3 c m d [(C : Int), (H : Int), (V : Int)] l (M : Int) _ HT_t.out.S HT_t.out.L (by omega)) ?_
  rw [← HR_E2.out, ← HR_S2.out, ← HR_L2.out]
  rintro e ua12 ⟨A1x, k1x, c1x, A2x, k2x, c2x, rfl, ho1, ho2, hk1x, hk2x, hb0⟩
  obtain ⟨V13, hV13⟩ : ∃ W, W = ua12.alloc (.cells #[.slice A1x k1x c1x, .slice A2x k2x c2x] 25) := ⟨_, rfl⟩
  have HT_x : Hid (TenAt V13 ua12.heap.size A1x A2x k1x c1x k2x c2x S2 L2) := hide (by rw [hV13]; exact TenAt.own ho1 ho2)
  have hcapx := own_cap ho2
  have hb : Below V11.heap.size V11 V13 := by rw [hV13]; exact below_al6 hb0
  replace HT_t := hide (HT_t.out.kept hb)
  replace HT_one := hide (HT_one.out.kept hb)
  replace HBW := hide (HBW.out.trans (hb.mono HBW.out.size))
  have hV13' := hV13.symm
  clear cxt0 cxt1 hV13 hb hb0 ho1 ho2
  have hlt_x := HT_x.out.1.lt
  obtain ⟨E3, hE3⟩ : ∃ z : Int, z = pl8E [(C : Int), (H : Int), (V : Int)] m (MN : Int) := ⟨_, rfl⟩
  have HR_E3 := hide hE3
  clear hE3
  obtain ⟨S3, hS3⟩ : ∃ z : List Int, z = pl8S [(C : Int), (H : Int), (V : Int)] m (MN : Int) := ⟨_, rfl⟩
  have HR_S3 := hide hS3
  clear hS3
  obtain ⟨L3, hL3⟩ : ∃ z : List Int, z = pl8L [(C : Int), (H : Int), (V : Int)] m l (MN : Int) := ⟨_, rfl⟩
  have HR_L3 := hide hL3
  clear hL3
  have cxt0 := HT_t.out.c0
  have cxt1 := HT_t.out.c1
  go_wp2_with fail
  rw [HR9.out]
  refine Calls.mono (pool_own A B 3 c m d [(C : Int), (H : Int), (V : Int)] l (MN : Int) _ HT_t.out.S HT_t.out.L (by omega)) ?_
  rw [← HR_E3.out, ← HR_S3.out, ← HR_L3.out]
  rintro e ua14 ⟨A1z, k1z, c1z, A2z, k2z, c2z, rfl, ho1, ho2, hk1z, hk2z, hb0⟩
  obtain ⟨V15, hV15⟩ : ∃ W, W = ua14.alloc (.cells #[.slice A1z k1z c1z, .slice A2z k2z c2z] 25) := ⟨_, rfl⟩
  have HT_z : Hid (TenAt V15 ua14.heap.size A1z A2z k1z c1z k2z c2z S3 L3) := hide (by rw [hV15]; exact TenAt.own ho1 ho2)
  have hcapz := own_cap ho2
  have hb : Below V13.heap.size V13 V15 := by rw [hV15]; exact below_al6 hb0
  replace HT_t := hide (HT_t.out.kept hb)
  replace HT_one := hide (HT_one.out.kept hb)
  replace HT_x := hide (HT_x.out.kept hb)
  replace HBW := hide (HBW.out.trans (hb.mono HBW.out.size))
  have hV15' := hV15.symm
  clear cxt0 cxt1 hV15 hb hb0 ho1 ho2
  have hlt_z := HT_z.out.1.lt
  obtain ⟨hE1, hS1, hL1, _⟩ := pl8_yes HOK.out (M := 1) (by omega) ⟨by omega, by omega⟩ l
  rw [Int.natCast_one] at hE1 hS1 hL1
  rw [Nat.div_one, Nat.div_one] at hS1 hL1
  rw [pool_one (by rw [HL.out]; exact HM3.out)] at hL1
  have e1 : E1 = 0 := by rw [HR_E1.out, hE1]
  have HEQ : Hid (S1 = [(C : Int), (H : Int), (V : Int)] ∧ L1 = l) := hide ⟨by rw [HR_S1.out, hS1], by rw [HR_L1.out, hL1]⟩
  clear hE1 hS1 hL1 HR9
  subst e1
  have cxone0 := HT_one.out.c0
  have cxone1 := HT_one.out.c1
  have cxt0 := HT_t.out.c0
  have cxt1 := HT_t.out.c1
  go_wp2_with fail
  refine Calls.mono (same8_any A1one A2one A B k1one c1one k2one c2one 3 c m d S1 L1 [(C : Int), (H : Int), (V : Int)] l 0 0 _ HT_one.out.S HT_one.out.L HT_t.out.S HT_t.out.L (by omega) (by omega) rfl) ?_
  rw [show decide (S1 = [(C : Int), (H : Int), (V : Int)] ∧ L1 = l) = true from decide_eq_true HEQ.out]
  rintro e ua16 ⟨rfl, hb⟩
  replace HT_t := hide (HT_t.out.kept hb)
  replace HT_one := hide (HT_one.out.kept hb)
  replace HT_x := hide (HT_x.out.kept hb)
  replace HT_z := hide (HT_z.out.kept hb)
  replace HBW := hide (HBW.out.trans (hb.mono HBW.out.size))
  clear cxone0 cxone1 cxt0 cxt1 hb
  obtain ⟨bA, oA, rfl, _, hsA⟩ := byte_at HT_t.out.S (by omega)
  clear HT_one hsA
  by_cases hf : M ≤ H ∧ M ≤ V
  rotate_left
  · have e2 : E2 = 10 := by rw [HR_E2.out, pl8_no HOK.out (by omega) hf]
    have hle : M ≤ MN := by rw [hMN]; exact Nat.le_mul_of_pos_right _ (by omega)
    have e3 : E3 = 10 := by rw [HR_E3.out, pl8_no HOK.out ⟨by omega, by omega⟩ (by omega)]
    subst e2 e3
    obtain ⟨_, _, eq1, _, hsA⟩ := byte_at HT_t.out.S (by omega)
    cases eq1
    have x1 := hsA 1 (by omega)
    have x2 := hsA 2 (by omega)
    clear hsA
    have cxt0 := HT_t.out.c0
    have cxt1 := HT_t.out.c1
    by_cases hf1 : M ≤ H
    · have t1 : ((M : Int) ≤ (H : Int)) := by omega
      have t2 : ¬ ((M : Int) ≤ (V : Int)) := by omega
      go_wp2
      go_ret
      exact ⟨rfl, HBW.out⟩
    · have t1 : ¬ ((M : Int) ≤ (H : Int)) := by omega
      go_wp2
      go_ret
      exact ⟨rfl, HBW.out⟩
  obtain ⟨hE2, hS2, hL2, hK2⟩ := pl8_yes HOK.out (M := M) (by omega) hf l
  have t1 : ((M : Int) ≤ (H : Int)) := by omega
  have t2 : ((M : Int) ≤ (V : Int)) := by omega
  have e2 : E2 = 0 := by rw [HR_E2.out, hE2]
  have HE2 := hide hE2
  obtain ⟨Y, hY⟩ : ∃ z, z = H / M := ⟨_, rfl⟩
  obtain ⟨X, hX⟩ : ∃ z, z = V / M := ⟨_, rfl⟩
  rw [← hY, ← hX] at hS2 hL2 hK2
  have e4 : S2 = [(C : Int), (Y : Int), (X : Int)] := by rw [HR_S2.out, hS2]
  have HL2 : Hid (L2 = poolL l C H V M Y X) := hide (by rw [HR_L2.out, hL2])
  subst e2 e4
  obtain rfl : k1x = 3 := (lies_len HT_x.out.S).symm
  obtain rfl : k2x = C * Y * X := by rw [← lies_len HT_x.out.L, HL2.out, poolL_len]
  obtain ⟨Q, hQ⟩ : ∃ z, z = C * Y * X := ⟨_, rfl⟩
  rw [← hQ] at HT_x hK2
  obtain ⟨_, hYp, hXp, hQ0, hQ1⟩ := ten_three hK2
  have hQp : 1 ≤ Q := by rw [hQ0]; exact Nat.mul_pos (Nat.mul_pos (by omega) (by omega)) (by omega)
  have HYM : Hid (Y * M ≤ H) := hide (by rw [hY]; exact Nat.div_mul_le_self _ _)
  have HXM : Hid (X * M ≤ V) := hide (by rw [hX]; exact Nat.div_mul_le_self _ _)
  have HYX := hide (And.intro hY hX)
  have HQ := hide hQ
  have HK2 := hide hK2
  have HF := hide hf
  clear hE2 hS2 hL2 hK2 hY hX hQ hQ0 hf
  obtain ⟨_, _, eq1, _, hsA⟩ := byte_at HT_t.out.S (by omega)
  cases eq1
  have x1 := hsA 1 (by omega)
  have x2 := hsA 2 (by omega)
  clear hsA
  have cxt0 := HT_t.out.c0
  have cxt1 := HT_t.out.c1
  go_wp2
  clear cxt0 cxt1 x1 x2 t1 t2
  obtain ⟨bB, oB, rfl, _, hsB⟩ := byte_at HT_t.out.L (by omega)
  obtain ⟨bX, oX, rfl, _, hsX⟩ := byte_at HT_x.out.S (by omega)
  obtain ⟨bG, oG, rfl, _, hsG⟩ := byte_at HT_x.out.L (by omega)
  clear hsB hsX hsG
  obtain ⟨YX, hYX⟩ : ∃ z, z = Y * X := ⟨_, rfl⟩
  obtain ⟨MM, hMM⟩ : ∃ z, z = M * M := ⟨_, rfl⟩
  have hYX1 := Nat.mul_le_mul hYp.2 hXp.2
  have hYX0 := Nat.mul_pos hYp.1 hXp.1
  have hMM1 := Nat.mul_le_mul hM1.2 hM1.2
  rw [← hYX] at hYX1 hYX0
  rw [← hMM] at hMM1
  have HYXd := hide hYX
  have HMM := hide hMM
  clear hYX hMM
  have HCX : Hid (∀ v, Below ua16.heap.size ua16 v → ∀ k, k < Q → v.cell? ⟨ua12.heap.size, 0, none⟩ = some (.slice (some ⟨bX, oX, none⟩) 3 c1x) ∧ v.cell? ⟨ua12.heap.size, 1, none⟩ = some (.slice (some ⟨bG, oG, none⟩) Q c2x) ∧ v.cell? ⟨bX, oX + 1, none⟩ = some (.int .i64 (Y : Int)) ∧ v.cell? ⟨bX, oX + 2, none⟩ = some (.int .i64 (X : Int)) ∧ v.cell? ⟨bG, oG + k, none⟩ = some (.int .i32 (L2.getD k 0))) := hide (fun v hv k hk => by
    have hx := HT_x.out.kept hv
    obtain ⟨_, _, e1, _, x1⟩ := byte_at hx.S (by omega)
    cases e1
    obtain ⟨_, _, e2, _, x2⟩ := byte_at hx.L (by omega)
    cases e2
    exact ⟨hx.c0, hx.c1, x1 1 (by omega), x1 2 (by omega), x2 k hk⟩)
  have HCT : Hid (∀ v, Below ua16.heap.size ua16 v → ∀ P, P < m → v.cell? ⟨w.heap.size, 0, none⟩ = some (.slice (some ⟨bA, oA, none⟩) 3 c) ∧ v.cell? ⟨w.heap.size, 1, none⟩ = some (.slice (some ⟨bB, oB, none⟩) m d) ∧ v.cell? ⟨bA, oA + 1, none⟩ = some (.int .i64 (H : Int)) ∧ v.cell? ⟨bA, oA + 2, none⟩ = some (.int .i64 (V : Int)) ∧ v.cell? ⟨bB, oB + P, none⟩ = some (.int .i32 (l.getD P 0))) := hide (fun v hv P hP => by
    have hx := HT_t.out.kept hv
    obtain ⟨_, _, e1, _, x1⟩ := byte_at hx.S (by omega)
    cases e1
    obtain ⟨_, _, e2, _, x2⟩ := byte_at hx.L (by omega)
    cases e2
    exact ⟨hx.c0, hx.c1, x1 1 (by omega), x1 2 (by omega), x2 P hP⟩)
  go_loopw [15] (fun i wr => ∃ k : Nat, k ≤ Q ∧ i = .int .i64 k ∧ Hid (Below ua16.heap.size ua16 wr)) (fun i _ => Q - (intOf i).toNat)
  case atStart => exact ⟨0, Nat.zero_le _, rfl, hide (Below.refl _ _)⟩
  case round =>
    obtain ⟨k, hk, rfl, HE⟩ := hrel
    have q1 := (HT_x.out.kept HE.out).c1
    by_cases hlt : k < Q
    · have h0 : (0 : Int) ≤ (k : Int) := by omega
      have h3 : (k : Int) < (Q : Int) := by omega
      obtain ⟨cc, hcc⟩ : ∃ z, z = k / YX := ⟨_, rfl⟩
      obtain ⟨kx, hkx⟩ : ∃ z, z = k / X := ⟨_, rfl⟩
      obtain ⟨yy, hyy⟩ : ∃ z, z = kx % Y := ⟨_, rfl⟩
      obtain ⟨xx, hxx⟩ : ∃ z, z = k % X := ⟨_, rfl⟩
      have hccC : cc < C := by rw [hcc, HYXd.out]; exact Nat.div_lt_of_lt_mul (by rw [Nat.mul_comm (Y * X), ← Nat.mul_assoc, ← HQ.out]; exact hlt)
      have hyyY : yy < Y := by rw [hyy]; exact Nat.mod_lt _ (by omega)
      have hxxX : xx < X := by rw [hxx]; exact Nat.mod_lt _ (by omega)
      have hyH : yy * M + M ≤ H := by
        have := Nat.mul_le_mul_right M (show yy + 1 ≤ Y from hyyY)
        have := HYM.out
        rw [Nat.add_mul] at *; omega
      have hxV : xx * M + M ≤ V := by
        have := Nat.mul_le_mul_right M (show xx + 1 ≤ X from hxxX)
        have := HXM.out
        rw [Nat.add_mul] at *; omega
      obtain ⟨yM, hyM⟩ : ∃ z, z = yy * M := ⟨_, rfl⟩
      obtain ⟨xM, hxM⟩ : ∃ z, z = xx * M := ⟨_, rfl⟩
      have HPL : Hid (∀ q, q < M * M → (cc * H + yM + q / M) * V + xM + q % M < m ∧ numAt l H V cc ((yM + q / M : Nat) : Int) ((xM + q % M : Nat) : Int) = l.getD ((cc * H + yM + q / M) * V + xM + q % M) 0) := hide (fun q hq => by rw [hyM, hxM]; exact great_at HM3.out HL.out hccC hyH hxV hq)
      obtain ⟨G, hG⟩ : ∃ z, z = L2.getD k 0 := ⟨_, rfl⟩
      have HG : Hid (G = greatN l H V cc yM xM M (M * M)) := hide (by
        have hpl := poolL_at (l := l) (C := C) (H := H) (W := V) (wide := M) hccC hyyY hxxX
        have ek : (cc * Y + yy) * X + xx = k := by
          rw [hcc, hyy, hkx, hxx, HYXd.out, Nat.mul_comm Y X, ← Nat.div_div_eq_div_mul, Nat.div_add_mod', Nat.div_add_mod']
        rw [ek, ← HL2.out, ← hG, ← hyM, ← hxM] at hpl
        exact hpl)
      have m1 : IntKind.i64.wrap ((Y : Int) * (X : Int)) = (YX : Int) := by rw [← Int.natCast_mul, ← HYXd.out, IntKind.wrap_i64]; omega
      have m2 : (k : Int).tdiv (YX : Int) = (cc : Int) := by rw [hcc]; rfl
      have hcc1 : cc ≤ k := by rw [hcc]; exact Nat.div_le_self _ _
      have hkx1 : kx ≤ k := by rw [hkx]; exact Nat.div_le_self _ _
      have m3 : IntKind.i64.wrap (cc : Int) = (cc : Int) := by rw [IntKind.wrap_i64]; omega
      have m4 : (k : Int).tdiv (X : Int) = (kx : Int) := by rw [hkx]; rfl
      have m5 : IntKind.i64.wrap (kx : Int) = (kx : Int) := by rw [IntKind.wrap_i64]; omega
      have m6 : (kx : Int).tmod (Y : Int) = (yy : Int) := by rw [hyy]; rfl
      have m7 : IntKind.i64.wrap (yy : Int) = (yy : Int) := by rw [IntKind.wrap_i64]; omega
      have m8 : IntKind.i64.wrap ((yy : Int) * (M : Int)) = (yM : Int) := by rw [← Int.natCast_mul, ← hyM, IntKind.wrap_i64]; omega
      have m9 : (k : Int).tmod (X : Int) = (xx : Int) := by rw [hxx]; rfl
      have m10 : IntKind.i64.wrap (xx : Int) = (xx : Int) := by rw [IntKind.wrap_i64]; omega
      have m11 : IntKind.i64.wrap ((xx : Int) * (M : Int)) = (xM : Int) := by rw [← Int.natCast_mul, ← hxM, IntKind.wrap_i64]; omega
      have n1 : ¬ (YX : Int) = 0 := by omega
      have w1 : (k : Int) % (X : Int) = (xx : Int) := by rw [hxx]; rfl
      have n2 : ¬ (X : Int) = 0 := by omega
      have n3 : ¬ (Y : Int) = 0 := by omega
      have n1' : ¬ YX = 0 := by omega
      have n2' : ¬ X = 0 := by omega
      have n3' : ¬ Y = 0 := by omega
      have hE1 : Below ua16.heap.size ua16 wr.drew := below_drewN HE.out 1
      have hE2 : Below ua16.heap.size ua16 wr.drew.drew := below_drewN hE1 1
      have hyMH : yM + M ≤ H := by omega
      have hxMV : xM + M ≤ V := by omega
      have HGL := hide hG
      clear hcc hkx hyy hxx hyM hxM hyH hxV hG
      go_wp2
      have hS0 : Hid (wr.drew.cell? ⟨ua12.heap.size, 0, none⟩ = some (.slice (some ⟨bX, oX, none⟩) 3 c1x) ∧ wr.drew.cell? ⟨ua12.heap.size, 1, none⟩ = some (.slice (some ⟨bG, oG, none⟩) Q c2x) ∧ wr.drew.cell? ⟨bX, oX + 1, none⟩ = some (.int .i64 (Y : Int)) ∧ wr.drew.cell? ⟨bX, oX + 2, none⟩ = some (.int .i64 (X : Int))) := hide (by obtain ⟨a0, a1, a2, a3, _⟩ := HCX.out _ hE1 k hlt; exact ⟨a0, a1, a2, a3⟩)
      refine wp_region_U (fun _ v => v.cell? ⟨ua12.heap.size, 0, none⟩ = some (.slice (some ⟨bX, oX, none⟩) 3 c1x) ∧ v.cell? ⟨ua12.heap.size, 1, none⟩ = some (.slice (some ⟨bG, oG, none⟩) Q c2x) ∧ v.cell? ⟨bX, oX + 1, none⟩ = some (.int .i64 (Y : Int)) ∧ v.cell? ⟨bX, oX + 2, none⟩ = some (.int .i64 (X : Int))) 99 (by kernel_rfl) ?_
      refine wpAnyU_take (i := 0) (oi := { dst := some 110, op := _, type := _, pos := _, after := _, guard := none }) (v := .int .i64 (k : Int)) rfl (by kernel_rfl) (by kernel_rfl) (by kernel_rfl) (by kernel_rfl) (fun _ _ _ h => h) (yields_take rfl (fun w' hw => by obtain ⟨h1, h2, h3, h4⟩ := hw.const; go_simp)) hS0.out ?_
      simp only [Act.put, List.setIfInBounds_toArray, List.set_cons_zero, List.set_cons_succ]
      refine wpAnyU_take (i := 1) (oi := { dst := some 111, op := _, type := _, pos := _, after := _, guard := none }) (v := .pointer (some ⟨ua12.heap.size, 0, none⟩)) rfl (by kernel_rfl) (by kernel_rfl) (by kernel_rfl) (by kernel_rfl) (fun _ _ _ h => h) (yields_take rfl (fun w' hw => by obtain ⟨h1, h2, h3, h4⟩ := hw.const; go_simp)) hS0.out ?_
      simp only [Act.put, List.setIfInBounds_toArray, List.set_cons_zero, List.set_cons_succ]
      refine wpAnyU_take (i := 2) (oi := { dst := some 112, op := _, type := _, pos := _, after := _, guard := none }) (v := .slice (some ⟨bX, oX, none⟩) 3 c1x) rfl (by kernel_rfl) (by kernel_rfl) (by kernel_rfl) (by kernel_rfl) (fun _ _ _ h => h) (yields_take rfl (fun w' hw => by obtain ⟨h1, h2, h3, h4⟩ := hw.const; go_simp)) hS0.out ?_
      simp only [Act.put, List.setIfInBounds_toArray, List.set_cons_zero, List.set_cons_succ]
      refine wpAnyU_take (i := 3) (oi := { dst := some 113, op := _, type := _, pos := _, after := _, guard := none }) (v := .pointer (some ⟨bX, oX + 1, none⟩)) rfl (by kernel_rfl) (by kernel_rfl) (by kernel_rfl) (by kernel_rfl) (fun _ _ _ h => h) (yields_take rfl (fun w' hw => by obtain ⟨h1, h2, h3, h4⟩ := hw.const; go_simp)) hS0.out ?_
      simp only [Act.put, List.setIfInBounds_toArray, List.set_cons_zero, List.set_cons_succ]
      refine wpAnyU_take (i := 4) (oi := { dst := some 114, op := _, type := _, pos := _, after := _, guard := none }) (v := .int .i64 (Y : Int)) rfl (by kernel_rfl) (by kernel_rfl) (by kernel_rfl) (by kernel_rfl) (fun _ _ _ h => h) (yields_take rfl (fun w' hw => by obtain ⟨h1, h2, h3, h4⟩ := hw.const; go_simp)) hS0.out ?_
      simp only [Act.put, List.setIfInBounds_toArray, List.set_cons_zero, List.set_cons_succ]
      refine wpAnyU_take (i := 5) (oi := { dst := some 115, op := _, type := _, pos := _, after := _, guard := none }) (v := .pointer (some ⟨ua12.heap.size, 0, none⟩)) rfl (by kernel_rfl) (by kernel_rfl) (by kernel_rfl) (by kernel_rfl) (fun _ _ _ h => h) (yields_take rfl (fun w' hw => by obtain ⟨h1, h2, h3, h4⟩ := hw.const; go_simp)) hS0.out ?_
      simp only [Act.put, List.setIfInBounds_toArray, List.set_cons_zero, List.set_cons_succ]
      refine wpAnyU_take (i := 6) (oi := { dst := some 116, op := _, type := _, pos := _, after := _, guard := none }) (v := .slice (some ⟨bX, oX, none⟩) 3 c1x) rfl (by kernel_rfl) (by kernel_rfl) (by kernel_rfl) (by kernel_rfl) (fun _ _ _ h => h) (yields_take rfl (fun w' hw => by obtain ⟨h1, h2, h3, h4⟩ := hw.const; go_simp)) hS0.out ?_
      simp only [Act.put, List.setIfInBounds_toArray, List.set_cons_zero, List.set_cons_succ]
      refine wpAnyU_take (i := 7) (oi := { dst := some 117, op := _, type := _, pos := _, after := _, guard := none }) (v := .pointer (some ⟨bX, oX + 2, none⟩)) rfl (by kernel_rfl) (by kernel_rfl) (by kernel_rfl) (by kernel_rfl) (fun _ _ _ h => h) (yields_take rfl (fun w' hw => by obtain ⟨h1, h2, h3, h4⟩ := hw.const; go_simp)) hS0.out ?_
      simp only [Act.put, List.setIfInBounds_toArray, List.set_cons_zero, List.set_cons_succ]
      refine wpAnyU_take (i := 8) (oi := { dst := some 118, op := _, type := _, pos := _, after := _, guard := none }) (v := .int .i64 (X : Int)) rfl (by kernel_rfl) (by kernel_rfl) (by kernel_rfl) (by kernel_rfl) (fun _ _ _ h => h) (yields_take rfl (fun w' hw => by obtain ⟨h1, h2, h3, h4⟩ := hw.const; go_simp)) hS0.out ?_
      simp only [Act.put, List.setIfInBounds_toArray, List.set_cons_zero, List.set_cons_succ]
      refine wpAnyU_take (i := 9) (oi := { dst := some 119, op := _, type := _, pos := _, after := _, guard := none }) (v := .int .i64 (YX : Int)) rfl (by kernel_rfl) (by kernel_rfl) (by kernel_rfl) (by kernel_rfl) (fun _ _ _ h => h) (yields_take rfl (fun w' hw => by obtain ⟨h1, h2, h3, h4⟩ := hw.const; go_simp)) hS0.out ?_
      simp only [Act.put, List.setIfInBounds_toArray, List.set_cons_zero, List.set_cons_succ]
      refine wpAnyU_take (i := 10) (oi := { dst := some 120, op := _, type := _, pos := _, after := _, guard := none }) (v := .int .i64 (cc : Int)) rfl (by kernel_rfl) (by kernel_rfl) (by kernel_rfl) (by kernel_rfl) (fun _ _ _ h => h) (yields_take rfl (fun w' hw => by obtain ⟨h1, h2, h3, h4⟩ := hw.const; go_simp)) hS0.out ?_
      simp only [Act.put, List.setIfInBounds_toArray, List.set_cons_zero, List.set_cons_succ]
      refine wpAnyU_take (i := 11) (oi := { dst := some 16, op := _, type := _, pos := _, after := _, guard := none }) (v := .int .i64 (cc : Int)) rfl (by kernel_rfl) (by kernel_rfl) (by kernel_rfl) (by kernel_rfl) (fun _ _ _ h => h) (yields_take rfl (fun w' hw => by obtain ⟨h1, h2, h3, h4⟩ := hw.const; go_simp)) hS0.out ?_
      simp only [Act.put, List.setIfInBounds_toArray, List.set_cons_zero, List.set_cons_succ]
      refine wpAnyU_done (by kernel_rfl) ?_ _
      clear hS0
      go_wp2
      have hS0 : Hid (wr.drew.drew.cell? ⟨ua12.heap.size, 0, none⟩ = some (.slice (some ⟨bX, oX, none⟩) 3 c1x) ∧ wr.drew.drew.cell? ⟨ua12.heap.size, 1, none⟩ = some (.slice (some ⟨bG, oG, none⟩) Q c2x) ∧ wr.drew.drew.cell? ⟨bX, oX + 1, none⟩ = some (.int .i64 (Y : Int)) ∧ wr.drew.drew.cell? ⟨bX, oX + 2, none⟩ = some (.int .i64 (X : Int))) := hide (by obtain ⟨a0, a1, a2, a3, _⟩ := HCX.out _ hE2 k hlt; exact ⟨a0, a1, a2, a3⟩)
      refine wp_region_U (fun _ v => v.cell? ⟨ua12.heap.size, 0, none⟩ = some (.slice (some ⟨bX, oX, none⟩) 3 c1x) ∧ v.cell? ⟨ua12.heap.size, 1, none⟩ = some (.slice (some ⟨bG, oG, none⟩) Q c2x) ∧ v.cell? ⟨bX, oX + 1, none⟩ = some (.int .i64 (Y : Int)) ∧ v.cell? ⟨bX, oX + 2, none⟩ = some (.int .i64 (X : Int))) 99 (by kernel_rfl) ?_
      refine wpAnyU_take (i := 0) (oi := { dst := some 121, op := _, type := _, pos := _, after := _, guard := none }) (v := .int .i64 (k : Int)) rfl (by kernel_rfl) (by kernel_rfl) (by kernel_rfl) (by kernel_rfl) (fun _ _ _ h => h) (yields_take rfl (fun w' hw => by obtain ⟨h1, h2, h3, h4⟩ := hw.const; go_simp)) hS0.out ?_
      simp only [Act.put, List.setIfInBounds_toArray, List.set_cons_zero, List.set_cons_succ]
      refine wpAnyU_take (i := 1) (oi := { dst := some 122, op := _, type := _, pos := _, after := _, guard := none }) (v := .pointer (some ⟨ua12.heap.size, 0, none⟩)) rfl (by kernel_rfl) (by kernel_rfl) (by kernel_rfl) (by kernel_rfl) (fun _ _ _ h => h) (yields_take rfl (fun w' hw => by obtain ⟨h1, h2, h3, h4⟩ := hw.const; go_simp)) hS0.out ?_
      simp only [Act.put, List.setIfInBounds_toArray, List.set_cons_zero, List.set_cons_succ]
      refine wpAnyU_take (i := 2) (oi := { dst := some 123, op := _, type := _, pos := _, after := _, guard := none }) (v := .slice (some ⟨bX, oX, none⟩) 3 c1x) rfl (by kernel_rfl) (by kernel_rfl) (by kernel_rfl) (by kernel_rfl) (fun _ _ _ h => h) (yields_take rfl (fun w' hw => by obtain ⟨h1, h2, h3, h4⟩ := hw.const; go_simp)) hS0.out ?_
      simp only [Act.put, List.setIfInBounds_toArray, List.set_cons_zero, List.set_cons_succ]
      refine wpAnyU_take (i := 3) (oi := { dst := some 124, op := _, type := _, pos := _, after := _, guard := none }) (v := .pointer (some ⟨bX, oX + 2, none⟩)) rfl (by kernel_rfl) (by kernel_rfl) (by kernel_rfl) (by kernel_rfl) (fun _ _ _ h => h) (yields_take rfl (fun w' hw => by obtain ⟨h1, h2, h3, h4⟩ := hw.const; go_simp)) hS0.out ?_
      simp only [Act.put, List.setIfInBounds_toArray, List.set_cons_zero, List.set_cons_succ]
      refine wpAnyU_take (i := 4) (oi := { dst := some 125, op := _, type := _, pos := _, after := _, guard := none }) (v := .int .i64 (X : Int)) rfl (by kernel_rfl) (by kernel_rfl) (by kernel_rfl) (by kernel_rfl) (fun _ _ _ h => h) (yields_take rfl (fun w' hw => by obtain ⟨h1, h2, h3, h4⟩ := hw.const; go_simp)) hS0.out ?_
      simp only [Act.put, List.setIfInBounds_toArray, List.set_cons_zero, List.set_cons_succ]
      refine wpAnyU_take (i := 5) (oi := { dst := some 126, op := _, type := _, pos := _, after := _, guard := none }) (v := .int .i64 (kx : Int)) rfl (by kernel_rfl) (by kernel_rfl) (by kernel_rfl) (by kernel_rfl) (fun _ _ _ h => h) (yields_take rfl (fun w' hw => by obtain ⟨h1, h2, h3, h4⟩ := hw.const; go_simp)) hS0.out ?_
      simp only [Act.put, List.setIfInBounds_toArray, List.set_cons_zero, List.set_cons_succ]
      refine wpAnyU_take (i := 6) (oi := { dst := some 127, op := _, type := _, pos := _, after := _, guard := none }) (v := .pointer (some ⟨ua12.heap.size, 0, none⟩)) rfl (by kernel_rfl) (by kernel_rfl) (by kernel_rfl) (by kernel_rfl) (fun _ _ _ h => h) (yields_take rfl (fun w' hw => by obtain ⟨h1, h2, h3, h4⟩ := hw.const; go_simp)) hS0.out ?_
      simp only [Act.put, List.setIfInBounds_toArray, List.set_cons_zero, List.set_cons_succ]
      refine wpAnyU_take (i := 7) (oi := { dst := some 128, op := _, type := _, pos := _, after := _, guard := none }) (v := .slice (some ⟨bX, oX, none⟩) 3 c1x) rfl (by kernel_rfl) (by kernel_rfl) (by kernel_rfl) (by kernel_rfl) (fun _ _ _ h => h) (yields_take rfl (fun w' hw => by obtain ⟨h1, h2, h3, h4⟩ := hw.const; go_simp)) hS0.out ?_
      simp only [Act.put, List.setIfInBounds_toArray, List.set_cons_zero, List.set_cons_succ]
      refine wpAnyU_take (i := 8) (oi := { dst := some 129, op := _, type := _, pos := _, after := _, guard := none }) (v := .pointer (some ⟨bX, oX + 1, none⟩)) rfl (by kernel_rfl) (by kernel_rfl) (by kernel_rfl) (by kernel_rfl) (fun _ _ _ h => h) (yields_take rfl (fun w' hw => by obtain ⟨h1, h2, h3, h4⟩ := hw.const; go_simp)) hS0.out ?_
      simp only [Act.put, List.setIfInBounds_toArray, List.set_cons_zero, List.set_cons_succ]
      refine wpAnyU_take (i := 9) (oi := { dst := some 130, op := _, type := _, pos := _, after := _, guard := none }) (v := .int .i64 (Y : Int)) rfl (by kernel_rfl) (by kernel_rfl) (by kernel_rfl) (by kernel_rfl) (fun _ _ _ h => h) (yields_take rfl (fun w' hw => by obtain ⟨h1, h2, h3, h4⟩ := hw.const; go_simp)) hS0.out ?_
      simp only [Act.put, List.setIfInBounds_toArray, List.set_cons_zero, List.set_cons_succ]
      refine wpAnyU_take (i := 10) (oi := { dst := some 131, op := _, type := _, pos := _, after := _, guard := none }) (v := .int .i64 (yy : Int)) rfl (by kernel_rfl) (by kernel_rfl) (by kernel_rfl) (by kernel_rfl) (fun _ _ _ h => h) (yields_take rfl (fun w' hw => by obtain ⟨h1, h2, h3, h4⟩ := hw.const; go_simp)) hS0.out ?_
      simp only [Act.put, List.setIfInBounds_toArray, List.set_cons_zero, List.set_cons_succ]
      refine wpAnyU_take (i := 11) (oi := { dst := some 132, op := _, type := _, pos := _, after := _, guard := none }) (v := .int .i64 (M : Int)) rfl (by kernel_rfl) (by kernel_rfl) (by kernel_rfl) (by kernel_rfl) (fun _ _ _ h => h) (yields_take rfl (fun w' hw => by obtain ⟨h1, h2, h3, h4⟩ := hw.const; go_simp)) hS0.out ?_
      simp only [Act.put, List.setIfInBounds_toArray, List.set_cons_zero, List.set_cons_succ]
      refine wpAnyU_take (i := 12) (oi := { dst := some 133, op := _, type := _, pos := _, after := _, guard := none }) (v := .int .i64 (yM : Int)) rfl (by kernel_rfl) (by kernel_rfl) (by kernel_rfl) (by kernel_rfl) (fun _ _ _ h => h) (yields_take rfl (fun w' hw => by obtain ⟨h1, h2, h3, h4⟩ := hw.const; go_simp)) hS0.out ?_
      simp only [Act.put, List.setIfInBounds_toArray, List.set_cons_zero, List.set_cons_succ]
      refine wpAnyU_take (i := 13) (oi := { dst := some 17, op := _, type := _, pos := _, after := _, guard := none }) (v := .int .i64 (yM : Int)) rfl (by kernel_rfl) (by kernel_rfl) (by kernel_rfl) (by kernel_rfl) (fun _ _ _ h => h) (yields_take rfl (fun w' hw => by obtain ⟨h1, h2, h3, h4⟩ := hw.const; go_simp)) hS0.out ?_
      simp only [Act.put, List.setIfInBounds_toArray, List.set_cons_zero, List.set_cons_succ]
      refine wpAnyU_done (by kernel_rfl) ?_ _
      clear hS0
      obtain ⟨a0, a1, a2, a3, a4⟩ := HCX.out _ hE2 k hlt
      go_wp2
      clear a0 a1 a2 a3 a4 m1 m2 m3 m4 m5 m6 m7 m8 m9 m10 m11 n1 n2 n3 n1' n2' n3' q1 w1
      have HE2 := hide hE2
      clear hE1 hE2
      go_loopw [19, 20] (fun b j wr => ∃ q : Nat, q ≤ MM ∧ j = .int .i64 q ∧ b = .bool (seen8 l H V cc yM xM M G q) ∧ Hid (Below ua16.heap.size ua16 wr)) (fun _ j _ => MM - (intOf j).toNat)
      case atStart => exact ⟨0, Nat.zero_le _, rfl, rfl, HE2⟩
      case round =>
        obtain ⟨q, hq, rfl, rfl, HF⟩ := hrel
        have m1 : IntKind.i64.wrap ((M : Int) * (M : Int)) = (MM : Int) := by rw [← Int.natCast_mul, ← HMM.out, IntKind.wrap_i64]; omega
        by_cases hql : q < MM
        · have h4 : (q : Int) < (MM : Int) := by omega
          obtain ⟨hPm, hPn⟩ := HPL.out q (by have := HMM.out; omega)
          have hst := great_step (l := l) (H := H) (V := V) (c := cc) (y := yM) (x := xM) (M := M) (by omega) HG.out (show q < M * M by have := HMM.out; omega)
          have HSE : Hid (seen8 l H V cc yM xM M G (q + 1) = (seen8 l H V cc yM xM M G q || (numAt l H V cc ((yM + q / M : Nat) : Int) ((xM + q % M : Nat) : Int) == G))) := hide rfl
          obtain ⟨qd, hqd⟩ : ∃ z, z = q / M := ⟨_, rfl⟩
          obtain ⟨qm, hqm⟩ : ∃ z, z = q % M := ⟨_, rfl⟩
          rw [← hqd, ← hqm] at hPm hPn hst HSE
          rw [hPn] at hst HSE
          obtain ⟨b1, hb1⟩ : ∃ z, z = cc * H := ⟨_, rfl⟩
          obtain ⟨b2, hb2⟩ : ∃ z, z = b1 + yM := ⟨_, rfl⟩
          obtain ⟨b3, hb3⟩ : ∃ z, z = b2 + qd := ⟨_, rfl⟩
          obtain ⟨b4, hb4⟩ : ∃ z, z = b3 * V := ⟨_, rfl⟩
          obtain ⟨b5, hb5⟩ : ∃ z, z = b4 + xM := ⟨_, rfl⟩
          obtain ⟨P, hP⟩ : ∃ z, z = b5 + qm := ⟨_, rfl⟩
          rw [← hb1, ← hb2, ← hb3, ← hb4, ← hb5, ← hP] at hPm hst HSE
          have hb34 : b3 ≤ b4 := by rw [hb4]; exact Nat.le_mul_of_pos_right _ (by omega)
          obtain ⟨o, ho⟩ : ∃ z, z = l.getD P 0 := ⟨_, rfl⟩
          rw [← ho] at hst HSE
          obtain ⟨sb, hsb⟩ : ∃ z, z = seen8 l H V cc yM xM M G q := ⟨_, rfl⟩
          rw [← hsb] at HSE ⊢
          clear hsb
          have m2 : IntKind.i64.wrap ((cc : Int) * (H : Int)) = (b1 : Int) := by rw [← Int.natCast_mul, ← hb1, IntKind.wrap_i64]; omega
          have m3 : IntKind.i64.wrap ((b1 : Int) + (yM : Int)) = (b2 : Int) := by rw [IntKind.wrap_i64]; omega
          have m4 : (q : Int).tdiv (M : Int) = (qd : Int) := by rw [hqd]; rfl
          have m5 : IntKind.i64.wrap (qd : Int) = (qd : Int) := by rw [IntKind.wrap_i64]; omega
          have m6 : IntKind.i64.wrap ((b2 : Int) + (qd : Int)) = (b3 : Int) := by rw [IntKind.wrap_i64]; omega
          have m7 : IntKind.i64.wrap ((b3 : Int) * (V : Int)) = (b4 : Int) := by rw [← Int.natCast_mul, ← hb4, IntKind.wrap_i64]; omega
          have m8 : IntKind.i64.wrap ((b4 : Int) + (xM : Int)) = (b5 : Int) := by rw [IntKind.wrap_i64]; omega
          have m9 : (q : Int).tmod (M : Int) = (qm : Int) := by rw [hqm]; rfl
          have m10 : IntKind.i64.wrap (qm : Int) = (qm : Int) := by rw [IntKind.wrap_i64]; omega
          have m11 : IntKind.i64.wrap ((b5 : Int) + (qm : Int)) = (P : Int) := by rw [IntKind.wrap_i64]; omega
          have n1 : ¬ (M : Int) = 0 := by omega
          have n1' : ¬ M = 0 := by omega
          have hP0 : (0 : Int) ≤ (P : Int) := by omega
          have hP1 : (P : Int) < (m : Int) := by omega
          have n4 : ¬ (G < o) := by omega
          have hF1 : Below ua16.heap.size ua16 wr.drew := below_drewN HF.out 1
          have HCV := hide (HCT.out _ hF1 P hPm)
          rw [← ho] at HCV
          obtain ⟨_, a1, _, _, a4⟩ := HCX.out _ hF1 k hlt
          rw [← HGL.out] at a4
          have h0 : (0 : Int) ≤ (k : Int) := by omega
          have h3 : (k : Int) < (Q : Int) := by omega
          clear hqd hqm hb1 hb2 hb3 hb4 hb5 hP ho hPn hPm hst hb34
          go_wp2
          have hS0 : Hid (wr.drew.cell? ⟨w.heap.size, 0, none⟩ = some (.slice (some ⟨bA, oA, none⟩) 3 c) ∧ wr.drew.cell? ⟨w.heap.size, 1, none⟩ = some (.slice (some ⟨bB, oB, none⟩) m d) ∧ wr.drew.cell? ⟨bA, oA + 1, none⟩ = some (.int .i64 (H : Int)) ∧ wr.drew.cell? ⟨bA, oA + 2, none⟩ = some (.int .i64 (V : Int)) ∧ wr.drew.cell? ⟨bB, oB + P, none⟩ = some (.int .i32 o)) := hide (HCV.out)
          refine wp_region_U (fun _ v => v.cell? ⟨w.heap.size, 0, none⟩ = some (.slice (some ⟨bA, oA, none⟩) 3 c) ∧ v.cell? ⟨w.heap.size, 1, none⟩ = some (.slice (some ⟨bB, oB, none⟩) m d) ∧ v.cell? ⟨bA, oA + 1, none⟩ = some (.int .i64 (H : Int)) ∧ v.cell? ⟨bA, oA + 2, none⟩ = some (.int .i64 (V : Int)) ∧ v.cell? ⟨bB, oB + P, none⟩ = some (.int .i32 o)) 99 (by kernel_rfl) ?_
          refine wpAnyU_take (i := 0) (oi := { dst := some 149, op := _, type := _, pos := _, after := _, guard := none }) (v := .pointer (some ⟨w.heap.size, 1, none⟩)) rfl (by kernel_rfl) (by kernel_rfl) (by kernel_rfl) (by kernel_rfl) (fun _ _ _ h => h) (yields_take rfl (fun w' hw => by obtain ⟨h1, h2, h3, h4, h5⟩ := hw.const; go_simp)) hS0.out ?_
          simp only [Act.put, List.setIfInBounds_toArray, List.set_cons_zero, List.set_cons_succ]
          refine wpAnyU_take (i := 1) (oi := { dst := some 150, op := _, type := _, pos := _, after := _, guard := none }) (v := .slice (some ⟨bB, oB, none⟩) m d) rfl (by kernel_rfl) (by kernel_rfl) (by kernel_rfl) (by kernel_rfl) (fun _ _ _ h => h) (yields_take rfl (fun w' hw => by obtain ⟨h1, h2, h3, h4, h5⟩ := hw.const; go_simp)) hS0.out ?_
          simp only [Act.put, List.setIfInBounds_toArray, List.set_cons_zero, List.set_cons_succ]
          refine wpAnyU_take (i := 2) (oi := { dst := some 151, op := _, type := _, pos := _, after := _, guard := none }) (v := .int .i64 (cc : Int)) rfl (by kernel_rfl) (by kernel_rfl) (by kernel_rfl) (by kernel_rfl) (fun _ _ _ h => h) (yields_take rfl (fun w' hw => by obtain ⟨h1, h2, h3, h4, h5⟩ := hw.const; go_simp)) hS0.out ?_
          simp only [Act.put, List.setIfInBounds_toArray, List.set_cons_zero, List.set_cons_succ]
          refine wpAnyU_take (i := 3) (oi := { dst := some 152, op := _, type := _, pos := _, after := _, guard := none }) (v := .pointer (some ⟨w.heap.size, 0, none⟩)) rfl (by kernel_rfl) (by kernel_rfl) (by kernel_rfl) (by kernel_rfl) (fun _ _ _ h => h) (yields_take rfl (fun w' hw => by obtain ⟨h1, h2, h3, h4, h5⟩ := hw.const; go_simp)) hS0.out ?_
          simp only [Act.put, List.setIfInBounds_toArray, List.set_cons_zero, List.set_cons_succ]
          refine wpAnyU_take (i := 4) (oi := { dst := some 153, op := _, type := _, pos := _, after := _, guard := none }) (v := .slice (some ⟨bA, oA, none⟩) 3 c) rfl (by kernel_rfl) (by kernel_rfl) (by kernel_rfl) (by kernel_rfl) (fun _ _ _ h => h) (yields_take rfl (fun w' hw => by obtain ⟨h1, h2, h3, h4, h5⟩ := hw.const; go_simp)) hS0.out ?_
          simp only [Act.put, List.setIfInBounds_toArray, List.set_cons_zero, List.set_cons_succ]
          refine wpAnyU_take (i := 5) (oi := { dst := some 154, op := _, type := _, pos := _, after := _, guard := none }) (v := .pointer (some ⟨bA, oA + 1, none⟩)) rfl (by kernel_rfl) (by kernel_rfl) (by kernel_rfl) (by kernel_rfl) (fun _ _ _ h => h) (yields_take rfl (fun w' hw => by obtain ⟨h1, h2, h3, h4, h5⟩ := hw.const; go_simp)) hS0.out ?_
          simp only [Act.put, List.setIfInBounds_toArray, List.set_cons_zero, List.set_cons_succ]
          refine wpAnyU_take (i := 6) (oi := { dst := some 155, op := _, type := _, pos := _, after := _, guard := none }) (v := .int .i64 (H : Int)) rfl (by kernel_rfl) (by kernel_rfl) (by kernel_rfl) (by kernel_rfl) (fun _ _ _ h => h) (yields_take rfl (fun w' hw => by obtain ⟨h1, h2, h3, h4, h5⟩ := hw.const; go_simp)) hS0.out ?_
          simp only [Act.put, List.setIfInBounds_toArray, List.set_cons_zero, List.set_cons_succ]
          refine wpAnyU_take (i := 7) (oi := { dst := some 156, op := _, type := _, pos := _, after := _, guard := none }) (v := .int .i64 (b1 : Int)) rfl (by kernel_rfl) (by kernel_rfl) (by kernel_rfl) (by kernel_rfl) (fun _ _ _ h => h) (yields_take rfl (fun w' hw => by obtain ⟨h1, h2, h3, h4, h5⟩ := hw.const; go_simp)) hS0.out ?_
          simp only [Act.put, List.setIfInBounds_toArray, List.set_cons_zero, List.set_cons_succ]
          refine wpAnyU_take (i := 8) (oi := { dst := some 157, op := _, type := _, pos := _, after := _, guard := none }) (v := .int .i64 (yM : Int)) rfl (by kernel_rfl) (by kernel_rfl) (by kernel_rfl) (by kernel_rfl) (fun _ _ _ h => h) (yields_take rfl (fun w' hw => by obtain ⟨h1, h2, h3, h4, h5⟩ := hw.const; go_simp)) hS0.out ?_
          simp only [Act.put, List.setIfInBounds_toArray, List.set_cons_zero, List.set_cons_succ]
          refine wpAnyU_take (i := 9) (oi := { dst := some 158, op := _, type := _, pos := _, after := _, guard := none }) (v := .int .i64 (b2 : Int)) rfl (by kernel_rfl) (by kernel_rfl) (by kernel_rfl) (by kernel_rfl) (fun _ _ _ h => h) (yields_take rfl (fun w' hw => by obtain ⟨h1, h2, h3, h4, h5⟩ := hw.const; go_simp)) hS0.out ?_
          simp only [Act.put, List.setIfInBounds_toArray, List.set_cons_zero, List.set_cons_succ]
          refine wpAnyU_take (i := 10) (oi := { dst := some 159, op := _, type := _, pos := _, after := _, guard := none }) (v := .int .i64 (q : Int)) rfl (by kernel_rfl) (by kernel_rfl) (by kernel_rfl) (by kernel_rfl) (fun _ _ _ h => h) (yields_take rfl (fun w' hw => by obtain ⟨h1, h2, h3, h4, h5⟩ := hw.const; go_simp)) hS0.out ?_
          simp only [Act.put, List.setIfInBounds_toArray, List.set_cons_zero, List.set_cons_succ]
          refine wpAnyU_take (i := 11) (oi := { dst := some 160, op := _, type := _, pos := _, after := _, guard := none }) (v := .int .i64 (M : Int)) rfl (by kernel_rfl) (by kernel_rfl) (by kernel_rfl) (by kernel_rfl) (fun _ _ _ h => h) (yields_take rfl (fun w' hw => by obtain ⟨h1, h2, h3, h4, h5⟩ := hw.const; go_simp)) hS0.out ?_
          simp only [Act.put, List.setIfInBounds_toArray, List.set_cons_zero, List.set_cons_succ]
          refine wpAnyU_take (i := 12) (oi := { dst := some 161, op := _, type := _, pos := _, after := _, guard := none }) (v := .int .i64 (qd : Int)) rfl (by kernel_rfl) (by kernel_rfl) (by kernel_rfl) (by kernel_rfl) (fun _ _ _ h => h) (yields_take rfl (fun w' hw => by obtain ⟨h1, h2, h3, h4, h5⟩ := hw.const; go_simp)) hS0.out ?_
          simp only [Act.put, List.setIfInBounds_toArray, List.set_cons_zero, List.set_cons_succ]
          refine wpAnyU_take (i := 13) (oi := { dst := some 162, op := _, type := _, pos := _, after := _, guard := none }) (v := .int .i64 (b3 : Int)) rfl (by kernel_rfl) (by kernel_rfl) (by kernel_rfl) (by kernel_rfl) (fun _ _ _ h => h) (yields_take rfl (fun w' hw => by obtain ⟨h1, h2, h3, h4, h5⟩ := hw.const; go_simp)) hS0.out ?_
          simp only [Act.put, List.setIfInBounds_toArray, List.set_cons_zero, List.set_cons_succ]
          refine wpAnyU_take (i := 14) (oi := { dst := some 163, op := _, type := _, pos := _, after := _, guard := none }) (v := .pointer (some ⟨w.heap.size, 0, none⟩)) rfl (by kernel_rfl) (by kernel_rfl) (by kernel_rfl) (by kernel_rfl) (fun _ _ _ h => h) (yields_take rfl (fun w' hw => by obtain ⟨h1, h2, h3, h4, h5⟩ := hw.const; go_simp)) hS0.out ?_
          simp only [Act.put, List.setIfInBounds_toArray, List.set_cons_zero, List.set_cons_succ]
          refine wpAnyU_take (i := 15) (oi := { dst := some 164, op := _, type := _, pos := _, after := _, guard := none }) (v := .slice (some ⟨bA, oA, none⟩) 3 c) rfl (by kernel_rfl) (by kernel_rfl) (by kernel_rfl) (by kernel_rfl) (fun _ _ _ h => h) (yields_take rfl (fun w' hw => by obtain ⟨h1, h2, h3, h4, h5⟩ := hw.const; go_simp)) hS0.out ?_
          simp only [Act.put, List.setIfInBounds_toArray, List.set_cons_zero, List.set_cons_succ]
          refine wpAnyU_take (i := 16) (oi := { dst := some 165, op := _, type := _, pos := _, after := _, guard := none }) (v := .pointer (some ⟨bA, oA + 2, none⟩)) rfl (by kernel_rfl) (by kernel_rfl) (by kernel_rfl) (by kernel_rfl) (fun _ _ _ h => h) (yields_take rfl (fun w' hw => by obtain ⟨h1, h2, h3, h4, h5⟩ := hw.const; go_simp)) hS0.out ?_
          simp only [Act.put, List.setIfInBounds_toArray, List.set_cons_zero, List.set_cons_succ]
          refine wpAnyU_take (i := 17) (oi := { dst := some 166, op := _, type := _, pos := _, after := _, guard := none }) (v := .int .i64 (V : Int)) rfl (by kernel_rfl) (by kernel_rfl) (by kernel_rfl) (by kernel_rfl) (fun _ _ _ h => h) (yields_take rfl (fun w' hw => by obtain ⟨h1, h2, h3, h4, h5⟩ := hw.const; go_simp)) hS0.out ?_
          simp only [Act.put, List.setIfInBounds_toArray, List.set_cons_zero, List.set_cons_succ]
          refine wpAnyU_take (i := 18) (oi := { dst := some 167, op := _, type := _, pos := _, after := _, guard := none }) (v := .int .i64 (b4 : Int)) rfl (by kernel_rfl) (by kernel_rfl) (by kernel_rfl) (by kernel_rfl) (fun _ _ _ h => h) (yields_take rfl (fun w' hw => by obtain ⟨h1, h2, h3, h4, h5⟩ := hw.const; go_simp)) hS0.out ?_
          simp only [Act.put, List.setIfInBounds_toArray, List.set_cons_zero, List.set_cons_succ]
          refine wpAnyU_take (i := 19) (oi := { dst := some 168, op := _, type := _, pos := _, after := _, guard := none }) (v := .int .i64 (xM : Int)) rfl (by kernel_rfl) (by kernel_rfl) (by kernel_rfl) (by kernel_rfl) (fun _ _ _ h => h) (yields_take rfl (fun w' hw => by obtain ⟨h1, h2, h3, h4, h5⟩ := hw.const; go_simp)) hS0.out ?_
          simp only [Act.put, List.setIfInBounds_toArray, List.set_cons_zero, List.set_cons_succ]
          refine wpAnyU_take (i := 20) (oi := { dst := some 169, op := _, type := _, pos := _, after := _, guard := none }) (v := .int .i64 (b5 : Int)) rfl (by kernel_rfl) (by kernel_rfl) (by kernel_rfl) (by kernel_rfl) (fun _ _ _ h => h) (yields_take rfl (fun w' hw => by obtain ⟨h1, h2, h3, h4, h5⟩ := hw.const; go_simp)) hS0.out ?_
          simp only [Act.put, List.setIfInBounds_toArray, List.set_cons_zero, List.set_cons_succ]
          refine wpAnyU_take (i := 21) (oi := { dst := some 170, op := _, type := _, pos := _, after := _, guard := none }) (v := .int .i64 (q : Int)) rfl (by kernel_rfl) (by kernel_rfl) (by kernel_rfl) (by kernel_rfl) (fun _ _ _ h => h) (yields_take rfl (fun w' hw => by obtain ⟨h1, h2, h3, h4, h5⟩ := hw.const; go_simp)) hS0.out ?_
          simp only [Act.put, List.setIfInBounds_toArray, List.set_cons_zero, List.set_cons_succ]
          refine wpAnyU_take (i := 22) (oi := { dst := some 171, op := _, type := _, pos := _, after := _, guard := none }) (v := .int .i64 (M : Int)) rfl (by kernel_rfl) (by kernel_rfl) (by kernel_rfl) (by kernel_rfl) (fun _ _ _ h => h) (yields_take rfl (fun w' hw => by obtain ⟨h1, h2, h3, h4, h5⟩ := hw.const; go_simp)) hS0.out ?_
          simp only [Act.put, List.setIfInBounds_toArray, List.set_cons_zero, List.set_cons_succ]
          refine wpAnyU_take (i := 23) (oi := { dst := some 172, op := _, type := _, pos := _, after := _, guard := none }) (v := .int .i64 (qm : Int)) rfl (by kernel_rfl) (by kernel_rfl) (by kernel_rfl) (by kernel_rfl) (fun _ _ _ h => h) (yields_take rfl (fun w' hw => by obtain ⟨h1, h2, h3, h4, h5⟩ := hw.const; go_simp)) hS0.out ?_
          simp only [Act.put, List.setIfInBounds_toArray, List.set_cons_zero, List.set_cons_succ]
          refine wpAnyU_take (i := 24) (oi := { dst := some 173, op := _, type := _, pos := _, after := _, guard := none }) (v := .int .i64 (P : Int)) rfl (by kernel_rfl) (by kernel_rfl) (by kernel_rfl) (by kernel_rfl) (fun _ _ _ h => h) (yields_take rfl (fun w' hw => by obtain ⟨h1, h2, h3, h4, h5⟩ := hw.const; go_simp)) hS0.out ?_
          simp only [Act.put, List.setIfInBounds_toArray, List.set_cons_zero, List.set_cons_succ]
          refine wpAnyU_take (i := 25) (oi := { dst := some 174, op := _, type := _, pos := _, after := _, guard := none }) (v := .pointer (some ⟨bB, oB + P, none⟩)) rfl (by kernel_rfl) (by kernel_rfl) (by kernel_rfl) (by kernel_rfl) (fun _ _ _ h => h) (yields_take rfl (fun w' hw => by obtain ⟨h1, h2, h3, h4, h5⟩ := hw.const; go_simp)) hS0.out ?_
          simp only [Act.put, List.setIfInBounds_toArray, List.set_cons_zero, List.set_cons_succ]
          refine wpAnyU_take (i := 26) (oi := { dst := some 175, op := _, type := _, pos := _, after := _, guard := none }) (v := .int .i32 o) rfl (by kernel_rfl) (by kernel_rfl) (by kernel_rfl) (by kernel_rfl) (fun _ _ _ h => h) (yields_take rfl (fun w' hw => by obtain ⟨h1, h2, h3, h4, h5⟩ := hw.const; go_simp)) hS0.out ?_
          simp only [Act.put, List.setIfInBounds_toArray, List.set_cons_zero, List.set_cons_succ]
          refine wpAnyU_take (i := 27) (oi := { dst := some 21, op := _, type := _, pos := _, after := _, guard := none }) (v := .int .i32 o) rfl (by kernel_rfl) (by kernel_rfl) (by kernel_rfl) (by kernel_rfl) (fun _ _ _ h => h) (yields_take rfl (fun w' hw => by obtain ⟨h1, h2, h3, h4, h5⟩ := hw.const; go_simp)) hS0.out ?_
          simp only [Act.put, List.setIfInBounds_toArray, List.set_cons_zero, List.set_cons_succ]
          refine wpAnyU_done (by kernel_rfl) ?_ _
          clear hS0
          have HF2 := hide hF1
          clear hF1
          cases sb with
          | true =>
            go_wp2
            go_roundw
            case rel => exact ⟨q + 1, by omega, by go_num, by rw [HSE.out]; rfl, HF2⟩
            case measure => simp [intOf]; omega
          | false =>
            by_cases hoG : o = G
            · have e1 : (o == G) = true := by simpa using hoG
              go_wp2
              go_roundw
              case rel => exact ⟨q + 1, by omega, by go_num, by rw [HSE.out, e1]; rfl, HF2⟩
              case measure => simp [intOf]; omega
            · have e1 : (o == G) = false := by simpa using hoG
              go_wp2
              go_roundw
              case rel => exact ⟨q + 1, by omega, by go_num, by rw [HSE.out, e1]; rfl, HF2⟩
              case measure => simp [intOf]; omega
        · obtain rfl : MM = q := by omega
          have hse := seen8_all (l := l) (H := H) (V := V) (c := cc) (y := yM) (x := xM) (M := M) (by omega) HG.out
          rw [← HMM.out] at hse
          rw [hse]
          have h4 : ¬ ((MM : Int) < (MM : Int)) := by omega
          have HF2 := HF
          go_wp2
          go_roundw
          case rel => exact ⟨k + 1, by omega, by go_num, HF2⟩
          case measure => simp [intOf]; omega
    · obtain rfl : Q = k := by omega
      have hb := HE.out
      have h3 : ¬ ((Q : Int) < (Q : Int)) := by omega
      replace HT_t := hide (HT_t.out.kept hb)
      replace HT_x := hide (HT_x.out.kept hb)
      replace HT_z := hide (HT_z.out.kept hb)
      replace HBW := hide (HBW.out.trans (hb.mono HBW.out.size))
      clear hb HCX HCT q1 HE
      obtain ⟨E5, hE5⟩ : ∃ z : Int, z = pl8E [(C : Int), (Y : Int), (X : Int)] Q (N : Int) := ⟨_, rfl⟩
      have HR_E5 := hide hE5
      clear hE5
      obtain ⟨S5, hS5⟩ : ∃ z : List Int, z = pl8S [(C : Int), (Y : Int), (X : Int)] Q (N : Int) := ⟨_, rfl⟩
      have HR_S5 := hide hS5
      clear hS5
      obtain ⟨L5, hL5⟩ : ∃ z : List Int, z = pl8L [(C : Int), (Y : Int), (X : Int)] Q L2 (N : Int) := ⟨_, rfl⟩
      have HR_L5 := hide hL5
      clear hL5
      have cxx0 := HT_x.out.c0
      have cxx1 := HT_x.out.c1
      go_wp2_with fail
      refine Calls.mono (pool_own (some ⟨bX, oX, none⟩) (some ⟨bG, oG, none⟩) 3 c1x Q c2x [(C : Int), (Y : Int), (X : Int)] L2 (N : Int) _ HT_x.out.S HT_x.out.L (by omega)) ?_
      rw [← HR_E5.out, ← HR_S5.out, ← HR_L5.out]
      rintro e ua17 ⟨A1y, k1y, c1y, A2y, k2y, c2y, rfl, ho1, ho2, hk1y, hk2y, hb0⟩
      obtain ⟨V18, hV18⟩ : ∃ W, W = ua17.alloc (.cells #[.slice A1y k1y c1y, .slice A2y k2y c2y] 25) := ⟨_, rfl⟩
      have HT_y : Hid (TenAt V18 ua17.heap.size A1y A2y k1y c1y k2y c2y S5 L5) := hide (by rw [hV18]; exact TenAt.own ho1 ho2)
      have hcapy := own_cap ho2
      have hb : Below wr.heap.size wr V18 := by rw [hV18]; exact below_al6 hb0
      replace HT_t := hide (HT_t.out.kept hb)
      replace HT_x := hide (HT_x.out.kept hb)
      replace HT_z := hide (HT_z.out.kept hb)
      replace HBW := hide (HBW.out.trans (hb.mono HBW.out.size))
      have hV18' := hV18.symm
      clear cxx0 cxx1 hV18 hb hb0 ho1 ho2
      have hlt_y := HT_y.out.1.lt
      obtain ⟨hY, hX⟩ := HYX.out
      have hiff : (N ≤ Y ∧ N ≤ X) ↔ (MN ≤ H ∧ MN ≤ V) := by
        rw [hMN, hY, hX, Nat.le_div_iff_mul_le (by omega), Nat.le_div_iff_mul_le (by omega), Nat.mul_comm N M]
      by_cases hz : MN ≤ H ∧ MN ≤ V
      rotate_left
      · have e3 : E3 = 10 := by rw [HR_E3.out, pl8_no HOK.out ⟨by omega, by omega⟩ hz]
        have e5 : E5 = 10 := by rw [HR_E5.out, pl8_no HK2.out (by omega) (fun h => hz (hiff.1 h))]
        subst e3 e5
        go_wp2
        go_ret
        exact ⟨rfl, HBW.out⟩
      have h1MN : 1 ≤ MN := by rw [hMN]; exact Nat.mul_pos (by omega) (by omega)
      obtain ⟨i1, i2, i3, _⟩ := pl8_yes HOK.out (M := MN) ⟨h1MN, by omega⟩ hz l
      obtain ⟨j1, j2, j3, _⟩ := pl8_yes HK2.out (M := N) (by omega) (hiff.2 hz) L2
      have e3 : E3 = 0 := by rw [HR_E3.out, i1]
      have e5 : E5 = 0 := by rw [HR_E5.out, j1]
      have HEQ2 : Hid (S5 = S3 ∧ L5 = L3) := hide ⟨by rw [HR_S5.out, HR_S3.out, i2, j2, hMN, hY, hX, Nat.div_div_eq_div_mul, Nat.div_div_eq_div_mul], by rw [HR_L5.out, HR_L3.out, i3, j3, HL2.out, hMN, hY, hX, pool_pool (by omega) (by omega)]⟩
      clear i1 i2 i3 j1 j2 j3 hiff hz hY hX
      subst e3 e5
      have cxy0 := HT_y.out.c0
      have cxy1 := HT_y.out.c1
      have cxz0 := HT_z.out.c0
      have cxz1 := HT_z.out.c1
      go_wp2_with fail
      refine Calls.mono (same8_any A1y A2y A1z A2z k1y c1y k2y c2y k1z c1z k2z c2z S5 L5 S3 L3 0 0 _ HT_y.out.S HT_y.out.L HT_z.out.S HT_z.out.L (by omega) (by omega) rfl) ?_
      rw [show decide (S5 = S3 ∧ L5 = L3) = true from decide_eq_true HEQ2.out]
      rintro e ua19 ⟨rfl, hb⟩
      replace HT_t := hide (HT_t.out.kept hb)
      replace HT_x := hide (HT_x.out.kept hb)
      replace HT_z := hide (HT_z.out.kept hb)
      replace HT_y := hide (HT_y.out.kept hb)
      replace HBW := hide (HBW.out.trans (hb.mono HBW.out.size))
      clear cxy0 cxy1 cxz0 cxz1 hb
      go_wp2
      go_ret
      exact ⟨rfl, HBW.out⟩

end Go.Proofs.Ytknlllpfjineaaa
