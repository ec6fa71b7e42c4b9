/- MovesShapes: for every tensor and every shape the walk of its Go text ends in true. -/
import Derived.Test.YtknlllpfjineaaaAlive9M
namespace Go.Proofs.Ytknlllpfjineaaa
open Go.RowKit
set_option linter.unusedVariables false
set_option linter.unusedSimpArgs false
set_option maxRecDepth 100000

theorem ms_back {s u : List Int} {m : Nat} (h : msE s m u = 0) : msE u m s = 0 := by
  obtain ⟨h1, h2, h3⟩ := msE_iff.1 h
  obtain ⟨q1, q2⟩ := tenOk_iff.1 h1
  exact msE_iff.2 ⟨tenOk_iff.2 ⟨h2, h3⟩, q1, q2⟩

set_option maxHeartbeats 8000000 in
theorem shapes9_any (A B U : Option Addr) (n c m d q e0 : Nat) (s l u : List Int) (w : World) (hA : Lies w A n (s.map (Value.int .i64))) (hB : Lies w B m (l.map (Value.int .i32))) (hU : Lies w U q (u.map (Value.int .i64))) (hn : n ≤ 70368744177664) (hm : m ≤ 70368744177664) (hq : q ≤ 70368744177664) :
    Calls Try.prog 3 #[tenV A n c B m d, .slice U q e0] w fun e w' => e = .returned (.bool true) ∧ Below w.heap.size w w' := by
  obtain ⟨W0, hW0⟩ : ∃ W0, W0 = w.alloc (.cells #[.slice A n c, .slice B m d] 25) := ⟨_, rfl⟩
  have HBW : Hid (Below w.heap.size w W0) := hide (by rw [hW0]; exact below_al6 (Below.refl _ _))
  have HT_t : Hid (TenAt W0 w.heap.size A B n c m d s l) := hide (by rw [hW0]; exact ⟨BoxT.new w _ _, hA.alloc _, hB.alloc _⟩)
  have HU0 := hide hU
  have hW0' := hW0.symm
  clear hW0 hA hB hU
  go_enter Try.func3, Try.ntmps3
  go_wp2_with fail
  refine Calls.mono (alive9_any _) ?_
  rintro e ua1 ⟨rfl, hb⟩
  replace HT_t := hide (HT_t.out.kept hb)
  replace HBW := hide (HBW.out.trans (hb.mono HBW.out.size))
  clear hb
  have cxt0 := HT_t.out.c0
  have cxt1 := HT_t.out.c1
  go_wp2_with fail
  refine Calls.mono (small9_any A B n c m d s _ HT_t.out.S hn hm) ?_
  rintro e ua2 ⟨rfl, hb⟩
  replace HT_t := hide (HT_t.out.kept hb)
  replace HBW := hide (HBW.out.trans (hb.mono HBW.out.size))
  clear cxt0 cxt1 hb
  by_cases hsm : small9 n m s = true
  rotate_left
  · have hno : small9 n m s = false := by simpa using hsm
    rw [hno]
    clear hno hsm
    go_wp2_with fail
    refine Calls.mono (alive9_any _) ?_
    rintro e ua3 ⟨rfl, hb⟩
    replace HT_t := hide (HT_t.out.kept hb)
    replace HBW := hide (HBW.out.trans (hb.mono HBW.out.size))
    clear hb
    go_wp2
    go_ret
    exact ⟨rfl, HBW.out⟩
  rw [hsm]
  have htk : tenOk s m = true := by
    rw [small9] at hsm
    exact (Bool.and_eq_true _ _ ▸ hsm).2
  have HTK := hide htk
  clear hsm htk
  by_cases hq4 : q ≤ 10000
  rotate_left
  · have f1 : (10000 : Int) < (q : Int) := by omega
    go_wp2_with fail
    refine Calls.mono (alive9_any _) ?_
    rintro e ua4 ⟨rfl, hb⟩
    replace HT_t := hide (HT_t.out.kept hb)
    replace HBW := hide (HBW.out.trans (hb.mono HBW.out.size))
    clear hb
    go_wp2
    go_ret
    exact ⟨rfl, HBW.out⟩
  have f1 : ¬ ((10000 : Int) < (q : Int)) := by omega
  obtain ⟨E1, hE1⟩ : ∃ z : Int, z = msE s m u := ⟨_, rfl⟩
  have HR_E1 := hide hE1
  clear hE1
  obtain ⟨S1, hS1⟩ : ∃ z : List Int, z = msS s m u := ⟨_, rfl⟩
  have HR_S1 := hide hS1
  clear hS1
  obtain ⟨L1, hL1⟩ : ∃ z : List Int, z = msL s m u l := ⟨_, rfl⟩
  have HR_L1 := hide hL1
  clear hL1
  have cxt0 := HT_t.out.c0
  have cxt1 := HT_t.out.c1
  go_wp2_with fail
  refine Calls.mono (mshape_own A B U n c m d q e0 s l u _ HT_t.out.S HT_t.out.L (HU0.out.below HBW.out) (by omega) (by omega)) ?_
  rw [← HR_E1.out, ← HR_S1.out, ← HR_L1.out]
  rintro e ua5 ⟨A1x, k1x, c1x, A2x, k2x, c2x, rfl, ho1, ho2, hk1x, hk2x, hb0⟩
  obtain ⟨V6, hV6⟩ : ∃ W, W = ua5.alloc (.cells #[.slice A1x k1x c1x, .slice A2x k2x c2x] 25) := ⟨_, rfl⟩
  have HT_x : Hid (TenAt V6 ua5.heap.size A1x A2x k1x c1x k2x c2x S1 L1) := hide (by rw [hV6]; exact TenAt.own9 ho1 ho2)
  have hb : Below ua2.heap.size ua2 V6 := by rw [hV6]; exact below_al6 hb0
  replace HT_t := hide (HT_t.out.kept hb)
  replace HBW := hide (HBW.out.trans (hb.mono HBW.out.size))
  have hV6' := hV6.symm
  clear cxt0 cxt1 hV6 hb hb0 ho1 ho2
  have hlt_x := HT_x.out.1.lt
  by_cases hE : E1 = 0
  rotate_left
  · have hL : L1 = [] := by rw [HR_L1.out, msL, if_neg (by rw [← HR_E1.out]; exact hE)]
    have hk : k2x = 0 := by have h := lies_len9 HT_x.out.L; rw [hL] at h; simpa using h.symm
    have hE3 : E1 = 1 ∨ E1 = 10 := by rw [HR_E1.out] at hE ⊢; rcases msE_all s m u with h | h | h <;> omega
    subst hk
    clear hL hE
    rcases hE3 with h | h
    · subst h
      have cxx0 := HT_x.out.c0
      have cxx1 := HT_x.out.c1
      go_wp2
      go_ret
      exact ⟨rfl, HBW.out⟩
    · subst h
      have cxx0 := HT_x.out.c0
      have cxx1 := HT_x.out.c1
      go_wp2
      go_ret
      exact ⟨rfl, HBW.out⟩
  have hE0 := HR_E1.out
  rw [hE] at hE0
  have HE0 : Hid (msE s m u = 0) := hide hE0.symm
  have e5 : S1 = u := by rw [HR_S1.out, msS, if_pos HE0.out]
  have e6 : L1 = l := by rw [HR_L1.out, msL, if_pos HE0.out]
  clear hE0
  subst hE e5 e6
  have HLM : Hid (L1.length = m) := hide (lies_len9 HT_t.out.L)
  have HLX : Hid (L1.length = k2x) := hide (lies_len9 HT_x.out.L)
  obtain rfl : m = k2x := by rw [← HLM.out, HLX.out]
  have HBK := hide (ms_back HE0.out)
  obtain ⟨E2, hE2⟩ : ∃ z : Int, z = msE S1 m s := ⟨_, rfl⟩
  have HR_E2 := hide hE2
  clear hE2
  obtain ⟨S2, hS2⟩ : ∃ z : List Int, z = msS S1 m s := ⟨_, rfl⟩
  have HR_S2 := hide hS2
  clear hS2
  obtain ⟨L2, hL2⟩ : ∃ z : List Int, z = msL S1 m s L1 := ⟨_, rfl⟩
  have HR_L2 := hide hL2
  clear hL2
  have cxx0 := HT_x.out.c0
  have cxx1 := HT_x.out.c1
  have cxt0 := HT_t.out.c0
  have cxt1 := HT_t.out.c1
  go_wp2_with fail
  refine Calls.mono (mshape_own A1x A2x A k1x c1x m c2x n c S1 L1 s _ HT_x.out.S HT_x.out.L HT_t.out.S (by omega) (by omega)) ?_
  rw [← HR_E2.out, ← HR_S2.out, ← HR_L2.out]
  rintro e ua7 ⟨A1y, k1y, c1y, A2y, k2y, c2y, rfl, ho1, ho2, hk1y, hk2y, hb0⟩
  obtain ⟨V8, hV8⟩ : ∃ W, W = ua7.alloc (.cells #[.slice A1y k1y c1y, .slice A2y k2y c2y] 25) := ⟨_, rfl⟩
  have HT_y : Hid (TenAt V8 ua7.heap.size A1y A2y k1y c1y k2y c2y S2 L2) := hide (by rw [hV8]; exact TenAt.own9 ho1 ho2)
  have hb : Below V6.heap.size V6 V8 := by rw [hV8]; exact below_al6 hb0
  replace HT_t := hide (HT_t.out.kept hb)
  replace HT_x := hide (HT_x.out.kept hb)
  replace HBW := hide (HBW.out.trans (hb.mono HBW.out.size))
  have hV8' := hV8.symm
  clear cxx0 cxx1 cxt0 cxt1 hV8 hb hb0 ho1 ho2
  have hlt_y := HT_y.out.1.lt
  have e7 : E2 = 0 := by rw [HR_E2.out, HBK.out]
  have e8 : S2 = s := by rw [HR_S2.out, msS, if_pos HBK.out]
  have e9 : L2 = L1 := by rw [HR_L2.out, msL, if_pos HBK.out]
  subst e7 e8 e9
  have cxx0 := HT_x.out.c0
  have cxx1 := HT_x.out.c1
  have cxt0 := HT_t.out.c0
  have cxt1 := HT_t.out.c1
  go_wp2_with fail
  refine Calls.mono (sameG_Numbers A2x B m c2x m d L2 L2 _ HT_x.out.L HT_t.out.L (by omega)) ?_
  rw [show decide (L2 = L2) = true from decide_eq_true rfl]
  rintro e ua9 ⟨rfl, j1, hj1⟩
  have hb : Below V8.heap.size V8 ua9 := by rw [hj1]; exact below_drewN (Below.refl _ _) j1
  replace HT_t := hide (HT_t.out.kept hb)
  replace HT_x := hide (HT_x.out.kept hb)
  replace HT_y := hide (HT_y.out.kept hb)
  replace HBW := hide (HBW.out.trans (hb.mono HBW.out.size))
  clear cxx0 cxx1 cxt0 cxt1 hb hj1
  have cxx0 := HT_x.out.c0
  have cxx1 := HT_x.out.c1
  go_wp2_with fail
  refine Calls.mono (sameG_Ints A1x U k1x c1x q e0 S1 S1 _ HT_x.out.S (HU0.out.below HBW.out) (by omega)) ?_
  rw [show decide (S1 = S1) = true from decide_eq_true rfl]
  rintro e ua10 ⟨rfl, j2, hj2⟩
  have hb : Below ua9.heap.size ua9 ua10 := by rw [hj2]; exact below_drewN (Below.refl _ _) j2
  replace HT_t := hide (HT_t.out.kept hb)
  replace HT_x := hide (HT_x.out.kept hb)
  replace HT_y := hide (HT_y.out.kept hb)
  replace HBW := hide (HBW.out.trans (hb.mono HBW.out.size))
  clear cxx0 cxx1 hb hj2
  have cxy0 := HT_y.out.c0
  have cxy1 := HT_y.out.c1
  have cxt0 := HT_t.out.c0
  have cxt1 := HT_t.out.c1
  go_wp2_with fail
  refine Calls.mono (is9_any A1y A2y A B k1y c1y k2y c2y n c m d S2 L2 S2 L2 0 _ HT_y.out.S HT_y.out.L HT_t.out.S HT_t.out.L (by omega) (by omega) rfl) ?_
  rw [show decide (S2 = S2 ∧ L2 = L2) = true from decide_eq_true ⟨rfl, rfl⟩]
  rintro e ua11 ⟨rfl, hb⟩
  replace HT_t := hide (HT_t.out.kept hb)
  replace HT_x := hide (HT_x.out.kept hb)
  replace HT_y := hide (HT_y.out.kept hb)
  replace HBW := hide (HBW.out.trans (hb.mono HBW.out.size))
  clear cxy0 cxy1 cxt0 cxt1 hb
  go_wp2
  go_ret
  exact ⟨rfl, HBW.out⟩

end Go.Proofs.Ytknlllpfjineaaa
