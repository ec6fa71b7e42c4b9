/- WindowsSums: for every two slides the walk of its Go text ends in true. -/
import Derived.Test.YtgkilankaknfcaaAlive8M
import Derived.Test.YtgkilankaknfcaaWC
import Derived.Test.YtgkilankaknfcaaWB
namespace Go.Proofs.Ytgkilankaknfcaa
open Go.RowKit
set_option linter.unusedVariables false
set_option linter.unusedSimpArgs false
set_option maxRecDepth 100000

set_option maxHeartbeats 16000000 in
theorem sums8_any (A B A' B' : Option Addr) (n c m d n' c' m' d' : Nat) (s l s' l' : List Int) (st pd wd : Int) (A2 B2 A2' B2' : Option Addr) (n2 c2 m2 d2 n2' c2' m2' d2' : Nat) (s2 l2 s2' l2' : List Int) (st2 pd2 wd2 : Int) (w : World)
    (hA : Lies w A n (s.map (Value.int .i64))) (hB : Lies w B m (l.map (Value.int .i32))) (hA' : Lies w A' n' (s'.map (Value.int .i64))) (hB' : Lies w B' m' (l'.map (Value.int .i32))) (hA2 : Lies w A2 n2 (s2.map (Value.int .i64))) (hB2 : Lies w B2 m2 (l2.map (Value.int .i32))) (hA2' : Lies w A2' n2' (s2'.map (Value.int .i64))) (hB2' : Lies w B2' m2' (l2'.map (Value.int .i32)))
    (hn : n ≤ 70368744177664) (hm : m ≤ 70368744177664) (hn' : n' ≤ 70368744177664) (hm' : m' ≤ 70368744177664) (hn2 : n2 ≤ 70368744177664) (hm2 : m2 ≤ 70368744177664) (hn2' : n2' ≤ 70368744177664) (hm2' : m2' ≤ 70368744177664) (hcap : m' ≤ d') (hcap2 : m2' ≤ d2') :
    Calls Try.prog 3 #[slideV A n c B m d A' n' c' B' m' d' st pd wd, slideV A2 n2 c2 B2 m2 d2 A2' n2' c2' B2' m2' d2' st2 pd2 wd2] w fun e w' => e = .returned (.bool true) ∧ Below w.heap.size w w' := by
  obtain ⟨W0, hW0⟩ : ∃ W0, W0 = (w.alloc (.cells #[.slice A n c, .slice B m d, .slice A' n' c', .slice B' m' d', .int .i64 st, .int .i64 pd, .int .i64 wd] 27)).alloc (.cells #[.slice A2 n2 c2, .slice B2 m2 d2, .slice A2' n2' c2', .slice B2' m2' d2', .int .i64 st2, .int .i64 pd2, .int .i64 wd2] 27) := ⟨_, rfl⟩
  have HBW : Hid (Below w.heap.size w W0) := hide (by rw [hW0]; exact below_al6 (below_al6 (Below.refl _ _)))
  have HT_z : Hid (SlideAt W0 w.heap.size A n c B m d A' n' c' B' m' d' st pd wd s l s' l') := hide (by rw [hW0]; exact (SlideAt.new w c d c' d' st pd wd hA hB hA' hB').kept (below_al6 (Below.refl _ _)))
  have HT_y : Hid (SlideAt W0 (w.heap.size + 1) A2 n2 c2 B2 m2 d2 A2' n2' c2' B2' m2' d2' st2 pd2 wd2 s2 l2 s2' l2') := hide (by
    rw [hW0]
    have h := SlideAt.new (w.alloc (.cells #[.slice A n c, .slice B m d, .slice A' n' c', .slice B' m' d', .int .i64 st, .int .i64 pd, .int .i64 wd] 27)) c2 d2 c2' d2' st2 pd2 wd2 (hA2.alloc _) (hB2.alloc _) (hA2'.alloc _) (hB2'.alloc _)
    rwa [World.size_alloc] at h)
  have hW0' := hW0.symm
  clear hW0 hA hB hA' hB' hA2 hB2 hA2' hB2' 
  go_enter Try.func3, Try.ntmps3
  go_wp2_with fail
  refine Calls.mono (alive8_any _) ?_
  rintro e u1 ⟨rfl, hb⟩
  replace HT_z := hide (HT_z.out.kept hb)
  replace HT_y := hide (HT_y.out.kept hb)
  replace HBW := hide (HBW.out.trans (hb.mono HBW.out.size))
  clear hb
  by_cases hfz : far8 n m n' m' = true
  · have cxz0 := HT_z.out.c0
    have cxz1 := HT_z.out.c1
    have cxz2 := HT_z.out.c2
    have cxz3 := HT_z.out.c3
    have cxz4 := HT_z.out.c4
    have cxz5 := HT_z.out.c5
    have cxz6 := HT_z.out.c6
    go_wp2_with fail
    refine Calls.mono (great8_any A B A' B' n c m d n' c' m' d' st pd wd _ hn hm hn' hm') ?_
    rw [hfz]
    rintro e u2 ⟨rfl, hb⟩
    replace HT_z := hide (HT_z.out.kept hb)
    replace HT_y := hide (HT_y.out.kept hb)
    replace HBW := hide (HBW.out.trans (hb.mono HBW.out.size))
    clear cxz0 cxz1 cxz2 cxz3 cxz4 cxz5 cxz6 hb
    go_wp2_with fail
    refine Calls.mono (alive8_any _) ?_
    rintro e u3 ⟨rfl, hb⟩
    replace HT_z := hide (HT_z.out.kept hb)
    replace HT_y := hide (HT_y.out.kept hb)
    replace HBW := hide (HBW.out.trans (hb.mono HBW.out.size))
    clear hb
    go_wp2
    go_ret
    exact ⟨rfl, HBW.out⟩
  obtain ⟨hfz0, b1z, b2z, b3z, b4z⟩ := far8_no hfz
  have cxz0 := HT_z.out.c0
  have cxz1 := HT_z.out.c1
  have cxz2 := HT_z.out.c2
  have cxz3 := HT_z.out.c3
  have cxz4 := HT_z.out.c4
  have cxz5 := HT_z.out.c5
  have cxz6 := HT_z.out.c6
  go_wp2_with fail
  refine Calls.mono (great8_any A B A' B' n c m d n' c' m' d' st pd wd _ hn hm hn' hm') ?_
  rw [hfz0]
  rintro e u4 ⟨rfl, hb⟩
  replace HT_z := hide (HT_z.out.kept hb)
  replace HT_y := hide (HT_y.out.kept hb)
  replace HBW := hide (HBW.out.trans (hb.mono HBW.out.size))
  clear cxz0 cxz1 cxz2 cxz3 cxz4 cxz5 cxz6 hb hfz hfz0
  by_cases hfy : far8 n2 m2 n2' m2' = true
  · have cxy0 := HT_y.out.c0
    have cxy1 := HT_y.out.c1
    have cxy2 := HT_y.out.c2
    have cxy3 := HT_y.out.c3
    have cxy4 := HT_y.out.c4
    have cxy5 := HT_y.out.c5
    have cxy6 := HT_y.out.c6
    go_wp2_with fail
    refine Calls.mono (great8_any A2 B2 A2' B2' n2 c2 m2 d2 n2' c2' m2' d2' st2 pd2 wd2 _ hn2 hm2 hn2' hm2') ?_
    rw [hfy]
    rintro e u5 ⟨rfl, hb⟩
    replace HT_z := hide (HT_z.out.kept hb)
    replace HT_y := hide (HT_y.out.kept hb)
    replace HBW := hide (HBW.out.trans (hb.mono HBW.out.size))
    clear cxy0 cxy1 cxy2 cxy3 cxy4 cxy5 cxy6 hb
    go_wp2_with fail
    refine Calls.mono (alive8_any _) ?_
    rintro e u6 ⟨rfl, hb⟩
    replace HT_z := hide (HT_z.out.kept hb)
    replace HT_y := hide (HT_y.out.kept hb)
    replace HBW := hide (HBW.out.trans (hb.mono HBW.out.size))
    clear hb
    go_wp2
    go_ret
    exact ⟨rfl, HBW.out⟩
  obtain ⟨hfy0, b1y, b2y, b3y, b4y⟩ := far8_no hfy
  have cxy0 := HT_y.out.c0
  have cxy1 := HT_y.out.c1
  have cxy2 := HT_y.out.c2
  have cxy3 := HT_y.out.c3
  have cxy4 := HT_y.out.c4
  have cxy5 := HT_y.out.c5
  have cxy6 := HT_y.out.c6
  go_wp2_with fail
  refine Calls.mono (great8_any A2 B2 A2' B2' n2 c2 m2 d2 n2' c2' m2' d2' st2 pd2 wd2 _ hn2 hm2 hn2' hm2') ?_
  rw [hfy0]
  rintro e u7 ⟨rfl, hb⟩
  replace HT_z := hide (HT_z.out.kept hb)
  replace HT_y := hide (HT_y.out.kept hb)
  replace HBW := hide (HBW.out.trans (hb.mono HBW.out.size))
  clear cxy0 cxy1 cxy2 cxy3 cxy4 cxy5 cxy6 hb hfy hfy0
  by_cases hs : s = s2
  rotate_left
  · have cxz0 := HT_z.out.c0
    have cxz1 := HT_z.out.c1
    have cxz2 := HT_z.out.c2
    have cxz3 := HT_z.out.c3
    have cxz4 := HT_z.out.c4
    have cxz5 := HT_z.out.c5
    have cxz6 := HT_z.out.c6
    have cxy0 := HT_y.out.c0
    have cxy1 := HT_y.out.c1
    have cxy2 := HT_y.out.c2
    have cxy3 := HT_y.out.c3
    have cxy4 := HT_y.out.c4
    have cxy5 := HT_y.out.c5
    have cxy6 := HT_y.out.c6
    go_wp2_with fail
    refine Calls.mono (sameG_Ints A A2 n c n2 c2 s s2 _ HT_z.out.S HT_y.out.S (by omega)) ?_
    rw [decide_eq_false hs]
    rintro e u8 ⟨rfl, jq, hjq⟩
    have hb : Below u7.heap.size u7 u8 := by rw [hjq]; exact below_drewN (Below.refl _ _) jq
    replace HT_z := hide (HT_z.out.kept hb)
    replace HT_y := hide (HT_y.out.kept hb)
    replace HBW := hide (HBW.out.trans (hb.mono HBW.out.size))
    clear cxz0 cxz1 cxz2 cxz3 cxz4 cxz5 cxz6 cxy0 cxy1 cxy2 cxy3 cxy4 cxy5 cxy6 hb hjq
    go_wp2_with fail
    refine Calls.mono (alive8_any _) ?_
    rintro e u9 ⟨rfl, hb⟩
    replace HT_z := hide (HT_z.out.kept hb)
    replace HT_y := hide (HT_y.out.kept hb)
    replace HBW := hide (HBW.out.trans (hb.mono HBW.out.size))
    clear hb
    go_wp2
    go_ret
    exact ⟨rfl, HBW.out⟩
  have cxz0 := HT_z.out.c0
  have cxz1 := HT_z.out.c1
  have cxz2 := HT_z.out.c2
  have cxz3 := HT_z.out.c3
  have cxz4 := HT_z.out.c4
  have cxz5 := HT_z.out.c5
  have cxz6 := HT_z.out.c6
  have cxy0 := HT_y.out.c0
  have cxy1 := HT_y.out.c1
  have cxy2 := HT_y.out.c2
  have cxy3 := HT_y.out.c3
  have cxy4 := HT_y.out.c4
  have cxy5 := HT_y.out.c5
  have cxy6 := HT_y.out.c6
  go_wp2_with fail
  refine Calls.mono (sameG_Ints A A2 n c n2 c2 s s2 _ HT_z.out.S HT_y.out.S (by omega)) ?_
  rw [decide_eq_true hs]
  rintro e u10 ⟨rfl, jq, hjq⟩
  have hb : Below u7.heap.size u7 u10 := by rw [hjq]; exact below_drewN (Below.refl _ _) jq
  replace HT_z := hide (HT_z.out.kept hb)
  replace HT_y := hide (HT_y.out.kept hb)
  replace HBW := hide (HBW.out.trans (hb.mono HBW.out.size))
  clear cxz0 cxz1 cxz2 cxz3 cxz4 cxz5 cxz6 cxy0 cxy1 cxy2 cxy3 cxy4 cxy5 cxy6 hb hjq
  by_cases hs' : s' = s2'
  rotate_left
  · have cxz0 := HT_z.out.c0
    have cxz1 := HT_z.out.c1
    have cxz2 := HT_z.out.c2
    have cxz3 := HT_z.out.c3
    have cxz4 := HT_z.out.c4
    have cxz5 := HT_z.out.c5
    have cxz6 := HT_z.out.c6
    have cxy0 := HT_y.out.c0
    have cxy1 := HT_y.out.c1
    have cxy2 := HT_y.out.c2
    have cxy3 := HT_y.out.c3
    have cxy4 := HT_y.out.c4
    have cxy5 := HT_y.out.c5
    have cxy6 := HT_y.out.c6
    go_wp2_with fail
    refine Calls.mono (sameG_Ints A' A2' n' c' n2' c2' s' s2' _ HT_z.out.S' HT_y.out.S' (by omega)) ?_
    rw [decide_eq_false hs']
    rintro e u11 ⟨rfl, jq, hjq⟩
    have hb : Below u10.heap.size u10 u11 := by rw [hjq]; exact below_drewN (Below.refl _ _) jq
    replace HT_z := hide (HT_z.out.kept hb)
    replace HT_y := hide (HT_y.out.kept hb)
    replace HBW := hide (HBW.out.trans (hb.mono HBW.out.size))
    clear cxz0 cxz1 cxz2 cxz3 cxz4 cxz5 cxz6 cxy0 cxy1 cxy2 cxy3 cxy4 cxy5 cxy6 hb hjq
    go_wp2_with fail
    refine Calls.mono (alive8_any _) ?_
    rintro e u12 ⟨rfl, hb⟩
    replace HT_z := hide (HT_z.out.kept hb)
    replace HT_y := hide (HT_y.out.kept hb)
    replace HBW := hide (HBW.out.trans (hb.mono HBW.out.size))
    clear hb
    go_wp2
    go_ret
    exact ⟨rfl, HBW.out⟩
  have cxz0 := HT_z.out.c0
  have cxz1 := HT_z.out.c1
  have cxz2 := HT_z.out.c2
  have cxz3 := HT_z.out.c3
  have cxz4 := HT_z.out.c4
  have cxz5 := HT_z.out.c5
  have cxz6 := HT_z.out.c6
  have cxy0 := HT_y.out.c0
  have cxy1 := HT_y.out.c1
  have cxy2 := HT_y.out.c2
  have cxy3 := HT_y.out.c3
  have cxy4 := HT_y.out.c4
  have cxy5 := HT_y.out.c5
  have cxy6 := HT_y.out.c6
  go_wp2_with fail
  refine Calls.mono (sameG_Ints A' A2' n' c' n2' c2' s' s2' _ HT_z.out.S' HT_y.out.S' (by omega)) ?_
  rw [decide_eq_true hs']
  rintro e u13 ⟨rfl, jq, hjq⟩
  have hb : Below u10.heap.size u10 u13 := by rw [hjq]; exact below_drewN (Below.refl _ _) jq
  replace HT_z := hide (HT_z.out.kept hb)
  replace HT_y := hide (HT_y.out.kept hb)
  replace HBW := hide (HBW.out.trans (hb.mono HBW.out.size))
  clear cxz0 cxz1 cxz2 cxz3 cxz4 cxz5 cxz6 cxy0 cxy1 cxy2 cxy3 cxy4 cxy5 cxy6 hb hjq
  subst hs hs'
  obtain ⟨E1, hE1⟩ : ∃ z : Int, z = twoE s m s m2 := ⟨_, rfl⟩
  have HR_E1 := hide hE1
  clear hE1
  obtain ⟨S1, hS1⟩ : ∃ z : List Int, z = twoS s m s m2 := ⟨_, rfl⟩
  have HR_S1 := hide hS1
  clear hS1
  obtain ⟨L1, hL1⟩ : ∃ z : List Int, z = twoL add32 s m s m2 l l2 := ⟨_, rfl⟩
  have HR_L1 := hide hL1
  clear hL1
  obtain ⟨E2, hE2⟩ : ∃ z : Int, z = twoE s' m' s' m2' := ⟨_, rfl⟩
  have HR_E2 := hide hE2
  clear hE2
  obtain ⟨S2, hS2⟩ : ∃ z : List Int, z = twoS s' m' s' m2' := ⟨_, rfl⟩
  have HR_S2 := hide hS2
  clear hS2
  obtain ⟨L2, hL2⟩ : ∃ z : List Int, z = twoL add32 s' m' s' m2' l' l2' := ⟨_, rfl⟩
  have HR_L2 := hide hL2
  clear hL2
  obtain ⟨E3, hE3⟩ : ∃ z : Int, z = of8E s m s' m' st pd := ⟨_, rfl⟩
  have HR_E3 := hide hE3
  clear hE3
  obtain ⟨S3, hS3⟩ : ∃ z : List Int, z = of8S s m s' m' st pd := ⟨_, rfl⟩
  have HR_S3 := hide hS3
  clear hS3
  obtain ⟨L3, hL3⟩ : ∃ z : List Int, z = of8L s m s' m' l l' st pd := ⟨_, rfl⟩
  have HR_L3 := hide hL3
  clear hL3
  obtain ⟨E4, hE4⟩ : ∃ z : Int, z = of8E s m2 s' m' st pd := ⟨_, rfl⟩
  have HR_E4 := hide hE4
  clear hE4
  obtain ⟨S4, hS4⟩ : ∃ z : List Int, z = of8S s m2 s' m' st pd := ⟨_, rfl⟩
  have HR_S4 := hide hS4
  clear hS4
  obtain ⟨L4, hL4⟩ : ∃ z : List Int, z = of8L s m2 s' m' l2 l' st pd := ⟨_, rfl⟩
  have HR_L4 := hide hL4
  clear hL4
  obtain ⟨E5, hE5⟩ : ∃ z : Int, z = of8E s m s' m2' st pd := ⟨_, rfl⟩
  have HR_E5 := hide hE5
  clear hE5
  obtain ⟨S5, hS5⟩ : ∃ z : List Int, z = of8S s m s' m2' st pd := ⟨_, rfl⟩
  have HR_S5 := hide hS5
  clear hS5
  obtain ⟨L5, hL5⟩ : ∃ z : List Int, z = of8L s m s' m2' l l2' st pd := ⟨_, rfl⟩
  have HR_L5 := hide hL5
  clear hL5
  have cxz0 := HT_z.out.c0
  have cxz1 := HT_z.out.c1
  have cxz2 := HT_z.out.c2
  have cxz3 := HT_z.out.c3
  have cxz4 := HT_z.out.c4
  have cxz5 := HT_z.out.c5
  have cxz6 := HT_z.out.c6
  have cxy0 := HT_y.out.c0
  have cxy1 := HT_y.out.c1
  have cxy2 := HT_y.out.c2
  have cxy3 := HT_y.out.c3
  have cxy4 := HT_y.out.c4
  have cxy5 := HT_y.out.c5
  have cxy6 := HT_y.out.c6
  go_wp2_with fail
  refine Calls.mono (add_own A B A2 B2 n c m d n2 c2 m2 d2 s l s l2 _ HT_z.out.S HT_z.out.L HT_y.out.S HT_y.out.L (by omega) (by omega)) ?_
  rw [← HR_E1.out, ← HR_S1.out, ← HR_L1.out]
  rintro e u14 ⟨A1tt, k1tt, c1tt, A2tt, k2tt, c2tt, rfl, ho1, ho2, hk1tt, hk2tt, hb0⟩
  obtain ⟨V15, hV15⟩ : ∃ W, W = u14.alloc (.cells #[.slice A1tt k1tt c1tt, .slice A2tt k2tt c2tt] 25) := ⟨_, rfl⟩
  have HT_tt : Hid (TenAt V15 u14.heap.size A1tt A2tt k1tt c1tt k2tt c2tt S1 L1) := hide (by rw [hV15]; exact TenAt.own ho1 ho2)
  have hcaptt := own_cap ho2
  have hb : Below u13.heap.size u13 V15 := by rw [hV15]; exact below_al6 hb0
  replace HT_z := hide (HT_z.out.kept hb)
  replace HT_y := hide (HT_y.out.kept hb)
  replace HBW := hide (HBW.out.trans (hb.mono HBW.out.size))
  have hV15' := hV15.symm
  clear cxz0 cxz1 cxz2 cxz3 cxz4 cxz5 cxz6 cxy0 cxy1 cxy2 cxy3 cxy4 cxy5 cxy6 hV15 hb hb0 ho1 ho2
  have hlt_tt := HT_tt.out.1.lt
  have cxz0 := HT_z.out.c0
  have cxz1 := HT_z.out.c1
  have cxz2 := HT_z.out.c2
  have cxz3 := HT_z.out.c3
  have cxz4 := HT_z.out.c4
  have cxz5 := HT_z.out.c5
  have cxz6 := HT_z.out.c6
  have cxy0 := HT_y.out.c0
  have cxy1 := HT_y.out.c1
  have cxy2 := HT_y.out.c2
  have cxy3 := HT_y.out.c3
  have cxy4 := HT_y.out.c4
  have cxy5 := HT_y.out.c5
  have cxy6 := HT_y.out.c6
  go_wp2_with fail
  refine Calls.mono (add_own A' B' A2' B2' n' c' m' d' n2' c2' m2' d2' s' l' s' l2' _ HT_z.out.S' HT_z.out.L' HT_y.out.S' HT_y.out.L' (by omega) (by omega)) ?_
  rw [← HR_E2.out, ← HR_S2.out, ← HR_L2.out]
  rintro e u16 ⟨A1ww, k1ww, c1ww, A2ww, k2ww, c2ww, rfl, ho1, ho2, hk1ww, hk2ww, hb0⟩
  obtain ⟨V17, hV17⟩ : ∃ W, W = u16.alloc (.cells #[.slice A1ww k1ww c1ww, .slice A2ww k2ww c2ww] 25) := ⟨_, rfl⟩
  have HT_ww : Hid (TenAt V17 u16.heap.size A1ww A2ww k1ww c1ww k2ww c2ww S2 L2) := hide (by rw [hV17]; exact TenAt.own ho1 ho2)
  have hcapww := own_cap ho2
  have hb : Below V15.heap.size V15 V17 := by rw [hV17]; exact below_al6 hb0
  replace HT_z := hide (HT_z.out.kept hb)
  replace HT_y := hide (HT_y.out.kept hb)
  replace HT_tt := hide (HT_tt.out.kept hb)
  replace HBW := hide (HBW.out.trans (hb.mono HBW.out.size))
  have hV17' := hV17.symm
  clear cxz0 cxz1 cxz2 cxz3 cxz4 cxz5 cxz6 cxy0 cxy1 cxy2 cxy3 cxy4 cxy5 cxy6 hV17 hb hb0 ho1 ho2
  have hlt_ww := HT_ww.out.1.lt
  have cxz0 := HT_z.out.c0
  have cxz1 := HT_z.out.c1
  have cxz2 := HT_z.out.c2
  have cxz3 := HT_z.out.c3
  have cxz4 := HT_z.out.c4
  have cxz5 := HT_z.out.c5
  have cxz6 := HT_z.out.c6
  have cxy0 := HT_y.out.c0
  have cxy1 := HT_y.out.c1
  have cxy2 := HT_y.out.c2
  have cxy3 := HT_y.out.c3
  have cxy4 := HT_y.out.c4
  have cxy5 := HT_y.out.c5
  have cxy6 := HT_y.out.c6
  go_wp2_with fail
  refine Calls.mono (wof_own A B A' B' n c m d n' c' m' d' s l s' l' st pd _ HT_z.out.S HT_z.out.L HT_z.out.S' HT_z.out.L' (by omega) (by omega) hcap) ?_
  rw [← HR_E3.out, ← HR_S3.out, ← HR_L3.out]
  rintro e u18 ⟨A1a, k1a, c1a, A2a, k2a, c2a, rfl, ho1, ho2, hk1a, hk2a, hb0⟩
  obtain ⟨V19, hV19⟩ : ∃ W, W = u18.alloc (.cells #[.slice A1a k1a c1a, .slice A2a k2a c2a] 25) := ⟨_, rfl⟩
  have HT_a : Hid (TenAt V19 u18.heap.size A1a A2a k1a c1a k2a c2a S3 L3) := hide (by rw [hV19]; exact TenAt.own ho1 ho2)
  have hcapa := own_cap ho2
  have hb : Below V17.heap.size V17 V19 := by rw [hV19]; exact below_al6 hb0
  replace HT_z := hide (HT_z.out.kept hb)
  replace HT_y := hide (HT_y.out.kept hb)
  replace HT_tt := hide (HT_tt.out.kept hb)
  replace HT_ww := hide (HT_ww.out.kept hb)
  replace HBW := hide (HBW.out.trans (hb.mono HBW.out.size))
  have hV19' := hV19.symm
  clear cxz0 cxz1 cxz2 cxz3 cxz4 cxz5 cxz6 cxy0 cxy1 cxy2 cxy3 cxy4 cxy5 cxy6 hV19 hb hb0 ho1 ho2
  have hlt_a := HT_a.out.1.lt
  have cxz0 := HT_z.out.c0
  have cxz1 := HT_z.out.c1
  have cxz2 := HT_z.out.c2
  have cxz3 := HT_z.out.c3
  have cxz4 := HT_z.out.c4
  have cxz5 := HT_z.out.c5
  have cxz6 := HT_z.out.c6
  have cxy0 := HT_y.out.c0
  have cxy1 := HT_y.out.c1
  have cxy2 := HT_y.out.c2
  have cxy3 := HT_y.out.c3
  have cxy4 := HT_y.out.c4
  have cxy5 := HT_y.out.c5
  have cxy6 := HT_y.out.c6
  go_wp2_with fail
  refine Calls.mono (wof_own A2 B2 A' B' n2 c2 m2 d2 n' c' m' d' s l2 s' l' st pd _ HT_y.out.S HT_y.out.L HT_z.out.S' HT_z.out.L' (by omega) (by omega) hcap) ?_
  rw [← HR_E4.out, ← HR_S4.out, ← HR_L4.out]
  rintro e u20 ⟨A1b, k1b, c1b, A2b, k2b, c2b, rfl, ho1, ho2, hk1b, hk2b, hb0⟩
  obtain ⟨V21, hV21⟩ : ∃ W, W = u20.alloc (.cells #[.slice A1b k1b c1b, .slice A2b k2b c2b] 25) := ⟨_, rfl⟩
  have HT_b : Hid (TenAt V21 u20.heap.size A1b A2b k1b c1b k2b c2b S4 L4) := hide (by rw [hV21]; exact TenAt.own ho1 ho2)
  have hcapb := own_cap ho2
  have hb : Below V19.heap.size V19 V21 := by rw [hV21]; exact below_al6 hb0
  replace HT_z := hide (HT_z.out.kept hb)
  replace HT_y := hide (HT_y.out.kept hb)
  replace HT_tt := hide (HT_tt.out.kept hb)
  replace HT_ww := hide (HT_ww.out.kept hb)
  replace HT_a := hide (HT_a.out.kept hb)
  replace HBW := hide (HBW.out.trans (hb.mono HBW.out.size))
  have hV21' := hV21.symm
  clear cxz0 cxz1 cxz2 cxz3 cxz4 cxz5 cxz6 cxy0 cxy1 cxy2 cxy3 cxy4 cxy5 cxy6 hV21 hb hb0 ho1 ho2
  have hlt_b := HT_b.out.1.lt
  have cxz0 := HT_z.out.c0
  have cxz1 := HT_z.out.c1
  have cxz2 := HT_z.out.c2
  have cxz3 := HT_z.out.c3
  have cxz4 := HT_z.out.c4
  have cxz5 := HT_z.out.c5
  have cxz6 := HT_z.out.c6
  have cxy0 := HT_y.out.c0
  have cxy1 := HT_y.out.c1
  have cxy2 := HT_y.out.c2
  have cxy3 := HT_y.out.c3
  have cxy4 := HT_y.out.c4
  have cxy5 := HT_y.out.c5
  have cxy6 := HT_y.out.c6
  go_wp2_with fail
  refine Calls.mono (wof_own A B A2' B2' n c m d n2' c2' m2' d2' s l s' l2' st pd _ HT_z.out.S HT_z.out.L HT_y.out.S' HT_y.out.L' (by omega) (by omega) hcap2) ?_
  rw [← HR_E5.out, ← HR_S5.out, ← HR_L5.out]
  rintro e u22 ⟨A1c, k1c, c1c, A2c, k2c, c2c, rfl, ho1, ho2, hk1c, hk2c, hb0⟩
  obtain ⟨V23, hV23⟩ : ∃ W, W = u22.alloc (.cells #[.slice A1c k1c c1c, .slice A2c k2c c2c] 25) := ⟨_, rfl⟩
  have HT_c : Hid (TenAt V23 u22.heap.size A1c A2c k1c c1c k2c c2c S5 L5) := hide (by rw [hV23]; exact TenAt.own ho1 ho2)
  have hcapc := own_cap ho2
  have hb : Below V21.heap.size V21 V23 := by rw [hV23]; exact below_al6 hb0
  replace HT_z := hide (HT_z.out.kept hb)
  replace HT_y := hide (HT_y.out.kept hb)
  replace HT_tt := hide (HT_tt.out.kept hb)
  replace HT_ww := hide (HT_ww.out.kept hb)
  replace HT_a := hide (HT_a.out.kept hb)
  replace HT_b := hide (HT_b.out.kept hb)
  replace HBW := hide (HBW.out.trans (hb.mono HBW.out.size))
  have hV23' := hV23.symm
  clear cxz0 cxz1 cxz2 cxz3 cxz4 cxz5 cxz6 cxy0 cxy1 cxy2 cxy3 cxy4 cxy5 cxy6 hV23 hb hb0 ho1 ho2
  have hlt_c := HT_c.out.1.lt
  by_cases hE1 : E1 = 0
  rotate_left
  · have hne1 : (E1 != 0) = true := by simpa using hE1
    have hne2 : (E1 == 0) = false := by simpa using hE1
    go_wp2
    go_ret
    exact ⟨rfl, HBW.out⟩
  by_cases hE2 : E2 = 0
  rotate_left
  · subst hE1
    have hne1 : (E2 != 0) = true := by simpa using hE2
    have hne2 : (E2 == 0) = false := by simpa using hE2
    go_wp2
    go_ret
    exact ⟨rfl, HBW.out⟩
  have hsm := of8_same (step := st) (pad := pd) (HR_E1.out.symm.trans hE1) (HR_E2.out.symm.trans hE2)
  obtain ⟨e4, e5, q1, q2, t1, t2⟩ := hsm
  have f4 : E3 = E4 := by rw [HR_E4.out, HR_E3.out, e4]
  have f5 : E3 = E5 := by rw [HR_E5.out, HR_E3.out, e5]
  clear e4 e5
  by_cases hE3 : E3 = 0
  rotate_left
  · have HOK := hide (And.intro q1 (And.intro q2 (And.intro t1 t2)))
    clear q1 q2 t1 t2
    subst f4 f5 hE1 hE2
    have hne1 : (E3 != 0) = true := by simpa using hE3
    have hne2 : (E3 == 0) = false := by simpa using hE3
    have hne3 : (E3 == E3) = true := by simp
    go_wp2
    go_ret
    exact ⟨rfl, HBW.out⟩
  subst q1 q2
  have hR3 := HR_E3.out
  rw [hE3] at hR3
  obtain ⟨C, H, V, O, a, b, Y, X, st', pd', rfl, rfl, rfl, rfl, _, _, hsE, hsL⟩ := of8_nat hR3.symm
  have k1 : twoE [(C : Int), (H : Int), (V : Int)] m [(C : Int), (H : Int), (V : Int)] m = 0 := HR_E1.out.symm.trans hE1
  have k2 : twoE [(O : Int), (C : Int), (a : Int), (b : Int)] m' [(O : Int), (C : Int), (a : Int), (b : Int)] m' = 0 := HR_E2.out.symm.trans hE2
  have i3 := hR3.symm
  have i4 : of8E [(C : Int), (H : Int), (V : Int)] m [(O : Int), (C : Int), (a : Int), (b : Int)] m' (st' : Int) (pd' : Int) = 0 := hR3.symm
  have j1 : S1 = [(C : Int), (H : Int), (V : Int)] := by rw [HR_S1.out, twoS, if_pos k1]
  have j2 : S2 = [(O : Int), (C : Int), (a : Int), (b : Int)] := by rw [HR_S2.out, twoS, if_pos k2]
  have j3 : S3 = [(O : Int), (Y : Int), (X : Int)] := by rw [HR_S3.out, of8S, if_pos i4, hsL]
  have j4 : S4 = [(O : Int), (Y : Int), (X : Int)] := by rw [HR_S4.out, of8S, if_pos i4, hsL]
  have j5 : S5 = [(O : Int), (Y : Int), (X : Int)] := by rw [HR_S5.out, of8S, if_pos i4, hsL]
  have HL1 : Hid (L1 = List.zipWith add32 l l2) := hide (by rw [HR_L1.out, twoL, if_pos k1])
  have HL2 : Hid (L2 = List.zipWith add32 l' l2') := hide (by rw [HR_L2.out, twoL, if_pos k2])
  have HL3 : Hid (L3 = winL l l' C H V O a b st' pd' Y X) := hide (by rw [HR_L3.out, of8L, if_pos i4, hsL]; simp)
  have HL4 : Hid (L4 = winL l2 l' C H V O a b st' pd' Y X) := hide (by rw [HR_L4.out, of8L, if_pos i4, hsL]; simp)
  have HL5 : Hid (L5 = winL l l2' C H V O a b st' pd' Y X) := hide (by rw [HR_L5.out, of8L, if_pos i4, hsL]; simp)
  have HOKT := hide t1
  have HOKW := hide t2
  have HSE := hide hsE
  have HSL := hide hsL
  subst j1 j2 j3 j4 j5
  have hln : ∀ x y : List Int, (winL x y C H V O a b st' pd' Y X).length = O * Y * X := fun x y => winL_len _ _ _ _ _ _ _ _ _ _ _ _
  have y1a : k1a = 3 := (lies_len HT_a.out.S).symm
  have y2a : O * Y * X = k2a := by rw [← lies_len HT_a.out.L, HL3.out, hln]
  have y1b : k1b = 3 := (lies_len HT_b.out.S).symm
  have y2b : O * Y * X = k2b := by rw [← lies_len HT_b.out.L, HL4.out, hln]
  have y1c : k1c = 3 := (lies_len HT_c.out.S).symm
  have y2c : O * Y * X = k2c := by rw [← lies_len HT_c.out.L, HL5.out, hln]
  obtain ⟨q, hq⟩ : ∃ q, q = O * Y * X := ⟨_, rfl⟩
  rw [← hq] at y2a y2b y2c
  have x1 : k1tt = 3 := (lies_len HT_tt.out.S).symm
  have x2 : k1ww = 4 := (lies_len HT_ww.out.S).symm
  have xz : n = 3 := (lies_len HT_z.out.S).symm
  have xw : n' = 4 := (lies_len HT_z.out.S').symm
  have x3 : m = k2tt := by rw [← lies_len HT_tt.out.L, HL1.out, List.length_zipWith, lies_len HT_z.out.L, lies_len HT_y.out.L]; omega
  have x4 : m' = k2ww := by rw [← lies_len HT_ww.out.L, HL2.out, List.length_zipWith, lies_len HT_z.out.L', lies_len HT_y.out.L']; omega
  subst y1a y1b y1c y2a y2b y2c
  obtain ⟨_, _, _, hm3, _⟩ := ten_three HOKT.out
  obtain ⟨_, _, _, _, hm4, _⟩ := ten_four HOKW.out
  have hsz := (shp8E_iff.1 HSE.out).2.2
  rw [HSL.out] at hsz
  obtain ⟨_, _, _, hz1, hz2, hz3⟩ := three_size hsz
  rw [← hq] at hz1 hz2 hz3
  have HOKO : Hid (tenOk [(O : Int), (Y : Int), (X : Int)] q = true) := hide (tenOk_iff.2 ⟨by omega, hz1⟩)
  have HQ := hide hq
  have HLA : Hid (l.length = C * H * V) := hide ((lies_len HT_z.out.L).trans hm3)
  have HLB : Hid (l2.length = C * H * V) := hide ((lies_len HT_y.out.L).trans hm3)
  have HLC : Hid (l'.length = O * (C * (a * b))) := hide ((lies_len HT_z.out.L').trans hm4)
  have HLD : Hid (l2'.length = O * (C * (a * b))) := hide ((lies_len HT_y.out.L').trans hm4)
  have hq4 : q ≤ 4096 := hz3
  clear hq hz1 hsz hm3 hm4 k1 k2 i3 i4 hR3 hln t1 t2 hsE hsL
  subst x1 x2 x3 x4 xz xw
  obtain ⟨L6, hL6⟩ : ∃ z : List Int, z = List.zipWith add32 L3 L4 := ⟨_, rfl⟩
  have HR_L6 := hide hL6
  clear hL6
  obtain ⟨L7, hL7⟩ : ∃ z : List Int, z = List.zipWith add32 L3 L5 := ⟨_, rfl⟩
  have HR_L7 := hide hL7
  clear hL7
  obtain ⟨L8, hL8⟩ : ∃ z : List Int, z = winL L1 l' C H V O a b st' pd' Y X := ⟨_, rfl⟩
  have HR_L8 := hide hL8
  clear hL8
  obtain ⟨L9, hL9⟩ : ∃ z : List Int, z = winL l L2 C H V O a b st' pd' Y X := ⟨_, rfl⟩
  have HR_L9 := hide hL9
  clear hL9
  have HEQ1 : Hid (L6 = L8) := hide (by rw [HR_L6.out, HR_L8.out, HL3.out, HL4.out, HL1.out, win_left l' O a b st' pd' Y X HLA.out HLB.out])
  have HEQ2 : Hid (L7 = L9) := hide (by rw [HR_L7.out, HR_L9.out, HL3.out, HL5.out, HL2.out, win_right l H V st' pd' Y X HLC.out HLD.out])
  subst f5 f4 hE1 hE2 hE3
  have cxa0 := HT_a.out.c0
  have cxa1 := HT_a.out.c1
  have cxb0 := HT_b.out.c0
  have cxb1 := HT_b.out.c1
  go_wp2_with fail
  refine Calls.mono (add_ok A1a A2a A1b A2b 3 c1a q c2a c1b c2b [(O : Int), (Y : Int), (X : Int)] L3 L4 _ HT_a.out.S HT_a.out.L HT_b.out.S HT_b.out.L HOKO.out) ?_
  rw [← HR_L6.out]
  rintro e u24 ⟨g1ab, c1ab, g2ab, rfl, ho1, ho2, _, hb0⟩
  obtain ⟨V25, hV25⟩ : ∃ W, W = u24.alloc (.cells #[.slice (some ⟨g1ab, 0, none⟩) 3 c1ab, .slice (some ⟨g2ab, 0, none⟩) q q] 25) := ⟨_, rfl⟩
  have HT_ab : Hid (TenAt V25 u24.heap.size (some ⟨g1ab, 0, none⟩) (some ⟨g2ab, 0, none⟩) 3 c1ab q q [(O : Int), (Y : Int), (X : Int)] L6) := hide (by rw [hV25]; exact TenAt.made ho1 ho2)
  have hb : Below V23.heap.size V23 V25 := by rw [hV25]; exact below_al6 hb0
  replace HT_z := hide (HT_z.out.kept hb)
  replace HT_y := hide (HT_y.out.kept hb)
  replace HT_tt := hide (HT_tt.out.kept hb)
  replace HT_ww := hide (HT_ww.out.kept hb)
  replace HT_a := hide (HT_a.out.kept hb)
  replace HT_b := hide (HT_b.out.kept hb)
  replace HT_c := hide (HT_c.out.kept hb)
  replace HBW := hide (HBW.out.trans (hb.mono HBW.out.size))
  have hV25' := hV25.symm
  clear cxa0 cxa1 cxb0 cxb1 hV25 hb hb0 ho1 ho2
  have hlt_ab := HT_ab.out.1.lt
  have cxa0 := HT_a.out.c0
  have cxa1 := HT_a.out.c1
  have cxc0 := HT_c.out.c0
  have cxc1 := HT_c.out.c1
  go_wp2_with fail
  refine Calls.mono (add_ok A1a A2a A1c A2c 3 c1a q c2a c1c c2c [(O : Int), (Y : Int), (X : Int)] L3 L5 _ HT_a.out.S HT_a.out.L HT_c.out.S HT_c.out.L HOKO.out) ?_
  rw [← HR_L7.out]
  rintro e u26 ⟨g1ac, c1ac, g2ac, rfl, ho1, ho2, _, hb0⟩
  obtain ⟨V27, hV27⟩ : ∃ W, W = u26.alloc (.cells #[.slice (some ⟨g1ac, 0, none⟩) 3 c1ac, .slice (some ⟨g2ac, 0, none⟩) q q] 25) := ⟨_, rfl⟩
  have HT_ac : Hid (TenAt V27 u26.heap.size (some ⟨g1ac, 0, none⟩) (some ⟨g2ac, 0, none⟩) 3 c1ac q q [(O : Int), (Y : Int), (X : Int)] L7) := hide (by rw [hV27]; exact TenAt.made ho1 ho2)
  have hb : Below V25.heap.size V25 V27 := by rw [hV27]; exact below_al6 hb0
  replace HT_z := hide (HT_z.out.kept hb)
  replace HT_y := hide (HT_y.out.kept hb)
  replace HT_tt := hide (HT_tt.out.kept hb)
  replace HT_ww := hide (HT_ww.out.kept hb)
  replace HT_a := hide (HT_a.out.kept hb)
  replace HT_b := hide (HT_b.out.kept hb)
  replace HT_c := hide (HT_c.out.kept hb)
  replace HT_ab := hide (HT_ab.out.kept hb)
  replace HBW := hide (HBW.out.trans (hb.mono HBW.out.size))
  have hV27' := hV27.symm
  clear cxa0 cxa1 cxc0 cxc1 hV27 hb hb0 ho1 ho2
  have hlt_ac := HT_ac.out.1.lt
  have cxtt0 := HT_tt.out.c0
  have cxtt1 := HT_tt.out.c1
  have cxz0 := HT_z.out.c0
  have cxz1 := HT_z.out.c1
  have cxz2 := HT_z.out.c2
  have cxz3 := HT_z.out.c3
  have cxz4 := HT_z.out.c4
  have cxz5 := HT_z.out.c5
  have cxz6 := HT_z.out.c6
  go_wp2_with fail
  refine Calls.mono (wof_ok A1tt A2tt A' B' c1tt m c2tt c' m' d' C H V O a b Y X st' pd' L1 l' _ HT_tt.out.S HT_tt.out.L HT_z.out.S' HT_z.out.L' HOKT.out HOKW.out hcap HSE.out HSL.out) ?_
  rw [← HQ.out, ← HR_L8.out]
  rintro e u28 ⟨g1x, c1x, g2x, rfl, ho1, ho2, _, hb0⟩
  obtain ⟨V29, hV29⟩ : ∃ W, W = u28.alloc (.cells #[.slice (some ⟨g1x, 0, none⟩) 3 c1x, .slice (some ⟨g2x, 0, none⟩) q q] 25) := ⟨_, rfl⟩
  have HT_x : Hid (TenAt V29 u28.heap.size (some ⟨g1x, 0, none⟩) (some ⟨g2x, 0, none⟩) 3 c1x q q [(O : Int), (Y : Int), (X : Int)] L8) := hide (by rw [hV29]; exact TenAt.made ho1 ho2)
  have hb : Below V27.heap.size V27 V29 := by rw [hV29]; exact below_al6 hb0
  replace HT_z := hide (HT_z.out.kept hb)
  replace HT_y := hide (HT_y.out.kept hb)
  replace HT_tt := hide (HT_tt.out.kept hb)
  replace HT_ww := hide (HT_ww.out.kept hb)
  replace HT_a := hide (HT_a.out.kept hb)
  replace HT_b := hide (HT_b.out.kept hb)
  replace HT_c := hide (HT_c.out.kept hb)
  replace HT_ab := hide (HT_ab.out.kept hb)
  replace HT_ac := hide (HT_ac.out.kept hb)
  replace HBW := hide (HBW.out.trans (hb.mono HBW.out.size))
  have hV29' := hV29.symm
  clear cxtt0 cxtt1 cxz0 cxz1 cxz2 cxz3 cxz4 cxz5 cxz6 hV29 hb hb0 ho1 ho2
  have hlt_x := HT_x.out.1.lt
  have cxz0 := HT_z.out.c0
  have cxz1 := HT_z.out.c1
  have cxz2 := HT_z.out.c2
  have cxz3 := HT_z.out.c3
  have cxz4 := HT_z.out.c4
  have cxz5 := HT_z.out.c5
  have cxz6 := HT_z.out.c6
  have cxww0 := HT_ww.out.c0
  have cxww1 := HT_ww.out.c1
  go_wp2_with fail
  refine Calls.mono (wof_ok A B A1ww A2ww c m d c1ww m' c2ww C H V O a b Y X st' pd' l L2 _ HT_z.out.S HT_z.out.L HT_ww.out.S HT_ww.out.L HOKT.out HOKW.out hcapww HSE.out HSL.out) ?_
  rw [← HQ.out, ← HR_L9.out]
  rintro e u30 ⟨g1v, c1v, g2v, rfl, ho1, ho2, _, hb0⟩
  obtain ⟨V31, hV31⟩ : ∃ W, W = u30.alloc (.cells #[.slice (some ⟨g1v, 0, none⟩) 3 c1v, .slice (some ⟨g2v, 0, none⟩) q q] 25) := ⟨_, rfl⟩
  have HT_v : Hid (TenAt V31 u30.heap.size (some ⟨g1v, 0, none⟩) (some ⟨g2v, 0, none⟩) 3 c1v q q [(O : Int), (Y : Int), (X : Int)] L9) := hide (by rw [hV31]; exact TenAt.made ho1 ho2)
  have hb : Below V29.heap.size V29 V31 := by rw [hV31]; exact below_al6 hb0
  replace HT_z := hide (HT_z.out.kept hb)
  replace HT_y := hide (HT_y.out.kept hb)
  replace HT_tt := hide (HT_tt.out.kept hb)
  replace HT_ww := hide (HT_ww.out.kept hb)
  replace HT_a := hide (HT_a.out.kept hb)
  replace HT_b := hide (HT_b.out.kept hb)
  replace HT_c := hide (HT_c.out.kept hb)
  replace HT_ab := hide (HT_ab.out.kept hb)
  replace HT_ac := hide (HT_ac.out.kept hb)
  replace HT_x := hide (HT_x.out.kept hb)
  replace HBW := hide (HBW.out.trans (hb.mono HBW.out.size))
  have hV31' := hV31.symm
  clear cxz0 cxz1 cxz2 cxz3 cxz4 cxz5 cxz6 cxww0 cxww1 hV31 hb hb0 ho1 ho2
  have hlt_v := HT_v.out.1.lt
  have cxab0 := HT_ab.out.c0
  have cxab1 := HT_ab.out.c1
  have cxx0 := HT_x.out.c0
  have cxx1 := HT_x.out.c1
  go_wp2_with fail
  refine Calls.mono (same8_any (some ⟨g1ab, 0, none⟩) (some ⟨g2ab, 0, none⟩) (some ⟨g1x, 0, none⟩) (some ⟨g2x, 0, none⟩) 3 c1ab q q 3 c1x q q [(O : Int), (Y : Int), (X : Int)] L6 [(O : Int), (Y : Int), (X : Int)] L8 0 0 _ HT_ab.out.S HT_ab.out.L HT_x.out.S HT_x.out.L (by omega) (by omega) rfl) ?_
  rw [show decide ([(O : Int), (Y : Int), (X : Int)] = [(O : Int), (Y : Int), (X : Int)] ∧ L6 = L8) = true from decide_eq_true ⟨rfl, HEQ1.out⟩]
  rintro e u32 ⟨rfl, hb⟩
  replace HT_z := hide (HT_z.out.kept hb)
  replace HT_y := hide (HT_y.out.kept hb)
  replace HT_tt := hide (HT_tt.out.kept hb)
  replace HT_ww := hide (HT_ww.out.kept hb)
  replace HT_a := hide (HT_a.out.kept hb)
  replace HT_b := hide (HT_b.out.kept hb)
  replace HT_c := hide (HT_c.out.kept hb)
  replace HT_ab := hide (HT_ab.out.kept hb)
  replace HT_ac := hide (HT_ac.out.kept hb)
  replace HT_x := hide (HT_x.out.kept hb)
  replace HT_v := hide (HT_v.out.kept hb)
  replace HBW := hide (HBW.out.trans (hb.mono HBW.out.size))
  clear cxab0 cxab1 cxx0 cxx1 hb
  have cxac0 := HT_ac.out.c0
  have cxac1 := HT_ac.out.c1
  have cxv0 := HT_v.out.c0
  have cxv1 := HT_v.out.c1
  go_wp2_with fail
  refine Calls.mono (same8_any (some ⟨g1ac, 0, none⟩) (some ⟨g2ac, 0, none⟩) (some ⟨g1v, 0, none⟩) (some ⟨g2v, 0, none⟩) 3 c1ac q q 3 c1v q q [(O : Int), (Y : Int), (X : Int)] L7 [(O : Int), (Y : Int), (X : Int)] L9 0 0 _ HT_ac.out.S HT_ac.out.L HT_v.out.S HT_v.out.L (by omega) (by omega) rfl) ?_
  rw [show decide ([(O : Int), (Y : Int), (X : Int)] = [(O : Int), (Y : Int), (X : Int)] ∧ L7 = L9) = true from decide_eq_true ⟨rfl, HEQ2.out⟩]
  rintro e u33 ⟨rfl, hb⟩
  replace HT_z := hide (HT_z.out.kept hb)
  replace HT_y := hide (HT_y.out.kept hb)
  replace HT_tt := hide (HT_tt.out.kept hb)
  replace HT_ww := hide (HT_ww.out.kept hb)
  replace HT_a := hide (HT_a.out.kept hb)
  replace HT_b := hide (HT_b.out.kept hb)
  replace HT_c := hide (HT_c.out.kept hb)
  replace HT_ab := hide (HT_ab.out.kept hb)
  replace HT_ac := hide (HT_ac.out.kept hb)
  replace HT_x := hide (HT_x.out.kept hb)
  replace HT_v := hide (HT_v.out.kept hb)
  replace HBW := hide (HBW.out.trans (hb.mono HBW.out.size))
  clear cxac0 cxac1 cxv0 cxv1 hb
  go_wp2
  go_ret
  exact ⟨rfl, HBW.out⟩

end Go.Proofs.Ytgkilankaknfcaa
