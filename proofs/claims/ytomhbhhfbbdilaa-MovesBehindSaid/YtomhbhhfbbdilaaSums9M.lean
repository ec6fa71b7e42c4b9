/- MovesSums: for every two tensors and any two directions the walk of its Go text ends in true. -/
import Derived.Test.YtomhbhhfbbdilaaAlive9M
import Derived.Test.YtomhbhhfbbdilaaPm17M
namespace Go.Proofs.Ytomhbhhfbbdilaa
open Go.RowKit
set_option linter.unusedVariables false
set_option linter.unusedSimpArgs false
set_option maxRecDepth 100000

theorem twoS_ok9 {s : List Int} {m m' : Nat} (h1 : tenOk s m = true) (h2 : tenOk s m' = true) : twoS s m s m' = s := by rw [twoS, if_pos (twoE_ok h1 h2 rfl)]

theorem twoL_ok9 {f : Int → Int → Int} {s l l' : List Int} {m m' : Nat} (h1 : tenOk s m = true) (h2 : tenOk s m' = true) : twoL f s m s m' l l' = List.zipWith f l l' := by rw [twoL, if_pos (twoE_ok h1 h2 rfl)]

theorem own_cap9 {w : World} {base : Nat} {e : TypeId} {A : Option Addr} {n c : Nat} {xs : List Value} (h : w.ownsRow base e 1 (.slice A n c) n xs) : n ≤ c := by
  rcases h.2 with ⟨_, h0⟩ | ⟨g, cap, cur, e0, _, _, hm, _⟩
  · omega
  · injection e0 with _ _ e3
    omega

theorem lies_set9 {w : World} {A : Option Addr} {n : Nat} {xs : List Value} (h : Lies w A n xs) {a : Addr} (ha : ∀ b o, A = some ⟨b, o, none⟩ → b ≠ a.block) (v : Value) : Lies (w.setCell a v) A n xs :=
  h.keep (by simp) (fun b o e1 hb j => World.cell?_of_block (Below.heap_setCell _ _ _ _ (ha b o e1)))

theorem own_apart9 {w : World} {base : Nat} {e : TypeId} {A : Option Addr} {n c : Nat} {xs : List Value} (h : w.ownsRow base e 1 (.slice A n c) n xs) {p : Nat} (hp : p < base) : ∀ b o, A = some ⟨b, o, none⟩ → b ≠ p := by
  intro b o e1
  rcases own_addr h with rfl | ⟨g, rfl⟩
  · cases e1
  · have hg := own_ge9 h
    cases e1
    omega

theorem TenAt.put9 {w : World} {p b1 b2 n c m d : Nat} {A B : Option Addr} {s l : List Int} {x y : Value} (h : BoxT w p x y) (h1 : w.ownsRow b1 3 1 (.slice A n c) n (s.map (Value.int .i64))) (h2 : w.ownsRow b2 21 1 (.slice B m d) m (l.map (Value.int .i32))) (hp1 : p < b1) (hp2 : p < b2) :
    TenAt ((w.setCell ⟨p, 0, none⟩ (.slice A n c)).setCell ⟨p, 1, none⟩ (.slice B m d)) p A B n c m d s l :=
  ⟨h.set2 _ _, lies_set9 (lies_set9 (lies_of_own h1) (own_apart9 h1 hp1) _) (own_apart9 h1 hp1) _, lies_set9 (lies_set9 (lies_of_own h2) (own_apart9 h2 hp2) _) (own_apart9 h2 hp2) _⟩

set_option maxHeartbeats 16000000 in
theorem sums9_any (A B A' B' : Option Addr) (n c m d n' c' m' d' : Nat) (s l s' l' : List Int) (z0 z1 : Int) (w : World) (hA : Lies w A n (s.map (Value.int .i64))) (hB : Lies w B m (l.map (Value.int .i32))) (hA' : Lies w A' n' (s'.map (Value.int .i64))) (hB' : Lies w B' m' (l'.map (Value.int .i32))) (hz0 : 0 ≤ z0 ∧ z0 < 256) (hz1 : 0 ≤ z1 ∧ z1 < 256) (hn : n ≤ 70368744177664) (hm : m ≤ 70368744177664) (hn' : n' ≤ 70368744177664) (hm' : m' ≤ 70368744177664) (hc : n ≤ c) (hc' : n' ≤ c') :
    Calls Try.prog 8 #[tenV A n c B m d, tenV A' n' c' B' m' d', .agg #[.int .u8 z0, .int .u8 z1]] w fun e w' => e = .returned (.bool true) ∧ Below w.heap.size w w' := by
  obtain ⟨W0, hW0⟩ : ∃ W0, W0 = ((w.alloc (.cells #[.slice A n c, .slice B m d] 49)).alloc (.cells #[.slice A' n' c', .slice B' m' d'] 49)).alloc (.cells #[.int .u8 z0, .int .u8 z1] 42) := ⟨_, rfl⟩
  have HBW : Hid (Below w.heap.size w W0) := hide (by rw [hW0]; exact below_al6 (below_al6 (below_al6 (Below.refl _ _))))
  have HT_t : Hid (TenAt W0 w.heap.size A B n c m d s l) := hide (by
    rw [hW0]
    have h : TenAt (w.alloc (.cells #[.slice A n c, .slice B m d] 49)) w.heap.size A B n c m d s l := ⟨BoxT.new w _ _, hA.alloc _, hB.alloc _⟩
    exact (h.kept (below_al6 (Below.refl _ _))).kept (below_al6 (Below.refl _ _)))
  have HT_u : Hid (TenAt W0 (w.heap.size + 1) A' B' n' c' m' d' s' l') := hide (by
    rw [hW0]
    have h : TenAt ((w.alloc (.cells #[.slice A n c, .slice B m d] 49)).alloc (.cells #[.slice A' n' c', .slice B' m' d'] 49)) (w.alloc (.cells #[.slice A n c, .slice B m d] 49)).heap.size A' B' n' c' m' d' s' l' := ⟨BoxT.new _ _ _, (hA'.alloc _).alloc _, (hB'.alloc _).alloc _⟩
    rw [World.size_alloc] at h
    exact h.kept (below_al6 (Below.refl _ _)))
  have HR1 : Hid (W0.heap[w.heap.size + 2]? = some (.cells #[.int .u8 z0, .int .u8 z1] 42 (0, 0))) := hide (by rw [hW0]; have h := heap_alloc_new ((w.alloc (.cells #[.slice A n c, .slice B m d] 49)).alloc (.cells #[.slice A' n' c', .slice B' m' d'] 49)) (.cells #[.int .u8 z0, .int .u8 z1] 42); rwa [World.size_alloc, World.size_alloc] at h)
  have HCZ : Hid (∀ v, Below W0.heap.size W0 v → v.cell? ⟨w.heap.size + 2, 0, none⟩ = some (.int .u8 z0) ∧ v.cell? ⟨w.heap.size + 2, 1, none⟩ = some (.int .u8 z1)) := hide (fun v hv => ⟨cell_of_row _ _ 0 _ _ (0, 0) ((hv.block _ (lt_of_heap HR1.out)).trans HR1.out), cell_of_row _ _ 1 _ _ (0, 0) ((hv.block _ (lt_of_heap HR1.out)).trans HR1.out)⟩)
  have HBA := hide (Below.refl W0.heap.size W0)
  have HSN : Hid (s.length = n) := hide (lies_len9 hA)
  have HLM : Hid (l.length = m) := hide (lies_len9 hB)
  have HSN' : Hid (s'.length = n') := hide (lies_len9 hA')
  have HLM' : Hid (l'.length = m') := hide (lies_len9 hB')
  have hW0' := hW0.symm
  clear hW0 hA hB hA' hB' HR1
  go_enter Try.func8, Try.ntmps8
  go_wp2_with fail
  refine Calls.mono (alive9_any _) ?_
  rintro e ua1 ⟨rfl, hb⟩
  replace HT_t := hide (HT_t.out.kept hb)
  replace HT_u := hide (HT_u.out.kept hb)
  replace HBA := hide (below_nx6 HBA.out hb)
  replace HBW := hide (HBW.out.trans (hb.mono HBW.out.size))
  clear hb
  have cxt0 := HT_t.out.c0
  have cxt1 := HT_t.out.c1
  go_wp2_with fail
  refine Calls.mono (small9_any A B n c m d s _ HT_t.out.S hn hm) ?_
  rintro e ua2 ⟨rfl, hb⟩
  replace HT_t := hide (HT_t.out.kept hb)
  replace HT_u := hide (HT_u.out.kept hb)
  replace HBA := hide (below_nx6 HBA.out hb)
  replace HBW := hide (HBW.out.trans (hb.mono HBW.out.size))
  clear cxt0 cxt1 hb
  by_cases hsm : small9 n m s = true
  rotate_left
  · have hno : small9 n m s = false := by simpa using hsm
    rw [hno]
    clear hno hsm
    go_wp2_with fail
    refine Calls.mono (alive9_any _) ?_
    rintro e ua3 ⟨rfl, hb⟩
    replace HT_t := hide (HT_t.out.kept hb)
    replace HT_u := hide (HT_u.out.kept hb)
    replace HBA := hide (below_nx6 HBA.out hb)
    replace HBW := hide (HBW.out.trans (hb.mono HBW.out.size))
    clear hb
    go_wp2
    go_ret
    exact ⟨rfl, HBW.out⟩
  rw [hsm]
  have HTKt : Hid (tenOk s m = true) := hide (by
    rw [small9] at hsm
    exact (Bool.and_eq_true _ _ ▸ hsm).2)
  clear hsm
  have cxu0 := HT_u.out.c0
  have cxu1 := HT_u.out.c1
  go_wp2_with fail
  refine Calls.mono (small9_any A' B' n' c' m' d' s' _ HT_u.out.S hn' hm') ?_
  rintro e ua4 ⟨rfl, hb⟩
  replace HT_t := hide (HT_t.out.kept hb)
  replace HT_u := hide (HT_u.out.kept hb)
  replace HBA := hide (below_nx6 HBA.out hb)
  replace HBW := hide (HBW.out.trans (hb.mono HBW.out.size))
  clear cxu0 cxu1 hb
  by_cases hsm : small9 n' m' s' = true
  rotate_left
  · have hno : small9 n' m' s' = false := by simpa using hsm
    rw [hno]
    clear hno hsm
    go_wp2_with fail
    refine Calls.mono (alive9_any _) ?_
    rintro e ua5 ⟨rfl, hb⟩
    replace HT_t := hide (HT_t.out.kept hb)
    replace HT_u := hide (HT_u.out.kept hb)
    replace HBA := hide (below_nx6 HBA.out hb)
    replace HBW := hide (HBW.out.trans (hb.mono HBW.out.size))
    clear hb
    go_wp2
    go_ret
    exact ⟨rfl, HBW.out⟩
  rw [hsm]
  have HTKu : Hid (tenOk s' m' = true) := hide (by
    rw [small9] at hsm
    exact (Bool.and_eq_true _ _ ▸ hsm).2)
  clear hsm
  have cxt0 := HT_t.out.c0
  have cxt1 := HT_t.out.c1
  have cxu0 := HT_u.out.c0
  have cxu1 := HT_u.out.c1
  go_wp2_with fail
  refine Calls.mono (sameG_Ints A A' n c n' c' s s' _ HT_t.out.S HT_u.out.S (by omega)) ?_
  rintro e ua6 ⟨rfl, j1, hj1⟩
  have hb : Below ua4.heap.size ua4 ua6 := by rw [hj1]; exact below_drewN (Below.refl _ _) j1
  replace HT_t := hide (HT_t.out.kept hb)
  replace HT_u := hide (HT_u.out.kept hb)
  replace HBA := hide (below_nx6 HBA.out hb)
  replace HBW := hide (HBW.out.trans (hb.mono HBW.out.size))
  clear cxt0 cxt1 cxu0 cxu1 hb hj1
  by_cases hss : s = s'
  rotate_left
  · rw [decide_eq_false hss]
    go_wp2_with fail
    refine Calls.mono (alive9_any _) ?_
    rintro e ua7 ⟨rfl, hb⟩
    replace HT_t := hide (HT_t.out.kept hb)
    replace HT_u := hide (HT_u.out.kept hb)
    replace HBA := hide (below_nx6 HBA.out hb)
    replace HBW := hide (HBW.out.trans (hb.mono HBW.out.size))
    clear hb
    go_wp2
    go_ret
    exact ⟨rfl, HBW.out⟩
  rw [decide_eq_true hss]
  subst hss
  obtain rfl : n' = n := by rw [← HSN.out, HSN'.out]
  obtain rfl : m' = m := by
    have h1 := (tenOk_iff.1 HTKt.out).2
    have h2 := (tenOk_iff.1 HTKu.out).2
    omega
  have hn4 : 1 ≤ n' ∧ n' ≤ 4 := by
    obtain ⟨h1, h4, _⟩ := sizeI_pos (tenOk_iff.1 HTKt.out).1
    have := HSN.out
    omega
  have hm4 : m' ≤ 4096 := by have := sizeI_le s; have := (tenOk_iff.1 HTKt.out).2; omega
  obtain ⟨Z0, rfl⟩ := Int.eq_ofNat_of_zero_le hz0.1
  obtain ⟨Z1, rfl⟩ := Int.eq_ofNat_of_zero_le hz1.1
  obtain ⟨p, hp⟩ : ∃ z, z = Z0 % n' := ⟨_, rfl⟩
  have r1 : Int.tmod (Z0 : Int) (n' : Int) = (p : Int) := by rw [hp]; rfl
  have hpn : p < n' := by rw [hp]; exact Nat.mod_lt _ (by omega)
  have HPL : Hid (p < s.length) := hide (by rw [HSN.out]; exact hpn)
  have r2 : ¬ (n' : Int) = 0 := by omega
  have r2' : ¬ n' = 0 := by omega
  have r3 : IntKind.i64.wrap (p : Int) = (p : Int) := by rw [IntKind.wrap_i64]; omega
  clear hp
  obtain ⟨y0, y1⟩ := HCZ.out _ HBA.out
  obtain ⟨Sx, hSx⟩ : ∃ z : List Int, z = woL s p := ⟨_, rfl⟩
  have HR_Sx := hide hSx
  clear hSx
  obtain ⟨Lx, hLx⟩ : ∃ z : List Int, z = sumT s l p := ⟨_, rfl⟩
  have HR_Lx := hide hLx
  clear hLx
  have cxt0 := HT_t.out.c0
  have cxt1 := HT_t.out.c1
  go_wp2_with fail
  refine Calls.mono (msum_own A B n' c m' d s l (p : Int) _ HT_t.out.S HT_t.out.L (by omega) (by omega)) ?_
  rw [sm_ok HTKt.out HPL.out, smS_ok HTKt.out HPL.out, smL_ok HTKt.out HPL.out, ← HR_Sx.out, ← HR_Lx.out]
  rintro e ua8 ⟨A1x, k1x, c1x, A2x, k2x, c2x, rfl, ho1, ho2, hk1x, hk2x, hb0⟩
  obtain ⟨V9, hV9⟩ : ∃ W, W = ua8.alloc (.cells #[.slice A1x k1x c1x, .slice A2x k2x c2x] 49) := ⟨_, rfl⟩
  have HT_x : Hid (TenAt V9 ua8.heap.size A1x A2x k1x c1x k2x c2x Sx Lx) := hide (by rw [hV9]; exact TenAt.own9 ho1 ho2)
  have hcapx := own_cap9 ho1
  have hb : Below ua6.heap.size ua6 V9 := by rw [hV9]; exact below_al6 hb0
  replace HT_t := hide (HT_t.out.kept hb)
  replace HT_u := hide (HT_u.out.kept hb)
  replace HBA := hide (below_nx6 HBA.out hb)
  replace HBW := hide (HBW.out.trans (hb.mono HBW.out.size))
  have hV9' := hV9.symm
  clear cxt0 cxt1 hV9 hb hb0 ho1 ho2
  have hlt_x := HT_x.out.1.lt
  have HLNx : Hid (Lx.length = k2x) := hide (lies_len9 HT_x.out.L)
  have HSNx : Hid (Sx.length = k1x) := hide (lies_len9 HT_x.out.S)
  have HTKx : Hid (tenOk Sx k2x = true) := hide (by rw [← HLNx.out, HR_Sx.out, HR_Lx.out]; exact sumT_ok HTKt.out HPL.out)
  clear y0 y1 r1 r2 r2' r3
  obtain ⟨Sy, hSy⟩ : ∃ z : List Int, z = woL s p := ⟨_, rfl⟩
  have HR_Sy := hide hSy
  clear hSy
  obtain ⟨Ly, hLy⟩ : ∃ z : List Int, z = sumT s l' p := ⟨_, rfl⟩
  have HR_Ly := hide hLy
  clear hLy
  have cxu0 := HT_u.out.c0
  have cxu1 := HT_u.out.c1
  go_wp2_with fail
  refine Calls.mono (msum_own A' B' n' c' m' d' s l' (p : Int) _ HT_u.out.S HT_u.out.L (by omega) (by omega)) ?_
  rw [sm_ok HTKu.out HPL.out, smS_ok HTKu.out HPL.out, smL_ok HTKu.out HPL.out, ← HR_Sy.out, ← HR_Ly.out]
  rintro e ua10 ⟨A1y, k1y, c1y, A2y, k2y, c2y, rfl, ho1, ho2, hk1y, hk2y, hb0⟩
  obtain ⟨V11, hV11⟩ : ∃ W, W = ua10.alloc (.cells #[.slice A1y k1y c1y, .slice A2y k2y c2y] 49) := ⟨_, rfl⟩
  have HT_y : Hid (TenAt V11 ua10.heap.size A1y A2y k1y c1y k2y c2y Sy Ly) := hide (by rw [hV11]; exact TenAt.own9 ho1 ho2)
  have hcapy := own_cap9 ho1
  have hb : Below V9.heap.size V9 V11 := by rw [hV11]; exact below_al6 hb0
  replace HT_t := hide (HT_t.out.kept hb)
  replace HT_u := hide (HT_u.out.kept hb)
  replace HT_x := hide (HT_x.out.kept hb)
  replace HBA := hide (below_nx6 HBA.out hb)
  replace HBW := hide (HBW.out.trans (hb.mono HBW.out.size))
  have hV11' := hV11.symm
  clear cxu0 cxu1 hV11 hb hb0 ho1 ho2
  have hlt_y := HT_y.out.1.lt
  have HLNy : Hid (Ly.length = k2y) := hide (lies_len9 HT_y.out.L)
  have HSNy : Hid (Sy.length = k1y) := hide (lies_len9 HT_y.out.S)
  have HTKy : Hid (tenOk Sy k2y = true) := hide (by rw [← HLNy.out, HR_Sy.out, HR_Ly.out]; exact sumT_ok HTKu.out HPL.out)
  obtain rfl : Sx = Sy := by rw [HR_Sx.out, HR_Sy.out]
  obtain rfl : k1x = k1y := by rw [← HSNx.out, ← HSNy.out]
  obtain rfl : k2x = k2y := by
    have h1 := (tenOk_iff.1 HTKx.out).2
    have h2 := (tenOk_iff.1 HTKy.out).2
    omega
  obtain ⟨LXY, hLXY⟩ : ∃ z : List Int, z = List.zipWith add32 Lx Ly := ⟨_, rfl⟩
  have HR_LXY := hide hLXY
  clear hLXY
  obtain ⟨LTU, hLTU⟩ : ∃ z : List Int, z = List.zipWith add32 l l' := ⟨_, rfl⟩
  have HR_LTU := hide hLTU
  clear hLTU
  have cxx0 := HT_x.out.c0
  have cxx1 := HT_x.out.c1
  have cxy0 := HT_y.out.c0
  have cxy1 := HT_y.out.c1
  go_wp2_with fail
  refine Calls.mono (add_own A1x A2x A1y A2y k1x c1x k2x c2x k1x c1y k2x c2y Sx Lx Sx Ly _ HT_x.out.S HT_x.out.L HT_y.out.S HT_y.out.L (by omega) (by omega)) ?_
  rw [twoE_ok HTKx.out HTKx.out rfl, twoS_ok9 HTKx.out HTKx.out, twoL_ok9 HTKx.out HTKx.out, ← HR_LXY.out]
  rintro e ua12 ⟨A1xy, k1xy, c1xy, A2xy, k2xy, c2xy, rfl, ho1, ho2, hk1xy, hk2xy, hb0⟩
  obtain ⟨V13, hV13⟩ : ∃ W, W = ua12.alloc (.cells #[.slice A1xy k1xy c1xy, .slice A2xy k2xy c2xy] 49) := ⟨_, rfl⟩
  have HT_xy : Hid (TenAt V13 ua12.heap.size A1xy A2xy k1xy c1xy k2xy c2xy Sx LXY) := hide (by rw [hV13]; exact TenAt.own9 ho1 ho2)
  have hcapxy := own_cap9 ho1
  have hb : Below V11.heap.size V11 V13 := by rw [hV13]; exact below_al6 hb0
  replace HT_t := hide (HT_t.out.kept hb)
  replace HT_u := hide (HT_u.out.kept hb)
  replace HT_x := hide (HT_x.out.kept hb)
  replace HT_y := hide (HT_y.out.kept hb)
  replace HBA := hide (below_nx6 HBA.out hb)
  replace HBW := hide (HBW.out.trans (hb.mono HBW.out.size))
  have hV13' := hV13.symm
  clear cxx0 cxx1 cxy0 cxy1 hV13 hb hb0 ho1 ho2
  have hlt_xy := HT_xy.out.1.lt
  have HLNxy : Hid (LXY.length = k2xy) := hide (lies_len9 HT_xy.out.L)
  have HSNxy : Hid (Sx.length = k1xy) := hide (lies_len9 HT_xy.out.S)
  have cxt0 := HT_t.out.c0
  have cxt1 := HT_t.out.c1
  have cxu0 := HT_u.out.c0
  have cxu1 := HT_u.out.c1
  go_wp2_with fail
  refine Calls.mono (add_own A B A' B' n' c m' d n' c' m' d' s l s l' _ HT_t.out.S HT_t.out.L HT_u.out.S HT_u.out.L (by omega) (by omega)) ?_
  rw [twoE_ok HTKt.out HTKt.out rfl, twoS_ok9 HTKt.out HTKt.out, twoL_ok9 HTKt.out HTKt.out, ← HR_LTU.out]
  rintro e ua14 ⟨A1tu, k1tu, c1tu, A2tu, k2tu, c2tu, rfl, ho1, ho2, hk1tu, hk2tu, hb0⟩
  obtain ⟨V15, hV15⟩ : ∃ W, W = ua14.alloc (.cells #[.slice A1tu k1tu c1tu, .slice A2tu k2tu c2tu] 49) := ⟨_, rfl⟩
  have HT_tu : Hid (TenAt V15 ua14.heap.size A1tu A2tu k1tu c1tu k2tu c2tu s LTU) := hide (by rw [hV15]; exact TenAt.own9 ho1 ho2)
  have hcaptu := own_cap9 ho1
  have hb : Below V13.heap.size V13 V15 := by rw [hV15]; exact below_al6 hb0
  replace HT_t := hide (HT_t.out.kept hb)
  replace HT_u := hide (HT_u.out.kept hb)
  replace HT_x := hide (HT_x.out.kept hb)
  replace HT_y := hide (HT_y.out.kept hb)
  replace HT_xy := hide (HT_xy.out.kept hb)
  replace HBA := hide (below_nx6 HBA.out hb)
  replace HBW := hide (HBW.out.trans (hb.mono HBW.out.size))
  have hV15' := hV15.symm
  clear cxt0 cxt1 cxu0 cxu1 hV15 hb hb0 ho1 ho2
  have hlt_tu := HT_tu.out.1.lt
  have HLNtu : Hid (LTU.length = k2tu) := hide (lies_len9 HT_tu.out.L)
  have HSNtu : Hid (s.length = k1tu) := hide (lies_len9 HT_tu.out.S)
  have HTKtu : Hid (tenOk s k2tu = true) := hide (by
    have h : LTU.length = m' := by rw [HR_LTU.out, List.length_zipWith, HLM.out, HLM'.out, Nat.min_self]
    rw [← HLNtu.out, h]
    exact HTKt.out)
  obtain ⟨Sb, hSb⟩ : ∃ z : List Int, z = woL s p := ⟨_, rfl⟩
  have HR_Sb := hide hSb
  clear hSb
  obtain ⟨Lb, hLb⟩ : ∃ z : List Int, z = sumT s LTU p := ⟨_, rfl⟩
  have HR_Lb := hide hLb
  clear hLb
  have cxtu0 := HT_tu.out.c0
  have cxtu1 := HT_tu.out.c1
  go_wp2_with fail
  refine Calls.mono (msum_own A1tu A2tu k1tu c1tu k2tu c2tu s LTU (p : Int) _ HT_tu.out.S HT_tu.out.L (by omega) (by omega)) ?_
  rw [sm_ok HTKtu.out HPL.out, smS_ok HTKtu.out HPL.out, smL_ok HTKtu.out HPL.out, ← HR_Sb.out, ← HR_Lb.out]
  rintro e ua16 ⟨A1b, k1b, c1b, A2b, k2b, c2b, rfl, ho1, ho2, hk1b, hk2b, hb0⟩
  obtain ⟨V17, hV17⟩ : ∃ W, W = ua16.alloc (.cells #[.slice A1b k1b c1b, .slice A2b k2b c2b] 49) := ⟨_, rfl⟩
  have HT_b : Hid (TenAt V17 ua16.heap.size A1b A2b k1b c1b k2b c2b Sb Lb) := hide (by rw [hV17]; exact TenAt.own9 ho1 ho2)
  have hcapb := own_cap9 ho1
  have hb : Below V15.heap.size V15 V17 := by rw [hV17]; exact below_al6 hb0
  replace HT_t := hide (HT_t.out.kept hb)
  replace HT_u := hide (HT_u.out.kept hb)
  replace HT_x := hide (HT_x.out.kept hb)
  replace HT_y := hide (HT_y.out.kept hb)
  replace HT_xy := hide (HT_xy.out.kept hb)
  replace HT_tu := hide (HT_tu.out.kept hb)
  replace HBA := hide (below_nx6 HBA.out hb)
  replace HBW := hide (HBW.out.trans (hb.mono HBW.out.size))
  have hV17' := hV17.symm
  clear cxtu0 cxtu1 hV17 hb hb0 ho1 ho2
  have hlt_b := HT_b.out.1.lt
  have HLNb : Hid (Lb.length = k2b) := hide (lies_len9 HT_b.out.L)
  have HSNb : Hid (Sb.length = k1b) := hide (lies_len9 HT_b.out.S)
  have HTKb : Hid (tenOk Sb k2b = true) := hide (by rw [← HLNb.out, HR_Sb.out, HR_Lb.out]; exact sumT_ok HTKtu.out HPL.out)
  have e1 : Sb = Sx := by rw [HR_Sb.out, HR_Sx.out]
  have e2 : Lb = LXY := by rw [HR_Lb.out, HR_LXY.out, HR_LTU.out, HR_Lx.out, HR_Ly.out]; exact sumT_zip (by rw [HLM.out, HLM'.out]) p
  subst e1 e2
  have cxb0 := HT_b.out.c0
  have cxb1 := HT_b.out.c1
  have cxxy0 := HT_xy.out.c0
  have cxxy1 := HT_xy.out.c1
  go_wp2_with fail
  refine Calls.mono (is9_any A1b A2b A1xy A2xy k1b c1b k2b c2b k1xy c1xy k2xy c2xy Sb Lb Sb Lb 0 _ HT_b.out.S HT_b.out.L HT_xy.out.S HT_xy.out.L (by omega) (by omega) rfl) ?_
  rw [show decide (Sb = Sb ∧ Lb = Lb) = true from decide_eq_true ⟨rfl, rfl⟩]
  rintro e ua18 ⟨rfl, hb⟩
  replace HT_t := hide (HT_t.out.kept hb)
  replace HT_u := hide (HT_u.out.kept hb)
  replace HT_x := hide (HT_x.out.kept hb)
  replace HT_y := hide (HT_y.out.kept hb)
  replace HT_xy := hide (HT_xy.out.kept hb)
  replace HT_tu := hide (HT_tu.out.kept hb)
  replace HT_b := hide (HT_b.out.kept hb)
  replace HBA := hide (below_nx6 HBA.out hb)
  replace HBW := hide (HBW.out.trans (hb.mono HBW.out.size))
  clear cxb0 cxb1 cxxy0 cxxy1 hb
  clear HT_u
  clear HT_y
  clear HT_xy
  clear HT_tu
  clear HT_b
  have cxt0 := HT_t.out.c0
  have cxt1 := HT_t.out.c1
  obtain ⟨V19, hV19⟩ : ∃ W, W = ua18.alloc (.cells #[.slice A n' c, .slice B m' d] 49) := ⟨_, rfl⟩
  have HT_a : Hid (TenAt V19 ua18.heap.size A B n' c m' d s l) := hide (by rw [hV19]; exact ⟨BoxT.new ua18 _ _, HT_t.out.S.alloc _, HT_t.out.L.alloc _⟩)
  have hb : Below ua18.heap.size ua18 V19 := by rw [hV19]; exact below_al6 (Below.refl _ _)
  have HE0 := hide hb
  have HAK : Hid (AllK s l 0 s l) := hide (AllK.zero (by rw [HLM.out]; exact HTKt.out))
  have hV19' := hV19.symm
  clear hV19 hb
  go_wp2
  clear cxt0 cxt1
  go_loopw [20, 10] (fun i e wr => ∃ (k : Nat) (AA BA : Option Addr) (na ca ma da : Nat) (sa la : List Int), k ≤ n' ∧ i = .int .i64 k ∧ e = .int .i64 0 ∧ Hid (TenAt wr ua18.heap.size AA BA na ca ma da sa la) ∧ na ≤ 4 ∧ na ≤ ca ∧ ma ≤ 4096 ∧ Hid (AllK s l k sa la) ∧ Hid (Below ua18.heap.size ua18 wr)) (fun i _ _ => n' - (intOf i).toNat)
  case atStart => exact ⟨0, A, B, n', c, m', d, s, l, Nat.zero_le _, rfl, rfl, HT_a, hn4.2, hc, hm4, HAK, HE0⟩
  case round =>
    clear HT_a HE0 HAK
    obtain ⟨k, AA, BA, na, ca, ma, da, sa, la, hk, rfl, rfl, HT_a, hna, hca, hma, HAK, HE⟩ := hrel
    by_cases hlt : k < n'
    · have h3 : (k : Int) < (n' : Int) := by omega
      have HSA : Hid (sa.length = na) := hide (lies_len9 HT_a.out.S)
      have HLA : Hid (la.length = ma) := hide (lies_len9 HT_a.out.L)
      have HKS : Hid (k < s.length) := hide (by rw [HSN.out]; exact hlt)
      have HTA : Hid (tenOk sa ma = true) := hide (by rw [← HLA.out]; exact HAK.out.1)
      have HPA : Hid (0 < sa.length) := hide (by rw [HAK.out.2.2.1 HKS.out]; have := HKS.out; omega)
      have HSX : Hid (smE sa ma 0 = 0 ∧ smS sa ma 0 = woL sa 0 ∧ smL sa ma la 0 = sumT sa la 0) := hide ⟨sm_ok (a := 0) HTA.out HPA.out, smS_ok (a := 0) HTA.out HPA.out, smL_ok (a := 0) HTA.out HPA.out⟩
      have a0 := HT_a.out.c0
      have a1 := HT_a.out.c1
      go_wp2_with fail
      refine Calls.mono (msum_own AA BA na ca ma da sa la 0 _ HT_a.out.S HT_a.out.L (by omega) (by omega)) ?_
      rw [HSX.out.1, HSX.out.2.1, HSX.out.2.2]
      rintro e wv ⟨AB, nb, cb, BB, mb, db, rfl, ho1, ho2, hnb, hmb, hb0⟩
      have HO := hide (And.intro ho1 ho2)
      have hcb := own_cap9 ho1
      have HBX : Hid (BoxT wv ua18.heap.size (.slice AA na ca) (.slice BA ma da)) := hide (HT_a.out.1.kept hb0)
      have HEV := hide (below_nx6 HE.out hb0)
      have hpl : ua18.heap.size < wr.heap.size := HT_a.out.1.lt
      clear a0 a1 ho1 ho2 hb0 HSX
      have a0 := HBX.out.c0
      have a1 := HBX.out.c1
      have f0 := HBX.out.f0 0
      have f1 := HBX.out.f0 1
      go_wp2
      go_roundw
      case rel => exact ⟨k + 1, AB, BB, nb, cb, mb, db, woL sa 0, sumT sa la 0, by omega, by go_num, rfl, hide (TenAt.put9 HBX.out HO.out.1 HO.out.2 hpl hpl), hnb, hcb, hmb, hide (HAK.out.step HKS.out), hide ((HEV.out.setCell (by dsimp only; omega) _).setCell (by dsimp only; omega) _)⟩
      case measure => simp [intOf] <;> omega
    · obtain rfl : n' = k := by omega
      have HFIN : Hid (sa = [1] ∧ la = [allF l]) := hide (by have h := HAK.out; rw [← HSN.out] at h; exact h.last (by rw [HSN.out]; omega))
      obtain ⟨e1, e2⟩ := HFIN.out
      have hb := HE.out
      subst e1 e2
      clear HFIN
      replace HT_t := hide (HT_t.out.kept hb)
      replace HT_x := hide (HT_x.out.kept hb)
      replace HBA := hide (below_nx6 HBA.out hb)
      replace HBW := hide (HBW.out.trans (hb.mono HBW.out.size))
      clear hb HE
      obtain ⟨bB, oB, rfl, _, hsB⟩ := byte_at HT_t.out.L (by have := (tenOk_iff.1 HTKt.out); omega)
      have HSB := hide hsB
      clear hsB
      have cxt0 := HT_t.out.c0
      have cxt1 := HT_t.out.c1
      go_wp2
      go_loopw [21, 22] (fun j i wq => ∃ k : Nat, k ≤ m' ∧ i = .int .i64 k ∧ j = .int .i32 (sumF (fun i => l.getD i 0) k) ∧ wq = wr) (fun _ i _ => m' - (intOf i).toNat)
      case atStart => exact ⟨0, Nat.zero_le _, rfl, rfl, rfl⟩
      case round =>
        obtain ⟨k, hk, rfl, rfl, rfl⟩ := hrel
        by_cases hlt : k < m'
        · have h0 : (0 : Int) ≤ (k : Int) := by omega
          have h3 : (k : Int) < (m' : Int) := by omega
          have x1 := HSB.out k hlt
          obtain ⟨sk, hsk⟩ : ∃ z, z = sumF (fun i => l.getD i 0) k := ⟨_, rfl⟩
          obtain ⟨xk, hxk⟩ : ∃ z, z = l.getD k 0 := ⟨_, rfl⟩
          obtain ⟨yk, hyk⟩ : ∃ z, z = sumF (fun i => l.getD i 0) (k + 1) := ⟨_, rfl⟩
          have HYK := hide hyk
          have m1 : IntKind.i32.wrap (sk + xk) = yk := by rw [hyk, sumF, add32, wrap32, IntKind.wrap_i32, hsk, hxk]
          rw [← hsk]
          rw [← hxk] at x1
          clear hsk hxk hyk
          go_wp2
          go_roundw
          case rel => exact ⟨k + 1, by omega, by go_num, by rw [HYK.out], by first | trivial | rfl⟩
          case measure => simp [intOf] <;> omega
        · obtain rfl : m' = k := by omega
          have HAF : Hid (allF l = sumF (fun i => l.getD i 0) m') := hide (by rw [← HLM.out]; rfl)
          rw [← HAF.out]
          obtain ⟨sm, hsm⟩ : ∃ z, z = allF l := ⟨_, rfl⟩
          rw [← hsm] at HT_a ⊢
          clear hsm HAF
          go_wp2
          clear cxt0 cxt1
          have HC : Hid (∀ v, Below wr.heap.size wr v → v.cell? ⟨ua18.heap.size, 0, none⟩ = some (.slice AA na ca) ∧ v.cell? ⟨ua18.heap.size, 1, none⟩ = some (.slice BA ma da)) := hide (fun v hv => ⟨(HT_a.out.kept hv).c0, (HT_a.out.kept hv).c1⟩)
          have hd0 : Below wr.heap.size wr wr.drew := below_drewN (Below.refl _ _) 1
          have hS0 : Hid (wr.drew.cell? ⟨ua18.heap.size, 0, none⟩ = some (.slice AA na ca) ∧ wr.drew.cell? ⟨ua18.heap.size, 1, none⟩ = some (.slice BA ma da)) := hide (HC.out _ hd0)
          refine wp_region_U (fun _ v => v.cell? ⟨ua18.heap.size, 0, none⟩ = some (.slice AA na ca) ∧ v.cell? ⟨ua18.heap.size, 1, none⟩ = some (.slice BA ma da)) 99 (by kernel_rfl) ?_
          refine wpAnyU_take (i := 0) (oi := { dst := some 136, op := _, type := _, pos := _, after := _, guard := none }) (v := .agg #[.slice AA na ca, .slice BA ma da]) rfl (by kernel_rfl) (by kernel_rfl) (by kernel_rfl) (by kernel_rfl) (fun _ _ _ h => h) (yields_take rfl (fun w' hw => by obtain ⟨h1, h2⟩ := hw.const; go_simp)) hS0.out ?_
          simp only [Act.put, List.setIfInBounds_toArray, List.set_cons_zero, List.set_cons_succ]
          refine wpAnyU_take (i := 2) (oi := { dst := some 138, op := _, type := _, pos := _, after := _, guard := none }) (v := .int .i32 sm) rfl (by kernel_rfl) (by kernel_rfl) (by kernel_rfl) (by kernel_rfl) (fun _ _ _ h => h) (yields_take rfl (fun w' hw => by obtain ⟨h1, h2⟩ := hw.const; go_simp)) hS0.out ?_
          simp only [Act.put, List.setIfInBounds_toArray, List.set_cons_zero, List.set_cons_succ]
          refine wpAnyU_two (i := 1) (j := 3) (oi := { dst := some 137, op := _, type := _, pos := _, after := _, guard := none }) (oj := { dst := some 139, op := _, type := _, pos := _, after := _, guard := none }) (TwoL wr .i64 .i32 ([1] : List Int) ([sm] : List Int)) (by kernel_rfl) (by kernel_rfl) (by kernel_rfl) rfl rfl rfl rfl (by decide) (by decide) (by kernel_rfl) (by kernel_rfl) (fun _ => by kernel_rfl) (fun _ => by kernel_rfl) ⟨.slice (some ⟨wr.drew.heap.size, 0, none⟩) 1 1, (wr.drew.alloc (.cells (([1] : List Int).map (Value.int .i64)).toArray 3)), by go_simp, (by have hv := below_al6 (o := (.cells (([1] : List Int).map (Value.int .i64)).toArray 3)) (hd0); exact HC.out _ hv), .slice (some ⟨wr.drew.heap.size + 1, 0, none⟩) 1 1, ((wr.drew.alloc (.cells (([1] : List Int).map (Value.int .i64)).toArray 3)).alloc (.cells (([sm] : List Int).map (Value.int .i32)).toArray 21)), by go_simp, TwoL.fst _ _ (hd0)⟩ ⟨.slice (some ⟨wr.drew.heap.size, 0, none⟩) 1 1, (wr.drew.alloc (.cells (([sm] : List Int).map (Value.int .i32)).toArray 21)), by go_simp, (by have hv := below_al6 (o := (.cells (([sm] : List Int).map (Value.int .i32)).toArray 21)) (hd0); exact HC.out _ hv), .slice (some ⟨wr.drew.heap.size + 1, 0, none⟩) 1 1, ((wr.drew.alloc (.cells (([sm] : List Int).map (Value.int .i32)).toArray 21)).alloc (.cells (([1] : List Int).map (Value.int .i64)).toArray 3)), by go_simp, TwoL.snd _ _ (hd0)⟩ (fun _ _ _ hr => by obtain ⟨_, _, _, _, _, _, hv⟩ := hr; exact HC.out _ hv) ?_
          rintro _ _ q ⟨gqx, gqy, rfl, rfl, hlqx, hlqy, hd1⟩
          simp only [List.length_cons, List.length_nil, Nat.reduceAdd] at hlqx hlqy ⊢
          simp only [Act.put, List.setIfInBounds_toArray, List.set_cons_zero, List.set_cons_succ]
          have hS1 : Hid (q.cell? ⟨ua18.heap.size, 0, none⟩ = some (.slice AA na ca) ∧ q.cell? ⟨ua18.heap.size, 1, none⟩ = some (.slice BA ma da)) := hide (by have hv := hd1; exact HC.out _ hv)
          clear hS0
          refine wpAnyU_one (i := 4) (by kernel_rfl) rfl ?_
          intro K hK
          go_simp
          refine Calls.mono (of9_any (some ⟨gqx, 0, none⟩) (some ⟨gqy, 0, none⟩) 1 1 1 1 _) ?_
          rintro e r0 ⟨rfl, hb⟩
          dsimp only
          have hd2 : Below wr.heap.size wr r0 := below_nx6 hd1 hb
          replace hlqx := hlqx.below hb
          replace hlqy := hlqy.below hb
          clear hb
          have hS2 : Hid (r0.cell? ⟨ua18.heap.size, 0, none⟩ = some (.slice AA na ca) ∧ r0.cell? ⟨ua18.heap.size, 1, none⟩ = some (.slice BA ma da)) := hide (HC.out _ hd2)
          refine hK.out _ _ hS2.out (fun _ => ?_)
          clear hK K hS1
          refine wpAnyU_one (i := 5) (by kernel_rfl) rfl ?_
          intro K hK
          go_simp
          refine Calls.mono (is9_any AA BA (some ⟨gqx, 0, none⟩) (some ⟨gqy, 0, none⟩) na ca ma da 1 1 1 1 [1] [sm] [1] [sm] 0 _ (HT_a.out.S.below hd2) (HT_a.out.L.below hd2) hlqx hlqy (by omega) (by omega) rfl) ?_
          rintro e s0 ⟨rfl, hb⟩
          dsimp only
          rw [show decide (([1] : List Int) = [1] ∧ [sm] = [sm]) = true from decide_eq_true ⟨rfl, rfl⟩]
          have hd3 : Below wr.heap.size wr s0 := below_nx6 hd2 hb
          clear hb hlqx hlqy
          have hS3 : Hid (s0.cell? ⟨ua18.heap.size, 0, none⟩ = some (.slice AA na ca) ∧ s0.cell? ⟨ua18.heap.size, 1, none⟩ = some (.slice BA ma da)) := hide (HC.out _ hd3)
          refine hK.out _ _ hS3.out (fun _ => ?_)
          clear hK K hS2
          refine wpAnyU_take (i := 6) (oi := { dst := some 142, op := _, type := _, pos := _, after := _, guard := none }) (v := .bool false) rfl (by kernel_rfl) (by kernel_rfl) (by kernel_rfl) (by kernel_rfl) (fun _ _ _ h => h) (yields_take rfl (fun w' hw => by obtain ⟨h1, h2⟩ := hw.const; go_simp)) hS3.out ?_
          simp only [Act.put, List.setIfInBounds_toArray, List.set_cons_zero, List.set_cons_succ]
          refine wpAnyU_done (by kernel_rfl) ?_ _
          clear hS3
          have hb := hd3
          replace HT_t := hide (HT_t.out.kept hb)
          replace HT_x := hide (HT_x.out.kept hb)
          replace HT_a := hide (HT_a.out.kept hb)
          replace HBA := hide (below_nx6 HBA.out hb)
          replace HBW := hide (HBW.out.trans (hb.mono HBW.out.size))
          clear hb hd0 hd1 hd2 hd3 HC HT_a
          by_cases hn2 : n' < 2
          · have h2 : (n' : Int) < 2 := by omega
            go_wp2
            go_ret
            exact ⟨rfl, HBW.out⟩
          have h2 : ¬ ((n' : Int) < 2) := by omega
          obtain ⟨M1, hM1⟩ : ∃ z, n' = z + 1 := ⟨n' - 1, by omega⟩
          obtain ⟨q, hq⟩ : ∃ z, z = Z1 % M1 := ⟨_, rfl⟩
          have hqn : q < M1 := by rw [hq]; exact Nat.mod_lt _ (by omega)
          have r1 : Int.tmod (Z1 : Int) (M1 : Int) = (q : Int) := by rw [hq]; rfl
          have r3 : ¬ (M1 : Int) = 0 := by omega
          have r3' : ¬ M1 = 0 := by omega
          have r4 : (n' : Int) - 1 = (M1 : Int) := by omega
          have r5 : IntKind.i64.wrap (M1 : Int) = (M1 : Int) := by rw [IntKind.wrap_i64]; omega
          have r6 : IntKind.i64.wrap (q : Int) = (q : Int) := by rw [IntKind.wrap_i64]; omega
          have hSL : Sb.length = M1 := by rw [HR_Sx.out, wo_len HPL.out (by rw [HSN.out]; omega), HSN.out]; omega
          have HQL : Hid (q < Sb.length) := hide (by rw [hSL]; exact hqn)
          have hq2 : q ≤ 3 ∧ p ≤ 3 := by omega
          obtain ⟨y0, y1⟩ := HCZ.out _ HBA.out
          have hqn2 : q + 1 < n' := by omega
          clear hq hSL hz0 hM1 hqn
          obtain ⟨Sf, hSf⟩ : ∃ z : List Int, z = woL Sb q := ⟨_, rfl⟩
          have HR_Sf := hide hSf
          clear hSf
          obtain ⟨Lf, hLf⟩ : ∃ z : List Int, z = sumT Sb Lx q := ⟨_, rfl⟩
          have HR_Lf := hide hLf
          clear hLf
          have cxx0 := HT_x.out.c0
          have cxx1 := HT_x.out.c1
          go_wp2_with fail
          refine Calls.mono (msum_own A1x A2x k1x c1x k2x c2x Sb Lx (q : Int) _ HT_x.out.S HT_x.out.L (by omega) (by omega)) ?_
          rw [sm_ok HTKx.out HQL.out, smS_ok HTKx.out HQL.out, smL_ok HTKx.out HQL.out, ← HR_Sf.out, ← HR_Lf.out]
          rintro e ua20 ⟨A1f, k1f, c1f, A2f, k2f, c2f, rfl, ho1, ho2, hk1f, hk2f, hb0⟩
          obtain ⟨V21, hV21⟩ : ∃ W, W = ua20.alloc (.cells #[.slice A1f k1f c1f, .slice A2f k2f c2f] 49) := ⟨_, rfl⟩
          have HT_f : Hid (TenAt V21 ua20.heap.size A1f A2f k1f c1f k2f c2f Sf Lf) := hide (by rw [hV21]; exact TenAt.own9 ho1 ho2)
          have hcapf := own_cap9 ho1
          have hb : Below s0.heap.size s0 V21 := by rw [hV21]; exact below_al6 hb0
          replace HT_t := hide (HT_t.out.kept hb)
          replace HT_x := hide (HT_x.out.kept hb)
          replace HBA := hide (below_nx6 HBA.out hb)
          replace HBW := hide (HBW.out.trans (hb.mono HBW.out.size))
          have hV21' := hV21.symm
          clear cxx0 cxx1 hV21 hb hb0 ho1 ho2
          have hlt_f := HT_f.out.1.lt
          have HLNf : Hid (Lf.length = k2f) := hide (lies_len9 HT_f.out.L)
          have HSNf : Hid (Sf.length = k1f) := hide (lies_len9 HT_f.out.S)
          have HTKf : Hid (tenOk Sf k2f = true) := hide (by rw [← HLNf.out, HR_Sf.out, HR_Lf.out]; exact sumT_ok HTKx.out HQL.out)
          clear y0 y1 r1 r3 r3' r4 r5 r6 h2 hz1
          by_cases hge : p ≤ q
          · have c1 : (p : Int) ≤ (q : Int) := by omega
            obtain ⟨o, ho⟩ : ∃ z, z = q + 1 := ⟨_, rfl⟩
            have c2 : (q : Int) + 1 = (o : Int) := by omega
            have c3 : ¬ ((o : Int) < (p : Int)) := by omega
            have c4 : IntKind.i64.wrap (o : Int) = (o : Int) := by rw [IntKind.wrap_i64]; omega
            have HOL : Hid (o < s.length) := hide (by rw [HSN.out]; omega)
            have hpo : p < o := by omega
            have hoq : o - 1 = q := by omega
            clear ho
            obtain ⟨Sw, hSw⟩ : ∃ z : List Int, z = woL s o := ⟨_, rfl⟩
            have HR_Sw := hide hSw
            clear hSw
            obtain ⟨Lw, hLw⟩ : ∃ z : List Int, z = sumT s l o := ⟨_, rfl⟩
            have HR_Lw := hide hLw
            clear hLw
            have cxt0 := HT_t.out.c0
            have cxt1 := HT_t.out.c1
            go_wp2_with fail
            refine Calls.mono (msum_own A (some ⟨bB, oB, none⟩) n' c m' d s l (o : Int) _ HT_t.out.S HT_t.out.L (by omega) (by omega)) ?_
            rw [sm_ok HTKt.out HOL.out, smS_ok HTKt.out HOL.out, smL_ok HTKt.out HOL.out, ← HR_Sw.out, ← HR_Lw.out]
            rintro e ua22 ⟨A1w, k1w, c1w, A2w, k2w, c2w, rfl, ho1, ho2, hk1w, hk2w, hb0⟩
            obtain ⟨V23, hV23⟩ : ∃ W, W = ua22.alloc (.cells #[.slice A1w k1w c1w, .slice A2w k2w c2w] 49) := ⟨_, rfl⟩
            have HT_w : Hid (TenAt V23 ua22.heap.size A1w A2w k1w c1w k2w c2w Sw Lw) := hide (by rw [hV23]; exact TenAt.own9 ho1 ho2)
            have hcapw := own_cap9 ho1
            have hb : Below V21.heap.size V21 V23 := by rw [hV23]; exact below_al6 hb0
            replace HT_t := hide (HT_t.out.kept hb)
            replace HT_x := hide (HT_x.out.kept hb)
            replace HT_f := hide (HT_f.out.kept hb)
            replace HBA := hide (below_nx6 HBA.out hb)
            replace HBW := hide (HBW.out.trans (hb.mono HBW.out.size))
            have hV23' := hV23.symm
            clear cxt0 cxt1 hV23 hb hb0 ho1 ho2
            have hlt_w := HT_w.out.1.lt
            have HLNw : Hid (Lw.length = k2w) := hide (lies_len9 HT_w.out.L)
            have HSNw : Hid (Sw.length = k1w) := hide (lies_len9 HT_w.out.S)
            have HTKw : Hid (tenOk Sw k2w = true) := hide (by rw [← HLNw.out, HR_Sw.out, HR_Lw.out]; exact sumT_ok HTKt.out HOL.out)
            have HPW : Hid (p < Sw.length) := hide (by rw [HR_Sw.out, wo_len HOL.out (by rw [HSN.out]; omega), HSN.out]; have := HOL.out; have := HSN.out; omega)
            obtain ⟨Sv, hSv⟩ : ∃ z : List Int, z = woL Sw p := ⟨_, rfl⟩
            have HR_Sv := hide hSv
            clear hSv
            obtain ⟨Lv, hLv⟩ : ∃ z : List Int, z = sumT Sw Lw p := ⟨_, rfl⟩
            have HR_Lv := hide hLv
            clear hLv
            have cxw0 := HT_w.out.c0
            have cxw1 := HT_w.out.c1
            go_wp2_with fail
            refine Calls.mono (msum_own A1w A2w k1w c1w k2w c2w Sw Lw (p : Int) _ HT_w.out.S HT_w.out.L (by omega) (by omega)) ?_
            rw [sm_ok HTKw.out HPW.out, smS_ok HTKw.out HPW.out, smL_ok HTKw.out HPW.out, ← HR_Sv.out, ← HR_Lv.out]
            rintro e ua24 ⟨A1v, k1v, c1v, A2v, k2v, c2v, rfl, ho1, ho2, hk1v, hk2v, hb0⟩
            obtain ⟨V25, hV25⟩ : ∃ W, W = ua24.alloc (.cells #[.slice A1v k1v c1v, .slice A2v k2v c2v] 49) := ⟨_, rfl⟩
            have HT_v : Hid (TenAt V25 ua24.heap.size A1v A2v k1v c1v k2v c2v Sv Lv) := hide (by rw [hV25]; exact TenAt.own9 ho1 ho2)
            have hcapv := own_cap9 ho1
            have hb : Below V23.heap.size V23 V25 := by rw [hV25]; exact below_al6 hb0
            replace HT_t := hide (HT_t.out.kept hb)
            replace HT_x := hide (HT_x.out.kept hb)
            replace HT_f := hide (HT_f.out.kept hb)
            replace HT_w := hide (HT_w.out.kept hb)
            replace HBA := hide (below_nx6 HBA.out hb)
            replace HBW := hide (HBW.out.trans (hb.mono HBW.out.size))
            have hV25' := hV25.symm
            clear cxw0 cxw1 hV25 hb hb0 ho1 ho2
            have hlt_v := HT_v.out.1.lt
            have HLNv : Hid (Lv.length = k2v) := hide (lies_len9 HT_v.out.L)
            have HSNv : Hid (Sv.length = k1v) := hide (lies_len9 HT_v.out.S)
            have HTKv : Hid (tenOk Sv k2v = true) := hide (by rw [← HLNv.out, HR_Sv.out, HR_Lv.out]; exact sumT_ok HTKw.out HPW.out)
            obtain ⟨k1, k2⟩ := sm_both (l := l) HTKt.out hpo HOL.out
            rw [hoq] at k1 k2
            have e1 : Sv = Sf := by rw [HR_Sv.out, HR_Sf.out, HR_Sw.out, HR_Sx.out]; exact k1
            have e2 : Lv = Lf := by rw [HR_Lv.out, HR_Lf.out, HR_Lw.out, HR_Lx.out, HR_Sw.out, HR_Sx.out]; exact k2
            clear k1 k2 c1 c2 c3 c4
            subst e1 e2
            have cxv0 := HT_v.out.c0
            have cxv1 := HT_v.out.c1
            have cxf0 := HT_f.out.c0
            have cxf1 := HT_f.out.c1
            go_wp2_with fail
            refine Calls.mono (is9_any A1v A2v A1f A2f k1v c1v k2v c2v k1f c1f k2f c2f Sv Lv Sv Lv 0 _ HT_v.out.S HT_v.out.L HT_f.out.S HT_f.out.L (by omega) (by omega) rfl) ?_
            rw [show decide (Sv = Sv ∧ Lv = Lv) = true from decide_eq_true ⟨rfl, rfl⟩]
            rintro e ua26 ⟨rfl, hb⟩
            replace HT_t := hide (HT_t.out.kept hb)
            replace HT_x := hide (HT_x.out.kept hb)
            replace HT_f := hide (HT_f.out.kept hb)
            replace HT_w := hide (HT_w.out.kept hb)
            replace HT_v := hide (HT_v.out.kept hb)
            replace HBA := hide (below_nx6 HBA.out hb)
            replace HBW := hide (HBW.out.trans (hb.mono HBW.out.size))
            clear cxv0 cxv1 cxf0 cxf1 hb
            go_wp2
            go_ret
            exact ⟨rfl, HBW.out⟩
          · have c1 : ¬ ((p : Int) ≤ (q : Int)) := by omega
            have c3 : (q : Int) < (p : Int) := by omega
            obtain ⟨pm, hpm⟩ : ∃ z, p = z + 1 := ⟨p - 1, by omega⟩
            have c2 : (p : Int) - 1 = (pm : Int) := by omega
            have c4 : IntKind.i64.wrap (pm : Int) = (pm : Int) := by rw [IntKind.wrap_i64]; omega
            have HOL : Hid (q < s.length) := hide (by rw [HSN.out]; omega)
            have hqp : q < p := by omega
            have hoq : p - 1 = pm := by omega
            clear hpm
            obtain ⟨Sw, hSw⟩ : ∃ z : List Int, z = woL s q := ⟨_, rfl⟩
            have HR_Sw := hide hSw
            clear hSw
            obtain ⟨Lw, hLw⟩ : ∃ z : List Int, z = sumT s l q := ⟨_, rfl⟩
            have HR_Lw := hide hLw
            clear hLw
            have cxt0 := HT_t.out.c0
            have cxt1 := HT_t.out.c1
            go_wp2_with fail
            refine Calls.mono (msum_own A (some ⟨bB, oB, none⟩) n' c m' d s l (q : Int) _ HT_t.out.S HT_t.out.L (by omega) (by omega)) ?_
            rw [sm_ok HTKt.out HOL.out, smS_ok HTKt.out HOL.out, smL_ok HTKt.out HOL.out, ← HR_Sw.out, ← HR_Lw.out]
            rintro e ua27 ⟨A1w, k1w, c1w, A2w, k2w, c2w, rfl, ho1, ho2, hk1w, hk2w, hb0⟩
            obtain ⟨V28, hV28⟩ : ∃ W, W = ua27.alloc (.cells #[.slice A1w k1w c1w, .slice A2w k2w c2w] 49) := ⟨_, rfl⟩
            have HT_w : Hid (TenAt V28 ua27.heap.size A1w A2w k1w c1w k2w c2w Sw Lw) := hide (by rw [hV28]; exact TenAt.own9 ho1 ho2)
            have hcapw := own_cap9 ho1
            have hb : Below V21.heap.size V21 V28 := by rw [hV28]; exact below_al6 hb0
            replace HT_t := hide (HT_t.out.kept hb)
            replace HT_x := hide (HT_x.out.kept hb)
            replace HT_f := hide (HT_f.out.kept hb)
            replace HBA := hide (below_nx6 HBA.out hb)
            replace HBW := hide (HBW.out.trans (hb.mono HBW.out.size))
            have hV28' := hV28.symm
            clear cxt0 cxt1 hV28 hb hb0 ho1 ho2
            have hlt_w := HT_w.out.1.lt
            have HLNw : Hid (Lw.length = k2w) := hide (lies_len9 HT_w.out.L)
            have HSNw : Hid (Sw.length = k1w) := hide (lies_len9 HT_w.out.S)
            have HTKw : Hid (tenOk Sw k2w = true) := hide (by rw [← HLNw.out, HR_Sw.out, HR_Lw.out]; exact sumT_ok HTKt.out HOL.out)
            have HPW : Hid (pm < Sw.length) := hide (by rw [HR_Sw.out, wo_len HOL.out (by rw [HSN.out]; omega), HSN.out]; omega)
            obtain ⟨Sv, hSv⟩ : ∃ z : List Int, z = woL Sw pm := ⟨_, rfl⟩
            have HR_Sv := hide hSv
            clear hSv
            obtain ⟨Lv, hLv⟩ : ∃ z : List Int, z = sumT Sw Lw pm := ⟨_, rfl⟩
            have HR_Lv := hide hLv
            clear hLv
            have cxw0 := HT_w.out.c0
            have cxw1 := HT_w.out.c1
            go_wp2_with fail
            refine Calls.mono (msum_own A1w A2w k1w c1w k2w c2w Sw Lw (pm : Int) _ HT_w.out.S HT_w.out.L (by omega) (by omega)) ?_
            rw [sm_ok HTKw.out HPW.out, smS_ok HTKw.out HPW.out, smL_ok HTKw.out HPW.out, ← HR_Sv.out, ← HR_Lv.out]
            rintro e ua29 ⟨A1v, k1v, c1v, A2v, k2v, c2v, rfl, ho1, ho2, hk1v, hk2v, hb0⟩
            obtain ⟨V30, hV30⟩ : ∃ W, W = ua29.alloc (.cells #[.slice A1v k1v c1v, .slice A2v k2v c2v] 49) := ⟨_, rfl⟩
            have HT_v : Hid (TenAt V30 ua29.heap.size A1v A2v k1v c1v k2v c2v Sv Lv) := hide (by rw [hV30]; exact TenAt.own9 ho1 ho2)
            have hcapv := own_cap9 ho1
            have hb : Below V28.heap.size V28 V30 := by rw [hV30]; exact below_al6 hb0
            replace HT_t := hide (HT_t.out.kept hb)
            replace HT_x := hide (HT_x.out.kept hb)
            replace HT_f := hide (HT_f.out.kept hb)
            replace HT_w := hide (HT_w.out.kept hb)
            replace HBA := hide (below_nx6 HBA.out hb)
            replace HBW := hide (HBW.out.trans (hb.mono HBW.out.size))
            have hV30' := hV30.symm
            clear cxw0 cxw1 hV30 hb hb0 ho1 ho2
            have hlt_v := HT_v.out.1.lt
            have HLNv : Hid (Lv.length = k2v) := hide (lies_len9 HT_v.out.L)
            have HSNv : Hid (Sv.length = k1v) := hide (lies_len9 HT_v.out.S)
            have HTKv : Hid (tenOk Sv k2v = true) := hide (by rw [← HLNv.out, HR_Sv.out, HR_Lv.out]; exact sumT_ok HTKw.out HPW.out)
            obtain ⟨k1, k2⟩ := sm_both (l := l) HTKt.out hqp HPL.out
            rw [hoq] at k1 k2
            have e1 : Sv = Sf := by rw [HR_Sv.out, HR_Sf.out, HR_Sw.out, HR_Sx.out]; exact k1.symm
            have e2 : Lv = Lf := by rw [HR_Lv.out, HR_Lf.out, HR_Lw.out, HR_Lx.out, HR_Sw.out, HR_Sx.out]; exact k2.symm
            clear k1 k2 c1 c2 c3 c4
            subst e1 e2
            have cxv0 := HT_v.out.c0
            have cxv1 := HT_v.out.c1
            have cxf0 := HT_f.out.c0
            have cxf1 := HT_f.out.c1
            go_wp2_with fail
            refine Calls.mono (is9_any A1v A2v A1f A2f k1v c1v k2v c2v k1f c1f k2f c2f Sv Lv Sv Lv 0 _ HT_v.out.S HT_v.out.L HT_f.out.S HT_f.out.L (by omega) (by omega) rfl) ?_
            rw [show decide (Sv = Sv ∧ Lv = Lv) = true from decide_eq_true ⟨rfl, rfl⟩]
            rintro e ua31 ⟨rfl, hb⟩
            replace HT_t := hide (HT_t.out.kept hb)
            replace HT_x := hide (HT_x.out.kept hb)
            replace HT_f := hide (HT_f.out.kept hb)
            replace HT_w := hide (HT_w.out.kept hb)
            replace HT_v := hide (HT_v.out.kept hb)
            replace HBA := hide (below_nx6 HBA.out hb)
            replace HBW := hide (HBW.out.trans (hb.mono HBW.out.size))
            clear cxv0 cxv1 cxf0 cxf1 hb
            go_wp2
            go_ret
            exact ⟨rfl, HBW.out⟩

end Go.Proofs.Ytomhbhhfbbdilaa
