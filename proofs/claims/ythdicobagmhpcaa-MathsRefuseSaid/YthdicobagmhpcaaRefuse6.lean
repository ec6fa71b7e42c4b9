/- MathsRefuse: for every two tensors and every number of bits the walk of its Go text ends in true. -/
import Derived.Test.YthdicobagmhpcaaMl6
namespace Go.Proofs.Ythdicobagmhpcaa
open Go.RowKit
set_option linter.unusedVariables false
set_option linter.unusedSimpArgs false
set_option maxRecDepth 100000
theorem twoS_nil {s s' : List Int} {m m' : Nat} : (twoS s m s' m').length = 0 ↔ ¬ twoE s m s' m' = 0 := by
  unfold twoS
  by_cases h : twoE s m s' m' = 0
  · rw [if_pos h]
    have h1 := (sizeI_pos (tenOk_iff.1 (twoE_iff.1 h).1).1).1
    omega
  · rw [if_neg h]; simp [h]
theorem twoL_nil {f : Int → Int → Int} {s s' l l' : List Int} {m m' : Nat} (hl : l.length = m) (hl' : l'.length = m') : (twoL f s m s' m' l l').length = 0 ↔ ¬ twoE s m s' m' = 0 := by
  unfold twoL
  by_cases h : twoE s m s' m' = 0
  · rw [if_pos h]
    obtain ⟨h1, h2, h3⟩ := twoE_iff.1 h
    obtain ⟨p1, p2⟩ := tenOk_iff.1 h1
    obtain ⟨p3, p4⟩ := tenOk_iff.1 h2
    subst h3
    rw [List.length_zipWith]
    omega
  · rw [if_neg h]; simp [h]
theorem shL_nil {s l : List Int} {m : Nat} {z : Int} (hl : l.length = m) : (shL s m z l).length = 0 ↔ ¬ shE s m z = 0 := by
  unfold shL shE
  by_cases h : tenOk s m = true ∧ 0 ≤ z ∧ z ≤ 31
  · rw [if_pos h, if_pos h]
    have := (tenOk_iff.1 h.1)
    rw [List.length_map]
    omega
  · rw [if_neg h, if_neg h]; simp
/-- What two tensors that don't go together are told. -/
theorem refuse_want {s s' : List Int} {m m' : Nat} : twoE s m s' m' = (if tenOk s m = true then (if tenOk s' m' = true then (if s = s' then 0 else 10) else 1) else 1) := by
  unfold twoE
  by_cases h1 : tenOk s m = true
  · by_cases h2 : tenOk s' m' = true
    · rw [if_pos ⟨h1, h2⟩, if_pos h1, if_pos h2]
    · rw [if_neg (fun h => h2 h.2), if_pos h1, if_neg h2]
  · rw [if_neg (fun h => h1 h.1), if_neg h1]

set_option maxHeartbeats 8000000 in
theorem refuse6_far (A B A' B' : Option Addr) (n c m d n' c' m' d' : Nat) (s l s' l' : List Int) (z : Int) (w : World) (hA : Lies w A n (s.map (Value.int .i64))) (hB : Lies w B m (l.map (Value.int .i32))) (hA' : Lies w A' n' (s'.map (Value.int .i64))) (hB' : Lies w B' m' (l'.map (Value.int .i32)))
    (wl : ∀ z ∈ l, -2147483648 ≤ z ∧ z < 2147483648) (hn : n ≤ 70368744177664) (hm : m ≤ 70368744177664) (hn' : n' ≤ 70368744177664) (hm' : m' ≤ 70368744177664) (hfar : 1048576 < tsz n m + tsz n' m') :
    Calls Try.prog 7 #[tenV A n c B m d, tenV A' n' c' B' m' d', .int .i64 z] w fun e w' => e = .returned (.bool true) ∧ Below w.heap.size w w' := by
  obtain ⟨W0, hW0⟩ : ∃ W0, W0 = (w.alloc (.cells #[.slice A n c, .slice B m d] 25)).alloc (.cells #[.slice A' n' c', .slice B' m' d'] 25) := ⟨_, rfl⟩
  have HBW : Hid (Below w.heap.size w W0) := hide (by rw [hW0]; exact ((Below.refl w.heap.size w).alloc (Nat.le_refl _) _).alloc (by simp only [World.size_alloc]; omega) _)
  have HT_t : Hid (TenAt W0 w.heap.size A B n c m d s l) := hide (by rw [hW0]; exact ⟨(BoxT.new w _ _).alloc _, (hA.alloc _).alloc _, (hB.alloc _).alloc _⟩)
  have HT_v : Hid (TenAt W0 (w.heap.size + 1) A' B' n' c' m' d' s' l') := hide (by
    rw [hW0]
    refine ⟨?_, (hA'.alloc _).alloc _, (hB'.alloc _).alloc _⟩
    have h := BoxT.new (w.alloc (.cells #[.slice A n c, .slice B m d] 25)) (.slice A' n' c') (.slice B' m' d')
    rwa [World.size_alloc] at h)
  have HL : Hid (l.length = m) := hide (by have := hB.len; simpa using this)
  have HL' : Hid (l'.length = m') := hide (by have := hB'.len; simpa using this)
  have HWL := hide wl
  have hW0' := hW0.symm
  clear hW0 hA hB hA' hB' wl
  have hsW := HBW.out.size
  have HK : Hid (∀ v, Below W0.heap.size W0 v → v.cell? ⟨w.heap.size, 0, none⟩ = some (.slice A n c) ∧ v.cell? ⟨w.heap.size, 1, none⟩ = some (.slice B m d) ∧ v.cell? ⟨w.heap.size + 1, 0, none⟩ = some (.slice A' n' c') ∧ v.cell? ⟨w.heap.size + 1, 1, none⟩ = some (.slice B' m' d')) := hide (fun v hv =>
    ⟨(HT_t.out.kept hv).c0, (HT_t.out.kept hv).c1, (HT_v.out.kept hv).c0, (HT_v.out.kept hv).c1⟩)
  have ht0 := tsz_nn6 n m
  have ht0' := tsz_nn6 n' m'
  have ht1 := tsz_hi6 hn hm
  have ht1' := tsz_hi6 hn' hm'
  have HBY : Hid (∀ v : World, Calls Try.prog 14 #[.slice (some ⟨v.heap.size, 0, none⟩) 2 2] (v.alloc (.cells #[.int .i64 (tsz n m : Int), .int .i64 (tsz n' m' : Int)] 3)) fun e w' => e = .returned (.bool true) ∧ (v.alloc (.cells #[.int .i64 (tsz n m : Int), .int .i64 (tsz n' m' : Int)] 3)) = w') := hide (fun v =>
    beyond_yes (some ⟨v.heap.size, 0, none⟩) 2 2 [(tsz n m : Int), (tsz n' m' : Int)] _ (lies_lit v .i64 [(tsz n m : Int), (tsz n' m' : Int)] 3) (by intro z hz; simp at hz; omega) (by simp; omega) (by omega))
  clear ht0 ht1 ht0' ht1'
  have hbr : Below W0.heap.size W0 W0 := Below.refl _ _
  have hbC : Below W0.heap.size W0 (W0.drewN 1) := below_drewN (Below.refl _ W0) 1
  have a0 := HT_t.out.c0
  have a1 := HT_t.out.c1
  have b0 := HT_v.out.c0
  have b1 := HT_v.out.c1
  go_enter Try.func7, Try.ntmps7
  go_wp2
  go_region_held3 (fun w' => w'.cell? ⟨w.heap.size, 0, none⟩ = some (.slice A n c) ∧ w'.cell? ⟨w.heap.size, 1, none⟩ = some (.slice B m d) ∧ w'.cell? ⟨w.heap.size + 1, 0, none⟩ = some (.slice A' n' c') ∧ w'.cell? ⟨w.heap.size + 1, 1, none⟩ = some (.slice B' m' d'))
    (first | (exact HK.out _ hbC) | (exact HK.out _ (below_al6 hbC)) | (exact HK.out _ hbr) | go_keep)
    (first
      | (go_at_call 9; refine Calls.mono (alive6_any _) ?_; rintro e wA ⟨rfl, hb2⟩; replace hbC := below_nx6 hbC hb2)
      | (go_at_call 15; refine Calls.mono (tsize_any _ _ _ _ _ _ _ (by omega) (by omega)) ?_; rintro e w2 ⟨rfl, hb2⟩; replace hbC := below_nx6 hbC hb2)
      | (go_at_call 14; refine Calls.mono (HBY.out _) ?_; rintro e w3 ⟨rfl, hw3⟩; replace hbC : Below W0.heap.size W0 w3 := (by rw [← hw3]; exact below_al6 hbC)))
  clear a0 a1 b0 b1
  replace HBW := hide (HBW.out.trans (hbC.mono hsW))
  replace HT_t := hide (HT_t.out.kept hbC)
  replace HT_v := hide (HT_v.out.kept hbC)
  clear hbC HK
  go_wp2_with fail
  refine Calls.mono (alive6_any _) ?_
  rintro e u1 ⟨rfl, hb⟩
  replace HT_t := hide (HT_t.out.kept hb)
  replace HT_v := hide (HT_v.out.kept hb)
  replace HBW := hide (HBW.out.trans (hb.mono HBW.out.size))
  clear hb
  go_wp2
  go_ret
  exact ⟨rfl, HBW.out⟩

set_option maxHeartbeats 8000000 in
theorem refuse6_near (A B A' B' : Option Addr) (n c m d n' c' m' d' : Nat) (s l s' l' : List Int) (z : Int) (w : World) (hA : Lies w A n (s.map (Value.int .i64))) (hB : Lies w B m (l.map (Value.int .i32))) (hA' : Lies w A' n' (s'.map (Value.int .i64))) (hB' : Lies w B' m' (l'.map (Value.int .i32)))
    (wl : ∀ z ∈ l, -2147483648 ≤ z ∧ z < 2147483648) (hn : n ≤ 70368744177664) (hm : m ≤ 70368744177664) (hn' : n' ≤ 70368744177664) (hm' : m' ≤ 70368744177664) (hfar : tsz n m + tsz n' m' ≤ 1048576) :
    Calls Try.prog 7 #[tenV A n c B m d, tenV A' n' c' B' m' d', .int .i64 z] w fun e w' => e = .returned (.bool true) ∧ Below w.heap.size w w' := by
  obtain ⟨W0, hW0⟩ : ∃ W0, W0 = (w.alloc (.cells #[.slice A n c, .slice B m d] 25)).alloc (.cells #[.slice A' n' c', .slice B' m' d'] 25) := ⟨_, rfl⟩
  have HBW : Hid (Below w.heap.size w W0) := hide (by rw [hW0]; exact ((Below.refl w.heap.size w).alloc (Nat.le_refl _) _).alloc (by simp only [World.size_alloc]; omega) _)
  have HT_t : Hid (TenAt W0 w.heap.size A B n c m d s l) := hide (by rw [hW0]; exact ⟨(BoxT.new w _ _).alloc _, (hA.alloc _).alloc _, (hB.alloc _).alloc _⟩)
  have HT_v : Hid (TenAt W0 (w.heap.size + 1) A' B' n' c' m' d' s' l') := hide (by
    rw [hW0]
    refine ⟨?_, (hA'.alloc _).alloc _, (hB'.alloc _).alloc _⟩
    have h := BoxT.new (w.alloc (.cells #[.slice A n c, .slice B m d] 25)) (.slice A' n' c') (.slice B' m' d')
    rwa [World.size_alloc] at h)
  have HL : Hid (l.length = m) := hide (by have := hB.len; simpa using this)
  have HL' : Hid (l'.length = m') := hide (by have := hB'.len; simpa using this)
  have HWL := hide wl
  have hW0' := hW0.symm
  clear hW0 hA hB hA' hB' wl
  have hsW := HBW.out.size
  have HK : Hid (∀ v, Below W0.heap.size W0 v → v.cell? ⟨w.heap.size, 0, none⟩ = some (.slice A n c) ∧ v.cell? ⟨w.heap.size, 1, none⟩ = some (.slice B m d) ∧ v.cell? ⟨w.heap.size + 1, 0, none⟩ = some (.slice A' n' c') ∧ v.cell? ⟨w.heap.size + 1, 1, none⟩ = some (.slice B' m' d')) := hide (fun v hv =>
    ⟨(HT_t.out.kept hv).c0, (HT_t.out.kept hv).c1, (HT_v.out.kept hv).c0, (HT_v.out.kept hv).c1⟩)
  have ht0 := tsz_nn6 n m
  have ht0' := tsz_nn6 n' m'
  have ht1 := tsz_hi6 hn hm
  have ht1' := tsz_hi6 hn' hm'
  have HBY : Hid (∀ v : World, Calls Try.prog 14 #[.slice (some ⟨v.heap.size, 0, none⟩) 2 2] (v.alloc (.cells #[.int .i64 (tsz n m : Int), .int .i64 (tsz n' m' : Int)] 3)) fun e w' => e = .returned (.bool false) ∧ (v.alloc (.cells #[.int .i64 (tsz n m : Int), .int .i64 (tsz n' m' : Int)] 3)) = w') := hide (fun v =>
    beyond_no (some ⟨v.heap.size, 0, none⟩) 2 2 [(tsz n m : Int), (tsz n' m' : Int)] _ (lies_lit v .i64 [(tsz n m : Int), (tsz n' m' : Int)] 3) (by intro z hz; simp at hz; omega) (by simp; omega) (by omega))
  clear ht0 ht1 ht0' ht1'
  have hbr : Below W0.heap.size W0 W0 := Below.refl _ _
  have hbC : Below W0.heap.size W0 (W0.drewN 1) := below_drewN (Below.refl _ W0) 1
  have a0 := HT_t.out.c0
  have a1 := HT_t.out.c1
  have b0 := HT_v.out.c0
  have b1 := HT_v.out.c1
  go_enter Try.func7, Try.ntmps7
  go_wp2
  go_region_held3 (fun w' => w'.cell? ⟨w.heap.size, 0, none⟩ = some (.slice A n c) ∧ w'.cell? ⟨w.heap.size, 1, none⟩ = some (.slice B m d) ∧ w'.cell? ⟨w.heap.size + 1, 0, none⟩ = some (.slice A' n' c') ∧ w'.cell? ⟨w.heap.size + 1, 1, none⟩ = some (.slice B' m' d'))
    (first | (exact HK.out _ hbC) | (exact HK.out _ (below_al6 hbC)) | (exact HK.out _ hbr) | go_keep)
    (first
      | (go_at_call 9; refine Calls.mono (alive6_any _) ?_; rintro e wA ⟨rfl, hb2⟩; replace hbC := below_nx6 hbC hb2)
      | (go_at_call 15; refine Calls.mono (tsize_any _ _ _ _ _ _ _ (by omega) (by omega)) ?_; rintro e w2 ⟨rfl, hb2⟩; replace hbC := below_nx6 hbC hb2)
      | (go_at_call 14; refine Calls.mono (HBY.out _) ?_; rintro e w3 ⟨rfl, hw3⟩; replace hbC : Below W0.heap.size W0 w3 := (by rw [← hw3]; exact below_al6 hbC)))
  clear a0 a1 b0 b1
  replace HBW := hide (HBW.out.trans (hbC.mono hsW))
  replace HT_t := hide (HT_t.out.kept hbC)
  replace HT_v := hide (HT_v.out.kept hbC)
  clear hbC HK HBY
  obtain ⟨hn2, hm2⟩ := tsz_lo6 (n := n) (m := m) (by omega)
  obtain ⟨hn2', hm2'⟩ := tsz_lo6 (n := n') (m := m') (by omega)
  clear hfar hbr
  obtain ⟨E, hE⟩ : ∃ E, E = twoE s m s' m' := ⟨_, rfl⟩
  obtain ⟨OK, hOK⟩ : ∃ OK, OK = tenOk s m := ⟨_, rfl⟩
  obtain ⟨OK', hOK'⟩ : ∃ OK', OK' = tenOk s' m' := ⟨_, rfl⟩
  obtain ⟨SM, hSM⟩ : ∃ SM, SM = decide (s = s') := ⟨_, rfl⟩
  have hEE : E = (if OK = true then (if OK' = true then (if SM = true then 0 else 10) else 1) else 1) := by rw [hE, refuse_want, hOK, hOK', hSM]; simp
  have HE := hide hE
  have HOK := hide hOK
  have HOK' := hide hOK'
  have HSM := hide hSM
  clear hE hOK hOK' hSM
  have cxt0 := HT_t.out.c0
  have cxt1 := HT_t.out.c1
  have cxv0 := HT_v.out.c0
  have cxv1 := HT_v.out.c1
  go_wp2_with fail
  refine Calls.mono (sameG_Ints A A' n c n' c' s s' _ HT_t.out.S HT_v.out.S (by omega)) ?_
  rw [← HSM.out]
  rintro e u1 ⟨rfl, j, hj⟩
  have hb : Below w3.heap.size w3 u1 := by rw [hj]; exact below_drewN (Below.refl _ _) j
  replace HT_t := hide (HT_t.out.kept hb)
  replace HT_v := hide (HT_v.out.kept hb)
  replace HBW := hide (HBW.out.trans (hb.mono HBW.out.size))
  clear cxt0 cxt1 cxv0 cxv1 hb hj
  have HEE := hide hEE
  clear hEE
  obtain ⟨SE, hSE⟩ : ∃ SE, SE = shE s m z := ⟨_, rfl⟩
  have HSE := hide hSE
  clear hSE
  cases hsm : SM
  · have cxt0 := HT_t.out.c0
    have cxt1 := HT_t.out.c1
    have cxv0 := HT_v.out.c0
    have cxv1 := HT_v.out.c1
    have hsm2 : decide (s = s') = false := by rw [← HSM.out]; exact hsm
    go_wp2_with fail
    refine Calls.mono (tcheck_any A B n c m d s _ HT_t.out.S (by omega)) ?_
    rw [← HOK.out]
    rintro e u2 ⟨rfl, hb⟩
    replace HT_t := hide (HT_t.out.kept hb)
    replace HT_v := hide (HT_v.out.kept hb)
    replace HBW := hide (HBW.out.trans (hb.mono HBW.out.size))
    clear cxt0 cxt1 cxv0 cxv1 hb
    cases hok : OK
    · have hokc : tenOk s m = false := by rw [← HOK.out]; exact hok
      have hEc : twoE s m s' m' = 1 := by rw [refuse_want, if_neg (by rw [hokc]; decide)]
      have hOc : oneE s m = 1 := by rw [oneE, if_neg (by rw [hokc]; decide)]
      have cxt0 := HT_t.out.c0
      have cxt1 := HT_t.out.c1
      have cxv0 := HT_v.out.c0
      have cxv1 := HT_v.out.c1
      go_wp2_with fail
      refine Calls.mono (add_own A B A' B' n c m d n' c' m' d' s l s' l' _ HT_t.out.S HT_t.out.L HT_v.out.S HT_v.out.L (by omega) (by omega)) ?_
      rw [hEc]
      rintro e u3 ⟨A1x, k1x, c1x, A2x, k2x, c2x, rfl, ho1, ho2, hk1x, hk2x, hb0⟩
      obtain ⟨V4, hV4⟩ : ∃ W, W = u3.alloc (.cells #[.slice A1x k1x c1x, .slice A2x k2x c2x] 25) := ⟨_, rfl⟩
      have HT_x : Hid (TenAt V4 u3.heap.size A1x A2x k1x c1x k2x c2x (twoS s m s' m') (twoL add32 s m s' m' l l')) := hide (by rw [hV4]; exact ⟨BoxT.new _ _ _, (lies_of_own ho1).alloc _, (lies_of_own ho2).alloc _⟩)
      have hl1x : (twoS s m s' m').length = k1x := by have := ho1.1; simpa using this
      have hl2x : (twoL add32 s m s' m' l l').length = k2x := by have := ho2.1; simpa using this
      have hb : Below u2.heap.size u2 V4 := by rw [hV4]; exact below_al6 hb0
      replace HT_t := hide (HT_t.out.kept hb)
      replace HT_v := hide (HT_v.out.kept hb)
      replace HBW := hide (HBW.out.trans (hb.mono HBW.out.size))
      have hV4' := hV4.symm
      clear cxt0 cxt1 cxv0 cxv1 hV4 hb hb0 ho1 ho2
      have cxt0 := HT_t.out.c0
      have cxt1 := HT_t.out.c1
      have cxv0 := HT_v.out.c0
      have cxv1 := HT_v.out.c1
      go_wp2_with fail
      refine Calls.mono (mul_own A B A' B' n c m d n' c' m' d' s l s' l' _ HT_t.out.S HT_t.out.L HT_v.out.S HT_v.out.L (by omega) (by omega)) ?_
      rw [hEc]
      rintro e u5 ⟨A1y, k1y, c1y, A2y, k2y, c2y, rfl, ho1, ho2, hk1y, hk2y, hb0⟩
      obtain ⟨V6, hV6⟩ : ∃ W, W = u5.alloc (.cells #[.slice A1y k1y c1y, .slice A2y k2y c2y] 25) := ⟨_, rfl⟩
      have HT_y : Hid (TenAt V6 u5.heap.size A1y A2y k1y c1y k2y c2y (twoS s m s' m') (twoL mul32 s m s' m' l l')) := hide (by rw [hV6]; exact ⟨BoxT.new _ _ _, (lies_of_own ho1).alloc _, (lies_of_own ho2).alloc _⟩)
      have hl1y : (twoS s m s' m').length = k1y := by have := ho1.1; simpa using this
      have hl2y : (twoL mul32 s m s' m' l l').length = k2y := by have := ho2.1; simpa using this
      have hb : Below V4.heap.size V4 V6 := by rw [hV6]; exact below_al6 hb0
      replace HT_t := hide (HT_t.out.kept hb)
      replace HT_v := hide (HT_v.out.kept hb)
      replace HT_x := hide (HT_x.out.kept hb)
      replace HBW := hide (HBW.out.trans (hb.mono HBW.out.size))
      have hV6' := hV6.symm
      clear cxt0 cxt1 cxv0 cxv1 hV6 hb hb0 ho1 ho2
      have cxt0 := HT_t.out.c0
      have cxt1 := HT_t.out.c1
      go_wp2_with fail
      refine Calls.mono (relu_own A B n c m d s l _ HT_t.out.S HT_t.out.L (by omega)) ?_
      rw [hOc]
      rintro e u7 ⟨A1r, k1r, c1r, A2r, k2r, c2r, rfl, ho1, ho2, hk1r, hk2r, hb0⟩
      obtain ⟨V8, hV8⟩ : ∃ W, W = u7.alloc (.cells #[.slice A1r k1r c1r, .slice A2r k2r c2r] 25) := ⟨_, rfl⟩
      have HT_r : Hid (TenAt V8 u7.heap.size A1r A2r k1r c1r k2r c2r (oneS s m) (oneL relu32 s m l)) := hide (by rw [hV8]; exact ⟨BoxT.new _ _ _, (lies_of_own ho1).alloc _, (lies_of_own ho2).alloc _⟩)
      have hl1r : (oneS s m).length = k1r := by have := ho1.1; simpa using this
      have hl2r : (oneL relu32 s m l).length = k2r := by have := ho2.1; simpa using this
      have hb : Below V6.heap.size V6 V8 := by rw [hV8]; exact below_al6 hb0
      replace HT_t := hide (HT_t.out.kept hb)
      replace HT_v := hide (HT_v.out.kept hb)
      replace HT_x := hide (HT_x.out.kept hb)
      replace HT_y := hide (HT_y.out.kept hb)
      replace HBW := hide (HBW.out.trans (hb.mono HBW.out.size))
      have hV8' := hV8.symm
      clear cxt0 cxt1 hV8 hb hb0 ho1 ho2
      have cxt0 := HT_t.out.c0
      have cxt1 := HT_t.out.c1
      go_wp2_with fail
      refine Calls.mono (shift_own A B n c m d s l _ HT_t.out.S HT_t.out.L (by omega) z HWL.out) ?_
      rw [← HSE.out]
      rintro e u9 ⟨A1h, k1h, c1h, A2h, k2h, c2h, rfl, ho1, ho2, hk1h, hk2h, hb0⟩
      obtain ⟨V10, hV10⟩ : ∃ W, W = u9.alloc (.cells #[.slice A1h k1h c1h, .slice A2h k2h c2h] 25) := ⟨_, rfl⟩
      have HT_h : Hid (TenAt V10 u9.heap.size A1h A2h k1h c1h k2h c2h (shS s m z) (shL s m z l)) := hide (by rw [hV10]; exact ⟨BoxT.new _ _ _, (lies_of_own ho1).alloc _, (lies_of_own ho2).alloc _⟩)
      have hl1h : (shS s m z).length = k1h := by have := ho1.1; simpa using this
      have hl2h : (shL s m z l).length = k2h := by have := ho2.1; simpa using this
      have hb : Below V8.heap.size V8 V10 := by rw [hV10]; exact below_al6 hb0
      replace HT_t := hide (HT_t.out.kept hb)
      replace HT_v := hide (HT_v.out.kept hb)
      replace HT_x := hide (HT_x.out.kept hb)
      replace HT_y := hide (HT_y.out.kept hb)
      replace HT_r := hide (HT_r.out.kept hb)
      replace HBW := hide (HBW.out.trans (hb.mono HBW.out.size))
      have hV10' := hV10.symm
      clear cxt0 cxt1 hV10 hb hb0 ho1 ho2
      have cxt0 := HT_t.out.c0
      have cxt1 := HT_t.out.c1
      go_wp2_with fail
      refine Calls.mono (tcheck_any A B n c m d s _ HT_t.out.S (by omega)) ?_
      rw [hokc]
      rintro e u11 ⟨rfl, hb⟩
      replace HT_t := hide (HT_t.out.kept hb)
      replace HT_v := hide (HT_v.out.kept hb)
      replace HT_x := hide (HT_x.out.kept hb)
      replace HT_y := hide (HT_y.out.kept hb)
      replace HT_r := hide (HT_r.out.kept hb)
      replace HT_h := hide (HT_h.out.kept hb)
      replace HBW := hide (HBW.out.trans (hb.mono HBW.out.size))
      clear cxt0 cxt1 hb
      have f1 : ((k2x : Int) == 0) = true := beq_iff_eq.2 (by have := (twoL_nil (f := add32) (s := s) (s' := s') HL.out HL'.out).2 (by rw [hEc]; decide); omega)
      have f2 : ((k1y : Int) == 0) = true := beq_iff_eq.2 (by have := (twoS_nil (s := s) (s' := s') (m := m) (m' := m')).2 (by rw [hEc]; decide); omega)
      have hse : shE s m z = 1 := by rw [shE, if_neg (fun h => by rw [hokc] at h; exact absurd h.1 (by decide))]
      have f3 : ((k2h : Int) == 0) = true := beq_iff_eq.2 (by have := (shL_nil (s := s) (z := z) HL.out).2 (by rw [hse]; decide); omega)
      obtain rfl : SE = 1 := by rw [HSE.out]; exact hse
      have cxx0 := HT_x.out.c0
      have cxx1 := HT_x.out.c1
      have cxy0 := HT_y.out.c0
      have cxy1 := HT_y.out.c1
      have cxh0 := HT_h.out.c0
      have cxh1 := HT_h.out.c1
      clear hse hl1x hl2x hl1y hl2y hl1r hl2r hl1h hl2h hEc hOc hokc
      go_wp2
      go_ret
      exact ⟨rfl, HBW.out⟩
    · have hokc : tenOk s m = true := by rw [← HOK.out]; exact hok
      have hOc : oneE s m = 0 := by rw [oneE, if_pos hokc]
      have cxv0 := HT_v.out.c0
      have cxv1 := HT_v.out.c1
      go_wp2_with fail
      refine Calls.mono (tcheck_any A' B' n' c' m' d' s' _ HT_v.out.S (by omega)) ?_
      rw [← HOK'.out]
      rintro e u12 ⟨rfl, hb⟩
      replace HT_t := hide (HT_t.out.kept hb)
      replace HT_v := hide (HT_v.out.kept hb)
      replace HBW := hide (HBW.out.trans (hb.mono HBW.out.size))
      clear cxv0 cxv1 hb
      cases hok' : OK'
      · have hokc' : tenOk s' m' = false := by rw [← HOK'.out]; exact hok'
        have hEc : twoE s m s' m' = 1 := by rw [refuse_want, if_pos hokc, if_neg (by rw [hokc']; decide)]
        have cxt0 := HT_t.out.c0
        have cxt1 := HT_t.out.c1
        have cxv0 := HT_v.out.c0
        have cxv1 := HT_v.out.c1
        go_wp2_with fail
        refine Calls.mono (add_own A B A' B' n c m d n' c' m' d' s l s' l' _ HT_t.out.S HT_t.out.L HT_v.out.S HT_v.out.L (by omega) (by omega)) ?_
        rw [hEc]
        rintro e u13 ⟨A1x, k1x, c1x, A2x, k2x, c2x, rfl, ho1, ho2, hk1x, hk2x, hb0⟩
        obtain ⟨V14, hV14⟩ : ∃ W, W = u13.alloc (.cells #[.slice A1x k1x c1x, .slice A2x k2x c2x] 25) := ⟨_, rfl⟩
        have HT_x : Hid (TenAt V14 u13.heap.size A1x A2x k1x c1x k2x c2x (twoS s m s' m') (twoL add32 s m s' m' l l')) := hide (by rw [hV14]; exact ⟨BoxT.new _ _ _, (lies_of_own ho1).alloc _, (lies_of_own ho2).alloc _⟩)
        have hl1x : (twoS s m s' m').length = k1x := by have := ho1.1; simpa using this
        have hl2x : (twoL add32 s m s' m' l l').length = k2x := by have := ho2.1; simpa using this
        have hb : Below u12.heap.size u12 V14 := by rw [hV14]; exact below_al6 hb0
        replace HT_t := hide (HT_t.out.kept hb)
        replace HT_v := hide (HT_v.out.kept hb)
        replace HBW := hide (HBW.out.trans (hb.mono HBW.out.size))
        have hV14' := hV14.symm
        clear cxt0 cxt1 cxv0 cxv1 hV14 hb hb0 ho1 ho2
        have cxt0 := HT_t.out.c0
        have cxt1 := HT_t.out.c1
        have cxv0 := HT_v.out.c0
        have cxv1 := HT_v.out.c1
        go_wp2_with fail
        refine Calls.mono (mul_own A B A' B' n c m d n' c' m' d' s l s' l' _ HT_t.out.S HT_t.out.L HT_v.out.S HT_v.out.L (by omega) (by omega)) ?_
        rw [hEc]
        rintro e u15 ⟨A1y, k1y, c1y, A2y, k2y, c2y, rfl, ho1, ho2, hk1y, hk2y, hb0⟩
        obtain ⟨V16, hV16⟩ : ∃ W, W = u15.alloc (.cells #[.slice A1y k1y c1y, .slice A2y k2y c2y] 25) := ⟨_, rfl⟩
        have HT_y : Hid (TenAt V16 u15.heap.size A1y A2y k1y c1y k2y c2y (twoS s m s' m') (twoL mul32 s m s' m' l l')) := hide (by rw [hV16]; exact ⟨BoxT.new _ _ _, (lies_of_own ho1).alloc _, (lies_of_own ho2).alloc _⟩)
        have hl1y : (twoS s m s' m').length = k1y := by have := ho1.1; simpa using this
        have hl2y : (twoL mul32 s m s' m' l l').length = k2y := by have := ho2.1; simpa using this
        have hb : Below V14.heap.size V14 V16 := by rw [hV16]; exact below_al6 hb0
        replace HT_t := hide (HT_t.out.kept hb)
        replace HT_v := hide (HT_v.out.kept hb)
        replace HT_x := hide (HT_x.out.kept hb)
        replace HBW := hide (HBW.out.trans (hb.mono HBW.out.size))
        have hV16' := hV16.symm
        clear cxt0 cxt1 cxv0 cxv1 hV16 hb hb0 ho1 ho2
        have cxt0 := HT_t.out.c0
        have cxt1 := HT_t.out.c1
        go_wp2_with fail
        refine Calls.mono (relu_own A B n c m d s l _ HT_t.out.S HT_t.out.L (by omega)) ?_
        rw [hOc]
        rintro e u17 ⟨A1r, k1r, c1r, A2r, k2r, c2r, rfl, ho1, ho2, hk1r, hk2r, hb0⟩
        obtain ⟨V18, hV18⟩ : ∃ W, W = u17.alloc (.cells #[.slice A1r k1r c1r, .slice A2r k2r c2r] 25) := ⟨_, rfl⟩
        have HT_r : Hid (TenAt V18 u17.heap.size A1r A2r k1r c1r k2r c2r (oneS s m) (oneL relu32 s m l)) := hide (by rw [hV18]; exact ⟨BoxT.new _ _ _, (lies_of_own ho1).alloc _, (lies_of_own ho2).alloc _⟩)
        have hl1r : (oneS s m).length = k1r := by have := ho1.1; simpa using this
        have hl2r : (oneL relu32 s m l).length = k2r := by have := ho2.1; simpa using this
        have hb : Below V16.heap.size V16 V18 := by rw [hV18]; exact below_al6 hb0
        replace HT_t := hide (HT_t.out.kept hb)
        replace HT_v := hide (HT_v.out.kept hb)
        replace HT_x := hide (HT_x.out.kept hb)
        replace HT_y := hide (HT_y.out.kept hb)
        replace HBW := hide (HBW.out.trans (hb.mono HBW.out.size))
        have hV18' := hV18.symm
        clear cxt0 cxt1 hV18 hb hb0 ho1 ho2
        have cxt0 := HT_t.out.c0
        have cxt1 := HT_t.out.c1
        go_wp2_with fail
        refine Calls.mono (shift_own A B n c m d s l _ HT_t.out.S HT_t.out.L (by omega) z HWL.out) ?_
        rw [← HSE.out]
        rintro e u19 ⟨A1h, k1h, c1h, A2h, k2h, c2h, rfl, ho1, ho2, hk1h, hk2h, hb0⟩
        obtain ⟨V20, hV20⟩ : ∃ W, W = u19.alloc (.cells #[.slice A1h k1h c1h, .slice A2h k2h c2h] 25) := ⟨_, rfl⟩
        have HT_h : Hid (TenAt V20 u19.heap.size A1h A2h k1h c1h k2h c2h (shS s m z) (shL s m z l)) := hide (by rw [hV20]; exact ⟨BoxT.new _ _ _, (lies_of_own ho1).alloc _, (lies_of_own ho2).alloc _⟩)
        have hl1h : (shS s m z).length = k1h := by have := ho1.1; simpa using this
        have hl2h : (shL s m z l).length = k2h := by have := ho2.1; simpa using this
        have hb : Below V18.heap.size V18 V20 := by rw [hV20]; exact below_al6 hb0
        replace HT_t := hide (HT_t.out.kept hb)
        replace HT_v := hide (HT_v.out.kept hb)
        replace HT_x := hide (HT_x.out.kept hb)
        replace HT_y := hide (HT_y.out.kept hb)
        replace HT_r := hide (HT_r.out.kept hb)
        replace HBW := hide (HBW.out.trans (hb.mono HBW.out.size))
        have hV20' := hV20.symm
        clear cxt0 cxt1 hV20 hb hb0 ho1 ho2
        have cxt0 := HT_t.out.c0
        have cxt1 := HT_t.out.c1
        go_wp2_with fail
        refine Calls.mono (tcheck_any A B n c m d s _ HT_t.out.S (by omega)) ?_
        rw [hokc]
        rintro e u21 ⟨rfl, hb⟩
        replace HT_t := hide (HT_t.out.kept hb)
        replace HT_v := hide (HT_v.out.kept hb)
        replace HT_x := hide (HT_x.out.kept hb)
        replace HT_y := hide (HT_y.out.kept hb)
        replace HT_r := hide (HT_r.out.kept hb)
        replace HT_h := hide (HT_h.out.kept hb)
        replace HBW := hide (HBW.out.trans (hb.mono HBW.out.size))
        clear cxt0 cxt1 hb
        have f1 : ((k2x : Int) == 0) = true := beq_iff_eq.2 (by have := (twoL_nil (f := add32) (s := s) (s' := s') HL.out HL'.out).2 (by rw [hEc]; decide); omega)
        have f2 : ((k1y : Int) == 0) = true := beq_iff_eq.2 (by have := (twoS_nil (s := s) (s' := s') (m := m) (m' := m')).2 (by rw [hEc]; decide); omega)
        by_cases z1 : 0 ≤ z
        · by_cases z2 : z ≤ 31
          · have hse : shE s m z = 0 := by rw [shE, if_pos ⟨hokc, z1, z2⟩]
            have f3 : ((k2h : Int) == 0) = false := beq_eq_false_iff_ne.2 (by intro e; exact absurd ((shL_nil (s := s) (z := z) HL.out).1 (by omega)) (by rw [hse]; decide))
            obtain rfl : SE = 0 := by rw [HSE.out]; exact hse
            have cxx0 := HT_x.out.c0
            have cxx1 := HT_x.out.c1
            have cxy0 := HT_y.out.c0
            have cxy1 := HT_y.out.c1
            have cxh0 := HT_h.out.c0
            have cxh1 := HT_h.out.c1
            clear hse hl1x hl2x hl1y hl2y hl1r hl2r hl1h hl2h hEc hOc hokc
            go_wp2
            go_ret
            exact ⟨rfl, HBW.out⟩
          · have hse : shE s m z = 1 := by rw [shE, if_neg (fun h => z2 h.2.2)]
            have z3 : decide (z ≤ 31) = false := decide_eq_false z2
            have f3 : ((k2h : Int) == 0) = true := beq_iff_eq.2 (by have := (shL_nil (s := s) (z := z) HL.out).2 (by rw [hse]; decide); omega)
            obtain rfl : SE = 1 := by rw [HSE.out]; exact hse
            have cxx0 := HT_x.out.c0
            have cxx1 := HT_x.out.c1
            have cxy0 := HT_y.out.c0
            have cxy1 := HT_y.out.c1
            have cxh0 := HT_h.out.c0
            have cxh1 := HT_h.out.c1
            clear hse hl1x hl2x hl1y hl2y hl1r hl2r hl1h hl2h hEc hOc hokc
            go_wp2
            go_ret
            exact ⟨rfl, HBW.out⟩
        · have hse : shE s m z = 1 := by rw [shE, if_neg (fun h => z1 h.2.1)]
          have z3 : decide (0 ≤ z) = false := decide_eq_false z1
          have f3 : ((k2h : Int) == 0) = true := beq_iff_eq.2 (by have := (shL_nil (s := s) (z := z) HL.out).2 (by rw [hse]; decide); omega)
          obtain rfl : SE = 1 := by rw [HSE.out]; exact hse
          have cxx0 := HT_x.out.c0
          have cxx1 := HT_x.out.c1
          have cxy0 := HT_y.out.c0
          have cxy1 := HT_y.out.c1
          have cxh0 := HT_h.out.c0
          have cxh1 := HT_h.out.c1
          clear hse hl1x hl2x hl1y hl2y hl1r hl2r hl1h hl2h hEc hOc hokc
          go_wp2
          go_ret
          exact ⟨rfl, HBW.out⟩
      · have hokc' : tenOk s' m' = true := by rw [← HOK'.out]; exact hok'
        have hEc : twoE s m s' m' = 10 := by rw [refuse_want, if_pos hokc, if_pos hokc', if_neg (of_decide_eq_false hsm2)]
        have cxt0 := HT_t.out.c0
        have cxt1 := HT_t.out.c1
        have cxv0 := HT_v.out.c0
        have cxv1 := HT_v.out.c1
        go_wp2_with fail
        refine Calls.mono (add_own A B A' B' n c m d n' c' m' d' s l s' l' _ HT_t.out.S HT_t.out.L HT_v.out.S HT_v.out.L (by omega) (by omega)) ?_
        rw [hEc]
        rintro e u22 ⟨A1x, k1x, c1x, A2x, k2x, c2x, rfl, ho1, ho2, hk1x, hk2x, hb0⟩
        obtain ⟨V23, hV23⟩ : ∃ W, W = u22.alloc (.cells #[.slice A1x k1x c1x, .slice A2x k2x c2x] 25) := ⟨_, rfl⟩
        have HT_x : Hid (TenAt V23 u22.heap.size A1x A2x k1x c1x k2x c2x (twoS s m s' m') (twoL add32 s m s' m' l l')) := hide (by rw [hV23]; exact ⟨BoxT.new _ _ _, (lies_of_own ho1).alloc _, (lies_of_own ho2).alloc _⟩)
        have hl1x : (twoS s m s' m').length = k1x := by have := ho1.1; simpa using this
        have hl2x : (twoL add32 s m s' m' l l').length = k2x := by have := ho2.1; simpa using this
        have hb : Below u12.heap.size u12 V23 := by rw [hV23]; exact below_al6 hb0
        replace HT_t := hide (HT_t.out.kept hb)
        replace HT_v := hide (HT_v.out.kept hb)
        replace HBW := hide (HBW.out.trans (hb.mono HBW.out.size))
        have hV23' := hV23.symm
        clear cxt0 cxt1 cxv0 cxv1 hV23 hb hb0 ho1 ho2
        have cxt0 := HT_t.out.c0
        have cxt1 := HT_t.out.c1
        have cxv0 := HT_v.out.c0
        have cxv1 := HT_v.out.c1
        go_wp2_with fail
        refine Calls.mono (mul_own A B A' B' n c m d n' c' m' d' s l s' l' _ HT_t.out.S HT_t.out.L HT_v.out.S HT_v.out.L (by omega) (by omega)) ?_
        rw [hEc]
        rintro e u24 ⟨A1y, k1y, c1y, A2y, k2y, c2y, rfl, ho1, ho2, hk1y, hk2y, hb0⟩
        obtain ⟨V25, hV25⟩ : ∃ W, W = u24.alloc (.cells #[.slice A1y k1y c1y, .slice A2y k2y c2y] 25) := ⟨_, rfl⟩
        have HT_y : Hid (TenAt V25 u24.heap.size A1y A2y k1y c1y k2y c2y (twoS s m s' m') (twoL mul32 s m s' m' l l')) := hide (by rw [hV25]; exact ⟨BoxT.new _ _ _, (lies_of_own ho1).alloc _, (lies_of_own ho2).alloc _⟩)
        have hl1y : (twoS s m s' m').length = k1y := by have := ho1.1; simpa using this
        have hl2y : (twoL mul32 s m s' m' l l').length = k2y := by have := ho2.1; simpa using this
        have hb : Below V23.heap.size V23 V25 := by rw [hV25]; exact below_al6 hb0
        replace HT_t := hide (HT_t.out.kept hb)
        replace HT_v := hide (HT_v.out.kept hb)
        replace HT_x := hide (HT_x.out.kept hb)
        replace HBW := hide (HBW.out.trans (hb.mono HBW.out.size))
        have hV25' := hV25.symm
        clear cxt0 cxt1 cxv0 cxv1 hV25 hb hb0 ho1 ho2
        have cxt0 := HT_t.out.c0
        have cxt1 := HT_t.out.c1
        go_wp2_with fail
        refine Calls.mono (relu_own A B n c m d s l _ HT_t.out.S HT_t.out.L (by omega)) ?_
        rw [hOc]
        rintro e u26 ⟨A1r, k1r, c1r, A2r, k2r, c2r, rfl, ho1, ho2, hk1r, hk2r, hb0⟩
        obtain ⟨V27, hV27⟩ : ∃ W, W = u26.alloc (.cells #[.slice A1r k1r c1r, .slice A2r k2r c2r] 25) := ⟨_, rfl⟩
        have HT_r : Hid (TenAt V27 u26.heap.size A1r A2r k1r c1r k2r c2r (oneS s m) (oneL relu32 s m l)) := hide (by rw [hV27]; exact ⟨BoxT.new _ _ _, (lies_of_own ho1).alloc _, (lies_of_own ho2).alloc _⟩)
        have hl1r : (oneS s m).length = k1r := by have := ho1.1; simpa using this
        have hl2r : (oneL relu32 s m l).length = k2r := by have := ho2.1; simpa using this
        have hb : Below V25.heap.size V25 V27 := by rw [hV27]; exact below_al6 hb0
        replace HT_t := hide (HT_t.out.kept hb)
        replace HT_v := hide (HT_v.out.kept hb)
        replace HT_x := hide (HT_x.out.kept hb)
        replace HT_y := hide (HT_y.out.kept hb)
        replace HBW := hide (HBW.out.trans (hb.mono HBW.out.size))
        have hV27' := hV27.symm
        clear cxt0 cxt1 hV27 hb hb0 ho1 ho2
        have cxt0 := HT_t.out.c0
        have cxt1 := HT_t.out.c1
        go_wp2_with fail
        refine Calls.mono (shift_own A B n c m d s l _ HT_t.out.S HT_t.out.L (by omega) z HWL.out) ?_
        rw [← HSE.out]
        rintro e u28 ⟨A1h, k1h, c1h, A2h, k2h, c2h, rfl, ho1, ho2, hk1h, hk2h, hb0⟩
        obtain ⟨V29, hV29⟩ : ∃ W, W = u28.alloc (.cells #[.slice A1h k1h c1h, .slice A2h k2h c2h] 25) := ⟨_, rfl⟩
        have HT_h : Hid (TenAt V29 u28.heap.size A1h A2h k1h c1h k2h c2h (shS s m z) (shL s m z l)) := hide (by rw [hV29]; exact ⟨BoxT.new _ _ _, (lies_of_own ho1).alloc _, (lies_of_own ho2).alloc _⟩)
        have hl1h : (shS s m z).length = k1h := by have := ho1.1; simpa using this
        have hl2h : (shL s m z l).length = k2h := by have := ho2.1; simpa using this
        have hb : Below V27.heap.size V27 V29 := by rw [hV29]; exact below_al6 hb0
        replace HT_t := hide (HT_t.out.kept hb)
        replace HT_v := hide (HT_v.out.kept hb)
        replace HT_x := hide (HT_x.out.kept hb)
        replace HT_y := hide (HT_y.out.kept hb)
        replace HT_r := hide (HT_r.out.kept hb)
        replace HBW := hide (HBW.out.trans (hb.mono HBW.out.size))
        have hV29' := hV29.symm
        clear cxt0 cxt1 hV29 hb hb0 ho1 ho2
        have cxt0 := HT_t.out.c0
        have cxt1 := HT_t.out.c1
        go_wp2_with fail
        refine Calls.mono (tcheck_any A B n c m d s _ HT_t.out.S (by omega)) ?_
        rw [hokc]
        rintro e u30 ⟨rfl, hb⟩
        replace HT_t := hide (HT_t.out.kept hb)
        replace HT_v := hide (HT_v.out.kept hb)
        replace HT_x := hide (HT_x.out.kept hb)
        replace HT_y := hide (HT_y.out.kept hb)
        replace HT_r := hide (HT_r.out.kept hb)
        replace HT_h := hide (HT_h.out.kept hb)
        replace HBW := hide (HBW.out.trans (hb.mono HBW.out.size))
        clear cxt0 cxt1 hb
        have f1 : ((k2x : Int) == 0) = true := beq_iff_eq.2 (by have := (twoL_nil (f := add32) (s := s) (s' := s') HL.out HL'.out).2 (by rw [hEc]; decide); omega)
        have f2 : ((k1y : Int) == 0) = true := beq_iff_eq.2 (by have := (twoS_nil (s := s) (s' := s') (m := m) (m' := m')).2 (by rw [hEc]; decide); omega)
        by_cases z1 : 0 ≤ z
        · by_cases z2 : z ≤ 31
          · have hse : shE s m z = 0 := by rw [shE, if_pos ⟨hokc, z1, z2⟩]
            have f3 : ((k2h : Int) == 0) = false := beq_eq_false_iff_ne.2 (by intro e; exact absurd ((shL_nil (s := s) (z := z) HL.out).1 (by omega)) (by rw [hse]; decide))
            obtain rfl : SE = 0 := by rw [HSE.out]; exact hse
            have cxx0 := HT_x.out.c0
            have cxx1 := HT_x.out.c1
            have cxy0 := HT_y.out.c0
            have cxy1 := HT_y.out.c1
            have cxh0 := HT_h.out.c0
            have cxh1 := HT_h.out.c1
            clear hse hl1x hl2x hl1y hl2y hl1r hl2r hl1h hl2h hEc hOc hokc
            go_wp2
            go_ret
            exact ⟨rfl, HBW.out⟩
          · have hse : shE s m z = 1 := by rw [shE, if_neg (fun h => z2 h.2.2)]
            have z3 : decide (z ≤ 31) = false := decide_eq_false z2
            have f3 : ((k2h : Int) == 0) = true := beq_iff_eq.2 (by have := (shL_nil (s := s) (z := z) HL.out).2 (by rw [hse]; decide); omega)
            obtain rfl : SE = 1 := by rw [HSE.out]; exact hse
            have cxx0 := HT_x.out.c0
            have cxx1 := HT_x.out.c1
            have cxy0 := HT_y.out.c0
            have cxy1 := HT_y.out.c1
            have cxh0 := HT_h.out.c0
            have cxh1 := HT_h.out.c1
            clear hse hl1x hl2x hl1y hl2y hl1r hl2r hl1h hl2h hEc hOc hokc
            go_wp2
            go_ret
            exact ⟨rfl, HBW.out⟩
        · have hse : shE s m z = 1 := by rw [shE, if_neg (fun h => z1 h.2.1)]
          have z3 : decide (0 ≤ z) = false := decide_eq_false z1
          have f3 : ((k2h : Int) == 0) = true := beq_iff_eq.2 (by have := (shL_nil (s := s) (z := z) HL.out).2 (by rw [hse]; decide); omega)
          obtain rfl : SE = 1 := by rw [HSE.out]; exact hse
          have cxx0 := HT_x.out.c0
          have cxx1 := HT_x.out.c1
          have cxy0 := HT_y.out.c0
          have cxy1 := HT_y.out.c1
          have cxh0 := HT_h.out.c0
          have cxh1 := HT_h.out.c1
          clear hse hl1x hl2x hl1y hl2y hl1r hl2r hl1h hl2h hEc hOc hokc
          go_wp2
          go_ret
          exact ⟨rfl, HBW.out⟩
  · have cxt0 := HT_t.out.c0
    have cxt1 := HT_t.out.c1
    have cxv0 := HT_v.out.c0
    have cxv1 := HT_v.out.c1
    have hsm2 : decide (s = s') = true := by rw [← HSM.out]; exact hsm
    go_wp2_with fail
    refine Calls.mono (tcheck_any A B n c m d s _ HT_t.out.S (by omega)) ?_
    rw [← HOK.out]
    rintro e u31 ⟨rfl, hb⟩
    replace HT_t := hide (HT_t.out.kept hb)
    replace HT_v := hide (HT_v.out.kept hb)
    replace HBW := hide (HBW.out.trans (hb.mono HBW.out.size))
    clear cxt0 cxt1 cxv0 cxv1 hb
    cases hok : OK
    · have hokc : tenOk s m = false := by rw [← HOK.out]; exact hok
      have hEc : twoE s m s' m' = 1 := by rw [refuse_want, if_neg (by rw [hokc]; decide)]
      have hOc : oneE s m = 1 := by rw [oneE, if_neg (by rw [hokc]; decide)]
      have cxt0 := HT_t.out.c0
      have cxt1 := HT_t.out.c1
      have cxv0 := HT_v.out.c0
      have cxv1 := HT_v.out.c1
      go_wp2_with fail
      refine Calls.mono (add_own A B A' B' n c m d n' c' m' d' s l s' l' _ HT_t.out.S HT_t.out.L HT_v.out.S HT_v.out.L (by omega) (by omega)) ?_
      rw [hEc]
      rintro e u32 ⟨A1x, k1x, c1x, A2x, k2x, c2x, rfl, ho1, ho2, hk1x, hk2x, hb0⟩
      obtain ⟨V33, hV33⟩ : ∃ W, W = u32.alloc (.cells #[.slice A1x k1x c1x, .slice A2x k2x c2x] 25) := ⟨_, rfl⟩
      have HT_x : Hid (TenAt V33 u32.heap.size A1x A2x k1x c1x k2x c2x (twoS s m s' m') (twoL add32 s m s' m' l l')) := hide (by rw [hV33]; exact ⟨BoxT.new _ _ _, (lies_of_own ho1).alloc _, (lies_of_own ho2).alloc _⟩)
      have hl1x : (twoS s m s' m').length = k1x := by have := ho1.1; simpa using this
      have hl2x : (twoL add32 s m s' m' l l').length = k2x := by have := ho2.1; simpa using this
      have hb : Below u31.heap.size u31 V33 := by rw [hV33]; exact below_al6 hb0
      replace HT_t := hide (HT_t.out.kept hb)
      replace HT_v := hide (HT_v.out.kept hb)
      replace HBW := hide (HBW.out.trans (hb.mono HBW.out.size))
      have hV33' := hV33.symm
      clear cxt0 cxt1 cxv0 cxv1 hV33 hb hb0 ho1 ho2
      have cxt0 := HT_t.out.c0
      have cxt1 := HT_t.out.c1
      have cxv0 := HT_v.out.c0
      have cxv1 := HT_v.out.c1
      go_wp2_with fail
      refine Calls.mono (mul_own A B A' B' n c m d n' c' m' d' s l s' l' _ HT_t.out.S HT_t.out.L HT_v.out.S HT_v.out.L (by omega) (by omega)) ?_
      rw [hEc]
      rintro e u34 ⟨A1y, k1y, c1y, A2y, k2y, c2y, rfl, ho1, ho2, hk1y, hk2y, hb0⟩
      obtain ⟨V35, hV35⟩ : ∃ W, W = u34.alloc (.cells #[.slice A1y k1y c1y, .slice A2y k2y c2y] 25) := ⟨_, rfl⟩
      have HT_y : Hid (TenAt V35 u34.heap.size A1y A2y k1y c1y k2y c2y (twoS s m s' m') (twoL mul32 s m s' m' l l')) := hide (by rw [hV35]; exact ⟨BoxT.new _ _ _, (lies_of_own ho1).alloc _, (lies_of_own ho2).alloc _⟩)
      have hl1y : (twoS s m s' m').length = k1y := by have := ho1.1; simpa using this
      have hl2y : (twoL mul32 s m s' m' l l').length = k2y := by have := ho2.1; simpa using this
      have hb : Below V33.heap.size V33 V35 := by rw [hV35]; exact below_al6 hb0
      replace HT_t := hide (HT_t.out.kept hb)
      replace HT_v := hide (HT_v.out.kept hb)
      replace HT_x := hide (HT_x.out.kept hb)
      replace HBW := hide (HBW.out.trans (hb.mono HBW.out.size))
      have hV35' := hV35.symm
      clear cxt0 cxt1 cxv0 cxv1 hV35 hb hb0 ho1 ho2
      have cxt0 := HT_t.out.c0
      have cxt1 := HT_t.out.c1
      go_wp2_with fail
      refine Calls.mono (relu_own A B n c m d s l _ HT_t.out.S HT_t.out.L (by omega)) ?_
      rw [hOc]
      rintro e u36 ⟨A1r, k1r, c1r, A2r, k2r, c2r, rfl, ho1, ho2, hk1r, hk2r, hb0⟩
      obtain ⟨V37, hV37⟩ : ∃ W, W = u36.alloc (.cells #[.slice A1r k1r c1r, .slice A2r k2r c2r] 25) := ⟨_, rfl⟩
      have HT_r : Hid (TenAt V37 u36.heap.size A1r A2r k1r c1r k2r c2r (oneS s m) (oneL relu32 s m l)) := hide (by rw [hV37]; exact ⟨BoxT.new _ _ _, (lies_of_own ho1).alloc _, (lies_of_own ho2).alloc _⟩)
      have hl1r : (oneS s m).length = k1r := by have := ho1.1; simpa using this
      have hl2r : (oneL relu32 s m l).length = k2r := by have := ho2.1; simpa using this
      have hb : Below V35.heap.size V35 V37 := by rw [hV37]; exact below_al6 hb0
      replace HT_t := hide (HT_t.out.kept hb)
      replace HT_v := hide (HT_v.out.kept hb)
      replace HT_x := hide (HT_x.out.kept hb)
      replace HT_y := hide (HT_y.out.kept hb)
      replace HBW := hide (HBW.out.trans (hb.mono HBW.out.size))
      have hV37' := hV37.symm
      clear cxt0 cxt1 hV37 hb hb0 ho1 ho2
      have cxt0 := HT_t.out.c0
      have cxt1 := HT_t.out.c1
      go_wp2_with fail
      refine Calls.mono (shift_own A B n c m d s l _ HT_t.out.S HT_t.out.L (by omega) z HWL.out) ?_
      rw [← HSE.out]
      rintro e u38 ⟨A1h, k1h, c1h, A2h, k2h, c2h, rfl, ho1, ho2, hk1h, hk2h, hb0⟩
      obtain ⟨V39, hV39⟩ : ∃ W, W = u38.alloc (.cells #[.slice A1h k1h c1h, .slice A2h k2h c2h] 25) := ⟨_, rfl⟩
      have HT_h : Hid (TenAt V39 u38.heap.size A1h A2h k1h c1h k2h c2h (shS s m z) (shL s m z l)) := hide (by rw [hV39]; exact ⟨BoxT.new _ _ _, (lies_of_own ho1).alloc _, (lies_of_own ho2).alloc _⟩)
      have hl1h : (shS s m z).length = k1h := by have := ho1.1; simpa using this
      have hl2h : (shL s m z l).length = k2h := by have := ho2.1; simpa using this
      have hb : Below V37.heap.size V37 V39 := by rw [hV39]; exact below_al6 hb0
      replace HT_t := hide (HT_t.out.kept hb)
      replace HT_v := hide (HT_v.out.kept hb)
      replace HT_x := hide (HT_x.out.kept hb)
      replace HT_y := hide (HT_y.out.kept hb)
      replace HT_r := hide (HT_r.out.kept hb)
      replace HBW := hide (HBW.out.trans (hb.mono HBW.out.size))
      have hV39' := hV39.symm
      clear cxt0 cxt1 hV39 hb hb0 ho1 ho2
      have cxt0 := HT_t.out.c0
      have cxt1 := HT_t.out.c1
      go_wp2_with fail
      refine Calls.mono (tcheck_any A B n c m d s _ HT_t.out.S (by omega)) ?_
      rw [hokc]
      rintro e u40 ⟨rfl, hb⟩
      replace HT_t := hide (HT_t.out.kept hb)
      replace HT_v := hide (HT_v.out.kept hb)
      replace HT_x := hide (HT_x.out.kept hb)
      replace HT_y := hide (HT_y.out.kept hb)
      replace HT_r := hide (HT_r.out.kept hb)
      replace HT_h := hide (HT_h.out.kept hb)
      replace HBW := hide (HBW.out.trans (hb.mono HBW.out.size))
      clear cxt0 cxt1 hb
      have f1 : ((k2x : Int) == 0) = true := beq_iff_eq.2 (by have := (twoL_nil (f := add32) (s := s) (s' := s') HL.out HL'.out).2 (by rw [hEc]; decide); omega)
      have f2 : ((k1y : Int) == 0) = true := beq_iff_eq.2 (by have := (twoS_nil (s := s) (s' := s') (m := m) (m' := m')).2 (by rw [hEc]; decide); omega)
      have hse : shE s m z = 1 := by rw [shE, if_neg (fun h => by rw [hokc] at h; exact absurd h.1 (by decide))]
      have f3 : ((k2h : Int) == 0) = true := beq_iff_eq.2 (by have := (shL_nil (s := s) (z := z) HL.out).2 (by rw [hse]; decide); omega)
      obtain rfl : SE = 1 := by rw [HSE.out]; exact hse
      have cxx0 := HT_x.out.c0
      have cxx1 := HT_x.out.c1
      have cxy0 := HT_y.out.c0
      have cxy1 := HT_y.out.c1
      have cxh0 := HT_h.out.c0
      have cxh1 := HT_h.out.c1
      clear hse hl1x hl2x hl1y hl2y hl1r hl2r hl1h hl2h hEc hOc hokc
      go_wp2
      go_ret
      exact ⟨rfl, HBW.out⟩
    · have hokc : tenOk s m = true := by rw [← HOK.out]; exact hok
      have hOc : oneE s m = 0 := by rw [oneE, if_pos hokc]
      have cxv0 := HT_v.out.c0
      have cxv1 := HT_v.out.c1
      go_wp2_with fail
      refine Calls.mono (tcheck_any A' B' n' c' m' d' s' _ HT_v.out.S (by omega)) ?_
      rw [← HOK'.out]
      rintro e u41 ⟨rfl, hb⟩
      replace HT_t := hide (HT_t.out.kept hb)
      replace HT_v := hide (HT_v.out.kept hb)
      replace HBW := hide (HBW.out.trans (hb.mono HBW.out.size))
      clear cxv0 cxv1 hb
      cases hok' : OK'
      · have hokc' : tenOk s' m' = false := by rw [← HOK'.out]; exact hok'
        have hEc : twoE s m s' m' = 1 := by rw [refuse_want, if_pos hokc, if_neg (by rw [hokc']; decide)]
        have cxt0 := HT_t.out.c0
        have cxt1 := HT_t.out.c1
        have cxv0 := HT_v.out.c0
        have cxv1 := HT_v.out.c1
        go_wp2_with fail
        refine Calls.mono (add_own A B A' B' n c m d n' c' m' d' s l s' l' _ HT_t.out.S HT_t.out.L HT_v.out.S HT_v.out.L (by omega) (by omega)) ?_
        rw [hEc]
        rintro e u42 ⟨A1x, k1x, c1x, A2x, k2x, c2x, rfl, ho1, ho2, hk1x, hk2x, hb0⟩
        obtain ⟨V43, hV43⟩ : ∃ W, W = u42.alloc (.cells #[.slice A1x k1x c1x, .slice A2x k2x c2x] 25) := ⟨_, rfl⟩
        have HT_x : Hid (TenAt V43 u42.heap.size A1x A2x k1x c1x k2x c2x (twoS s m s' m') (twoL add32 s m s' m' l l')) := hide (by rw [hV43]; exact ⟨BoxT.new _ _ _, (lies_of_own ho1).alloc _, (lies_of_own ho2).alloc _⟩)
        have hl1x : (twoS s m s' m').length = k1x := by have := ho1.1; simpa using this
        have hl2x : (twoL add32 s m s' m' l l').length = k2x := by have := ho2.1; simpa using this
        have hb : Below u41.heap.size u41 V43 := by rw [hV43]; exact below_al6 hb0
        replace HT_t := hide (HT_t.out.kept hb)
        replace HT_v := hide (HT_v.out.kept hb)
        replace HBW := hide (HBW.out.trans (hb.mono HBW.out.size))
        have hV43' := hV43.symm
        clear cxt0 cxt1 cxv0 cxv1 hV43 hb hb0 ho1 ho2
        have cxt0 := HT_t.out.c0
        have cxt1 := HT_t.out.c1
        have cxv0 := HT_v.out.c0
        have cxv1 := HT_v.out.c1
        go_wp2_with fail
        refine Calls.mono (mul_own A B A' B' n c m d n' c' m' d' s l s' l' _ HT_t.out.S HT_t.out.L HT_v.out.S HT_v.out.L (by omega) (by omega)) ?_
        rw [hEc]
        rintro e u44 ⟨A1y, k1y, c1y, A2y, k2y, c2y, rfl, ho1, ho2, hk1y, hk2y, hb0⟩
        obtain ⟨V45, hV45⟩ : ∃ W, W = u44.alloc (.cells #[.slice A1y k1y c1y, .slice A2y k2y c2y] 25) := ⟨_, rfl⟩
        have HT_y : Hid (TenAt V45 u44.heap.size A1y A2y k1y c1y k2y c2y (twoS s m s' m') (twoL mul32 s m s' m' l l')) := hide (by rw [hV45]; exact ⟨BoxT.new _ _ _, (lies_of_own ho1).alloc _, (lies_of_own ho2).alloc _⟩)
        have hl1y : (twoS s m s' m').length = k1y := by have := ho1.1; simpa using this
        have hl2y : (twoL mul32 s m s' m' l l').length = k2y := by have := ho2.1; simpa using this
        have hb : Below V43.heap.size V43 V45 := by rw [hV45]; exact below_al6 hb0
        replace HT_t := hide (HT_t.out.kept hb)
        replace HT_v := hide (HT_v.out.kept hb)
        replace HT_x := hide (HT_x.out.kept hb)
        replace HBW := hide (HBW.out.trans (hb.mono HBW.out.size))
        have hV45' := hV45.symm
        clear cxt0 cxt1 cxv0 cxv1 hV45 hb hb0 ho1 ho2
        have cxt0 := HT_t.out.c0
        have cxt1 := HT_t.out.c1
        go_wp2_with fail
        refine Calls.mono (relu_own A B n c m d s l _ HT_t.out.S HT_t.out.L (by omega)) ?_
        rw [hOc]
        rintro e u46 ⟨A1r, k1r, c1r, A2r, k2r, c2r, rfl, ho1, ho2, hk1r, hk2r, hb0⟩
        obtain ⟨V47, hV47⟩ : ∃ W, W = u46.alloc (.cells #[.slice A1r k1r c1r, .slice A2r k2r c2r] 25) := ⟨_, rfl⟩
        have HT_r : Hid (TenAt V47 u46.heap.size A1r A2r k1r c1r k2r c2r (oneS s m) (oneL relu32 s m l)) := hide (by rw [hV47]; exact ⟨BoxT.new _ _ _, (lies_of_own ho1).alloc _, (lies_of_own ho2).alloc _⟩)
        have hl1r : (oneS s m).length = k1r := by have := ho1.1; simpa using this
        have hl2r : (oneL relu32 s m l).length = k2r := by have := ho2.1; simpa using this
        have hb : Below V45.heap.size V45 V47 := by rw [hV47]; exact below_al6 hb0
        replace HT_t := hide (HT_t.out.kept hb)
        replace HT_v := hide (HT_v.out.kept hb)
        replace HT_x := hide (HT_x.out.kept hb)
        replace HT_y := hide (HT_y.out.kept hb)
        replace HBW := hide (HBW.out.trans (hb.mono HBW.out.size))
        have hV47' := hV47.symm
        clear cxt0 cxt1 hV47 hb hb0 ho1 ho2
        have cxt0 := HT_t.out.c0
        have cxt1 := HT_t.out.c1
        go_wp2_with fail
        refine Calls.mono (shift_own A B n c m d s l _ HT_t.out.S HT_t.out.L (by omega) z HWL.out) ?_
        rw [← HSE.out]
        rintro e u48 ⟨A1h, k1h, c1h, A2h, k2h, c2h, rfl, ho1, ho2, hk1h, hk2h, hb0⟩
        obtain ⟨V49, hV49⟩ : ∃ W, W = u48.alloc (.cells #[.slice A1h k1h c1h, .slice A2h k2h c2h] 25) := ⟨_, rfl⟩
        have HT_h : Hid (TenAt V49 u48.heap.size A1h A2h k1h c1h k2h c2h (shS s m z) (shL s m z l)) := hide (by rw [hV49]; exact ⟨BoxT.new _ _ _, (lies_of_own ho1).alloc _, (lies_of_own ho2).alloc _⟩)
        have hl1h : (shS s m z).length = k1h := by have := ho1.1; simpa using this
        have hl2h : (shL s m z l).length = k2h := by have := ho2.1; simpa using this
        have hb : Below V47.heap.size V47 V49 := by rw [hV49]; exact below_al6 hb0
        replace HT_t := hide (HT_t.out.kept hb)
        replace HT_v := hide (HT_v.out.kept hb)
        replace HT_x := hide (HT_x.out.kept hb)
        replace HT_y := hide (HT_y.out.kept hb)
        replace HT_r := hide (HT_r.out.kept hb)
        replace HBW := hide (HBW.out.trans (hb.mono HBW.out.size))
        have hV49' := hV49.symm
        clear cxt0 cxt1 hV49 hb hb0 ho1 ho2
        have cxt0 := HT_t.out.c0
        have cxt1 := HT_t.out.c1
        go_wp2_with fail
        refine Calls.mono (tcheck_any A B n c m d s _ HT_t.out.S (by omega)) ?_
        rw [hokc]
        rintro e u50 ⟨rfl, hb⟩
        replace HT_t := hide (HT_t.out.kept hb)
        replace HT_v := hide (HT_v.out.kept hb)
        replace HT_x := hide (HT_x.out.kept hb)
        replace HT_y := hide (HT_y.out.kept hb)
        replace HT_r := hide (HT_r.out.kept hb)
        replace HT_h := hide (HT_h.out.kept hb)
        replace HBW := hide (HBW.out.trans (hb.mono HBW.out.size))
        clear cxt0 cxt1 hb
        have f1 : ((k2x : Int) == 0) = true := beq_iff_eq.2 (by have := (twoL_nil (f := add32) (s := s) (s' := s') HL.out HL'.out).2 (by rw [hEc]; decide); omega)
        have f2 : ((k1y : Int) == 0) = true := beq_iff_eq.2 (by have := (twoS_nil (s := s) (s' := s') (m := m) (m' := m')).2 (by rw [hEc]; decide); omega)
        by_cases z1 : 0 ≤ z
        · by_cases z2 : z ≤ 31
          · have hse : shE s m z = 0 := by rw [shE, if_pos ⟨hokc, z1, z2⟩]
            have f3 : ((k2h : Int) == 0) = false := beq_eq_false_iff_ne.2 (by intro e; exact absurd ((shL_nil (s := s) (z := z) HL.out).1 (by omega)) (by rw [hse]; decide))
            obtain rfl : SE = 0 := by rw [HSE.out]; exact hse
            have cxx0 := HT_x.out.c0
            have cxx1 := HT_x.out.c1
            have cxy0 := HT_y.out.c0
            have cxy1 := HT_y.out.c1
            have cxh0 := HT_h.out.c0
            have cxh1 := HT_h.out.c1
            clear hse hl1x hl2x hl1y hl2y hl1r hl2r hl1h hl2h hEc hOc hokc
            go_wp2
            go_ret
            exact ⟨rfl, HBW.out⟩
          · have hse : shE s m z = 1 := by rw [shE, if_neg (fun h => z2 h.2.2)]
            have z3 : decide (z ≤ 31) = false := decide_eq_false z2
            have f3 : ((k2h : Int) == 0) = true := beq_iff_eq.2 (by have := (shL_nil (s := s) (z := z) HL.out).2 (by rw [hse]; decide); omega)
            obtain rfl : SE = 1 := by rw [HSE.out]; exact hse
            have cxx0 := HT_x.out.c0
            have cxx1 := HT_x.out.c1
            have cxy0 := HT_y.out.c0
            have cxy1 := HT_y.out.c1
            have cxh0 := HT_h.out.c0
            have cxh1 := HT_h.out.c1
            clear hse hl1x hl2x hl1y hl2y hl1r hl2r hl1h hl2h hEc hOc hokc
            go_wp2
            go_ret
            exact ⟨rfl, HBW.out⟩
        · have hse : shE s m z = 1 := by rw [shE, if_neg (fun h => z1 h.2.1)]
          have z3 : decide (0 ≤ z) = false := decide_eq_false z1
          have f3 : ((k2h : Int) == 0) = true := beq_iff_eq.2 (by have := (shL_nil (s := s) (z := z) HL.out).2 (by rw [hse]; decide); omega)
          obtain rfl : SE = 1 := by rw [HSE.out]; exact hse
          have cxx0 := HT_x.out.c0
          have cxx1 := HT_x.out.c1
          have cxy0 := HT_y.out.c0
          have cxy1 := HT_y.out.c1
          have cxh0 := HT_h.out.c0
          have cxh1 := HT_h.out.c1
          clear hse hl1x hl2x hl1y hl2y hl1r hl2r hl1h hl2h hEc hOc hokc
          go_wp2
          go_ret
          exact ⟨rfl, HBW.out⟩
      · have hokc' : tenOk s' m' = true := by rw [← HOK'.out]; exact hok'
        have hEc : twoE s m s' m' = 0 := by rw [refuse_want, if_pos hokc, if_pos hokc', if_pos (of_decide_eq_true hsm2)]
        have cxt0 := HT_t.out.c0
        have cxt1 := HT_t.out.c1
        have cxv0 := HT_v.out.c0
        have cxv1 := HT_v.out.c1
        go_wp2_with fail
        refine Calls.mono (add_own A B A' B' n c m d n' c' m' d' s l s' l' _ HT_t.out.S HT_t.out.L HT_v.out.S HT_v.out.L (by omega) (by omega)) ?_
        rw [hEc]
        rintro e u51 ⟨A1x, k1x, c1x, A2x, k2x, c2x, rfl, ho1, ho2, hk1x, hk2x, hb0⟩
        obtain ⟨V52, hV52⟩ : ∃ W, W = u51.alloc (.cells #[.slice A1x k1x c1x, .slice A2x k2x c2x] 25) := ⟨_, rfl⟩
        have HT_x : Hid (TenAt V52 u51.heap.size A1x A2x k1x c1x k2x c2x (twoS s m s' m') (twoL add32 s m s' m' l l')) := hide (by rw [hV52]; exact ⟨BoxT.new _ _ _, (lies_of_own ho1).alloc _, (lies_of_own ho2).alloc _⟩)
        have hl1x : (twoS s m s' m').length = k1x := by have := ho1.1; simpa using this
        have hl2x : (twoL add32 s m s' m' l l').length = k2x := by have := ho2.1; simpa using this
        have hb : Below u41.heap.size u41 V52 := by rw [hV52]; exact below_al6 hb0
        replace HT_t := hide (HT_t.out.kept hb)
        replace HT_v := hide (HT_v.out.kept hb)
        replace HBW := hide (HBW.out.trans (hb.mono HBW.out.size))
        have hV52' := hV52.symm
        clear cxt0 cxt1 cxv0 cxv1 hV52 hb hb0 ho1 ho2
        have cxt0 := HT_t.out.c0
        have cxt1 := HT_t.out.c1
        have cxv0 := HT_v.out.c0
        have cxv1 := HT_v.out.c1
        go_wp2_with fail
        refine Calls.mono (mul_own A B A' B' n c m d n' c' m' d' s l s' l' _ HT_t.out.S HT_t.out.L HT_v.out.S HT_v.out.L (by omega) (by omega)) ?_
        rw [hEc]
        rintro e u53 ⟨A1y, k1y, c1y, A2y, k2y, c2y, rfl, ho1, ho2, hk1y, hk2y, hb0⟩
        obtain ⟨V54, hV54⟩ : ∃ W, W = u53.alloc (.cells #[.slice A1y k1y c1y, .slice A2y k2y c2y] 25) := ⟨_, rfl⟩
        have HT_y : Hid (TenAt V54 u53.heap.size A1y A2y k1y c1y k2y c2y (twoS s m s' m') (twoL mul32 s m s' m' l l')) := hide (by rw [hV54]; exact ⟨BoxT.new _ _ _, (lies_of_own ho1).alloc _, (lies_of_own ho2).alloc _⟩)
        have hl1y : (twoS s m s' m').length = k1y := by have := ho1.1; simpa using this
        have hl2y : (twoL mul32 s m s' m' l l').length = k2y := by have := ho2.1; simpa using this
        have hb : Below V52.heap.size V52 V54 := by rw [hV54]; exact below_al6 hb0
        replace HT_t := hide (HT_t.out.kept hb)
        replace HT_v := hide (HT_v.out.kept hb)
        replace HT_x := hide (HT_x.out.kept hb)
        replace HBW := hide (HBW.out.trans (hb.mono HBW.out.size))
        have hV54' := hV54.symm
        clear cxt0 cxt1 cxv0 cxv1 hV54 hb hb0 ho1 ho2
        have cxt0 := HT_t.out.c0
        have cxt1 := HT_t.out.c1
        go_wp2_with fail
        refine Calls.mono (relu_own A B n c m d s l _ HT_t.out.S HT_t.out.L (by omega)) ?_
        rw [hOc]
        rintro e u55 ⟨A1r, k1r, c1r, A2r, k2r, c2r, rfl, ho1, ho2, hk1r, hk2r, hb0⟩
        obtain ⟨V56, hV56⟩ : ∃ W, W = u55.alloc (.cells #[.slice A1r k1r c1r, .slice A2r k2r c2r] 25) := ⟨_, rfl⟩
        have HT_r : Hid (TenAt V56 u55.heap.size A1r A2r k1r c1r k2r c2r (oneS s m) (oneL relu32 s m l)) := hide (by rw [hV56]; exact ⟨BoxT.new _ _ _, (lies_of_own ho1).alloc _, (lies_of_own ho2).alloc _⟩)
        have hl1r : (oneS s m).length = k1r := by have := ho1.1; simpa using this
        have hl2r : (oneL relu32 s m l).length = k2r := by have := ho2.1; simpa using this
        have hb : Below V54.heap.size V54 V56 := by rw [hV56]; exact below_al6 hb0
        replace HT_t := hide (HT_t.out.kept hb)
        replace HT_v := hide (HT_v.out.kept hb)
        replace HT_x := hide (HT_x.out.kept hb)
        replace HT_y := hide (HT_y.out.kept hb)
        replace HBW := hide (HBW.out.trans (hb.mono HBW.out.size))
        have hV56' := hV56.symm
        clear cxt0 cxt1 hV56 hb hb0 ho1 ho2
        have cxt0 := HT_t.out.c0
        have cxt1 := HT_t.out.c1
        go_wp2_with fail
        refine Calls.mono (shift_own A B n c m d s l _ HT_t.out.S HT_t.out.L (by omega) z HWL.out) ?_
        rw [← HSE.out]
        rintro e u57 ⟨A1h, k1h, c1h, A2h, k2h, c2h, rfl, ho1, ho2, hk1h, hk2h, hb0⟩
        obtain ⟨V58, hV58⟩ : ∃ W, W = u57.alloc (.cells #[.slice A1h k1h c1h, .slice A2h k2h c2h] 25) := ⟨_, rfl⟩
        have HT_h : Hid (TenAt V58 u57.heap.size A1h A2h k1h c1h k2h c2h (shS s m z) (shL s m z l)) := hide (by rw [hV58]; exact ⟨BoxT.new _ _ _, (lies_of_own ho1).alloc _, (lies_of_own ho2).alloc _⟩)
        have hl1h : (shS s m z).length = k1h := by have := ho1.1; simpa using this
        have hl2h : (shL s m z l).length = k2h := by have := ho2.1; simpa using this
        have hb : Below V56.heap.size V56 V58 := by rw [hV58]; exact below_al6 hb0
        replace HT_t := hide (HT_t.out.kept hb)
        replace HT_v := hide (HT_v.out.kept hb)
        replace HT_x := hide (HT_x.out.kept hb)
        replace HT_y := hide (HT_y.out.kept hb)
        replace HT_r := hide (HT_r.out.kept hb)
        replace HBW := hide (HBW.out.trans (hb.mono HBW.out.size))
        have hV58' := hV58.symm
        clear cxt0 cxt1 hV58 hb hb0 ho1 ho2
        have cxt0 := HT_t.out.c0
        have cxt1 := HT_t.out.c1
        go_wp2_with fail
        refine Calls.mono (tcheck_any A B n c m d s _ HT_t.out.S (by omega)) ?_
        rw [hokc]
        rintro e u59 ⟨rfl, hb⟩
        replace HT_t := hide (HT_t.out.kept hb)
        replace HT_v := hide (HT_v.out.kept hb)
        replace HT_x := hide (HT_x.out.kept hb)
        replace HT_y := hide (HT_y.out.kept hb)
        replace HT_r := hide (HT_r.out.kept hb)
        replace HT_h := hide (HT_h.out.kept hb)
        replace HBW := hide (HBW.out.trans (hb.mono HBW.out.size))
        clear cxt0 cxt1 hb
        have f1 : ((k2x : Int) == 0) = false := beq_eq_false_iff_ne.2 (by intro e; exact absurd ((twoL_nil (f := add32) (s := s) (s' := s') HL.out HL'.out).1 (by omega)) (by rw [hEc]; decide))
        have f2 : ((k1y : Int) == 0) = false := beq_eq_false_iff_ne.2 (by intro e; exact absurd ((twoS_nil (s := s) (s' := s') (m := m) (m' := m')).1 (by omega)) (by rw [hEc]; decide))
        by_cases z1 : 0 ≤ z
        · by_cases z2 : z ≤ 31
          · have hse : shE s m z = 0 := by rw [shE, if_pos ⟨hokc, z1, z2⟩]
            have f3 : ((k2h : Int) == 0) = false := beq_eq_false_iff_ne.2 (by intro e; exact absurd ((shL_nil (s := s) (z := z) HL.out).1 (by omega)) (by rw [hse]; decide))
            obtain rfl : SE = 0 := by rw [HSE.out]; exact hse
            have cxx0 := HT_x.out.c0
            have cxx1 := HT_x.out.c1
            have cxy0 := HT_y.out.c0
            have cxy1 := HT_y.out.c1
            have cxh0 := HT_h.out.c0
            have cxh1 := HT_h.out.c1
            clear hse hl1x hl2x hl1y hl2y hl1r hl2r hl1h hl2h hEc hOc hokc
            go_wp2
            go_ret
            exact ⟨rfl, HBW.out⟩
          · have hse : shE s m z = 1 := by rw [shE, if_neg (fun h => z2 h.2.2)]
            have z3 : decide (z ≤ 31) = false := decide_eq_false z2
            have f3 : ((k2h : Int) == 0) = true := beq_iff_eq.2 (by have := (shL_nil (s := s) (z := z) HL.out).2 (by rw [hse]; decide); omega)
            obtain rfl : SE = 1 := by rw [HSE.out]; exact hse
            have cxx0 := HT_x.out.c0
            have cxx1 := HT_x.out.c1
            have cxy0 := HT_y.out.c0
            have cxy1 := HT_y.out.c1
            have cxh0 := HT_h.out.c0
            have cxh1 := HT_h.out.c1
            clear hse hl1x hl2x hl1y hl2y hl1r hl2r hl1h hl2h hEc hOc hokc
            go_wp2
            go_ret
            exact ⟨rfl, HBW.out⟩
        · have hse : shE s m z = 1 := by rw [shE, if_neg (fun h => z1 h.2.1)]
          have z3 : decide (0 ≤ z) = false := decide_eq_false z1
          have f3 : ((k2h : Int) == 0) = true := beq_iff_eq.2 (by have := (shL_nil (s := s) (z := z) HL.out).2 (by rw [hse]; decide); omega)
          obtain rfl : SE = 1 := by rw [HSE.out]; exact hse
          have cxx0 := HT_x.out.c0
          have cxx1 := HT_x.out.c1
          have cxy0 := HT_y.out.c0
          have cxy1 := HT_y.out.c1
          have cxh0 := HT_h.out.c0
          have cxh1 := HT_h.out.c1
          clear hse hl1x hl2x hl1y hl2y hl1r hl2r hl1h hl2h hEc hOc hokc
          go_wp2
          go_ret
          exact ⟨rfl, HBW.out⟩
theorem refuse6_any (A B A' B' : Option Addr) (n c m d n' c' m' d' : Nat) (s l s' l' : List Int) (z : Int) (w : World) (hA : Lies w A n (s.map (Value.int .i64))) (hB : Lies w B m (l.map (Value.int .i32))) (hA' : Lies w A' n' (s'.map (Value.int .i64))) (hB' : Lies w B' m' (l'.map (Value.int .i32)))
    (wl : ∀ z ∈ l, -2147483648 ≤ z ∧ z < 2147483648) (hn : n ≤ 70368744177664) (hm : m ≤ 70368744177664) (hn' : n' ≤ 70368744177664) (hm' : m' ≤ 70368744177664) :
    Calls Try.prog 7 #[tenV A n c B m d, tenV A' n' c' B' m' d', .int .i64 z] w fun e w' => e = .returned (.bool true) ∧ Below w.heap.size w w' := by
  by_cases h : tsz n m + tsz n' m' ≤ 1048576
  · exact refuse6_near A B A' B' n c m d n' c' m' d' s l s' l' z w hA hB hA' hB' wl hn hm hn' hm' h
  · exact refuse6_far A B A' B' n c m d n' c' m' d' s l s' l' z w hA hB hA' hB' wl hn hm hn' hm' (by omega)
end Go.Proofs.Ythdicobagmhpcaa
