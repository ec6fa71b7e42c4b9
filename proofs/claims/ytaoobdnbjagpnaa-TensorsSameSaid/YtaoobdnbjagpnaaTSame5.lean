/- TensorsSame holds for every two tensors, every number of it and every number by which it turns: the walk of its Go text. -/
import Derived.Test.YtaoobdnbjagpnaaTMath
import Derived.Test.YtaoobdnbjagpnaaAlive5
import Derived.Test.YtaoobdnbjagpnaaBeyond
namespace Go.Proofs.Ytaoobdnbjagpnaa
open Go.RowKit
set_option linter.unusedVariables false
set_option linter.unusedSimpArgs false
set_option maxRecDepth 100000

theorem tsz_nonneg (n m : Nat) : 0 ≤ (tsz n m : Int) := by omega
theorem tsz_le {n m N : Nat} (hn : n ≤ N) (hm : m ≤ N) : (tsz n m : Int) ≤ 1 + 2 * N := by unfold tsz; split <;> omega
theorem tsz_small {n m : Nat} (h : tsz n m ≤ 1048576) : n ≤ 1048576 ∧ m ≤ 1048576 := by unfold tsz at h; split at h <;> omega

set_option maxHeartbeats 4000000 in
theorem same5_far (A B A' B' : Option Addr) (n c m d n' c' m' d' : Nat) (za zb : Int) (w : World)
    (hn : n ≤ 70368744177664) (hm : m ≤ 70368744177664) (hn' : n' ≤ 70368744177664) (hm' : m' ≤ 70368744177664) (hfar : 1048576 < tsz n m + tsz n' m') :
    Calls Try.prog 4 #[tenV A n c B m d, tenV A' n' c' B' m' d', .agg #[.int .u16 za, .int .i32 zb]] w fun e w' => e = .returned (.bool true) ∧ Below w.heap.size w w' := by
  obtain ⟨W, hW⟩ : ∃ W, W = ((w.alloc (.cells #[.slice A n c, .slice B m d] 25)).alloc (.cells #[.slice A' n' c', .slice B' m' d'] 25)).alloc (.cells #[.int .u16 za, .int .i32 zb] 42) := ⟨_, rfl⟩
  have HX0 : Hid (BoxT W w.heap.size (.slice A n c) (.slice B m d)) := hide (by rw [hW]; exact ((BoxT.new w _ _).alloc _).alloc _)
  have HX1 : Hid (BoxT W (w.heap.size + 1) (.slice A' n' c') (.slice B' m' d')) := hide (by
    rw [hW]
    have h := (BoxT.new (w.alloc (.cells #[.slice A n c, .slice B m d] 25)) (.slice A' n' c') (.slice B' m' d')).alloc (.cells #[.int .u16 za, .int .i32 zb] 42)
    rwa [World.size_alloc] at h)
  have HB0 : Hid (Below w.heap.size w W) := hide (by rw [hW]; exact (((Below.refl w.heap.size w).alloc (Nat.le_refl _) _).alloc (by simp) _).alloc (by simp; omega) _)
  have hW' := hW.symm
  clear hW
  have hsW := HB0.out.size
  have a0 := HX0.out.c0
  have a1 := HX0.out.c1
  have b0 := HX1.out.c0
  have b1 := HX1.out.c1
  have HK : Hid (∀ w', Below W.heap.size W w' → w'.cell? ⟨w.heap.size, 0, none⟩ = some (.slice A n c) ∧ w'.cell? ⟨w.heap.size, 1, none⟩ = some (.slice B m d) ∧ w'.cell? ⟨w.heap.size + 1, 0, none⟩ = some (.slice A' n' c') ∧ w'.cell? ⟨w.heap.size + 1, 1, none⟩ = some (.slice B' m' d')) := hide (fun w' hb =>
    ⟨(HX0.out.kept hb).c0, (HX0.out.kept hb).c1, (HX1.out.kept hb).c0, (HX1.out.kept hb).c1⟩)
  have hb0 : Below W.heap.size W (W.drewN 1) := below_drewN (Below.refl _ W) 1
  have ht0 := tsz_nonneg n m
  have ht0' := tsz_nonneg n' m'
  have ht1 := tsz_le hn hm
  have ht1' := tsz_le hn' hm'
  have HBY : Hid (∀ v : World, Calls Try.prog 6 #[.slice (some ⟨v.heap.size, 0, none⟩) 2 2] (v.alloc (.cells #[.int .i64 (tsz n m : Int), .int .i64 (tsz n' m' : Int)] 3)) fun e w' => e = .returned (.bool true) ∧ (v.alloc (.cells #[.int .i64 (tsz n m : Int), .int .i64 (tsz n' m' : Int)] 3)) = w') := hide (fun v =>
    beyond_yes (some ⟨v.heap.size, 0, none⟩) 2 2 [(tsz n m : Int), (tsz n' m' : Int)] _ (lies_lit v .i64 [(tsz n m : Int), (tsz n' m' : Int)] 3) (by intro z hz; simp at hz; omega) (by simp; omega) (by omega))
  clear ht0 ht1 ht0' ht1' hfar
  go_enter Try.func4, Try.ntmps4
  go_wp2
  go_region_held3 (fun w' => w'.cell? ⟨w.heap.size, 0, none⟩ = some (.slice A n c) ∧ w'.cell? ⟨w.heap.size, 1, none⟩ = some (.slice B m d) ∧ w'.cell? ⟨w.heap.size + 1, 0, none⟩ = some (.slice A' n' c') ∧ w'.cell? ⟨w.heap.size + 1, 1, none⟩ = some (.slice B' m' d'))
    (first | (exact HK.out _ hb3) | (exact HK.out _ (hb2.alloc hb2.size _)) | (exact HK.out _ hb2) | (exact HK.out _ hbA) | (exact HK.out _ hb0) | (exact HK.out _ (Below.refl _ W)) | go_keep)
    (first
      | (go_at_call 5; refine Calls.mono (alive5_any _) ?_; rintro e wA ⟨rfl, hbA0⟩; have hbA : Below W.heap.size W wA := hb0.trans hbA0)
      | (go_at_call 7; refine Calls.mono (tsize_any _ _ _ _ _ _ _ (by omega) (by omega)) ?_; rintro e w2 ⟨rfl, hb20⟩; have hb2 : Below W.heap.size W w2 := (by first | exact hb1.trans (hb20.mono hb1.size) | exact hbA.trans (hb20.mono hbA.size)); have hb1 := hb2)
      | (go_at_call 6; refine Calls.mono (HBY.out _) ?_; rintro e w3 ⟨rfl, hw3⟩; have hb3 : Below W.heap.size W w3 := (by rw [← hw3]; exact hb2.alloc hb2.size _)))
  have HB3 := hide (HB0.out.trans (hb3.mono hsW))
  have hs3 := HB3.out.size
  go_wp2_with fail
  refine Calls.mono (alive5_any _) ?_
  rintro e w4 ⟨rfl, hb4⟩
  have HB4 := hide (HB3.out.trans (hb4.mono hs3))
  clear hb4
  go_wp2
  go_ret
  exact ⟨rfl, HB4.out⟩

set_option maxHeartbeats 4000000 in
theorem same5_near (A B A' B' : Option Addr) (n c m d n' c' m' d' : Nat) (s l s' l' : List Int) (za zb : Int) (w : World) (hA : Lies w A n (s.map (Value.int .i64))) (hB : Lies w B m (l.map (Value.int .i32))) (hA' : Lies w A' n' (s'.map (Value.int .i64))) (hB' : Lies w B' m' (l'.map (Value.int .i32)))
    (wl : Words l) (wl' : Words l') (hza : 0 ≤ za ∧ za < 65536) (hzb : -2147483648 ≤ zb ∧ zb < 2147483648)
    (hn : n ≤ 70368744177664) (hm : m ≤ 70368744177664) (hn' : n' ≤ 70368744177664) (hm' : m' ≤ 70368744177664) (hnear : tsz n m + tsz n' m' ≤ 1048576) :
    Calls Try.prog 4 #[tenV A n c B m d, tenV A' n' c' B' m' d', .agg #[.int .u16 za, .int .i32 zb]] w fun e w' => e = .returned (.bool true) ∧ Below w.heap.size w w' := by
  obtain ⟨W, hW⟩ : ∃ W, W = ((w.alloc (.cells #[.slice A n c, .slice B m d] 25)).alloc (.cells #[.slice A' n' c', .slice B' m' d'] 25)).alloc (.cells #[.int .u16 za, .int .i32 zb] 42) := ⟨_, rfl⟩
  have HX0 : Hid (BoxT W w.heap.size (.slice A n c) (.slice B m d)) := hide (by rw [hW]; exact ((BoxT.new w _ _).alloc _).alloc _)
  have HX1 : Hid (BoxT W (w.heap.size + 1) (.slice A' n' c') (.slice B' m' d')) := hide (by
    rw [hW]
    have h := (BoxT.new (w.alloc (.cells #[.slice A n c, .slice B m d] 25)) (.slice A' n' c') (.slice B' m' d')).alloc (.cells #[.int .u16 za, .int .i32 zb] 42)
    rwa [World.size_alloc] at h)
  have HX2 : Hid (W.heap[w.heap.size + 2]? = some (.cells #[.int .u16 za, .int .i32 zb] 42 (0, 0))) := hide (by
    rw [hW]
    have h := heap_alloc_new ((w.alloc (.cells #[.slice A n c, .slice B m d] 25)).alloc (.cells #[.slice A' n' c', .slice B' m' d'] 25)) (.cells #[.int .u16 za, .int .i32 zb] 42)
    rwa [World.size_alloc, World.size_alloc] at h)
  have HB0 : Hid (Below w.heap.size w W) := hide (by rw [hW]; exact (((Below.refl w.heap.size w).alloc (Nat.le_refl _) _).alloc (by simp) _).alloc (by simp; omega) _)
  have hW' := hW.symm
  clear hW
  have HA := hide (hA.below HB0.out)
  have HB := hide (hB.below HB0.out)
  have HA' := hide (hA'.below HB0.out)
  have HB' := hide (hB'.below HB0.out)
  have HWL := hide wl
  have HWL' := hide wl'
  have HL : Hid (l.length = m) := hide (by have := hB.len; simpa using this)
  obtain ⟨hn2, hm2⟩ := tsz_small (n := n) (m := m) (by omega)
  obtain ⟨hn2', hm2'⟩ := tsz_small (n := n') (m := m') (by omega)
  clear hA hB hA' hB' wl wl'
  have hsW := HB0.out.size
  have a0 := HX0.out.c0
  have a1 := HX0.out.c1
  have b0 := HX1.out.c0
  have b1 := HX1.out.c1
  have zc0 := cell_of_row _ _ 0 _ _ (0, 0) HX2.out
  have zc1 := cell_of_row _ _ 1 _ _ (0, 0) HX2.out
  have HK : Hid (∀ w', Below W.heap.size W w' → w'.cell? ⟨w.heap.size, 0, none⟩ = some (.slice A n c) ∧ w'.cell? ⟨w.heap.size, 1, none⟩ = some (.slice B m d) ∧ w'.cell? ⟨w.heap.size + 1, 0, none⟩ = some (.slice A' n' c') ∧ w'.cell? ⟨w.heap.size + 1, 1, none⟩ = some (.slice B' m' d') ∧ w'.cell? ⟨w.heap.size + 2, 0, none⟩ = some (.int .u16 za) ∧ w'.cell? ⟨w.heap.size + 2, 1, none⟩ = some (.int .i32 zb)) := hide (fun w' hb =>
    ⟨(HX0.out.kept hb).c0, (HX0.out.kept hb).c1, (HX1.out.kept hb).c0, (HX1.out.kept hb).c1, cell_of_row _ _ 0 _ _ (0, 0) ((hb.block _ (lt_of_heap HX2.out)).trans HX2.out), cell_of_row _ _ 1 _ _ (0, 0) ((hb.block _ (lt_of_heap HX2.out)).trans HX2.out)⟩)
  have hb0 : Below W.heap.size W (W.drewN 1) := below_drewN (Below.refl _ W) 1
  have ht0 := tsz_nonneg n m
  have ht0' := tsz_nonneg n' m'
  have ht1 := tsz_le hn hm
  have ht1' := tsz_le hn' hm'
  have HBY : Hid (∀ v : World, Calls Try.prog 6 #[.slice (some ⟨v.heap.size, 0, none⟩) 2 2] (v.alloc (.cells #[.int .i64 (tsz n m : Int), .int .i64 (tsz n' m' : Int)] 3)) fun e w' => e = .returned (.bool false) ∧ (v.alloc (.cells #[.int .i64 (tsz n m : Int), .int .i64 (tsz n' m' : Int)] 3)) = w') := hide (fun v =>
    beyond_no (some ⟨v.heap.size, 0, none⟩) 2 2 [(tsz n m : Int), (tsz n' m' : Int)] _ (lies_lit v .i64 [(tsz n m : Int), (tsz n' m' : Int)] 3) (by intro z hz; simp at hz; omega) (by simp; omega) (by omega))
  clear ht0 ht1 ht0' ht1' hnear
  go_enter Try.func4, Try.ntmps4
  go_wp2
  go_region_held3 (fun w' => w'.cell? ⟨w.heap.size, 0, none⟩ = some (.slice A n c) ∧ w'.cell? ⟨w.heap.size, 1, none⟩ = some (.slice B m d) ∧ w'.cell? ⟨w.heap.size + 1, 0, none⟩ = some (.slice A' n' c') ∧ w'.cell? ⟨w.heap.size + 1, 1, none⟩ = some (.slice B' m' d') ∧ w'.cell? ⟨w.heap.size + 2, 0, none⟩ = some (.int .u16 za) ∧ w'.cell? ⟨w.heap.size + 2, 1, none⟩ = some (.int .i32 zb))
    (first | (exact HK.out _ hb3) | (exact HK.out _ (hb2.alloc hb2.size _)) | (exact HK.out _ hb2) | (exact HK.out _ hbA) | (exact HK.out _ hb0) | (exact HK.out _ (Below.refl _ W)) | go_keep)
    (first
      | (go_at_call 5; refine Calls.mono (alive5_any _) ?_; rintro e wA ⟨rfl, hbA0⟩; have hbA : Below W.heap.size W wA := hb0.trans hbA0)
      | (go_at_call 7; refine Calls.mono (tsize_any _ _ _ _ _ _ _ (by omega) (by omega)) ?_; rintro e w2 ⟨rfl, hb20⟩; have hb2 : Below W.heap.size W w2 := (by first | exact hb1.trans (hb20.mono hb1.size) | exact hbA.trans (hb20.mono hbA.size)); have hb1 := hb2)
      | (go_at_call 6; refine Calls.mono (HBY.out _) ?_; rintro e w3 ⟨rfl, hw3⟩; have hb3 : Below W.heap.size W w3 := (by rw [← hw3]; exact hb2.alloc hb2.size _)))
  clear a0 a1 b0 b1 zc0 zc1
  obtain ⟨a0, a1, b0, b1, zc0, zc1⟩ := HK.out _ hb3
  -- is a as b
  go_wp2_with fail
  refine Calls.mono (tsame_any A B A' B' n c m d n' c' m' d' s l s' l' _ (HA.out.below hb3) (HB.out.below hb3) (HA'.out.below hb3) (HB'.out.below hb3) (by omega) (by omega)) ?_
  rintro e w4 ⟨rfl, hb40⟩
  have hb4 : Below W.heap.size W w4 := hb3.trans (hb40.mono hb3.size)
  clear a0 a1 b0 b1 zc0 zc1 hb40 hb3
  obtain ⟨a0, a1, b0, b1, zc0, zc1⟩ := HK.out _ hb4
  obtain ⟨same, hsame⟩ : ∃ same, same = decide (s = s' ∧ l = l') := ⟨_, rfl⟩
  rw [← hsame]
  have HSM := hide hsame
  clear hsame
  -- the bytes of both
  go_wp2_with fail
  refine Calls.mono (tput_any A B n c m d s l _ (HA.out.below hb4) (HB.out.below hb4) (by omega)) ?_
  rintro e w5 ⟨P, k, cc, rfl, hp, hkc, hk, hb50⟩
  obtain ⟨e1, he1⟩ : ∃ e1 : Int, e1 = if tenOk s m = true then 0 else 1 := ⟨_, rfl⟩
  rw [← he1]
  have HE1 := hide he1
  clear he1
  have hb5 : Below W.heap.size W w5 := hb4.trans (hb50.mono hb4.size)
  have HP := hide hp
  clear a0 a1 b0 b1 zc0 zc1 hb50 hb4 hp
  obtain ⟨a0, a1, b0, b1, zc0, zc1⟩ := HK.out _ hb5
  go_wp2_with fail
  refine Calls.mono (tput_any A' B' n' c' m' d' s' l' _ (HA'.out.below hb5) (HB'.out.below hb5) (by omega)) ?_
  rintro e w6 ⟨P', k', cc', rfl, hp', hkc', hk', hb60⟩
  obtain ⟨e2, he2⟩ : ∃ e2 : Int, e2 = if tenOk s' m' = true then 0 else 1 := ⟨_, rfl⟩
  rw [← he2]
  have HE2 := hide he2
  clear he2
  have hb6 : Below W.heap.size W w6 := hb5.trans (hb60.mono hb5.size)
  have HP6 := hide (HP.out.below hb60)
  have HP' := hide hp'
  clear a0 a1 b0 b1 zc0 zc1 hb60 hb5 hp' HP
  obtain ⟨a0, a1, b0, b1, zc0, zc1⟩ := HK.out _ hb6
  -- a as a, b as a
  go_wp2_with fail
  refine Calls.mono (tsame_any A B A B n c m d n c m d s l s l _ (HA.out.below hb6) (HB.out.below hb6) (HA.out.below hb6) (HB.out.below hb6) (by omega) (by omega)) ?_
  rw [show decide (s = s ∧ l = l) = true by simp]
  rintro e w7 ⟨rfl, hb70⟩
  have hb7 : Below W.heap.size W w7 := hb6.trans (hb70.mono hb6.size)
  have HP7 := hide (HP6.out.below hb70)
  have HP7' := hide (HP'.out.below hb70)
  clear a0 a1 b0 b1 zc0 zc1 hb70 hb6 HP6 HP'
  obtain ⟨a0, a1, b0, b1, zc0, zc1⟩ := HK.out _ hb7
  go_wp2_with fail
  refine Calls.mono (tsame_any A' B' A B n' c' m' d' n c m d s' l' s l _ (HA'.out.below hb7) (HB'.out.below hb7) (HA.out.below hb7) (HB.out.below hb7) (by omega) (by omega)) ?_
  rw [show decide (s' = s ∧ l' = l) = same by rw [HSM.out]; exact decide_eq_decide.2 ⟨fun h => ⟨h.1.symm, h.2.symm⟩, fun h => ⟨h.1.symm, h.2.symm⟩⟩]
  rintro e w8 ⟨rfl, hb80⟩
  have hb8 : Below W.heap.size W w8 := hb7.trans (hb80.mono hb7.size)
  have HP8 := hide (HP7.out.below hb80)
  have HP8' := hide (HP7'.out.below hb80)
  clear a0 a1 b0 b1 zc0 zc1 hb80 hb7 HP7 HP7'
  obtain ⟨a0, a1, b0, b1, zc0, zc1⟩ := HK.out _ hb8
  -- in each case the test is passed
  have HTAIL : Hid (tenOk s m = true → tenOk s' m' = true → decide (putB s l m = putB s' l' m') = same) := hide (fun h1 h2 => by
    rw [putB, if_pos h1, putB, if_pos h2, HSM.out]
    exact tenB_iff HWL.out HWL'.out)
  by_cases ho1 : tenOk s m = true
  · have hE1 : e1 = 0 := by rw [HE1.out, if_pos ho1]
    by_cases ho2 : tenOk s' m' = true
    · have hE2 : e2 = 0 := by rw [HE2.out, if_pos ho2]
      subst hE1 hE2
      go_wp2_with fail
      refine Calls.mono (sameG_Bytes P P' k cc k' cc' (putB s l m) (putB s' l' m') _ HP8.out HP8'.out (by omega)) ?_
      rw [HTAIL.out ho1 ho2]
      rintro e w9 ⟨rfl, j9, hj9⟩
      have hb9 : Below W.heap.size W w9 := by rw [hj9]; exact below_drewN hb8 j9
      clear hj9
      clear a0 a1 b0 b1 zc0 zc1
      obtain ⟨a0, a1, b0, b1, zc0, zc1⟩ := HK.out _ hb9
      by_cases hm0 : m = 0
      · have hb1 : ((m : Int) == 0) = true := by rw [hm0]; rfl
        have HB9 := hide (HB0.out.trans (hb9.mono hsW))
        subst hm0
        go_wp2
        go_ret
        exact ⟨rfl, HB9.out⟩
      · have hb1 : ((m : Int) == 0) = false := beq_eq_false_iff_ne.2 (by omega)
        go_wp2_with fail
        refine Calls.mono (twinT_any A B n c m d s l w9 (HA.out.below hb9) (HB.out.below hb9) (by omega) (by omega)) ?_
        rintro e w10 ⟨g1, g2, rfl, hot1, hot2, hgne, hb100⟩
        have hb10 : Below W.heap.size W w10 := hb9.trans (hb100.mono hb9.size)
        have hs9 := hb9.size
        clear a0 a1 b0 b1 zc0 zc1 hb9
        have hlg1 := hot1.lt g1 rfl
        have hlg2 := hot2.lt g2 rfl
        obtain ⟨cu2, hcu2, _⟩ := own_heap hot2
        obtain ⟨zN, hzN⟩ : ∃ zN : Nat, za = (zN : Int) := ⟨za.toNat, by omega⟩
        obtain ⟨kk, hkk⟩ : ∃ kk, kk = zN % m := ⟨_, rfl⟩
        have hkm : kk < m := by rw [hkk]; exact Nat.mod_lt _ (by omega)
        have hz64 : IntKind.i64.wrap (zN : Int) = (zN : Int) := by rw [IntKind.wrap_i64]; omega
        have hmod : Int.tmod (zN : Int) (m : Int) = (kk : Int) := by rw [hkk, Int.tmod_eq_emod_of_nonneg (by omega)]; exact (Int.natCast_emod _ _).symm
        have hk64 : IntKind.i64.wrap (kk : Int) = (kk : Int) := by rw [IntKind.wrap_i64]; omega
        obtain ⟨Wc, hWc⟩ : ∃ Wc, Wc = w10.alloc (.cells #[.slice (some ⟨g1, 0, none⟩) n (n + 1), .slice (some ⟨g2, 0, none⟩) m (m + 1)] 25) := ⟨_, rfl⟩
        have hbc : Below W.heap.size W Wc := by rw [hWc]; exact hb10.alloc hb10.size _
        have HXc : Hid (BoxT Wc w10.heap.size (.slice (some ⟨g1, 0, none⟩) n (n + 1)) (.slice (some ⟨g2, 0, none⟩) m (m + 1))) := hide (by rw [hWc]; exact BoxT.new w10 _ _)
        have HO1 : Hid (Wc.ownsRow w9.heap.size 3 1 (.slice (some ⟨g1, 0, none⟩) (n + 1) (n + 1)) (n + 1) (s.map (Value.int .i64) ++ [.int .i64 77])) := hide (by rw [hWc]; exact hot1.alloc _)
        have HO2 : Hid (Wc.ownsRow w9.heap.size 21 1 (.slice (some ⟨g2, 0, none⟩) (m + 1) (m + 1)) (m + 1) (l.map (Value.int .i32) ++ [.int .i32 77])) := hide (by rw [hWc]; exact hot2.alloc _)
        have HG2 : Hid (Wc.heap[g2]? = some (.cells cu2 21 (0, 0))) := hide (by rw [hWc]; exact (Below.heap_alloc _ _ _ hlg2.2).trans hcu2)
        have hWc' := hWc.symm
        clear hWc hot1 hot2 hcu2
        obtain ⟨zk, hzk⟩ : ∃ zk, zk = l.getD kk 0 := ⟨_, rfl⟩
        have hck : Wc.cell? ⟨g2, kk, none⟩ = some (.int .i32 zk) := by
          have h := (lies_of_own HO2.out).take (k := m) (by omega)
          rw [List.take_left' (by simp [HL.out])] at h
          obtain ⟨b1', o1', e1', _, hx⟩ := byte_at h (by omega)
          cases e1'
          rw [hzk]
          have := hx kk hkm
          rwa [Nat.zero_add] at this
        have hfk : Wc.frozen? ⟨g2, kk, none⟩ = false := by simp [World.frozen?, HG2.out]
        have xc1 := HXc.out.c1
        obtain ⟨a0, a1, b0, b1, zc0, zc1⟩ := HK.out _ hbc
        rw [hzN] at zc0
        have HZK := hide hzk
        have HKK := hide hkk
        clear hzk hkk
        go_wp2_with fail
        go_region
        have hxr : -2147483648 ≤ bits .xor .i32 zk zb ∧ bits .xor .i32 zk zb ≤ 2147483647 := ⟨bits_lo_i32 _ _ _, bits_hi_i32 _ _ _⟩
        have hlk : kk < l.length := by rw [HL.out]; exact hkm
        have hzr : -2147483648 ≤ zk ∧ zk < 2147483648 := by
          rw [HZK.out]
          have := HWL.out l[kk] (List.getElem_mem _)
          simpa [List.getD, hlk] using this
        have HEQ : Hid (decide (s = s ∧ l = l.set kk (bits .xor .i32 zk zb)) = decide (zb = 0)) := hide (decide_eq_decide.2 (by
          rw [← xor_same zk zb hzr hzb]
          constructor
          · rintro ⟨_, h⟩
            have h2 := congrArg (fun t => List.getD t kk 0) h
            change l.getD kk 0 = (l.set kk (bits .xor .i32 zk zb)).getD kk 0 at h2
            rw [← HZK.out] at h2
            simpa [List.getD, hlk] using h2.symm
          · intro h
            refine ⟨rfl, ?_⟩
            rw [h, HZK.out]
            apply List.ext_getElem?
            intro q
            rw [List.getElem?_set]
            split
            · rename_i e
              subst e
              simp [List.getD, hlk]
            · rfl))
        obtain ⟨x, hx⟩ : ∃ x, x = bits .xor .i32 zk zb := ⟨_, rfl⟩
        rw [← hx] at HEQ ⊢
        obtain ⟨WF, hWF⟩ : ∃ WF, WF = (Wc.setCell ⟨g2, kk, none⟩ (.int .i32 x)).drew := ⟨_, rfl⟩
        have hbF : Below W.heap.size W WF := by rw [hWF]; exact below_drewN (hbc.setCell (p := ⟨g2, kk, none⟩) (by have := HO2.out.lt g2 rfl; simp; omega) (.int .i32 x)) 1
        have HXF : Hid (BoxT WF w10.heap.size (.slice (some ⟨g1, 0, none⟩) n (n + 1)) (.slice (some ⟨g2, 0, none⟩) m (m + 1))) := hide (by rw [hWF]; exact (Below.heap_setCell Wc ⟨g2, kk, none⟩ (.int .i32 x) w10.heap.size (by simp; omega)).trans HXc.out)
        have HF1 : Hid (Lies WF (some ⟨g1, 0, none⟩) n (s.map (Value.int .i64))) := hide (by
          have h := (lies_of_own (World.ownsRow.drew (own_setCell' HO1.out (a := ⟨g2, kk, none⟩) hgne (.int .i32 x)))).take (k := n) (by omega)
          rw [List.take_left' (by have := HA.out.len; simpa using this)] at h
          rw [hWF]
          exact h)
        have HF2 : Hid (Lies WF (some ⟨g2, 0, none⟩) m ((l.set kk x).map (Value.int .i32))) := hide (by
          have h := (lies_of_own HO2.out).take (k := m) (by omega)
          rw [List.take_left' (by simp [HL.out])] at h
          obtain ⟨b1', o1', e1', _, hy⟩ := h.cells (by omega)
          cases e1'
          refine ⟨by simp [HL.out], fun _ => ⟨g2, 0, rfl, ?_, fun q hq => ?_⟩⟩
          · rw [hWF]; simp; exact lt_of_heap HG2.out
          · rw [hWF, Nat.zero_add]
            by_cases e : q = kk
            · subst e
              rw [show (Wc.setCell ⟨g2, q, none⟩ (.int .i32 x)).drew.cell? ⟨g2, q, none⟩ = (Wc.setCell ⟨g2, q, none⟩ (.int .i32 x)).cell? ⟨g2, q, none⟩ from rfl, World.cell?_setCell_same' _ _ _ (by rw [hck]; rfl)]
              simp [hlk]
            · have hne : (⟨g2, kk, none⟩ : Addr) ≠ ⟨g2, q, none⟩ := by intro h; cases h; exact e rfl
              rw [show (Wc.setCell ⟨g2, kk, none⟩ (.int .i32 x)).drew.cell? ⟨g2, q, none⟩ = (Wc.setCell ⟨g2, kk, none⟩ (.int .i32 x)).cell? ⟨g2, q, none⟩ from rfl, World.cell?_setCell_other _ _ _ _ hne]
              have := hy q hq
              rw [Nat.zero_add] at this
              rw [this]
              simp [List.getElem?_set, show ¬ kk = q from fun h => e h.symm])
        rw [← hWF]
        clear hWF HXc HO1 HO2 HG2 hck hfk xc1 a0 a1 b0 b1 zc0 zc1
        obtain ⟨a0, a1, _, _, _, zc1⟩ := HK.out _ hbF
        have xc0 := HXF.out.c0
        have xc1 := HXF.out.c1
        have HKF : Hid (∀ w', Below WF.heap.size WF w' → w'.cell? ⟨w.heap.size, 0, none⟩ = some (.slice A n c) ∧ w'.cell? ⟨w.heap.size, 1, none⟩ = some (.slice B m d) ∧ w'.cell? ⟨w10.heap.size, 0, none⟩ = some (.slice (some ⟨g1, 0, none⟩) n (n + 1)) ∧ w'.cell? ⟨w10.heap.size, 1, none⟩ = some (.slice (some ⟨g2, 0, none⟩) m (m + 1)) ∧ w'.cell? ⟨w.heap.size + 2, 1, none⟩ = some (.int .i32 zb)) := hide (fun w' hb =>
          ⟨(HK.out _ (hbF.trans (hb.mono hbF.size))).1, (HK.out _ (hbF.trans (hb.mono hbF.size))).2.1, (HXF.out.kept hb).c0, (HXF.out.kept hb).c1, (HK.out _ (hbF.trans (hb.mono hbF.size))).2.2.2.2.2⟩)
        have hf0 : Below WF.heap.size WF (WF.drewN 1) := below_drewN (Below.refl _ WF) 1
        have HCS : Hid (Calls Try.prog 12 #[tenV A n c B m d, tenV (some ⟨g1, 0, none⟩) n (n + 1) (some ⟨g2, 0, none⟩) m (m + 1)] (WF.drewN 1) fun e w' => e = .returned (.bool (decide (zb = 0))) ∧ Below WF.heap.size WF w') := hide (by
          refine (tsame_any A B (some ⟨g1, 0, none⟩) (some ⟨g2, 0, none⟩) n c m d n (n + 1) m (m + 1) s l s (l.set kk x) (WF.drewN 1) ((HA.out.below hbF).drewN 1) ((HB.out.below hbF).drewN 1) (HF1.out.drewN 1) (HF2.out.drewN 1) (by omega) (by omega)).mono ?_
          rintro e w' ⟨rfl, hb⟩
          exact ⟨by rw [HEQ.out], hf0.trans hb⟩)
        clear HEQ
        go_wp2
        have hsF := hbF.size
        by_cases hz0 : zb = 0
        · rw [decide_eq_true hz0] at HCS
          subst hz0
          go_region_held3 (fun w' => w'.cell? ⟨w.heap.size, 0, none⟩ = some (.slice A n c) ∧ w'.cell? ⟨w.heap.size, 1, none⟩ = some (.slice B m d) ∧ w'.cell? ⟨w10.heap.size, 0, none⟩ = some (.slice (some ⟨g1, 0, none⟩) n (n + 1)) ∧ w'.cell? ⟨w10.heap.size, 1, none⟩ = some (.slice (some ⟨g2, 0, none⟩) m (m + 1)) ∧ w'.cell? ⟨w.heap.size + 2, 1, none⟩ = some (.int .i32 0))
            (first | (exact HKF.out _ hbS) | (exact HKF.out _ hf0) | (exact HKF.out _ (Below.refl _ WF)) | go_keep)
            (first | (go_at_call 12; refine Calls.mono HCS.out ?_; rintro e wS ⟨rfl, hbS⟩))
          have HBF := hide (HB0.out.trans ((hbF.trans (hbS.mono hsF)).mono hsW))
          go_wp2
          go_ret
          exact ⟨rfl, HBF.out⟩
        · rw [decide_eq_false hz0] at HCS
          have hzb2 : (zb == 0) = false := beq_eq_false_iff_ne.2 hz0
          go_region_held3 (fun w' => w'.cell? ⟨w.heap.size, 0, none⟩ = some (.slice A n c) ∧ w'.cell? ⟨w.heap.size, 1, none⟩ = some (.slice B m d) ∧ w'.cell? ⟨w10.heap.size, 0, none⟩ = some (.slice (some ⟨g1, 0, none⟩) n (n + 1)) ∧ w'.cell? ⟨w10.heap.size, 1, none⟩ = some (.slice (some ⟨g2, 0, none⟩) m (m + 1)) ∧ w'.cell? ⟨w.heap.size + 2, 1, none⟩ = some (.int .i32 zb))
            (first | (exact HKF.out _ hbS) | (exact HKF.out _ hf0) | (exact HKF.out _ (Below.refl _ WF)) | go_keep)
            (first | (go_at_call 12; refine Calls.mono HCS.out ?_; rintro e wS ⟨rfl, hbS⟩))
          have HBF := hide (HB0.out.trans ((hbF.trans (hbS.mono hsF)).mono hsW))
          go_wp2
          go_ret
          exact ⟨rfl, HBF.out⟩
    · have hE2 : e2 = 1 := by rw [HE2.out, if_neg ho2]
      subst hE1 hE2
      by_cases hm0 : m = 0
      · have hb1 : ((m : Int) == 0) = true := by rw [hm0]; rfl
        have HB8x := hide (HB0.out.trans (hb8.mono hsW))
        subst hm0
        go_wp2
        go_ret
        exact ⟨rfl, HB8x.out⟩
      · have hb1 : ((m : Int) == 0) = false := beq_eq_false_iff_ne.2 (by omega)
        go_wp2_with fail
        refine Calls.mono (twinT_any A B n c m d s l w8 (HA.out.below hb8) (HB.out.below hb8) (by omega) (by omega)) ?_
        rintro e w10 ⟨g1, g2, rfl, hot1, hot2, hgne, hb100⟩
        have hb10 : Below W.heap.size W w10 := hb8.trans (hb100.mono hb8.size)
        have hs8x := hb8.size
        clear a0 a1 b0 b1 zc0 zc1 hb8
        have hlg1 := hot1.lt g1 rfl
        have hlg2 := hot2.lt g2 rfl
        obtain ⟨cu2, hcu2, _⟩ := own_heap hot2
        obtain ⟨zN, hzN⟩ : ∃ zN : Nat, za = (zN : Int) := ⟨za.toNat, by omega⟩
        obtain ⟨kk, hkk⟩ : ∃ kk, kk = zN % m := ⟨_, rfl⟩
        have hkm : kk < m := by rw [hkk]; exact Nat.mod_lt _ (by omega)
        have hz64 : IntKind.i64.wrap (zN : Int) = (zN : Int) := by rw [IntKind.wrap_i64]; omega
        have hmod : Int.tmod (zN : Int) (m : Int) = (kk : Int) := by rw [hkk, Int.tmod_eq_emod_of_nonneg (by omega)]; exact (Int.natCast_emod _ _).symm
        have hk64 : IntKind.i64.wrap (kk : Int) = (kk : Int) := by rw [IntKind.wrap_i64]; omega
        obtain ⟨Wc, hWc⟩ : ∃ Wc, Wc = w10.alloc (.cells #[.slice (some ⟨g1, 0, none⟩) n (n + 1), .slice (some ⟨g2, 0, none⟩) m (m + 1)] 25) := ⟨_, rfl⟩
        have hbc : Below W.heap.size W Wc := by rw [hWc]; exact hb10.alloc hb10.size _
        have HXc : Hid (BoxT Wc w10.heap.size (.slice (some ⟨g1, 0, none⟩) n (n + 1)) (.slice (some ⟨g2, 0, none⟩) m (m + 1))) := hide (by rw [hWc]; exact BoxT.new w10 _ _)
        have HO1 : Hid (Wc.ownsRow w8.heap.size 3 1 (.slice (some ⟨g1, 0, none⟩) (n + 1) (n + 1)) (n + 1) (s.map (Value.int .i64) ++ [.int .i64 77])) := hide (by rw [hWc]; exact hot1.alloc _)
        have HO2 : Hid (Wc.ownsRow w8.heap.size 21 1 (.slice (some ⟨g2, 0, none⟩) (m + 1) (m + 1)) (m + 1) (l.map (Value.int .i32) ++ [.int .i32 77])) := hide (by rw [hWc]; exact hot2.alloc _)
        have HG2 : Hid (Wc.heap[g2]? = some (.cells cu2 21 (0, 0))) := hide (by rw [hWc]; exact (Below.heap_alloc _ _ _ hlg2.2).trans hcu2)
        have hWc' := hWc.symm
        clear hWc hot1 hot2 hcu2
        obtain ⟨zk, hzk⟩ : ∃ zk, zk = l.getD kk 0 := ⟨_, rfl⟩
        have hck : Wc.cell? ⟨g2, kk, none⟩ = some (.int .i32 zk) := by
          have h := (lies_of_own HO2.out).take (k := m) (by omega)
          rw [List.take_left' (by simp [HL.out])] at h
          obtain ⟨b1', o1', e1', _, hx⟩ := byte_at h (by omega)
          cases e1'
          rw [hzk]
          have := hx kk hkm
          rwa [Nat.zero_add] at this
        have hfk : Wc.frozen? ⟨g2, kk, none⟩ = false := by simp [World.frozen?, HG2.out]
        have xc1 := HXc.out.c1
        obtain ⟨a0, a1, b0, b1, zc0, zc1⟩ := HK.out _ hbc
        rw [hzN] at zc0
        have HZK := hide hzk
        have HKK := hide hkk
        clear hzk hkk
        go_wp2_with fail
        go_region
        have hxr : -2147483648 ≤ bits .xor .i32 zk zb ∧ bits .xor .i32 zk zb ≤ 2147483647 := ⟨bits_lo_i32 _ _ _, bits_hi_i32 _ _ _⟩
        have hlk : kk < l.length := by rw [HL.out]; exact hkm
        have hzr : -2147483648 ≤ zk ∧ zk < 2147483648 := by
          rw [HZK.out]
          have := HWL.out l[kk] (List.getElem_mem _)
          simpa [List.getD, hlk] using this
        have HEQ : Hid (decide (s = s ∧ l = l.set kk (bits .xor .i32 zk zb)) = decide (zb = 0)) := hide (decide_eq_decide.2 (by
          rw [← xor_same zk zb hzr hzb]
          constructor
          · rintro ⟨_, h⟩
            have h2 := congrArg (fun t => List.getD t kk 0) h
            change l.getD kk 0 = (l.set kk (bits .xor .i32 zk zb)).getD kk 0 at h2
            rw [← HZK.out] at h2
            simpa [List.getD, hlk] using h2.symm
          · intro h
            refine ⟨rfl, ?_⟩
            rw [h, HZK.out]
            apply List.ext_getElem?
            intro q
            rw [List.getElem?_set]
            split
            · rename_i e
              subst e
              simp [List.getD, hlk]
            · rfl))
        obtain ⟨x, hx⟩ : ∃ x, x = bits .xor .i32 zk zb := ⟨_, rfl⟩
        rw [← hx] at HEQ ⊢
        obtain ⟨WF, hWF⟩ : ∃ WF, WF = (Wc.setCell ⟨g2, kk, none⟩ (.int .i32 x)).drew := ⟨_, rfl⟩
        have hbF : Below W.heap.size W WF := by rw [hWF]; exact below_drewN (hbc.setCell (p := ⟨g2, kk, none⟩) (by have := HO2.out.lt g2 rfl; simp; omega) (.int .i32 x)) 1
        have HXF : Hid (BoxT WF w10.heap.size (.slice (some ⟨g1, 0, none⟩) n (n + 1)) (.slice (some ⟨g2, 0, none⟩) m (m + 1))) := hide (by rw [hWF]; exact (Below.heap_setCell Wc ⟨g2, kk, none⟩ (.int .i32 x) w10.heap.size (by simp; omega)).trans HXc.out)
        have HF1 : Hid (Lies WF (some ⟨g1, 0, none⟩) n (s.map (Value.int .i64))) := hide (by
          have h := (lies_of_own (World.ownsRow.drew (own_setCell' HO1.out (a := ⟨g2, kk, none⟩) hgne (.int .i32 x)))).take (k := n) (by omega)
          rw [List.take_left' (by have := HA.out.len; simpa using this)] at h
          rw [hWF]
          exact h)
        have HF2 : Hid (Lies WF (some ⟨g2, 0, none⟩) m ((l.set kk x).map (Value.int .i32))) := hide (by
          have h := (lies_of_own HO2.out).take (k := m) (by omega)
          rw [List.take_left' (by simp [HL.out])] at h
          obtain ⟨b1', o1', e1', _, hy⟩ := h.cells (by omega)
          cases e1'
          refine ⟨by simp [HL.out], fun _ => ⟨g2, 0, rfl, ?_, fun q hq => ?_⟩⟩
          · rw [hWF]; simp; exact lt_of_heap HG2.out
          · rw [hWF, Nat.zero_add]
            by_cases e : q = kk
            · subst e
              rw [show (Wc.setCell ⟨g2, q, none⟩ (.int .i32 x)).drew.cell? ⟨g2, q, none⟩ = (Wc.setCell ⟨g2, q, none⟩ (.int .i32 x)).cell? ⟨g2, q, none⟩ from rfl, World.cell?_setCell_same' _ _ _ (by rw [hck]; rfl)]
              simp [hlk]
            · have hne : (⟨g2, kk, none⟩ : Addr) ≠ ⟨g2, q, none⟩ := by intro h; cases h; exact e rfl
              rw [show (Wc.setCell ⟨g2, kk, none⟩ (.int .i32 x)).drew.cell? ⟨g2, q, none⟩ = (Wc.setCell ⟨g2, kk, none⟩ (.int .i32 x)).cell? ⟨g2, q, none⟩ from rfl, World.cell?_setCell_other _ _ _ _ hne]
              have := hy q hq
              rw [Nat.zero_add] at this
              rw [this]
              simp [List.getElem?_set, show ¬ kk = q from fun h => e h.symm])
        rw [← hWF]
        clear hWF HXc HO1 HO2 HG2 hck hfk xc1 a0 a1 b0 b1 zc0 zc1
        obtain ⟨a0, a1, _, _, _, zc1⟩ := HK.out _ hbF
        have xc0 := HXF.out.c0
        have xc1 := HXF.out.c1
        have HKF : Hid (∀ w', Below WF.heap.size WF w' → w'.cell? ⟨w.heap.size, 0, none⟩ = some (.slice A n c) ∧ w'.cell? ⟨w.heap.size, 1, none⟩ = some (.slice B m d) ∧ w'.cell? ⟨w10.heap.size, 0, none⟩ = some (.slice (some ⟨g1, 0, none⟩) n (n + 1)) ∧ w'.cell? ⟨w10.heap.size, 1, none⟩ = some (.slice (some ⟨g2, 0, none⟩) m (m + 1)) ∧ w'.cell? ⟨w.heap.size + 2, 1, none⟩ = some (.int .i32 zb)) := hide (fun w' hb =>
          ⟨(HK.out _ (hbF.trans (hb.mono hbF.size))).1, (HK.out _ (hbF.trans (hb.mono hbF.size))).2.1, (HXF.out.kept hb).c0, (HXF.out.kept hb).c1, (HK.out _ (hbF.trans (hb.mono hbF.size))).2.2.2.2.2⟩)
        have hf0 : Below WF.heap.size WF (WF.drewN 1) := below_drewN (Below.refl _ WF) 1
        have HCS : Hid (Calls Try.prog 12 #[tenV A n c B m d, tenV (some ⟨g1, 0, none⟩) n (n + 1) (some ⟨g2, 0, none⟩) m (m + 1)] (WF.drewN 1) fun e w' => e = .returned (.bool (decide (zb = 0))) ∧ Below WF.heap.size WF w') := hide (by
          refine (tsame_any A B (some ⟨g1, 0, none⟩) (some ⟨g2, 0, none⟩) n c m d n (n + 1) m (m + 1) s l s (l.set kk x) (WF.drewN 1) ((HA.out.below hbF).drewN 1) ((HB.out.below hbF).drewN 1) (HF1.out.drewN 1) (HF2.out.drewN 1) (by omega) (by omega)).mono ?_
          rintro e w' ⟨rfl, hb⟩
          exact ⟨by rw [HEQ.out], hf0.trans hb⟩)
        clear HEQ
        go_wp2
        have hsF := hbF.size
        by_cases hz0 : zb = 0
        · rw [decide_eq_true hz0] at HCS
          subst hz0
          go_region_held3 (fun w' => w'.cell? ⟨w.heap.size, 0, none⟩ = some (.slice A n c) ∧ w'.cell? ⟨w.heap.size, 1, none⟩ = some (.slice B m d) ∧ w'.cell? ⟨w10.heap.size, 0, none⟩ = some (.slice (some ⟨g1, 0, none⟩) n (n + 1)) ∧ w'.cell? ⟨w10.heap.size, 1, none⟩ = some (.slice (some ⟨g2, 0, none⟩) m (m + 1)) ∧ w'.cell? ⟨w.heap.size + 2, 1, none⟩ = some (.int .i32 0))
            (first | (exact HKF.out _ hbS) | (exact HKF.out _ hf0) | (exact HKF.out _ (Below.refl _ WF)) | go_keep)
            (first | (go_at_call 12; refine Calls.mono HCS.out ?_; rintro e wS ⟨rfl, hbS⟩))
          have HBF := hide (HB0.out.trans ((hbF.trans (hbS.mono hsF)).mono hsW))
          go_wp2
          go_ret
          exact ⟨rfl, HBF.out⟩
        · rw [decide_eq_false hz0] at HCS
          have hzb2 : (zb == 0) = false := beq_eq_false_iff_ne.2 hz0
          go_region_held3 (fun w' => w'.cell? ⟨w.heap.size, 0, none⟩ = some (.slice A n c) ∧ w'.cell? ⟨w.heap.size, 1, none⟩ = some (.slice B m d) ∧ w'.cell? ⟨w10.heap.size, 0, none⟩ = some (.slice (some ⟨g1, 0, none⟩) n (n + 1)) ∧ w'.cell? ⟨w10.heap.size, 1, none⟩ = some (.slice (some ⟨g2, 0, none⟩) m (m + 1)) ∧ w'.cell? ⟨w.heap.size + 2, 1, none⟩ = some (.int .i32 zb))
            (first | (exact HKF.out _ hbS) | (exact HKF.out _ hf0) | (exact HKF.out _ (Below.refl _ WF)) | go_keep)
            (first | (go_at_call 12; refine Calls.mono HCS.out ?_; rintro e wS ⟨rfl, hbS⟩))
          have HBF := hide (HB0.out.trans ((hbF.trans (hbS.mono hsF)).mono hsW))
          go_wp2
          go_ret
          exact ⟨rfl, HBF.out⟩
  · have hE1 : e1 = 1 := by rw [HE1.out, if_neg ho1]
    subst hE1
    by_cases hm0 : m = 0
    · have hb1 : ((m : Int) == 0) = true := by rw [hm0]; rfl
      have HB8x := hide (HB0.out.trans (hb8.mono hsW))
      subst hm0
      go_wp2
      go_ret
      exact ⟨rfl, HB8x.out⟩
    · have hb1 : ((m : Int) == 0) = false := beq_eq_false_iff_ne.2 (by omega)
      go_wp2_with fail
      refine Calls.mono (twinT_any A B n c m d s l w8 (HA.out.below hb8) (HB.out.below hb8) (by omega) (by omega)) ?_
      rintro e w10 ⟨g1, g2, rfl, hot1, hot2, hgne, hb100⟩
      have hb10 : Below W.heap.size W w10 := hb8.trans (hb100.mono hb8.size)
      have hs8x := hb8.size
      clear a0 a1 b0 b1 zc0 zc1 hb8
      have hlg1 := hot1.lt g1 rfl
      have hlg2 := hot2.lt g2 rfl
      obtain ⟨cu2, hcu2, _⟩ := own_heap hot2
      obtain ⟨zN, hzN⟩ : ∃ zN : Nat, za = (zN : Int) := ⟨za.toNat, by omega⟩
      obtain ⟨kk, hkk⟩ : ∃ kk, kk = zN % m := ⟨_, rfl⟩
      have hkm : kk < m := by rw [hkk]; exact Nat.mod_lt _ (by omega)
      have hz64 : IntKind.i64.wrap (zN : Int) = (zN : Int) := by rw [IntKind.wrap_i64]; omega
      have hmod : Int.tmod (zN : Int) (m : Int) = (kk : Int) := by rw [hkk, Int.tmod_eq_emod_of_nonneg (by omega)]; exact (Int.natCast_emod _ _).symm
      have hk64 : IntKind.i64.wrap (kk : Int) = (kk : Int) := by rw [IntKind.wrap_i64]; omega
      obtain ⟨Wc, hWc⟩ : ∃ Wc, Wc = w10.alloc (.cells #[.slice (some ⟨g1, 0, none⟩) n (n + 1), .slice (some ⟨g2, 0, none⟩) m (m + 1)] 25) := ⟨_, rfl⟩
      have hbc : Below W.heap.size W Wc := by rw [hWc]; exact hb10.alloc hb10.size _
      have HXc : Hid (BoxT Wc w10.heap.size (.slice (some ⟨g1, 0, none⟩) n (n + 1)) (.slice (some ⟨g2, 0, none⟩) m (m + 1))) := hide (by rw [hWc]; exact BoxT.new w10 _ _)
      have HO1 : Hid (Wc.ownsRow w8.heap.size 3 1 (.slice (some ⟨g1, 0, none⟩) (n + 1) (n + 1)) (n + 1) (s.map (Value.int .i64) ++ [.int .i64 77])) := hide (by rw [hWc]; exact hot1.alloc _)
      have HO2 : Hid (Wc.ownsRow w8.heap.size 21 1 (.slice (some ⟨g2, 0, none⟩) (m + 1) (m + 1)) (m + 1) (l.map (Value.int .i32) ++ [.int .i32 77])) := hide (by rw [hWc]; exact hot2.alloc _)
      have HG2 : Hid (Wc.heap[g2]? = some (.cells cu2 21 (0, 0))) := hide (by rw [hWc]; exact (Below.heap_alloc _ _ _ hlg2.2).trans hcu2)
      have hWc' := hWc.symm
      clear hWc hot1 hot2 hcu2
      obtain ⟨zk, hzk⟩ : ∃ zk, zk = l.getD kk 0 := ⟨_, rfl⟩
      have hck : Wc.cell? ⟨g2, kk, none⟩ = some (.int .i32 zk) := by
        have h := (lies_of_own HO2.out).take (k := m) (by omega)
        rw [List.take_left' (by simp [HL.out])] at h
        obtain ⟨b1', o1', e1', _, hx⟩ := byte_at h (by omega)
        cases e1'
        rw [hzk]
        have := hx kk hkm
        rwa [Nat.zero_add] at this
      have hfk : Wc.frozen? ⟨g2, kk, none⟩ = false := by simp [World.frozen?, HG2.out]
      have xc1 := HXc.out.c1
      obtain ⟨a0, a1, b0, b1, zc0, zc1⟩ := HK.out _ hbc
      rw [hzN] at zc0
      have HZK := hide hzk
      have HKK := hide hkk
      clear hzk hkk
      go_wp2_with fail
      go_region
      have hxr : -2147483648 ≤ bits .xor .i32 zk zb ∧ bits .xor .i32 zk zb ≤ 2147483647 := ⟨bits_lo_i32 _ _ _, bits_hi_i32 _ _ _⟩
      have hlk : kk < l.length := by rw [HL.out]; exact hkm
      have hzr : -2147483648 ≤ zk ∧ zk < 2147483648 := by
        rw [HZK.out]
        have := HWL.out l[kk] (List.getElem_mem _)
        simpa [List.getD, hlk] using this
      have HEQ : Hid (decide (s = s ∧ l = l.set kk (bits .xor .i32 zk zb)) = decide (zb = 0)) := hide (decide_eq_decide.2 (by
        rw [← xor_same zk zb hzr hzb]
        constructor
        · rintro ⟨_, h⟩
          have h2 := congrArg (fun t => List.getD t kk 0) h
          change l.getD kk 0 = (l.set kk (bits .xor .i32 zk zb)).getD kk 0 at h2
          rw [← HZK.out] at h2
          simpa [List.getD, hlk] using h2.symm
        · intro h
          refine ⟨rfl, ?_⟩
          rw [h, HZK.out]
          apply List.ext_getElem?
          intro q
          rw [List.getElem?_set]
          split
          · rename_i e
            subst e
            simp [List.getD, hlk]
          · rfl))
      obtain ⟨x, hx⟩ : ∃ x, x = bits .xor .i32 zk zb := ⟨_, rfl⟩
      rw [← hx] at HEQ ⊢
      obtain ⟨WF, hWF⟩ : ∃ WF, WF = (Wc.setCell ⟨g2, kk, none⟩ (.int .i32 x)).drew := ⟨_, rfl⟩
      have hbF : Below W.heap.size W WF := by rw [hWF]; exact below_drewN (hbc.setCell (p := ⟨g2, kk, none⟩) (by have := HO2.out.lt g2 rfl; simp; omega) (.int .i32 x)) 1
      have HXF : Hid (BoxT WF w10.heap.size (.slice (some ⟨g1, 0, none⟩) n (n + 1)) (.slice (some ⟨g2, 0, none⟩) m (m + 1))) := hide (by rw [hWF]; exact (Below.heap_setCell Wc ⟨g2, kk, none⟩ (.int .i32 x) w10.heap.size (by simp; omega)).trans HXc.out)
      have HF1 : Hid (Lies WF (some ⟨g1, 0, none⟩) n (s.map (Value.int .i64))) := hide (by
        have h := (lies_of_own (World.ownsRow.drew (own_setCell' HO1.out (a := ⟨g2, kk, none⟩) hgne (.int .i32 x)))).take (k := n) (by omega)
        rw [List.take_left' (by have := HA.out.len; simpa using this)] at h
        rw [hWF]
        exact h)
      have HF2 : Hid (Lies WF (some ⟨g2, 0, none⟩) m ((l.set kk x).map (Value.int .i32))) := hide (by
        have h := (lies_of_own HO2.out).take (k := m) (by omega)
        rw [List.take_left' (by simp [HL.out])] at h
        obtain ⟨b1', o1', e1', _, hy⟩ := h.cells (by omega)
        cases e1'
        refine ⟨by simp [HL.out], fun _ => ⟨g2, 0, rfl, ?_, fun q hq => ?_⟩⟩
        · rw [hWF]; simp; exact lt_of_heap HG2.out
        · rw [hWF, Nat.zero_add]
          by_cases e : q = kk
          · subst e
            rw [show (Wc.setCell ⟨g2, q, none⟩ (.int .i32 x)).drew.cell? ⟨g2, q, none⟩ = (Wc.setCell ⟨g2, q, none⟩ (.int .i32 x)).cell? ⟨g2, q, none⟩ from rfl, World.cell?_setCell_same' _ _ _ (by rw [hck]; rfl)]
            simp [hlk]
          · have hne : (⟨g2, kk, none⟩ : Addr) ≠ ⟨g2, q, none⟩ := by intro h; cases h; exact e rfl
            rw [show (Wc.setCell ⟨g2, kk, none⟩ (.int .i32 x)).drew.cell? ⟨g2, q, none⟩ = (Wc.setCell ⟨g2, kk, none⟩ (.int .i32 x)).cell? ⟨g2, q, none⟩ from rfl, World.cell?_setCell_other _ _ _ _ hne]
            have := hy q hq
            rw [Nat.zero_add] at this
            rw [this]
            simp [List.getElem?_set, show ¬ kk = q from fun h => e h.symm])
      rw [← hWF]
      clear hWF HXc HO1 HO2 HG2 hck hfk xc1 a0 a1 b0 b1 zc0 zc1
      obtain ⟨a0, a1, _, _, _, zc1⟩ := HK.out _ hbF
      have xc0 := HXF.out.c0
      have xc1 := HXF.out.c1
      have HKF : Hid (∀ w', Below WF.heap.size WF w' → w'.cell? ⟨w.heap.size, 0, none⟩ = some (.slice A n c) ∧ w'.cell? ⟨w.heap.size, 1, none⟩ = some (.slice B m d) ∧ w'.cell? ⟨w10.heap.size, 0, none⟩ = some (.slice (some ⟨g1, 0, none⟩) n (n + 1)) ∧ w'.cell? ⟨w10.heap.size, 1, none⟩ = some (.slice (some ⟨g2, 0, none⟩) m (m + 1)) ∧ w'.cell? ⟨w.heap.size + 2, 1, none⟩ = some (.int .i32 zb)) := hide (fun w' hb =>
        ⟨(HK.out _ (hbF.trans (hb.mono hbF.size))).1, (HK.out _ (hbF.trans (hb.mono hbF.size))).2.1, (HXF.out.kept hb).c0, (HXF.out.kept hb).c1, (HK.out _ (hbF.trans (hb.mono hbF.size))).2.2.2.2.2⟩)
      have hf0 : Below WF.heap.size WF (WF.drewN 1) := below_drewN (Below.refl _ WF) 1
      have HCS : Hid (Calls Try.prog 12 #[tenV A n c B m d, tenV (some ⟨g1, 0, none⟩) n (n + 1) (some ⟨g2, 0, none⟩) m (m + 1)] (WF.drewN 1) fun e w' => e = .returned (.bool (decide (zb = 0))) ∧ Below WF.heap.size WF w') := hide (by
        refine (tsame_any A B (some ⟨g1, 0, none⟩) (some ⟨g2, 0, none⟩) n c m d n (n + 1) m (m + 1) s l s (l.set kk x) (WF.drewN 1) ((HA.out.below hbF).drewN 1) ((HB.out.below hbF).drewN 1) (HF1.out.drewN 1) (HF2.out.drewN 1) (by omega) (by omega)).mono ?_
        rintro e w' ⟨rfl, hb⟩
        exact ⟨by rw [HEQ.out], hf0.trans hb⟩)
      clear HEQ
      go_wp2
      have hsF := hbF.size
      by_cases hz0 : zb = 0
      · rw [decide_eq_true hz0] at HCS
        subst hz0
        go_region_held3 (fun w' => w'.cell? ⟨w.heap.size, 0, none⟩ = some (.slice A n c) ∧ w'.cell? ⟨w.heap.size, 1, none⟩ = some (.slice B m d) ∧ w'.cell? ⟨w10.heap.size, 0, none⟩ = some (.slice (some ⟨g1, 0, none⟩) n (n + 1)) ∧ w'.cell? ⟨w10.heap.size, 1, none⟩ = some (.slice (some ⟨g2, 0, none⟩) m (m + 1)) ∧ w'.cell? ⟨w.heap.size + 2, 1, none⟩ = some (.int .i32 0))
          (first | (exact HKF.out _ hbS) | (exact HKF.out _ hf0) | (exact HKF.out _ (Below.refl _ WF)) | go_keep)
          (first | (go_at_call 12; refine Calls.mono HCS.out ?_; rintro e wS ⟨rfl, hbS⟩))
        have HBF := hide (HB0.out.trans ((hbF.trans (hbS.mono hsF)).mono hsW))
        go_wp2
        go_ret
        exact ⟨rfl, HBF.out⟩
      · rw [decide_eq_false hz0] at HCS
        have hzb2 : (zb == 0) = false := beq_eq_false_iff_ne.2 hz0
        go_region_held3 (fun w' => w'.cell? ⟨w.heap.size, 0, none⟩ = some (.slice A n c) ∧ w'.cell? ⟨w.heap.size, 1, none⟩ = some (.slice B m d) ∧ w'.cell? ⟨w10.heap.size, 0, none⟩ = some (.slice (some ⟨g1, 0, none⟩) n (n + 1)) ∧ w'.cell? ⟨w10.heap.size, 1, none⟩ = some (.slice (some ⟨g2, 0, none⟩) m (m + 1)) ∧ w'.cell? ⟨w.heap.size + 2, 1, none⟩ = some (.int .i32 zb))
          (first | (exact HKF.out _ hbS) | (exact HKF.out _ hf0) | (exact HKF.out _ (Below.refl _ WF)) | go_keep)
          (first | (go_at_call 12; refine Calls.mono HCS.out ?_; rintro e wS ⟨rfl, hbS⟩))
        have HBF := hide (HB0.out.trans ((hbF.trans (hbS.mono hsF)).mono hsW))
        go_wp2
        go_ret
        exact ⟨rfl, HBF.out⟩

theorem same5_any (A B A' B' : Option Addr) (n c m d n' c' m' d' : Nat) (s l s' l' : List Int) (za zb : Int) (w : World) (hA : Lies w A n (s.map (Value.int .i64))) (hB : Lies w B m (l.map (Value.int .i32))) (hA' : Lies w A' n' (s'.map (Value.int .i64))) (hB' : Lies w B' m' (l'.map (Value.int .i32)))
    (wl : Words l) (wl' : Words l') (hza : 0 ≤ za ∧ za < 65536) (hzb : -2147483648 ≤ zb ∧ zb < 2147483648)
    (hn : n * 8 ≤ 140737488351232) (hm : m * 4 ≤ 140737488351232) (hn' : n' * 8 ≤ 140737488351232) (hm' : m' * 4 ≤ 140737488351232) :
    Calls Try.prog 4 #[tenV A n c B m d, tenV A' n' c' B' m' d', .agg #[.int .u16 za, .int .i32 zb]] w fun e w' => e = .returned (.bool true) ∧ Below w.heap.size w w' := by
  by_cases h : tsz n m + tsz n' m' ≤ 1048576
  · exact same5_near A B A' B' n c m d n' c' m' d' s l s' l' za zb w hA hB hA' hB' wl wl' hza hzb (by omega) (by omega) (by omega) (by omega) h
  · exact same5_far A B A' B' n c m d n' c' m' d' za zb w (by omega) (by omega) (by omega) (by omega) (by omega)
end Go.Proofs.Ytaoobdnbjagpnaa
