/- Contracts of package maths: Add, Mul, Relu, Shift. -/
import Derived.Test.YthdicobagmhpcaaMa4
namespace Go.Proofs.Ythdicobagmhpcaa
open Go.RowKit
set_option linter.unusedVariables false
set_option linter.unusedSimpArgs false
set_option maxRecDepth 20000

set_option maxHeartbeats 1000000 in
theorem add_bad (A B A' B' : Option Addr) (n c m d n' c' m' d' : Nat) (s l s' l' : List Int) (w : World) (hA : Lies w A n (s.map (Value.int .i64))) (hB : Lies w B m (l.map (Value.int .i32))) (hA' : Lies w A' n' (s'.map (Value.int .i64))) (hB' : Lies w B' m' (l'.map (Value.int .i32))) (hn : n ≤ 281474976710656) (hn' : n' ≤ 281474976710656) (hbad : ¬ (tenOk s m = true ∧ tenOk s' m' = true ∧ s = s')) :
    Calls Try.prog 11 #[tenV A n c B m d, tenV A' n' c' B' m' d'] w fun e w' => e = .returned (.tuple #[tenV none 0 0 none 0 0, .int .i64 (twoE s m s' m')]) ∧ Below w.heap.size w w' := by
  obtain ⟨W0, hW0⟩ : ∃ W0, W0 = ((w.alloc (.cells #[.slice A n c, .slice B m d] 25)).alloc (.cells #[.slice A' n' c', .slice B' m' d'] 25)).alloc (.cells #[.slice none 0 0, .slice none 0 0] 25) := ⟨_, rfl⟩
  have HB0 : Hid (Below w.heap.size w W0) := hide (by rw [hW0]; exact (((Below.refl w.heap.size w).alloc (Nat.le_refl _) _).alloc (by simp only [World.size_alloc]; omega) _).alloc (by simp only [World.size_alloc]; omega) _)
  have hs0 : W0.heap.size = w.heap.size + 3 := by rw [hW0]; simp
  have HX0 : Hid (BoxT W0 w.heap.size (.slice A n c) (.slice B m d)) := hide (by rw [hW0]; exact ((BoxT.new w _ _).alloc _).alloc _)
  have HX1 : Hid (BoxT W0 (w.heap.size + 1) (.slice A' n' c') (.slice B' m' d')) := hide (by
    rw [hW0]
    have h := (BoxT.new (w.alloc (.cells #[.slice A n c, .slice B m d] 25)) (.slice A' n' c') (.slice B' m' d')).alloc (.cells #[.slice none 0 0, .slice none 0 0] 25)
    rwa [World.size_alloc] at h)
  have HXR : Hid (BoxT W0 (w.heap.size + 2) (.slice none 0 0) (.slice none 0 0)) := hide (by
    rw [hW0]
    have h := BoxT.new ((w.alloc (.cells #[.slice A n c, .slice B m d] 25)).alloc (.cells #[.slice A' n' c', .slice B' m' d'] 25)) (.slice none 0 0) (.slice none 0 0)
    rwa [World.size_alloc, World.size_alloc] at h)
  have hW0' := hW0.symm
  clear hW0
  have HA := hide (hA.below HB0.out)
  have HB := hide (hB.below HB0.out)
  have HA' := hide (hA'.below HB0.out)
  have HB' := hide (hB'.below HB0.out)
  clear hA hB hA' hB'
  have a0 := HX0.out.c0
  have a1 := HX0.out.c1
  have b0 := HX1.out.c0
  have b1 := HX1.out.c1
  obtain ⟨E, hE⟩ : ∃ E, E = twoE s m s' m' := ⟨_, rfl⟩
  have HE := hide hE
  rw [← hE]
  clear hE
  go_enter Try.func11, Try.ntmps11
  go_wp2_with fail
  refine Calls.mono (ofTwo_add_bad A B A' B' n c m d n' c' m' d' s l s' l' _ HA.out HB.out HA'.out HB'.out hn hn' hbad) ?_
  rw [← HE.out]
  rintro e w1 ⟨rfl, hb⟩
  have r0 := (HXR.out.kept hb).c0
  have r1 := (HXR.out.kept hb).c1
  have rf0 := (HXR.out.kept hb).f0 0
  have rf1 := (HXR.out.kept hb).f0 1
  have HBB := hide (HB0.out.trans (hb.mono (by omega)))
  have HXF := hide (HXR.out.kept hb)
  clear hb hbad
  go_wp2
  (try simp only [Exit.inBlock, Exit.then])
  refine ret_ten (p := 4) (u := 5) rfl rfl (w.heap.size + 2) _ rfl (HXF.out.set2 _ _) rfl ?_
  exact ⟨rfl, (HBB.out.setCell (by dsimp only; omega) _).setCell (by dsimp only; omega) _⟩

set_option maxHeartbeats 1000000 in
theorem add_ok (A B A' B' : Option Addr) (n c m d c' d' : Nat) (s l l' : List Int) (w : World) (hA : Lies w A n (s.map (Value.int .i64))) (hB : Lies w B m (l.map (Value.int .i32))) (hA' : Lies w A' n (s.map (Value.int .i64))) (hB' : Lies w B' m (l'.map (Value.int .i32))) (hok : tenOk s m = true) :
    Calls Try.prog 11 #[tenV A n c B m d, tenV A' n c' B' m d'] w fun e w' => ∃ g1 c1 g2, e = .returned (.tuple #[tenV (some ⟨g1, 0, none⟩) n c1 (some ⟨g2, 0, none⟩) m m, .int .i64 0]) ∧
      w'.ownsRow w.heap.size 3 1 (.slice (some ⟨g1, 0, none⟩) n c1) n (s.map (Value.int .i64)) ∧ w'.ownsRow w.heap.size 21 1 (.slice (some ⟨g2, 0, none⟩) m m) m ((List.zipWith add32 l l').map (Value.int .i32)) ∧ g1 ≠ g2 ∧ Below w.heap.size w w' := by
  obtain ⟨W0, hW0⟩ : ∃ W0, W0 = ((w.alloc (.cells #[.slice A n c, .slice B m d] 25)).alloc (.cells #[.slice A' n c', .slice B' m d'] 25)).alloc (.cells #[.slice none 0 0, .slice none 0 0] 25) := ⟨_, rfl⟩
  have HB0 : Hid (Below w.heap.size w W0) := hide (by rw [hW0]; exact (((Below.refl w.heap.size w).alloc (Nat.le_refl _) _).alloc (by simp only [World.size_alloc]; omega) _).alloc (by simp only [World.size_alloc]; omega) _)
  have hs0 : W0.heap.size = w.heap.size + 3 := by rw [hW0]; simp
  have HX0 : Hid (BoxT W0 w.heap.size (.slice A n c) (.slice B m d)) := hide (by rw [hW0]; exact ((BoxT.new w _ _).alloc _).alloc _)
  have HX1 : Hid (BoxT W0 (w.heap.size + 1) (.slice A' n c') (.slice B' m d')) := hide (by
    rw [hW0]
    have h := (BoxT.new (w.alloc (.cells #[.slice A n c, .slice B m d] 25)) (.slice A' n c') (.slice B' m d')).alloc (.cells #[.slice none 0 0, .slice none 0 0] 25)
    rwa [World.size_alloc] at h)
  have HXR : Hid (BoxT W0 (w.heap.size + 2) (.slice none 0 0) (.slice none 0 0)) := hide (by
    rw [hW0]
    have h := BoxT.new ((w.alloc (.cells #[.slice A n c, .slice B m d] 25)).alloc (.cells #[.slice A' n c', .slice B' m d'] 25)) (.slice none 0 0) (.slice none 0 0)
    rwa [World.size_alloc, World.size_alloc] at h)
  have hW0' := hW0.symm
  clear hW0
  have HA := hide (hA.below HB0.out)
  have HB := hide (hB.below HB0.out)
  have HA' := hide (hA'.below HB0.out)
  have HB' := hide (hB'.below HB0.out)
  clear hA hB hA' hB'
  have a0 := HX0.out.c0
  have a1 := HX0.out.c1
  have b0 := HX1.out.c0
  have b1 := HX1.out.c1
  go_enter Try.func11, Try.ntmps11
  go_wp2_with fail
  refine Calls.mono (ofTwo_add_ok A B A' B' n c m d c' d' s l l' _ HA.out HB.out HA'.out HB'.out hok) ?_
  rintro e w1 ⟨g1, c1, g2, rfl, ho1, ho2, hne, hb⟩
  have r0 := (HXR.out.kept hb).c0
  have r1 := (HXR.out.kept hb).c1
  have rf0 := (HXR.out.kept hb).f0 0
  have rf1 := (HXR.out.kept hb).f0 1
  have lt1 := ho1.lt g1 rfl
  have lt2 := ho2.lt g2 rfl
  have HBB := hide (HB0.out.trans (hb.mono (by omega)))
  have HXF := hide (HXR.out.kept hb)
  have HO1 := hide ho1
  have HO2 := hide ho2
  clear hb ho1 ho2
  go_wp2
  (try simp only [Exit.inBlock, Exit.then])
  refine ret_ten (p := 4) (u := 5) rfl rfl (w.heap.size + 2) _ rfl (HXF.out.set2 _ _) rfl ?_
  refine ⟨g1, c1, g2, rfl, ?_, ?_, hne, (HBB.out.setCell (by dsimp only; omega) _).setCell (by dsimp only; omega) _⟩
  · exact own_base (own_setCell' (own_setCell' HO1.out (by dsimp only; omega) _) (by dsimp only; omega) _) (by omega)
  · exact own_base (own_setCell' (own_setCell' HO2.out (by dsimp only; omega) _) (by dsimp only; omega) _) (by omega)

/-- Both ways out: what it answers lies in memory of its own. -/
theorem add_own (A B A' B' : Option Addr) (n c m d n' c' m' d' : Nat) (s l s' l' : List Int) (w : World) (hA : Lies w A n (s.map (Value.int .i64))) (hB : Lies w B m (l.map (Value.int .i32))) (hA' : Lies w A' n' (s'.map (Value.int .i64))) (hB' : Lies w B' m' (l'.map (Value.int .i32))) (hn : n ≤ 281474976710656) (hn' : n' ≤ 281474976710656) :
    Calls Try.prog 11 #[tenV A n c B m d, tenV A' n' c' B' m' d'] w fun e w' => ∃ A1 k1 c1 A2 k2 c2, e = .returned (.tuple #[tenV A1 k1 c1 A2 k2 c2, .int .i64 (twoE s m s' m')]) ∧
      w'.ownsRow w.heap.size 3 1 (.slice A1 k1 c1) k1 ((twoS s m s' m').map (Value.int .i64)) ∧ w'.ownsRow w.heap.size 21 1 (.slice A2 k2 c2) k2 ((twoL add32 s m s' m' l l').map (Value.int .i32)) ∧ k1 ≤ 4 ∧ k2 ≤ 4096 ∧ Below w.heap.size w w' := by
  by_cases h : tenOk s m = true ∧ tenOk s' m' = true ∧ s = s'
  · obtain ⟨h1, h2, rfl⟩ := h
    obtain ⟨q1, q2⟩ := tenOk_iff.1 h1
    obtain ⟨q3, q4⟩ := tenOk_iff.1 h2
    obtain ⟨hn1, hn4, _⟩ := sizeI_pos q1
    have hm4 : m ≤ 4096 := by have := sizeI_le s; omega
    obtain rfl : m' = m := by omega
    have hl1 : s.length = n := by have := hA.len; simpa using this
    have hl2 : s.length = n' := by have := hA'.len; simpa using this
    obtain rfl : n' = n := by omega
    refine (add_ok A B A' B' n' c m' d c' d' s l l' w hA hB hA' hB' h1).mono ?_
    rintro e w' ⟨g1, c1, g2, rfl, ho1, ho2, hne, hb⟩
    have hz := twoE_ok h1 h2 rfl
    exact ⟨_, _, _, _, _, _, by rw [hz], by rw [twoS, if_pos hz]; exact ho1, by rw [twoL, if_pos hz]; exact ho2, by omega, hm4, hb⟩
  · refine (add_bad A B A' B' n c m d n' c' m' d' s l s' l' w hA hB hA' hB' hn hn' h).mono ?_
    rintro e w' ⟨rfl, hb⟩
    have hz : ¬ twoE s m s' m' = 0 := fun e => h (twoE_iff.1 e)
    exact ⟨none, 0, 0, none, 0, 0, rfl, by rw [twoS, if_neg hz]; exact World.ownsRow_nil _ _ _ _, by rw [twoL, if_neg hz]; exact World.ownsRow_nil _ _ _ _, by omega, by omega, hb⟩

set_option maxHeartbeats 1000000 in
theorem mul_bad (A B A' B' : Option Addr) (n c m d n' c' m' d' : Nat) (s l s' l' : List Int) (w : World) (hA : Lies w A n (s.map (Value.int .i64))) (hB : Lies w B m (l.map (Value.int .i32))) (hA' : Lies w A' n' (s'.map (Value.int .i64))) (hB' : Lies w B' m' (l'.map (Value.int .i32))) (hn : n ≤ 281474976710656) (hn' : n' ≤ 281474976710656) (hbad : ¬ (tenOk s m = true ∧ tenOk s' m' = true ∧ s = s')) :
    Calls Try.prog 13 #[tenV A n c B m d, tenV A' n' c' B' m' d'] w fun e w' => e = .returned (.tuple #[tenV none 0 0 none 0 0, .int .i64 (twoE s m s' m')]) ∧ Below w.heap.size w w' := by
  obtain ⟨W0, hW0⟩ : ∃ W0, W0 = ((w.alloc (.cells #[.slice A n c, .slice B m d] 25)).alloc (.cells #[.slice A' n' c', .slice B' m' d'] 25)).alloc (.cells #[.slice none 0 0, .slice none 0 0] 25) := ⟨_, rfl⟩
  have HB0 : Hid (Below w.heap.size w W0) := hide (by rw [hW0]; exact (((Below.refl w.heap.size w).alloc (Nat.le_refl _) _).alloc (by simp only [World.size_alloc]; omega) _).alloc (by simp only [World.size_alloc]; omega) _)
  have hs0 : W0.heap.size = w.heap.size + 3 := by rw [hW0]; simp
  have HX0 : Hid (BoxT W0 w.heap.size (.slice A n c) (.slice B m d)) := hide (by rw [hW0]; exact ((BoxT.new w _ _).alloc _).alloc _)
  have HX1 : Hid (BoxT W0 (w.heap.size + 1) (.slice A' n' c') (.slice B' m' d')) := hide (by
    rw [hW0]
    have h := (BoxT.new (w.alloc (.cells #[.slice A n c, .slice B m d] 25)) (.slice A' n' c') (.slice B' m' d')).alloc (.cells #[.slice none 0 0, .slice none 0 0] 25)
    rwa [World.size_alloc] at h)
  have HXR : Hid (BoxT W0 (w.heap.size + 2) (.slice none 0 0) (.slice none 0 0)) := hide (by
    rw [hW0]
    have h := BoxT.new ((w.alloc (.cells #[.slice A n c, .slice B m d] 25)).alloc (.cells #[.slice A' n' c', .slice B' m' d'] 25)) (.slice none 0 0) (.slice none 0 0)
    rwa [World.size_alloc, World.size_alloc] at h)
  have hW0' := hW0.symm
  clear hW0
  have HA := hide (hA.below HB0.out)
  have HB := hide (hB.below HB0.out)
  have HA' := hide (hA'.below HB0.out)
  have HB' := hide (hB'.below HB0.out)
  clear hA hB hA' hB'
  have a0 := HX0.out.c0
  have a1 := HX0.out.c1
  have b0 := HX1.out.c0
  have b1 := HX1.out.c1
  obtain ⟨E, hE⟩ : ∃ E, E = twoE s m s' m' := ⟨_, rfl⟩
  have HE := hide hE
  rw [← hE]
  clear hE
  go_enter Try.func13, Try.ntmps13
  go_wp2_with fail
  refine Calls.mono (ofTwo_mul_bad A B A' B' n c m d n' c' m' d' s l s' l' _ HA.out HB.out HA'.out HB'.out hn hn' hbad) ?_
  rw [← HE.out]
  rintro e w1 ⟨rfl, hb⟩
  have r0 := (HXR.out.kept hb).c0
  have r1 := (HXR.out.kept hb).c1
  have rf0 := (HXR.out.kept hb).f0 0
  have rf1 := (HXR.out.kept hb).f0 1
  have HBB := hide (HB0.out.trans (hb.mono (by omega)))
  have HXF := hide (HXR.out.kept hb)
  clear hb hbad
  go_wp2
  (try simp only [Exit.inBlock, Exit.then])
  refine ret_ten (p := 4) (u := 5) rfl rfl (w.heap.size + 2) _ rfl (HXF.out.set2 _ _) rfl ?_
  exact ⟨rfl, (HBB.out.setCell (by dsimp only; omega) _).setCell (by dsimp only; omega) _⟩

set_option maxHeartbeats 1000000 in
theorem mul_ok (A B A' B' : Option Addr) (n c m d c' d' : Nat) (s l l' : List Int) (w : World) (hA : Lies w A n (s.map (Value.int .i64))) (hB : Lies w B m (l.map (Value.int .i32))) (hA' : Lies w A' n (s.map (Value.int .i64))) (hB' : Lies w B' m (l'.map (Value.int .i32))) (hok : tenOk s m = true) :
    Calls Try.prog 13 #[tenV A n c B m d, tenV A' n c' B' m d'] w fun e w' => ∃ g1 c1 g2, e = .returned (.tuple #[tenV (some ⟨g1, 0, none⟩) n c1 (some ⟨g2, 0, none⟩) m m, .int .i64 0]) ∧
      w'.ownsRow w.heap.size 3 1 (.slice (some ⟨g1, 0, none⟩) n c1) n (s.map (Value.int .i64)) ∧ w'.ownsRow w.heap.size 21 1 (.slice (some ⟨g2, 0, none⟩) m m) m ((List.zipWith mul32 l l').map (Value.int .i32)) ∧ g1 ≠ g2 ∧ Below w.heap.size w w' := by
  obtain ⟨W0, hW0⟩ : ∃ W0, W0 = ((w.alloc (.cells #[.slice A n c, .slice B m d] 25)).alloc (.cells #[.slice A' n c', .slice B' m d'] 25)).alloc (.cells #[.slice none 0 0, .slice none 0 0] 25) := ⟨_, rfl⟩
  have HB0 : Hid (Below w.heap.size w W0) := hide (by rw [hW0]; exact (((Below.refl w.heap.size w).alloc (Nat.le_refl _) _).alloc (by simp only [World.size_alloc]; omega) _).alloc (by simp only [World.size_alloc]; omega) _)
  have hs0 : W0.heap.size = w.heap.size + 3 := by rw [hW0]; simp
  have HX0 : Hid (BoxT W0 w.heap.size (.slice A n c) (.slice B m d)) := hide (by rw [hW0]; exact ((BoxT.new w _ _).alloc _).alloc _)
  have HX1 : Hid (BoxT W0 (w.heap.size + 1) (.slice A' n c') (.slice B' m d')) := hide (by
    rw [hW0]
    have h := (BoxT.new (w.alloc (.cells #[.slice A n c, .slice B m d] 25)) (.slice A' n c') (.slice B' m d')).alloc (.cells #[.slice none 0 0, .slice none 0 0] 25)
    rwa [World.size_alloc] at h)
  have HXR : Hid (BoxT W0 (w.heap.size + 2) (.slice none 0 0) (.slice none 0 0)) := hide (by
    rw [hW0]
    have h := BoxT.new ((w.alloc (.cells #[.slice A n c, .slice B m d] 25)).alloc (.cells #[.slice A' n c', .slice B' m d'] 25)) (.slice none 0 0) (.slice none 0 0)
    rwa [World.size_alloc, World.size_alloc] at h)
  have hW0' := hW0.symm
  clear hW0
  have HA := hide (hA.below HB0.out)
  have HB := hide (hB.below HB0.out)
  have HA' := hide (hA'.below HB0.out)
  have HB' := hide (hB'.below HB0.out)
  clear hA hB hA' hB'
  have a0 := HX0.out.c0
  have a1 := HX0.out.c1
  have b0 := HX1.out.c0
  have b1 := HX1.out.c1
  go_enter Try.func13, Try.ntmps13
  go_wp2_with fail
  refine Calls.mono (ofTwo_mul_ok A B A' B' n c m d c' d' s l l' _ HA.out HB.out HA'.out HB'.out hok) ?_
  rintro e w1 ⟨g1, c1, g2, rfl, ho1, ho2, hne, hb⟩
  have r0 := (HXR.out.kept hb).c0
  have r1 := (HXR.out.kept hb).c1
  have rf0 := (HXR.out.kept hb).f0 0
  have rf1 := (HXR.out.kept hb).f0 1
  have lt1 := ho1.lt g1 rfl
  have lt2 := ho2.lt g2 rfl
  have HBB := hide (HB0.out.trans (hb.mono (by omega)))
  have HXF := hide (HXR.out.kept hb)
  have HO1 := hide ho1
  have HO2 := hide ho2
  clear hb ho1 ho2
  go_wp2
  (try simp only [Exit.inBlock, Exit.then])
  refine ret_ten (p := 4) (u := 5) rfl rfl (w.heap.size + 2) _ rfl (HXF.out.set2 _ _) rfl ?_
  refine ⟨g1, c1, g2, rfl, ?_, ?_, hne, (HBB.out.setCell (by dsimp only; omega) _).setCell (by dsimp only; omega) _⟩
  · exact own_base (own_setCell' (own_setCell' HO1.out (by dsimp only; omega) _) (by dsimp only; omega) _) (by omega)
  · exact own_base (own_setCell' (own_setCell' HO2.out (by dsimp only; omega) _) (by dsimp only; omega) _) (by omega)

/-- Both ways out: what it answers lies in memory of its own. -/
theorem mul_own (A B A' B' : Option Addr) (n c m d n' c' m' d' : Nat) (s l s' l' : List Int) (w : World) (hA : Lies w A n (s.map (Value.int .i64))) (hB : Lies w B m (l.map (Value.int .i32))) (hA' : Lies w A' n' (s'.map (Value.int .i64))) (hB' : Lies w B' m' (l'.map (Value.int .i32))) (hn : n ≤ 281474976710656) (hn' : n' ≤ 281474976710656) :
    Calls Try.prog 13 #[tenV A n c B m d, tenV A' n' c' B' m' d'] w fun e w' => ∃ A1 k1 c1 A2 k2 c2, e = .returned (.tuple #[tenV A1 k1 c1 A2 k2 c2, .int .i64 (twoE s m s' m')]) ∧
      w'.ownsRow w.heap.size 3 1 (.slice A1 k1 c1) k1 ((twoS s m s' m').map (Value.int .i64)) ∧ w'.ownsRow w.heap.size 21 1 (.slice A2 k2 c2) k2 ((twoL mul32 s m s' m' l l').map (Value.int .i32)) ∧ k1 ≤ 4 ∧ k2 ≤ 4096 ∧ Below w.heap.size w w' := by
  by_cases h : tenOk s m = true ∧ tenOk s' m' = true ∧ s = s'
  · obtain ⟨h1, h2, rfl⟩ := h
    obtain ⟨q1, q2⟩ := tenOk_iff.1 h1
    obtain ⟨q3, q4⟩ := tenOk_iff.1 h2
    obtain ⟨hn1, hn4, _⟩ := sizeI_pos q1
    have hm4 : m ≤ 4096 := by have := sizeI_le s; omega
    obtain rfl : m' = m := by omega
    have hl1 : s.length = n := by have := hA.len; simpa using this
    have hl2 : s.length = n' := by have := hA'.len; simpa using this
    obtain rfl : n' = n := by omega
    refine (mul_ok A B A' B' n' c m' d c' d' s l l' w hA hB hA' hB' h1).mono ?_
    rintro e w' ⟨g1, c1, g2, rfl, ho1, ho2, hne, hb⟩
    have hz := twoE_ok h1 h2 rfl
    exact ⟨_, _, _, _, _, _, by rw [hz], by rw [twoS, if_pos hz]; exact ho1, by rw [twoL, if_pos hz]; exact ho2, by omega, hm4, hb⟩
  · refine (mul_bad A B A' B' n c m d n' c' m' d' s l s' l' w hA hB hA' hB' hn hn' h).mono ?_
    rintro e w' ⟨rfl, hb⟩
    have hz : ¬ twoE s m s' m' = 0 := fun e => h (twoE_iff.1 e)
    exact ⟨none, 0, 0, none, 0, 0, rfl, by rw [twoS, if_neg hz]; exact World.ownsRow_nil _ _ _ _, by rw [twoL, if_neg hz]; exact World.ownsRow_nil _ _ _ _, by omega, by omega, hb⟩

/-- Why a tensor can't be taken. -/
def oneE (s : List Int) (m : Nat) : Int := if tenOk s m = true then 0 else 1
def oneS (s : List Int) (m : Nat) : List Int := if tenOk s m = true then s else []
def oneL (f : Int → Int) (s : List Int) (m : Nat) (l : List Int) : List Int := if tenOk s m = true then l.map f else []
def shE (s : List Int) (m : Nat) (n : Int) : Int := if tenOk s m = true ∧ 0 ≤ n ∧ n ≤ 31 then 0 else 1
def shS (s : List Int) (m : Nat) (n : Int) : List Int := if tenOk s m = true ∧ 0 ≤ n ∧ n ≤ 31 then s else []
def shL (s : List Int) (m : Nat) (n : Int) (l : List Int) : List Int := if tenOk s m = true ∧ 0 ≤ n ∧ n ≤ 31 then l.map (shf n.toNat) else []

set_option maxHeartbeats 1000000 in
theorem ofOne_relu_bad (A B : Option Addr) (n c m d : Nat) (s l : List Int) (w : World) (hA : Lies w A n (s.map (Value.int .i64))) (hB : Lies w B m (l.map (Value.int .i32))) (hn : n ≤ 281474976710656) (hbad : tenOk s m = false) :
    Calls Try.prog 36 #[tenV A n c B m d, .agg #[.func (.func 37) #[] #[]]] w fun e w' => e = .returned (.tuple #[tenV none 0 0 none 0 0, .int .i64 1]) ∧ Below w.heap.size w w' := by
  obtain ⟨W0, hW0⟩ : ∃ W0, W0 = ((w.alloc (.cells #[.slice A n c, .slice B m d] 25)).alloc (.cells #[.func (.func 37) #[] #[]] 62)).alloc (.cells #[.slice none 0 0, .slice none 0 0] 25) := ⟨_, rfl⟩
  have HB0 : Hid (Below w.heap.size w W0) := hide (by rw [hW0]; exact (((Below.refl w.heap.size w).alloc (Nat.le_refl _) _).alloc (by simp only [World.size_alloc]; omega) _).alloc (by simp only [World.size_alloc]; omega) _)
  have hs0 : W0.heap.size = w.heap.size + 3 := by rw [hW0]; simp
  have HX0 : Hid (BoxT W0 w.heap.size (.slice A n c) (.slice B m d)) := hide (by rw [hW0]; exact ((BoxT.new w _ _).alloc _).alloc _)
  have HXO : Hid (Box1 W0 (w.heap.size + 1) 62 (.func (.func 37) #[] #[])) := hide (by
    rw [hW0]
    have h := Box1.new (w.alloc (.cells #[.slice A n c, .slice B m d] 25)) (.func (.func 37) #[] #[]) 62
    rw [World.size_alloc] at h
    exact (Below.heap_alloc _ _ _ (by simp only [World.size_alloc]; omega)).trans h)
  have HXR : Hid (BoxT W0 (w.heap.size + 2) (.slice none 0 0) (.slice none 0 0)) := hide (by
    rw [hW0]
    have h := BoxT.new ((w.alloc (.cells #[.slice A n c, .slice B m d] 25)).alloc (.cells #[.func (.func 37) #[] #[]] 62)) (.slice none 0 0) (.slice none 0 0)
    rwa [World.size_alloc, World.size_alloc] at h)
  have hW0' := hW0.symm
  clear hW0
  have HA := hide (hA.below HB0.out)
  have HB := hide (hB.below HB0.out)
  clear hA hB
  have a0 := HX0.out.c0
  have a1 := HX0.out.c1
  have o0 := HXO.out.cell
  go_enter Try.func36, Try.ntmps36
  go_wp2_with fail
  refine Calls.mono (tcheck_any A B n c m d s _ HA.out hn) ?_
  rw [hbad]
  rintro e w1 ⟨rfl, hb⟩
  have r0 := (HXR.out.kept hb).c0
  have r1 := (HXR.out.kept hb).c1
  have rf0 := (HXR.out.kept hb).f0 0
  have rf1 := (HXR.out.kept hb).f0 1
  have HBB := hide (HB0.out.trans (hb.mono (by omega)))
  have HXF := hide (HXR.out.kept hb)
  clear hb
  go_wp2
  (try simp only [Exit.inBlock, Exit.then])
  refine ret_ten (p := 4) (u := 5) rfl rfl (w.heap.size + 2) _ rfl (HXF.out.set2 _ _) rfl ?_
  exact ⟨rfl, (HBB.out.setCell (by dsimp only; omega) _).setCell (by dsimp only; omega) _⟩

set_option maxHeartbeats 1000000 in
theorem ofOne_relu_ok (A B : Option Addr) (n c m d : Nat) (s l : List Int) (w : World) (hA : Lies w A n (s.map (Value.int .i64))) (hB : Lies w B m (l.map (Value.int .i32))) (hok : tenOk s m = true) :
    Calls Try.prog 36 #[tenV A n c B m d, .agg #[.func (.func 37) #[] #[]]] w fun e w' => ∃ g1 c1 g2, e = .returned (.tuple #[tenV (some ⟨g1, 0, none⟩) n c1 (some ⟨g2, 0, none⟩) m m, .int .i64 0]) ∧
      w'.ownsRow w.heap.size 3 1 (.slice (some ⟨g1, 0, none⟩) n c1) n (s.map (Value.int .i64)) ∧ w'.ownsRow w.heap.size 21 1 (.slice (some ⟨g2, 0, none⟩) m m) m ((l.map relu32).map (Value.int .i32)) ∧ g1 ≠ g2 ∧ Below w.heap.size w w' := by
  have hlen : s.length = n := by have := hA.len; simpa using this
  obtain ⟨q1, q2⟩ := tenOk_iff.1 hok
  obtain ⟨hn1, hn4, _⟩ := sizeI_pos q1
  rw [hlen] at hn1 hn4
  have hm4 : m ≤ 4096 := by have := sizeI_le s; omega
  have hmp : 0 < m := by omega
  have HQ := hide q2
  clear q1 q2 hlen
  obtain ⟨W0, hW0⟩ : ∃ W0, W0 = ((w.alloc (.cells #[.slice A n c, .slice B m d] 25)).alloc (.cells #[.func (.func 37) #[] #[]] 62)).alloc (.cells #[.slice none 0 0, .slice none 0 0] 25) := ⟨_, rfl⟩
  have HB0 : Hid (Below w.heap.size w W0) := hide (by rw [hW0]; exact (((Below.refl w.heap.size w).alloc (Nat.le_refl _) _).alloc (by simp only [World.size_alloc]; omega) _).alloc (by simp only [World.size_alloc]; omega) _)
  have hs0 : W0.heap.size = w.heap.size + 3 := by rw [hW0]; simp
  have HX0 : Hid (BoxT W0 w.heap.size (.slice A n c) (.slice B m d)) := hide (by rw [hW0]; exact ((BoxT.new w _ _).alloc _).alloc _)
  have HXO : Hid (Box1 W0 (w.heap.size + 1) 62 (.func (.func 37) #[] #[])) := hide (by
    rw [hW0]
    have h := Box1.new (w.alloc (.cells #[.slice A n c, .slice B m d] 25)) (.func (.func 37) #[] #[]) 62
    rw [World.size_alloc] at h
    exact (Below.heap_alloc _ _ _ (by simp only [World.size_alloc]; omega)).trans h)
  have HXR : Hid (BoxT W0 (w.heap.size + 2) (.slice none 0 0) (.slice none 0 0)) := hide (by
    rw [hW0]
    have h := BoxT.new ((w.alloc (.cells #[.slice A n c, .slice B m d] 25)).alloc (.cells #[.func (.func 37) #[] #[]] 62)) (.slice none 0 0) (.slice none 0 0)
    rwa [World.size_alloc, World.size_alloc] at h)
  have hW0' := hW0.symm
  clear hW0
  have HA := hide (hA.below HB0.out)
  have HB := hide (hB.below HB0.out)
  clear hA hB
  have a0 := HX0.out.c0
  have a1 := HX0.out.c1
  have o0 := HXO.out.cell
  have HOK := hide hok
  clear hok
  go_enter Try.func36, Try.ntmps36
  go_wp2_with fail
  refine Calls.mono (tcheck_any A B n c m d s _ HA.out (by omega)) ?_
  rw [HOK.out]
  rintro e w1 ⟨rfl, hb1⟩
  clear a0 a1 o0
  have a0 := (HX0.out.kept hb1).c0
  have a1 := (HX0.out.kept hb1).c1
  have o0 := Box1.cell ((hb1.block _ HXO.out.lt).trans HXO.out)
  go_wp2_with fail
  refine Calls.mono (apply_relu A n c m s B d l _ (HA.out.below hb1) (HB.out.below hb1) HQ.out hmp) ?_
  rintro e w2 ⟨g1, c1, g2, rfl, ho1, ho2, hne, hb0⟩
  have hs1 := hb1.size
  have hb := hb1.trans (hb0.mono hb1.size)
  clear hb1 hb0
  have r0 := (HXR.out.kept hb).c0
  have r1 := (HXR.out.kept hb).c1
  have rf0 := (HXR.out.kept hb).f0 0
  have rf1 := (HXR.out.kept hb).f0 1
  have lt1 := ho1.lt g1 rfl
  have lt2 := ho2.lt g2 rfl
  have HBB := hide (HB0.out.trans (hb.mono (by omega)))
  have HXF := hide (HXR.out.kept hb)
  have HO1 := hide ho1
  have HO2 := hide ho2
  clear hb ho1 ho2
  go_wp2
  (try simp only [Exit.inBlock, Exit.then])
  refine ret_ten (p := 4) (u := 5) rfl rfl (w.heap.size + 2) _ rfl (HXF.out.set2 _ _) rfl ?_
  refine ⟨g1, c1, g2, rfl, ?_, ?_, hne, (HBB.out.setCell (by dsimp only; omega) _).setCell (by dsimp only; omega) _⟩
  · exact own_base (own_setCell' (own_setCell' HO1.out (by dsimp only; omega) _) (by dsimp only; omega) _) (by omega)
  · exact own_base (own_setCell' (own_setCell' HO2.out (by dsimp only; omega) _) (by dsimp only; omega) _) (by omega)

set_option maxHeartbeats 1000000 in
theorem ofOne_shift_bad (A B : Option Addr) (n c m d : Nat) (s l : List Int) (w : World) (hA : Lies w A n (s.map (Value.int .i64))) (hB : Lies w B m (l.map (Value.int .i32))) (pn : Addr) (hn : n ≤ 281474976710656) (hbad : tenOk s m = false) :
    Calls Try.prog 36 #[tenV A n c B m d, .agg #[.func (.func 38) #[] #[.pointer (some pn)]]] w fun e w' => e = .returned (.tuple #[tenV none 0 0 none 0 0, .int .i64 1]) ∧ Below w.heap.size w w' := by
  obtain ⟨W0, hW0⟩ : ∃ W0, W0 = ((w.alloc (.cells #[.slice A n c, .slice B m d] 25)).alloc (.cells #[.func (.func 38) #[] #[.pointer (some pn)]] 62)).alloc (.cells #[.slice none 0 0, .slice none 0 0] 25) := ⟨_, rfl⟩
  have HB0 : Hid (Below w.heap.size w W0) := hide (by rw [hW0]; exact (((Below.refl w.heap.size w).alloc (Nat.le_refl _) _).alloc (by simp only [World.size_alloc]; omega) _).alloc (by simp only [World.size_alloc]; omega) _)
  have hs0 : W0.heap.size = w.heap.size + 3 := by rw [hW0]; simp
  have HX0 : Hid (BoxT W0 w.heap.size (.slice A n c) (.slice B m d)) := hide (by rw [hW0]; exact ((BoxT.new w _ _).alloc _).alloc _)
  have HXO : Hid (Box1 W0 (w.heap.size + 1) 62 (.func (.func 38) #[] #[.pointer (some pn)])) := hide (by
    rw [hW0]
    have h := Box1.new (w.alloc (.cells #[.slice A n c, .slice B m d] 25)) (.func (.func 38) #[] #[.pointer (some pn)]) 62
    rw [World.size_alloc] at h
    exact (Below.heap_alloc _ _ _ (by simp only [World.size_alloc]; omega)).trans h)
  have HXR : Hid (BoxT W0 (w.heap.size + 2) (.slice none 0 0) (.slice none 0 0)) := hide (by
    rw [hW0]
    have h := BoxT.new ((w.alloc (.cells #[.slice A n c, .slice B m d] 25)).alloc (.cells #[.func (.func 38) #[] #[.pointer (some pn)]] 62)) (.slice none 0 0) (.slice none 0 0)
    rwa [World.size_alloc, World.size_alloc] at h)
  have hW0' := hW0.symm
  clear hW0
  have HA := hide (hA.below HB0.out)
  have HB := hide (hB.below HB0.out)
  clear hA hB
  have a0 := HX0.out.c0
  have a1 := HX0.out.c1
  have o0 := HXO.out.cell
  go_enter Try.func36, Try.ntmps36
  go_wp2_with fail
  refine Calls.mono (tcheck_any A B n c m d s _ HA.out hn) ?_
  rw [hbad]
  rintro e w1 ⟨rfl, hb⟩
  have r0 := (HXR.out.kept hb).c0
  have r1 := (HXR.out.kept hb).c1
  have rf0 := (HXR.out.kept hb).f0 0
  have rf1 := (HXR.out.kept hb).f0 1
  have HBB := hide (HB0.out.trans (hb.mono (by omega)))
  have HXF := hide (HXR.out.kept hb)
  clear hb
  go_wp2
  (try simp only [Exit.inBlock, Exit.then])
  refine ret_ten (p := 4) (u := 5) rfl rfl (w.heap.size + 2) _ rfl (HXF.out.set2 _ _) rfl ?_
  exact ⟨rfl, (HBB.out.setCell (by dsimp only; omega) _).setCell (by dsimp only; omega) _⟩

set_option maxHeartbeats 1000000 in
theorem ofOne_shift_ok (A B : Option Addr) (n c m d : Nat) (s l : List Int) (w : World) (hA : Lies w A n (s.map (Value.int .i64))) (hB : Lies w B m (l.map (Value.int .i32))) (bits : Nat) (pn : Addr) (hbits : bits ≤ 31) (hc : w.cell? pn = some (.int .i64 (bits : Int))) (hcb : pn.block < w.heap.size) (hw : ∀ z ∈ l, -2147483648 ≤ z ∧ z < 2147483648) (hok : tenOk s m = true) :
    Calls Try.prog 36 #[tenV A n c B m d, .agg #[.func (.func 38) #[] #[.pointer (some pn)]]] w fun e w' => ∃ g1 c1 g2, e = .returned (.tuple #[tenV (some ⟨g1, 0, none⟩) n c1 (some ⟨g2, 0, none⟩) m m, .int .i64 0]) ∧
      w'.ownsRow w.heap.size 3 1 (.slice (some ⟨g1, 0, none⟩) n c1) n (s.map (Value.int .i64)) ∧ w'.ownsRow w.heap.size 21 1 (.slice (some ⟨g2, 0, none⟩) m m) m ((l.map (shf bits)).map (Value.int .i32)) ∧ g1 ≠ g2 ∧ Below w.heap.size w w' := by
  have hlen : s.length = n := by have := hA.len; simpa using this
  obtain ⟨q1, q2⟩ := tenOk_iff.1 hok
  obtain ⟨hn1, hn4, _⟩ := sizeI_pos q1
  rw [hlen] at hn1 hn4
  have hm4 : m ≤ 4096 := by have := sizeI_le s; omega
  have hmp : 0 < m := by omega
  have HQ := hide q2
  clear q1 q2 hlen
  have HC := hide hc
  have HW := hide hw
  clear hc hw
  obtain ⟨W0, hW0⟩ : ∃ W0, W0 = ((w.alloc (.cells #[.slice A n c, .slice B m d] 25)).alloc (.cells #[.func (.func 38) #[] #[.pointer (some pn)]] 62)).alloc (.cells #[.slice none 0 0, .slice none 0 0] 25) := ⟨_, rfl⟩
  have HB0 : Hid (Below w.heap.size w W0) := hide (by rw [hW0]; exact (((Below.refl w.heap.size w).alloc (Nat.le_refl _) _).alloc (by simp only [World.size_alloc]; omega) _).alloc (by simp only [World.size_alloc]; omega) _)
  have hs0 : W0.heap.size = w.heap.size + 3 := by rw [hW0]; simp
  have HX0 : Hid (BoxT W0 w.heap.size (.slice A n c) (.slice B m d)) := hide (by rw [hW0]; exact ((BoxT.new w _ _).alloc _).alloc _)
  have HXO : Hid (Box1 W0 (w.heap.size + 1) 62 (.func (.func 38) #[] #[.pointer (some pn)])) := hide (by
    rw [hW0]
    have h := Box1.new (w.alloc (.cells #[.slice A n c, .slice B m d] 25)) (.func (.func 38) #[] #[.pointer (some pn)]) 62
    rw [World.size_alloc] at h
    exact (Below.heap_alloc _ _ _ (by simp only [World.size_alloc]; omega)).trans h)
  have HXR : Hid (BoxT W0 (w.heap.size + 2) (.slice none 0 0) (.slice none 0 0)) := hide (by
    rw [hW0]
    have h := BoxT.new ((w.alloc (.cells #[.slice A n c, .slice B m d] 25)).alloc (.cells #[.func (.func 38) #[] #[.pointer (some pn)]] 62)) (.slice none 0 0) (.slice none 0 0)
    rwa [World.size_alloc, World.size_alloc] at h)
  have hW0' := hW0.symm
  clear hW0
  have HA := hide (hA.below HB0.out)
  have HB := hide (hB.below HB0.out)
  clear hA hB
  have a0 := HX0.out.c0
  have a1 := HX0.out.c1
  have o0 := HXO.out.cell
  have HOK := hide hok
  clear hok
  go_enter Try.func36, Try.ntmps36
  go_wp2_with fail
  refine Calls.mono (tcheck_any A B n c m d s _ HA.out (by omega)) ?_
  rw [HOK.out]
  rintro e w1 ⟨rfl, hb1⟩
  clear a0 a1 o0
  have a0 := (HX0.out.kept hb1).c0
  have a1 := (HX0.out.kept hb1).c1
  have o0 := Box1.cell ((hb1.block _ HXO.out.lt).trans HXO.out)
  go_wp2_with fail
  refine Calls.mono (apply_shift A n c m s B d bits pn l _ (HA.out.below hb1) (HB.out.below hb1) hbits ((World.cell?_of_block ((hb1.block pn.block (by omega)).trans (HB0.out.block pn.block hcb))).trans HC.out) (by have := hb1.size; omega) HW.out HQ.out hmp) ?_
  rintro e w2 ⟨g1, c1, g2, rfl, ho1, ho2, hne, hb0⟩
  have hs1 := hb1.size
  have hb := hb1.trans (hb0.mono hb1.size)
  clear hb1 hb0
  have r0 := (HXR.out.kept hb).c0
  have r1 := (HXR.out.kept hb).c1
  have rf0 := (HXR.out.kept hb).f0 0
  have rf1 := (HXR.out.kept hb).f0 1
  have lt1 := ho1.lt g1 rfl
  have lt2 := ho2.lt g2 rfl
  have HBB := hide (HB0.out.trans (hb.mono (by omega)))
  have HXF := hide (HXR.out.kept hb)
  have HO1 := hide ho1
  have HO2 := hide ho2
  clear hb ho1 ho2
  go_wp2
  (try simp only [Exit.inBlock, Exit.then])
  refine ret_ten (p := 4) (u := 5) rfl rfl (w.heap.size + 2) _ rfl (HXF.out.set2 _ _) rfl ?_
  refine ⟨g1, c1, g2, rfl, ?_, ?_, hne, (HBB.out.setCell (by dsimp only; omega) _).setCell (by dsimp only; omega) _⟩
  · exact own_base (own_setCell' (own_setCell' HO1.out (by dsimp only; omega) _) (by dsimp only; omega) _) (by omega)
  · exact own_base (own_setCell' (own_setCell' HO2.out (by dsimp only; omega) _) (by dsimp only; omega) _) (by omega)

set_option maxHeartbeats 1000000 in
theorem relu_bad (A B : Option Addr) (n c m d : Nat) (s l : List Int) (w : World) (hA : Lies w A n (s.map (Value.int .i64))) (hB : Lies w B m (l.map (Value.int .i32))) (hn : n ≤ 281474976710656) (hbad : tenOk s m = false) :
    Calls Try.prog 19 #[tenV A n c B m d] w fun e w' => e = .returned (.tuple #[tenV none 0 0 none 0 0, .int .i64 1]) ∧ Below w.heap.size w w' := by
  obtain ⟨W0, hW0⟩ : ∃ W0, W0 = (w.alloc (.cells #[.slice A n c, .slice B m d] 25)).alloc (.cells #[.slice none 0 0, .slice none 0 0] 25) := ⟨_, rfl⟩
  have HB0 : Hid (Below w.heap.size w W0) := hide (by rw [hW0]; exact ((Below.refl w.heap.size w).alloc (Nat.le_refl _) _).alloc (by simp only [World.size_alloc]; omega) _)
  have hs0 : W0.heap.size = w.heap.size + 2 := by rw [hW0]; simp
  have HX0 : Hid (BoxT W0 w.heap.size (.slice A n c) (.slice B m d)) := hide (by rw [hW0]; exact (BoxT.new w _ _).alloc _)
  have HXR : Hid (BoxT W0 (w.heap.size + 1) (.slice none 0 0) (.slice none 0 0)) := hide (by
    rw [hW0]
    have h := BoxT.new (w.alloc (.cells #[.slice A n c, .slice B m d] 25)) (.slice none 0 0) (.slice none 0 0)
    rwa [World.size_alloc] at h)
  have hW0' := hW0.symm
  clear hW0
  have HA := hide (hA.below HB0.out)
  have HB := hide (hB.below HB0.out)
  clear hA hB
  have a0 := HX0.out.c0
  have a1 := HX0.out.c1
  go_enter Try.func19, Try.ntmps19
  go_wp2_with fail
  refine Calls.mono (ofOne_relu_bad A B n c m d s l _ HA.out HB.out hn hbad) ?_
  rintro e w1 ⟨rfl, hb⟩
  have r0 := (HXR.out.kept hb).c0
  have r1 := (HXR.out.kept hb).c1
  have rf0 := (HXR.out.kept hb).f0 0
  have rf1 := (HXR.out.kept hb).f0 1
  have HBB := hide (HB0.out.trans (hb.mono (by omega)))
  have HXF := hide (HXR.out.kept hb)
  clear hb
  go_wp2
  (try simp only [Exit.inBlock, Exit.then])
  refine ret_ten (p := 2) (u := 3) rfl rfl (w.heap.size + 1) _ rfl (HXF.out.set2 _ _) rfl ?_
  exact ⟨rfl, (HBB.out.setCell (by dsimp only; omega) _).setCell (by dsimp only; omega) _⟩

set_option maxHeartbeats 1000000 in
theorem relu_ok (A B : Option Addr) (n c m d : Nat) (s l : List Int) (w : World) (hA : Lies w A n (s.map (Value.int .i64))) (hB : Lies w B m (l.map (Value.int .i32))) (hok : tenOk s m = true) :
    Calls Try.prog 19 #[tenV A n c B m d] w fun e w' => ∃ g1 c1 g2, e = .returned (.tuple #[tenV (some ⟨g1, 0, none⟩) n c1 (some ⟨g2, 0, none⟩) m m, .int .i64 0]) ∧
      w'.ownsRow w.heap.size 3 1 (.slice (some ⟨g1, 0, none⟩) n c1) n (s.map (Value.int .i64)) ∧ w'.ownsRow w.heap.size 21 1 (.slice (some ⟨g2, 0, none⟩) m m) m ((l.map relu32).map (Value.int .i32)) ∧ g1 ≠ g2 ∧ Below w.heap.size w w' := by
  obtain ⟨W0, hW0⟩ : ∃ W0, W0 = (w.alloc (.cells #[.slice A n c, .slice B m d] 25)).alloc (.cells #[.slice none 0 0, .slice none 0 0] 25) := ⟨_, rfl⟩
  have HB0 : Hid (Below w.heap.size w W0) := hide (by rw [hW0]; exact ((Below.refl w.heap.size w).alloc (Nat.le_refl _) _).alloc (by simp only [World.size_alloc]; omega) _)
  have hs0 : W0.heap.size = w.heap.size + 2 := by rw [hW0]; simp
  have HX0 : Hid (BoxT W0 w.heap.size (.slice A n c) (.slice B m d)) := hide (by rw [hW0]; exact (BoxT.new w _ _).alloc _)
  have HXR : Hid (BoxT W0 (w.heap.size + 1) (.slice none 0 0) (.slice none 0 0)) := hide (by
    rw [hW0]
    have h := BoxT.new (w.alloc (.cells #[.slice A n c, .slice B m d] 25)) (.slice none 0 0) (.slice none 0 0)
    rwa [World.size_alloc] at h)
  have hW0' := hW0.symm
  clear hW0
  have HA := hide (hA.below HB0.out)
  have HB := hide (hB.below HB0.out)
  clear hA hB
  have a0 := HX0.out.c0
  have a1 := HX0.out.c1
  go_enter Try.func19, Try.ntmps19
  go_wp2_with fail
  refine Calls.mono (ofOne_relu_ok A B n c m d s l _ HA.out HB.out hok) ?_
  rintro e w1 ⟨g1, c1, g2, rfl, ho1, ho2, hne, hb⟩
  have r0 := (HXR.out.kept hb).c0
  have r1 := (HXR.out.kept hb).c1
  have rf0 := (HXR.out.kept hb).f0 0
  have rf1 := (HXR.out.kept hb).f0 1
  have lt1 := ho1.lt g1 rfl
  have lt2 := ho2.lt g2 rfl
  have HBB := hide (HB0.out.trans (hb.mono (by omega)))
  have HXF := hide (HXR.out.kept hb)
  have HO1 := hide ho1
  have HO2 := hide ho2
  clear hb ho1 ho2
  go_wp2
  (try simp only [Exit.inBlock, Exit.then])
  refine ret_ten (p := 2) (u := 3) rfl rfl (w.heap.size + 1) _ rfl (HXF.out.set2 _ _) rfl ?_
  refine ⟨g1, c1, g2, rfl, ?_, ?_, hne, (HBB.out.setCell (by dsimp only; omega) _).setCell (by dsimp only; omega) _⟩
  · exact own_base (own_setCell' (own_setCell' HO1.out (by dsimp only; omega) _) (by dsimp only; omega) _) (by omega)
  · exact own_base (own_setCell' (own_setCell' HO2.out (by dsimp only; omega) _) (by dsimp only; omega) _) (by omega)

set_option maxHeartbeats 1000000 in
theorem shift_bad (A B : Option Addr) (n c m d : Nat) (s l : List Int) (w : World) (hA : Lies w A n (s.map (Value.int .i64))) (hB : Lies w B m (l.map (Value.int .i32))) (hn : n ≤ 281474976710656) (z : Int) (hbad : ¬ (tenOk s m = true ∧ 0 ≤ z ∧ z ≤ 31)) :
    Calls Try.prog 20 #[tenV A n c B m d, .int .i64 z] w fun e w' => e = .returned (.tuple #[tenV none 0 0 none 0 0, .int .i64 1]) ∧ Below w.heap.size w w' := by
  obtain ⟨W0, hW0⟩ : ∃ W0, W0 = ((w.alloc (.cells #[.slice A n c, .slice B m d] 25)).alloc (.cells #[.int .i64 z] 3)).alloc (.cells #[.slice none 0 0, .slice none 0 0] 25) := ⟨_, rfl⟩
  have HB0 : Hid (Below w.heap.size w W0) := hide (by rw [hW0]; exact (((Below.refl w.heap.size w).alloc (Nat.le_refl _) _).alloc (by simp only [World.size_alloc]; omega) _).alloc (by simp only [World.size_alloc]; omega) _)
  have hs0 : W0.heap.size = w.heap.size + 3 := by rw [hW0]; simp
  have HX0 : Hid (BoxT W0 w.heap.size (.slice A n c) (.slice B m d)) := hide (by rw [hW0]; exact ((BoxT.new w _ _).alloc _).alloc _)
  have HXN : Hid (Box1 W0 (w.heap.size + 1) 3 (.int .i64 z)) := hide (by
    rw [hW0]
    have h := Box1.new (w.alloc (.cells #[.slice A n c, .slice B m d] 25)) (.int .i64 z) 3
    rw [World.size_alloc] at h
    exact (Below.heap_alloc _ _ _ (by simp only [World.size_alloc]; omega)).trans h)
  have HXR : Hid (BoxT W0 (w.heap.size + 2) (.slice none 0 0) (.slice none 0 0)) := hide (by
    rw [hW0]
    have h := BoxT.new ((w.alloc (.cells #[.slice A n c, .slice B m d] 25)).alloc (.cells #[.int .i64 z] 3)) (.slice none 0 0) (.slice none 0 0)
    rwa [World.size_alloc, World.size_alloc] at h)
  have hW0' := hW0.symm
  clear hW0
  have HA := hide (hA.below HB0.out)
  have HB := hide (hB.below HB0.out)
  clear hA hB
  have a0 := HX0.out.c0
  have a1 := HX0.out.c1
  have n0 := HXN.out.cell
  have hb : Below W0.heap.size W0 W0 := Below.refl _ W0
  have r0 := (HXR.out.kept hb).c0
  have r1 := (HXR.out.kept hb).c1
  have rf0 := (HXR.out.kept hb).f0 0
  have rf1 := (HXR.out.kept hb).f0 1
  go_enter Try.func20, Try.ntmps20
  by_cases h0 : z < 0
  · have HBB := hide (HB0.out.trans (hb.mono (by omega)))
    have HXF := hide (HXR.out.kept hb)
    clear hb
    go_wp2
    (try simp only [Exit.inBlock, Exit.then])
    refine ret_ten (p := 4) (u := 5) rfl rfl (w.heap.size + 2) _ rfl (HXF.out.set2 _ _) rfl ?_
    exact ⟨rfl, (HBB.out.setCell (by dsimp only; omega) _).setCell (by dsimp only; omega) _⟩
  · have h0' : 0 ≤ z := by omega
    by_cases h1 : 31 < z
    · have HBB := hide (HB0.out.trans (hb.mono (by omega)))
      have HXF := hide (HXR.out.kept hb)
      clear hb
      go_wp2
      (try simp only [Exit.inBlock, Exit.then])
      refine ret_ten (p := 4) (u := 5) rfl rfl (w.heap.size + 2) _ rfl (HXF.out.set2 _ _) rfl ?_
      exact ⟨rfl, (HBB.out.setCell (by dsimp only; omega) _).setCell (by dsimp only; omega) _⟩
    · have h1' : z ≤ 31 := by omega
      have hbad2 : tenOk s m = false := by
        cases h : tenOk s m with
        | false => rfl
        | true => exact absurd ⟨h, h0', h1'⟩ hbad
      clear hb r0 r1 rf0 rf1 hbad
      go_wp2_with fail
      refine Calls.mono (ofOne_shift_bad A B n c m d s l _ HA.out HB.out ⟨w.heap.size + 1, 0, none⟩ hn hbad2) ?_
      rintro e w1 ⟨rfl, hb⟩
      have r0 := (HXR.out.kept hb).c0
      have r1 := (HXR.out.kept hb).c1
      have rf0 := (HXR.out.kept hb).f0 0
      have rf1 := (HXR.out.kept hb).f0 1
      have HBB := hide (HB0.out.trans (hb.mono (by omega)))
      have HXF := hide (HXR.out.kept hb)
      clear hb
      go_wp2
      (try simp only [Exit.inBlock, Exit.then])
      refine ret_ten (p := 4) (u := 5) rfl rfl (w.heap.size + 2) _ rfl (HXF.out.set2 _ _) rfl ?_
      exact ⟨rfl, (HBB.out.setCell (by dsimp only; omega) _).setCell (by dsimp only; omega) _⟩

set_option maxHeartbeats 1000000 in
theorem shift_ok (A B : Option Addr) (n c m d : Nat) (s l : List Int) (w : World) (hA : Lies w A n (s.map (Value.int .i64))) (hB : Lies w B m (l.map (Value.int .i32))) (bits : Nat) (hbits : bits ≤ 31) (hw : ∀ z ∈ l, -2147483648 ≤ z ∧ z < 2147483648) (hok : tenOk s m = true) :
    Calls Try.prog 20 #[tenV A n c B m d, .int .i64 (bits : Int)] w fun e w' => ∃ g1 c1 g2, e = .returned (.tuple #[tenV (some ⟨g1, 0, none⟩) n c1 (some ⟨g2, 0, none⟩) m m, .int .i64 0]) ∧
      w'.ownsRow w.heap.size 3 1 (.slice (some ⟨g1, 0, none⟩) n c1) n (s.map (Value.int .i64)) ∧ w'.ownsRow w.heap.size 21 1 (.slice (some ⟨g2, 0, none⟩) m m) m ((l.map (shf bits)).map (Value.int .i32)) ∧ g1 ≠ g2 ∧ Below w.heap.size w w' := by
  obtain ⟨W0, hW0⟩ : ∃ W0, W0 = ((w.alloc (.cells #[.slice A n c, .slice B m d] 25)).alloc (.cells #[.int .i64 (bits : Int)] 3)).alloc (.cells #[.slice none 0 0, .slice none 0 0] 25) := ⟨_, rfl⟩
  have HB0 : Hid (Below w.heap.size w W0) := hide (by rw [hW0]; exact (((Below.refl w.heap.size w).alloc (Nat.le_refl _) _).alloc (by simp only [World.size_alloc]; omega) _).alloc (by simp only [World.size_alloc]; omega) _)
  have hs0 : W0.heap.size = w.heap.size + 3 := by rw [hW0]; simp
  have HX0 : Hid (BoxT W0 w.heap.size (.slice A n c) (.slice B m d)) := hide (by rw [hW0]; exact ((BoxT.new w _ _).alloc _).alloc _)
  have HXN : Hid (Box1 W0 (w.heap.size + 1) 3 (.int .i64 (bits : Int))) := hide (by
    rw [hW0]
    have h := Box1.new (w.alloc (.cells #[.slice A n c, .slice B m d] 25)) (.int .i64 (bits : Int)) 3
    rw [World.size_alloc] at h
    exact (Below.heap_alloc _ _ _ (by simp only [World.size_alloc]; omega)).trans h)
  have HXR : Hid (BoxT W0 (w.heap.size + 2) (.slice none 0 0) (.slice none 0 0)) := hide (by
    rw [hW0]
    have h := BoxT.new ((w.alloc (.cells #[.slice A n c, .slice B m d] 25)).alloc (.cells #[.int .i64 (bits : Int)] 3)) (.slice none 0 0) (.slice none 0 0)
    rwa [World.size_alloc, World.size_alloc] at h)
  have hW0' := hW0.symm
  clear hW0
  have HA := hide (hA.below HB0.out)
  have HB := hide (hB.below HB0.out)
  clear hA hB
  have a0 := HX0.out.c0
  have a1 := HX0.out.c1
  have n0 := HXN.out.cell
  have HW := hide hw
  have h0 : (0 : Int) ≤ (bits : Int) := by omega
  have h1 : (bits : Int) ≤ 31 := by omega
  clear hw
  go_enter Try.func20, Try.ntmps20
  go_wp2_with fail
  refine Calls.mono (ofOne_shift_ok A B n c m d s l _ HA.out HB.out bits ⟨w.heap.size + 1, 0, none⟩ hbits HXN.out.cell (by dsimp only; omega) HW.out hok) ?_
  rintro e w1 ⟨g1, c1, g2, rfl, ho1, ho2, hne, hb⟩
  have r0 := (HXR.out.kept hb).c0
  have r1 := (HXR.out.kept hb).c1
  have rf0 := (HXR.out.kept hb).f0 0
  have rf1 := (HXR.out.kept hb).f0 1
  have lt1 := ho1.lt g1 rfl
  have lt2 := ho2.lt g2 rfl
  have HBB := hide (HB0.out.trans (hb.mono (by omega)))
  have HXF := hide (HXR.out.kept hb)
  have HO1 := hide ho1
  have HO2 := hide ho2
  clear hb ho1 ho2
  go_wp2
  (try simp only [Exit.inBlock, Exit.then])
  refine ret_ten (p := 4) (u := 5) rfl rfl (w.heap.size + 2) _ rfl (HXF.out.set2 _ _) rfl ?_
  refine ⟨g1, c1, g2, rfl, ?_, ?_, hne, (HBB.out.setCell (by dsimp only; omega) _).setCell (by dsimp only; omega) _⟩
  · exact own_base (own_setCell' (own_setCell' HO1.out (by dsimp only; omega) _) (by dsimp only; omega) _) (by omega)
  · exact own_base (own_setCell' (own_setCell' HO2.out (by dsimp only; omega) _) (by dsimp only; omega) _) (by omega)

theorem relu_own (A B : Option Addr) (n c m d : Nat) (s l : List Int) (w : World) (hA : Lies w A n (s.map (Value.int .i64))) (hB : Lies w B m (l.map (Value.int .i32))) (hn : n ≤ 281474976710656) :
    Calls Try.prog 19 #[tenV A n c B m d] w fun e w' => ∃ A1 k1 c1 A2 k2 c2, e = .returned (.tuple #[tenV A1 k1 c1 A2 k2 c2, .int .i64 (oneE s m)]) ∧
      w'.ownsRow w.heap.size 3 1 (.slice A1 k1 c1) k1 ((oneS s m).map (Value.int .i64)) ∧ w'.ownsRow w.heap.size 21 1 (.slice A2 k2 c2) k2 ((oneL relu32 s m l).map (Value.int .i32)) ∧ k1 ≤ 4 ∧ k2 ≤ 4096 ∧ Below w.heap.size w w' := by
  by_cases h : tenOk s m = true
  · obtain ⟨q1, q2⟩ := tenOk_iff.1 h
    obtain ⟨hn1, hn4, _⟩ := sizeI_pos q1
    have hm4 : m ≤ 4096 := by have := sizeI_le s; omega
    have hl1 : s.length = n := by have := hA.len; simpa using this
    refine (relu_ok A B n c m d s l w hA hB h).mono ?_
    rintro e w' ⟨g1, c1, g2, rfl, ho1, ho2, hne, hb⟩
    exact ⟨_, _, _, _, _, _, by rw [oneE, if_pos h], by rw [oneS, if_pos h]; exact ho1, by rw [oneL, if_pos h]; exact ho2, by omega, hm4, hb⟩
  · refine (relu_bad A B n c m d s l w hA hB hn (by simpa using h)).mono ?_
    rintro e w' ⟨rfl, hb⟩
    exact ⟨none, 0, 0, none, 0, 0, by rw [oneE, if_neg h], by rw [oneS, if_neg h]; exact World.ownsRow_nil _ _ _ _, by rw [oneL, if_neg h]; exact World.ownsRow_nil _ _ _ _, by omega, by omega, hb⟩
theorem shift_own (A B : Option Addr) (n c m d : Nat) (s l : List Int) (w : World) (hA : Lies w A n (s.map (Value.int .i64))) (hB : Lies w B m (l.map (Value.int .i32))) (hn : n ≤ 281474976710656) (z : Int) (hw : ∀ z ∈ l, -2147483648 ≤ z ∧ z < 2147483648) :
    Calls Try.prog 20 #[tenV A n c B m d, .int .i64 z] w fun e w' => ∃ A1 k1 c1 A2 k2 c2, e = .returned (.tuple #[tenV A1 k1 c1 A2 k2 c2, .int .i64 (shE s m z)]) ∧
      w'.ownsRow w.heap.size 3 1 (.slice A1 k1 c1) k1 ((shS s m z).map (Value.int .i64)) ∧ w'.ownsRow w.heap.size 21 1 (.slice A2 k2 c2) k2 ((shL s m z l).map (Value.int .i32)) ∧ k1 ≤ 4 ∧ k2 ≤ 4096 ∧ Below w.heap.size w w' := by
  by_cases h : tenOk s m = true ∧ 0 ≤ z ∧ z ≤ 31
  · obtain ⟨q1, q2⟩ := tenOk_iff.1 h.1
    obtain ⟨hn1, hn4, _⟩ := sizeI_pos q1
    have hm4 : m ≤ 4096 := by have := sizeI_le s; omega
    have hl1 : s.length = n := by have := hA.len; simpa using this
    obtain ⟨bits, rfl⟩ : ∃ bits : Nat, z = (bits : Int) := ⟨z.toNat, by omega⟩
    refine (shift_ok A B n c m d s l w hA hB bits (by omega) hw h.1).mono ?_
    rintro e w' ⟨g1, c1, g2, rfl, ho1, ho2, hne, hb⟩
    exact ⟨_, _, _, _, _, _, by rw [shE, if_pos h], by rw [shS, if_pos h]; exact ho1, by rw [shL, if_pos h]; exact ho2, by omega, hm4, hb⟩
  · refine (shift_bad A B n c m d s l w hA hB hn z h).mono ?_
    rintro e w' ⟨rfl, hb⟩
    exact ⟨none, 0, 0, none, 0, 0, by rw [shE, if_neg h], by rw [shS, if_neg h]; exact World.ownsRow_nil _ _ _ _, by rw [shL, if_neg h]; exact World.ownsRow_nil _ _ _ _, by omega, by omega, hb⟩
end Go.Proofs.Ythdicobagmhpcaa
