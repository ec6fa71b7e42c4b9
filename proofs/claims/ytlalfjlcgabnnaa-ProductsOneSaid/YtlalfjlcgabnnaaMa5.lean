/- Contracts of package maths: Add, Mul, Relu, Shift. -/
import Derived.Test.YtlalfjlcgabnnaaMa4
namespace Go.Proofs.Ytlalfjlcgabnnaa
open Go.RowKit
set_option linter.unusedVariables false
set_option linter.unusedSimpArgs false
set_option maxRecDepth 20000

set_option maxHeartbeats 1000000 in
theorem add_bad (A B A' B' : Option Addr) (n c m d n' c' m' d' : Nat) (s l s' l' : List Int) (w : World) (hA : Lies w A n (s.map (Value.int .i64))) (hB : Lies w B m (l.map (Value.int .i32))) (hA' : Lies w A' n' (s'.map (Value.int .i64))) (hB' : Lies w B' m' (l'.map (Value.int .i32))) (hn : n ≤ 281474976710656) (hn' : n' ≤ 281474976710656) (hbad : ¬ (tenOk s m = true ∧ tenOk s' m' = true ∧ s = s')) :
    Calls Try.prog 10 #[tenV A n c B m d, tenV A' n' c' B' m' d'] w fun e w' => e = .returned (.tuple #[tenV none 0 0 none 0 0, .int .i64 (twoE s m s' m')]) ∧ Below w.heap.size w w' := by
  obtain ⟨W0, hW0⟩ : ∃ W0, W0 = ((w.alloc (.cells #[.slice A n c, .slice B m d] 28)).alloc (.cells #[.slice A' n' c', .slice B' m' d'] 28)).alloc (.cells #[.slice none 0 0, .slice none 0 0] 28) := ⟨_, rfl⟩
  have HB0 : Hid (Below w.heap.size w W0) := hide (by rw [hW0]; exact (((Below.refl w.heap.size w).alloc (Nat.le_refl _) _).alloc (by simp only [World.size_alloc]; omega) _).alloc (by simp only [World.size_alloc]; omega) _)
  have hs0 : W0.heap.size = w.heap.size + 3 := by rw [hW0]; simp
  have HX0 : Hid (BoxT W0 w.heap.size (.slice A n c) (.slice B m d)) := hide (by rw [hW0]; exact ((BoxT.new w _ _).alloc _).alloc _)
  have HX1 : Hid (BoxT W0 (w.heap.size + 1) (.slice A' n' c') (.slice B' m' d')) := hide (by
    rw [hW0]
    have h := (BoxT.new (w.alloc (.cells #[.slice A n c, .slice B m d] 28)) (.slice A' n' c') (.slice B' m' d')).alloc (.cells #[.slice none 0 0, .slice none 0 0] 28)
    rwa [World.size_alloc] at h)
  have HXR : Hid (BoxT W0 (w.heap.size + 2) (.slice none 0 0) (.slice none 0 0)) := hide (by
    rw [hW0]
    have h := BoxT.new ((w.alloc (.cells #[.slice A n c, .slice B m d] 28)).alloc (.cells #[.slice A' n' c', .slice B' m' d'] 28)) (.slice none 0 0) (.slice none 0 0)
    rwa [World.size_alloc, World.size_alloc] at h)
  have hW0' := hW0.symm
  clear hW0
  have HA := hide (hA.below HB0.out)
  have HB := hide (hB.below HB0.out)
  have HA' := hide (hA'.below HB0.out)
  have HB' := hide (hB'.below HB0.out)
  clear hA hB hA' hB'
  have a0 := HX0.out.c0
  have a1 := HX0.out.c1
  have b0 := HX1.out.c0
  have b1 := HX1.out.c1
  obtain ⟨E, hE⟩ : ∃ E, E = twoE s m s' m' := ⟨_, rfl⟩
  have HE := hide hE
  rw [← hE]
  clear hE
  go_enter Try.func10, Try.ntmps10
  go_wp2_with fail
  refine Calls.mono (ofTwo_add_bad A B A' B' n c m d n' c' m' d' s l s' l' _ HA.out HB.out HA'.out HB'.out hn hn' hbad) ?_
  rw [← HE.out]
  rintro e w1 ⟨rfl, hb⟩
  have r0 := (HXR.out.kept hb).c0
  have r1 := (HXR.out.kept hb).c1
  have rf0 := (HXR.out.kept hb).f0 0
  have rf1 := (HXR.out.kept hb).f0 1
  have HBB := hide (HB0.out.trans (hb.mono (by omega)))
  have HXF := hide (HXR.out.kept hb)
  clear hb hbad
  go_wp2
  (try simp only [Exit.inBlock, Exit.then])
  refine ret_ten (p := 4) (u := 5) rfl rfl (w.heap.size + 2) _ rfl (HXF.out.set2 _ _) rfl ?_
  exact ⟨rfl, (HBB.out.setCell (by dsimp only; omega) _).setCell (by dsimp only; omega) _⟩

set_option maxHeartbeats 1000000 in
theorem add_ok (A B A' B' : Option Addr) (n c m d c' d' : Nat) (s l l' : List Int) (w : World) (hA : Lies w A n (s.map (Value.int .i64))) (hB : Lies w B m (l.map (Value.int .i32))) (hA' : Lies w A' n (s.map (Value.int .i64))) (hB' : Lies w B' m (l'.map (Value.int .i32))) (hok : tenOk s m = true) :
    Calls Try.prog 10 #[tenV A n c B m d, tenV A' n c' B' m d'] w fun e w' => ∃ g1 c1 g2, e = .returned (.tuple #[tenV (some ⟨g1, 0, none⟩) n c1 (some ⟨g2, 0, none⟩) m m, .int .i64 0]) ∧
      w'.ownsRow w.heap.size 3 1 (.slice (some ⟨g1, 0, none⟩) n c1) n (s.map (Value.int .i64)) ∧ w'.ownsRow w.heap.size 21 1 (.slice (some ⟨g2, 0, none⟩) m m) m ((List.zipWith add32 l l').map (Value.int .i32)) ∧ g1 ≠ g2 ∧ Below w.heap.size w w' := by
  obtain ⟨W0, hW0⟩ : ∃ W0, W0 = ((w.alloc (.cells #[.slice A n c, .slice B m d] 28)).alloc (.cells #[.slice A' n c', .slice B' m d'] 28)).alloc (.cells #[.slice none 0 0, .slice none 0 0] 28) := ⟨_, rfl⟩
  have HB0 : Hid (Below w.heap.size w W0) := hide (by rw [hW0]; exact (((Below.refl w.heap.size w).alloc (Nat.le_refl _) _).alloc (by simp only [World.size_alloc]; omega) _).alloc (by simp only [World.size_alloc]; omega) _)
  have hs0 : W0.heap.size = w.heap.size + 3 := by rw [hW0]; simp
  have HX0 : Hid (BoxT W0 w.heap.size (.slice A n c) (.slice B m d)) := hide (by rw [hW0]; exact ((BoxT.new w _ _).alloc _).alloc _)
  have HX1 : Hid (BoxT W0 (w.heap.size + 1) (.slice A' n c') (.slice B' m d')) := hide (by
    rw [hW0]
    have h := (BoxT.new (w.alloc (.cells #[.slice A n c, .slice B m d] 28)) (.slice A' n c') (.slice B' m d')).alloc (.cells #[.slice none 0 0, .slice none 0 0] 28)
    rwa [World.size_alloc] at h)
  have HXR : Hid (BoxT W0 (w.heap.size + 2) (.slice none 0 0) (.slice none 0 0)) := hide (by
    rw [hW0]
    have h := BoxT.new ((w.alloc (.cells #[.slice A n c, .slice B m d] 28)).alloc (.cells #[.slice A' n c', .slice B' m d'] 28)) (.slice none 0 0) (.slice none 0 0)
    rwa [World.size_alloc, World.size_alloc] at h)
  have hW0' := hW0.symm
  clear hW0
  have HA := hide (hA.below HB0.out)
  have HB := hide (hB.below HB0.out)
  have HA' := hide (hA'.below HB0.out)
  have HB' := hide (hB'.below HB0.out)
  clear hA hB hA' hB'
  have a0 := HX0.out.c0
  have a1 := HX0.out.c1
  have b0 := HX1.out.c0
  have b1 := HX1.out.c1
  go_enter Try.func10, Try.ntmps10
  go_wp2_with fail
  refine Calls.mono (ofTwo_add_ok A B A' B' n c m d c' d' s l l' _ HA.out HB.out HA'.out HB'.out hok) ?_
  rintro e w1 ⟨g1, c1, g2, rfl, ho1, ho2, hne, hb⟩
  have r0 := (HXR.out.kept hb).c0
  have r1 := (HXR.out.kept hb).c1
  have rf0 := (HXR.out.kept hb).f0 0
  have rf1 := (HXR.out.kept hb).f0 1
  have lt1 := ho1.lt g1 rfl
  have lt2 := ho2.lt g2 rfl
  have HBB := hide (HB0.out.trans (hb.mono (by omega)))
  have HXF := hide (HXR.out.kept hb)
  have HO1 := hide ho1
  have HO2 := hide ho2
  clear hb ho1 ho2
  go_wp2
  (try simp only [Exit.inBlock, Exit.then])
  refine ret_ten (p := 4) (u := 5) rfl rfl (w.heap.size + 2) _ rfl (HXF.out.set2 _ _) rfl ?_
  refine ⟨g1, c1, g2, rfl, ?_, ?_, hne, (HBB.out.setCell (by dsimp only; omega) _).setCell (by dsimp only; omega) _⟩
  · exact own_base (own_setCell' (own_setCell' HO1.out (by dsimp only; omega) _) (by dsimp only; omega) _) (by omega)
  · exact own_base (own_setCell' (own_setCell' HO2.out (by dsimp only; omega) _) (by dsimp only; omega) _) (by omega)

/-- Both ways out: what it answers lies in memory of its own. -/
theorem add_own (A B A' B' : Option Addr) (n c m d n' c' m' d' : Nat) (s l s' l' : List Int) (w : World) (hA : Lies w A n (s.map (Value.int .i64))) (hB : Lies w B m (l.map (Value.int .i32))) (hA' : Lies w A' n' (s'.map (Value.int .i64))) (hB' : Lies w B' m' (l'.map (Value.int .i32))) (hn : n ≤ 281474976710656) (hn' : n' ≤ 281474976710656) :
    Calls Try.prog 10 #[tenV A n c B m d, tenV A' n' c' B' m' d'] w fun e w' => ∃ A1 k1 c1 A2 k2 c2, e = .returned (.tuple #[tenV A1 k1 c1 A2 k2 c2, .int .i64 (twoE s m s' m')]) ∧
      w'.ownsRow w.heap.size 3 1 (.slice A1 k1 c1) k1 ((twoS s m s' m').map (Value.int .i64)) ∧ w'.ownsRow w.heap.size 21 1 (.slice A2 k2 c2) k2 ((twoL add32 s m s' m' l l').map (Value.int .i32)) ∧ k1 ≤ 4 ∧ k2 ≤ 4096 ∧ Below w.heap.size w w' := by
  by_cases h : tenOk s m = true ∧ tenOk s' m' = true ∧ s = s'
  · obtain ⟨h1, h2, rfl⟩ := h
    obtain ⟨q1, q2⟩ := tenOk_iff.1 h1
    obtain ⟨q3, q4⟩ := tenOk_iff.1 h2
    obtain ⟨hn1, hn4, _⟩ := sizeI_pos q1
    have hm4 : m ≤ 4096 := by have := sizeI_le s; omega
    obtain rfl : m' = m := by omega
    have hl1 : s.length = n := by have := hA.len; simpa using this
    have hl2 : s.length = n' := by have := hA'.len; simpa using this
    obtain rfl : n' = n := by omega
    refine (add_ok A B A' B' n' c m' d c' d' s l l' w hA hB hA' hB' h1).mono ?_
    rintro e w' ⟨g1, c1, g2, rfl, ho1, ho2, hne, hb⟩
    have hz := twoE_ok h1 h2 rfl
    exact ⟨_, _, _, _, _, _, by rw [hz], by rw [twoS, if_pos hz]; exact ho1, by rw [twoL, if_pos hz]; exact ho2, by omega, hm4, hb⟩
  · refine (add_bad A B A' B' n c m d n' c' m' d' s l s' l' w hA hB hA' hB' hn hn' h).mono ?_
    rintro e w' ⟨rfl, hb⟩
    have hz : ¬ twoE s m s' m' = 0 := fun e => h (twoE_iff.1 e)
    exact ⟨none, 0, 0, none, 0, 0, rfl, by rw [twoS, if_neg hz]; exact World.ownsRow_nil _ _ _ _, by rw [twoL, if_neg hz]; exact World.ownsRow_nil _ _ _ _, by omega, by omega, hb⟩

/-- Why a tensor can't be taken. -/
def oneE (s : List Int) (m : Nat) : Int := if tenOk s m = true then 0 else 1

def oneS (s : List Int) (m : Nat) : List Int := if tenOk s m = true then s else []

def oneL (f : Int → Int) (s : List Int) (m : Nat) (l : List Int) : List Int := if tenOk s m = true then l.map f else []

def shE (s : List Int) (m : Nat) (n : Int) : Int := if tenOk s m = true ∧ 0 ≤ n ∧ n ≤ 31 then 0 else 1

def shS (s : List Int) (m : Nat) (n : Int) : List Int := if tenOk s m = true ∧ 0 ≤ n ∧ n ≤ 31 then s else []

def shL (s : List Int) (m : Nat) (n : Int) (l : List Int) : List Int := if tenOk s m = true ∧ 0 ≤ n ∧ n ≤ 31 then l.map (shf n.toNat) else []

end Go.Proofs.Ytlalfjlcgabnnaa
