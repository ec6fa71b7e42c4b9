/- Contracts of package maths: Add and Mul. -/
import Derived.Test.YtlalfjlcgabnnaaMa3
namespace Go.Proofs.Ytlalfjlcgabnnaa
open Go.RowKit
set_option linter.unusedVariables false
set_option linter.unusedSimpArgs false
set_option maxRecDepth 20000

/-- Why two tensors can't be put together. -/
def twoE (s : List Int) (m : Nat) (s' : List Int) (m' : Nat) : Int := if tenOk s m = true ∧ tenOk s' m' = true then (if s = s' then 0 else 10) else 1

theorem twoE_ok {s s' : List Int} {m m' : Nat} (h1 : tenOk s m = true) (h2 : tenOk s' m' = true) (h3 : s = s') : twoE s m s' m' = 0 := by rw [twoE, if_pos ⟨h1, h2⟩, if_pos h3]

theorem twoE_shape {s s' : List Int} {m m' : Nat} (h1 : tenOk s m = true) (h2 : tenOk s' m' = true) (h3 : ¬ s = s') : twoE s m s' m' = 10 := by rw [twoE, if_pos ⟨h1, h2⟩, if_neg h3]

theorem twoE_arg {s s' : List Int} {m m' : Nat} (h : ¬ (tenOk s m = true ∧ tenOk s' m' = true)) : twoE s m s' m' = 1 := by rw [twoE, if_neg h]

/-- What two tensors' shape is put together. -/
def twoS (s : List Int) (m : Nat) (s' : List Int) (m' : Nat) : List Int := if twoE s m s' m' = 0 then s else []

def twoL (f : Int → Int → Int) (s : List Int) (m : Nat) (s' : List Int) (m' : Nat) (l l' : List Int) : List Int := if twoE s m s' m' = 0 then List.zipWith f l l' else []

theorem twoE_iff {s s' : List Int} {m m' : Nat} : twoE s m s' m' = 0 ↔ tenOk s m = true ∧ tenOk s' m' = true ∧ s = s' := by
  unfold twoE
  by_cases h : tenOk s m = true ∧ tenOk s' m' = true
  · rw [if_pos h]
    by_cases h3 : s = s'
    · rw [if_pos h3]; exact ⟨fun _ => ⟨h.1, h.2, h3⟩, fun _ => rfl⟩
    · rw [if_neg h3]; exact ⟨fun e => absurd e (by decide), fun e => absurd e.2.2 h3⟩
  · rw [if_neg h]; exact ⟨fun e => absurd e (by decide), fun e => absurd ⟨e.1, e.2.1⟩ h⟩

set_option maxHeartbeats 1000000 in
theorem ofTwo_add_bad (A B A' B' : Option Addr) (n c m d n' c' m' d' : Nat) (s l s' l' : List Int) (w : World) (hA : Lies w A n (s.map (Value.int .i64))) (hB : Lies w B m (l.map (Value.int .i32))) (hA' : Lies w A' n' (s'.map (Value.int .i64))) (hB' : Lies w B' m' (l'.map (Value.int .i32))) (hn : n ≤ 281474976710656) (hn' : n' ≤ 281474976710656) (hbad : ¬ (tenOk s m = true ∧ tenOk s' m' = true ∧ s = s')) :
    Calls Try.prog 20 #[tenV A n c B m d, tenV A' n' c' B' m' d', .agg #[.func (.func 21) #[] #[]]] w fun e w' => e = .returned (.tuple #[tenV none 0 0 none 0 0, .int .i64 (twoE s m s' m')]) ∧ Below w.heap.size w w' := by
  obtain ⟨W0, hW0⟩ : ∃ W0, W0 = (((w.alloc (.cells #[.slice A n c, .slice B m d] 28)).alloc (.cells #[.slice A' n' c', .slice B' m' d'] 28)).alloc (.cells #[.func (.func 21) #[] #[]] 54)).alloc (.cells #[.slice none 0 0, .slice none 0 0] 28) := ⟨_, rfl⟩
  have HB0 : Hid (Below w.heap.size w W0) := hide (by rw [hW0]; exact ((((Below.refl w.heap.size w).alloc (Nat.le_refl _) _).alloc (by simp only [World.size_alloc]; omega) _).alloc (by simp only [World.size_alloc]; omega) _).alloc (by simp only [World.size_alloc]; omega) _)
  have hs0 : W0.heap.size = w.heap.size + 4 := by rw [hW0]; simp
  have HX0 : Hid (BoxT W0 w.heap.size (.slice A n c) (.slice B m d)) := hide (by rw [hW0]; exact (((BoxT.new w _ _).alloc _).alloc _).alloc _)
  have HX1 : Hid (BoxT W0 (w.heap.size + 1) (.slice A' n' c') (.slice B' m' d')) := hide (by
    rw [hW0]
    have h := ((BoxT.new (w.alloc (.cells #[.slice A n c, .slice B m d] 28)) (.slice A' n' c') (.slice B' m' d')).alloc (.cells #[.func (.func 21) #[] #[]] 54)).alloc (.cells #[.slice none 0 0, .slice none 0 0] 28)
    rwa [World.size_alloc] at h)
  have HXO : Hid (Box1 W0 (w.heap.size + 2) 54 (.func (.func 21) #[] #[])) := hide (by
    rw [hW0]
    have h := Box1.new ((w.alloc (.cells #[.slice A n c, .slice B m d] 28)).alloc (.cells #[.slice A' n' c', .slice B' m' d'] 28)) (.func (.func 21) #[] #[]) 54
    rw [World.size_alloc, World.size_alloc] at h
    exact (Below.heap_alloc _ _ _ (by simp only [World.size_alloc]; omega)).trans h)
  have HXR : Hid (BoxT W0 (w.heap.size + 3) (.slice none 0 0) (.slice none 0 0)) := hide (by
    rw [hW0]
    have h := BoxT.new (((w.alloc (.cells #[.slice A n c, .slice B m d] 28)).alloc (.cells #[.slice A' n' c', .slice B' m' d'] 28)).alloc (.cells #[.func (.func 21) #[] #[]] 54)) (.slice none 0 0) (.slice none 0 0)
    rwa [World.size_alloc, World.size_alloc, World.size_alloc] at h)
  have hW0' := hW0.symm
  clear hW0
  have HA := hide (hA.below HB0.out)
  have HB := hide (hB.below HB0.out)
  have HA' := hide (hA'.below HB0.out)
  have HB' := hide (hB'.below HB0.out)
  clear hA hB hA' hB'
  go_enter Try.func20, Try.ntmps20
  have a0 := (HX0.out.kept (Below.refl _ W0)).c0
  have a1 := (HX0.out.kept (Below.refl _ W0)).c1
  have b0 := (HX1.out.kept (Below.refl _ W0)).c0
  have b1 := (HX1.out.kept (Below.refl _ W0)).c1
  go_wp2_with fail
  refine Calls.mono (tcheck_any A B n c m d s _ HA.out hn) ?_
  rintro e w1 ⟨rfl, hb1⟩
  clear a0 a1 b0 b1
  have a0 := (HX0.out.kept hb1).c0
  have a1 := (HX0.out.kept hb1).c1
  have b0 := (HX1.out.kept hb1).c0
  have b1 := (HX1.out.kept hb1).c1
  have r0 := (HXR.out.kept hb1).c0
  have r1 := (HXR.out.kept hb1).c1
  have rf0 := (HXR.out.kept hb1).f0 0
  have rf1 := (HXR.out.kept hb1).f0 1
  by_cases h1 : tenOk s m = true
  · rw [h1]
    go_wp2_with fail
    refine Calls.mono (tcheck_any A' B' n' c' m' d' s' _ (HA'.out.below hb1) hn') ?_
    rintro e w2 ⟨rfl, hb20⟩
    have hb2 : Below W0.heap.size W0 w2 := hb1.trans (hb20.mono hb1.size)
    clear a0 a1 b0 b1 r0 r1 rf0 rf1 hb20
    have a0 := (HX0.out.kept hb2).c0
    have a1 := (HX0.out.kept hb2).c1
    have b0 := (HX1.out.kept hb2).c0
    have b1 := (HX1.out.kept hb2).c1
    have r0 := (HXR.out.kept hb2).c0
    have r1 := (HXR.out.kept hb2).c1
    have rf0 := (HXR.out.kept hb2).f0 0
    have rf1 := (HXR.out.kept hb2).f0 1
    by_cases h2 : tenOk s' m' = true
    · rw [h2]
      have h3 : ¬ s = s' := fun e => hbad ⟨h1, h2, e⟩
      have HE := hide (twoE_shape h1 h2 h3)
      go_wp2_with fail
      refine Calls.mono (equal_ints A A' n c n' c' s s' _ (HA.out.below hb2) (HA'.out.below hb2) hn) ?_
      rw [decide_eq_false h3]
      rintro e w3 ⟨rfl, j, hj⟩
      have hb3 : Below W0.heap.size W0 w3 := by rw [hj]; exact below_drewN hb2 j
      clear a0 a1 b0 b1 r0 r1 rf0 rf1 hj
      have a0 := (HX0.out.kept hb3).c0
      have a1 := (HX0.out.kept hb3).c1
      have b0 := (HX1.out.kept hb3).c0
      have b1 := (HX1.out.kept hb3).c1
      have r0 := (HXR.out.kept hb3).c0
      have r1 := (HXR.out.kept hb3).c1
      have rf0 := (HXR.out.kept hb3).f0 0
      have rf1 := (HXR.out.kept hb3).f0 1
      go_wp2
      (try simp only [Exit.inBlock, Exit.then])
      refine ret_ten (p := 6) (u := 7) rfl rfl (w.heap.size + 3) _ rfl ((HXR.out.kept hb3).set2 _ _) rfl ?_
      exact ⟨by rw [HE.out]; rfl, ((HB0.out.trans (hb3.mono (by omega))).setCell (by dsimp only; omega) _).setCell (by dsimp only; omega) _⟩
    · rw [show tenOk s' m' = false by simpa using h2]
      have HE := hide (twoE_arg (s := s) (m := m) (s' := s') (m' := m') (fun e => h2 e.2))
      go_wp2
      (try simp only [Exit.inBlock, Exit.then])
      refine ret_ten (p := 6) (u := 7) rfl rfl (w.heap.size + 3) _ rfl ((HXR.out.kept hb2).set2 _ _) rfl ?_
      exact ⟨by rw [HE.out]; rfl, ((HB0.out.trans (hb2.mono (by omega))).setCell (by dsimp only; omega) _).setCell (by dsimp only; omega) _⟩
  · rw [show tenOk s m = false by simpa using h1]
    have HE := hide (twoE_arg (s := s) (m := m) (s' := s') (m' := m') (fun e => h1 e.1))
    go_wp2
    (try simp only [Exit.inBlock, Exit.then])
    refine ret_ten (p := 6) (u := 7) rfl rfl (w.heap.size + 3) _ rfl ((HXR.out.kept hb1).set2 _ _) rfl ?_
    exact ⟨by rw [HE.out]; rfl, ((HB0.out.trans (hb1.mono (by omega))).setCell (by dsimp only; omega) _).setCell (by dsimp only; omega) _⟩

set_option maxHeartbeats 1000000 in
theorem ofTwo_add_ok (A B A' B' : Option Addr) (n c m d c' d' : Nat) (s l l' : List Int) (w : World) (hA : Lies w A n (s.map (Value.int .i64))) (hB : Lies w B m (l.map (Value.int .i32))) (hA' : Lies w A' n (s.map (Value.int .i64))) (hB' : Lies w B' m (l'.map (Value.int .i32)))  (hok : tenOk s m = true) :
    Calls Try.prog 20 #[tenV A n c B m d, tenV A' n c' B' m d', .agg #[.func (.func 21) #[] #[]]] w fun e w' => ∃ g1 c1 g2, e = .returned (.tuple #[tenV (some ⟨g1, 0, none⟩) n c1 (some ⟨g2, 0, none⟩) m m, .int .i64 0]) ∧
      w'.ownsRow w.heap.size 3 1 (.slice (some ⟨g1, 0, none⟩) n c1) n (s.map (Value.int .i64)) ∧ w'.ownsRow w.heap.size 21 1 (.slice (some ⟨g2, 0, none⟩) m m) m ((List.zipWith add32 l l').map (Value.int .i32)) ∧ g1 ≠ g2 ∧ Below w.heap.size w w' := by
  have HL : Hid (l.length = m) := hide (by have := hB.len; simpa using this)
  have HL' : Hid (l'.length = m) := hide (by have := hB'.len; simpa using this)
  have hlen : s.length = n := by have := hA.len; simpa using this
  obtain ⟨q1, q2⟩ := tenOk_iff.1 hok
  obtain ⟨hn1, hn4, _⟩ := sizeI_pos q1
  rw [hlen] at hn1 hn4
  have hm4 : m ≤ 4096 := by have := sizeI_le s; omega
  have hmp : 0 < m := by omega
  have HQ := hide q2
  clear q1 q2 hlen
  obtain ⟨W0, hW0⟩ : ∃ W0, W0 = (((w.alloc (.cells #[.slice A n c, .slice B m d] 28)).alloc (.cells #[.slice A' n c', .slice B' m d'] 28)).alloc (.cells #[.func (.func 21) #[] #[]] 54)).alloc (.cells #[.slice none 0 0, .slice none 0 0] 28) := ⟨_, rfl⟩
  have HB0 : Hid (Below w.heap.size w W0) := hide (by rw [hW0]; exact ((((Below.refl w.heap.size w).alloc (Nat.le_refl _) _).alloc (by simp only [World.size_alloc]; omega) _).alloc (by simp only [World.size_alloc]; omega) _).alloc (by simp only [World.size_alloc]; omega) _)
  have hs0 : W0.heap.size = w.heap.size + 4 := by rw [hW0]; simp
  have HX0 : Hid (BoxT W0 w.heap.size (.slice A n c) (.slice B m d)) := hide (by rw [hW0]; exact (((BoxT.new w _ _).alloc _).alloc _).alloc _)
  have HX1 : Hid (BoxT W0 (w.heap.size + 1) (.slice A' n c') (.slice B' m d')) := hide (by
    rw [hW0]
    have h := ((BoxT.new (w.alloc (.cells #[.slice A n c, .slice B m d] 28)) (.slice A' n c') (.slice B' m d')).alloc (.cells #[.func (.func 21) #[] #[]] 54)).alloc (.cells #[.slice none 0 0, .slice none 0 0] 28)
    rwa [World.size_alloc] at h)
  have HXO : Hid (Box1 W0 (w.heap.size + 2) 54 (.func (.func 21) #[] #[])) := hide (by
    rw [hW0]
    have h := Box1.new ((w.alloc (.cells #[.slice A n c, .slice B m d] 28)).alloc (.cells #[.slice A' n c', .slice B' m d'] 28)) (.func (.func 21) #[] #[]) 54
    rw [World.size_alloc, World.size_alloc] at h
    exact (Below.heap_alloc _ _ _ (by simp only [World.size_alloc]; omega)).trans h)
  have HXR : Hid (BoxT W0 (w.heap.size + 3) (.slice none 0 0) (.slice none 0 0)) := hide (by
    rw [hW0]
    have h := BoxT.new (((w.alloc (.cells #[.slice A n c, .slice B m d] 28)).alloc (.cells #[.slice A' n c', .slice B' m d'] 28)).alloc (.cells #[.func (.func 21) #[] #[]] 54)) (.slice none 0 0) (.slice none 0 0)
    rwa [World.size_alloc, World.size_alloc, World.size_alloc] at h)
  have hW0' := hW0.symm
  clear hW0
  have HA := hide (hA.below HB0.out)
  have HB := hide (hB.below HB0.out)
  have HA' := hide (hA'.below HB0.out)
  have HB' := hide (hB'.below HB0.out)
  clear hA hB hA' hB'
  have HOK := hide hok
  clear hok
  go_enter Try.func20, Try.ntmps20
  have a0 := (HX0.out.kept (Below.refl _ W0)).c0
  have a1 := (HX0.out.kept (Below.refl _ W0)).c1
  have b0 := (HX1.out.kept (Below.refl _ W0)).c0
  have b1 := (HX1.out.kept (Below.refl _ W0)).c1
  go_wp2_with fail
  refine Calls.mono (tcheck_any A B n c m d s _ HA.out (by omega)) ?_
  rintro e w1 ⟨rfl, hb1⟩
  rw [HOK.out]
  clear a0 a1 b0 b1
  have a0 := (HX0.out.kept hb1).c0
  have a1 := (HX0.out.kept hb1).c1
  have b0 := (HX1.out.kept hb1).c0
  have b1 := (HX1.out.kept hb1).c1
  go_wp2_with fail
  refine Calls.mono (tcheck_any A' B' n c' m d' s _ (HA'.out.below hb1) (by omega)) ?_
  rintro e w2 ⟨rfl, hb20⟩
  rw [HOK.out]
  have hb2 : Below W0.heap.size W0 w2 := hb1.trans (hb20.mono hb1.size)
  clear a0 a1 b0 b1 hb20
  have a0 := (HX0.out.kept hb2).c0
  have a1 := (HX0.out.kept hb2).c1
  have b0 := (HX1.out.kept hb2).c0
  have b1 := (HX1.out.kept hb2).c1
  go_wp2_with fail
  refine Calls.mono (equal_ints A A' n c n c' s s _ (HA.out.below hb2) (HA'.out.below hb2) (by omega)) ?_
  rw [show decide (s = s) = true by simp]
  rintro e w3 ⟨rfl, j, hj⟩
  have hb3 : Below W0.heap.size W0 w3 := by rw [hj]; exact below_drewN hb2 j
  clear a0 a1 b0 b1 hj hb1 hb2
  have hb4 : Below W0.heap.size W0 (w3.drewN 1) := below_drewN hb3 1
  have HK : Hid (∀ v, Below W0.heap.size W0 v → v.cell? ⟨w.heap.size, 0, none⟩ = some (.slice A n c) ∧ v.cell? ⟨w.heap.size, 1, none⟩ = some (.slice B m d) ∧ v.cell? ⟨w.heap.size + 1, 1, none⟩ = some (.slice B' m d') ∧ v.cell? ⟨w.heap.size + 2, 0, none⟩ = some (.func (.func 21) #[] #[])) := hide (fun v hv =>
    ⟨(HX0.out.kept hv).c0, (HX0.out.kept hv).c1, (HX1.out.kept hv).c1, Box1.cell ((hv.block _ HXO.out.lt).trans HXO.out)⟩)
  have HR : Hid (∀ v, Below W0.heap.size W0 v → v.cell? ⟨w.heap.size + 3, 0, none⟩ = some (.slice none 0 0) ∧ v.cell? ⟨w.heap.size + 3, 1, none⟩ = some (.slice none 0 0) ∧ v.frozen? ⟨w.heap.size + 3, 0, none⟩ = false ∧ v.frozen? ⟨w.heap.size + 3, 1, none⟩ = false) := hide (fun v hv =>
    ⟨(HXR.out.kept hv).c0, (HXR.out.kept hv).c1, (HXR.out.kept hv).f0 0, (HXR.out.kept hv).f0 1⟩)
  have HKS : Hid (∀ v x y, Below W0.heap.size W0 v → ((v.setCell ⟨w.heap.size + 3, 0, none⟩ x).setCell ⟨w.heap.size + 3, 1, none⟩ y).cell? ⟨w.heap.size, 0, none⟩ = some (.slice A n c) ∧ ((v.setCell ⟨w.heap.size + 3, 0, none⟩ x).setCell ⟨w.heap.size + 3, 1, none⟩ y).cell? ⟨w.heap.size, 1, none⟩ = some (.slice B m d) ∧ ((v.setCell ⟨w.heap.size + 3, 0, none⟩ x).setCell ⟨w.heap.size + 3, 1, none⟩ y).cell? ⟨w.heap.size + 1, 1, none⟩ = some (.slice B' m d') ∧ ((v.setCell ⟨w.heap.size + 3, 0, none⟩ x).setCell ⟨w.heap.size + 3, 1, none⟩ y).cell? ⟨w.heap.size + 2, 0, none⟩ = some (.func (.func 21) #[] #[])) := hide (fun v x y hv => by
    have hne : ∀ k, k ≠ w.heap.size + 3 → ((v.setCell ⟨w.heap.size + 3, 0, none⟩ x).setCell ⟨w.heap.size + 3, 1, none⟩ y).heap[k]? = v.heap[k]? := fun k hk => (Below.heap_setCell _ _ _ k hk).trans (Below.heap_setCell _ _ _ k hk)
    obtain ⟨k0, k1, k2, k3⟩ := HK.out v hv
    exact ⟨(World.cell?_of_block (hne _ (by simp))).trans k0, (World.cell?_of_block (hne _ (by simp))).trans k1, (World.cell?_of_block (hne _ (by simp))).trans k2, (World.cell?_of_block (hne _ (by simp))).trans k3⟩)
  obtain ⟨a0, a1, b1, o0⟩ := HK.out _ hb3
  go_wp2
  go_region_held3 (fun v => v.cell? ⟨w.heap.size, 0, none⟩ = some (.slice A n c) ∧ v.cell? ⟨w.heap.size, 1, none⟩ = some (.slice B m d) ∧ v.cell? ⟨w.heap.size + 1, 1, none⟩ = some (.slice B' m d') ∧ v.cell? ⟨w.heap.size + 2, 0, none⟩ = some (.func (.func 21) #[] #[]))
    (first | (exact HKS.out _ _ _ hb6) | (exact HK.out _ hb6) | (exact HK.out _ hb5) | (exact HK.out _ hb4) | (exact HK.out _ hb3) | go_keep)
    (first
      | (go_at_call 29; refine Calls.mono (pairs_any B B' m d d' l l' _ (HB.out.below hb4) (HB'.out.below hb4) (by omega)) ?_; rintro e w5 ⟨gp, rfl, hP, hgp, hb50⟩; have hb5 : Below W0.heap.size W0 w5 := hb4.trans (hb50.mono hb4.size))
      | (go_at_call 28; refine Calls.mono (apply_add A n c m s gp l l' _ (HA.out.below hb5) hP HL.out HL'.out HQ.out hmp) ?_; rintro e w6 ⟨g1, c1, g2, rfl, ho1, ho2, hne, hb60⟩; have hb6 : Below W0.heap.size W0 w6 := hb5.trans (hb60.mono hb5.size); obtain ⟨r0, r1, rf0, rf1⟩ := HR.out _ hb6))
  have lt1 := ho1.lt g1 rfl
  have lt2 := ho2.lt g2 rfl
  have hs5 := hb5.size
  have HBB := hide (HB0.out.trans (hb6.mono (by omega)))
  have HO1 := hide ho1
  have HO2 := hide ho2
  have HXF := hide (HXR.out.kept hb6)
  clear ho1 ho2 hP hb50 hb60
  go_wp2
  (try simp only [Exit.inBlock, Exit.then])
  refine ret_ten (p := 6) (u := 7) rfl rfl (w.heap.size + 3) _ rfl (HXF.out.set2 _ _) rfl ?_
  refine ⟨g1, c1, g2, rfl, ?_, ?_, hne, ?_⟩
  · exact own_base (own_setCell' (own_setCell' HO1.out (by dsimp only; omega) _) (by dsimp only; omega) _) (by omega)
  · exact own_base (own_setCell' (own_setCell' HO2.out (by dsimp only; omega) _) (by dsimp only; omega) _) (by omega)
  · exact (HBB.out.setCell (by dsimp only; omega) _).setCell (by dsimp only; omega) _

end Go.Proofs.Ytlalfjlcgabnnaa
