/- Contract of products.Of. -/
import Derived.Test.YtlalfjlcgabnnaaPr2
namespace Go.Proofs.Ytlalfjlcgabnnaa
open Go.RowKit
set_option linter.unusedVariables false
set_option linter.unusedSimpArgs false
set_option maxRecDepth 100000

def of7E (s : List Int) (m : Nat) (s' : List Int) (m' : Nat) : Int := if tenOk s m = true ∧ tenOk s' m' = true then shp7E s s' else 1

def of7S (s : List Int) (m : Nat) (s' : List Int) (m' : Nat) : List Int := if of7E s m s' m' = 0 then shp7S s s' else []

def of7L (s : List Int) (m : Nat) (s' : List Int) (m' : Nat) (l l' : List Int) : List Int := if of7E s m s' m' = 0 then prodL l l' (s.getD 0 0).toNat (s.getD 1 0).toNat (s'.getD 1 0).toNat else []

theorem list_two {s : List Int} (h : s.length = 2) : s = [s.getD 0 0, s.getD 1 0] := by
  match s, h with
  | [a, b], _ => rfl

theorem size_two {a b : Int} (h : 0 < sizeI [a, b]) : (1 ≤ a ∧ a ≤ 64) ∧ (1 ≤ b ∧ b ≤ 64) ∧ sizeI [a, b] = a * b := by
  have h1 := size_dims h
  have ha := h1 a (by simp)
  have hb := h1 b (by simp)
  refine ⟨⟨ha.1, ha.2.1⟩, ⟨hb.1, hb.2.1⟩, ?_⟩
  rw [(sizeI_pos h).2.2, prodZ, prodZ, prodZ, ha.2.2, hb.2.2, Int.mul_one]

theorem two_size {M N : Nat} (hM : 1 ≤ M ∧ M ≤ 64) (hN : 1 ≤ N ∧ N ≤ 64) : sizeI [(M : Int), (N : Int)] = ((M * N : Nat) : Int) ∧ 1 ≤ M * N ∧ M * N ≤ 4096 := by
  have h1 : M * N ≤ 4096 := by have := Nat.mul_le_mul hM.2 hN.2; omega
  have h2 : 1 ≤ M * N := Nat.mul_pos (by omega) (by omega)
  have e1 : dz (M : Int) = M := by unfold dz; rw [if_neg (by omega)]
  have e2 : dz (N : Int) = N := by unfold dz; rw [if_neg (by omega)]
  refine ⟨?_, h2, h1⟩
  rw [sizeI, if_neg (by simp), prodZ, prodZ, prodZ, e1, e2, Int.mul_one, ← Int.natCast_mul, if_neg (by omega)]

theorem ten_two {M K m : Nat} (h : tenOk [(M : Int), (K : Int)] m = true) : (1 ≤ M ∧ M ≤ 64) ∧ (1 ≤ K ∧ K ≤ 64) ∧ m = M * K := by
  obtain ⟨q1, q2⟩ := tenOk_iff.1 h
  obtain ⟨h1, h2, h3⟩ := size_two q1
  refine ⟨by omega, by omega, ?_⟩
  rw [h3, ← Int.natCast_mul] at q2
  omega

theorem two_ten {M K : Nat} (hM : 1 ≤ M ∧ M ≤ 64) (hK : 1 ≤ K ∧ K ≤ 64) : tenOk [(M : Int), (K : Int)] (M * K) = true := by
  obtain ⟨h1, h2, h3⟩ := two_size hM hK
  exact tenOk_iff.2 ⟨by omega, h1⟩

theorem shp7_two {M K N : Nat} (hM : 1 ≤ M ∧ M ≤ 64) (hK : 1 ≤ K ∧ K ≤ 64) (hN : 1 ≤ N ∧ N ≤ 64) : shp7E [(M : Int), (K : Int)] [(K : Int), (N : Int)] = 0 ∧ shp7S [(M : Int), (K : Int)] [(K : Int), (N : Int)] = [(M : Int), (N : Int)] := by
  obtain ⟨h1, h2, h3⟩ := two_size hM hK
  obtain ⟨h4, h5, h6⟩ := two_size hK hN
  have h : shp7E [(M : Int), (K : Int)] [(K : Int), (N : Int)] = 0 := shp7E_iff.2 ⟨⟨by omega, by omega⟩, rfl, rfl, rfl⟩
  exact ⟨h, by rw [shp7S_ok h]; rfl⟩

set_option maxHeartbeats 2000000 in
theorem pof_bad (A B A' B' : Option Addr) (n c m d n' c' m' d' : Nat) (s l s' l' : List Int) (w : World) (hA : Lies w A n (s.map (Value.int .i64))) (hB : Lies w B m (l.map (Value.int .i32))) (hA' : Lies w A' n' (s'.map (Value.int .i64))) (hB' : Lies w B' m' (l'.map (Value.int .i32))) (hn : n ≤ 281474976710656) (hn' : n' ≤ 281474976710656) (hbad : of7E s m s' m' ≠ 0) :
    Calls Try.prog 8 #[tenV A n c B m d, tenV A' n' c' B' m' d'] w fun e w' => e = .returned (.tuple #[tenV none 0 0 none 0 0, .int .i64 (of7E s m s' m')]) ∧ Below w.heap.size w w' := by
  obtain ⟨W0, hW0⟩ : ∃ W0, W0 = ((w.alloc (.cells #[.slice A n c, .slice B m d] 28)).alloc (.cells #[.slice A' n' c', .slice B' m' d'] 28)).alloc (.cells #[.slice none 0 0, .slice none 0 0] 28) := ⟨_, rfl⟩
  have HB0 : Hid (Below w.heap.size w W0) := hide (by rw [hW0]; exact (((Below.refl w.heap.size w).alloc (Nat.le_refl _) _).alloc (by simp only [World.size_alloc]; omega) _).alloc (by simp only [World.size_alloc]; omega) _)
  have hs0 : W0.heap.size = w.heap.size + 3 := by rw [hW0]; simp
  have HX0 : Hid (BoxT W0 w.heap.size (.slice A n c) (.slice B m d)) := hide (by rw [hW0]; exact ((BoxT.new w _ _).alloc _).alloc _)
  have HX1 : Hid (BoxT W0 (w.heap.size + 1) (.slice A' n' c') (.slice B' m' d')) := hide (by
    rw [hW0]
    have h := (BoxT.new (w.alloc (.cells #[.slice A n c, .slice B m d] 28)) (.slice A' n' c') (.slice B' m' d')).alloc (.cells #[.slice none 0 0, .slice none 0 0] 28)
    rwa [World.size_alloc] at h)
  have HXR : Hid (BoxT W0 (w.heap.size + 2) (.slice none 0 0) (.slice none 0 0)) := hide (by
    rw [hW0]
    have h := BoxT.new ((w.alloc (.cells #[.slice A n c, .slice B m d] 28)).alloc (.cells #[.slice A' n' c', .slice B' m' d'] 28)) (.slice none 0 0) (.slice none 0 0)
    rwa [World.size_alloc, World.size_alloc] at h)
  have hW0' := hW0.symm
  clear hW0
  have HS0 := hide hs0
  have HA := hide (hA.below HB0.out)
  have HB := hide (hB.below HB0.out)
  have HA' := hide (hA'.below HB0.out)
  have HB' := hide (hB'.below HB0.out)
  have HC : Hid (∀ v, Below W0.heap.size W0 v → (v.cell? ⟨w.heap.size, 0, none⟩ = some (.slice A n c) ∧ v.cell? ⟨w.heap.size, 1, none⟩ = some (.slice B m d) ∧ v.cell? ⟨w.heap.size + 1, 0, none⟩ = some (.slice A' n' c') ∧ v.cell? ⟨w.heap.size + 1, 1, none⟩ = some (.slice B' m' d')) ∧ v.cell? ⟨w.heap.size + 2, 0, none⟩ = some (.slice none 0 0) ∧ v.cell? ⟨w.heap.size + 2, 1, none⟩ = some (.slice none 0 0) ∧ v.frozen? ⟨w.heap.size + 2, 0, none⟩ = false ∧ v.frozen? ⟨w.heap.size + 2, 1, none⟩ = false) := hide (fun v hv =>
    ⟨⟨(HX0.out.kept hv).c0, (HX0.out.kept hv).c1, (HX1.out.kept hv).c0, (HX1.out.kept hv).c1⟩, (HXR.out.kept hv).c0, (HXR.out.kept hv).c1, (HXR.out.kept hv).f0 0, (HXR.out.kept hv).f0 1⟩)
  clear hA hB hA' hB' hs0
  have HBD := hide hbad
  clear hbad
  go_enter Try.func8, Try.ntmps8
  obtain ⟨⟨a0, a1, b0, b1⟩, r0, r1, rf0, rf1⟩ := HC.out _ (Below.refl _ W0)
  go_wp2_with fail
  refine Calls.mono (tcheck_any A B n c m d s _ HA.out hn) ?_
  rintro e w1 ⟨rfl, hb1⟩
  clear a0 a1 b0 b1 r0 r1 rf0 rf1
  obtain ⟨⟨a0, a1, b0, b1⟩, r0, r1, rf0, rf1⟩ := HC.out _ hb1
  by_cases h1 : tenOk s m = true
  rotate_left
  · rw [show tenOk s m = false by simpa using h1]
    have HE : Hid (of7E s m s' m' = 1) := hide (by rw [of7E, if_neg fun h => h1 h.1])
    clear h1
    have HXF := hide (HXR.out.kept hb1)
    have HBF := hide (HB0.out.trans (hb1.mono (by have := HS0.out; omega)))
    go_wp2
    (try simp only [Exit.inBlock, Exit.then])
    refine ret_ten (p := 4) (u := 5) rfl rfl (w.heap.size + 2) _ rfl (HXF.out.set2 _ _) rfl ?_
    exact ⟨by rw [HE.out]; rfl, (HBF.out.setCell (by dsimp only; omega) _).setCell (by dsimp only; omega) _⟩
  rw [h1]
  go_wp2_with fail
  refine Calls.mono (tcheck_any A' B' n' c' m' d' s' _ (HA'.out.below hb1) hn') ?_
  rintro e w2 ⟨rfl, hb20⟩
  have hb2 : Below W0.heap.size W0 w2 := hb1.trans (hb20.mono hb1.size)
  clear a0 a1 b0 b1 r0 r1 rf0 rf1 hb20
  obtain ⟨⟨a0, a1, b0, b1⟩, r0, r1, rf0, rf1⟩ := HC.out _ hb2
  by_cases h2 : tenOk s' m' = true
  rotate_left
  · rw [show tenOk s' m' = false by simpa using h2]
    have HE : Hid (of7E s m s' m' = 1) := hide (by rw [of7E, if_neg fun h => h2 h.2])
    clear h1 h2
    have HXF := hide (HXR.out.kept hb2)
    have HBF := hide (HB0.out.trans (hb2.mono (by have := HS0.out; omega)))
    go_wp2
    (try simp only [Exit.inBlock, Exit.then])
    refine ret_ten (p := 4) (u := 5) rfl rfl (w.heap.size + 2) _ rfl (HXF.out.set2 _ _) rfl ?_
    exact ⟨by rw [HE.out]; rfl, (HBF.out.setCell (by dsimp only; omega) _).setCell (by dsimp only; omega) _⟩
  rw [h2]
  have HE : Hid (of7E s m s' m' = shp7E s s') := hide (by rw [of7E, if_pos ⟨h1, h2⟩])
  clear h1 h2
  go_wp2_with fail
  refine Calls.mono (pshape_any A A' n c n' c' s s' _ (HA.out.below hb2) (HA'.out.below hb2) hn hn') ?_
  rw [← HE.out]
  obtain ⟨E, hE⟩ : ∃ E, E = of7E s m s' m' := ⟨_, rfl⟩
  rw [← hE]
  rintro e w3 ⟨R, k, kc, rfl, ho, hk2, hb30⟩
  have hb3 : Below W0.heap.size W0 w3 := hb2.trans (hb30.mono hb2.size)
  have hE0 : ¬ E = 0 := by rw [hE]; exact HBD.out
  have hE1 : (E == 0) = false := by simpa using hE0
  have hE2 : (E != 0) = true := by simpa using hE0
  have HEE := hide hE
  clear a0 a1 b0 b1 r0 r1 rf0 rf1 hb30 ho hE
  obtain ⟨⟨a0, a1, b0, b1⟩, r0, r1, rf0, rf1⟩ := HC.out _ hb3
  have HXF := hide (HXR.out.kept hb3)
  have HBF := hide (HB0.out.trans (hb3.mono (by have := HS0.out; omega)))
  go_wp2
  (try simp only [Exit.inBlock, Exit.then])
  refine ret_ten (p := 4) (u := 5) rfl rfl (w.heap.size + 2) _ rfl (HXF.out.set2 _ _) rfl ?_
  exact ⟨by rw [← HEE.out]; rfl, (HBF.out.setCell (by dsimp only; omega) _).setCell (by dsimp only; omega) _⟩

set_option maxHeartbeats 4000000 in
theorem pof_ok (A B A' B' : Option Addr) (c m d c' m' d' M K N : Nat) (l l' : List Int) (w : World) (hA : Lies w A 2 (([(M : Int), (K : Int)] : List Int).map (Value.int .i64))) (hB : Lies w B m (l.map (Value.int .i32))) (hA' : Lies w A' 2 (([(K : Int), (N : Int)] : List Int).map (Value.int .i64))) (hB' : Lies w B' m' (l'.map (Value.int .i32)))
    (hok : tenOk [(M : Int), (K : Int)] m = true) (hok' : tenOk [(K : Int), (N : Int)] m' = true) :
    Calls Try.prog 8 #[tenV A 2 c B m d, tenV A' 2 c' B' m' d'] w fun e w' => ∃ g1 c1 g2, e = .returned (.tuple #[tenV (some ⟨g1, 0, none⟩) 2 c1 (some ⟨g2, 0, none⟩) (M * N) (M * N), .int .i64 0]) ∧
      w'.ownsRow w.heap.size 3 1 (.slice (some ⟨g1, 0, none⟩) 2 c1) 2 (([(M : Int), (N : Int)] : List Int).map (Value.int .i64)) ∧ w'.ownsRow w.heap.size 21 1 (.slice (some ⟨g2, 0, none⟩) (M * N) (M * N)) (M * N) ((prodL l l' M K N).map (Value.int .i32)) ∧ g1 ≠ g2 ∧ Below w.heap.size w w' := by
  obtain ⟨hM, hK, hm⟩ := ten_two hok
  obtain ⟨_, hN, hm'⟩ := ten_two hok'
  obtain ⟨hz1, hz2, hz3⟩ := two_size hM hN
  obtain ⟨hz4, hz5, hz6⟩ := two_size hK hN
  obtain ⟨hz7, hz8, hz9⟩ := two_size hM hK
  obtain ⟨hE, hS⟩ := shp7_two hM hK hN
  obtain ⟨q, hq⟩ : ∃ q, q = M * N := ⟨_, rfl⟩
  rw [← hq] at hz1 hz2 hz3 ⊢
  obtain ⟨zs, hzs⟩ : ∃ zs, zs = prodL l l' M K N := ⟨_, rfl⟩
  rw [← hzs]
  have HZ := hide hzs
  have HZL : Hid (zs.length = q) := hide (by rw [hzs, prodL_len, hq])
  have HQ := hide hq
  have HE := hide hE
  have HS := hide hS
  have HSZ := hide hz1
  have HM1 := hide hm
  have HM2 := hide hm'
  clear hzs hq hE hS hz1 hz4 hz7 hm hm'
  obtain ⟨W0, hW0⟩ : ∃ W0, W0 = ((w.alloc (.cells #[.slice A 2 c, .slice B m d] 28)).alloc (.cells #[.slice A' 2 c', .slice B' m' d'] 28)).alloc (.cells #[.slice none 0 0, .slice none 0 0] 28) := ⟨_, rfl⟩
  have HB0 : Hid (Below w.heap.size w W0) := hide (by rw [hW0]; exact (((Below.refl w.heap.size w).alloc (Nat.le_refl _) _).alloc (by simp only [World.size_alloc]; omega) _).alloc (by simp only [World.size_alloc]; omega) _)
  have hs0 : W0.heap.size = w.heap.size + 3 := by rw [hW0]; simp
  have HX0 : Hid (BoxT W0 w.heap.size (.slice A 2 c) (.slice B m d)) := hide (by rw [hW0]; exact ((BoxT.new w _ _).alloc _).alloc _)
  have HX1 : Hid (BoxT W0 (w.heap.size + 1) (.slice A' 2 c') (.slice B' m' d')) := hide (by
    rw [hW0]
    have h := (BoxT.new (w.alloc (.cells #[.slice A 2 c, .slice B m d] 28)) (.slice A' 2 c') (.slice B' m' d')).alloc (.cells #[.slice none 0 0, .slice none 0 0] 28)
    rwa [World.size_alloc] at h)
  have HXR : Hid (BoxT W0 (w.heap.size + 2) (.slice none 0 0) (.slice none 0 0)) := hide (by
    rw [hW0]
    have h := BoxT.new ((w.alloc (.cells #[.slice A 2 c, .slice B m d] 28)).alloc (.cells #[.slice A' 2 c', .slice B' m' d'] 28)) (.slice none 0 0) (.slice none 0 0)
    rwa [World.size_alloc, World.size_alloc] at h)
  have hW0' := hW0.symm
  clear hW0
  have HS0 := hide hs0
  have HA := hide (hA.below HB0.out)
  have HB := hide (hB.below HB0.out)
  have HA' := hide (hA'.below HB0.out)
  have HB' := hide (hB'.below HB0.out)
  have HC : Hid (∀ v, Below W0.heap.size W0 v → (v.cell? ⟨w.heap.size, 0, none⟩ = some (.slice A 2 c) ∧ v.cell? ⟨w.heap.size, 1, none⟩ = some (.slice B m d) ∧ v.cell? ⟨w.heap.size + 1, 0, none⟩ = some (.slice A' 2 c') ∧ v.cell? ⟨w.heap.size + 1, 1, none⟩ = some (.slice B' m' d')) ∧ v.cell? ⟨w.heap.size + 2, 0, none⟩ = some (.slice none 0 0) ∧ v.cell? ⟨w.heap.size + 2, 1, none⟩ = some (.slice none 0 0) ∧ v.frozen? ⟨w.heap.size + 2, 0, none⟩ = false ∧ v.frozen? ⟨w.heap.size + 2, 1, none⟩ = false) := hide (fun v hv =>
    ⟨⟨(HX0.out.kept hv).c0, (HX0.out.kept hv).c1, (HX1.out.kept hv).c0, (HX1.out.kept hv).c1⟩, (HXR.out.kept hv).c0, (HXR.out.kept hv).c1, (HXR.out.kept hv).f0 0, (HXR.out.kept hv).f0 1⟩)
  have HLW := hide (And.intro hA' (And.intro hB hB'))
  clear hA hB hA' hB' hs0
  have HOK1 := hide hok
  have HOK2 := hide hok'
  clear hok hok'
  go_enter Try.func8, Try.ntmps8
  obtain ⟨⟨a0, a1, b0, b1⟩, r0, r1, rf0, rf1⟩ := HC.out _ (Below.refl _ W0)
  go_wp2_with fail
  refine Calls.mono (tcheck_any A B 2 c m d [(M : Int), (K : Int)] _ HA.out (by omega)) ?_
  rw [HOK1.out]
  rintro e w1 ⟨rfl, hb1⟩
  clear a0 a1 b0 b1 r0 r1 rf0 rf1
  obtain ⟨⟨a0, a1, b0, b1⟩, r0, r1, rf0, rf1⟩ := HC.out _ hb1
  go_wp2_with fail
  refine Calls.mono (tcheck_any A' B' 2 c' m' d' [(K : Int), (N : Int)] _ (HA'.out.below hb1) (by omega)) ?_
  rw [HOK2.out]
  rintro e w2 ⟨rfl, hb20⟩
  have hb2 : Below W0.heap.size W0 w2 := hb1.trans (hb20.mono hb1.size)
  clear a0 a1 b0 b1 r0 r1 rf0 rf1 hb20 hb1
  obtain ⟨⟨a0, a1, b0, b1⟩, r0, r1, rf0, rf1⟩ := HC.out _ hb2
  go_wp2_with fail
  refine Calls.mono (pshape_any A A' 2 c 2 c' [(M : Int), (K : Int)] [(K : Int), (N : Int)] _ (HA.out.below hb2) (HA'.out.below hb2) (by omega) (by omega)) ?_
  rw [HE.out, HS.out]
  rintro e w3 ⟨R, k, kc, rfl, ho, hk2, hb30⟩
  have hb3 : Below W0.heap.size W0 w3 := hb2.trans (hb30.mono hb2.size)
  obtain rfl : k = 2 := by have := ho.1; simpa using this.symm
  obtain ⟨gs, rfl⟩ := own_some ho (by omega)
  have HLS := hide (lies_of_own ho)
  clear a0 a1 b0 b1 r0 r1 rf0 rf1 hb30 hb2 ho hk2
  obtain ⟨⟨a0, a1, b0, b1⟩, r0, r1, rf0, rf1⟩ := HC.out _ hb3
  go_wp2_with fail
  refine Calls.mono (new_ok (some ⟨gs, 0, none⟩) 2 kc q [(M : Int), (N : Int)] w3 HLS.out HSZ.out (by omega)) ?_
  rintro e w4 ⟨g1, c1, g2, rfl, ho1, ho2, hne, hb40⟩
  have lt1 := ho1.lt g1 rfl
  have lt2 := ho2.lt g2 rfl
  have hb4 : Below W0.heap.size W0 w4 := hb3.trans (hb40.mono hb3.size)
  obtain ⟨W1, hW1⟩ : ∃ W1, W1 = w4.alloc (.cells #[.slice (some ⟨g1, 0, none⟩) 2 c1, .slice (some ⟨g2, 0, none⟩) q q] 28) := ⟨_, rfl⟩
  have HB1 : Hid (Below W0.heap.size W0 W1) := hide (by rw [hW1]; exact hb4.alloc hb4.size _)
  have HT1 : Hid (BoxT W1 w4.heap.size (.slice (some ⟨g1, 0, none⟩) 2 c1) (.slice (some ⟨g2, 0, none⟩) q q)) := hide (by rw [hW1]; exact BoxT.new w4 _ _)
  have HO1 : Hid (W1.ownsRow w3.heap.size 3 1 (.slice (some ⟨g1, 0, none⟩) 2 c1) 2 (([(M : Int), (N : Int)] : List Int).map (Value.int .i64))) := hide (by rw [hW1]; exact ho1.alloc _)
  have HF1 : Hid (FillAt W1 g2 q zs 0) := hide (by rw [hW1]; exact FillAt.of_own (ho2.alloc _) zs)
  have hs1 : W1.heap.size = w4.heap.size + 1 := by rw [hW1]; simp
  have HLS1 : Hid (Lies W1 (some ⟨gs, 0, none⟩) 2 (([(M : Int), (N : Int)] : List Int).map (Value.int .i64))) := hide (by rw [hW1]; exact (HLS.out.below hb40).alloc _)
  have hW1' := hW1.symm
  have hs3 := hb3.size
  clear hW1 ho1 ho2 hb40 hb4 hb3 a0 a1 b0 b1 r0 r1 rf0 rf1
  have HSZ1 := hide hs1
  have HS3 := hide hs3
  clear hs1 hs3
  have z0 : W1.cell? ⟨gs, 0, none⟩ = some (.int .i64 (M : Int)) := by
    obtain ⟨b, o, e, _, hx⟩ := byte_at HLS1.out (by omega)
    cases e
    exact hx 0 (by omega)
  have z1 : W1.cell? ⟨gs, 1, none⟩ = some (.int .i64 (N : Int)) := by
    obtain ⟨b, o, e, _, hx⟩ := byte_at HLS1.out (by omega)
    cases e
    exact hx 1 (by omega)
  have HLB : Hid (∀ v, W1.grownBy v (some g2) → Lies v A' 2 (([(K : Int), (N : Int)] : List Int).map (Value.int .i64)) ∧ Lies v B m (l.map (Value.int .i32)) ∧ Lies v B' m' (l'.map (Value.int .i32))) := hide (fun v hv => by
    have hbw := HB0.out.trans (HB1.out.mono HB0.out.size)
    have hlo : w.heap.size ≤ g2 := by have := HS0.out; have := HS3.out; omega
    exact ⟨grown_lies hv (HLW.out.1.below hbw) (lies_block HLW.out.1 (by omega) hlo), grown_lies hv (HLW.out.2.1.below hbw) (lies_block HLW.out.2.1 (by have := HM1.out; omega) hlo), grown_lies hv (HLW.out.2.2.below hbw) (lies_block HLW.out.2.2 (by have := HM2.out; omega) hlo)⟩)
  have HF : Hid (∀ v, W1.grownBy v (some g2) → v.cell? ⟨w4.heap.size, 1, none⟩ = some (.slice (some ⟨g2, 0, none⟩) q q) ∧ v.cell? ⟨w.heap.size, 0, none⟩ = some (.slice A 2 c) ∧ v.cell? ⟨w.heap.size, 1, none⟩ = some (.slice B m d) ∧ v.cell? ⟨w.heap.size + 1, 0, none⟩ = some (.slice A' 2 c') ∧ v.cell? ⟨w.heap.size + 1, 1, none⟩ = some (.slice B' m' d')) := hide (fun v hv => by
    have h01 : ∀ k, k < W0.heap.size → v.heap[k]? = W0.heap[k]? := fun k hk => (hv.block k (by have := HB1.out.size; omega) (by simp; have := HS3.out; omega)).trans (HB1.out.block k hk)
    have h8 : BoxT v w4.heap.size (.slice (some ⟨g1, 0, none⟩) 2 c1) (.slice (some ⟨g2, 0, none⟩) q q) := (hv.block _ (by have := HSZ1.out; omega) (by simp; omega)).trans HT1.out
    have hs := HS0.out
    have k0 : BoxT v w.heap.size (.slice A 2 c) (.slice B m d) := (h01 _ (by omega)).trans HX0.out
    have k1 : BoxT v (w.heap.size + 1) (.slice A' 2 c') (.slice B' m' d') := (h01 _ (by omega)).trans HX1.out
    exact ⟨h8.c1, k0.c0, k0.c1, k1.c0, k1.c1⟩)
  go_wp2
  go_quiet (fail)
  go_wp2
  clear hW1' hW0' z0 z1
  go_loopw [47] (fun i wr => ∃ k : Nat, k ≤ M ∧ i = .int .i64 k ∧ Hid (FillAt wr g2 q zs (k * N)) ∧ Hid (W1.grownBy wr (some g2))) (fun i _ => M - (intOf i).toNat)
  case atStart => exact ⟨0, Nat.zero_le _, rfl, hide (by rw [Nat.zero_mul]; exact HF1.out.below (below_drewN (Below.refl _ _) _)), hide (grown_below (below_drewN (Below.refl _ _) _) _)⟩
  case round =>
    obtain ⟨k, hk, rfl, HFF, HG⟩ := hrel
    by_cases hlt : k < M
    · have h3 : (k : Int) < (M : Int) := by omega
      go_wp2
      go_loopw [51] (fun i wr => ∃ j : Nat, j ≤ N ∧ i = .int .i64 j ∧ Hid (FillAt wr g2 q zs (k * N + j)) ∧ Hid (W1.grownBy wr (some g2))) (fun i _ => N - (intOf i).toNat)
      case atStart => exact ⟨0, Nat.zero_le _, rfl, HFF, HG⟩
      case round =>
        clear HFF HG
        obtain ⟨j, hj, rfl, HFF, HG⟩ := hrel
        by_cases hltj : j < N
        · have h4 : (j : Int) < (N : Int) := by omega
          obtain ⟨u1, hu1⟩ : ∃ q, q = k * N := ⟨_, rfl⟩
          obtain ⟨q1, hq1⟩ : ∃ q, q = k * N + j := ⟨_, rfl⟩
          have hpl := place_lt hlt hltj
          have hmk : k * K + K ≤ m := by rw [HM1.out, ← Nat.succ_mul]; exact Nat.mul_le_mul_right K hlt
          have hqm : q1 < q := by rw [HQ.out]; omega
          have m1 : IntKind.i64.wrap ((k : Int) * (N : Int)) = (u1 : Int) := by rw [hu1, Int.natCast_mul, IntKind.wrap_i64, ← Int.natCast_mul]; omega
          have m2 : IntKind.i64.wrap ((u1 : Int) + (j : Int)) = (q1 : Int) := by rw [hu1, hq1, IntKind.wrap_i64]; omega
          obtain ⟨z, hz⟩ : ∃ z, z = dotN l l' K N k j K := ⟨_, rfl⟩
          have HZD : Hid (zs.getD q1 0 = z) := hide (by rw [hz, HZ.out, hq1]; exact prodL_at hlt hltj)
          have HRC : Hid (∀ v, W1.grownBy v (some g2) → Calls Try.prog 19 #[tenV A 2 c B m d, tenV A' 2 c' B' m' d', .int .i64 (k : Int), .int .i64 (j : Int)] v fun e w' => e = .returned (.int .i32 z) ∧ Below v.heap.size v w') := hide (fun v hv => by
            obtain ⟨p1, p2, p3⟩ := HLB.out v hv
            rw [hz]
            exact rowcol_any A B A' B' 2 c m d c' m' d' K N k j l l' v p2 p1 p3 (by omega) (by omega) (by omega) (by omega) hltj hmk (by rw [HM2.out]; exact Nat.le_refl _))
          rw [← hq1] at HFF
          have HU := hide hq1
          clear hz hu1 hq1 hpl hmk
          have hg1 : W1.grownBy wr.drew (some g2) := grown_trans HG.out (grown_below (below_drewN (Below.refl _ wr) 1) _)
          have hi1 : (0 : Int) ≤ (q1 : Int) := by omega
          have hi2 : (q1 : Int) < (q : Int) := by omega
          have HFD : Hid (FillAt wr.drew g2 q zs q1) := hide HFF.out
          go_wp2
          have hS0 : Hid (wr.drew.cell? ⟨w4.heap.size, 1, none⟩ = some (.slice (some ⟨g2, 0, none⟩) q q) ∧ wr.drew.cell? ⟨w.heap.size, 0, none⟩ = some (.slice A 2 c) ∧ wr.drew.cell? ⟨w.heap.size, 1, none⟩ = some (.slice B m d) ∧ wr.drew.cell? ⟨w.heap.size + 1, 0, none⟩ = some (.slice A' 2 c') ∧ wr.drew.cell? ⟨w.heap.size + 1, 1, none⟩ = some (.slice B' m' d')) := hide (HF.out _ hg1)
          refine wp_region_U (fun _ v => v.cell? ⟨w4.heap.size, 1, none⟩ = some (.slice (some ⟨g2, 0, none⟩) q q) ∧ v.cell? ⟨w.heap.size, 0, none⟩ = some (.slice A 2 c) ∧ v.cell? ⟨w.heap.size, 1, none⟩ = some (.slice B m d) ∧ v.cell? ⟨w.heap.size + 1, 0, none⟩ = some (.slice A' 2 c') ∧ v.cell? ⟨w.heap.size + 1, 1, none⟩ = some (.slice B' m' d')) 99 (by kernel_rfl) ?_
          refine wpAnyU_take (i := 0) (oi := { dst := some 54, op := _, type := _, pos := _, after := _, guard := none }) (v := .pointer (some ⟨w4.heap.size, 1, none⟩)) rfl (by kernel_rfl) (by kernel_rfl) (by kernel_rfl) (by kernel_rfl) (fun _ _ _ h => h) (yields_take rfl (fun w' hw => by obtain ⟨h1, h2, h3, h4, h5⟩ := hw.const; go_simp)) hS0.out ?_
          simp only [Act.put, List.setIfInBounds_toArray, List.set_cons_zero, List.set_cons_succ]
          refine wpAnyU_take (i := 1) (oi := { dst := some 55, op := _, type := _, pos := _, after := _, guard := none }) (v := .slice (some ⟨g2, 0, none⟩) q q) rfl (by kernel_rfl) (by kernel_rfl) (by kernel_rfl) (by kernel_rfl) (fun _ _ _ h => h) (yields_take rfl (fun w' hw => by obtain ⟨h1, h2, h3, h4, h5⟩ := hw.const; go_simp)) hS0.out ?_
          simp only [Act.put, List.setIfInBounds_toArray, List.set_cons_zero, List.set_cons_succ]
          refine wpAnyU_take (i := 2) (oi := { dst := some 56, op := _, type := _, pos := _, after := _, guard := none }) (v := .int .i64 (k : Int)) rfl (by kernel_rfl) (by kernel_rfl) (by kernel_rfl) (by kernel_rfl) (fun _ _ _ h => h) (yields_take rfl (fun w' hw => by obtain ⟨h1, h2, h3, h4, h5⟩ := hw.const; go_simp)) hS0.out ?_
          simp only [Act.put, List.setIfInBounds_toArray, List.set_cons_zero, List.set_cons_succ]
          refine wpAnyU_take (i := 3) (oi := { dst := some 57, op := _, type := _, pos := _, after := _, guard := none }) (v := .int .i64 (N : Int)) rfl (by kernel_rfl) (by kernel_rfl) (by kernel_rfl) (by kernel_rfl) (fun _ _ _ h => h) (yields_take rfl (fun w' hw => by obtain ⟨h1, h2, h3, h4, h5⟩ := hw.const; go_simp)) hS0.out ?_
          simp only [Act.put, List.setIfInBounds_toArray, List.set_cons_zero, List.set_cons_succ]
          refine wpAnyU_take (i := 4) (oi := { dst := some 58, op := _, type := _, pos := _, after := _, guard := none }) (v := .int .i64 (u1 : Int)) rfl (by kernel_rfl) (by kernel_rfl) (by kernel_rfl) (by kernel_rfl) (fun _ _ _ h => h) (yields_take rfl (fun w' hw => by obtain ⟨h1, h2, h3, h4, h5⟩ := hw.const; go_simp)) hS0.out ?_
          simp only [Act.put, List.setIfInBounds_toArray, List.set_cons_zero, List.set_cons_succ]
          refine wpAnyU_take (i := 5) (oi := { dst := some 59, op := _, type := _, pos := _, after := _, guard := none }) (v := .int .i64 (j : Int)) rfl (by kernel_rfl) (by kernel_rfl) (by kernel_rfl) (by kernel_rfl) (fun _ _ _ h => h) (yields_take rfl (fun w' hw => by obtain ⟨h1, h2, h3, h4, h5⟩ := hw.const; go_simp)) hS0.out ?_
          simp only [Act.put, List.setIfInBounds_toArray, List.set_cons_zero, List.set_cons_succ]
          refine wpAnyU_take (i := 6) (oi := { dst := some 60, op := _, type := _, pos := _, after := _, guard := none }) (v := .int .i64 (q1 : Int)) rfl (by kernel_rfl) (by kernel_rfl) (by kernel_rfl) (by kernel_rfl) (fun _ _ _ h => h) (yields_take rfl (fun w' hw => by obtain ⟨h1, h2, h3, h4, h5⟩ := hw.const; go_simp)) hS0.out ?_
          simp only [Act.put, List.setIfInBounds_toArray, List.set_cons_zero, List.set_cons_succ]
          refine wpAnyU_take (i := 7) (oi := { dst := some 61, op := _, type := _, pos := _, after := _, guard := none }) (v := .agg #[.slice A 2 c, .slice B m d]) rfl (by kernel_rfl) (by kernel_rfl) (by kernel_rfl) (by kernel_rfl) (fun _ _ _ h => h) (yields_take rfl (fun w' hw => by obtain ⟨h1, h2, h3, h4, h5⟩ := hw.const; go_simp)) hS0.out ?_
          simp only [Act.put, List.setIfInBounds_toArray, List.set_cons_zero, List.set_cons_succ]
          refine wpAnyU_take (i := 8) (oi := { dst := some 62, op := _, type := _, pos := _, after := _, guard := none }) (v := .agg #[.slice A' 2 c', .slice B' m' d']) rfl (by kernel_rfl) (by kernel_rfl) (by kernel_rfl) (by kernel_rfl) (fun _ _ _ h => h) (yields_take rfl (fun w' hw => by obtain ⟨h1, h2, h3, h4, h5⟩ := hw.const; go_simp)) hS0.out ?_
          simp only [Act.put, List.setIfInBounds_toArray, List.set_cons_zero, List.set_cons_succ]
          refine wpAnyU_take (i := 9) (oi := { dst := some 63, op := _, type := _, pos := _, after := _, guard := none }) (v := .int .i64 (k : Int)) rfl (by kernel_rfl) (by kernel_rfl) (by kernel_rfl) (by kernel_rfl) (fun _ _ _ h => h) (yields_take rfl (fun w' hw => by obtain ⟨h1, h2, h3, h4, h5⟩ := hw.const; go_simp)) hS0.out ?_
          simp only [Act.put, List.setIfInBounds_toArray, List.set_cons_zero, List.set_cons_succ]
          refine wpAnyU_take (i := 10) (oi := { dst := some 64, op := _, type := _, pos := _, after := _, guard := none }) (v := .int .i64 (j : Int)) rfl (by kernel_rfl) (by kernel_rfl) (by kernel_rfl) (by kernel_rfl) (fun _ _ _ h => h) (yields_take rfl (fun w' hw => by obtain ⟨h1, h2, h3, h4, h5⟩ := hw.const; go_simp)) hS0.out ?_
          simp only [Act.put, List.setIfInBounds_toArray, List.set_cons_zero, List.set_cons_succ]
          refine wpAnyU_one (i := 11) (by kernel_rfl) rfl ?_
          intro K hK
          go_simp
          refine Calls.mono (HRC.out _ hg1) ?_
          rintro e w6 ⟨rfl, hb60⟩
          dsimp only
          have hb6 : Below wr.drew.heap.size wr.drew w6 := hb60
          have hg2 : W1.grownBy w6 (some g2) := grown_trans hg1 (grown_below hb60 _)
          have hs : w6.cell? ⟨g2, q1, none⟩ = some (.int .i32 0) := by have h := (HFD.out.below hb60).cell hqm; rwa [if_neg (by omega)] at h
          have hf : w6.frozen? ⟨g2, q1, none⟩ = false := (HFD.out.below hb60).frozen q1
          clear hb60
          have hS1 : Hid (w6.cell? ⟨w4.heap.size, 1, none⟩ = some (.slice (some ⟨g2, 0, none⟩) q q) ∧ w6.cell? ⟨w.heap.size, 0, none⟩ = some (.slice A 2 c) ∧ w6.cell? ⟨w.heap.size, 1, none⟩ = some (.slice B m d) ∧ w6.cell? ⟨w.heap.size + 1, 0, none⟩ = some (.slice A' 2 c') ∧ w6.cell? ⟨w.heap.size + 1, 1, none⟩ = some (.slice B' m' d')) := hide (HF.out _ hg2)
          refine hK.out _ _ hS1.out (fun _ => ?_)
          clear hK K hS0
          refine wpAnyU_take (i := 12) (oi := { dst := some 66, op := _, type := _, pos := _, after := _, guard := none }) (v := .pointer (some ⟨g2, q1, none⟩)) rfl (by kernel_rfl) (by kernel_rfl) (by kernel_rfl) (by kernel_rfl) (fun _ _ _ h => h) (yields_take rfl (fun w' hw => by obtain ⟨h1, h2, h3, h4, h5⟩ := hw.const; go_simp)) hS1.out ?_
          simp only [Act.put, List.setIfInBounds_toArray, List.set_cons_zero, List.set_cons_succ]
          refine wpAnyU_one (i := 13) (by kernel_rfl) rfl ?_
          intro K hK
          go_simp
          have hg3 : W1.grownBy (w6.setCell ⟨g2, q1, none⟩ (.int .i32 z)) (some g2) := grown_trans hg2 (grown_cell6 _ _ _)
          have hS2 : Hid ((w6.setCell ⟨g2, q1, none⟩ (.int .i32 z)).cell? ⟨w4.heap.size, 1, none⟩ = some (.slice (some ⟨g2, 0, none⟩) q q) ∧ (w6.setCell ⟨g2, q1, none⟩ (.int .i32 z)).cell? ⟨w.heap.size, 0, none⟩ = some (.slice A 2 c) ∧ (w6.setCell ⟨g2, q1, none⟩ (.int .i32 z)).cell? ⟨w.heap.size, 1, none⟩ = some (.slice B m d) ∧ (w6.setCell ⟨g2, q1, none⟩ (.int .i32 z)).cell? ⟨w.heap.size + 1, 0, none⟩ = some (.slice A' 2 c') ∧ (w6.setCell ⟨g2, q1, none⟩ (.int .i32 z)).cell? ⟨w.heap.size + 1, 1, none⟩ = some (.slice B' m' d')) := hide (HF.out _ hg3)
          refine hK.out _ _ hS2.out (fun _ => ?_)
          clear hK K hS1
          refine wpAnyU_done (by kernel_rfl) ?_ _
          clear hS2
          have HNG : Hid (W1.grownBy (w6.setCell ⟨g2, q1, none⟩ (.int .i32 z)) (some g2)) := hide hg3
          have HNF : Hid (FillAt (w6.setCell ⟨g2, q1, none⟩ (.int .i32 z)) g2 q zs (k * N + (j + 1))) := hide (by
            have h := (HFD.out.below hb6).set
            rw [HZD.out] at h
            rw [← Nat.add_assoc, ← HU.out]
            exact h)
          clear hg3 hg2 hs hf
          go_wp2
          go_roundw
          case rel => exact ⟨j + 1, by omega, by go_num, HNF, HNG⟩
          case measure => simp [intOf]; omega
        · obtain rfl : j = N := by omega
          have HNF : Hid (FillAt wr g2 q zs ((k + 1) * j)) := hide (by rw [Nat.succ_mul]; exact HFF.out)
          go_wp2
          go_roundw
          case rel => exact ⟨k + 1, by omega, by go_num, HNF, HG⟩
          case measure => simp [intOf]; omega
    · obtain rfl : k = M := by omega
      have HFE : Hid (FillAt wr g2 q zs q) := hide (by have h := HFF.out; rwa [← HQ.out] at h)
      have hs0 := HS0.out
      have hs1 := HSZ1.out
      have hs3 := HS3.out
      have HTr : Hid (BoxT wr w4.heap.size (.slice (some ⟨g1, 0, none⟩) 2 c1) (.slice (some ⟨g2, 0, none⟩) q q)) := hide ((HG.out.block _ (by omega) (by simp; omega)).trans HT1.out)
      have HRr : Hid (BoxT wr (w.heap.size + 2) (.slice none 0 0) (.slice none 0 0)) := hide ((HG.out.block (w.heap.size + 2) (by have := HB1.out.size; omega) (by simp; omega)).trans ((HB1.out.block _ (by omega)).trans HXR.out))
      clear hs0 hs1
      have t0 := HTr.out.c0
      have t1 := HTr.out.c1
      have r0 := HRr.out.c0
      have r1 := HRr.out.c1
      have rf0 := HRr.out.f0 0
      have rf1 := HRr.out.f0 1
      go_wp2
      (try simp only [Exit.inBlock, Exit.then])
      refine ret_ten (p := 4) (u := 5) rfl rfl (w.heap.size + 2) _ rfl (HRr.out.set2 _ _) rfl ?_
      have hs0 := HS0.out
      have hs1 := HSZ1.out
      have hB1 := HB1.out
      have hB1s := hB1.size
      refine ⟨g1, c1, g2, rfl, ?_, ?_, hne, ?_⟩
      · refine own_base (own_setCell' (own_setCell' (HO1.out.kept (row := some g2) HG.out (.inr (by simp [Value.ownBlock]; omega))) (by dsimp only; omega) _) (by dsimp only; omega) _) (by omega)
      · refine own_setCell' (own_setCell' (HFE.out.own HZL.out (by omega) (by unfold maxLen; omega)) (by dsimp only; omega) _) (by dsimp only; omega) _
      · exact (((HB0.out.trans (hB1.mono HB0.out.size)).trans (below_grown HG.out (by omega) (by omega))).setCell (by dsimp only; omega) _).setCell (by dsimp only; omega) _

/-- Both ways out: what it answers lies in memory of its own. -/
theorem pof_own (A B A' B' : Option Addr) (n c m d n' c' m' d' : Nat) (s l s' l' : List Int) (w : World) (hA : Lies w A n (s.map (Value.int .i64))) (hB : Lies w B m (l.map (Value.int .i32))) (hA' : Lies w A' n' (s'.map (Value.int .i64))) (hB' : Lies w B' m' (l'.map (Value.int .i32))) (hn : n ≤ 281474976710656) (hn' : n' ≤ 281474976710656) :
    Calls Try.prog 8 #[tenV A n c B m d, tenV A' n' c' B' m' d'] w fun e w' => ∃ A1 k1 c1 A2 k2 c2, e = .returned (.tuple #[tenV A1 k1 c1 A2 k2 c2, .int .i64 (of7E s m s' m')]) ∧
      w'.ownsRow w.heap.size 3 1 (.slice A1 k1 c1) k1 ((of7S s m s' m').map (Value.int .i64)) ∧ w'.ownsRow w.heap.size 21 1 (.slice A2 k2 c2) k2 ((of7L s m s' m' l l').map (Value.int .i32)) ∧ k1 ≤ 4 ∧ k2 ≤ 4096 ∧ Below w.heap.size w w' := by
  by_cases h : of7E s m s' m' = 0
  · have h0 : tenOk s m = true ∧ tenOk s' m' = true := by
      by_cases h0 : tenOk s m = true ∧ tenOk s' m' = true
      · exact h0
      · rw [of7E, if_neg h0] at h; cases h
    have hE : shp7E s s' = 0 := by rw [of7E, if_pos h0] at h; exact h
    obtain ⟨⟨p1, p2⟩, e1, e2, e3⟩ := shp7E_iff.1 hE
    have hs := list_two e1
    have hs' := list_two e2
    obtain ⟨a, ha⟩ : ∃ a, a = s.getD 0 0 := ⟨_, rfl⟩
    obtain ⟨b, hb⟩ : ∃ b, b = s.getD 1 0 := ⟨_, rfl⟩
    obtain ⟨g, hg⟩ : ∃ g, g = s'.getD 1 0 := ⟨_, rfl⟩
    rw [← ha, ← hb] at hs
    rw [← e3, ← hb, ← hg] at hs'
    subst hs hs'
    clear ha hb hg e1 e2 e3
    obtain ⟨⟨a1, a2⟩, ⟨b1, b2⟩, _⟩ := size_two p1
    obtain ⟨_, ⟨g1, g2⟩, _⟩ := size_two p2
    obtain ⟨M, rfl⟩ := Int.eq_ofNat_of_zero_le (show 0 ≤ a by omega)
    obtain ⟨K, rfl⟩ := Int.eq_ofNat_of_zero_le (show 0 ≤ b by omega)
    obtain ⟨N, rfl⟩ := Int.eq_ofNat_of_zero_le (show 0 ≤ g by omega)
    have en : n = 2 := by have := hA.len; simpa using this.symm
    have en' : n' = 2 := by have := hA'.len; simpa using this.symm
    subst en en'
    refine (pof_ok A B A' B' c m d c' m' d' M K N l l' w hA hB hA' hB' h0.1 h0.2).mono ?_
    rintro e w' ⟨g1, c1, g2, rfl, ho1, ho2, hne, hb⟩
    obtain ⟨_, _, hz⟩ := two_size (M := M) (N := N) (by omega) (by omega)
    refine ⟨_, _, _, _, _, _, by rw [h], ?_, ?_, by omega, hz, hb⟩
    · rw [of7S, if_pos h, (shp7_two (M := M) (K := K) (N := N) (by omega) (by omega) (by omega)).2]; exact ho1
    · rw [of7L, if_pos h]; simpa using ho2
  · refine (pof_bad A B A' B' n c m d n' c' m' d' s l s' l' w hA hB hA' hB' hn hn' h).mono ?_
    rintro e w' ⟨rfl, hb⟩
    exact ⟨none, 0, 0, none, 0, 0, rfl, by rw [of7S, if_neg h]; exact World.ownsRow_nil _ _ _ _, by rw [of7L, if_neg h]; exact World.ownsRow_nil _ _ _ _, by omega, by omega, hb⟩

end Go.Proofs.Ytlalfjlcgabnnaa
