/- Contracts of the helpers of the statements on maths: of, is, alive. -/
import Derived.Test.YthdicobagmhpcaaMa5
import Derived.Test.YthdicobagmhpcaaSameG
namespace Go.Proofs.Ythdicobagmhpcaa
open Go.RowKit
set_option linter.unusedVariables false
set_option linter.unusedSimpArgs false
set_option maxRecDepth 100000

theorem below_al6 {W v : World} {o : Obj} (h : Below W.heap.size W v) : Below W.heap.size W (v.alloc o) := h.alloc h.size o
theorem below_nx6 {W v w' : World} (h : Below W.heap.size W v) (k : Below v.heap.size v w') : Below W.heap.size W w' := h.trans (k.mono h.size)

set_option maxHeartbeats 1000000 in
theorem of6_any (B : Option Addr) (m d : Nat) (w : World) : Calls Try.prog 22 #[.slice B m d] w fun e w' => ∃ g, e = .returned (tenV (some ⟨g, 0, none⟩) 1 1 B m d) ∧ Lies w' (some ⟨g, 0, none⟩) 1 ([(m : Int)].map (Value.int .i64)) ∧ Below w.heap.size w w' := by
  obtain ⟨W0, hW0⟩ : ∃ W0, W0 = (w.alloc (.cells #[.slice none 0 0, .slice none 0 0] 25)).alloc (.cells #[.int .i64 (m : Int)] 3) := ⟨_, rfl⟩
  have HB0 : Hid (Below w.heap.size w W0) := hide (by rw [hW0]; exact ((Below.refl w.heap.size w).alloc (Nat.le_refl _) _).alloc (by simp only [World.size_alloc]; omega) _)
  have HXR : Hid (BoxT W0 w.heap.size (.slice none 0 0) (.slice none 0 0)) := hide (by rw [hW0]; exact (BoxT.new w _ _).alloc _)
  have HLS : Hid (Lies W0 (some ⟨w.heap.size + 1, 0, none⟩) 1 ([(m : Int)].map (Value.int .i64))) := hide (by
    rw [hW0]
    have h := lies_lit (w.alloc (.cells #[.slice none 0 0, .slice none 0 0] 25)) .i64 [(m : Int)] 3
    rwa [World.size_alloc] at h)
  have hW0' := hW0.symm
  clear hW0
  have r0 := HXR.out.c0
  have r1 := HXR.out.c1
  have rf0 := HXR.out.f0 0
  have rf1 := HXR.out.f0 1
  go_enter Try.func22, Try.ntmps22
  go_wp2
  (try simp only [Exit.inBlock, Exit.then])
  refine ret_ten1 (p := 2) rfl rfl w.heap.size _ rfl (HXR.out.set2 _ _) rfl ?_
  refine ⟨w.heap.size + 1, rfl, ?_, (HB0.out.setCell (by dsimp only; omega) _).setCell (by dsimp only; omega) _⟩
  exact HLS.out.keep (by simp) (fun b o e hb j => by
    cases e
    exact World.cell?_of_block ((Below.heap_setCell _ _ _ _ (by simp)).trans (Below.heap_setCell _ _ _ _ (by simp))))

set_option maxHeartbeats 1000000 in
theorem is6_yes (A B X : Option Addr) (c m d k : Nat) (l : List Int) (w : World) (hA : Lies w A 1 ([(m : Int)].map (Value.int .i64))) (hB : Lies w B m (l.map (Value.int .i32))) (hX : Lies w X m (l.map (Value.int .i32))) (hm : m ≤ 281474976710656) :
    Calls Try.prog 23 #[tenV A 1 c B m d, .int .i64 0, .slice X m k] w fun e w' => e = .returned (.bool true) ∧ Below w.heap.size w w' := by
  obtain ⟨W0, hW0⟩ : ∃ W0, W0 = w.alloc (.cells #[.slice A 1 c, .slice B m d] 25) := ⟨_, rfl⟩
  have HB0 : Hid (Below w.heap.size w W0) := hide (by rw [hW0]; exact (Below.refl w.heap.size w).alloc (Nat.le_refl _) _)
  have HX0 : Hid (BoxT W0 w.heap.size (.slice A 1 c) (.slice B m d)) := hide (by rw [hW0]; exact BoxT.new w _ _)
  have hW0' := hW0.symm
  clear hW0
  have HA := hide (hA.below HB0.out)
  have HB := hide (hB.below HB0.out)
  have HX := hide (hX.below HB0.out)
  clear hA hB hX
  have a0 := HX0.out.c0
  have a1 := HX0.out.c1
  have hb0 : Below W0.heap.size W0 W0 := Below.refl _ W0
  have hb1 : Below W0.heap.size W0 (W0.drewN 1) := below_drewN (Below.refl _ W0) 1
  have HK : Hid (∀ v, Below W0.heap.size W0 v → v.cell? ⟨w.heap.size, 0, none⟩ = some (.slice A 1 c) ∧ v.cell? ⟨w.heap.size, 1, none⟩ = some (.slice B m d)) := hide (fun v hv => ⟨(HX0.out.kept hv).c0, (HX0.out.kept hv).c1⟩)
  go_enter Try.func23, Try.ntmps23
  go_wp2
  go_region_held3 (fun v => v.cell? ⟨w.heap.size, 0, none⟩ = some (.slice A 1 c) ∧ v.cell? ⟨w.heap.size, 1, none⟩ = some (.slice B m d))
    (first | (exact HK.out _ hb3) | (exact HK.out _ hb2) | (exact HK.out _ hb1) | (exact HK.out _ hb0) | go_keep)
    (first
      | (go_at_call 22; refine Calls.mono (of6_any X m k _) ?_; rintro e w2 ⟨g, rfl, hl2, hb20⟩; have hb2 : Below W0.heap.size W0 w2 := below_nx6 hb1 hb20)
      | (go_at_call 12; refine Calls.mono (tsame_any A B (some ⟨g, 0, none⟩) X 1 c m d 1 1 m k [(m : Int)] l [(m : Int)] l _ (HA.out.below hb2) (HB.out.below hb2) hl2 (HX.out.below hb2) (by omega) hm) ?_; rw [show decide ([(m : Int)] = [(m : Int)] ∧ l = l) = true by simp]; rintro e w3 ⟨rfl, hb30⟩; have hb3 : Below W0.heap.size W0 w3 := below_nx6 hb2 hb30))
  have HBB := hide (HB0.out.trans (hb3.mono HB0.out.size))
  go_wp2
  go_ret
  exact ⟨rfl, HBB.out⟩

set_option maxHeartbeats 4000000 in
theorem alive6_any (w : World) : Calls Try.prog 9 #[] w fun e w' => e = .returned (.bool true) ∧ Below w.heap.size w w' := by
  go_enter Try.func9, Try.ntmps9
  -- region 1
  go_wp2_with fail
  refine Calls.mono (of6_any (some ⟨w.heap.size, 0, none⟩) 2 2 _) ?_
  rintro e u0a ⟨g0a, rfl, hs0a, hb0⟩
  have HS0a := hide hs0a
  have HL0a := hide ((lies_lit w .i32 [1, 2] 21).below hb0)
  have hb0a : Below w.heap.size w u0a := below_nx6 (below_al6 (Below.refl _ _)) hb0
  clear hb0 hs0a
  go_wp2_with fail
  refine Calls.mono (of6_any (some ⟨u0a.heap.size, 0, none⟩) 2 2 _) ?_
  rintro e u0b ⟨g0b, rfl, hs0b, hb0⟩
  have HS0b := hide hs0b
  have HL0b := hide ((lies_lit u0a .i32 [3, 2147483647] 21).below hb0)
  have hb0b : Below u0a.heap.size u0a u0b := below_nx6 (below_al6 (Below.refl _ _)) hb0
  clear hb0 hs0b
  go_wp2_with fail
  refine Calls.mono (add_ok (some ⟨g0a, 0, none⟩) (some ⟨w.heap.size, 0, none⟩) (some ⟨g0b, 0, none⟩) (some ⟨u0a.heap.size, 0, none⟩) 1 1 2 2 1 2 [2] [1, 2] [3, 2147483647] _ (HS0a.out.below hb0b) (HL0a.out.below hb0b) HS0b.out HL0b.out (by decide)) ?_
  rw [show List.zipWith add32 [1, 2] [3, 2147483647] = [4, -2147483647] by decide +kernel]
  rintro e u0c ⟨g0x, c0x, g0y, rfl, ho1, ho2, _, hb0⟩
  obtain ⟨W1, hW1⟩ : ∃ W, W = u0c.alloc (.cells #[.slice (some ⟨g0x, 0, none⟩) 1 c0x, .slice (some ⟨g0y, 0, none⟩) 2 2] 25) := ⟨_, rfl⟩
  have HX0 : Hid (BoxT W1 u0c.heap.size (.slice (some ⟨g0x, 0, none⟩) 1 c0x) (.slice (some ⟨g0y, 0, none⟩) 2 2)) := hide (by rw [hW1]; exact BoxT.new u0c _ _)
  have HP0 : Hid (Lies W1 (some ⟨g0x, 0, none⟩) 1 ([(2 : Int)].map (Value.int .i64))) := hide (by rw [hW1]; exact (lies_of_own ho1).alloc _)
  have HQ0 : Hid (Lies W1 (some ⟨g0y, 0, none⟩) 2 (([4, -2147483647] : List Int).map (Value.int .i32))) := hide (by rw [hW1]; exact (lies_of_own ho2).alloc _)
  have HT0 : Hid (Below w.heap.size w W1) := hide (by rw [hW1]; exact below_al6 (below_nx6 hb0a (below_nx6 hb0b hb0)))
  have hW1' := hW1.symm
  clear hW1 hb0 ho1 ho2 hb0a hb0b
  -- region 2
  go_wp2_with fail
  refine Calls.mono (of6_any (some ⟨W1.heap.size, 0, none⟩) 1 1 _) ?_
  rintro e u1a ⟨g1a, rfl, hs1a, hb0⟩
  have HS1a := hide hs1a
  have HL1a := hide ((lies_lit W1 .i32 [3] 21).below hb0)
  have hb1a : Below W1.heap.size W1 u1a := below_nx6 (below_al6 (Below.refl _ _)) hb0
  clear hb0 hs1a
  go_wp2_with fail
  refine Calls.mono (of6_any (some ⟨u1a.heap.size, 0, none⟩) 1 1 _) ?_
  rintro e u1b ⟨g1b, rfl, hs1b, hb0⟩
  have HS1b := hide hs1b
  have HL1b := hide ((lies_lit u1a .i32 [-4] 21).below hb0)
  have hb1b : Below u1a.heap.size u1a u1b := below_nx6 (below_al6 (Below.refl _ _)) hb0
  clear hb0 hs1b
  go_wp2_with fail
  refine Calls.mono (mul_ok (some ⟨g1a, 0, none⟩) (some ⟨W1.heap.size, 0, none⟩) (some ⟨g1b, 0, none⟩) (some ⟨u1a.heap.size, 0, none⟩) 1 1 1 1 1 1 [1] [3] [-4] _ (HS1a.out.below hb1b) (HL1a.out.below hb1b) HS1b.out HL1b.out (by decide)) ?_
  rw [show List.zipWith mul32 [3] [-4] = [-12] by decide +kernel]
  rintro e u1c ⟨g1x, c1x, g1y, rfl, ho1, ho2, _, hb0⟩
  obtain ⟨W2, hW2⟩ : ∃ W, W = u1c.alloc (.cells #[.slice (some ⟨g1x, 0, none⟩) 1 c1x, .slice (some ⟨g1y, 0, none⟩) 1 1] 25) := ⟨_, rfl⟩
  have HX1 : Hid (BoxT W2 u1c.heap.size (.slice (some ⟨g1x, 0, none⟩) 1 c1x) (.slice (some ⟨g1y, 0, none⟩) 1 1)) := hide (by rw [hW2]; exact BoxT.new u1c _ _)
  have HP1 : Hid (Lies W2 (some ⟨g1x, 0, none⟩) 1 ([(1 : Int)].map (Value.int .i64))) := hide (by rw [hW2]; exact (lies_of_own ho1).alloc _)
  have HQ1 : Hid (Lies W2 (some ⟨g1y, 0, none⟩) 1 (([-12] : List Int).map (Value.int .i32))) := hide (by rw [hW2]; exact (lies_of_own ho2).alloc _)
  have HT1 : Hid (Below W1.heap.size W1 W2) := hide (by rw [hW2]; exact below_al6 (below_nx6 hb1a (below_nx6 hb1b hb0)))
  have hW2' := hW2.symm
  clear hW2 hb0 ho1 ho2 hb1a hb1b
  -- region 3
  go_wp2_with fail
  refine Calls.mono (of6_any (some ⟨W2.heap.size, 0, none⟩) 2 2 _) ?_
  rintro e u2a ⟨g2a, rfl, hs2a, hb0⟩
  have HS2a := hide hs2a
  have HL2a := hide ((lies_lit W2 .i32 [-1, 5] 21).below hb0)
  have hb2a : Below W2.heap.size W2 u2a := below_nx6 (below_al6 (Below.refl _ _)) hb0
  clear hb0 hs2a
  go_wp2_with fail
  refine Calls.mono (relu_ok (some ⟨g2a, 0, none⟩) (some ⟨W2.heap.size, 0, none⟩) 1 1 2 2 [2] [-1, 5] _ HS2a.out HL2a.out (by decide)) ?_
  rw [show List.map relu32 [-1, 5] = [0, 5] by decide +kernel]
  rintro e u2c ⟨g2x, c2x, g2y, rfl, ho1, ho2, _, hb0⟩
  obtain ⟨W3, hW3⟩ : ∃ W, W = u2c.alloc (.cells #[.slice (some ⟨g2x, 0, none⟩) 1 c2x, .slice (some ⟨g2y, 0, none⟩) 2 2] 25) := ⟨_, rfl⟩
  have HX2 : Hid (BoxT W3 u2c.heap.size (.slice (some ⟨g2x, 0, none⟩) 1 c2x) (.slice (some ⟨g2y, 0, none⟩) 2 2)) := hide (by rw [hW3]; exact BoxT.new u2c _ _)
  have HP2 : Hid (Lies W3 (some ⟨g2x, 0, none⟩) 1 ([(2 : Int)].map (Value.int .i64))) := hide (by rw [hW3]; exact (lies_of_own ho1).alloc _)
  have HQ2 : Hid (Lies W3 (some ⟨g2y, 0, none⟩) 2 (([0, 5] : List Int).map (Value.int .i32))) := hide (by rw [hW3]; exact (lies_of_own ho2).alloc _)
  have HT2 : Hid (Below W2.heap.size W2 W3) := hide (by rw [hW3]; exact below_al6 (below_nx6 hb2a hb0))
  have hW3' := hW3.symm
  clear hW3 hb0 ho1 ho2 hb2a
  -- region 4
  go_wp2_with fail
  refine Calls.mono (of6_any (some ⟨W3.heap.size, 0, none⟩) 4 4 _) ?_
  rintro e u3a ⟨g3a, rfl, hs3a, hb0⟩
  have HS3a := hide hs3a
  have HL3a := hide ((lies_lit W3 .i32 [5, -5, 6, -6] 21).below hb0)
  have hb3a : Below W3.heap.size W3 u3a := below_nx6 (below_al6 (Below.refl _ _)) hb0
  clear hb0 hs3a
  go_wp2_with fail
  refine Calls.mono (shift_ok (some ⟨g3a, 0, none⟩) (some ⟨W3.heap.size, 0, none⟩) 1 1 4 4 [4] [5, -5, 6, -6] _ HS3a.out HL3a.out 2 (by omega) (by decide) (by decide)) ?_
  rw [show List.map (shf 2) [5, -5, 6, -6] = [1, -1, 2, -1] by decide +kernel]
  rintro e u3c ⟨g3x, c3x, g3y, rfl, ho1, ho2, _, hb0⟩
  obtain ⟨W4, hW4⟩ : ∃ W, W = u3c.alloc (.cells #[.slice (some ⟨g3x, 0, none⟩) 1 c3x, .slice (some ⟨g3y, 0, none⟩) 4 4] 25) := ⟨_, rfl⟩
  have HX3 : Hid (BoxT W4 u3c.heap.size (.slice (some ⟨g3x, 0, none⟩) 1 c3x) (.slice (some ⟨g3y, 0, none⟩) 4 4)) := hide (by rw [hW4]; exact BoxT.new u3c _ _)
  have HP3 : Hid (Lies W4 (some ⟨g3x, 0, none⟩) 1 ([(4 : Int)].map (Value.int .i64))) := hide (by rw [hW4]; exact (lies_of_own ho1).alloc _)
  have HQ3 : Hid (Lies W4 (some ⟨g3y, 0, none⟩) 4 (([1, -1, 2, -1] : List Int).map (Value.int .i32))) := hide (by rw [hW4]; exact (lies_of_own ho2).alloc _)
  have HT3 : Hid (Below W3.heap.size W3 W4) := hide (by rw [hW4]; exact below_al6 (below_nx6 hb3a hb0))
  have hW4' := hW4.symm
  clear hW4 hb0 ho1 ho2 hb3a
  -- region 5
  go_wp2_with fail
  refine Calls.mono (of6_any (some ⟨W4.heap.size, 0, none⟩) 2 2 _) ?_
  rintro e u4a ⟨g4a, rfl, hs4a, hb0⟩
  have HS4a := hide hs4a
  have HL4a := hide ((lies_lit W4 .i32 [1000, -1000] 21).below hb0)
  have hb4a : Below W4.heap.size W4 u4a := below_nx6 (below_al6 (Below.refl _ _)) hb0
  clear hb0 hs4a
  go_wp2_with fail
  refine Calls.mono (shift_ok (some ⟨g4a, 0, none⟩) (some ⟨W4.heap.size, 0, none⟩) 1 1 2 2 [2] [1000, -1000] _ HS4a.out HL4a.out 0 (by omega) (by decide) (by decide)) ?_
  rw [show List.map (shf 0) [1000, -1000] = [127, -128] by decide +kernel]
  rintro e u4c ⟨g4x, c4x, g4y, rfl, ho1, ho2, _, hb0⟩
  obtain ⟨W5, hW5⟩ : ∃ W, W = u4c.alloc (.cells #[.slice (some ⟨g4x, 0, none⟩) 1 c4x, .slice (some ⟨g4y, 0, none⟩) 2 2] 25) := ⟨_, rfl⟩
  have HX4 : Hid (BoxT W5 u4c.heap.size (.slice (some ⟨g4x, 0, none⟩) 1 c4x) (.slice (some ⟨g4y, 0, none⟩) 2 2)) := hide (by rw [hW5]; exact BoxT.new u4c _ _)
  have HP4 : Hid (Lies W5 (some ⟨g4x, 0, none⟩) 1 ([(2 : Int)].map (Value.int .i64))) := hide (by rw [hW5]; exact (lies_of_own ho1).alloc _)
  have HQ4 : Hid (Lies W5 (some ⟨g4y, 0, none⟩) 2 (([127, -128] : List Int).map (Value.int .i32))) := hide (by rw [hW5]; exact (lies_of_own ho2).alloc _)
  have HT4 : Hid (Below W4.heap.size W4 W5) := hide (by rw [hW5]; exact below_al6 (below_nx6 hb4a hb0))
  have hW5' := hW5.symm
  clear hW5 hb0 ho1 ho2 hb4a
  -- region 6
  go_wp2_with fail
  refine Calls.mono (of6_any (some ⟨W5.heap.size, 0, none⟩) 1 1 _) ?_
  rintro e u5a ⟨g5a, rfl, hs5a, hb0⟩
  have HS5a := hide hs5a
  have HL5a := hide ((lies_lit W5 .i32 [1] 21).below hb0)
  have hb5a : Below W5.heap.size W5 u5a := below_nx6 (below_al6 (Below.refl _ _)) hb0
  clear hb0 hs5a
  go_wp2_with fail
  refine Calls.mono (shift_bad (some ⟨g5a, 0, none⟩) (some ⟨W5.heap.size, 0, none⟩) 1 1 1 1 [1] [1] _ HS5a.out HL5a.out (by omega) 32 (by decide)) ?_
  rintro e u5c ⟨rfl, hb0⟩
  have HT5 : Hid (Below W5.heap.size W5 u5c) := hide (below_nx6 hb5a hb0)
  clear hb0 hb5a
  -- region 7
  go_wp2_with fail
  refine Calls.mono (of6_any (some ⟨u5c.heap.size + 1, 0, none⟩) 1 1 _) ?_
  rintro e u6a ⟨g6a, rfl, hs6a, hb0⟩
  have HS6a := hide hs6a
  have HL6a := hide ((show Lies ((u5c.alloc (.cells #[.slice none 0 0, .slice none 0 0] 25)).alloc (.cells #[.int .i32 1] 21)) (some ⟨u5c.heap.size + 1, 0, none⟩) 1 (([1] : List Int).map (Value.int .i32)) by have h := lies_lit (u5c.alloc (.cells #[.slice none 0 0, .slice none 0 0] 25)) .i32 [1] 21; rw [World.size_alloc] at h; exact h).below hb0)
  have hb6a : Below u5c.heap.size u5c u6a := below_nx6 (below_al6 (below_al6 (Below.refl _ _))) hb0
  clear hb0 hs6a
  go_wp2_with fail
  refine Calls.mono (of6_any (some ⟨u6a.heap.size, 0, none⟩) 2 2 _) ?_
  rintro e u6b ⟨g6b, rfl, hs6b, hb0⟩
  have HS6b := hide hs6b
  have HL6b := hide ((lies_lit u6a .i32 [1, 2] 21).below hb0)
  have hb6b : Below u6a.heap.size u6a u6b := below_nx6 (below_al6 (Below.refl _ _)) hb0
  clear hb0 hs6b
  go_wp2_with fail
  refine Calls.mono (add_bad (some ⟨g6a, 0, none⟩) (some ⟨u5c.heap.size + 1, 0, none⟩) (some ⟨g6b, 0, none⟩) (some ⟨u6a.heap.size, 0, none⟩) 1 1 1 1 1 1 2 2 [1] [1] [2] [1, 2] _ (HS6a.out.below hb6b) (HL6a.out.below hb6b) HS6b.out HL6b.out (by omega) (by omega) (by decide)) ?_
  rw [show twoE [1] 1 [2] 2 = 10 by decide +kernel]
  rintro e u6c ⟨rfl, hb0⟩
  have HT6 : Hid (Below u5c.heap.size u5c u6c) := hide (below_nx6 hb6a (below_nx6 hb6b hb0))
  clear hb0 hb6a hb6b
  have hc7 : Below u6c.heap.size u6c u6c := Below.refl _ _
  have hc6 : Below u5c.heap.size u5c u6c := below_nx6 HT6.out hc7
  have hc5 : Below W5.heap.size W5 u6c := below_nx6 HT5.out hc6
  have hc4 : Below W4.heap.size W4 u6c := below_nx6 HT4.out hc5
  have hc3 : Below W3.heap.size W3 u6c := below_nx6 HT3.out hc4
  have hc2 : Below W2.heap.size W2 u6c := below_nx6 HT2.out hc3
  have hc1 : Below W1.heap.size W1 u6c := below_nx6 HT1.out hc2
  have hc0 : Below w.heap.size w u6c := below_nx6 HT0.out hc1
  have HX0F := hide (HX0.out.kept hc1)
  have HP0F := hide (HP0.out.below hc1)
  have HQ0F := hide (HQ0.out.below hc1)
  have HX1F := hide (HX1.out.kept hc2)
  have HP1F := hide (HP1.out.below hc2)
  have HQ1F := hide (HQ1.out.below hc2)
  have HX2F := hide (HX2.out.kept hc3)
  have HP2F := hide (HP2.out.below hc3)
  have HQ2F := hide (HQ2.out.below hc3)
  have HX3F := hide (HX3.out.kept hc4)
  have HP3F := hide (HP3.out.below hc4)
  have HQ3F := hide (HQ3.out.below hc4)
  have HX4F := hide (HX4.out.kept hc5)
  have HP4F := hide (HP4.out.below hc5)
  have HQ4F := hide (HQ4.out.below hc5)
  have HF := hide hc0
  clear hc0 hc1 hc2 hc3 hc4 hc5 hc6
  clear HX0 HP0 HQ0 HT0 HX1 HP1 HQ1 HT1 HX2 HP2 HQ2 HT2 HX3 HP3 HQ3 HT3 HX4 HP4 HQ4 HT4
  have hd : Below u6c.heap.size u6c (u6c.alloc (.cells #[.slice none 0 0, .slice none 0 0] 25)) := below_al6 (Below.refl _ _)
  have a0 := (HX0F.out.kept hd).c0
  have a1 := (HX0F.out.kept hd).c1
  go_wp2_with fail
  refine Calls.mono (is6_yes (some ⟨g0x, 0, none⟩) (some ⟨g0y, 0, none⟩) (some ⟨u6c.heap.size + 1, 0, none⟩) c0x 2 2 2 [4, -2147483647] _ (HP0F.out.below (below_al6 hd)) (HQ0F.out.below (below_al6 hd)) (by have h := lies_lit (u6c.alloc (.cells #[.slice none 0 0, .slice none 0 0] 25)) .i32 [4, -2147483647] 21; rw [World.size_alloc] at h; exact h) (by omega)) ?_
  rintro e v0 ⟨rfl, hb0⟩
  replace hd : Below u6c.heap.size u6c v0 := below_nx6 (below_al6 hd) hb0
  clear hb0 a0 a1
  have a0 := (HX1F.out.kept hd).c0
  have a1 := (HX1F.out.kept hd).c1
  go_wp2_with fail
  refine Calls.mono (is6_yes (some ⟨g1x, 0, none⟩) (some ⟨g1y, 0, none⟩) (some ⟨v0.heap.size, 0, none⟩) c1x 1 1 1 [-12] _ (HP1F.out.below (below_al6 hd)) (HQ1F.out.below (below_al6 hd)) (lies_lit v0 .i32 [-12] 21) (by omega)) ?_
  rintro e v1 ⟨rfl, hb0⟩
  replace hd : Below u6c.heap.size u6c v1 := below_nx6 (below_al6 hd) hb0
  clear hb0 a0 a1
  have a0 := (HX2F.out.kept hd).c0
  have a1 := (HX2F.out.kept hd).c1
  go_wp2_with fail
  refine Calls.mono (is6_yes (some ⟨g2x, 0, none⟩) (some ⟨g2y, 0, none⟩) (some ⟨v1.heap.size, 0, none⟩) c2x 2 2 2 [0, 5] _ (HP2F.out.below (below_al6 hd)) (HQ2F.out.below (below_al6 hd)) (lies_lit v1 .i32 [0, 5] 21) (by omega)) ?_
  rintro e v2 ⟨rfl, hb0⟩
  replace hd : Below u6c.heap.size u6c v2 := below_nx6 (below_al6 hd) hb0
  clear hb0 a0 a1
  have a0 := (HX3F.out.kept hd).c0
  have a1 := (HX3F.out.kept hd).c1
  go_wp2_with fail
  refine Calls.mono (is6_yes (some ⟨g3x, 0, none⟩) (some ⟨g3y, 0, none⟩) (some ⟨v2.heap.size, 0, none⟩) c3x 4 4 4 [1, -1, 2, -1] _ (HP3F.out.below (below_al6 hd)) (HQ3F.out.below (below_al6 hd)) (lies_lit v2 .i32 [1, -1, 2, -1] 21) (by omega)) ?_
  rintro e v3 ⟨rfl, hb0⟩
  replace hd : Below u6c.heap.size u6c v3 := below_nx6 (below_al6 hd) hb0
  clear hb0 a0 a1
  have a0 := (HX4F.out.kept hd).c0
  have a1 := (HX4F.out.kept hd).c1
  go_wp2_with fail
  refine Calls.mono (is6_yes (some ⟨g4x, 0, none⟩) (some ⟨g4y, 0, none⟩) (some ⟨v3.heap.size, 0, none⟩) c4x 2 2 2 [127, -128] _ (HP4F.out.below (below_al6 hd)) (HQ4F.out.below (below_al6 hd)) (lies_lit v3 .i32 [127, -128] 21) (by omega)) ?_
  rintro e v4 ⟨rfl, hb0⟩
  replace hd : Below u6c.heap.size u6c v4 := below_nx6 (below_al6 hd) hb0
  clear hb0 a0 a1
  have HBB := hide (below_nx6 HF.out hd)
  go_wp2
  go_ret
  exact ⟨rfl, HBB.out⟩
end Go.Proofs.Ythdicobagmhpcaa
