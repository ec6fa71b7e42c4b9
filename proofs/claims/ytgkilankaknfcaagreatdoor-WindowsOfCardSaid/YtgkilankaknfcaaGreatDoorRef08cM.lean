/- The document's answers of layer 8: Of. -/
import Derived.Test.YtgkilankaknfcaaGreatDoorWR
namespace Go.Proofs.YtgkilankaknfcaaGreatDoor
open Go.RowKit
set_option linter.unusedVariables false
set_option linter.unusedSimpArgs false
set_option maxRecDepth 100000

set_option maxHeartbeats 2000000 in
theorem rof8_bad (A B A' B' : Option Addr) (n c m d n' c' m' d' : Nat) (s l s' l' : List Int) (step pad : Int) (w : World) (hA : Lies w A n (s.map (Value.int .i64))) (hB : Lies w B m (l.map (Value.int .i32))) (hA' : Lies w A' n' (s'.map (Value.int .i64))) (hB' : Lies w B' m' (l'.map (Value.int .i32))) (hn : n ≤ 281474976710656) (hn' : n' ≤ 281474976710656) (hbad : ¬ of8E s m s' m' step pad = 0) :
    Calls Tryz.prog 8 #[tenV A n c B m d, tenV A' n' c' B' m' d', .int .i64 step, .int .i64 pad] w fun e w' => e = .returned (.tuple #[tenV none 0 0 none 0 0, .int .i64 (of8E s m s' m' step pad)]) ∧ Below w.heap.size w w' := by
  obtain ⟨W0, hW0⟩ : ∃ W0, W0 = (((w.alloc (.cells #[.slice A n c, .slice B m d] 25)).alloc (.cells #[.slice A' n' c', .slice B' m' d'] 25)).alloc (.cells #[.slice none 0 0, .slice none 0 0] 25)) := ⟨_, rfl⟩
  have HB0 : Hid (Below w.heap.size w W0) := hide (by rw [hW0]; exact (((Below.refl w.heap.size w).alloc (Nat.le_refl _) _).alloc (by simp only [World.size_alloc]; omega) _).alloc (by simp only [World.size_alloc]; omega) _)
  have hs0 : W0.heap.size = w.heap.size + 3 := by rw [hW0]; simp
  have HX0 : Hid (W0.heap[w.heap.size]? = some (.cells #[.slice A n c, .slice B m d] 25 (0, 0))) := hide (by rw [hW0]; have h := heap_alloc_new w (.cells #[.slice A n c, .slice B m d] 25); (try simp only [World.size_alloc] at h); exact (heap_alloc_old (heap_alloc_old h)))
  have HX1 : Hid (W0.heap[w.heap.size + 1]? = some (.cells #[.slice A' n' c', .slice B' m' d'] 25 (0, 0))) := hide (by rw [hW0]; have h := heap_alloc_new (w.alloc (.cells #[.slice A n c, .slice B m d] 25)) (.cells #[.slice A' n' c', .slice B' m' d'] 25); (try simp only [World.size_alloc] at h); exact (heap_alloc_old h))
  have HX2 : Hid (W0.heap[w.heap.size + 2]? = some (.cells #[.slice none 0 0, .slice none 0 0] 25 (0, 0))) := hide (by rw [hW0]; have h := heap_alloc_new ((w.alloc (.cells #[.slice A n c, .slice B m d] 25)).alloc (.cells #[.slice A' n' c', .slice B' m' d'] 25)) (.cells #[.slice none 0 0, .slice none 0 0] 25); (try simp only [World.size_alloc] at h); exact h)
  have hW0' := hW0.symm
  clear hW0
  have HS0 := hide hs0
  have HA := hide (hA.below HB0.out)
  have HB := hide (hB.below HB0.out)
  have HA' := hide (hA'.below HB0.out)
  have HB' := hide (hB'.below HB0.out)
  have HC : Hid (∀ v, Below W0.heap.size W0 v → v.cell? ⟨w.heap.size, 0, none⟩ = some (.slice A n c) ∧ v.cell? ⟨w.heap.size, 1, none⟩ = some (.slice B m d) ∧ v.cell? ⟨w.heap.size + 1, 0, none⟩ = some (.slice A' n' c') ∧ v.cell? ⟨w.heap.size + 1, 1, none⟩ = some (.slice B' m' d') ∧ v.cell? ⟨w.heap.size + 2, 0, none⟩ = some (.slice none 0 0) ∧ v.cell? ⟨w.heap.size + 2, 1, none⟩ = some (.slice none 0 0) ∧ v.frozen? ⟨w.heap.size + 2, 0, none⟩ = false ∧ v.frozen? ⟨w.heap.size + 2, 1, none⟩ = false) := hide (fun v hv => ⟨cell_of_row _ _ 0 _ _ (0, 0) ((hv.block _ (lt_of_heap HX0.out)).trans HX0.out), cell_of_row _ _ 1 _ _ (0, 0) ((hv.block _ (lt_of_heap HX0.out)).trans HX0.out), cell_of_row _ _ 0 _ _ (0, 0) ((hv.block _ (lt_of_heap HX1.out)).trans HX1.out), cell_of_row _ _ 1 _ _ (0, 0) ((hv.block _ (lt_of_heap HX1.out)).trans HX1.out), cell_of_row _ _ 0 _ _ (0, 0) ((hv.block _ (lt_of_heap HX2.out)).trans HX2.out), cell_of_row _ _ 1 _ _ (0, 0) ((hv.block _ (lt_of_heap HX2.out)).trans HX2.out), frozen_of_row v _ 0 _ _ ((hv.block _ (lt_of_heap HX2.out)).trans HX2.out), frozen_of_row v _ 1 _ _ ((hv.block _ (lt_of_heap HX2.out)).trans HX2.out)⟩)
  clear hA hB hA' hB' hs0
  obtain ⟨E, hEq⟩ : ∃ E, E = of8E s m s' m' step pad := ⟨_, rfl⟩
  have HEQ := hide hEq
  rw [← hEq] at hbad ⊢
  have HBADE := hide hbad
  clear hEq hbad
  go_enter Tryz.func8, Tryz.ntmps8
  obtain ⟨a0, a1, b0, b1, r0, r1, rf0, rf1⟩ := HC.out _ (Below.refl _ W0)
  go_wp2_with fail
  refine Calls.mono (rtcheck_any A B n c m d s _ HA.out hn) ?_
  rintro e w1 ⟨rfl, hb1⟩
  clear a0 a1 b0 b1 r0 r1 rf0 rf1
  obtain ⟨a0, a1, b0, b1, r0, r1, rf0, rf1⟩ := HC.out _ hb1
  by_cases h1 : tenOk s m = true
  rotate_left
  · have h1' : tenOk s m = false := by simpa using h1
    rw [h1']
    have HE : Hid (E = 1) := hide (by rw [HEQ.out, of8E, if_neg fun h => h1 (h.1)])
    clear h1 h1'
    have HXF := hide (BoxT.kept (show BoxT W0 (w.heap.size + 2) _ _ from HX2.out) hb1)
    have HBF := hide (HB0.out.trans (hb1.mono (by have := HS0.out; omega)))
    go_wp2
    (try simp only [Exit.inBlock, Exit.then])
    refine ret_ten (p := 8) (u := 9) rfl rfl (w.heap.size + 2) _ rfl (HXF.out.set2 _ _) rfl ?_
    exact ⟨by rw [HE.out]; rfl, (HBF.out.setCell (by dsimp only; omega) _).setCell (by dsimp only; omega) _⟩
  rw [h1]
  go_wp2_with fail
  refine Calls.mono (rtcheck_any A' B' n' c' m' d' s' _ (HA'.out.below hb1) hn') ?_
  rintro e w2 ⟨rfl, hb20⟩
  have hb2 : Below W0.heap.size W0 w2 := hb1.trans (hb20.mono hb1.size)
  clear a0 a1 b0 b1 r0 r1 rf0 rf1 hb20 hb1
  obtain ⟨a0, a1, b0, b1, r0, r1, rf0, rf1⟩ := HC.out _ hb2
  by_cases h2 : tenOk s' m' = true
  rotate_left
  · have h2' : tenOk s' m' = false := by simpa using h2
    rw [h2']
    have HE : Hid (E = 1) := hide (by rw [HEQ.out, of8E, if_neg fun h => h2 h.2])
    clear h1 h2 h2'
    have HXF := hide (BoxT.kept (show BoxT W0 (w.heap.size + 2) _ _ from HX2.out) hb2)
    have HBF := hide (HB0.out.trans (hb2.mono (by have := HS0.out; omega)))
    go_wp2
    (try simp only [Exit.inBlock, Exit.then])
    refine ret_ten (p := 8) (u := 9) rfl rfl (w.heap.size + 2) _ rfl (HXF.out.set2 _ _) rfl ?_
    exact ⟨by rw [HE.out]; rfl, (HBF.out.setCell (by dsimp only; omega) _).setCell (by dsimp only; omega) _⟩
  rw [h2]
  have HE : Hid (E = shp8E s s' step pad) := hide (by rw [HEQ.out, of8E, if_pos ⟨h1, h2⟩])
  clear h1 h2
  go_wp2_with fail
  refine Calls.mono (rshape8_any A A' n c n' c' s s' step pad _ (HA.out.below hb2) (HA'.out.below hb2) hn hn') ?_
  rw [← HE.out]
  rintro e w3 ⟨R, k, kc, rfl, ho, _, hb30⟩
  have hb3 : Below W0.heap.size W0 w3 := hb2.trans (hb30.mono hb2.size)
  clear a0 a1 b0 b1 r0 r1 rf0 rf1 hb30 hb2
  obtain ⟨a0, a1, b0, b1, r0, r1, rf0, rf1⟩ := HC.out _ hb3
  have hne : (E != 0) = true := by simpa using HBADE.out
  have hne2 : ¬ E = 0 := HBADE.out
  clear ho
  have HXF := hide (BoxT.kept (show BoxT W0 (w.heap.size + 2) _ _ from HX2.out) hb3)
  have HBF := hide (HB0.out.trans (hb3.mono (by have := HS0.out; omega)))
  go_wp2
  (try simp only [Exit.inBlock, Exit.then])
  refine ret_ten (p := 8) (u := 9) rfl rfl (w.heap.size + 2) _ rfl (HXF.out.set2 _ _) rfl ?_
  exact ⟨rfl, (HBF.out.setCell (by dsimp only; omega) _).setCell (by dsimp only; omega) _⟩

set_option maxHeartbeats 8000000 in
theorem rof8_ok (A B A' B' : Option Addr) (c m d c' m' d' C H V O a b Y X step pad : Nat) (l l' : List Int) (w : World) (hA : Lies w A 3 (([(C : Int), (H : Int), (V : Int)] : List Int).map (Value.int .i64))) (hB : Lies w B m (l.map (Value.int .i32))) (hA' : Lies w A' 4 (([(O : Int), (C : Int), (a : Int), (b : Int)] : List Int).map (Value.int .i64))) (hB' : Lies w B' m' (l'.map (Value.int .i32)))
    (hok : tenOk [(C : Int), (H : Int), (V : Int)] m = true) (hok' : tenOk [(O : Int), (C : Int), (a : Int), (b : Int)] m' = true) (hE : shp8E [(C : Int), (H : Int), (V : Int)] [(O : Int), (C : Int), (a : Int), (b : Int)] (step : Int) (pad : Int) = 0) (hL : shp8L [(C : Int), (H : Int), (V : Int)] [(O : Int), (C : Int), (a : Int), (b : Int)] (step : Int) (pad : Int) = [(O : Int), (Y : Int), (X : Int)]) :
    Calls Tryz.prog 8 #[tenV A 3 c B m d, tenV A' 4 c' B' m' d', .int .i64 (step : Int), .int .i64 (pad : Int)] w (RTen8 w ([(O : Int), (Y : Int), (X : Int)] : List Int) (winL l l' C H V O a b step pad Y X) (O * Y * X)) := by
  obtain ⟨hC, hH, hV, hm, hm4⟩ := ten_three hok
  obtain ⟨hO, _, ha, hb, hm', hm4'⟩ := ten_four hok'
  have hst := (shp8E_iff.1 hE).1.2.2
  have hsz0 := (shp8E_iff.1 hE).2.2
  rw [hL] at hsz0
  obtain ⟨_, hY, hX, hq1, hq2, hq3⟩ := three_size hsz0
  have hS : shp8S [(C : Int), (H : Int), (V : Int)] [(O : Int), (C : Int), (a : Int), (b : Int)] (step : Int) (pad : Int) = [(O : Int), (Y : Int), (X : Int)] := by rw [shp8S, if_pos hE, hL]
  obtain ⟨i0, hi0, hz0, hz1, hz2⟩ := info_parts info8_Number
  have HI := hide hi0
  have HZ0 := hide hz0
  have HZ1x := hide hz1
  have HZ2 := hide hz2
  clear hi0 hz0 hz1 hz2
  obtain ⟨q, hq⟩ : ∃ q, q = O * Y * X := ⟨_, rfl⟩
  rw [← hq] at hq1 hq2 hq3 ⊢
  obtain ⟨zs, hzs⟩ : ∃ zs, zs = winL l l' C H V O a b step pad Y X := ⟨_, rfl⟩
  rw [← hzs]
  have HZS := hide hzs
  have HZL : Hid (zs.length = q) := hide (by rw [hzs, winL_len, hq])
  have HQ := hide hq
  have HE := hide hE
  have HS := hide hS
  have HM1 := hide hm
  have HM2 := hide hm'
  have HST := hide hst
  clear hzs hq hE hS hL hq1 hm hsz0 hm'
  obtain ⟨W0, hW0⟩ : ∃ W0, W0 = (((w.alloc (.cells #[.slice A 3 c, .slice B m d] 25)).alloc (.cells #[.slice A' 4 c', .slice B' m' d'] 25)).alloc (.cells #[.slice none 0 0, .slice none 0 0] 25)) := ⟨_, rfl⟩
  have HB0 : Hid (Below w.heap.size w W0) := hide (by rw [hW0]; exact (((Below.refl w.heap.size w).alloc (Nat.le_refl _) _).alloc (by simp only [World.size_alloc]; omega) _).alloc (by simp only [World.size_alloc]; omega) _)
  have hs0 : W0.heap.size = w.heap.size + 3 := by rw [hW0]; simp
  have HX0 : Hid (W0.heap[w.heap.size]? = some (.cells #[.slice A 3 c, .slice B m d] 25 (0, 0))) := hide (by rw [hW0]; have h := heap_alloc_new w (.cells #[.slice A 3 c, .slice B m d] 25); (try simp only [World.size_alloc] at h); exact (heap_alloc_old (heap_alloc_old h)))
  have HX1 : Hid (W0.heap[w.heap.size + 1]? = some (.cells #[.slice A' 4 c', .slice B' m' d'] 25 (0, 0))) := hide (by rw [hW0]; have h := heap_alloc_new (w.alloc (.cells #[.slice A 3 c, .slice B m d] 25)) (.cells #[.slice A' 4 c', .slice B' m' d'] 25); (try simp only [World.size_alloc] at h); exact (heap_alloc_old h))
  have HX2 : Hid (W0.heap[w.heap.size + 2]? = some (.cells #[.slice none 0 0, .slice none 0 0] 25 (0, 0))) := hide (by rw [hW0]; have h := heap_alloc_new ((w.alloc (.cells #[.slice A 3 c, .slice B m d] 25)).alloc (.cells #[.slice A' 4 c', .slice B' m' d'] 25)) (.cells #[.slice none 0 0, .slice none 0 0] 25); (try simp only [World.size_alloc] at h); exact h)
  have hW0' := hW0.symm
  clear hW0
  have HS0 := hide hs0
  have HA := hide (hA.below HB0.out)
  have HB := hide (hB.below HB0.out)
  have HA' := hide (hA'.below HB0.out)
  have HB' := hide (hB'.below HB0.out)
  have HC : Hid (∀ v, Below W0.heap.size W0 v → v.cell? ⟨w.heap.size, 0, none⟩ = some (.slice A 3 c) ∧ v.cell? ⟨w.heap.size, 1, none⟩ = some (.slice B m d) ∧ v.cell? ⟨w.heap.size + 1, 0, none⟩ = some (.slice A' 4 c') ∧ v.cell? ⟨w.heap.size + 1, 1, none⟩ = some (.slice B' m' d') ∧ v.cell? ⟨w.heap.size + 2, 0, none⟩ = some (.slice none 0 0) ∧ v.cell? ⟨w.heap.size + 2, 1, none⟩ = some (.slice none 0 0) ∧ v.frozen? ⟨w.heap.size + 2, 0, none⟩ = false ∧ v.frozen? ⟨w.heap.size + 2, 1, none⟩ = false) := hide (fun v hv => ⟨cell_of_row _ _ 0 _ _ (0, 0) ((hv.block _ (lt_of_heap HX0.out)).trans HX0.out), cell_of_row _ _ 1 _ _ (0, 0) ((hv.block _ (lt_of_heap HX0.out)).trans HX0.out), cell_of_row _ _ 0 _ _ (0, 0) ((hv.block _ (lt_of_heap HX1.out)).trans HX1.out), cell_of_row _ _ 1 _ _ (0, 0) ((hv.block _ (lt_of_heap HX1.out)).trans HX1.out), cell_of_row _ _ 0 _ _ (0, 0) ((hv.block _ (lt_of_heap HX2.out)).trans HX2.out), cell_of_row _ _ 1 _ _ (0, 0) ((hv.block _ (lt_of_heap HX2.out)).trans HX2.out), frozen_of_row v _ 0 _ _ ((hv.block _ (lt_of_heap HX2.out)).trans HX2.out), frozen_of_row v _ 1 _ _ ((hv.block _ (lt_of_heap HX2.out)).trans HX2.out)⟩)
  have HLW := hide (And.intro hA' (And.intro hB' (And.intro hA hB)))
  clear hA hB hA' hB' hs0
  have HOK1 := hide hok
  have HOK2 := hide hok'
  clear hok hok'
  go_enter Tryz.func8, Tryz.ntmps8
  obtain ⟨a0, a1, b0, b1, r0, r1, rf0, rf1⟩ := HC.out _ (Below.refl _ W0)
  go_wp2_with fail
  refine Calls.mono (rtcheck_any A B 3 c m d [(C : Int), (H : Int), (V : Int)] _ HA.out (by omega)) ?_
  rw [HOK1.out]
  rintro e w1 ⟨rfl, hb1⟩
  clear a0 a1 b0 b1 r0 r1 rf0 rf1
  obtain ⟨a0, a1, b0, b1, r0, r1, rf0, rf1⟩ := HC.out _ hb1
  go_wp2_with fail
  refine Calls.mono (rtcheck_any A' B' 4 c' m' d' [(O : Int), (C : Int), (a : Int), (b : Int)] _ (HA'.out.below hb1) (by omega)) ?_
  rw [HOK2.out]
  rintro e w2 ⟨rfl, hb20⟩
  have hb2 : Below W0.heap.size W0 w2 := hb1.trans (hb20.mono hb1.size)
  clear a0 a1 b0 b1 r0 r1 rf0 rf1 hb20 hb1
  obtain ⟨a0, a1, b0, b1, r0, r1, rf0, rf1⟩ := HC.out _ hb2
  go_wp2_with fail
  refine Calls.mono (rshape8_any A A' 3 c 4 c' [(C : Int), (H : Int), (V : Int)] [(O : Int), (C : Int), (a : Int), (b : Int)] (step : Int) (pad : Int) _ (HA.out.below hb2) (HA'.out.below hb2) (by omega) (by omega)) ?_
  rw [HE.out, HS.out]
  rintro e w3 ⟨R, k, kc, rfl, ho, hk2, hb30⟩
  have hb3 : Below W0.heap.size W0 w3 := hb2.trans (hb30.mono hb2.size)
  obtain rfl : k = 3 := by have := ho.1; simpa using this.symm
  obtain ⟨gs, rfl⟩ := own_some ho (by omega)
  have HLS := hide (lies_of_own ho)
  have hgs := (ho.lt gs rfl).2
  have hgs0 : W0.heap.size ≤ gs := Nat.le_trans hb2.size (ho.lt gs rfl).1
  have HB3 := hide hb3
  clear a0 a1 b0 b1 r0 r1 rf0 rf1 hb30 hb2 ho hk2 hb3
  obtain ⟨W1, hW1⟩ : ∃ W1, W1 = w3.alloc (.cells #[.slice (some ⟨gs, 0, none⟩) 3 kc, .slice none 0 0] 25) := ⟨_, rfl⟩
  have HO1 : Hid (OutAt w3 gs kc zs 0 W1) := hide (by rw [hW1]; exact ⟨none, 0, BoxT.new w3 _ _, World.ownsRow_nil _ _ _ _, (Below.refl _ _).alloc (Nat.le_refl _) _⟩)
  have hW1' := hW1.symm
  clear hW1
  have HF : Hid (∀ v, Below w3.heap.size w3 v → v.cell? ⟨w.heap.size, 0, none⟩ = some (.slice A 3 c) ∧ v.cell? ⟨w.heap.size, 1, none⟩ = some (.slice B m d) ∧ v.cell? ⟨w.heap.size + 1, 0, none⟩ = some (.slice A' 4 c') ∧ v.cell? ⟨w.heap.size + 1, 1, none⟩ = some (.slice B' m' d') ∧ v.cell? ⟨gs, 0, none⟩ = some (.int .i64 (O : Int)) ∧ v.cell? ⟨gs, 1, none⟩ = some (.int .i64 (Y : Int)) ∧ v.cell? ⟨gs, 2, none⟩ = some (.int .i64 (X : Int))) := hide (fun v hv => by
    obtain ⟨a0, a1, b0, b1, r0, r1, rf0, rf1⟩ := HC.out v (HB3.out.trans (hv.mono HB3.out.size))
    obtain ⟨b0', o0', e0', _, hx0⟩ := byte_at (HLS.out.below hv) (by omega)
    cases e0'
    exact ⟨a0, a1, b0, b1, hx0 0 (by omega), hx0 1 (by omega), hx0 2 (by omega)⟩)
  have HLB : Hid (∀ v, Below w3.heap.size w3 v → Lies v A' 4 (([(O : Int), (C : Int), (a : Int), (b : Int)] : List Int).map (Value.int .i64)) ∧ Lies v B' m' (l'.map (Value.int .i32)) ∧ Lies v A 3 (([(C : Int), (H : Int), (V : Int)] : List Int).map (Value.int .i64)) ∧ Lies v B m (l.map (Value.int .i32))) := hide (fun v hv => by
    have hbw : Below w.heap.size w v := (HB0.out.trans (HB3.out.mono HB0.out.size)).trans (hv.mono (by have := HB0.out.size; have := HB3.out.size; omega))
    exact ⟨HLW.out.1.below hbw, HLW.out.2.1.below hbw, HLW.out.2.2.1.below hbw, HLW.out.2.2.2.below hbw⟩)
  have hmp : 1 ≤ m' := by rw [HM2.out]; exact Nat.mul_pos (by omega) (Nat.mul_pos (by omega) (Nat.mul_pos (by omega) (by omega)))
  obtain ⟨qA, qB, _, _⟩ := HLB.out w3 (Below.refl _ _)
  obtain ⟨bA, oA, rfl, _, _⟩ := byte_at qA (by omega)
  obtain ⟨bB, oB, rfl, _, _⟩ := byte_at qB (by omega)
  clear qA qB
  obtain ⟨a0, a1, b0, b1, s0, s1, s2⟩ := HF.out W1 (out_below HO1.out)
  go_wp2_with fail
  clear hW1' hW0' a0 a1 b0 b1 s0 s1 s2
  go_loopw [13] (fun iv wr => ∃ k z : Nat, k ≤ O ∧ iv = .int .i64 (k : Int) ∧ Hid (z = k * Y * X) ∧ Hid (OutAt w3 gs kc zs z wr)) (fun iv _ => O - (intOf iv).toNat)
  case atStart => exact ⟨0, 0, Nat.zero_le _, rfl, hide (by rw [Nat.zero_mul, Nat.zero_mul]), HO1⟩
  case round =>
    clear HO1
    obtain ⟨i, z, hi, rfl, HZ, HO⟩ := hrel
    obtain ⟨a0, a1, b0, b1, s0, s1, s2⟩ := HF.out _ (out_below HO.out)
    by_cases hlti : i < O
    · have h3 : (i : Int) < (O : Int) := by omega
      go_wp2_with fail
      clear a0 a1 b0 b1 s0 s1 s2
      go_loopw [14] (fun yv wr => ∃ k z : Nat, k ≤ Y ∧ yv = .int .i64 (k : Int) ∧ Hid (z = (i * Y + k) * X) ∧ Hid (OutAt w3 gs kc zs z wr)) (fun yv _ => Y - (intOf yv).toNat)
      case atStart => exact ⟨0, z, Nat.zero_le _, rfl, HZ, HO⟩
      case round =>
        clear HZ HO
        obtain ⟨y, z, hy, rfl, HZ, HO⟩ := hrel
        obtain ⟨a0, a1, b0, b1, s0, s1, s2⟩ := HF.out _ (out_below HO.out)
        by_cases hlty : y < Y
        · have h4 : (y : Int) < (Y : Int) := by omega
          go_wp2_with fail
          clear a0 a1 b0 b1 s0 s1 s2
          go_loopw [15] (fun xv wr => ∃ k z : Nat, k ≤ X ∧ xv = .int .i64 (k : Int) ∧ Hid (z = (i * Y + y) * X + k) ∧ Hid (OutAt w3 gs kc zs z wr)) (fun xv _ => X - (intOf xv).toNat)
          case atStart => exact ⟨0, z, Nat.zero_le _, rfl, HZ, HO⟩
          case round =>
            clear HZ HO
            obtain ⟨x, z, hx, rfl, HZ, HO⟩ := hrel
            obtain ⟨a0, a1, b0, b1, s0, s1, s2⟩ := HF.out _ (out_below HO.out)
            by_cases hltx : x < X
            · have h5 : (x : Int) < (X : Int) := by omega
              have hst8 := HST.out
              have hys : y * step ≤ 512 := by have := Nat.mul_le_mul (show y ≤ 64 by omega) (show step ≤ 8 by omega); omega
              have hxs : x * step ≤ 512 := by have := Nat.mul_le_mul (show x ≤ 64 by omega) (show step ≤ 8 by omega); omega
              obtain ⟨ys, hyv⟩ : ∃ z, z = y * step := ⟨_, rfl⟩
              obtain ⟨xs, hxv⟩ : ∃ z, z = x * step := ⟨_, rfl⟩
              have m1 : IntKind.i64.wrap ((y : Int) * (step : Int)) = (ys : Int) := by rw [hyv, Int.natCast_mul, IntKind.wrap_i64, ← Int.natCast_mul]; omega
              have m2 : IntKind.i64.wrap ((x : Int) * (step : Int)) = (xs : Int) := by rw [hxv, Int.natCast_mul, IntKind.wrap_i64, ← Int.natCast_mul]; omega
              rw [← hyv] at hys
              rw [← hxv] at hxs
              obtain ⟨yp, hyp⟩ : ∃ z, z = (ys : Int) - (pad : Int) := ⟨_, rfl⟩
              obtain ⟨xp, hxp⟩ : ∃ z, z = (xs : Int) - (pad : Int) := ⟨_, rfl⟩
              have m3 : IntKind.i64.wrap ((ys : Int) - (pad : Int)) = yp := by rw [hyp, IntKind.wrap_i64]; omega
              have m4 : IntKind.i64.wrap ((xs : Int) - (pad : Int)) = xp := by rw [hxp, IntKind.wrap_i64]; omega
              have hyp1 : -8 ≤ yp ∧ yp ≤ 512 := by omega
              have hxp1 : -8 ≤ xp ∧ xp ≤ 512 := by omega
              have HYP : Hid (yp = ((y * step : Nat) : Int) - (pad : Int) ∧ xp = ((x * step : Nat) : Int) - (pad : Int)) := hide ⟨by rw [hyp, hyv], by rw [hxp, hxv]⟩
              clear hyv hxv hyp hxp
              have hab : a * b ≤ 4096 := by have := Nat.mul_le_mul ha.2 hb.2; omega
              have hab1 : 1 ≤ a * b := Nat.mul_pos (by omega) (by omega)
              have hca : C * a ≤ 4096 := by have := Nat.mul_le_mul hC.2 ha.2; omega
              have hnn : C * a * b ≤ 262144 := by have := Nat.mul_le_mul hca hb.2; omega
              have hiC : i * C ≤ 4096 := by have := Nat.mul_le_mul (show i ≤ 64 by omega) hC.2; omega
              have hiCa : i * C * a ≤ 262144 := by have := Nat.mul_le_mul hiC ha.2; omega
              have hpl : i * (C * (a * b)) + C * (a * b) ≤ m' := by rw [HM2.out, ← Nat.succ_mul]; exact Nat.mul_le_mul_right _ hlti
              obtain ⟨ab, habv⟩ : ∃ z, z = a * b := ⟨_, rfl⟩
              obtain ⟨ca, hcav⟩ : ∃ z, z = C * a := ⟨_, rfl⟩
              obtain ⟨nn, hnnv⟩ : ∃ z, z = C * a * b := ⟨_, rfl⟩
              obtain ⟨v1, hv1⟩ : ∃ z, z = i * C := ⟨_, rfl⟩
              obtain ⟨v2, hv2⟩ : ∃ z, z = i * C * a := ⟨_, rfl⟩
              obtain ⟨o0, ho0⟩ : ∃ z, z = i * (C * (a * b)) := ⟨_, rfl⟩
              have ho0' : o0 = v2 * b := by rw [ho0, hv2, Nat.mul_assoc, Nat.mul_assoc]
              have hnn' : C * (a * b) = nn := by rw [hnnv, Nat.mul_assoc]
              have n1' : IntKind.i64.wrap ((a : Int) * (b : Int)) = (ab : Int) := by rw [habv, Int.natCast_mul, IntKind.wrap_i64, ← Int.natCast_mul]; omega
              have n2' : IntKind.i64.wrap ((C : Int) * (a : Int)) = (ca : Int) := by rw [hcav, Int.natCast_mul, IntKind.wrap_i64, ← Int.natCast_mul]; omega
              have n3' : IntKind.i64.wrap ((ca : Int) * (b : Int)) = (nn : Int) := by rw [hnnv, hcav, Int.natCast_mul, IntKind.wrap_i64, ← Int.natCast_mul, ← Int.natCast_mul]; omega
              have n4' : IntKind.i64.wrap ((i : Int) * (C : Int)) = (v1 : Int) := by rw [hv1, Int.natCast_mul, IntKind.wrap_i64, ← Int.natCast_mul]; omega
              have n5' : IntKind.i64.wrap ((v1 : Int) * (a : Int)) = (v2 : Int) := by rw [hv2, hv1, Int.natCast_mul, IntKind.wrap_i64, ← Int.natCast_mul, ← Int.natCast_mul]; omega
              rw [← ho0, hnn'] at hpl
              have n6' : IntKind.i64.wrap ((v2 : Int) * (b : Int)) = (o0 : Int) := by rw [ho0', Int.natCast_mul, IntKind.wrap_i64, ← Int.natCast_mul]; omega
              have HOV : Hid (o0 = i * (C * (a * b)) ∧ nn = C * (a * b) ∧ ab = a * b) := hide ⟨ho0, hnn'.symm, habv⟩
              rw [← habv] at hab hab1
              rw [← hnnv] at hnn
              clear habv hcav hnnv hv1 hv2 ho0 ho0' hnn' hca hiC hiCa
              have HRA : Hid (∀ v (k : Nat) (r s : Int), k < C → Below w3.heap.size w3 v → -200000 ≤ r ∧ r ≤ 200000 → -200000 ≤ s ∧ s ≤ 200000 → Calls Tryz.prog 31 #[tenV A 3 c B m d, .int .i64 (k : Int), .int .i64 r, .int .i64 s] v fun e w' => e = .returned (.int .i32 (numAt l H V k r s)) ∧ Below v.heap.size v w') := hide (fun v k r s hk hv h1 h2 => by
                obtain ⟨_, _, p1, p2⟩ := HLB.out v hv
                exact rat8_any A B c m d k C H V l r s v p1 p2 hC.2 hH.2 hV.2 (by rw [HM1.out]; exact Nat.le_refl _) hk h1 h2)
              obtain ⟨wm, rfl⟩ : ∃ wm : World, wm = wr := ⟨_, rfl⟩
              have HOM := HO
              clear HO
              have HN0 : Hid ((0 : Int) = covN l l' H V a b o0 yp xp 0) := hide rfl
              have HG24W : Hid (∀ v, Below wm.heap.size wm v → (v.cell? ⟨w.heap.size + 1, 0, none⟩ = some (.slice (some ⟨bA, oA, none⟩) 4 c') ∧ v.cell? ⟨bA, oA + 1, none⟩ = some (.int .i64 (C : Int)) ∧ v.cell? ⟨bA, oA + 2, none⟩ = some (.int .i64 (a : Int)) ∧ v.cell? ⟨bA, oA + 3, none⟩ = some (.int .i64 (b : Int))) ∧ (v.cell? ⟨w.heap.size, 0, none⟩ = some (.slice A 3 c) ∧ v.cell? ⟨w.heap.size, 1, none⟩ = some (.slice B m d) ∧ v.cell? ⟨w.heap.size + 1, 1, none⟩ = some (.slice (some ⟨bB, oB, none⟩) m' d')) ∧ ∀ q, q < m' → v.cell? ⟨bB, oB + q, none⟩ = some (.int .i32 (l'.getD q 0))) := hide (fun v hv => by
                have hv3 := (out_below HOM.out).trans (hv.mono (out_below HOM.out).size)
                obtain ⟨a0, a1, b0, b1, s0, s1, s2⟩ := HF.out v hv3
                obtain ⟨p1, p2, _, _⟩ := HLB.out v hv3
                obtain ⟨x1, x2, e1, _, hx1⟩ := byte_at p1 (by omega)
                cases e1
                obtain ⟨x1, x2, e1, _, hx2⟩ := byte_at p2 (by omega)
                cases e1
                exact ⟨⟨b0, hx1 1 (by omega), hx1 2 (by omega), hx1 3 (by omega)⟩, ⟨a0, a1, b1⟩, hx2⟩)
              have HG : Hid (∀ v, Below wm.heap.size wm v → v.cell? ⟨w.heap.size + 1, 0, none⟩ = some (.slice (some ⟨bA, oA, none⟩) 4 c') ∧ v.cell? ⟨bA, oA + 1, none⟩ = some (.int .i64 (C : Int)) ∧ v.cell? ⟨bA, oA + 2, none⟩ = some (.int .i64 (a : Int)) ∧ v.cell? ⟨bA, oA + 3, none⟩ = some (.int .i64 (b : Int))) := hide (fun v hv => (HG24W.out v hv).1)
              go_wp2_with fail
              clear a0 a1 b0 b1 s0 s1 s2
              go_loopw [16, 17] (fun nv jv wr => ∃ (k : Nat) (n0 : Int), k ≤ nn ∧ jv = .int .i64 (k : Int) ∧ nv = .int .i32 n0 ∧ Hid (n0 = covN l l' H V a b o0 yp xp k) ∧ Hid (Below wm.heap.size wm wr)) (fun _ jv _ => nn - (intOf jv).toNat)
              case atStart => exact ⟨0, 0, Nat.zero_le _, rfl, rfl, HN0, hide (Below.refl _ _)⟩
              case round =>
                clear HN0
                obtain ⟨j, n0, hj, rfl, rfl, HN, HBW⟩ := hrel
                have hg0 : Below wm.heap.size wm wr.drew := below_drewN HBW.out 1
                by_cases hltj : j < nn
                · have h6 : decide ((j : Int) < (nn : Int)) = true := decide_eq_true (by omega)
                  have hjc : j / ab < C := Nat.div_lt_of_lt_mul (by rw [HOV.out.2.1, HOV.out.2.2.symm] at hltj; rw [Nat.mul_comm]; exact hltj)
                  have hja : j / b % a < a := Nat.mod_lt _ (by omega)
                  have hjx : j % b < b := Nat.mod_lt _ (by omega)
                  have hjb0 : j / b ≤ j := Nat.div_le_self _ _
                  obtain ⟨jc, hjcv⟩ : ∃ z, z = j / ab := ⟨_, rfl⟩
                  obtain ⟨jb, hjbv⟩ : ∃ z, z = j / b := ⟨_, rfl⟩
                  obtain ⟨ja, hjav⟩ : ∃ z, z = j / b % a := ⟨_, rfl⟩
                  obtain ⟨jx, hjxv⟩ : ∃ z, z = j % b := ⟨_, rfl⟩
                  rw [← hjcv] at hjc
                  rw [← hjav] at hja
                  rw [← hjxv] at hjx
                  rw [← hjbv] at hjb0
                  obtain ⟨yj, hyj⟩ : ∃ z, z = yp + (ja : Int) := ⟨_, rfl⟩
                  obtain ⟨xj, hxj⟩ : ∃ z, z = xp + (jx : Int) := ⟨_, rfl⟩
                  obtain ⟨q2, hq2⟩ : ∃ z, z = o0 + j := ⟨_, rfl⟩
                  have g1 : ((j : Int)).tdiv (ab : Int) = (jc : Int) := by rw [hjcv, Int.tdiv_eq_ediv_of_nonneg (by omega), Int.natCast_ediv]
                  have g2 : ((j : Int)).tdiv (b : Int) = (jb : Int) := by rw [hjbv, Int.tdiv_eq_ediv_of_nonneg (by omega), Int.natCast_ediv]
                  have g3 : ((jb : Int)).tmod (a : Int) = (ja : Int) := by rw [hjav, hjbv, Int.tmod_eq_emod_of_nonneg (by omega), Int.natCast_emod]
                  have g4 : ((j : Int)).tmod (b : Int) = (jx : Int) := by rw [hjxv, Int.tmod_eq_emod_of_nonneg (by omega), Int.natCast_emod]
                  have f1 : IntKind.i64.wrap (jc : Int) = (jc : Int) := by rw [IntKind.wrap_i64]; omega
                  have f2 : IntKind.i64.wrap (jb : Int) = (jb : Int) := by rw [IntKind.wrap_i64]; omega
                  have f3 : IntKind.i64.wrap (ja : Int) = (ja : Int) := by rw [IntKind.wrap_i64]; omega
                  have f4 : IntKind.i64.wrap (jx : Int) = (jx : Int) := by rw [IntKind.wrap_i64]; omega
                  have f5 : IntKind.i64.wrap (yp + (ja : Int)) = yj := by rw [hyj, IntKind.wrap_i64]; omega
                  have f6 : IntKind.i64.wrap (xp + (jx : Int)) = xj := by rw [hxj, IntKind.wrap_i64]; omega
                  have f7 : IntKind.i64.wrap ((o0 : Int) + (j : Int)) = (q2 : Int) := by rw [hq2, IntKind.wrap_i64]; omega
                  have z1' : ¬ ab = 0 := by omega
                  have z2' : ¬ b = 0 := by omega
                  have z3' : ¬ a = 0 := by omega
                  have z1'' : ¬ (ab : Int) = 0 := by omega
                  have z2'' : ¬ (b : Int) = 0 := by omega
                  have z3'' : ¬ (a : Int) = 0 := by omega
                  obtain ⟨z1, hz1⟩ : ∃ z, z = numAt l H V jc yj xj := ⟨_, rfl⟩
                  obtain ⟨z2, hz2⟩ : ∃ z, z = l'.getD q2 0 := ⟨_, rfl⟩
                  obtain ⟨z3, hz3⟩ : ∃ z, z = mul32 z1 z2 := ⟨_, rfl⟩
                  obtain ⟨n1, hn1⟩ : ∃ z, z = add32 n0 z3 := ⟨_, rfl⟩
                  have f8 : IntKind.i32.wrap (z1 * z2) = z3 := by rw [hz3, mul32, wrap32, IntKind.wrap_i32]
                  have f9 : IntKind.i32.wrap (n0 + z3) = n1 := by rw [hn1, add32, wrap32, IntKind.wrap_i32]
                  have HN1 : Hid (n1 = covN l l' H V a b o0 yp xp (j + 1)) := hide (by rw [covN, hn1, hz3, hz1, hz2, ← HN.out, hq2, hyj, hxj, hjcv, hjav, hjxv, HOV.out.2.2])
                  have hq2a : (0 : Int) ≤ (q2 : Int) := by omega
                  have hq2b : (q2 : Int) < (m' : Int) := by omega
                  have HG24 : Hid (∀ v, Below wm.heap.size wm v → v.cell? ⟨w.heap.size + 1, 0, none⟩ = some (.slice (some ⟨bA, oA, none⟩) 4 c') ∧ v.cell? ⟨bA, oA + 1, none⟩ = some (.int .i64 (C : Int)) ∧ v.cell? ⟨bA, oA + 2, none⟩ = some (.int .i64 (a : Int)) ∧ v.cell? ⟨bA, oA + 3, none⟩ = some (.int .i64 (b : Int)) ∧ v.cell? ⟨w.heap.size, 0, none⟩ = some (.slice A 3 c) ∧ v.cell? ⟨w.heap.size, 1, none⟩ = some (.slice B m d) ∧ v.cell? ⟨w.heap.size + 1, 1, none⟩ = some (.slice (some ⟨bB, oB, none⟩) m' d') ∧ v.cell? ⟨bB, oB + q2, none⟩ = some (.int .i32 z2)) := hide (fun v hv => by
                    obtain ⟨⟨y1, y2, y3, y4⟩, ⟨y5, y6, y7⟩, y8⟩ := HG24W.out v hv
                    exact ⟨y1, y2, y3, y4, y5, y6, y7, by rw [hz2]; exact y8 q2 (by omega)⟩)
                  have HAT : Hid (∀ v, Below wm.heap.size wm v → Calls Tryz.prog 31 #[tenV A 3 c B m d, .int .i64 (jc : Int), .int .i64 yj, .int .i64 xj] v fun e w' => e = .returned (.int .i32 z1) ∧ Below v.heap.size v w') := hide (fun v hv => by
                    rw [hz1]
                    exact HRA.out v jc _ _ hjc ((out_below HOM.out).trans (hv.mono (out_below HOM.out).size)) (by omega) (by omega))
                  have hg1 : Below wm.heap.size wm ((wr.drewN 1).drew) := below_drewN HBW.out 2
                  have hg2 : Below wm.heap.size wm ((wr.drewN 2).drew) := below_drewN HBW.out 3
                  have hg3 : Below wm.heap.size wm ((wr.drewN 3).drew) := below_drewN HBW.out 4
                  clear hjcv hjbv hjav hjxv hyj hxj hq2 hz1 hz2 hz3 hn1 HN
                  go_wp2
                  have hS0 : Hid (wr.drew.cell? ⟨w.heap.size + 1, 0, none⟩ = some (.slice (some ⟨bA, oA, none⟩) 4 c') ∧ wr.drew.cell? ⟨bA, oA + 1, none⟩ = some (.int .i64 (C : Int)) ∧ wr.drew.cell? ⟨bA, oA + 2, none⟩ = some (.int .i64 (a : Int)) ∧ wr.drew.cell? ⟨bA, oA + 3, none⟩ = some (.int .i64 (b : Int))) := hide (HG.out _ hg0)
                  refine wp_region_U (fun _ v => v.cell? ⟨w.heap.size + 1, 0, none⟩ = some (.slice (some ⟨bA, oA, none⟩) 4 c') ∧ v.cell? ⟨bA, oA + 1, none⟩ = some (.int .i64 (C : Int)) ∧ v.cell? ⟨bA, oA + 2, none⟩ = some (.int .i64 (a : Int)) ∧ v.cell? ⟨bA, oA + 3, none⟩ = some (.int .i64 (b : Int))) 99 (by kernel_rfl) ?_
                  refine wpAnyU_take (i := 0) (oi := { dst := some 67, op := _, type := _, pos := _, after := _, guard := none }) (v := .int .i64 (j : Int)) rfl (by kernel_rfl) (by kernel_rfl) (by kernel_rfl) (by kernel_rfl) (fun _ _ _ h => h) (yields_take rfl (fun w' hw => by obtain ⟨h1, h2, h3, h4⟩ := hw.const; go_simp)) hS0.out ?_
                  simp only [Act.put, List.setIfInBounds_toArray, List.set_cons_zero, List.set_cons_succ]
                  refine wpAnyU_take (i := 1) (oi := { dst := some 68, op := _, type := _, pos := _, after := _, guard := none }) (v := .pointer (some ⟨w.heap.size + 1, 0, none⟩)) rfl (by kernel_rfl) (by kernel_rfl) (by kernel_rfl) (by kernel_rfl) (fun _ _ _ h => h) (yields_take rfl (fun w' hw => by obtain ⟨h1, h2, h3, h4⟩ := hw.const; go_simp)) hS0.out ?_
                  simp only [Act.put, List.setIfInBounds_toArray, List.set_cons_zero, List.set_cons_succ]
                  refine wpAnyU_take (i := 2) (oi := { dst := some 69, op := _, type := _, pos := _, after := _, guard := none }) (v := .slice (some ⟨bA, oA, none⟩) 4 c') rfl (by kernel_rfl) (by kernel_rfl) (by kernel_rfl) (by kernel_rfl) (fun _ _ _ h => h) (yields_take rfl (fun w' hw => by obtain ⟨h1, h2, h3, h4⟩ := hw.const; go_simp)) hS0.out ?_
                  simp only [Act.put, List.setIfInBounds_toArray, List.set_cons_zero, List.set_cons_succ]
                  refine wpAnyU_take (i := 3) (oi := { dst := some 70, op := _, type := _, pos := _, after := _, guard := none }) (v := .pointer (some ⟨bA, oA + 1, none⟩)) rfl (by kernel_rfl) (by kernel_rfl) (by kernel_rfl) (by kernel_rfl) (fun _ _ _ h => h) (yields_take rfl (fun w' hw => by obtain ⟨h1, h2, h3, h4⟩ := hw.const; go_simp)) hS0.out ?_
                  simp only [Act.put, List.setIfInBounds_toArray, List.set_cons_zero, List.set_cons_succ]
                  refine wpAnyU_take (i := 4) (oi := { dst := some 71, op := _, type := _, pos := _, after := _, guard := none }) (v := .int .i64 (C : Int)) rfl (by kernel_rfl) (by kernel_rfl) (by kernel_rfl) (by kernel_rfl) (fun _ _ _ h => h) (yields_take rfl (fun w' hw => by obtain ⟨h1, h2, h3, h4⟩ := hw.const; go_simp)) hS0.out ?_
                  simp only [Act.put, List.setIfInBounds_toArray, List.set_cons_zero, List.set_cons_succ]
                  refine wpAnyU_take (i := 5) (oi := { dst := some 72, op := _, type := _, pos := _, after := _, guard := none }) (v := .pointer (some ⟨w.heap.size + 1, 0, none⟩)) rfl (by kernel_rfl) (by kernel_rfl) (by kernel_rfl) (by kernel_rfl) (fun _ _ _ h => h) (yields_take rfl (fun w' hw => by obtain ⟨h1, h2, h3, h4⟩ := hw.const; go_simp)) hS0.out ?_
                  simp only [Act.put, List.setIfInBounds_toArray, List.set_cons_zero, List.set_cons_succ]
                  refine wpAnyU_take (i := 6) (oi := { dst := some 73, op := _, type := _, pos := _, after := _, guard := none }) (v := .slice (some ⟨bA, oA, none⟩) 4 c') rfl (by kernel_rfl) (by kernel_rfl) (by kernel_rfl) (by kernel_rfl) (fun _ _ _ h => h) (yields_take rfl (fun w' hw => by obtain ⟨h1, h2, h3, h4⟩ := hw.const; go_simp)) hS0.out ?_
                  simp only [Act.put, List.setIfInBounds_toArray, List.set_cons_zero, List.set_cons_succ]
                  refine wpAnyU_take (i := 7) (oi := { dst := some 74, op := _, type := _, pos := _, after := _, guard := none }) (v := .pointer (some ⟨bA, oA + 2, none⟩)) rfl (by kernel_rfl) (by kernel_rfl) (by kernel_rfl) (by kernel_rfl) (fun _ _ _ h => h) (yields_take rfl (fun w' hw => by obtain ⟨h1, h2, h3, h4⟩ := hw.const; go_simp)) hS0.out ?_
                  simp only [Act.put, List.setIfInBounds_toArray, List.set_cons_zero, List.set_cons_succ]
                  refine wpAnyU_take (i := 8) (oi := { dst := some 75, op := _, type := _, pos := _, after := _, guard := none }) (v := .int .i64 (a : Int)) rfl (by kernel_rfl) (by kernel_rfl) (by kernel_rfl) (by kernel_rfl) (fun _ _ _ h => h) (yields_take rfl (fun w' hw => by obtain ⟨h1, h2, h3, h4⟩ := hw.const; go_simp)) hS0.out ?_
                  simp only [Act.put, List.setIfInBounds_toArray, List.set_cons_zero, List.set_cons_succ]
                  refine wpAnyU_take (i := 9) (oi := { dst := some 76, op := _, type := _, pos := _, after := _, guard := none }) (v := .int .i64 (ca : Int)) rfl (by kernel_rfl) (by kernel_rfl) (by kernel_rfl) (by kernel_rfl) (fun _ _ _ h => h) (yields_take rfl (fun w' hw => by obtain ⟨h1, h2, h3, h4⟩ := hw.const; go_simp)) hS0.out ?_
                  simp only [Act.put, List.setIfInBounds_toArray, List.set_cons_zero, List.set_cons_succ]
                  refine wpAnyU_take (i := 10) (oi := { dst := some 77, op := _, type := _, pos := _, after := _, guard := none }) (v := .pointer (some ⟨w.heap.size + 1, 0, none⟩)) rfl (by kernel_rfl) (by kernel_rfl) (by kernel_rfl) (by kernel_rfl) (fun _ _ _ h => h) (yields_take rfl (fun w' hw => by obtain ⟨h1, h2, h3, h4⟩ := hw.const; go_simp)) hS0.out ?_
                  simp only [Act.put, List.setIfInBounds_toArray, List.set_cons_zero, List.set_cons_succ]
                  refine wpAnyU_take (i := 11) (oi := { dst := some 78, op := _, type := _, pos := _, after := _, guard := none }) (v := .slice (some ⟨bA, oA, none⟩) 4 c') rfl (by kernel_rfl) (by kernel_rfl) (by kernel_rfl) (by kernel_rfl) (fun _ _ _ h => h) (yields_take rfl (fun w' hw => by obtain ⟨h1, h2, h3, h4⟩ := hw.const; go_simp)) hS0.out ?_
                  simp only [Act.put, List.setIfInBounds_toArray, List.set_cons_zero, List.set_cons_succ]
                  refine wpAnyU_take (i := 12) (oi := { dst := some 79, op := _, type := _, pos := _, after := _, guard := none }) (v := .pointer (some ⟨bA, oA + 3, none⟩)) rfl (by kernel_rfl) (by kernel_rfl) (by kernel_rfl) (by kernel_rfl) (fun _ _ _ h => h) (yields_take rfl (fun w' hw => by obtain ⟨h1, h2, h3, h4⟩ := hw.const; go_simp)) hS0.out ?_
                  simp only [Act.put, List.setIfInBounds_toArray, List.set_cons_zero, List.set_cons_succ]
                  refine wpAnyU_take (i := 13) (oi := { dst := some 80, op := _, type := _, pos := _, after := _, guard := none }) (v := .int .i64 (b : Int)) rfl (by kernel_rfl) (by kernel_rfl) (by kernel_rfl) (by kernel_rfl) (fun _ _ _ h => h) (yields_take rfl (fun w' hw => by obtain ⟨h1, h2, h3, h4⟩ := hw.const; go_simp)) hS0.out ?_
                  simp only [Act.put, List.setIfInBounds_toArray, List.set_cons_zero, List.set_cons_succ]
                  refine wpAnyU_take (i := 14) (oi := { dst := some 81, op := _, type := _, pos := _, after := _, guard := none }) (v := .int .i64 (nn : Int)) rfl (by kernel_rfl) (by kernel_rfl) (by kernel_rfl) (by kernel_rfl) (fun _ _ _ h => h) (yields_take rfl (fun w' hw => by obtain ⟨h1, h2, h3, h4⟩ := hw.const; go_simp)) hS0.out ?_
                  simp only [Act.put, List.setIfInBounds_toArray, List.set_cons_zero, List.set_cons_succ]
                  refine wpAnyU_take (i := 15) (oi := { dst := some 82, op := _, type := _, pos := _, after := _, guard := none }) (v := .bool true) rfl (by kernel_rfl) (by kernel_rfl) (by kernel_rfl) (by kernel_rfl) (fun _ _ _ h => h) (yields_take rfl (fun w' hw => by obtain ⟨h1, h2, h3, h4⟩ := hw.const; go_simp)) hS0.out ?_
                  simp only [Act.put, List.setIfInBounds_toArray, List.set_cons_zero, List.set_cons_succ]
                  refine wpAnyU_done (by kernel_rfl) ?_ _
                  clear hS0
                  go_wp2
                  have hS0 : Hid (((wr.drewN 1).drew).cell? ⟨w.heap.size + 1, 0, none⟩ = some (.slice (some ⟨bA, oA, none⟩) 4 c') ∧ ((wr.drewN 1).drew).cell? ⟨bA, oA + 1, none⟩ = some (.int .i64 (C : Int)) ∧ ((wr.drewN 1).drew).cell? ⟨bA, oA + 2, none⟩ = some (.int .i64 (a : Int)) ∧ ((wr.drewN 1).drew).cell? ⟨bA, oA + 3, none⟩ = some (.int .i64 (b : Int))) := hide (HG.out _ hg1)
                  refine wp_region_U (fun _ v => v.cell? ⟨w.heap.size + 1, 0, none⟩ = some (.slice (some ⟨bA, oA, none⟩) 4 c') ∧ v.cell? ⟨bA, oA + 1, none⟩ = some (.int .i64 (C : Int)) ∧ v.cell? ⟨bA, oA + 2, none⟩ = some (.int .i64 (a : Int)) ∧ v.cell? ⟨bA, oA + 3, none⟩ = some (.int .i64 (b : Int))) 99 (by kernel_rfl) ?_
                  refine wpAnyU_take (i := 0) (oi := { dst := some 85, op := _, type := _, pos := _, after := _, guard := none }) (v := .int .i64 (j : Int)) rfl (by kernel_rfl) (by kernel_rfl) (by kernel_rfl) (by kernel_rfl) (fun _ _ _ h => h) (yields_take rfl (fun w' hw => by obtain ⟨h1, h2, h3, h4⟩ := hw.const; go_simp)) hS0.out ?_
                  simp only [Act.put, List.setIfInBounds_toArray, List.set_cons_zero, List.set_cons_succ]
                  refine wpAnyU_take (i := 1) (oi := { dst := some 86, op := _, type := _, pos := _, after := _, guard := none }) (v := .pointer (some ⟨w.heap.size + 1, 0, none⟩)) rfl (by kernel_rfl) (by kernel_rfl) (by kernel_rfl) (by kernel_rfl) (fun _ _ _ h => h) (yields_take rfl (fun w' hw => by obtain ⟨h1, h2, h3, h4⟩ := hw.const; go_simp)) hS0.out ?_
                  simp only [Act.put, List.setIfInBounds_toArray, List.set_cons_zero, List.set_cons_succ]
                  refine wpAnyU_take (i := 2) (oi := { dst := some 87, op := _, type := _, pos := _, after := _, guard := none }) (v := .slice (some ⟨bA, oA, none⟩) 4 c') rfl (by kernel_rfl) (by kernel_rfl) (by kernel_rfl) (by kernel_rfl) (fun _ _ _ h => h) (yields_take rfl (fun w' hw => by obtain ⟨h1, h2, h3, h4⟩ := hw.const; go_simp)) hS0.out ?_
                  simp only [Act.put, List.setIfInBounds_toArray, List.set_cons_zero, List.set_cons_succ]
                  refine wpAnyU_take (i := 3) (oi := { dst := some 88, op := _, type := _, pos := _, after := _, guard := none }) (v := .pointer (some ⟨bA, oA + 2, none⟩)) rfl (by kernel_rfl) (by kernel_rfl) (by kernel_rfl) (by kernel_rfl) (fun _ _ _ h => h) (yields_take rfl (fun w' hw => by obtain ⟨h1, h2, h3, h4⟩ := hw.const; go_simp)) hS0.out ?_
                  simp only [Act.put, List.setIfInBounds_toArray, List.set_cons_zero, List.set_cons_succ]
                  refine wpAnyU_take (i := 4) (oi := { dst := some 89, op := _, type := _, pos := _, after := _, guard := none }) (v := .int .i64 (a : Int)) rfl (by kernel_rfl) (by kernel_rfl) (by kernel_rfl) (by kernel_rfl) (fun _ _ _ h => h) (yields_take rfl (fun w' hw => by obtain ⟨h1, h2, h3, h4⟩ := hw.const; go_simp)) hS0.out ?_
                  simp only [Act.put, List.setIfInBounds_toArray, List.set_cons_zero, List.set_cons_succ]
                  refine wpAnyU_take (i := 5) (oi := { dst := some 90, op := _, type := _, pos := _, after := _, guard := none }) (v := .pointer (some ⟨w.heap.size + 1, 0, none⟩)) rfl (by kernel_rfl) (by kernel_rfl) (by kernel_rfl) (by kernel_rfl) (fun _ _ _ h => h) (yields_take rfl (fun w' hw => by obtain ⟨h1, h2, h3, h4⟩ := hw.const; go_simp)) hS0.out ?_
                  simp only [Act.put, List.setIfInBounds_toArray, List.set_cons_zero, List.set_cons_succ]
                  refine wpAnyU_take (i := 6) (oi := { dst := some 91, op := _, type := _, pos := _, after := _, guard := none }) (v := .slice (some ⟨bA, oA, none⟩) 4 c') rfl (by kernel_rfl) (by kernel_rfl) (by kernel_rfl) (by kernel_rfl) (fun _ _ _ h => h) (yields_take rfl (fun w' hw => by obtain ⟨h1, h2, h3, h4⟩ := hw.const; go_simp)) hS0.out ?_
                  simp only [Act.put, List.setIfInBounds_toArray, List.set_cons_zero, List.set_cons_succ]
                  refine wpAnyU_take (i := 7) (oi := { dst := some 92, op := _, type := _, pos := _, after := _, guard := none }) (v := .pointer (some ⟨bA, oA + 3, none⟩)) rfl (by kernel_rfl) (by kernel_rfl) (by kernel_rfl) (by kernel_rfl) (fun _ _ _ h => h) (yields_take rfl (fun w' hw => by obtain ⟨h1, h2, h3, h4⟩ := hw.const; go_simp)) hS0.out ?_
                  simp only [Act.put, List.setIfInBounds_toArray, List.set_cons_zero, List.set_cons_succ]
                  refine wpAnyU_take (i := 8) (oi := { dst := some 93, op := _, type := _, pos := _, after := _, guard := none }) (v := .int .i64 (b : Int)) rfl (by kernel_rfl) (by kernel_rfl) (by kernel_rfl) (by kernel_rfl) (fun _ _ _ h => h) (yields_take rfl (fun w' hw => by obtain ⟨h1, h2, h3, h4⟩ := hw.const; go_simp)) hS0.out ?_
                  simp only [Act.put, List.setIfInBounds_toArray, List.set_cons_zero, List.set_cons_succ]
                  refine wpAnyU_take (i := 9) (oi := { dst := some 94, op := _, type := _, pos := _, after := _, guard := none }) (v := .int .i64 (ab : Int)) rfl (by kernel_rfl) (by kernel_rfl) (by kernel_rfl) (by kernel_rfl) (fun _ _ _ h => h) (yields_take rfl (fun w' hw => by obtain ⟨h1, h2, h3, h4⟩ := hw.const; go_simp)) hS0.out ?_
                  simp only [Act.put, List.setIfInBounds_toArray, List.set_cons_zero, List.set_cons_succ]
                  refine wpAnyU_take (i := 10) (oi := { dst := some 95, op := _, type := _, pos := _, after := _, guard := none }) (v := .int .i64 (jc : Int)) rfl (by kernel_rfl) (by kernel_rfl) (by kernel_rfl) (by kernel_rfl) (fun _ _ _ h => h) (yields_take rfl (fun w' hw => by obtain ⟨h1, h2, h3, h4⟩ := hw.const; go_simp)) hS0.out ?_
                  simp only [Act.put, List.setIfInBounds_toArray, List.set_cons_zero, List.set_cons_succ]
                  refine wpAnyU_take (i := 11) (oi := { dst := some 18, op := _, type := _, pos := _, after := _, guard := none }) (v := .int .i64 (jc : Int)) rfl (by kernel_rfl) (by kernel_rfl) (by kernel_rfl) (by kernel_rfl) (fun _ _ _ h => h) (yields_take rfl (fun w' hw => by obtain ⟨h1, h2, h3, h4⟩ := hw.const; go_simp)) hS0.out ?_
                  simp only [Act.put, List.setIfInBounds_toArray, List.set_cons_zero, List.set_cons_succ]
                  refine wpAnyU_done (by kernel_rfl) ?_ _
                  clear hS0
                  go_wp2
                  have hS0 : Hid (((wr.drewN 2).drew).cell? ⟨w.heap.size + 1, 0, none⟩ = some (.slice (some ⟨bA, oA, none⟩) 4 c') ∧ ((wr.drewN 2).drew).cell? ⟨bA, oA + 1, none⟩ = some (.int .i64 (C : Int)) ∧ ((wr.drewN 2).drew).cell? ⟨bA, oA + 2, none⟩ = some (.int .i64 (a : Int)) ∧ ((wr.drewN 2).drew).cell? ⟨bA, oA + 3, none⟩ = some (.int .i64 (b : Int))) := hide (HG.out _ hg2)
                  refine wp_region_U (fun _ v => v.cell? ⟨w.heap.size + 1, 0, none⟩ = some (.slice (some ⟨bA, oA, none⟩) 4 c') ∧ v.cell? ⟨bA, oA + 1, none⟩ = some (.int .i64 (C : Int)) ∧ v.cell? ⟨bA, oA + 2, none⟩ = some (.int .i64 (a : Int)) ∧ v.cell? ⟨bA, oA + 3, none⟩ = some (.int .i64 (b : Int))) 99 (by kernel_rfl) ?_
                  refine wpAnyU_take (i := 0) (oi := { dst := some 96, op := _, type := _, pos := _, after := _, guard := none }) (v := .int .i64 (j : Int)) rfl (by kernel_rfl) (by kernel_rfl) (by kernel_rfl) (by kernel_rfl) (fun _ _ _ h => h) (yields_take rfl (fun w' hw => by obtain ⟨h1, h2, h3, h4⟩ := hw.const; go_simp)) hS0.out ?_
                  simp only [Act.put, List.setIfInBounds_toArray, List.set_cons_zero, List.set_cons_succ]
                  refine wpAnyU_take (i := 1) (oi := { dst := some 97, op := _, type := _, pos := _, after := _, guard := none }) (v := .pointer (some ⟨w.heap.size + 1, 0, none⟩)) rfl (by kernel_rfl) (by kernel_rfl) (by kernel_rfl) (by kernel_rfl) (fun _ _ _ h => h) (yields_take rfl (fun w' hw => by obtain ⟨h1, h2, h3, h4⟩ := hw.const; go_simp)) hS0.out ?_
                  simp only [Act.put, List.setIfInBounds_toArray, List.set_cons_zero, List.set_cons_succ]
                  refine wpAnyU_take (i := 2) (oi := { dst := some 98, op := _, type := _, pos := _, after := _, guard := none }) (v := .slice (some ⟨bA, oA, none⟩) 4 c') rfl (by kernel_rfl) (by kernel_rfl) (by kernel_rfl) (by kernel_rfl) (fun _ _ _ h => h) (yields_take rfl (fun w' hw => by obtain ⟨h1, h2, h3, h4⟩ := hw.const; go_simp)) hS0.out ?_
                  simp only [Act.put, List.setIfInBounds_toArray, List.set_cons_zero, List.set_cons_succ]
                  refine wpAnyU_take (i := 3) (oi := { dst := some 99, op := _, type := _, pos := _, after := _, guard := none }) (v := .pointer (some ⟨bA, oA + 3, none⟩)) rfl (by kernel_rfl) (by kernel_rfl) (by kernel_rfl) (by kernel_rfl) (fun _ _ _ h => h) (yields_take rfl (fun w' hw => by obtain ⟨h1, h2, h3, h4⟩ := hw.const; go_simp)) hS0.out ?_
                  simp only [Act.put, List.setIfInBounds_toArray, List.set_cons_zero, List.set_cons_succ]
                  refine wpAnyU_take (i := 4) (oi := { dst := some 100, op := _, type := _, pos := _, after := _, guard := none }) (v := .int .i64 (b : Int)) rfl (by kernel_rfl) (by kernel_rfl) (by kernel_rfl) (by kernel_rfl) (fun _ _ _ h => h) (yields_take rfl (fun w' hw => by obtain ⟨h1, h2, h3, h4⟩ := hw.const; go_simp)) hS0.out ?_
                  simp only [Act.put, List.setIfInBounds_toArray, List.set_cons_zero, List.set_cons_succ]
                  refine wpAnyU_take (i := 5) (oi := { dst := some 101, op := _, type := _, pos := _, after := _, guard := none }) (v := .int .i64 (jb : Int)) rfl (by kernel_rfl) (by kernel_rfl) (by kernel_rfl) (by kernel_rfl) (fun _ _ _ h => h) (yields_take rfl (fun w' hw => by obtain ⟨h1, h2, h3, h4⟩ := hw.const; go_simp)) hS0.out ?_
                  simp only [Act.put, List.setIfInBounds_toArray, List.set_cons_zero, List.set_cons_succ]
                  refine wpAnyU_take (i := 6) (oi := { dst := some 102, op := _, type := _, pos := _, after := _, guard := none }) (v := .pointer (some ⟨w.heap.size + 1, 0, none⟩)) rfl (by kernel_rfl) (by kernel_rfl) (by kernel_rfl) (by kernel_rfl) (fun _ _ _ h => h) (yields_take rfl (fun w' hw => by obtain ⟨h1, h2, h3, h4⟩ := hw.const; go_simp)) hS0.out ?_
                  simp only [Act.put, List.setIfInBounds_toArray, List.set_cons_zero, List.set_cons_succ]
                  refine wpAnyU_take (i := 7) (oi := { dst := some 103, op := _, type := _, pos := _, after := _, guard := none }) (v := .slice (some ⟨bA, oA, none⟩) 4 c') rfl (by kernel_rfl) (by kernel_rfl) (by kernel_rfl) (by kernel_rfl) (fun _ _ _ h => h) (yields_take rfl (fun w' hw => by obtain ⟨h1, h2, h3, h4⟩ := hw.const; go_simp)) hS0.out ?_
                  simp only [Act.put, List.setIfInBounds_toArray, List.set_cons_zero, List.set_cons_succ]
                  refine wpAnyU_take (i := 8) (oi := { dst := some 104, op := _, type := _, pos := _, after := _, guard := none }) (v := .pointer (some ⟨bA, oA + 2, none⟩)) rfl (by kernel_rfl) (by kernel_rfl) (by kernel_rfl) (by kernel_rfl) (fun _ _ _ h => h) (yields_take rfl (fun w' hw => by obtain ⟨h1, h2, h3, h4⟩ := hw.const; go_simp)) hS0.out ?_
                  simp only [Act.put, List.setIfInBounds_toArray, List.set_cons_zero, List.set_cons_succ]
                  refine wpAnyU_take (i := 9) (oi := { dst := some 105, op := _, type := _, pos := _, after := _, guard := none }) (v := .int .i64 (a : Int)) rfl (by kernel_rfl) (by kernel_rfl) (by kernel_rfl) (by kernel_rfl) (fun _ _ _ h => h) (yields_take rfl (fun w' hw => by obtain ⟨h1, h2, h3, h4⟩ := hw.const; go_simp)) hS0.out ?_
                  simp only [Act.put, List.setIfInBounds_toArray, List.set_cons_zero, List.set_cons_succ]
                  refine wpAnyU_take (i := 10) (oi := { dst := some 106, op := _, type := _, pos := _, after := _, guard := none }) (v := .int .i64 (ja : Int)) rfl (by kernel_rfl) (by kernel_rfl) (by kernel_rfl) (by kernel_rfl) (fun _ _ _ h => h) (yields_take rfl (fun w' hw => by obtain ⟨h1, h2, h3, h4⟩ := hw.const; go_simp)) hS0.out ?_
                  simp only [Act.put, List.setIfInBounds_toArray, List.set_cons_zero, List.set_cons_succ]
                  refine wpAnyU_take (i := 11) (oi := { dst := some 19, op := _, type := _, pos := _, after := _, guard := none }) (v := .int .i64 (ja : Int)) rfl (by kernel_rfl) (by kernel_rfl) (by kernel_rfl) (by kernel_rfl) (fun _ _ _ h => h) (yields_take rfl (fun w' hw => by obtain ⟨h1, h2, h3, h4⟩ := hw.const; go_simp)) hS0.out ?_
                  simp only [Act.put, List.setIfInBounds_toArray, List.set_cons_zero, List.set_cons_succ]
                  refine wpAnyU_done (by kernel_rfl) ?_ _
                  clear hS0
                  obtain ⟨y1, y2, y3, y4⟩ := HG.out _ (show Below wm.heap.size wm wr.drew.drew.drew from below_drewN HBW.out 3)
                  go_wp2
                  clear y1 y2 y3 y4
                  have hS0 : Hid (((wr.drewN 3).drew).cell? ⟨w.heap.size + 1, 0, none⟩ = some (.slice (some ⟨bA, oA, none⟩) 4 c') ∧ ((wr.drewN 3).drew).cell? ⟨bA, oA + 1, none⟩ = some (.int .i64 (C : Int)) ∧ ((wr.drewN 3).drew).cell? ⟨bA, oA + 2, none⟩ = some (.int .i64 (a : Int)) ∧ ((wr.drewN 3).drew).cell? ⟨bA, oA + 3, none⟩ = some (.int .i64 (b : Int)) ∧ ((wr.drewN 3).drew).cell? ⟨w.heap.size, 0, none⟩ = some (.slice A 3 c) ∧ ((wr.drewN 3).drew).cell? ⟨w.heap.size, 1, none⟩ = some (.slice B m d) ∧ ((wr.drewN 3).drew).cell? ⟨w.heap.size + 1, 1, none⟩ = some (.slice (some ⟨bB, oB, none⟩) m' d') ∧ ((wr.drewN 3).drew).cell? ⟨bB, oB + q2, none⟩ = some (.int .i32 z2)) := hide (HG24.out _ hg3)
                  refine wp_region_U (fun _ v => v.cell? ⟨w.heap.size + 1, 0, none⟩ = some (.slice (some ⟨bA, oA, none⟩) 4 c') ∧ v.cell? ⟨bA, oA + 1, none⟩ = some (.int .i64 (C : Int)) ∧ v.cell? ⟨bA, oA + 2, none⟩ = some (.int .i64 (a : Int)) ∧ v.cell? ⟨bA, oA + 3, none⟩ = some (.int .i64 (b : Int)) ∧ v.cell? ⟨w.heap.size, 0, none⟩ = some (.slice A 3 c) ∧ v.cell? ⟨w.heap.size, 1, none⟩ = some (.slice B m d) ∧ v.cell? ⟨w.heap.size + 1, 1, none⟩ = some (.slice (some ⟨bB, oB, none⟩) m' d') ∧ v.cell? ⟨bB, oB + q2, none⟩ = some (.int .i32 z2)) 99 (by kernel_rfl) ?_
                  refine wpAnyU_take (i := 0) (oi := { dst := some 113, op := _, type := _, pos := _, after := _, guard := none }) (v := .int .i32 n0) rfl (by kernel_rfl) (by kernel_rfl) (by kernel_rfl) (by kernel_rfl) (fun _ _ _ h => h) (yields_take rfl (fun w' hw => by obtain ⟨h1, h2, h3, h4, h5, h6, h7, h8⟩ := hw.const; go_simp)) hS0.out ?_
                  simp only [Act.put, List.setIfInBounds_toArray, List.set_cons_zero, List.set_cons_succ]
                  refine wpAnyU_take (i := 1) (oi := { dst := some 114, op := _, type := _, pos := _, after := _, guard := none }) (v := tenV A 3 c B m d) rfl (by kernel_rfl) (by kernel_rfl) (by kernel_rfl) (by kernel_rfl) (fun _ _ _ h => h) (yields_take rfl (fun w' hw => by obtain ⟨h1, h2, h3, h4, h5, h6, h7, h8⟩ := hw.const; go_simp)) hS0.out ?_
                  simp only [Act.put, List.setIfInBounds_toArray, List.set_cons_zero, List.set_cons_succ]
                  refine wpAnyU_take (i := 2) (oi := { dst := some 115, op := _, type := _, pos := _, after := _, guard := none }) (v := .int .i64 (jc : Int)) rfl (by kernel_rfl) (by kernel_rfl) (by kernel_rfl) (by kernel_rfl) (fun _ _ _ h => h) (yields_take rfl (fun w' hw => by obtain ⟨h1, h2, h3, h4, h5, h6, h7, h8⟩ := hw.const; go_simp)) hS0.out ?_
                  simp only [Act.put, List.setIfInBounds_toArray, List.set_cons_zero, List.set_cons_succ]
                  refine wpAnyU_take (i := 3) (oi := { dst := some 116, op := _, type := _, pos := _, after := _, guard := none }) (v := .int .i64 (y : Int)) rfl (by kernel_rfl) (by kernel_rfl) (by kernel_rfl) (by kernel_rfl) (fun _ _ _ h => h) (yields_take rfl (fun w' hw => by obtain ⟨h1, h2, h3, h4, h5, h6, h7, h8⟩ := hw.const; go_simp)) hS0.out ?_
                  simp only [Act.put, List.setIfInBounds_toArray, List.set_cons_zero, List.set_cons_succ]
                  refine wpAnyU_take (i := 4) (oi := { dst := some 117, op := _, type := _, pos := _, after := _, guard := none }) (v := .int .i64 (step : Int)) rfl (by kernel_rfl) (by kernel_rfl) (by kernel_rfl) (by kernel_rfl) (fun _ _ _ h => h) (yields_take rfl (fun w' hw => by obtain ⟨h1, h2, h3, h4, h5, h6, h7, h8⟩ := hw.const; go_simp)) hS0.out ?_
                  simp only [Act.put, List.setIfInBounds_toArray, List.set_cons_zero, List.set_cons_succ]
                  refine wpAnyU_take (i := 5) (oi := { dst := some 118, op := _, type := _, pos := _, after := _, guard := none }) (v := .int .i64 (ys : Int)) rfl (by kernel_rfl) (by kernel_rfl) (by kernel_rfl) (by kernel_rfl) (fun _ _ _ h => h) (yields_take rfl (fun w' hw => by obtain ⟨h1, h2, h3, h4, h5, h6, h7, h8⟩ := hw.const; go_simp)) hS0.out ?_
                  simp only [Act.put, List.setIfInBounds_toArray, List.set_cons_zero, List.set_cons_succ]
                  refine wpAnyU_take (i := 6) (oi := { dst := some 119, op := _, type := _, pos := _, after := _, guard := none }) (v := .int .i64 (pad : Int)) rfl (by kernel_rfl) (by kernel_rfl) (by kernel_rfl) (by kernel_rfl) (fun _ _ _ h => h) (yields_take rfl (fun w' hw => by obtain ⟨h1, h2, h3, h4, h5, h6, h7, h8⟩ := hw.const; go_simp)) hS0.out ?_
                  simp only [Act.put, List.setIfInBounds_toArray, List.set_cons_zero, List.set_cons_succ]
                  refine wpAnyU_take (i := 7) (oi := { dst := some 120, op := _, type := _, pos := _, after := _, guard := none }) (v := .int .i64 yp) rfl (by kernel_rfl) (by kernel_rfl) (by kernel_rfl) (by kernel_rfl) (fun _ _ _ h => h) (yields_take rfl (fun w' hw => by obtain ⟨h1, h2, h3, h4, h5, h6, h7, h8⟩ := hw.const; go_simp)) hS0.out ?_
                  simp only [Act.put, List.setIfInBounds_toArray, List.set_cons_zero, List.set_cons_succ]
                  refine wpAnyU_take (i := 8) (oi := { dst := some 121, op := _, type := _, pos := _, after := _, guard := none }) (v := .int .i64 (ja : Int)) rfl (by kernel_rfl) (by kernel_rfl) (by kernel_rfl) (by kernel_rfl) (fun _ _ _ h => h) (yields_take rfl (fun w' hw => by obtain ⟨h1, h2, h3, h4, h5, h6, h7, h8⟩ := hw.const; go_simp)) hS0.out ?_
                  simp only [Act.put, List.setIfInBounds_toArray, List.set_cons_zero, List.set_cons_succ]
                  refine wpAnyU_take (i := 9) (oi := { dst := some 122, op := _, type := _, pos := _, after := _, guard := none }) (v := .int .i64 yj) rfl (by kernel_rfl) (by kernel_rfl) (by kernel_rfl) (by kernel_rfl) (fun _ _ _ h => h) (yields_take rfl (fun w' hw => by obtain ⟨h1, h2, h3, h4, h5, h6, h7, h8⟩ := hw.const; go_simp)) hS0.out ?_
                  simp only [Act.put, List.setIfInBounds_toArray, List.set_cons_zero, List.set_cons_succ]
                  refine wpAnyU_take (i := 10) (oi := { dst := some 123, op := _, type := _, pos := _, after := _, guard := none }) (v := .int .i64 (x : Int)) rfl (by kernel_rfl) (by kernel_rfl) (by kernel_rfl) (by kernel_rfl) (fun _ _ _ h => h) (yields_take rfl (fun w' hw => by obtain ⟨h1, h2, h3, h4, h5, h6, h7, h8⟩ := hw.const; go_simp)) hS0.out ?_
                  simp only [Act.put, List.setIfInBounds_toArray, List.set_cons_zero, List.set_cons_succ]
                  refine wpAnyU_take (i := 11) (oi := { dst := some 124, op := _, type := _, pos := _, after := _, guard := none }) (v := .int .i64 (step : Int)) rfl (by kernel_rfl) (by kernel_rfl) (by kernel_rfl) (by kernel_rfl) (fun _ _ _ h => h) (yields_take rfl (fun w' hw => by obtain ⟨h1, h2, h3, h4, h5, h6, h7, h8⟩ := hw.const; go_simp)) hS0.out ?_
                  simp only [Act.put, List.setIfInBounds_toArray, List.set_cons_zero, List.set_cons_succ]
                  refine wpAnyU_take (i := 12) (oi := { dst := some 125, op := _, type := _, pos := _, after := _, guard := none }) (v := .int .i64 (xs : Int)) rfl (by kernel_rfl) (by kernel_rfl) (by kernel_rfl) (by kernel_rfl) (fun _ _ _ h => h) (yields_take rfl (fun w' hw => by obtain ⟨h1, h2, h3, h4, h5, h6, h7, h8⟩ := hw.const; go_simp)) hS0.out ?_
                  simp only [Act.put, List.setIfInBounds_toArray, List.set_cons_zero, List.set_cons_succ]
                  refine wpAnyU_take (i := 13) (oi := { dst := some 126, op := _, type := _, pos := _, after := _, guard := none }) (v := .int .i64 (pad : Int)) rfl (by kernel_rfl) (by kernel_rfl) (by kernel_rfl) (by kernel_rfl) (fun _ _ _ h => h) (yields_take rfl (fun w' hw => by obtain ⟨h1, h2, h3, h4, h5, h6, h7, h8⟩ := hw.const; go_simp)) hS0.out ?_
                  simp only [Act.put, List.setIfInBounds_toArray, List.set_cons_zero, List.set_cons_succ]
                  refine wpAnyU_take (i := 14) (oi := { dst := some 127, op := _, type := _, pos := _, after := _, guard := none }) (v := .int .i64 xp) rfl (by kernel_rfl) (by kernel_rfl) (by kernel_rfl) (by kernel_rfl) (fun _ _ _ h => h) (yields_take rfl (fun w' hw => by obtain ⟨h1, h2, h3, h4, h5, h6, h7, h8⟩ := hw.const; go_simp)) hS0.out ?_
                  simp only [Act.put, List.setIfInBounds_toArray, List.set_cons_zero, List.set_cons_succ]
                  refine wpAnyU_take (i := 15) (oi := { dst := some 128, op := _, type := _, pos := _, after := _, guard := none }) (v := .int .i64 (jx : Int)) rfl (by kernel_rfl) (by kernel_rfl) (by kernel_rfl) (by kernel_rfl) (fun _ _ _ h => h) (yields_take rfl (fun w' hw => by obtain ⟨h1, h2, h3, h4, h5, h6, h7, h8⟩ := hw.const; go_simp)) hS0.out ?_
                  simp only [Act.put, List.setIfInBounds_toArray, List.set_cons_zero, List.set_cons_succ]
                  refine wpAnyU_take (i := 16) (oi := { dst := some 129, op := _, type := _, pos := _, after := _, guard := none }) (v := .int .i64 xj) rfl (by kernel_rfl) (by kernel_rfl) (by kernel_rfl) (by kernel_rfl) (fun _ _ _ h => h) (yields_take rfl (fun w' hw => by obtain ⟨h1, h2, h3, h4, h5, h6, h7, h8⟩ := hw.const; go_simp)) hS0.out ?_
                  simp only [Act.put, List.setIfInBounds_toArray, List.set_cons_zero, List.set_cons_succ]
                  refine wpAnyU_take (i := 18) (oi := { dst := some 131, op := _, type := _, pos := _, after := _, guard := none }) (v := .pointer (some ⟨w.heap.size + 1, 1, none⟩)) rfl (by kernel_rfl) (by kernel_rfl) (by kernel_rfl) (by kernel_rfl) (fun _ _ _ h => h) (yields_take rfl (fun w' hw => by obtain ⟨h1, h2, h3, h4, h5, h6, h7, h8⟩ := hw.const; go_simp)) hS0.out ?_
                  simp only [Act.put, List.setIfInBounds_toArray, List.set_cons_zero, List.set_cons_succ]
                  refine wpAnyU_take (i := 19) (oi := { dst := some 132, op := _, type := _, pos := _, after := _, guard := none }) (v := .slice (some ⟨bB, oB, none⟩) m' d') rfl (by kernel_rfl) (by kernel_rfl) (by kernel_rfl) (by kernel_rfl) (fun _ _ _ h => h) (yields_take rfl (fun w' hw => by obtain ⟨h1, h2, h3, h4, h5, h6, h7, h8⟩ := hw.const; go_simp)) hS0.out ?_
                  simp only [Act.put, List.setIfInBounds_toArray, List.set_cons_zero, List.set_cons_succ]
                  refine wpAnyU_take (i := 20) (oi := { dst := some 133, op := _, type := _, pos := _, after := _, guard := none }) (v := .int .i64 (i : Int)) rfl (by kernel_rfl) (by kernel_rfl) (by kernel_rfl) (by kernel_rfl) (fun _ _ _ h => h) (yields_take rfl (fun w' hw => by obtain ⟨h1, h2, h3, h4, h5, h6, h7, h8⟩ := hw.const; go_simp)) hS0.out ?_
                  simp only [Act.put, List.setIfInBounds_toArray, List.set_cons_zero, List.set_cons_succ]
                  refine wpAnyU_take (i := 21) (oi := { dst := some 134, op := _, type := _, pos := _, after := _, guard := none }) (v := .pointer (some ⟨w.heap.size + 1, 0, none⟩)) rfl (by kernel_rfl) (by kernel_rfl) (by kernel_rfl) (by kernel_rfl) (fun _ _ _ h => h) (yields_take rfl (fun w' hw => by obtain ⟨h1, h2, h3, h4, h5, h6, h7, h8⟩ := hw.const; go_simp)) hS0.out ?_
                  simp only [Act.put, List.setIfInBounds_toArray, List.set_cons_zero, List.set_cons_succ]
                  refine wpAnyU_take (i := 22) (oi := { dst := some 135, op := _, type := _, pos := _, after := _, guard := none }) (v := .slice (some ⟨bA, oA, none⟩) 4 c') rfl (by kernel_rfl) (by kernel_rfl) (by kernel_rfl) (by kernel_rfl) (fun _ _ _ h => h) (yields_take rfl (fun w' hw => by obtain ⟨h1, h2, h3, h4, h5, h6, h7, h8⟩ := hw.const; go_simp)) hS0.out ?_
                  simp only [Act.put, List.setIfInBounds_toArray, List.set_cons_zero, List.set_cons_succ]
                  refine wpAnyU_take (i := 23) (oi := { dst := some 136, op := _, type := _, pos := _, after := _, guard := none }) (v := .pointer (some ⟨bA, oA + 1, none⟩)) rfl (by kernel_rfl) (by kernel_rfl) (by kernel_rfl) (by kernel_rfl) (fun _ _ _ h => h) (yields_take rfl (fun w' hw => by obtain ⟨h1, h2, h3, h4, h5, h6, h7, h8⟩ := hw.const; go_simp)) hS0.out ?_
                  simp only [Act.put, List.setIfInBounds_toArray, List.set_cons_zero, List.set_cons_succ]
                  refine wpAnyU_take (i := 24) (oi := { dst := some 137, op := _, type := _, pos := _, after := _, guard := none }) (v := .int .i64 (C : Int)) rfl (by kernel_rfl) (by kernel_rfl) (by kernel_rfl) (by kernel_rfl) (fun _ _ _ h => h) (yields_take rfl (fun w' hw => by obtain ⟨h1, h2, h3, h4, h5, h6, h7, h8⟩ := hw.const; go_simp)) hS0.out ?_
                  simp only [Act.put, List.setIfInBounds_toArray, List.set_cons_zero, List.set_cons_succ]
                  refine wpAnyU_take (i := 25) (oi := { dst := some 138, op := _, type := _, pos := _, after := _, guard := none }) (v := .int .i64 (v1 : Int)) rfl (by kernel_rfl) (by kernel_rfl) (by kernel_rfl) (by kernel_rfl) (fun _ _ _ h => h) (yields_take rfl (fun w' hw => by obtain ⟨h1, h2, h3, h4, h5, h6, h7, h8⟩ := hw.const; go_simp)) hS0.out ?_
                  simp only [Act.put, List.setIfInBounds_toArray, List.set_cons_zero, List.set_cons_succ]
                  refine wpAnyU_take (i := 26) (oi := { dst := some 139, op := _, type := _, pos := _, after := _, guard := none }) (v := .pointer (some ⟨w.heap.size + 1, 0, none⟩)) rfl (by kernel_rfl) (by kernel_rfl) (by kernel_rfl) (by kernel_rfl) (fun _ _ _ h => h) (yields_take rfl (fun w' hw => by obtain ⟨h1, h2, h3, h4, h5, h6, h7, h8⟩ := hw.const; go_simp)) hS0.out ?_
                  simp only [Act.put, List.setIfInBounds_toArray, List.set_cons_zero, List.set_cons_succ]
                  refine wpAnyU_take (i := 27) (oi := { dst := some 140, op := _, type := _, pos := _, after := _, guard := none }) (v := .slice (some ⟨bA, oA, none⟩) 4 c') rfl (by kernel_rfl) (by kernel_rfl) (by kernel_rfl) (by kernel_rfl) (fun _ _ _ h => h) (yields_take rfl (fun w' hw => by obtain ⟨h1, h2, h3, h4, h5, h6, h7, h8⟩ := hw.const; go_simp)) hS0.out ?_
                  simp only [Act.put, List.setIfInBounds_toArray, List.set_cons_zero, List.set_cons_succ]
                  refine wpAnyU_take (i := 28) (oi := { dst := some 141, op := _, type := _, pos := _, after := _, guard := none }) (v := .pointer (some ⟨bA, oA + 2, none⟩)) rfl (by kernel_rfl) (by kernel_rfl) (by kernel_rfl) (by kernel_rfl) (fun _ _ _ h => h) (yields_take rfl (fun w' hw => by obtain ⟨h1, h2, h3, h4, h5, h6, h7, h8⟩ := hw.const; go_simp)) hS0.out ?_
                  simp only [Act.put, List.setIfInBounds_toArray, List.set_cons_zero, List.set_cons_succ]
                  refine wpAnyU_take (i := 29) (oi := { dst := some 142, op := _, type := _, pos := _, after := _, guard := none }) (v := .int .i64 (a : Int)) rfl (by kernel_rfl) (by kernel_rfl) (by kernel_rfl) (by kernel_rfl) (fun _ _ _ h => h) (yields_take rfl (fun w' hw => by obtain ⟨h1, h2, h3, h4, h5, h6, h7, h8⟩ := hw.const; go_simp)) hS0.out ?_
                  simp only [Act.put, List.setIfInBounds_toArray, List.set_cons_zero, List.set_cons_succ]
                  refine wpAnyU_take (i := 30) (oi := { dst := some 143, op := _, type := _, pos := _, after := _, guard := none }) (v := .int .i64 (v2 : Int)) rfl (by kernel_rfl) (by kernel_rfl) (by kernel_rfl) (by kernel_rfl) (fun _ _ _ h => h) (yields_take rfl (fun w' hw => by obtain ⟨h1, h2, h3, h4, h5, h6, h7, h8⟩ := hw.const; go_simp)) hS0.out ?_
                  simp only [Act.put, List.setIfInBounds_toArray, List.set_cons_zero, List.set_cons_succ]
                  refine wpAnyU_take (i := 31) (oi := { dst := some 144, op := _, type := _, pos := _, after := _, guard := none }) (v := .pointer (some ⟨w.heap.size + 1, 0, none⟩)) rfl (by kernel_rfl) (by kernel_rfl) (by kernel_rfl) (by kernel_rfl) (fun _ _ _ h => h) (yields_take rfl (fun w' hw => by obtain ⟨h1, h2, h3, h4, h5, h6, h7, h8⟩ := hw.const; go_simp)) hS0.out ?_
                  simp only [Act.put, List.setIfInBounds_toArray, List.set_cons_zero, List.set_cons_succ]
                  refine wpAnyU_take (i := 32) (oi := { dst := some 145, op := _, type := _, pos := _, after := _, guard := none }) (v := .slice (some ⟨bA, oA, none⟩) 4 c') rfl (by kernel_rfl) (by kernel_rfl) (by kernel_rfl) (by kernel_rfl) (fun _ _ _ h => h) (yields_take rfl (fun w' hw => by obtain ⟨h1, h2, h3, h4, h5, h6, h7, h8⟩ := hw.const; go_simp)) hS0.out ?_
                  simp only [Act.put, List.setIfInBounds_toArray, List.set_cons_zero, List.set_cons_succ]
                  refine wpAnyU_take (i := 33) (oi := { dst := some 146, op := _, type := _, pos := _, after := _, guard := none }) (v := .pointer (some ⟨bA, oA + 3, none⟩)) rfl (by kernel_rfl) (by kernel_rfl) (by kernel_rfl) (by kernel_rfl) (fun _ _ _ h => h) (yields_take rfl (fun w' hw => by obtain ⟨h1, h2, h3, h4, h5, h6, h7, h8⟩ := hw.const; go_simp)) hS0.out ?_
                  simp only [Act.put, List.setIfInBounds_toArray, List.set_cons_zero, List.set_cons_succ]
                  refine wpAnyU_take (i := 34) (oi := { dst := some 147, op := _, type := _, pos := _, after := _, guard := none }) (v := .int .i64 (b : Int)) rfl (by kernel_rfl) (by kernel_rfl) (by kernel_rfl) (by kernel_rfl) (fun _ _ _ h => h) (yields_take rfl (fun w' hw => by obtain ⟨h1, h2, h3, h4, h5, h6, h7, h8⟩ := hw.const; go_simp)) hS0.out ?_
                  simp only [Act.put, List.setIfInBounds_toArray, List.set_cons_zero, List.set_cons_succ]
                  refine wpAnyU_take (i := 35) (oi := { dst := some 148, op := _, type := _, pos := _, after := _, guard := none }) (v := .int .i64 (o0 : Int)) rfl (by kernel_rfl) (by kernel_rfl) (by kernel_rfl) (by kernel_rfl) (fun _ _ _ h => h) (yields_take rfl (fun w' hw => by obtain ⟨h1, h2, h3, h4, h5, h6, h7, h8⟩ := hw.const; go_simp)) hS0.out ?_
                  simp only [Act.put, List.setIfInBounds_toArray, List.set_cons_zero, List.set_cons_succ]
                  refine wpAnyU_take (i := 36) (oi := { dst := some 149, op := _, type := _, pos := _, after := _, guard := none }) (v := .int .i64 (j : Int)) rfl (by kernel_rfl) (by kernel_rfl) (by kernel_rfl) (by kernel_rfl) (fun _ _ _ h => h) (yields_take rfl (fun w' hw => by obtain ⟨h1, h2, h3, h4, h5, h6, h7, h8⟩ := hw.const; go_simp)) hS0.out ?_
                  simp only [Act.put, List.setIfInBounds_toArray, List.set_cons_zero, List.set_cons_succ]
                  refine wpAnyU_take (i := 37) (oi := { dst := some 150, op := _, type := _, pos := _, after := _, guard := none }) (v := .int .i64 (q2 : Int)) rfl (by kernel_rfl) (by kernel_rfl) (by kernel_rfl) (by kernel_rfl) (fun _ _ _ h => h) (yields_take rfl (fun w' hw => by obtain ⟨h1, h2, h3, h4, h5, h6, h7, h8⟩ := hw.const; go_simp)) hS0.out ?_
                  simp only [Act.put, List.setIfInBounds_toArray, List.set_cons_zero, List.set_cons_succ]
                  refine wpAnyU_take (i := 38) (oi := { dst := some 151, op := _, type := _, pos := _, after := _, guard := none }) (v := .pointer (some ⟨bB, oB + q2, none⟩)) rfl (by kernel_rfl) (by kernel_rfl) (by kernel_rfl) (by kernel_rfl) (fun _ _ _ h => h) (yields_take rfl (fun w' hw => by obtain ⟨h1, h2, h3, h4, h5, h6, h7, h8⟩ := hw.const; go_simp)) hS0.out ?_
                  simp only [Act.put, List.setIfInBounds_toArray, List.set_cons_zero, List.set_cons_succ]
                  refine wpAnyU_take (i := 39) (oi := { dst := some 152, op := _, type := _, pos := _, after := _, guard := none }) (v := .int .i32 z2) rfl (by kernel_rfl) (by kernel_rfl) (by kernel_rfl) (by kernel_rfl) (fun _ _ _ h => h) (yields_take rfl (fun w' hw => by obtain ⟨h1, h2, h3, h4, h5, h6, h7, h8⟩ := hw.const; go_simp)) hS0.out ?_
                  simp only [Act.put, List.setIfInBounds_toArray, List.set_cons_zero, List.set_cons_succ]
                  refine wpAnyU_one (i := 17) (by kernel_rfl) rfl ?_
                  intro K hK
                  go_simp
                  refine Calls.mono (HAT.out _ hg3) ?_
                  rintro e w9 ⟨rfl, hb9⟩
                  dsimp only
                  have hg4 : Below wm.heap.size wm w9 := hg3.trans (hb9.mono hg3.size)
                  clear hb9
                  have hS1 : Hid (w9.cell? ⟨w.heap.size + 1, 0, none⟩ = some (.slice (some ⟨bA, oA, none⟩) 4 c') ∧ w9.cell? ⟨bA, oA + 1, none⟩ = some (.int .i64 (C : Int)) ∧ w9.cell? ⟨bA, oA + 2, none⟩ = some (.int .i64 (a : Int)) ∧ w9.cell? ⟨bA, oA + 3, none⟩ = some (.int .i64 (b : Int)) ∧ w9.cell? ⟨w.heap.size, 0, none⟩ = some (.slice A 3 c) ∧ w9.cell? ⟨w.heap.size, 1, none⟩ = some (.slice B m d) ∧ w9.cell? ⟨w.heap.size + 1, 1, none⟩ = some (.slice (some ⟨bB, oB, none⟩) m' d') ∧ w9.cell? ⟨bB, oB + q2, none⟩ = some (.int .i32 z2)) := hide (HG24.out _ hg4)
                  refine hK.out _ _ hS1.out (fun _ => ?_)
                  clear hK K hS0
                  refine wpAnyU_take (i := 40) (oi := { dst := some 153, op := _, type := _, pos := _, after := _, guard := none }) (v := .int .i32 z3) rfl (by kernel_rfl) (by kernel_rfl) (by kernel_rfl) (by kernel_rfl) (fun _ _ _ h => h) (yields_take rfl (fun w' hw => by obtain ⟨h1, h2, h3, h4, h5, h6, h7, h8⟩ := hw.const; go_simp)) hS1.out ?_
                  simp only [Act.put, List.setIfInBounds_toArray, List.set_cons_zero, List.set_cons_succ]
                  refine wpAnyU_take (i := 41) (oi := { dst := some 154, op := _, type := _, pos := _, after := _, guard := none }) (v := .int .i32 n1) rfl (by kernel_rfl) (by kernel_rfl) (by kernel_rfl) (by kernel_rfl) (fun _ _ _ h => h) (yields_take rfl (fun w' hw => by obtain ⟨h1, h2, h3, h4, h5, h6, h7, h8⟩ := hw.const; go_simp)) hS1.out ?_
                  simp only [Act.put, List.setIfInBounds_toArray, List.set_cons_zero, List.set_cons_succ]
                  refine wpAnyU_take (i := 42) (oi := { dst := some 16, op := _, type := _, pos := _, after := _, guard := none }) (v := .int .i32 n1) rfl (by kernel_rfl) (by kernel_rfl) (by kernel_rfl) (by kernel_rfl) (fun _ _ _ h => h) (yields_take rfl (fun w' hw => by obtain ⟨h1, h2, h3, h4, h5, h6, h7, h8⟩ := hw.const; go_simp)) hS1.out ?_
                  simp only [Act.put, List.setIfInBounds_toArray, List.set_cons_zero, List.set_cons_succ]
                  refine wpAnyU_done (by kernel_rfl) ?_ _
                  clear hS1
                  have HGN := hide hg4
                  clear hg0 hg1 hg2 hg3 hg4
                  go_wp2
                  go_roundw
                  case rel => exact ⟨j + 1, n1, by omega, by go_num, rfl, HN1, HGN⟩
                  case measure => simp [intOf]; omega
                · obtain rfl : j = nn := by omega
                  have h6 : decide ((j : Int) < (j : Int)) = false := decide_eq_false (by omega)
                  have HND : Hid (zs.getD z 0 = n0) := hide (by rw [HN.out, HOV.out.1, HOV.out.2.1, HZ.out, HZS.out, HYP.out.1, HYP.out.2]; exact winL_at hlti hlty hltx)
                  have HBW2 : Hid (Below wm.heap.size wm wr.drew) := hide hg0
                  go_wp2
                  have hS0 : Hid (wr.drew.cell? ⟨w.heap.size + 1, 0, none⟩ = some (.slice (some ⟨bA, oA, none⟩) 4 c') ∧ wr.drew.cell? ⟨bA, oA + 1, none⟩ = some (.int .i64 (C : Int)) ∧ wr.drew.cell? ⟨bA, oA + 2, none⟩ = some (.int .i64 (a : Int)) ∧ wr.drew.cell? ⟨bA, oA + 3, none⟩ = some (.int .i64 (b : Int))) := hide (HG.out _ hg0)
                  refine wp_region_U (fun _ v => v.cell? ⟨w.heap.size + 1, 0, none⟩ = some (.slice (some ⟨bA, oA, none⟩) 4 c') ∧ v.cell? ⟨bA, oA + 1, none⟩ = some (.int .i64 (C : Int)) ∧ v.cell? ⟨bA, oA + 2, none⟩ = some (.int .i64 (a : Int)) ∧ v.cell? ⟨bA, oA + 3, none⟩ = some (.int .i64 (b : Int))) 99 (by kernel_rfl) ?_
                  refine wpAnyU_take (i := 0) (oi := { dst := some 67, op := _, type := _, pos := _, after := _, guard := none }) (v := .int .i64 (j : Int)) rfl (by kernel_rfl) (by kernel_rfl) (by kernel_rfl) (by kernel_rfl) (fun _ _ _ h => h) (yields_take rfl (fun w' hw => by obtain ⟨h1, h2, h3, h4⟩ := hw.const; go_simp)) hS0.out ?_
                  simp only [Act.put, List.setIfInBounds_toArray, List.set_cons_zero, List.set_cons_succ]
                  refine wpAnyU_take (i := 1) (oi := { dst := some 68, op := _, type := _, pos := _, after := _, guard := none }) (v := .pointer (some ⟨w.heap.size + 1, 0, none⟩)) rfl (by kernel_rfl) (by kernel_rfl) (by kernel_rfl) (by kernel_rfl) (fun _ _ _ h => h) (yields_take rfl (fun w' hw => by obtain ⟨h1, h2, h3, h4⟩ := hw.const; go_simp)) hS0.out ?_
                  simp only [Act.put, List.setIfInBounds_toArray, List.set_cons_zero, List.set_cons_succ]
                  refine wpAnyU_take (i := 2) (oi := { dst := some 69, op := _, type := _, pos := _, after := _, guard := none }) (v := .slice (some ⟨bA, oA, none⟩) 4 c') rfl (by kernel_rfl) (by kernel_rfl) (by kernel_rfl) (by kernel_rfl) (fun _ _ _ h => h) (yields_take rfl (fun w' hw => by obtain ⟨h1, h2, h3, h4⟩ := hw.const; go_simp)) hS0.out ?_
                  simp only [Act.put, List.setIfInBounds_toArray, List.set_cons_zero, List.set_cons_succ]
                  refine wpAnyU_take (i := 3) (oi := { dst := some 70, op := _, type := _, pos := _, after := _, guard := none }) (v := .pointer (some ⟨bA, oA + 1, none⟩)) rfl (by kernel_rfl) (by kernel_rfl) (by kernel_rfl) (by kernel_rfl) (fun _ _ _ h => h) (yields_take rfl (fun w' hw => by obtain ⟨h1, h2, h3, h4⟩ := hw.const; go_simp)) hS0.out ?_
                  simp only [Act.put, List.setIfInBounds_toArray, List.set_cons_zero, List.set_cons_succ]
                  refine wpAnyU_take (i := 4) (oi := { dst := some 71, op := _, type := _, pos := _, after := _, guard := none }) (v := .int .i64 (C : Int)) rfl (by kernel_rfl) (by kernel_rfl) (by kernel_rfl) (by kernel_rfl) (fun _ _ _ h => h) (yields_take rfl (fun w' hw => by obtain ⟨h1, h2, h3, h4⟩ := hw.const; go_simp)) hS0.out ?_
                  simp only [Act.put, List.setIfInBounds_toArray, List.set_cons_zero, List.set_cons_succ]
                  refine wpAnyU_take (i := 5) (oi := { dst := some 72, op := _, type := _, pos := _, after := _, guard := none }) (v := .pointer (some ⟨w.heap.size + 1, 0, none⟩)) rfl (by kernel_rfl) (by kernel_rfl) (by kernel_rfl) (by kernel_rfl) (fun _ _ _ h => h) (yields_take rfl (fun w' hw => by obtain ⟨h1, h2, h3, h4⟩ := hw.const; go_simp)) hS0.out ?_
                  simp only [Act.put, List.setIfInBounds_toArray, List.set_cons_zero, List.set_cons_succ]
                  refine wpAnyU_take (i := 6) (oi := { dst := some 73, op := _, type := _, pos := _, after := _, guard := none }) (v := .slice (some ⟨bA, oA, none⟩) 4 c') rfl (by kernel_rfl) (by kernel_rfl) (by kernel_rfl) (by kernel_rfl) (fun _ _ _ h => h) (yields_take rfl (fun w' hw => by obtain ⟨h1, h2, h3, h4⟩ := hw.const; go_simp)) hS0.out ?_
                  simp only [Act.put, List.setIfInBounds_toArray, List.set_cons_zero, List.set_cons_succ]
                  refine wpAnyU_take (i := 7) (oi := { dst := some 74, op := _, type := _, pos := _, after := _, guard := none }) (v := .pointer (some ⟨bA, oA + 2, none⟩)) rfl (by kernel_rfl) (by kernel_rfl) (by kernel_rfl) (by kernel_rfl) (fun _ _ _ h => h) (yields_take rfl (fun w' hw => by obtain ⟨h1, h2, h3, h4⟩ := hw.const; go_simp)) hS0.out ?_
                  simp only [Act.put, List.setIfInBounds_toArray, List.set_cons_zero, List.set_cons_succ]
                  refine wpAnyU_take (i := 8) (oi := { dst := some 75, op := _, type := _, pos := _, after := _, guard := none }) (v := .int .i64 (a : Int)) rfl (by kernel_rfl) (by kernel_rfl) (by kernel_rfl) (by kernel_rfl) (fun _ _ _ h => h) (yields_take rfl (fun w' hw => by obtain ⟨h1, h2, h3, h4⟩ := hw.const; go_simp)) hS0.out ?_
                  simp only [Act.put, List.setIfInBounds_toArray, List.set_cons_zero, List.set_cons_succ]
                  refine wpAnyU_take (i := 9) (oi := { dst := some 76, op := _, type := _, pos := _, after := _, guard := none }) (v := .int .i64 (ca : Int)) rfl (by kernel_rfl) (by kernel_rfl) (by kernel_rfl) (by kernel_rfl) (fun _ _ _ h => h) (yields_take rfl (fun w' hw => by obtain ⟨h1, h2, h3, h4⟩ := hw.const; go_simp)) hS0.out ?_
                  simp only [Act.put, List.setIfInBounds_toArray, List.set_cons_zero, List.set_cons_succ]
                  refine wpAnyU_take (i := 10) (oi := { dst := some 77, op := _, type := _, pos := _, after := _, guard := none }) (v := .pointer (some ⟨w.heap.size + 1, 0, none⟩)) rfl (by kernel_rfl) (by kernel_rfl) (by kernel_rfl) (by kernel_rfl) (fun _ _ _ h => h) (yields_take rfl (fun w' hw => by obtain ⟨h1, h2, h3, h4⟩ := hw.const; go_simp)) hS0.out ?_
                  simp only [Act.put, List.setIfInBounds_toArray, List.set_cons_zero, List.set_cons_succ]
                  refine wpAnyU_take (i := 11) (oi := { dst := some 78, op := _, type := _, pos := _, after := _, guard := none }) (v := .slice (some ⟨bA, oA, none⟩) 4 c') rfl (by kernel_rfl) (by kernel_rfl) (by kernel_rfl) (by kernel_rfl) (fun _ _ _ h => h) (yields_take rfl (fun w' hw => by obtain ⟨h1, h2, h3, h4⟩ := hw.const; go_simp)) hS0.out ?_
                  simp only [Act.put, List.setIfInBounds_toArray, List.set_cons_zero, List.set_cons_succ]
                  refine wpAnyU_take (i := 12) (oi := { dst := some 79, op := _, type := _, pos := _, after := _, guard := none }) (v := .pointer (some ⟨bA, oA + 3, none⟩)) rfl (by kernel_rfl) (by kernel_rfl) (by kernel_rfl) (by kernel_rfl) (fun _ _ _ h => h) (yields_take rfl (fun w' hw => by obtain ⟨h1, h2, h3, h4⟩ := hw.const; go_simp)) hS0.out ?_
                  simp only [Act.put, List.setIfInBounds_toArray, List.set_cons_zero, List.set_cons_succ]
                  refine wpAnyU_take (i := 13) (oi := { dst := some 80, op := _, type := _, pos := _, after := _, guard := none }) (v := .int .i64 (b : Int)) rfl (by kernel_rfl) (by kernel_rfl) (by kernel_rfl) (by kernel_rfl) (fun _ _ _ h => h) (yields_take rfl (fun w' hw => by obtain ⟨h1, h2, h3, h4⟩ := hw.const; go_simp)) hS0.out ?_
                  simp only [Act.put, List.setIfInBounds_toArray, List.set_cons_zero, List.set_cons_succ]
                  refine wpAnyU_take (i := 14) (oi := { dst := some 81, op := _, type := _, pos := _, after := _, guard := none }) (v := .int .i64 (j : Int)) rfl (by kernel_rfl) (by kernel_rfl) (by kernel_rfl) (by kernel_rfl) (fun _ _ _ h => h) (yields_take rfl (fun w' hw => by obtain ⟨h1, h2, h3, h4⟩ := hw.const; go_simp)) hS0.out ?_
                  simp only [Act.put, List.setIfInBounds_toArray, List.set_cons_zero, List.set_cons_succ]
                  refine wpAnyU_take (i := 15) (oi := { dst := some 82, op := _, type := _, pos := _, after := _, guard := none }) (v := .bool false) rfl (by kernel_rfl) (by kernel_rfl) (by kernel_rfl) (by kernel_rfl) (fun _ _ _ h => h) (yields_take rfl (fun w' hw => by obtain ⟨h1, h2, h3, h4⟩ := hw.const; go_simp)) hS0.out ?_
                  simp only [Act.put, List.setIfInBounds_toArray, List.set_cons_zero, List.set_cons_succ]
                  refine wpAnyU_done (by kernel_rfl) ?_ _
                  clear hS0
                  obtain ⟨wd, hwd⟩ : ∃ wd : World, wd = wr.drew := ⟨_, rfl⟩
                  rw [← hwd] at HBW2
                  have HOE : Hid (OutAt w3 gs kc zs z wd) := hide (HOM.out.kept HBW2.out)
                  generalize hgw : wr.drew = we
                  rw [hgw] at hwd
                  subst hwd
                  clear hgw hg0
                  have hzq : z < zs.length := by rw [HZL.out, HQ.out, HZ.out]; exact place3_lt hlti hlty hltx
                  have hzq4 : z < 4096 := by have := HZL.out; omega
                  obtain ⟨A3, c3, hbx, hown, hbl⟩ := HOE.out
                  have HX : Hid ((wd.alloc (.cells #[.int .i32 n0] 21)).cell? ⟨wd.heap.size, 0, none⟩ = some (.int .i32 n0)) := hide (by have h := cells_new wd [.int .i32 n0] 21 0 _ rfl; rwa [Addr.add_lit] at h)
                  have t0 := hbx.c0
                  have t1 := hbx.c1
                  have HBX := hide hbx
                  have HOW := hide hown
                  have HBL := hide hbl
                  have hltp := hbx.lt
                  clear hbx hown hbl
                  have HZ1 : Hid (z + 1 = (i * Y + y) * X + (x + 1)) := hide (by rw [HZ.out]; rfl)
                  go_wp2_with (at_builtin; with_reducible refine wpList_append_one rfl (.tmp 156) (.tmp 158) 23 rfl 21 i0 (.int .i32 0) 4 Tryz.underlying23 HI.out HZ0.out HZ1x.out HZ2.out rfl (w3.heap.size + 1) A3 z c3 ((zs.take z).map (Value.int .i32)) rfl (HOW.out.alloc _) (by simp; omega) ⟨wd.heap.size, 0, none⟩ (.int .i32 n0) rfl HX.out rfl (by omega) (by unfold maxLen; omega) ?_)
                  intro A4 c4 w4 ho4 hm4
                  have HBX2 : Hid (BoxT (wd.alloc (.cells #[.int .i32 n0] 21)) w3.heap.size (.slice (some ⟨gs, 0, none⟩) 3 kc) (.slice A3 z c3)) := hide (HBX.out.alloc _)
                  have HSTEP : Hid (OutAt w3 gs kc zs (z + 1) (w4.setCell ⟨w3.heap.size, 1, none⟩ (.slice A4 (z + 1) c4))) := hide (out_step HBX2.out (HOW.out.alloc _) (HBL.out.alloc HBL.out.size _) (by rw [List.map_take]; exact ho4) hm4 HND.out hzq)
                  have HB4 : Hid (BoxT w4 w3.heap.size (.slice (some ⟨gs, 0, none⟩) 3 kc) (.slice A3 z c3)) := hide (by
                    rcases hm4 with ⟨_, hg⟩ | ⟨hg, _⟩
                    · exact (hg.block _ HBX2.out.lt (fun e => by have := (HOW.out.lt _ e.symm).1; omega)).trans HBX2.out
                    · exact (hg.block _ HBX2.out.lt (by simp)).trans HBX2.out)
                  have t2 := HB4.out.c1
                  have t3 := HB4.out.f0 1
                  clear ho4 hm4 t0 t1 HX
                  go_wp2
                  go_roundw
                  case rel => exact ⟨x + 1, z + 1, by omega, by go_num, HZ1, HSTEP⟩
                  case measure => simp [intOf]; omega
            · obtain rfl : x = X := by omega
              have h5 : ¬ (x : Int) < (x : Int) := by omega
              have HZ1 : Hid (z = (i * Y + (y + 1)) * x) := hide (by rw [HZ.out, ← Nat.add_assoc, Nat.succ_mul])
              go_wp2
              go_roundw
              case rel => exact ⟨y + 1, z, by omega, by go_num, HZ1, HO⟩
              case measure => simp [intOf]; omega
        · obtain rfl : y = Y := by omega
          have h4 : ¬ (y : Int) < (y : Int) := by omega
          have HZ1 : Hid (z = (i + 1) * y * X) := hide (by rw [HZ.out, Nat.succ_mul])
          go_wp2
          go_roundw
          case rel => exact ⟨i + 1, z, by omega, by go_num, HZ1, HO⟩
          case measure => simp [intOf]; omega
    · obtain rfl : i = O := by omega
      have h3 : ¬ (i : Int) < (i : Int) := by omega
      have hzq : z = q := by rw [HZ.out, HQ.out]
      subst hzq
      obtain ⟨A3, c3, hbx, hown, hbl⟩ := HO.out
      obtain ⟨a0, a1, b0, b1, r0, r1, rf0, rf1⟩ := HC.out _ (HB3.out.trans (hbl.mono HB3.out.size))
      have t0 := hbx.c0
      have t1 := hbx.c1
      have HRr : Hid (BoxT wr (w.heap.size + 2) (.slice none 0 0) (.slice none 0 0)) := hide ((hbl.block _ (by have := HB3.out.size; have := HS0.out; omega)).trans (BoxT.kept (show BoxT W0 (w.heap.size + 2) _ _ from HX2.out) HB3.out))
      have HOW := hide hown
      have HBL := hide hbl
      have hltp := hbx.lt
      clear hbx hown hbl
      go_wp2
      (try simp only [Exit.inBlock, Exit.then])
      refine ret_ten (p := 8) (u := 9) rfl rfl (w.heap.size + 2) _ rfl (HRr.out.set2 _ _) rfl ?_
      have hs0 := HS0.out
      have hB3s := HB3.out.size
      unfold RTen8
      refine ⟨gs, kc, A3, c3, rfl, ?_, ?_, ?_⟩
      · exact lies_set2 (HLS.out.below HBL.out) (by intro b o e; cases e; omega)
      · have h := lies_of_own HOW.out
        rw [List.take_of_length_le (by rw [HZL.out]; exact Nat.le_refl _)] at h
        exact lies_set2 h (by intro b o e; have := (HOW.out.lt b (by rw [e]; rfl)).1; omega)
      · exact ((HB0.out.trans ((HB3.out.trans (HBL.out.mono hB3s)).mono HB0.out.size)).setCell (by dsimp only; omega) _).setCell (by dsimp only; omega) _

end Go.Proofs.YtgkilankaknfcaaGreatDoor
