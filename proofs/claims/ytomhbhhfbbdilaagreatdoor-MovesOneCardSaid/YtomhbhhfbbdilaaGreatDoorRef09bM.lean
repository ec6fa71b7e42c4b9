/- The document's answers of layer 9: Shape. -/
import Derived.Test.YtomhbhhfbbdilaaGreatDoorRef09M
import Derived.Test.YtomhbhhfbbdilaaGreatDoorWB
namespace Go.Proofs.YtomhbhhfbbdilaaGreatDoor
open Go.RowKit
set_option linter.unusedVariables false
set_option linter.unusedSimpArgs false
set_option maxRecDepth 100000

theorem nil_lies9 (w : World) (k : IntKind) : Lies w none 0 (([] : List Int).map (Value.int k)) := ⟨rfl, fun h => absurd h (by omega)⟩

theorem rcheck9_any (A : Option Addr) (n c : Nat) (xs : List Int) (w : World) (hA : Lies w A n (xs.map (Value.int .i64))) (hn : n ≤ 281474976710656) :
    Calls Tryz.prog 118 #[.slice A n c] w fun e w' => e = .returned (.bool (decide (0 < sizeI xs))) ∧ Below w.heap.size w w' :=
  (rcheck_any A n c xs w hA hn).mono fun e w' h => ⟨h.1, by rw [← h.2]; exact Below.refl _ _⟩

theorem rsize9_any (A : Option Addr) (n c : Nat) (xs : List Int) (w : World) (hA : Lies w A n (xs.map (Value.int .i64))) (hn : n ≤ 281474976710656) :
    Calls Tryz.prog 119 #[.slice A n c] w fun e w' => e = .returned (.int .i64 (sizeI xs)) ∧ Below w.heap.size w w' :=
  (rsize_any A n c xs w hA hn).mono fun e w' h => ⟨h.1, by rw [← h.2]; exact Below.refl _ _⟩

theorem lies_set9 {w : World} {A : Option Addr} {n : Nat} {xs : List Value} (h : Lies w A n xs) {a : Addr} (ha : ∀ b o, A = some ⟨b, o, none⟩ → b ≠ a.block) (v : Value) : Lies (w.setCell a v) A n xs :=
  h.keep (by simp) (fun b o e1 hb j => World.cell?_of_block (Below.heap_setCell _ _ _ _ (ha b o e1)))

theorem box_apart9 {w : World} {p n : Nat} {A X Y : Option Addr} {x1 x2 y1 y2 : Nat} {k : IntKind} {xs : List Int} (hx : BoxT w p (.slice X x1 x2) (.slice Y y1 y2)) (h : Lies w A n (xs.map (Value.int k))) (hn : 0 < n) : ∀ b o, A = some ⟨b, o, none⟩ → b ≠ p := by
  intro b o e1 e2
  obtain ⟨b', o', e3, _, hc⟩ := h.cells hn
  rw [e1] at e3
  cases e3
  subst e2
  have hl : 0 < xs.length := by have := h.len; simp at this; omega
  have h0 := hc 0 hn
  have hx' : w.heap[b]? = some (.cells #[.slice X x1 x2, .slice Y y1 y2] 60 (0, 0)) := hx
  have e4 : (xs.map (Value.int k)).getD 0 undef = .int k (xs[0]) := by simp [List.getD, hl]
  match o, h0 with
  | 0, h0 => rw [hx.c0] at h0; simp [hl] at h0
  | 1, h0 => rw [hx.c1] at h0; simp [hl] at h0
  | o + 2, h0 => simp [World.cell?, hx', hl] at h0

theorem lies_aside9 {w : World} {p n : Nat} {A X Y : Option Addr} {x1 x2 y1 y2 : Nat} {k : IntKind} {xs : List Int} (hx : BoxT w p (.slice X x1 x2) (.slice Y y1 y2)) (h : Lies w A n (xs.map (Value.int k))) (u v : Value) :
    Lies ((w.setCell ⟨p, 0, none⟩ u).setCell ⟨p, 1, none⟩ v) A n (xs.map (Value.int k)) := by
  by_cases hn : 0 < n
  · have ha := box_apart9 hx h hn
    exact lies_set9 (lies_set9 h ha _) ha _
  · exact ⟨h.len, fun h0 => absurd h0 hn⟩

set_option maxHeartbeats 4000000 in
theorem rmshape9_any (A B A' : Option Addr) (n c m d n' c' : Nat) (s l s' : List Int) (w : World) (hA : Lies w A n (s.map (Value.int .i64))) (hB : Lies w B m (l.map (Value.int .i32))) (hA' : Lies w A' n' (s'.map (Value.int .i64))) (hn : n ≤ 281474976710656) (hn' : n' ≤ 281474976710656) :
    Calls Tryz.prog 30 #[tenV A n c B m d, .slice A' n' c'] w fun e w' => ∃ A1 k1 c1 A2 k2 c2, e = .returned (.tuple #[tenV A1 k1 c1 A2 k2 c2, .int .i64 (msE s m s')]) ∧
      Lies w' A1 k1 ((msS s m s').map (Value.int .i64)) ∧ Lies w' A2 k2 ((msL s m s' l).map (Value.int .i32)) ∧ Below w.heap.size w w' := by
  obtain ⟨W0, hW0⟩ : ∃ W0, W0 = (w.alloc (.cells #[.slice A n c, .slice B m d] 60)).alloc (.cells #[.slice none 0 0, .slice none 0 0] 60) := ⟨_, rfl⟩
  have HB0 : Hid (Below w.heap.size w W0) := hide (by rw [hW0]; exact ((Below.refl w.heap.size w).alloc (Nat.le_refl _) _).alloc (by simp only [World.size_alloc]; omega) _)
  have hs0 : W0.heap.size = w.heap.size + 2 := by rw [hW0]; simp
  have HX0 : Hid (BoxT W0 w.heap.size (.slice A n c) (.slice B m d)) := hide (by rw [hW0]; exact (BoxT.new w _ _).alloc _)
  have HXR : Hid (BoxT W0 (w.heap.size + 1) (.slice none 0 0) (.slice none 0 0)) := hide (by
    rw [hW0]
    have h := BoxT.new (w.alloc (.cells #[.slice A n c, .slice B m d] 60)) (.slice none 0 0) (.slice none 0 0)
    rwa [World.size_alloc] at h)
  have hW0' := hW0.symm
  clear hW0
  have HA := hide (hA.below HB0.out)
  have HB := hide (hB.below HB0.out)
  have HA' := hide (hA'.below HB0.out)
  have HLL : Hid (s'.length = n') := hide (lies_len9 hA')
  clear hA hB hA'
  obtain ⟨E, hE⟩ : ∃ z, z = msE s m s' := ⟨_, rfl⟩
  rw [← hE]
  have HE := hide hE
  clear hE
  have a0 := HX0.out.c0
  have a1 := HX0.out.c1
  go_enter Tryz.func30, Tryz.ntmps30
  go_wp2_with fail
  refine Calls.mono (rtcheck_any A B n c m d s _ HA.out hn) ?_
  rintro e w1 ⟨rfl, hb1⟩
  clear a0 a1
  have HB1 := hide hb1
  clear hb1
  by_cases hok : tenOk s m = true
  rotate_left
  · have hno : tenOk s m = false := by simpa using hok
    rw [hno]
    have HEE : E = 1 := by rw [HE.out, msE, if_neg (fun h => hok h.1)]
    have r0 := (HXR.out.kept HB1.out).c0
    have r1 := (HXR.out.kept HB1.out).c1
    have rf0 := (HXR.out.kept HB1.out).f0 0
    have rf1 := (HXR.out.kept HB1.out).f0 1
    have HBB := hide (HB0.out.trans (HB1.out.mono (by omega)))
    have HXF := hide (HXR.out.kept HB1.out)
    go_wp2
    (try simp only [Exit.inBlock, Exit.then])
    refine ret_ten (p := 4) (u := 5) rfl rfl (w.heap.size + 1) _ rfl (HXF.out.set2 _ _) rfl ?_
    have hne : ¬ E = 0 := by omega
    exact ⟨none, 0, 0, none, 0, 0, by rw [HEE]; rfl, by rw [msS, if_neg (by rw [← HE.out]; exact hne)]; exact nil_lies9 _ _, by rw [msL, if_neg (by rw [← HE.out]; exact hne)]; exact nil_lies9 _ _, (HBB.out.setCell (by dsimp only; omega) _).setCell (by dsimp only; omega) _⟩
  rw [hok]
  have HOK := hide hok
  clear hok
  have a0 := (HX0.out.kept HB1.out).c0
  have a1 := (HX0.out.kept HB1.out).c1
  go_wp2_with fail
  refine Calls.mono (rcheck9_any A' n' c' s' _ (HA'.out.below HB1.out) hn') ?_
  rintro e w2 ⟨rfl, hb20⟩
  have HB2 := hide (below_nx6 HB1.out hb20)
  clear hb20 a0 a1
  by_cases hz : 0 < sizeI s'
  rotate_left
  · have HZ := hide hz
    rw [decide_eq_false hz]
    clear hz
    have HEE : E = 1 := by rw [HE.out, msE, if_neg (fun h => HZ.out h.2)]
    have r0 := (HXR.out.kept HB2.out).c0
    have r1 := (HXR.out.kept HB2.out).c1
    have rf0 := (HXR.out.kept HB2.out).f0 0
    have rf1 := (HXR.out.kept HB2.out).f0 1
    have HBB := hide (HB0.out.trans (HB2.out.mono (by omega)))
    have HXF := hide (HXR.out.kept HB2.out)
    go_wp2
    (try simp only [Exit.inBlock, Exit.then])
    refine ret_ten (p := 4) (u := 5) rfl rfl (w.heap.size + 1) _ rfl (HXF.out.set2 _ _) rfl ?_
    have hne : ¬ E = 0 := by omega
    exact ⟨none, 0, 0, none, 0, 0, by rw [HEE]; rfl, by rw [msS, if_neg (by rw [← HE.out]; exact hne)]; exact nil_lies9 _ _, by rw [msL, if_neg (by rw [← HE.out]; exact hne)]; exact nil_lies9 _ _, (HBB.out.setCell (by dsimp only; omega) _).setCell (by dsimp only; omega) _⟩
  rw [decide_eq_true hz]
  have HZ := hide hz
  clear hz
  obtain ⟨Z, hZ⟩ : ∃ z, z = sizeI s' := ⟨_, rfl⟩
  have HZV := hide hZ
  clear hZ
  have HC : Hid (∀ v, Below w2.heap.size w2 v → v.cell? ⟨w.heap.size, 1, none⟩ = some (.slice B m d)) := hide (fun v hv => (HX0.out.kept (below_nx6 HB2.out hv)).c1)
  have hd0 : Below w2.heap.size w2 w2.drew := below_drewN (Below.refl _ _) 1
  go_wp2
  by_cases hq : Z = (m : Int)
  rotate_left
  · have e1 : (Z == (m : Int)) = false := by simpa using hq
    have hS0 : Hid (w2.drew.cell? ⟨w.heap.size, 1, none⟩ = some (.slice B m d)) := hide (HC.out _ hd0)
    refine wp_region_U (fun _ v => v.cell? ⟨w.heap.size, 1, none⟩ = some (.slice B m d)) 99 (by kernel_rfl) ?_
    refine wpAnyU_take (i := 0) (oi := { dst := some 15, op := _, type := _, pos := _, after := _, guard := none }) (v := .slice A' n' c') rfl (by kernel_rfl) (by kernel_rfl) (by kernel_rfl) (by kernel_rfl) (fun _ _ _ h => h) (yields_take rfl (fun w' hw => by have h1 := hw.const; go_simp)) hS0.out ?_
    simp only [Act.put, List.setIfInBounds_toArray, List.set_cons_zero, List.set_cons_succ]
    refine wpAnyU_take (i := 2) (oi := { dst := some 17, op := _, type := _, pos := _, after := _, guard := none }) (v := .pointer (some ⟨w.heap.size, 1, none⟩)) rfl (by kernel_rfl) (by kernel_rfl) (by kernel_rfl) (by kernel_rfl) (fun _ _ _ h => h) (yields_take rfl (fun w' hw => by have h1 := hw.const; go_simp)) hS0.out ?_
    simp only [Act.put, List.setIfInBounds_toArray, List.set_cons_zero, List.set_cons_succ]
    refine wpAnyU_take (i := 3) (oi := { dst := some 18, op := _, type := _, pos := _, after := _, guard := none }) (v := .slice B m d) rfl (by kernel_rfl) (by kernel_rfl) (by kernel_rfl) (by kernel_rfl) (fun _ _ _ h => h) (yields_take rfl (fun w' hw => by have h1 := hw.const; go_simp)) hS0.out ?_
    simp only [Act.put, List.setIfInBounds_toArray, List.set_cons_zero, List.set_cons_succ]
    refine wpAnyU_take (i := 4) (oi := { dst := some 19, op := _, type := _, pos := _, after := _, guard := none }) (v := .int .i64 (m : Int)) rfl (by kernel_rfl) (by kernel_rfl) (by kernel_rfl) (by kernel_rfl) (fun _ _ _ h => h) (yields_take rfl (fun w' hw => by have h1 := hw.const; go_simp)) hS0.out ?_
    simp only [Act.put, List.setIfInBounds_toArray, List.set_cons_zero, List.set_cons_succ]
    refine wpAnyU_one (i := 1) (by kernel_rfl) rfl ?_
    intro K hK
    go_simp
    refine Calls.mono (rsize9_any A' n' c' s' _ (HA'.out.below (below_nx6 HB2.out hd0)) hn') ?_
    rintro e w3 ⟨rfl, hb⟩
    dsimp only
    have hd3 : Below w2.heap.size w2 w3 := below_nx6 hd0 hb
    clear hb
    have hS1 : Hid (w3.cell? ⟨w.heap.size, 1, none⟩ = some (.slice B m d)) := hide (HC.out _ hd3)
    refine hK.out _ _ hS1.out (fun _ => ?_)
    clear hK K hS0
    rw [← HZV.out]
    refine wpAnyU_take (i := 5) (oi := { dst := some 20, op := _, type := _, pos := _, after := _, guard := none }) (v := .bool true) rfl (by kernel_rfl) (by kernel_rfl) (by kernel_rfl) (by kernel_rfl) (fun _ _ _ h => h) (yields_take rfl (fun w' hw => by have h1 := hw.const; go_simp)) hS1.out ?_
    simp only [Act.put, List.setIfInBounds_toArray, List.set_cons_zero, List.set_cons_succ]
    refine wpAnyU_done (by kernel_rfl) ?_ _
    clear hS1
    have HB3 := hide (below_nx6 HB2.out hd3)
    have HQ := hide hq
    clear hd0 hd3 hq
    have HEE : E = 10 := by rw [HE.out, msE, if_pos ⟨HOK.out, HZ.out⟩, if_neg (by rw [← HZV.out]; exact HQ.out)]
    have r0 := (HXR.out.kept HB3.out).c0
    have r1 := (HXR.out.kept HB3.out).c1
    have rf0 := (HXR.out.kept HB3.out).f0 0
    have rf1 := (HXR.out.kept HB3.out).f0 1
    have HBB := hide (HB0.out.trans (HB3.out.mono (by omega)))
    have HXF := hide (HXR.out.kept HB3.out)
    go_wp2
    (try simp only [Exit.inBlock, Exit.then])
    refine ret_ten (p := 4) (u := 5) rfl rfl (w.heap.size + 1) _ rfl (HXF.out.set2 _ _) rfl ?_
    have hne : ¬ E = 0 := by omega
    exact ⟨none, 0, 0, none, 0, 0, by rw [HEE]; rfl, by rw [msS, if_neg (by rw [← HE.out]; exact hne)]; exact nil_lies9 _ _, by rw [msL, if_neg (by rw [← HE.out]; exact hne)]; exact nil_lies9 _ _, (HBB.out.setCell (by dsimp only; omega) _).setCell (by dsimp only; omega) _⟩
  have e1 : (Z == (m : Int)) = true := by simpa using hq
  have hS0 : Hid (w2.drew.cell? ⟨w.heap.size, 1, none⟩ = some (.slice B m d)) := hide (HC.out _ hd0)
  refine wp_region_U (fun _ v => v.cell? ⟨w.heap.size, 1, none⟩ = some (.slice B m d)) 99 (by kernel_rfl) ?_
  refine wpAnyU_take (i := 0) (oi := { dst := some 15, op := _, type := _, pos := _, after := _, guard := none }) (v := .slice A' n' c') rfl (by kernel_rfl) (by kernel_rfl) (by kernel_rfl) (by kernel_rfl) (fun _ _ _ h => h) (yields_take rfl (fun w' hw => by have h1 := hw.const; go_simp)) hS0.out ?_
  simp only [Act.put, List.setIfInBounds_toArray, List.set_cons_zero, List.set_cons_succ]
  refine wpAnyU_take (i := 2) (oi := { dst := some 17, op := _, type := _, pos := _, after := _, guard := none }) (v := .pointer (some ⟨w.heap.size, 1, none⟩)) rfl (by kernel_rfl) (by kernel_rfl) (by kernel_rfl) (by kernel_rfl) (fun _ _ _ h => h) (yields_take rfl (fun w' hw => by have h1 := hw.const; go_simp)) hS0.out ?_
  simp only [Act.put, List.setIfInBounds_toArray, List.set_cons_zero, List.set_cons_succ]
  refine wpAnyU_take (i := 3) (oi := { dst := some 18, op := _, type := _, pos := _, after := _, guard := none }) (v := .slice B m d) rfl (by kernel_rfl) (by kernel_rfl) (by kernel_rfl) (by kernel_rfl) (fun _ _ _ h => h) (yields_take rfl (fun w' hw => by have h1 := hw.const; go_simp)) hS0.out ?_
  simp only [Act.put, List.setIfInBounds_toArray, List.set_cons_zero, List.set_cons_succ]
  refine wpAnyU_take (i := 4) (oi := { dst := some 19, op := _, type := _, pos := _, after := _, guard := none }) (v := .int .i64 (m : Int)) rfl (by kernel_rfl) (by kernel_rfl) (by kernel_rfl) (by kernel_rfl) (fun _ _ _ h => h) (yields_take rfl (fun w' hw => by have h1 := hw.const; go_simp)) hS0.out ?_
  simp only [Act.put, List.setIfInBounds_toArray, List.set_cons_zero, List.set_cons_succ]
  refine wpAnyU_one (i := 1) (by kernel_rfl) rfl ?_
  intro K hK
  go_simp
  refine Calls.mono (rsize9_any A' n' c' s' _ (HA'.out.below (below_nx6 HB2.out hd0)) hn') ?_
  rintro e w3 ⟨rfl, hb⟩
  dsimp only
  have hd3 : Below w2.heap.size w2 w3 := below_nx6 hd0 hb
  clear hb
  have hS1 : Hid (w3.cell? ⟨w.heap.size, 1, none⟩ = some (.slice B m d)) := hide (HC.out _ hd3)
  refine hK.out _ _ hS1.out (fun _ => ?_)
  clear hK K hS0
  rw [← HZV.out]
  refine wpAnyU_take (i := 5) (oi := { dst := some 20, op := _, type := _, pos := _, after := _, guard := none }) (v := .bool false) rfl (by kernel_rfl) (by kernel_rfl) (by kernel_rfl) (by kernel_rfl) (fun _ _ _ h => h) (yields_take rfl (fun w' hw => by have h1 := hw.const; go_simp)) hS1.out ?_
  simp only [Act.put, List.setIfInBounds_toArray, List.set_cons_zero, List.set_cons_succ]
  refine wpAnyU_done (by kernel_rfl) ?_ _
  clear hS1
  have HB3 := hide (below_nx6 HB2.out hd3)
  have hEE : E = 0 := by rw [HE.out]; exact msE_iff.2 ⟨HOK.out, HZ.out, by rw [← HZV.out]; exact hq⟩
  clear hd0 hd3 e1 HC
  obtain ⟨hz1, hz4, _⟩ := sizeI_pos HZ.out
  rw [HLL.out] at hz1 hz4
  have hm4 := sizeI_le s'
  have hZV := HZV.out
  have hmp : 0 < m := by have := HZ.out; omega
  have hm4' : m ≤ 4096 := by omega
  clear hq hm4 hZV
  have HC : Hid (∀ v, Below W0.heap.size W0 v → v.cell? ⟨w.heap.size, 1, none⟩ = some (.slice B m d) ∧ BoxT v (w.heap.size + 1) (.slice none 0 0) (.slice none 0 0)) := hide (fun v hv => ⟨(HX0.out.kept hv).c1, HXR.out.kept hv⟩)
  obtain ⟨bA9, oA9, rfl, _, _⟩ := byte_at HA'.out (by omega)
  obtain ⟨bB9, oB9, rfl, _, _⟩ := byte_at HB.out (by omega)
  have HNA : Hid ((some ⟨bA9, oA9, none⟩ : Option Addr) = none → c' = 0) := hide (fun h => by cases h)
  have HNB : Hid ((some ⟨bB9, oB9, none⟩ : Option Addr) = none → d = 0) := hide (fun h => by cases h)
  obtain ⟨iI, hi0, hi1, hi2, hi3⟩ := info_parts Tryz.infoI
  have HiI := hide (And.intro hi0 (And.intro hi1 (And.intro hi2 hi3)))
  obtain ⟨iN, hj0, hj1, hj2, hj3⟩ := info_parts infoN9
  have HiN := hide (And.intro hj0 (And.intro hj1 (And.intro hj2 hj3)))
  clear hi0 hi1 hi2 hi3 hj0 hj1 hj2 hj3
  have he0 := HB3.out
  go_wp2
  have hS0 : Hid (w3.drew.cell? ⟨w.heap.size, 1, none⟩ = some (.slice (some ⟨bB9, oB9, none⟩) m d)) := hide ((HC.out _ (below_drewN he0 1)).1)
  refine wp_region_U (fun _ v => v.cell? ⟨w.heap.size, 1, none⟩ = some (.slice (some ⟨bB9, oB9, none⟩) m d)) 99 (by kernel_rfl) ?_
  refine wpAnyU_take (i := 0) (oi := { dst := some 22, op := _, type := _, pos := _, after := _, guard := none }) (v := .slice (some ⟨bA9, oA9, none⟩) n' c') rfl (by kernel_rfl) (by kernel_rfl) (by kernel_rfl) (by kernel_rfl) (fun _ _ _ h => h) (yields_take rfl (fun w' hw => by have h1 := hw.const; go_simp)) hS0.out ?_
  simp only [Act.put, List.setIfInBounds_toArray, List.set_cons_zero, List.set_cons_succ]
  refine wpAnyU_take (i := 2) (oi := { dst := some 24, op := _, type := _, pos := _, after := _, guard := none }) (v := .pointer (some ⟨w.heap.size, 1, none⟩)) rfl (by kernel_rfl) (by kernel_rfl) (by kernel_rfl) (by kernel_rfl) (fun _ _ _ h => h) (yields_take rfl (fun w' hw => by have h1 := hw.const; go_simp)) hS0.out ?_
  simp only [Act.put, List.setIfInBounds_toArray, List.set_cons_zero, List.set_cons_succ]
  refine wpAnyU_take (i := 3) (oi := { dst := some 25, op := _, type := _, pos := _, after := _, guard := none }) (v := .slice (some ⟨bB9, oB9, none⟩) m d) rfl (by kernel_rfl) (by kernel_rfl) (by kernel_rfl) (by kernel_rfl) (fun _ _ _ h => h) (yields_take rfl (fun w' hw => by have h1 := hw.const; go_simp)) hS0.out ?_
  simp only [Act.put, List.setIfInBounds_toArray, List.set_cons_zero, List.set_cons_succ]
  generalize hU0 : w3.drew = U0
  have he : Below W0.heap.size W0 U0 := by rw [← hU0]; exact below_drewN he0 1
  rw [hU0] at hS0
  clear hU0 he0
  refine wpAnyU_one (i := 1) (by kernel_rfl) rfl ?_
  intro K hK
  refine step_append_src (w := U0) rfl (.const (.slice none 0 0)) (.tmp 22) 31 rfl 3 iI (.int .i64 0) 8 Tryz.underlying31 HiI.out.1 HiI.out.2.1 HiI.out.2.2.1 HiI.out.2.2.2 rfl U0.heap.size (.slice none 0 0) 0 [] (by simp [Act.eval]) (World.ownsRow_nil _ _ _ _) (Nat.le_refl _) (some ⟨bA9, oA9, none⟩) n' c' (s'.map (Value.int .i64)) (by simp [Act.eval]) (HA'.out.below he) HNA.out (ints_one _ _) (by omega) (by unfold maxLen; omega) ?_
  intro q1 k1 U1 ho hg
  have hb : Below U0.heap.size U0 U1 := (Below.refl _ _).grown hg (Nat.le_refl _) (by simp [Value.ownBlock])
  have FC1 : Lies U1 q1 n' (s'.map (Value.int .i64)) := by have h := lies_of_own ho; simpa using h
  clear ho hg
  replace he : Below W0.heap.size W0 U1 := below_nx6 he hb
  clear hb
  have hS1 : Hid (U1.cell? ⟨w.heap.size, 1, none⟩ = some (.slice (some ⟨bB9, oB9, none⟩) m d)) := hide ((HC.out _ he).1)
  refine hK _ _ hS1.out (fun _ => ?_)
  clear hK K hS0
  refine wpAnyU_one (i := 4) (by kernel_rfl) rfl ?_
  intro K hK
  simp only [Act.put, List.setIfInBounds_toArray, List.set_cons_zero, List.set_cons_succ]
  refine step_append_src (w := U1) rfl (.const (.slice none 0 0)) (.tmp 25) 58 rfl 21 iN (.int .i32 0) 4 Tryz.underlying58 HiN.out.1 HiN.out.2.1 HiN.out.2.2.1 HiN.out.2.2.2 rfl U1.heap.size (.slice none 0 0) 0 [] (by simp [Act.eval]) (World.ownsRow_nil _ _ _ _) (Nat.le_refl _) (some ⟨bB9, oB9, none⟩) m d (l.map (Value.int .i32)) (by simp [Act.eval]) (HB.out.below he) HNB.out (ints_one _ _) (by omega) (by unfold maxLen; omega) ?_
  intro q2 k2 U2 ho hg
  have hb : Below U1.heap.size U1 U2 := (Below.refl _ _).grown hg (Nat.le_refl _) (by simp [Value.ownBlock])
  have FC2 : Lies U2 q2 m (l.map (Value.int .i32)) := by have h := lies_of_own ho; simpa using h
  clear ho hg
  replace FC1 := FC1.below hb
  replace he : Below W0.heap.size W0 U2 := below_nx6 he hb
  clear hb
  have hS2 : Hid (U2.cell? ⟨w.heap.size, 1, none⟩ = some (.slice (some ⟨bB9, oB9, none⟩) m d)) := hide ((HC.out _ he).1)
  refine hK _ _ hS2.out (fun _ => ?_)
  clear hK K hS1
  refine wpAnyU_take (i := 5) (oi := { dst := some 27, op := _, type := _, pos := _, after := _, guard := none }) (v := .agg #[.slice q1 n' k1, .slice q2 m k2]) rfl (by kernel_rfl) (by kernel_rfl) (by kernel_rfl) (by kernel_rfl) (fun _ _ _ h => h) (yields_take rfl (fun w' hw => by have h1 := hw.const; go_simp)) hS2.out ?_
  simp only [Act.put, List.setIfInBounds_toArray, List.set_cons_zero, List.set_cons_succ]
  have HXF := hide (HXR.out.kept he)
  have r0 := HXF.out.c0
  have r1 := HXF.out.c1
  have rf0 := HXF.out.f0 0
  have rf1 := HXF.out.f0 1
  have HF1 := hide FC1
  have HF2 := hide FC2
  have hW1 : W0.heap.size ≤ U2.heap.size := he.size
  have HBF : Hid (Below w.heap.size w U2) := hide (HB0.out.trans (he.mono (by omega)))
  refine wpAnyU_one (i := 6) (by kernel_rfl) rfl ?_
  intro K hK
  go_simp
  have hS3 : Hid (((U2.setCell ⟨w.heap.size + 1, 0, none⟩ (.slice q1 n' k1)).setCell ⟨w.heap.size + 1, 1, none⟩ (.slice q2 m k2)).cell? ⟨w.heap.size, 1, none⟩ = some (.slice (some ⟨bB9, oB9, none⟩) m d)) := hide ((World.cell?_of_block ((Below.heap_setCell _ _ _ _ (by dsimp only; omega)).trans (Below.heap_setCell _ _ _ _ (by dsimp only; omega)))).trans (HC.out _ he).1)
  refine hK.out _ _ hS3.out (fun _ => ?_)
  clear hK K hS2
  refine wpAnyU_take (i := 7) (oi := { dst := some 5, op := _, type := _, pos := _, after := _, guard := none }) (v := .int .i64 0) rfl (by kernel_rfl) (by kernel_rfl) (by kernel_rfl) (by kernel_rfl) (fun _ _ _ h => h) (yields_take rfl (fun w' hw => by have h1 := hw.const; go_simp)) hS3.out ?_
  simp only [Act.put, List.setIfInBounds_toArray, List.set_cons_zero, List.set_cons_succ]
  refine wpAnyU_done (by kernel_rfl) ?_ _
  clear hS3
  go_wp2
  (try simp only [Exit.inBlock, Exit.then])
  refine ret_ten (p := 4) (u := 5) rfl rfl (w.heap.size + 1) _ rfl (HXF.out.set2 _ _) rfl ?_
  have hE0 : msE s m s' = 0 := by rw [← HE.out]; exact hEE
  exact ⟨_, _, _, _, _, _, by rw [hEE]; rfl, by rw [msS, if_pos hE0]; exact lies_aside9 HXF.out HF1.out _ _, by rw [msL, if_pos hE0]; exact lies_aside9 HXF.out HF2.out _ _, (HBF.out.setCell (by dsimp only; omega) _).setCell (by dsimp only; omega) _⟩

end Go.Proofs.YtomhbhhfbbdilaaGreatDoor
