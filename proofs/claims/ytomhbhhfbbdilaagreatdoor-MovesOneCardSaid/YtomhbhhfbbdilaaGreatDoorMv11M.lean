/- Contract of moves.Turn: another order of the directions, or refused. -/
import Derived.Test.YtomhbhhfbbdilaaGreatDoorMv10M
namespace Go.Proofs.YtomhbhhfbbdilaaGreatDoor
open Go.RowKit
set_option linter.unusedVariables false
set_option linter.unusedSimpArgs false
set_option maxRecDepth 100000

theorem pick_prod {s u : List Int} {n : Nat} (hl : s.length = n) (h : ordOk u n = true) (hn : n ≤ 4) : prodZ (pickL s u) = prodZ s := by
  obtain ⟨hul, hm⟩ := ordOk_iff.1 h
  match n, s, hl, u, hul with
  | 0, [], _, [], _ => rfl
  | 1, [x0], _, [a], _ =>
    have h0 := hm 0 (by omega)
    simp at h0
    subst h0
    simp [pickL]
  | 2, [x0, x1], _, [a, b], _ =>
    have h0 := hm 0 (by omega)
    have h1 := hm 1 (by omega)
    simp at h0 h1
    rcases h0 with h0 | h0 <;> rcases h1 with h1 | h1 <;> first | (exfalso; omega) | (subst h0 h1; simp [pickL, prodZ, Int.mul_comm, Int.mul_left_comm, Int.mul_assoc])
  | 3, [x0, x1, x2], _, [a, b, c], _ =>
    have h0 := hm 0 (by omega)
    have h1 := hm 1 (by omega)
    have h2 := hm 2 (by omega)
    simp at h0 h1 h2
    rcases h0 with h0 | h0 | h0 <;> rcases h1 with h1 | h1 | h1 <;> rcases h2 with h2 | h2 | h2 <;> first | (exfalso; omega) | (subst h0 h1 h2; simp [pickL, prodZ, Int.mul_comm, Int.mul_left_comm, Int.mul_assoc])
  | 4, [x0, x1, x2, x3], _, [a, b, c, d], _ =>
    have h0 := hm 0 (by omega)
    have h1 := hm 1 (by omega)
    have h2 := hm 2 (by omega)
    have h3 := hm 3 (by omega)
    simp at h0 h1 h2 h3
    rcases h0 with h0 | h0 | h0 | h0 <;> rcases h1 with h1 | h1 | h1 | h1 <;> first | (exfalso; omega) | (rcases h2 with h2 | h2 | h2 | h2 <;> first | (exfalso; omega) | (rcases h3 with h3 | h3 | h3 | h3 <;> first | (exfalso; omega) | (subst h0 h1 h2 h3; simp [pickL, prodZ, Int.mul_comm, Int.mul_left_comm, Int.mul_assoc])))
  | n + 5, _, _, _, _ => omega

theorem pick_size {s u : List Int} {n : Nat} (hl : s.length = n) (h : ordOk u n = true) (hn : n ≤ 4) : sizeI (pickL s u) = sizeI s := by
  unfold sizeI
  rw [pick_prod hl h hn, pickL_len, (ordOk_iff.1 h).1, hl]

/-- What moves.Turn answers. -/
def tuE (s : List Int) (m : Nat) (u : List Int) : Int := if tenOk s m = true ∧ ordOk u s.length = true then 0 else 1

def turnL (s l u : List Int) (m : Nat) : List Int := (List.range m).map fun k => l.getD (trN s (pickL s u) u k s.length) 0

def tuS (s : List Int) (m : Nat) (u : List Int) : List Int := if tuE s m u = 0 then pickL s u else []

def tuL (s : List Int) (m : Nat) (l u : List Int) : List Int := if tuE s m u = 0 then turnL s l u m else []

theorem turnL_len (s l u : List Int) (m : Nat) : (turnL s l u m).length = m := by simp [turnL]

theorem turnL_at {s l u : List Int} {m k : Nat} (h : k < m) : (turnL s l u m).getD k 0 = l.getD (trN s (pickL s u) u k s.length) 0 := by
  simp [turnL, List.getD, h]

theorem tuE_iff {s : List Int} {m : Nat} {u : List Int} : tuE s m u = 0 ↔ tenOk s m = true ∧ ordOk u s.length = true := by
  unfold tuE
  by_cases h : tenOk s m = true ∧ ordOk u s.length = true
  · rw [if_pos h]; exact ⟨fun _ => h, fun _ => rfl⟩
  · rw [if_neg h]; exact ⟨fun e => absurd e (by decide), fun e => absurd e h⟩

/-- What the loop of Turn leaves as it is. -/
def TurnAt (w4 : World) (px pf g1 c1 g2 R n c gs gt d : Nat) (A U : Option Addr) (ts : List Int) (v : World) : Prop :=
  BoxT v px (.slice (some ⟨g1, 0, none⟩) n c1) (.slice (some ⟨g2, 0, none⟩) R R) ∧ BoxL v pf (.slice A n c) (.slice (some ⟨gs, 0, none⟩) n n) ∧ BoxL v (pf + 1) (.slice (some ⟨g1, 0, none⟩) n c1) (.slice (some ⟨gt, 0, none⟩) n n) ∧ v.heap[pf + 2]? = some (.cells #[.slice U n d] 31 (0, 0)) ∧ v.ownsRow w4.heap.size 3 1 (.slice (some ⟨g1, 0, none⟩) n c1) n (ts.map (Value.int .i64)) ∧ v.ownsRow w4.heap.size 3 1 (.slice (some ⟨gt, 0, none⟩) n n) n ((strL ts).map (Value.int .i64)) ∧ Below w4.heap.size w4 v

theorem TurnAt.below {w4 v v' : World} {px pf g1 c1 g2 R n c gs gt d : Nat} {A U : Option Addr} {ts : List Int} (h : TurnAt w4 px pf g1 c1 g2 R n c gs gt d A U ts v) (hb : Below v.heap.size v v') : TurnAt w4 px pf g1 c1 g2 R n c gs gt d A U ts v' :=
  ⟨h.1.kept hb, h.2.1.kept hb, h.2.2.1.kept hb, (hb.block _ (lt_of_heap h.2.2.2.1)).trans h.2.2.2.1, own_below h.2.2.2.2.1 hb, own_below h.2.2.2.2.2.1 hb, below_nx6 h.2.2.2.2.2.2 hb⟩

theorem TurnAt.set {w4 v : World} {px pf g1 c1 g2 R n c gs gt d : Nat} {A U : Option Addr} {ts : List Int} (h : TurnAt w4 px pf g1 c1 g2 R n c gs gt d A U ts v) (h1 : px ≠ g2) (h2 : pf ≠ g2) (h3 : pf + 1 ≠ g2) (h4 : pf + 2 ≠ g2) (h5 : g1 ≠ g2) (h7 : gt ≠ g2) (h6 : w4.heap.size ≤ g2) (k : Nat) (x : Value) : TurnAt w4 px pf g1 c1 g2 R n c gs gt d A U ts (v.setCell ⟨g2, k, none⟩ x) :=
  ⟨(Below.heap_setCell _ _ _ _ (by dsimp only; exact h1)).trans h.1, (Below.heap_setCell _ _ _ _ (by dsimp only; exact h2)).trans h.2.1, (Below.heap_setCell _ _ _ _ (by dsimp only; exact h3)).trans h.2.2.1, (Below.heap_setCell _ _ _ _ (by dsimp only; exact h4)).trans h.2.2.2.1, own_setCell' h.2.2.2.2.1 (by dsimp only; exact h5) _, own_setCell' h.2.2.2.2.2.1 (by dsimp only; exact h7) _, h.2.2.2.2.2.2.setCell (by dsimp only; exact h6) _⟩

set_option maxHeartbeats 8000000 in
theorem mturn_own (A B U : Option Addr) (n c m d q e0 : Nat) (s l u : List Int) (w : World) (hA : Lies w A n (s.map (Value.int .i64))) (hB : Lies w B m (l.map (Value.int .i32))) (hU : Lies w U q (u.map (Value.int .i64))) (hn : n ≤ 281474976710656) (hq : q ≤ 281474976710656) :
    Calls Tryz.prog 28 #[tenV A n c B m d, .slice U q e0] w fun e w' => ∃ A1 k1 c1 A2 k2 c2, e = .returned (.tuple #[tenV A1 k1 c1 A2 k2 c2, .int .i64 (tuE s m u)]) ∧
      w'.ownsRow w.heap.size 3 1 (.slice A1 k1 c1) k1 ((tuS s m u).map (Value.int .i64)) ∧ w'.ownsRow w.heap.size 21 1 (.slice A2 k2 c2) k2 ((tuL s m l u).map (Value.int .i32)) ∧ k1 ≤ 4 ∧ k2 ≤ 4096 ∧ Below w.heap.size w w' := by
  obtain ⟨W0, hW0⟩ : ∃ W0, W0 = (w.alloc (.cells #[.slice A n c, .slice B m d] 60)).alloc (.cells #[.slice none 0 0, .slice none 0 0] 60) := ⟨_, rfl⟩
  have HB0 : Hid (Below w.heap.size w W0) := hide (by rw [hW0]; exact ((Below.refl w.heap.size w).alloc (Nat.le_refl _) _).alloc (by simp only [World.size_alloc]; omega) _)
  have hs0 : W0.heap.size = w.heap.size + 2 := by rw [hW0]; simp
  have HX0 : Hid (BoxT W0 w.heap.size (.slice A n c) (.slice B m d)) := hide (by rw [hW0]; exact (BoxT.new w _ _).alloc _)
  have HXR : Hid (BoxT W0 (w.heap.size + 1) (.slice none 0 0) (.slice none 0 0)) := hide (by
    rw [hW0]
    have h := BoxT.new (w.alloc (.cells #[.slice A n c, .slice B m d] 60)) (.slice none 0 0) (.slice none 0 0)
    rwa [World.size_alloc] at h)
  have hW0' := hW0.symm
  clear hW0
  have HLL : Hid (s.length = n) := hide (lies_len9 hA)
  have HLM : Hid (l.length = m) := hide (lies_len9 hB)
  have HLU : Hid (u.length = q) := hide (lies_len9 hU)
  have HA := hide (hA.below HB0.out)
  have HB := hide (hB.below HB0.out)
  have HU := hide (hU.below HB0.out)
  clear hA hB hU
  obtain ⟨E, hE⟩ : ∃ z, z = tuE s m u := ⟨_, rfl⟩
  rw [← hE]
  have HE := hide hE
  clear hE
  have a0 := HX0.out.c0
  have a1 := HX0.out.c1
  go_enter Tryz.func28, Tryz.ntmps28
  go_wp2_with fail
  refine Calls.mono (tcheck_any A B n c m d s _ HA.out hn) ?_
  rintro e w1 ⟨rfl, hb1⟩
  clear a0 a1
  have HB1 := hide hb1
  clear hb1
  by_cases hok : tenOk s m = true
  rotate_left
  · have hno : tenOk s m = false := by simpa using hok
    rw [hno]
    have HEE : E = 1 := by rw [HE.out, tuE, if_neg (fun h => hok h.1)]
    have r0 := (HXR.out.kept HB1.out).c0
    have r1 := (HXR.out.kept HB1.out).c1
    have rf0 := (HXR.out.kept HB1.out).f0 0
    have rf1 := (HXR.out.kept HB1.out).f0 1
    have HBB := hide (HB0.out.trans (HB1.out.mono (by omega)))
    have HXF := hide (HXR.out.kept HB1.out)
    go_wp2
    (try simp only [Exit.inBlock, Exit.then])
    refine ret_ten (p := 4) (u := 5) rfl rfl (w.heap.size + 1) _ rfl (HXF.out.set2 _ _) rfl ?_
    have hne : ¬ E = 0 := by omega
    exact ⟨none, 0, 0, none, 0, 0, by rw [HEE]; rfl, by rw [tuS, if_neg (by rw [← HE.out]; exact hne)]; exact World.ownsRow_nil _ _ _ _, by rw [tuL, if_neg (by rw [← HE.out]; exact hne)]; exact World.ownsRow_nil _ _ _ _, by omega, by omega, (HBB.out.setCell (by dsimp only; omega) _).setCell (by dsimp only; omega) _⟩
  rw [hok]
  have HOK := hide hok
  clear hok
  obtain ⟨hn1, hn4, _⟩ := sizeI_pos (tenOk_iff.1 HOK.out).1
  rw [HLL.out] at hn1 hn4
  have a0 := (HX0.out.kept HB1.out).c0
  have a1 := (HX0.out.kept HB1.out).c1
  go_wp2_with fail
  refine Calls.mono (layoutOf_ok A n c s _ (HA.out.below HB1.out) (tenOk_iff.1 HOK.out).1) ?_
  rintro e w2 ⟨gs, rfl, hos, hb20⟩
  obtain ⟨V2, hV2⟩ : ∃ W, W = w2.alloc (.cells #[.slice A n c, .slice (some ⟨gs, 0, none⟩) n n] 111) := ⟨_, rfl⟩
  have HB2 : Hid (Below W0.heap.size W0 V2) := hide (by rw [hV2]; exact below_al6 (below_nx6 HB1.out hb20))
  have HXL : Hid (BoxL V2 w2.heap.size (.slice A n c) (.slice (some ⟨gs, 0, none⟩) n n)) := hide (by rw [hV2]; exact BoxL.new w2 _ _)
  have HST : Hid (Lies V2 (some ⟨gs, 0, none⟩) n ((strL s).map (Value.int .i64))) := hide (by rw [hV2]; exact (lies_of_own hos).alloc _)
  have hV2' := hV2.symm
  clear hV2 hb20 hos a0 a1
  have x0 := HXL.out.c0
  have x1 := HXL.out.c1
  go_wp2_with fail
  refine Calls.mono (hasOrder_any A U n c q e0 u _ (HU.out.below HB2.out) hn hq) ?_
  rintro e w3 ⟨rfl, hb30⟩
  have HB3 := hide (below_nx6 HB2.out hb30)
  replace HXL := hide (HXL.out.kept hb30)
  replace HST := hide (HST.out.below hb30)
  clear hb30 x0 x1
  by_cases hord : ordOk u n = true
  rotate_left
  · have hno : ordOk u n = false := by simpa using hord
    rw [hno]
    have HNO := hide hno
    clear hno hord
    have HEE : E = 1 := by rw [HE.out, tuE, if_neg (fun h => by rw [HLL.out, HNO.out] at h; exact absurd h.2 (by decide))]
    have r0 := (HXR.out.kept HB3.out).c0
    have r1 := (HXR.out.kept HB3.out).c1
    have rf0 := (HXR.out.kept HB3.out).f0 0
    have rf1 := (HXR.out.kept HB3.out).f0 1
    have HBB := hide (HB0.out.trans (HB3.out.mono (by omega)))
    have HXF := hide (HXR.out.kept HB3.out)
    go_wp2
    (try simp only [Exit.inBlock, Exit.then])
    refine ret_ten (p := 4) (u := 5) rfl rfl (w.heap.size + 1) _ rfl (HXF.out.set2 _ _) rfl ?_
    have hne : ¬ E = 0 := by omega
    exact ⟨none, 0, 0, none, 0, 0, by rw [HEE]; rfl, by rw [tuS, if_neg (by rw [← HE.out]; exact hne)]; exact World.ownsRow_nil _ _ _ _, by rw [tuL, if_neg (by rw [← HE.out]; exact hne)]; exact World.ownsRow_nil _ _ _ _, by omega, by omega, (HBB.out.setCell (by dsimp only; omega) _).setCell (by dsimp only; omega) _⟩
  rw [hord]
  have HORD := hide hord
  obtain rfl : n = q := by rw [← HLU.out]; exact (ordOk_iff.1 hord).1.symm
  have hEE : E = 0 := by rw [HE.out]; exact tuE_iff.2 ⟨HOK.out, by rw [HLL.out]; exact hord⟩
  have HEE := hide hEE
  have hin := ord_in hord hn4
  have HIN := hide hin
  clear hord hEE hin
  have hm4 : m ≤ 4096 := by have := sizeI_le s; have := (tenOk_iff.1 HOK.out).2; omega
  have hm1 : 1 ≤ m := by have := (tenOk_iff.1 HOK.out).1; have := (tenOk_iff.1 HOK.out).2; omega
  obtain ⟨ts, hts⟩ : ∃ z, z = pickL s u := ⟨_, rfl⟩
  have htl : ts.length = n := by rw [hts, pickL_len, HLU.out]
  have hsz : sizeI ts = (m : Int) := by rw [hts, pick_size HLL.out HORD.out hn4]; exact (tenOk_iff.1 HOK.out).2
  have HTS := hide hts
  have HTL := hide htl
  have HSZ := hide hsz
  clear hts htl hsz
  have x0 := HXL.out.c0
  have x1 := HXL.out.c1
  go_wp2_with fail
  refine Calls.mono (turned_ok A U n c n e0 s u _ (HA.out.below HB3.out) (HU.out.below HB3.out) ⟨hn1, hn4⟩ HIN.out) ?_
  rintro e w4 ⟨gw, rfl, how, hb40⟩
  rw [← HTS.out] at how
  have HB4 := hide (below_nx6 HB3.out hb40)
  replace HXL := hide (HXL.out.kept hb40)
  replace HST := hide (HST.out.below hb40)
  have HXL4 := HXL
  have HST4 := HST
  clear hb40 x0 x1
  have x0 := HXL.out.c0
  have x1 := HXL.out.c1
  go_wp2_with fail
  refine Calls.mono (new_ok (some ⟨gw, 0, none⟩) n n m ts _ (lies_of_own how) HSZ.out (by omega)) ?_
  rintro e w5 ⟨g1, c1, g2, rfl, ho1, ho2, hne, hb50⟩
  obtain ⟨V5, hV5⟩ : ∃ W, W = w5.alloc (.cells #[.slice (some ⟨g1, 0, none⟩) n c1, .slice (some ⟨g2, 0, none⟩) m m] 60) := ⟨_, rfl⟩
  have hlo1 := ho1.lt g1 rfl
  have hlo2 := ho2.lt g2 rfl
  have hsz4 := HB4.out.size
  have hb5 : Below w4.heap.size w4 V5 := by rw [hV5]; exact below_al6 hb50
  have HB45 := hide hb5
  have HXV : Hid (BoxT V5 w5.heap.size (.slice (some ⟨g1, 0, none⟩) n c1) (.slice (some ⟨g2, 0, none⟩) m m)) := hide (by rw [hV5]; exact BoxT.new w5 _ _)
  have HO1 : Hid (V5.ownsRow w4.heap.size 3 1 (.slice (some ⟨g1, 0, none⟩) n c1) n (ts.map (Value.int .i64))) := hide (by rw [hV5]; exact own_below ho1 (below_al6 (Below.refl _ _)))
  have HO2 : Hid (V5.ownsRow w4.heap.size 21 1 (.slice (some ⟨g2, 0, none⟩) m m) m (((List.replicate m (0 : Int)) : List Int).map (Value.int .i32))) := hide (by rw [hV5, List.map_replicate]; exact own_below ho2 (below_al6 (Below.refl _ _)))
  have HNE : Hid (g1 ≠ g2 ∧ w5.heap.size ≠ g2) := hide ⟨hne, by omega⟩
  replace HXL := hide (HXL.out.kept hb5)
  have hV5' := hV5.symm
  have hg2V : g2 < V5.heap.size := by rw [hV5, World.size_alloc]; omega
  clear hV5 hb50 hb5 ho1 ho2 how hne x0 x1
  obtain ⟨bU, oU, rfl, _, _⟩ := byte_at HU.out (by omega)
  obtain ⟨bB, oB, rfl, _, _⟩ := byte_at HB.out (by omega)
  have HF7 : Hid (∀ v, Below V5.heap.size V5 v → v.cell? ⟨w2.heap.size, 0, none⟩ = some (.slice A n c) ∧ v.cell? ⟨w2.heap.size, 1, none⟩ = some (.slice (some ⟨gs, 0, none⟩) n n) ∧ v.cell? ⟨w5.heap.size, 0, none⟩ = some (.slice (some ⟨g1, 0, none⟩) n c1)) := hide (fun v hv => ⟨(HXL.out.kept hv).c0, (HXL.out.kept hv).c1, (HXV.out.kept hv).c0⟩)
  have hd0 : Below V5.heap.size V5 V5.drew := below_drewN (Below.refl _ _) 1
  have v0 := HXV.out.c0
  have v1 := HXV.out.c1
  go_wp2
  clear v0 v1
  have hS0 : Hid (V5.drew.cell? ⟨w2.heap.size, 0, none⟩ = some (.slice A n c) ∧ V5.drew.cell? ⟨w2.heap.size, 1, none⟩ = some (.slice (some ⟨gs, 0, none⟩) n n) ∧ V5.drew.cell? ⟨w5.heap.size, 0, none⟩ = some (.slice (some ⟨g1, 0, none⟩) n c1)) := hide (HF7.out _ hd0)
  refine wp_region_U (fun _ v => v.cell? ⟨w2.heap.size, 0, none⟩ = some (.slice A n c) ∧ v.cell? ⟨w2.heap.size, 1, none⟩ = some (.slice (some ⟨gs, 0, none⟩) n n) ∧ v.cell? ⟨w5.heap.size, 0, none⟩ = some (.slice (some ⟨g1, 0, none⟩) n c1)) 99 (by kernel_rfl) ?_
  refine wpAnyU_take (i := 0) (oi := { dst := some 32, op := _, type := _, pos := _, after := _, guard := none }) (v := .agg #[.slice A n c, .slice (some ⟨gs, 0, none⟩) n n]) rfl (by kernel_rfl) (by kernel_rfl) (by kernel_rfl) (by kernel_rfl) (fun _ _ _ h => h) (yields_take rfl (fun w' hw => by obtain ⟨h1, h2, h3⟩ := hw.const; go_simp)) hS0.out ?_
  simp only [Act.put, List.setIfInBounds_toArray, List.set_cons_zero, List.set_cons_succ]
  refine wpAnyU_take (i := 1) (oi := { dst := some 33, op := _, type := _, pos := _, after := _, guard := none }) (v := .pointer (some ⟨w5.heap.size, 0, none⟩)) rfl (by kernel_rfl) (by kernel_rfl) (by kernel_rfl) (by kernel_rfl) (fun _ _ _ h => h) (yields_take rfl (fun w' hw => by obtain ⟨h1, h2, h3⟩ := hw.const; go_simp)) hS0.out ?_
  simp only [Act.put, List.setIfInBounds_toArray, List.set_cons_zero, List.set_cons_succ]
  refine wpAnyU_take (i := 2) (oi := { dst := some 34, op := _, type := _, pos := _, after := _, guard := none }) (v := .slice (some ⟨g1, 0, none⟩) n c1) rfl (by kernel_rfl) (by kernel_rfl) (by kernel_rfl) (by kernel_rfl) (fun _ _ _ h => h) (yields_take rfl (fun w' hw => by obtain ⟨h1, h2, h3⟩ := hw.const; go_simp)) hS0.out ?_
  simp only [Act.put, List.setIfInBounds_toArray, List.set_cons_zero, List.set_cons_succ]
  refine wpAnyU_take (i := 4) (oi := { dst := some 36, op := _, type := _, pos := _, after := _, guard := none }) (v := .slice (some ⟨bU, oU, none⟩) n e0) rfl (by kernel_rfl) (by kernel_rfl) (by kernel_rfl) (by kernel_rfl) (fun _ _ _ h => h) (yields_take rfl (fun w' hw => by obtain ⟨h1, h2, h3⟩ := hw.const; go_simp)) hS0.out ?_
  simp only [Act.put, List.setIfInBounds_toArray, List.set_cons_zero, List.set_cons_succ]
  refine wpAnyU_one (i := 3) (by kernel_rfl) rfl ?_
  intro K hK
  go_simp
  refine Calls.mono (layoutOf_ok (some ⟨g1, 0, none⟩) n c1 ts _ (lies_of_own (own_below HO1.out hd0)) (by rw [HSZ.out]; omega)) ?_
  rintro e w7 ⟨gt, rfl, hot, hb⟩
  dsimp only
  have hd7 : Below V5.heap.size V5 w7 := below_nx6 hd0 hb
  have hgt := hot.lt gt rfl
  have hd0s := hd0.size
  clear hb
  have hS1 : Hid (w7.cell? ⟨w2.heap.size, 0, none⟩ = some (.slice A n c) ∧ w7.cell? ⟨w2.heap.size, 1, none⟩ = some (.slice (some ⟨gs, 0, none⟩) n n) ∧ w7.cell? ⟨w5.heap.size, 0, none⟩ = some (.slice (some ⟨g1, 0, none⟩) n c1)) := hide (HF7.out _ hd7)
  refine hK.out _ _ hS1.out (fun _ => ?_)
  clear hK K hS0
  refine wpAnyU_one (i := 5) (by kernel_rfl) rfl ?_
  intro K hK
  go_simp
  refine Calls.mono (turnOrigin_ok A (some ⟨gs, 0, none⟩) (some ⟨g1, 0, none⟩) (some ⟨gt, 0, none⟩) (some ⟨bU, oU, none⟩) n c n n n c1 n n n e0 _) ?_
  rintro e w8 ⟨rfl, hw8⟩
  dsimp only
  have hb8 : Below w7.heap.size w7 w8 := by rw [hw8]; exact ((Below.refl w7.heap.size w7).alloc (Nat.le_refl _) _ |>.alloc (by simp only [World.size_alloc]; omega) _).alloc (by simp only [World.size_alloc]; omega) _
  have hd8 : Below V5.heap.size V5 w8 := below_nx6 hd7 hb8
  have hS2 : Hid (w8.cell? ⟨w2.heap.size, 0, none⟩ = some (.slice A n c) ∧ w8.cell? ⟨w2.heap.size, 1, none⟩ = some (.slice (some ⟨gs, 0, none⟩) n n) ∧ w8.cell? ⟨w5.heap.size, 0, none⟩ = some (.slice (some ⟨g1, 0, none⟩) n c1)) := hide (HF7.out _ hd8)
  refine hK.out _ _ hS2.out (fun _ => ?_)
  clear hK K hS1
  refine wpAnyU_take (i := 6) (oi := { dst := some 9, op := _, type := _, pos := _, after := _, guard := none }) (v := .func (.func 191) #[] #[.pointer (some ⟨w7.heap.size + 2, 0, none⟩), .pointer (some ⟨w7.heap.size + 1, 0, none⟩), .pointer (some ⟨w7.heap.size, 0, none⟩)]) rfl (by kernel_rfl) (by kernel_rfl) (by kernel_rfl) (by kernel_rfl) (fun _ _ _ h => h) (yields_take rfl (fun w' hw => by obtain ⟨h1, h2, h3⟩ := hw.const; go_simp)) hS2.out ?_
  simp only [Act.put, List.setIfInBounds_toArray, List.set_cons_zero, List.set_cons_succ]
  refine wpAnyU_done (by kernel_rfl) ?_ _
  clear hS2
  have HXO : BoxL w8 w7.heap.size (.slice A n c) (.slice (some ⟨gs, 0, none⟩) n n) := by rw [hw8]; exact ((BoxL.new w7 _ _).alloc _).alloc _
  have hqa : BoxL w8 (w7.heap.size + 1) (.slice (some ⟨g1, 0, none⟩) n c1) (.slice (some ⟨gt, 0, none⟩) n n) := by
    rw [hw8]
    have h := BoxL.new (w7.alloc (.cells #[.slice A n c, .slice (some ⟨gs, 0, none⟩) n n] 111)) (.slice (some ⟨g1, 0, none⟩) n c1) (.slice (some ⟨gt, 0, none⟩) n n)
    rw [World.size_alloc] at h
    exact h.alloc _
  have hqs : w8.heap[w7.heap.size + 2]? = some (.cells #[.slice (some ⟨bU, oU, none⟩) n e0] 31 (0, 0)) := by
    rw [hw8]
    have h := heap_alloc_new ((w7.alloc (.cells #[.slice A n c, .slice (some ⟨gs, 0, none⟩) n n] 111)).alloc (.cells #[.slice (some ⟨g1, 0, none⟩) n c1, .slice (some ⟨gt, 0, none⟩) n n] 111)) (.cells #[.slice (some ⟨bU, oU, none⟩) n e0] 31)
    rw [World.size_alloc, World.size_alloc] at h
    exact h
  have hV4 := HB45.out.size
  have hV7 := hd7.size
  obtain ⟨pf, hpf⟩ : ∃ z, z = w7.heap.size := ⟨_, rfl⟩
  rw [← hpf] at HXO hqa hqs ⊢
  have HS : Hid (TurnAt w4 w5.heap.size pf g1 c1 g2 m n c gs gt e0 A (some ⟨bU, oU, none⟩) ts w8) := hide ⟨HXV.out.kept hd8, HXO, hqa, hqs, own_below HO1.out hd8, own_base (own_below hot hb8) (by omega), HB45.out.trans (hd8.mono HB45.out.size)⟩
  replace HO2 := hide (own_below HO2.out hd8)
  have HN5 : Hid (w5.heap.size ≠ g2 ∧ pf ≠ g2 ∧ pf + 1 ≠ g2 ∧ pf + 2 ≠ g2 ∧ g1 ≠ g2 ∧ gt ≠ g2 ∧ w4.heap.size ≤ g2) := hide ⟨HNE.out.2, by omega, by omega, by omega, HNE.out.1, by omega, hlo2.1⟩
  clear hw8 HXO hqa hqs HXV HO1 HNE hpf HXL HST HF7 hd0 hd0s hd7 hd8 hb8 hot hgt hV4 hV7 hg2V
  obtain ⟨Z, hZ⟩ : ∃ z : List Int, z = turnL s l u m := ⟨_, rfl⟩
  obtain ⟨Z0, hZ0⟩ : ∃ z : List Int, z = List.replicate m 0 := ⟨_, rfl⟩
  have HZL : Hid (Z.length = Z0.length ∧ Z0.length = m) := hide ⟨by rw [hZ, hZ0, turnL_len, List.length_replicate], by rw [hZ0, List.length_replicate]⟩
  have HZK : Hid (∀ k, k < m → Z.getD k 0 = l.getD (trN s ts u k n) 0) := hide (fun k hk => by rw [hZ, turnL_at hk, HTS.out, HLL.out])
  have HTR : Hid (∀ k, trN s ts u k n < m) := hide (fun k => by rw [HTS.out]; exact trN_lt HOK.out HLL.out HORD.out hn4 k)
  have HZ := hide hZ
  replace HO2 : Hid (w8.ownsRow w4.heap.size 21 1 (.slice (some ⟨g2, 0, none⟩) m m) m ((mix9 Z Z0 0).map (Value.int .i32))) := hide (by rw [mix9_zero, hZ0]; exact HO2.out)
  clear hZ hZ0
  have p1 := HS.out.1.c1
  go_wp2
  clear p1
  go_loopw [41] (fun i wr => ∃ k : Nat, k ≤ m ∧ i = .int .i64 (k : Int) ∧ Hid (TurnAt w4 w5.heap.size pf g1 c1 g2 m n c gs gt e0 A (some ⟨bU, oU, none⟩) ts wr) ∧ Hid (wr.ownsRow w4.heap.size 21 1 (.slice (some ⟨g2, 0, none⟩) m m) m ((mix9 Z Z0 k).map (Value.int .i32)))) (fun i _ => m - (intOf i).toNat)
  case atStart => exact ⟨0, Nat.zero_le _, rfl, HS, HO2⟩
  case round =>
    clear HS HO2
    obtain ⟨k, hk, rfl, HS, HO⟩ := hrel
    by_cases hlt : k < m
    · have h0 : (0 : Int) ≤ (k : Int) := by omega
      have h3 : (k : Int) < (m : Int) := by omega
      obtain ⟨ix, hix⟩ : ∃ z, z = trN s ts u k n := ⟨_, rfl⟩
      have hpl := HTR.out k
      rw [← hix] at hpl
      obtain ⟨x, hx⟩ : ∃ z, z = (mix9 Z Z0 k).getD k 0 := ⟨_, rfl⟩
      obtain ⟨y, hy⟩ : ∃ z, z = l.getD ix 0 := ⟨_, rfl⟩
      have HV : Hid (Z.getD k 0 = y) := hide (by rw [HZK.out k hlt, ← hix, hy])
      have HGX : Hid (∀ v, Below wr.heap.size wr v → v.cell? ⟨g2, k, none⟩ = some (.int .i32 x) ∧ v.frozen? ⟨g2, k, none⟩ = false) := hide (fun v hv => by rw [hx]; exact own_cells9 (own_below HO.out hv) hlt)
      have HF : Hid (∀ v, Below wr.heap.size wr v → v.cell? ⟨w5.heap.size, 1, none⟩ = some (.slice (some ⟨g2, 0, none⟩) m m) ∧ v.cell? ⟨w.heap.size, 1, none⟩ = some (.slice (some ⟨bB, oB, none⟩) m d) ∧ v.cell? ⟨bB, oB + ix, none⟩ = some (.int .i32 y)) := hide (fun v hv => by
        have hs := HS.out.below hv
        have hw := below_nx6 HB4.out hs.2.2.2.2.2.2
        obtain ⟨_, _, e1, _, x1⟩ := byte_at (HB.out.below hw) (by omega)
        cases e1
        exact ⟨hs.1.c1, (HX0.out.kept hw).c1, by rw [hy]; exact x1 ix hpl⟩)
      have HCL : Hid (∀ v, Below wr.heap.size wr v → Calls Tryz.prog 191 #[.int .i64 (k : Int), .pointer (some ⟨pf + 2, 0, none⟩), .pointer (some ⟨pf + 1, 0, none⟩), .pointer (some ⟨pf, 0, none⟩)] v fun e' w' => e' = .returned (.int .i64 (ix : Int)) ∧ Below v.heap.size v w') := hide (fun v hv => by
        have hs := HS.out.below hv
        have hw := below_nx6 HB4.out hs.2.2.2.2.2.2
        rw [hix]
        exact turnOrig_ok pf (pf + 1) (pf + 2) A (some ⟨gs, 0, none⟩) (some ⟨g1, 0, none⟩) (some ⟨gt, 0, none⟩) (some ⟨bU, oU, none⟩) n c n c1 n e0 k s ts u v hs.2.1 hs.2.2.1 hs.2.2.2.1 (HST4.out.below hs.2.2.2.2.2.2) (lies_of_own hs.2.2.2.2.1) (lies_of_own hs.2.2.2.2.2.1) (HU.out.below hw) HLL.out (tenOk_iff.1 HOK.out).1 (by rw [HSZ.out]; omega) (by omega) HIN.out)
      have hix0 : (0 : Int) ≤ (ix : Int) := by omega
      have hix1 : (ix : Int) < (m : Int) := by omega
      have hd0 : Below wr.heap.size wr wr.drew := below_drewN (Below.refl _ _) 1
      clear hix hx hy
      go_wp2
      have hS0 : Hid (wr.drew.cell? ⟨w5.heap.size, 1, none⟩ = some (.slice (some ⟨g2, 0, none⟩) m m) ∧ wr.drew.cell? ⟨w.heap.size, 1, none⟩ = some (.slice (some ⟨bB, oB, none⟩) m d) ∧ wr.drew.cell? ⟨bB, oB + ix, none⟩ = some (.int .i32 y)) := hide (HF.out _ hd0)
      refine wp_region_U (fun b v => b = false → v.cell? ⟨w5.heap.size, 1, none⟩ = some (.slice (some ⟨g2, 0, none⟩) m m) ∧ v.cell? ⟨w.heap.size, 1, none⟩ = some (.slice (some ⟨bB, oB, none⟩) m d) ∧ v.cell? ⟨bB, oB + ix, none⟩ = some (.int .i32 y)) 11 (by kernel_rfl) ?_
      refine wpAnyU_take (i := 0) (oi := { dst := some 44, op := _, type := _, pos := _, after := _, guard := none }) (v := .pointer (some ⟨w5.heap.size, 1, none⟩)) rfl (by kernel_rfl) (by kernel_rfl) (by kernel_rfl) (by kernel_rfl) (fun _ _ _ h => h) (yields_take rfl (fun w' hw => by obtain ⟨h1, h2, h3⟩ := hw.no (by kernel_rfl) rfl; go_simp)) (fun _ => hS0.out) ?_
      simp only [Act.put, List.setIfInBounds_toArray, List.set_cons_zero, List.set_cons_succ]
      refine wpAnyU_take (i := 1) (oi := { dst := some 45, op := _, type := _, pos := _, after := _, guard := none }) (v := .slice (some ⟨g2, 0, none⟩) m m) rfl (by kernel_rfl) (by kernel_rfl) (by kernel_rfl) (by kernel_rfl) (fun _ _ _ h => h) (yields_take rfl (fun w' hw => by obtain ⟨h1, h2, h3⟩ := hw.no (by kernel_rfl) rfl; go_simp)) (fun _ => hS0.out) ?_
      simp only [Act.put, List.setIfInBounds_toArray, List.set_cons_zero, List.set_cons_succ]
      refine wpAnyU_take (i := 2) (oi := { dst := some 46, op := _, type := _, pos := _, after := _, guard := none }) (v := .int .i64 (k : Int)) rfl (by kernel_rfl) (by kernel_rfl) (by kernel_rfl) (by kernel_rfl) (fun _ _ _ h => h) (yields_take rfl (fun w' hw => by obtain ⟨h1, h2, h3⟩ := hw.no (by kernel_rfl) rfl; go_simp)) (fun _ => hS0.out) ?_
      simp only [Act.put, List.setIfInBounds_toArray, List.set_cons_zero, List.set_cons_succ]
      refine wpAnyU_take (i := 3) (oi := { dst := some 47, op := _, type := _, pos := _, after := _, guard := none }) (v := .pointer (some ⟨w.heap.size, 1, none⟩)) rfl (by kernel_rfl) (by kernel_rfl) (by kernel_rfl) (by kernel_rfl) (fun _ _ _ h => h) (yields_take rfl (fun w' hw => by obtain ⟨h1, h2, h3⟩ := hw.no (by kernel_rfl) rfl; go_simp)) (fun _ => hS0.out) ?_
      simp only [Act.put, List.setIfInBounds_toArray, List.set_cons_zero, List.set_cons_succ]
      refine wpAnyU_take (i := 4) (oi := { dst := some 48, op := _, type := _, pos := _, after := _, guard := none }) (v := .slice (some ⟨bB, oB, none⟩) m d) rfl (by kernel_rfl) (by kernel_rfl) (by kernel_rfl) (by kernel_rfl) (fun _ _ _ h => h) (yields_take rfl (fun w' hw => by obtain ⟨h1, h2, h3⟩ := hw.no (by kernel_rfl) rfl; go_simp)) (fun _ => hS0.out) ?_
      simp only [Act.put, List.setIfInBounds_toArray, List.set_cons_zero, List.set_cons_succ]
      refine wpAnyU_take (i := 5) (oi := { dst := some 49, op := _, type := _, pos := _, after := _, guard := none }) (v := .func (.func 191) #[] #[.pointer (some ⟨pf + 2, 0, none⟩), .pointer (some ⟨pf + 1, 0, none⟩), .pointer (some ⟨pf, 0, none⟩)]) rfl (by kernel_rfl) (by kernel_rfl) (by kernel_rfl) (by kernel_rfl) (fun _ _ _ h => h) (yields_take rfl (fun w' hw => by obtain ⟨h1, h2, h3⟩ := hw.no (by kernel_rfl) rfl; go_simp)) (fun _ => hS0.out) ?_
      simp only [Act.put, List.setIfInBounds_toArray, List.set_cons_zero, List.set_cons_succ]
      refine wpAnyU_take (i := 6) (oi := { dst := some 50, op := _, type := _, pos := _, after := _, guard := none }) (v := .int .i64 (k : Int)) rfl (by kernel_rfl) (by kernel_rfl) (by kernel_rfl) (by kernel_rfl) (fun _ _ _ h => h) (yields_take rfl (fun w' hw => by obtain ⟨h1, h2, h3⟩ := hw.no (by kernel_rfl) rfl; go_simp)) (fun _ => hS0.out) ?_
      simp only [Act.put, List.setIfInBounds_toArray, List.set_cons_zero, List.set_cons_succ]
      refine wpAnyU_one (i := 7) (by kernel_rfl) rfl ?_
      intro K hK
      go_simp
      refine Calls.mono (HCL.out _ hd0) ?_
      rintro e w9 ⟨rfl, hb⟩
      dsimp only
      have hd1 : Below wr.heap.size wr w9 := below_nx6 hd0 hb
      clear hb
      have hS1 : Hid (w9.cell? ⟨w5.heap.size, 1, none⟩ = some (.slice (some ⟨g2, 0, none⟩) m m) ∧ w9.cell? ⟨w.heap.size, 1, none⟩ = some (.slice (some ⟨bB, oB, none⟩) m d) ∧ w9.cell? ⟨bB, oB + ix, none⟩ = some (.int .i32 y)) := hide (HF.out _ hd1)
      refine hK _ _ (fun _ => hS1.out) (fun _ => ?_)
      clear hK K hS0
      refine wpAnyU_take (i := 8) (oi := { dst := some 52, op := _, type := _, pos := _, after := _, guard := none }) (v := .pointer (some ⟨bB, oB + ix, none⟩)) rfl (by kernel_rfl) (by kernel_rfl) (by kernel_rfl) (by kernel_rfl) (fun _ _ _ h => h) (yields_take rfl (fun w' hw => by obtain ⟨h1, h2, h3⟩ := hw.no (by kernel_rfl) rfl; go_simp)) (fun _ => hS1.out) ?_
      simp only [Act.put, List.setIfInBounds_toArray, List.set_cons_zero, List.set_cons_succ]
      refine wpAnyU_take (i := 9) (oi := { dst := some 53, op := _, type := _, pos := _, after := _, guard := none }) (v := .int .i32 y) rfl (by kernel_rfl) (by kernel_rfl) (by kernel_rfl) (by kernel_rfl) (fun _ _ _ h => h) (yields_take rfl (fun w' hw => by obtain ⟨h1, h2, h3⟩ := hw.no (by kernel_rfl) rfl; go_simp)) (fun _ => hS1.out) ?_
      simp only [Act.put, List.setIfInBounds_toArray, List.set_cons_zero, List.set_cons_succ]
      refine wpAnyU_take (i := 10) (oi := { dst := some 54, op := _, type := _, pos := _, after := _, guard := none }) (v := .pointer (some ⟨g2, k, none⟩)) rfl (by kernel_rfl) (by kernel_rfl) (by kernel_rfl) (by kernel_rfl) (fun _ _ _ h => h) (yields_take rfl (fun w' hw => by obtain ⟨h1, h2, h3⟩ := hw.no (by kernel_rfl) rfl; go_simp)) (fun _ => hS1.out) ?_
      simp only [Act.put, List.setIfInBounds_toArray, List.set_cons_zero, List.set_cons_succ]
      obtain ⟨hgx, hfx⟩ := HGX.out _ hd1
      refine wpAnyU_one (i := 11) (by kernel_rfl) rfl ?_
      intro K hK
      go_simp
      refine hK _ _ (fun h => by cases h) (fun _ => ?_)
      clear hK K
      refine wpAnyU_done (by kernel_rfl) ?_ _
      clear hS1
      have HS2 : Hid (TurnAt w4 w5.heap.size pf g1 c1 g2 m n c gs gt e0 A (some ⟨bU, oU, none⟩) ts (w9.setCell ⟨g2, k, none⟩ (.int .i32 y))) := hide ((HS.out.below hd1).set HN5.out.1 HN5.out.2.1 HN5.out.2.2.1 HN5.out.2.2.2.1 HN5.out.2.2.2.2.1 HN5.out.2.2.2.2.2.1 HN5.out.2.2.2.2.2.2 k _)
      have HO2 : Hid ((w9.setCell ⟨g2, k, none⟩ (.int .i32 y)).ownsRow w4.heap.size 21 1 (.slice (some ⟨g2, 0, none⟩) m m) m ((mix9 Z Z0 (k + 1)).map (Value.int .i32))) := hide (by
        have h := own_set9 (v := .int .i32 y) (own_below HO.out hd1) hlt
        rw [← List.map_set, ← HV.out, mix9_set HZL.out.1 (by rw [HZL.out.2]; exact hlt), HV.out] at h
        exact h)
      clear hgx hfx hd0 hd1
      go_wp2
      go_roundw
      case rel => exact ⟨k + 1, by omega, by go_num, HS2, HO2⟩
      case measure => simp [intOf]; omega
    · obtain rfl : m = k := by omega
      have h5 : ¬ ((m : Int) < (m : Int)) := by omega
      have hmx : mix9 Z Z0 m = Z := by rw [← HZL.out.2]; exact mix9_all HZL.out.1
      have HO2 := HO.out
      rw [hmx, HZ.out] at HO2
      have HO3 := hide HO2
      have hbw := HS.out.2.2.2.2.2.2
      have hbW := below_nx6 HB4.out hbw
      have r0 := (HXR.out.kept hbW).c0
      have r1 := (HXR.out.kept hbW).c1
      have rf0 := (HXR.out.kept hbW).f0 0
      have rf1 := (HXR.out.kept hbW).f0 1
      have v0 := HS.out.1.c0
      have v1 := HS.out.1.c1
      have HXF := hide (HXR.out.kept hbW)
      have HBB := hide (HB0.out.trans (hbW.mono (by omega)))
      have hg1b := hlo1.1
      have hg2b := hlo2.1
      have HSM : Hid (tuL s m l u = turnL s l u m ∧ tuS s m u = ts) := hide ⟨by rw [tuL, if_pos (by rw [← HE.out]; exact HEE.out)], by rw [tuS, if_pos (by rw [← HE.out]; exact HEE.out), HTS.out]⟩
      clear HO2 hmx hbw hbW
      go_wp2
      (try simp only [Exit.inBlock, Exit.then])
      refine ret_ten (p := 4) (u := 5) rfl rfl (w.heap.size + 1) _ rfl (HXF.out.set2 _ _) rfl ?_
      exact ⟨_, _, _, _, _, _, by rw [HEE.out]; rfl, by rw [HSM.out.2]; exact own_setCell' (own_setCell' (own_base HS.out.2.2.2.2.1 (by omega)) (by dsimp only; omega) _) (by dsimp only; omega) _, by rw [HSM.out.1]; exact own_setCell' (own_setCell' (own_base HO3.out (by omega)) (by dsimp only; omega) _) (by dsimp only; omega) _, hn4, hm4, (HBB.out.setCell (by dsimp only; omega) _).setCell (by dsimp only; omega) _⟩

end Go.Proofs.YtomhbhhfbbdilaaGreatDoor
