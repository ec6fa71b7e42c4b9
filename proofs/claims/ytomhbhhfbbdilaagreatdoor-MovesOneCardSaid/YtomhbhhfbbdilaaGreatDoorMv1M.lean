/- Contract of moves.Shape: the same numbers with another shape, or refused. -/
import Derived.Test.YtomhbhhfbbdilaaGreatDoorWB
import Derived.Deep.Cut
namespace Go.Proofs.YtomhbhhfbbdilaaGreatDoor
open Go.RowKit
set_option linter.unusedVariables false
set_option linter.unusedSimpArgs false
set_option maxRecDepth 100000

theorem infoN9 : (Tryz.prog.info? 21).map (fun i => (i.zero, i.size, i.bytes)) = some (some (.int .i32 0), 1, 4) := by kernel_rfl

theorem lies_len9 {w : World} {A : Option Addr} {n : Nat} {k : IntKind} {xs : List Int} (h : Lies w A n (xs.map (Value.int k))) : xs.length = n := by
  have := h.len
  simpa using this

set_option maxHeartbeats 800000 in
theorem clone_nums (A : Option Addr) (n c : Nat) (s : List Int) (w : World) (h : Lies w A n (s.map (Value.int .i32))) (hp : 0 < n) (hm : n ≤ 1073741824) :
    Calls Tryz.prog 108 #[.slice A n c] w fun e w' => ∃ g' c', e = .returned (.slice (some ⟨g', 0, none⟩) n c') ∧ w'.ownsRow w.heap.size 21 1 (.slice (some ⟨g', 0, none⟩) n c') n (s.map (Value.int .i32)) ∧ Below w.heap.size w w' := by
  obtain ⟨i, hi, hz0, hz1, hz2⟩ := info_parts infoN9
  obtain ⟨b, o, rfl, hb, hx⟩ := h.cells hp
  have HI := hide hi
  have HZ0 := hide hz0
  have HZ1 := hide hz1
  have HZ2 := hide hz2
  have HLN : Hid ((s.map (Value.int .i32)).length = n * 1) := hide (by rw [h.len]; omega)
  have HL : Hid (∀ j u, (s.map (Value.int .i32))[j]? = some u → (w.alloc (.cells #[] 21)).cell? ((⟨b, o, none⟩ : Addr).add j) = some u) := hide (fun j u hj => by
    have hjn : j < n := by have := (List.getElem?_eq_some_iff.1 hj).1; have := h.len; omega
    obtain ⟨b', o', e, _, hy⟩ := (h.alloc (.cells #[] 21)).cells hp
    cases e
    rw [Addr.add_lit, hy j hjn, hj])
  have heq : (binOp .eql 58 (.slice (some ⟨b, o, none⟩) n c) (.slice none 0 0)).run Tryz.prog w = .ok (.bool false) w := Lib.run_eql_slice_nil w _ _ _ _ _ _ _ Tryz.underlying58
  clear h hi hz0 hz1 hz2 hx
  go_enter Tryz.func108, Tryz.ntmps108
  go_wp2_with (at_builtin; refine wpList_append_grows _ rfl _ _ 58 rfl 21 i _ 1 4 Tryz.underlying58 HI.out HZ0.out HZ1.out HZ2.out rfl (Nat.succ_pos _) (some ⟨w.heap.size, 0, none⟩) 0 0 [] rfl (fun h => by cases h) rfl (fun _ _ j u hj => by cases hj) ⟨b, o, none⟩ n c (s.map (Value.int .i32)) rfl HLN.out HL.out (ints_one .i32 s) (by omega) (by unfold maxLen; omega) (by omega) ?_)
  intro v' w' hown hgr
  obtain ⟨g', c', rfl⟩ : ∃ g' c', v' = .slice (some ⟨g', 0, none⟩) n c' := by
    rcases hown.2 with ⟨_, h0⟩ | ⟨g', c', _, h0, _⟩
    · omega
    · exact ⟨g', c', h0⟩
  have HF := hide (own_base (base' := w.heap.size) hown (by simp))
  have HB : Hid (Below w.heap.size w w') := hide (((Below.refl w.heap.size w).alloc (Nat.le_refl _) _).grown hgr (by simp) (by simp))
  clear hown hgr heq
  go_wp2
  go_ret
  exact ⟨g', c', by simp [Act.eval], HF.out, HB.out⟩

/-- What moves.Shape answers. -/
def msE (s : List Int) (m : Nat) (s' : List Int) : Int := if tenOk s m = true ∧ 0 < sizeI s' then (if sizeI s' = (m : Int) then 0 else 10) else 1

def msS (s : List Int) (m : Nat) (s' : List Int) : List Int := if msE s m s' = 0 then s' else []

def msL (s : List Int) (m : Nat) (s' l : List Int) : List Int := if msE s m s' = 0 then l else []

theorem msE_iff {s s' : List Int} {m : Nat} : msE s m s' = 0 ↔ tenOk s m = true ∧ 0 < sizeI s' ∧ sizeI s' = (m : Int) := by
  unfold msE
  by_cases h : tenOk s m = true ∧ 0 < sizeI s'
  · rw [if_pos h]
    by_cases h2 : sizeI s' = (m : Int)
    · rw [if_pos h2]; exact ⟨fun _ => ⟨h.1, h.2, h2⟩, fun _ => rfl⟩
    · rw [if_neg h2]; exact ⟨fun e => absurd e (by decide), fun e => absurd e.2.2 h2⟩
  · rw [if_neg h]; exact ⟨fun e => absurd e (by decide), fun e => absurd ⟨e.1, e.2.1⟩ h⟩

theorem msE_all (s : List Int) (m : Nat) (s' : List Int) : msE s m s' = 0 ∨ msE s m s' = 1 ∨ msE s m s' = 10 := by
  unfold msE
  split
  · split
    · exact .inl rfl
    · exact .inr (.inr rfl)
  · exact .inr (.inl rfl)

set_option maxHeartbeats 4000000 in
theorem mshape_own (A B A' : Option Addr) (n c m d n' c' : Nat) (s l s' : List Int) (w : World) (hA : Lies w A n (s.map (Value.int .i64))) (hB : Lies w B m (l.map (Value.int .i32))) (hA' : Lies w A' n' (s'.map (Value.int .i64))) (hn : n ≤ 281474976710656) (hn' : n' ≤ 281474976710656) :
    Calls Tryz.prog 27 #[tenV A n c B m d, .slice A' n' c'] w fun e w' => ∃ A1 k1 c1 A2 k2 c2, e = .returned (.tuple #[tenV A1 k1 c1 A2 k2 c2, .int .i64 (msE s m s')]) ∧
      w'.ownsRow w.heap.size 3 1 (.slice A1 k1 c1) k1 ((msS s m s').map (Value.int .i64)) ∧ w'.ownsRow w.heap.size 21 1 (.slice A2 k2 c2) k2 ((msL s m s' l).map (Value.int .i32)) ∧ k1 ≤ 4 ∧ k2 ≤ 4096 ∧ Below w.heap.size w w' := by
  obtain ⟨W0, hW0⟩ : ∃ W0, W0 = (w.alloc (.cells #[.slice A n c, .slice B m d] 60)).alloc (.cells #[.slice none 0 0, .slice none 0 0] 60) := ⟨_, rfl⟩
  have HB0 : Hid (Below w.heap.size w W0) := hide (by rw [hW0]; exact ((Below.refl w.heap.size w).alloc (Nat.le_refl _) _).alloc (by simp only [World.size_alloc]; omega) _)
  have hs0 : W0.heap.size = w.heap.size + 2 := by rw [hW0]; simp
  have HX0 : Hid (BoxT W0 w.heap.size (.slice A n c) (.slice B m d)) := hide (by rw [hW0]; exact (BoxT.new w _ _).alloc _)
  have HXR : Hid (BoxT W0 (w.heap.size + 1) (.slice none 0 0) (.slice none 0 0)) := hide (by
    rw [hW0]
    have h := BoxT.new (w.alloc (.cells #[.slice A n c, .slice B m d] 60)) (.slice none 0 0) (.slice none 0 0)
    rwa [World.size_alloc] at h)
  have hW0' := hW0.symm
  clear hW0
  have HA := hide (hA.below HB0.out)
  have HB := hide (hB.below HB0.out)
  have HA' := hide (hA'.below HB0.out)
  have HLL : Hid (s'.length = n') := hide (lies_len9 hA')
  clear hA hB hA'
  obtain ⟨E, hE⟩ : ∃ z, z = msE s m s' := ⟨_, rfl⟩
  rw [← hE]
  have HE := hide hE
  clear hE
  have a0 := HX0.out.c0
  have a1 := HX0.out.c1
  go_enter Tryz.func27, Tryz.ntmps27
  go_wp2_with fail
  refine Calls.mono (tcheck_any A B n c m d s _ HA.out hn) ?_
  rintro e w1 ⟨rfl, hb1⟩
  clear a0 a1
  have HB1 := hide hb1
  clear hb1
  by_cases hok : tenOk s m = true
  rotate_left
  · have hno : tenOk s m = false := by simpa using hok
    rw [hno]
    have HEE : E = 1 := by rw [HE.out, msE, if_neg (fun h => hok h.1)]
    have r0 := (HXR.out.kept HB1.out).c0
    have r1 := (HXR.out.kept HB1.out).c1
    have rf0 := (HXR.out.kept HB1.out).f0 0
    have rf1 := (HXR.out.kept HB1.out).f0 1
    have HBB := hide (HB0.out.trans (HB1.out.mono (by omega)))
    have HXF := hide (HXR.out.kept HB1.out)
    go_wp2
    (try simp only [Exit.inBlock, Exit.then])
    refine ret_ten (p := 4) (u := 5) rfl rfl (w.heap.size + 1) _ rfl (HXF.out.set2 _ _) rfl ?_
    have hne : ¬ E = 0 := by omega
    exact ⟨none, 0, 0, none, 0, 0, by rw [HEE]; rfl, by rw [msS, if_neg (by rw [← HE.out]; exact hne)]; exact World.ownsRow_nil _ _ _ _, by rw [msL, if_neg (by rw [← HE.out]; exact hne)]; exact World.ownsRow_nil _ _ _ _, by omega, by omega, (HBB.out.setCell (by dsimp only; omega) _).setCell (by dsimp only; omega) _⟩
  rw [hok]
  have HOK := hide hok
  clear hok
  have a0 := (HX0.out.kept HB1.out).c0
  have a1 := (HX0.out.kept HB1.out).c1
  go_wp2_with fail
  refine Calls.mono (check_any A' n' c' s' _ (HA'.out.below HB1.out) hn') ?_
  rintro e w2 ⟨rfl, hb20⟩
  have HB2 := hide (below_nx6 HB1.out hb20)
  clear hb20 a0 a1
  by_cases hz : 0 < sizeI s'
  rotate_left
  · have HZ := hide hz
    rw [decide_eq_false hz]
    clear hz
    have HEE : E = 1 := by rw [HE.out, msE, if_neg (fun h => HZ.out h.2)]
    have r0 := (HXR.out.kept HB2.out).c0
    have r1 := (HXR.out.kept HB2.out).c1
    have rf0 := (HXR.out.kept HB2.out).f0 0
    have rf1 := (HXR.out.kept HB2.out).f0 1
    have HBB := hide (HB0.out.trans (HB2.out.mono (by omega)))
    have HXF := hide (HXR.out.kept HB2.out)
    go_wp2
    (try simp only [Exit.inBlock, Exit.then])
    refine ret_ten (p := 4) (u := 5) rfl rfl (w.heap.size + 1) _ rfl (HXF.out.set2 _ _) rfl ?_
    have hne : ¬ E = 0 := by omega
    exact ⟨none, 0, 0, none, 0, 0, by rw [HEE]; rfl, by rw [msS, if_neg (by rw [← HE.out]; exact hne)]; exact World.ownsRow_nil _ _ _ _, by rw [msL, if_neg (by rw [← HE.out]; exact hne)]; exact World.ownsRow_nil _ _ _ _, by omega, by omega, (HBB.out.setCell (by dsimp only; omega) _).setCell (by dsimp only; omega) _⟩
  rw [decide_eq_true hz]
  have HZ := hide hz
  clear hz
  obtain ⟨Z, hZ⟩ : ∃ z, z = sizeI s' := ⟨_, rfl⟩
  have HZV := hide hZ
  clear hZ
  have HC : Hid (∀ v, Below w2.heap.size w2 v → v.cell? ⟨w.heap.size, 1, none⟩ = some (.slice B m d)) := hide (fun v hv => (HX0.out.kept (below_nx6 HB2.out hv)).c1)
  have hd0 : Below w2.heap.size w2 w2.drew := below_drewN (Below.refl _ _) 1
  go_wp2
  by_cases hq : Z = (m : Int)
  rotate_left
  · have e1 : (Z == (m : Int)) = false := by simpa using hq
    have hS0 : Hid (w2.drew.cell? ⟨w.heap.size, 1, none⟩ = some (.slice B m d)) := hide (HC.out _ hd0)
    refine wp_region_U (fun _ v => v.cell? ⟨w.heap.size, 1, none⟩ = some (.slice B m d)) 99 (by kernel_rfl) ?_
    refine wpAnyU_take (i := 0) (oi := { dst := some 15, op := _, type := _, pos := _, after := _, guard := none }) (v := .slice A' n' c') rfl (by kernel_rfl) (by kernel_rfl) (by kernel_rfl) (by kernel_rfl) (fun _ _ _ h => h) (yields_take rfl (fun w' hw => by have h1 := hw.const; go_simp)) hS0.out ?_
    simp only [Act.put, List.setIfInBounds_toArray, List.set_cons_zero, List.set_cons_succ]
    refine wpAnyU_take (i := 2) (oi := { dst := some 17, op := _, type := _, pos := _, after := _, guard := none }) (v := .pointer (some ⟨w.heap.size, 1, none⟩)) rfl (by kernel_rfl) (by kernel_rfl) (by kernel_rfl) (by kernel_rfl) (fun _ _ _ h => h) (yields_take rfl (fun w' hw => by have h1 := hw.const; go_simp)) hS0.out ?_
    simp only [Act.put, List.setIfInBounds_toArray, List.set_cons_zero, List.set_cons_succ]
    refine wpAnyU_take (i := 3) (oi := { dst := some 18, op := _, type := _, pos := _, after := _, guard := none }) (v := .slice B m d) rfl (by kernel_rfl) (by kernel_rfl) (by kernel_rfl) (by kernel_rfl) (fun _ _ _ h => h) (yields_take rfl (fun w' hw => by have h1 := hw.const; go_simp)) hS0.out ?_
    simp only [Act.put, List.setIfInBounds_toArray, List.set_cons_zero, List.set_cons_succ]
    refine wpAnyU_take (i := 4) (oi := { dst := some 19, op := _, type := _, pos := _, after := _, guard := none }) (v := .int .i64 (m : Int)) rfl (by kernel_rfl) (by kernel_rfl) (by kernel_rfl) (by kernel_rfl) (fun _ _ _ h => h) (yields_take rfl (fun w' hw => by have h1 := hw.const; go_simp)) hS0.out ?_
    simp only [Act.put, List.setIfInBounds_toArray, List.set_cons_zero, List.set_cons_succ]
    refine wpAnyU_one (i := 1) (by kernel_rfl) rfl ?_
    intro K hK
    go_simp
    refine Calls.mono (size_any A' n' c' s' _ (HA'.out.below (below_nx6 HB2.out hd0)) hn') ?_
    rintro e w3 ⟨rfl, hb⟩
    dsimp only
    have hd3 : Below w2.heap.size w2 w3 := below_nx6 hd0 hb
    clear hb
    have hS1 : Hid (w3.cell? ⟨w.heap.size, 1, none⟩ = some (.slice B m d)) := hide (HC.out _ hd3)
    refine hK.out _ _ hS1.out (fun _ => ?_)
    clear hK K hS0
    rw [← HZV.out]
    refine wpAnyU_take (i := 5) (oi := { dst := some 20, op := _, type := _, pos := _, after := _, guard := none }) (v := .bool true) rfl (by kernel_rfl) (by kernel_rfl) (by kernel_rfl) (by kernel_rfl) (fun _ _ _ h => h) (yields_take rfl (fun w' hw => by have h1 := hw.const; go_simp)) hS1.out ?_
    simp only [Act.put, List.setIfInBounds_toArray, List.set_cons_zero, List.set_cons_succ]
    refine wpAnyU_done (by kernel_rfl) ?_ _
    clear hS1
    have HB3 := hide (below_nx6 HB2.out hd3)
    have HQ := hide hq
    clear hd0 hd3 hq
    have HEE : E = 10 := by rw [HE.out, msE, if_pos ⟨HOK.out, HZ.out⟩, if_neg (by rw [← HZV.out]; exact HQ.out)]
    have r0 := (HXR.out.kept HB3.out).c0
    have r1 := (HXR.out.kept HB3.out).c1
    have rf0 := (HXR.out.kept HB3.out).f0 0
    have rf1 := (HXR.out.kept HB3.out).f0 1
    have HBB := hide (HB0.out.trans (HB3.out.mono (by omega)))
    have HXF := hide (HXR.out.kept HB3.out)
    go_wp2
    (try simp only [Exit.inBlock, Exit.then])
    refine ret_ten (p := 4) (u := 5) rfl rfl (w.heap.size + 1) _ rfl (HXF.out.set2 _ _) rfl ?_
    have hne : ¬ E = 0 := by omega
    exact ⟨none, 0, 0, none, 0, 0, by rw [HEE]; rfl, by rw [msS, if_neg (by rw [← HE.out]; exact hne)]; exact World.ownsRow_nil _ _ _ _, by rw [msL, if_neg (by rw [← HE.out]; exact hne)]; exact World.ownsRow_nil _ _ _ _, by omega, by omega, (HBB.out.setCell (by dsimp only; omega) _).setCell (by dsimp only; omega) _⟩
  have e1 : (Z == (m : Int)) = true := by simpa using hq
  have hS0 : Hid (w2.drew.cell? ⟨w.heap.size, 1, none⟩ = some (.slice B m d)) := hide (HC.out _ hd0)
  refine wp_region_U (fun _ v => v.cell? ⟨w.heap.size, 1, none⟩ = some (.slice B m d)) 99 (by kernel_rfl) ?_
  refine wpAnyU_take (i := 0) (oi := { dst := some 15, op := _, type := _, pos := _, after := _, guard := none }) (v := .slice A' n' c') rfl (by kernel_rfl) (by kernel_rfl) (by kernel_rfl) (by kernel_rfl) (fun _ _ _ h => h) (yields_take rfl (fun w' hw => by have h1 := hw.const; go_simp)) hS0.out ?_
  simp only [Act.put, List.setIfInBounds_toArray, List.set_cons_zero, List.set_cons_succ]
  refine wpAnyU_take (i := 2) (oi := { dst := some 17, op := _, type := _, pos := _, after := _, guard := none }) (v := .pointer (some ⟨w.heap.size, 1, none⟩)) rfl (by kernel_rfl) (by kernel_rfl) (by kernel_rfl) (by kernel_rfl) (fun _ _ _ h => h) (yields_take rfl (fun w' hw => by have h1 := hw.const; go_simp)) hS0.out ?_
  simp only [Act.put, List.setIfInBounds_toArray, List.set_cons_zero, List.set_cons_succ]
  refine wpAnyU_take (i := 3) (oi := { dst := some 18, op := _, type := _, pos := _, after := _, guard := none }) (v := .slice B m d) rfl (by kernel_rfl) (by kernel_rfl) (by kernel_rfl) (by kernel_rfl) (fun _ _ _ h => h) (yields_take rfl (fun w' hw => by have h1 := hw.const; go_simp)) hS0.out ?_
  simp only [Act.put, List.setIfInBounds_toArray, List.set_cons_zero, List.set_cons_succ]
  refine wpAnyU_take (i := 4) (oi := { dst := some 19, op := _, type := _, pos := _, after := _, guard := none }) (v := .int .i64 (m : Int)) rfl (by kernel_rfl) (by kernel_rfl) (by kernel_rfl) (by kernel_rfl) (fun _ _ _ h => h) (yields_take rfl (fun w' hw => by have h1 := hw.const; go_simp)) hS0.out ?_
  simp only [Act.put, List.setIfInBounds_toArray, List.set_cons_zero, List.set_cons_succ]
  refine wpAnyU_one (i := 1) (by kernel_rfl) rfl ?_
  intro K hK
  go_simp
  refine Calls.mono (size_any A' n' c' s' _ (HA'.out.below (below_nx6 HB2.out hd0)) hn') ?_
  rintro e w3 ⟨rfl, hb⟩
  dsimp only
  have hd3 : Below w2.heap.size w2 w3 := below_nx6 hd0 hb
  clear hb
  have hS1 : Hid (w3.cell? ⟨w.heap.size, 1, none⟩ = some (.slice B m d)) := hide (HC.out _ hd3)
  refine hK.out _ _ hS1.out (fun _ => ?_)
  clear hK K hS0
  rw [← HZV.out]
  refine wpAnyU_take (i := 5) (oi := { dst := some 20, op := _, type := _, pos := _, after := _, guard := none }) (v := .bool false) rfl (by kernel_rfl) (by kernel_rfl) (by kernel_rfl) (by kernel_rfl) (fun _ _ _ h => h) (yields_take rfl (fun w' hw => by have h1 := hw.const; go_simp)) hS1.out ?_
  simp only [Act.put, List.setIfInBounds_toArray, List.set_cons_zero, List.set_cons_succ]
  refine wpAnyU_done (by kernel_rfl) ?_ _
  clear hS1
  have HB3 := hide (below_nx6 HB2.out hd3)
  have hEE : E = 0 := by rw [HE.out]; exact msE_iff.2 ⟨HOK.out, HZ.out, by rw [← HZV.out]; exact hq⟩
  clear hd0 hd3 e1 HC
  obtain ⟨hz1, hz4, _⟩ := sizeI_pos HZ.out
  rw [HLL.out] at hz1 hz4
  have hm4 := sizeI_le s'
  have hZV := HZV.out
  have hmp : 0 < m := by have := HZ.out; omega
  have hm4' : m ≤ 4096 := by omega
  clear hq hm4 hZV
  have HC : Hid (∀ v, Below W0.heap.size W0 v → v.cell? ⟨w.heap.size, 1, none⟩ = some (.slice B m d) ∧ BoxT v (w.heap.size + 1) (.slice none 0 0) (.slice none 0 0)) := hide (fun v hv => ⟨(HX0.out.kept hv).c1, HXR.out.kept hv⟩)
  have he0 := HB3.out
  go_wp2
  have hS0 : Hid (w3.drew.cell? ⟨w.heap.size, 1, none⟩ = some (.slice B m d)) := hide ((HC.out _ (below_drewN he0 1)).1)
  refine wp_region_U (fun _ v => v.cell? ⟨w.heap.size, 1, none⟩ = some (.slice B m d)) 99 (by kernel_rfl) ?_
  refine wpAnyU_take (i := 0) (oi := { dst := some 22, op := _, type := _, pos := _, after := _, guard := none }) (v := .slice A' n' c') rfl (by kernel_rfl) (by kernel_rfl) (by kernel_rfl) (by kernel_rfl) (fun _ _ _ h => h) (yields_take rfl (fun w' hw => by have h1 := hw.const; go_simp)) hS0.out ?_
  simp only [Act.put, List.setIfInBounds_toArray, List.set_cons_zero, List.set_cons_succ]
  refine wpAnyU_take (i := 2) (oi := { dst := some 24, op := _, type := _, pos := _, after := _, guard := none }) (v := .pointer (some ⟨w.heap.size, 1, none⟩)) rfl (by kernel_rfl) (by kernel_rfl) (by kernel_rfl) (by kernel_rfl) (fun _ _ _ h => h) (yields_take rfl (fun w' hw => by have h1 := hw.const; go_simp)) hS0.out ?_
  simp only [Act.put, List.setIfInBounds_toArray, List.set_cons_zero, List.set_cons_succ]
  refine wpAnyU_take (i := 3) (oi := { dst := some 25, op := _, type := _, pos := _, after := _, guard := none }) (v := .slice B m d) rfl (by kernel_rfl) (by kernel_rfl) (by kernel_rfl) (by kernel_rfl) (fun _ _ _ h => h) (yields_take rfl (fun w' hw => by have h1 := hw.const; go_simp)) hS0.out ?_
  simp only [Act.put, List.setIfInBounds_toArray, List.set_cons_zero, List.set_cons_succ]
  generalize hU0 : w3.drew = U0
  have he : Below W0.heap.size W0 U0 := by rw [← hU0]; exact below_drewN he0 1
  rw [hU0] at hS0
  clear hU0 he0
  refine wpAnyU_one (i := 1) (by kernel_rfl) rfl ?_
  intro K hK
  go_simp
  refine Calls.mono (clone_ints A' n' c' s' _ (HA'.out.below he) hz1 (by omega)) ?_
  rintro e U1 ⟨q1, k1, rfl, FC1, hb⟩
  dsimp only
  have hs1 := he.size
  replace he : Below W0.heap.size W0 U1 := below_nx6 he hb
  clear hb
  have hS1 : Hid (U1.cell? ⟨w.heap.size, 1, none⟩ = some (.slice B m d)) := hide ((HC.out _ he).1)
  refine hK _ _ hS1.out (fun _ => ?_)
  clear hK K hS0
  refine wpAnyU_one (i := 4) (by kernel_rfl) rfl ?_
  intro K hK
  go_simp
  refine Calls.mono (clone_nums B m d l _ (HB.out.below he) hmp (by omega)) ?_
  rintro e U2 ⟨q2, k2, rfl, FC2, hb⟩
  dsimp only
  have hs2 := he.size
  replace FC1 := own_below FC1 hb
  replace he : Below W0.heap.size W0 U2 := below_nx6 he hb
  clear hb
  have hS2 : Hid (U2.cell? ⟨w.heap.size, 1, none⟩ = some (.slice B m d)) := hide ((HC.out _ he).1)
  refine hK _ _ hS2.out (fun _ => ?_)
  clear hK K hS1
  refine wpAnyU_take (i := 5) (oi := { dst := some 27, op := _, type := _, pos := _, after := _, guard := none }) (v := .agg #[.slice (some ⟨q1, 0, none⟩) n' k1, .slice (some ⟨q2, 0, none⟩) m k2]) rfl (by kernel_rfl) (by kernel_rfl) (by kernel_rfl) (by kernel_rfl) (fun _ _ _ h => h) (yields_take rfl (fun w' hw => by have h1 := hw.const; go_simp)) hS2.out ?_
  simp only [Act.put, List.setIfInBounds_toArray, List.set_cons_zero, List.set_cons_succ]
  have hl1 := FC1.lt q1 rfl
  have hl2 := FC2.lt q2 rfl
  have HXF := hide (HXR.out.kept he)
  have r0 := HXF.out.c0
  have r1 := HXF.out.c1
  have rf0 := HXF.out.f0 0
  have rf1 := HXF.out.f0 1
  have hW1 : W0.heap.size ≤ U2.heap.size := he.size
  have HBF : Hid (Below w.heap.size w U2) := hide (HB0.out.trans (he.mono (by omega)))
  have hb1 : w.heap.size + 2 ≤ q1 := by have := (FC1.lt q1 rfl).1; omega
  have hb2 : w.heap.size + 2 ≤ q2 := by have := (FC2.lt q2 rfl).1; omega
  have HF1 := hide (own_base FC1 (base' := w.heap.size) (by omega))
  have HF2 := hide (own_base FC2 (base' := w.heap.size) (by omega))
  refine wpAnyU_one (i := 6) (by kernel_rfl) rfl ?_
  intro K hK
  go_simp
  have hS3 : Hid (((U2.setCell ⟨w.heap.size + 1, 0, none⟩ (.slice (some ⟨q1, 0, none⟩) n' k1)).setCell ⟨w.heap.size + 1, 1, none⟩ (.slice (some ⟨q2, 0, none⟩) m k2)).cell? ⟨w.heap.size, 1, none⟩ = some (.slice B m d)) := hide ((World.cell?_of_block ((Below.heap_setCell _ _ _ _ (by dsimp only; omega)).trans (Below.heap_setCell _ _ _ _ (by dsimp only; omega)))).trans (HC.out _ he).1)
  refine hK.out _ _ hS3.out (fun _ => ?_)
  clear hK K hS2
  refine wpAnyU_take (i := 7) (oi := { dst := some 5, op := _, type := _, pos := _, after := _, guard := none }) (v := .int .i64 0) rfl (by kernel_rfl) (by kernel_rfl) (by kernel_rfl) (by kernel_rfl) (fun _ _ _ h => h) (yields_take rfl (fun w' hw => by have h1 := hw.const; go_simp)) hS3.out ?_
  simp only [Act.put, List.setIfInBounds_toArray, List.set_cons_zero, List.set_cons_succ]
  refine wpAnyU_done (by kernel_rfl) ?_ _
  clear hS3
  go_wp2
  (try simp only [Exit.inBlock, Exit.then])
  refine ret_ten (p := 4) (u := 5) rfl rfl (w.heap.size + 1) _ rfl (HXF.out.set2 _ _) rfl ?_
  have hE0 : msE s m s' = 0 := by rw [← HE.out]; exact hEE
  exact ⟨_, _, _, _, _, _, by rw [hEE]; rfl, by rw [msS, if_pos hE0]; exact own_setCell' (own_setCell' HF1.out (by dsimp only; omega) _) (by dsimp only; omega) _, by rw [msL, if_pos hE0]; exact own_setCell' (own_setCell' HF2.out (by dsimp only; omega) _) (by dsimp only; omega) _, by omega, by omega, (HBF.out.setCell (by dsimp only; omega) _).setCell (by dsimp only; omega) _⟩

end Go.Proofs.YtomhbhhfbbdilaaGreatDoor
