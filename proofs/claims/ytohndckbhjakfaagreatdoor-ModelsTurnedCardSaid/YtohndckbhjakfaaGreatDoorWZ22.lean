/- Merged: Gr6. -/
import Derived.Test.YtohndckbhjakfaaGreatDoorWZ12
import Derived.Test.YtohndckbhjakfaaGreatDoorWZ21
namespace Go.Proofs.YtohndckbhjakfaaGreatDoor

section
open Go.RowKit
set_option linter.unusedVariables false
set_option linter.unusedSimpArgs false
set_option maxRecDepth 100000

/-- What another order of a shape's directions comes to. -/
def gtE (s u : List Int) : Int := if u.length = s.length then 0 else 1

def gtS (s u : List Int) : List Int := if u.length = s.length then pickL s u else []

/-- What a shape without a direction comes to. -/
def gsE (s : List Int) (d : Int) : Int := if d < (s.length : Int) then 0 else 1

def gsS (s : List Int) (d : Int) : List Int := if d < (s.length : Int) then woL s d.toNat else []

theorem isOrd_iff {u : List Int} : isOrd u = true ↔ 1 ≤ u.length ∧ u.length ≤ 4 ∧ ordOk u u.length = true := by
  simp [isOrd, and_assoc]

set_option maxHeartbeats 2000000 in
theorem kturned_any (p : Nat) (A : Option Addr) (n c : Nat) (gs : List Sg) (x : Nd) (w : World) (hK : KnAt w p A n c gs) (hx : x.Ok w) (hin : 1 ≤ x.ni) (hal : allKn x.xs n = true) (hpos : ∀ g ∈ gs, 0 < sizeI g.s) (hio : isOrd x.sh = true) :
    Calls Tryz.prog 96 #[.pointer (some ⟨p, 0, none⟩), x.v] w fun e w' => ∃ R k kc, e = .returned (.tuple #[.slice R k kc, .int .i64 (gtE (kn gs x.xs 0) x.sh)]) ∧ w'.ownsRow w.heap.size 3 1 (.slice R k kc) k ((gtS (kn gs x.xs 0) x.sh).map (Value.int .i64)) ∧ k ≤ 4 ∧ Below w.heap.size w w' := by
  unfold Nd.v
  obtain ⟨W0, hW0⟩ : ∃ W0, W0 = w.alloc (.cells #[.int .u8 x.kd, .slice x.I x.ni x.ci, .slice x.S x.ns x.cs, .int .i64 x.N, .int .i64 x.P] 44) := ⟨_, rfl⟩
  have HB0 : Hid (Below w.heap.size w W0) := hide (by rw [hW0]; exact below_al6 (Below.refl _ _))
  have HX : Hid (BoxN W0 w.heap.size x) := hide (by rw [hW0]; exact BoxN.new w x)
  have HK := hide (hK.below HB0.out)
  have HO := hide (hx.below HB0.out)
  have HLI : Hid (x.xs.length = x.ni) := hide (lies_len9 hx.1)
  have HLS : Hid (x.sh.length = x.ns) := hide (lies_len9 hx.2.1)
  have hW0' := hW0.symm
  clear hW0 hK hx
  obtain ⟨i0, g0, hi0, hin0, hgj0, hkn0⟩ := kn_at (j := 0) HK.out.2.1 hal (by rw [HLI.out]; omega)
  have HI0 := hide hi0
  have HG0 := hide hgj0
  have HN0 := hide hkn0
  obtain ⟨hs0, hb0, h40⟩ := HK.out.2.2.2 g0 (List.mem_of_getElem? hgj0)
  have HS0 := hide hs0
  have hp0 : 1 ≤ g0.n := by have h := (sizeI_pos (hpos g0 (List.mem_of_getElem? hgj0))).1; rw [lies_len9 hs0] at h; exact h
  clear hi0 hgj0 hkn0 hs0
  obtain ⟨bK, oK, rfl, _, hxK⟩ := HK.out.2.2.1 (by omega)
  obtain ⟨bI, oI, hAI, _, _⟩ := byte_at HO.out.1 (by omega)
  have HAI := hide hAI
  clear hAI hxK
  have HC : Hid (∀ v, Below W0.heap.size W0 v → v.cell? ⟨p, 0, none⟩ = some (.slice (some ⟨bK, oK, none⟩) n c) ∧ v.cell? ⟨w.heap.size, 1, none⟩ = some (.slice (some ⟨bI, oI, none⟩) x.ni x.ci) ∧ v.cell? ⟨bI, oI, none⟩ = some (.int .i64 (i0 : Int)) ∧ v.cell? ⟨bK, oK + i0, none⟩ = some (.slice g0.A g0.n g0.c) ∧ v.cell? ⟨w.heap.size, 2, none⟩ = some (.slice x.S x.ns x.cs) ∧ v.cell? ⟨w.heap.size, 3, none⟩ = some (.int .i64 x.N) ∧ v.cell? ⟨w.heap.size, 4, none⟩ = some (.int .i64 x.P)) := hide (fun v hv => by
    obtain ⟨q0, q1, q2, q3, q4⟩ := (HX.out.kept hv).cs
    have kv := HK.out.below hv
    rw [HAI.out] at q1
    obtain ⟨_, _, eI, _, hxI⟩ := byte_at (HO.out.1.below hv) (by omega)
    rw [HAI.out] at eI
    cases eI
    obtain ⟨_, _, eK, _, hxK⟩ := kv.2.2.1 (by omega)
    cases eK
    have z0 := hxI 0 (by omega)
    rw [HI0.out, Nat.add_zero] at z0
    exact ⟨kv.c0, q1, z0, hxK i0 g0 HG0.out, q2, q3, q4⟩)
  have j00 : (0 : Int) ≤ (i0 : Int) := by omega
  have j10 : (i0 : Int) < (n : Int) := by omega
  have jz0 : ¬ x.ni = 0 := by omega
  have jn : (0 : Int) < (x.ni : Int) := by omega
  have hd0 : Below W0.heap.size W0 W0.drew := below_drewN (Below.refl _ _) 1
  obtain ⟨E, hE⟩ : ∃ z : Int, z = gtE (kn gs x.xs 0) x.sh := ⟨_, rfl⟩
  obtain ⟨SS, hSS⟩ : ∃ z : List Int, z = gtS (kn gs x.xs 0) x.sh := ⟨_, rfl⟩
  rw [← hE, ← hSS]
  have HE := hide hE
  have HSS := hide hSS
  clear hE hSS
  go_enter Tryz.func96, Tryz.ntmps96
  go_wp2
  have hS0 : Hid (W0.drew.cell? ⟨p, 0, none⟩ = some (.slice (some ⟨bK, oK, none⟩) n c) ∧ W0.drew.cell? ⟨w.heap.size, 1, none⟩ = some (.slice (some ⟨bI, oI, none⟩) x.ni x.ci) ∧ W0.drew.cell? ⟨bI, oI, none⟩ = some (.int .i64 (i0 : Int)) ∧ W0.drew.cell? ⟨bK, oK + i0, none⟩ = some (.slice g0.A g0.n g0.c) ∧ W0.drew.cell? ⟨w.heap.size, 2, none⟩ = some (.slice x.S x.ns x.cs) ∧ W0.drew.cell? ⟨w.heap.size, 3, none⟩ = some (.int .i64 x.N) ∧ W0.drew.cell? ⟨w.heap.size, 4, none⟩ = some (.int .i64 x.P)) := hide (HC.out _ hd0)
  refine wp_region_U (fun _ v => v.cell? ⟨p, 0, none⟩ = some (.slice (some ⟨bK, oK, none⟩) n c) ∧ v.cell? ⟨w.heap.size, 1, none⟩ = some (.slice (some ⟨bI, oI, none⟩) x.ni x.ci) ∧ v.cell? ⟨bI, oI, none⟩ = some (.int .i64 (i0 : Int)) ∧ v.cell? ⟨bK, oK + i0, none⟩ = some (.slice g0.A g0.n g0.c) ∧ v.cell? ⟨w.heap.size, 2, none⟩ = some (.slice x.S x.ns x.cs) ∧ v.cell? ⟨w.heap.size, 3, none⟩ = some (.int .i64 x.N) ∧ v.cell? ⟨w.heap.size, 4, none⟩ = some (.int .i64 x.P)) 99 (by kernel_rfl) ?_
  refine wpAnyU_take (i := 0) (oi := { dst := some 10, op := _, type := _, pos := _, after := _, guard := none }) (v := .pointer (some ⟨p, 0, none⟩)) rfl (by kernel_rfl) (by kernel_rfl) (by kernel_rfl) (by kernel_rfl) (fun _ _ _ h => h) (yields_take rfl (fun w' hw => by obtain ⟨h1, h2, h3, h4, h5, h6, h7⟩ := hw.const; go_simp)) hS0.out ?_
  simp only [Act.put, List.setIfInBounds_toArray, List.set_cons_zero, List.set_cons_succ]
  refine wpAnyU_take (i := 1) (oi := { dst := some 11, op := _, type := _, pos := _, after := _, guard := none }) (v := .pointer (some ⟨p, 0, none⟩)) rfl (by kernel_rfl) (by kernel_rfl) (by kernel_rfl) (by kernel_rfl) (fun _ _ _ h => h) (yields_take rfl (fun w' hw => by obtain ⟨h1, h2, h3, h4, h5, h6, h7⟩ := hw.const; go_simp)) hS0.out ?_
  simp only [Act.put, List.setIfInBounds_toArray, List.set_cons_zero, List.set_cons_succ]
  refine wpAnyU_take (i := 2) (oi := { dst := some 12, op := _, type := _, pos := _, after := _, guard := none }) (v := .pointer (some ⟨p, 0, none⟩)) rfl (by kernel_rfl) (by kernel_rfl) (by kernel_rfl) (by kernel_rfl) (fun _ _ _ h => h) (yields_take rfl (fun w' hw => by obtain ⟨h1, h2, h3, h4, h5, h6, h7⟩ := hw.const; go_simp)) hS0.out ?_
  simp only [Act.put, List.setIfInBounds_toArray, List.set_cons_zero, List.set_cons_succ]
  refine wpAnyU_take (i := 3) (oi := { dst := some 13, op := _, type := _, pos := _, after := _, guard := none }) (v := .slice (some ⟨bK, oK, none⟩) n c) rfl (by kernel_rfl) (by kernel_rfl) (by kernel_rfl) (by kernel_rfl) (fun _ _ _ h => h) (yields_take rfl (fun w' hw => by obtain ⟨h1, h2, h3, h4, h5, h6, h7⟩ := hw.const; go_simp)) hS0.out ?_
  simp only [Act.put, List.setIfInBounds_toArray, List.set_cons_zero, List.set_cons_succ]
  refine wpAnyU_take (i := 4) (oi := { dst := some 14, op := _, type := _, pos := _, after := _, guard := none }) (v := .pointer (some ⟨w.heap.size, 1, none⟩)) rfl (by kernel_rfl) (by kernel_rfl) (by kernel_rfl) (by kernel_rfl) (fun _ _ _ h => h) (yields_take rfl (fun w' hw => by obtain ⟨h1, h2, h3, h4, h5, h6, h7⟩ := hw.const; go_simp)) hS0.out ?_
  simp only [Act.put, List.setIfInBounds_toArray, List.set_cons_zero, List.set_cons_succ]
  refine wpAnyU_take (i := 5) (oi := { dst := some 15, op := _, type := _, pos := _, after := _, guard := none }) (v := .slice (some ⟨bI, oI, none⟩) x.ni x.ci) rfl (by kernel_rfl) (by kernel_rfl) (by kernel_rfl) (by kernel_rfl) (fun _ _ _ h => h) (yields_take rfl (fun w' hw => by obtain ⟨h1, h2, h3, h4, h5, h6, h7⟩ := hw.const; go_simp)) hS0.out ?_
  simp only [Act.put, List.setIfInBounds_toArray, List.set_cons_zero, List.set_cons_succ]
  refine wpAnyU_take (i := 6) (oi := { dst := some 16, op := _, type := _, pos := _, after := _, guard := none }) (v := .pointer (some ⟨bI, oI, none⟩)) rfl (by kernel_rfl) (by kernel_rfl) (by kernel_rfl) (by kernel_rfl) (fun _ _ _ h => h) (yields_take rfl (fun w' hw => by obtain ⟨h1, h2, h3, h4, h5, h6, h7⟩ := hw.const; go_simp)) hS0.out ?_
  simp only [Act.put, List.setIfInBounds_toArray, List.set_cons_zero, List.set_cons_succ]
  refine wpAnyU_take (i := 7) (oi := { dst := some 17, op := _, type := _, pos := _, after := _, guard := none }) (v := .int .i64 (i0 : Int)) rfl (by kernel_rfl) (by kernel_rfl) (by kernel_rfl) (by kernel_rfl) (fun _ _ _ h => h) (yields_take rfl (fun w' hw => by obtain ⟨h1, h2, h3, h4, h5, h6, h7⟩ := hw.const; go_simp)) hS0.out ?_
  simp only [Act.put, List.setIfInBounds_toArray, List.set_cons_zero, List.set_cons_succ]
  refine wpAnyU_take (i := 8) (oi := { dst := some 18, op := _, type := _, pos := _, after := _, guard := none }) (v := .pointer (some ⟨bK, oK + i0, none⟩)) rfl (by kernel_rfl) (by kernel_rfl) (by kernel_rfl) (by kernel_rfl) (fun _ _ _ h => h) (yields_take rfl (fun w' hw => by obtain ⟨h1, h2, h3, h4, h5, h6, h7⟩ := hw.const; go_simp)) hS0.out ?_
  simp only [Act.put, List.setIfInBounds_toArray, List.set_cons_zero, List.set_cons_succ]
  refine wpAnyU_take (i := 9) (oi := { dst := some 19, op := _, type := _, pos := _, after := _, guard := none }) (v := .slice g0.A g0.n g0.c) rfl (by kernel_rfl) (by kernel_rfl) (by kernel_rfl) (by kernel_rfl) (fun _ _ _ h => h) (yields_take rfl (fun w' hw => by obtain ⟨h1, h2, h3, h4, h5, h6, h7⟩ := hw.const; go_simp)) hS0.out ?_
  simp only [Act.put, List.setIfInBounds_toArray, List.set_cons_zero, List.set_cons_succ]
  refine wpAnyU_take (i := 10) (oi := { dst := some 6, op := _, type := _, pos := _, after := _, guard := none }) (v := .slice g0.A g0.n g0.c) rfl (by kernel_rfl) (by kernel_rfl) (by kernel_rfl) (by kernel_rfl) (fun _ _ _ h => h) (yields_take rfl (fun w' hw => by obtain ⟨h1, h2, h3, h4, h5, h6, h7⟩ := hw.const; go_simp)) hS0.out ?_
  simp only [Act.put, List.setIfInBounds_toArray, List.set_cons_zero, List.set_cons_succ]
  refine wpAnyU_done (by kernel_rfl) ?_ _
  clear hS0
  obtain ⟨hi1, hi2, hi3⟩ := isOrd_iff.1 hio
  have HLG : Hid (g0.s.length = g0.n) := hide (lies_len9 HS0.out)
  generalize hU0 : W0.drew = U0
  have he : Below W0.heap.size W0 U0 := by rw [← hU0]; exact hd0
  clear hU0 hd0
  have HBE := hide he
  by_cases hl : x.ns = g0.n
  rotate_left
  · obtain rfl : E = 1 := by rw [HE.out, gtE, HN0.out, if_neg (by rw [HLG.out, HLS.out]; exact hl)]
    have HS9 : Hid (SS = []) := hide (by rw [HSS.out, gtS, HN0.out, if_neg (by rw [HLG.out, HLS.out]; exact hl)])
    obtain ⟨_, _, _, _, q2, q3, q4⟩ := HC.out _ he
    have e1 : ((x.ns : Int) == (g0.n : Int)) = false := by simpa using (by omega : ¬ (x.ns : Int) = (g0.n : Int))
    have e2 : ¬ (x.ns : Int) = (g0.n : Int) := by omega
    clear hl hio hi1 hi2 hi3 he
    go_wp2
    go_ret2
    exact ⟨none, 0, 0, rfl, by rw [HS9.out]; exact World.ownsRow_nil _ _ _ _, by omega, HB0.out.trans (HBE.out.mono HB0.out.size)⟩
  obtain rfl : E = 0 := by rw [HE.out, gtE, HN0.out, if_pos (by rw [HLG.out, HLS.out]; exact hl)]
  have HS9 : Hid (SS = pickL g0.s x.sh) := hide (by rw [HSS.out, gtS, HN0.out, if_pos (by rw [HLG.out, HLS.out]; exact hl)])
  have HU : Hid (∀ j, j < g0.n → 0 ≤ x.sh.getD j 0 ∧ x.sh.getD j 0 < (g0.n : Int)) := hide (by rw [← hl, ← HLS.out]; exact ord_in hi3 hi2)
  clear hio hi1 hi2 hi3
  have hmk := fun v => make_ints9 v g0.n (by omega)
  obtain ⟨W2, hW2⟩ : ∃ W2, W2 = U0.alloc (.cells ((List.replicate g0.n (0 : Int)).map (Value.int .i64)).toArray 3) := ⟨_, rfl⟩
  have hs2 : U0.heap.size < W2.heap.size := by rw [hW2]; simp
  have hus := he.size
  have HB2 : Hid (Below W0.heap.size W0 W2) := hide (by rw [hW2]; exact below_al6 he)
  have HO0 : Hid (W2.ownsRow U0.heap.size 3 1 (.slice (some ⟨U0.heap.size, 0, none⟩) g0.n g0.n) g0.n ((mix9 (pickL g0.s x.sh) (List.replicate g0.n 0) 0).map (Value.int .i64))) := hide (by
    rw [mix9_zero, hW2]
    exact own_of_block (Nat.le_refl _) (heap_alloc_new U0 _) (by simp) (Nat.le_refl _) (by unfold maxLen; omega) (by simp))
  obtain ⟨Z, hZ⟩ : ∃ z, z = pickL g0.s x.sh := ⟨_, rfl⟩
  obtain ⟨Z0, hZ0⟩ : ∃ z : List Int, z = List.replicate g0.n 0 := ⟨_, rfl⟩
  rw [← hZ, ← hZ0] at HO0
  have HZL : Hid (Z.length = Z0.length ∧ Z0.length = g0.n) := hide ⟨by rw [hZ, hZ0, pickL_len, List.length_replicate, HLS.out, hl], by rw [hZ0, List.length_replicate]⟩
  have HZK : Hid (∀ j, j < g0.n → Z.getD j 0 = g0.s.getD (x.sh.getD j 0).toNat 0) := hide (fun j hj => by rw [hZ]; exact pickL_at (by rw [HLS.out, hl]; exact hj))
  have HZ := hide hZ
  obtain ⟨bA, oA, hAA, _, _⟩ := byte_at HS0.out (by omega)
  obtain ⟨bB, oB, hAB, _, _⟩ := byte_at HO.out.2.1 (by omega)
  have HAA := hide hAA
  have HAB := hide hAB
  have HC2 : Hid (∀ v, Below W0.heap.size W0 v → ∀ j, j < g0.n → v.cell? ⟨bB, oB + j, none⟩ = some (.int .i64 (x.sh.getD j 0)) ∧ v.cell? ⟨bA, oA + (x.sh.getD j 0).toNat, none⟩ = some (.int .i64 (g0.s.getD (x.sh.getD j 0).toNat 0))) := hide (fun v hv j hj => by
    obtain ⟨_, _, e1, _, x1⟩ := byte_at (HS0.out.below hv) (by omega)
    rw [HAA.out] at e1
    cases e1
    obtain ⟨_, _, e2, _, x2⟩ := byte_at (HO.out.2.1.below hv) (by omega)
    rw [HAB.out] at e2
    cases e2
    have := HU.out j hj
    exact ⟨x2 j (by omega), x1 _ (by omega)⟩)
  have earr : ((List.replicate g0.n (0 : Int)).map (Value.int .i64)).toArray = Array.replicate g0.n (.int .i64 0) := by simp
  rw [earr] at hW2
  have hW2' := hW2.symm
  obtain ⟨_, _, _, _, p2, p3, p4⟩ := HC.out _ he
  obtain ⟨_, _, _, _, q2, q3, q4⟩ := HC.out _ HB2.out
  rw [hAB, hl] at p2 q2
  rw [hAA]
  have HLN := hide hl
  clear hW2 hZ hZ0 earr hAA hAB hl hp0
  go_wp2
  clear p2 p3 p4 q2 q3 q4
  go_loopw [32] (fun i wr => ∃ j : Nat, j ≤ g0.n ∧ i = .int .i64 (j : Int) ∧ Hid (wr.ownsRow U0.heap.size 3 1 (.slice (some ⟨U0.heap.size, 0, none⟩) g0.n g0.n) g0.n ((mix9 Z Z0 j).map (Value.int .i64))) ∧ Hid (Below W0.heap.size W0 wr)) (fun i _ => g0.n - (intOf i).toNat)
  case atStart => exact ⟨0, Nat.zero_le _, rfl, HO0, HB2⟩
  case round =>
    clear HO0 HB2
    obtain ⟨j, hj, rfl, HOw, HBB⟩ := hrel
    by_cases hlt : j < g0.n
    · obtain ⟨q2, q3⟩ := HC2.out _ HBB.out j hlt
      have hr := HU.out j hlt
      obtain ⟨ui, hui⟩ : ∃ z : Int, z = x.sh.getD j 0 := ⟨_, rfl⟩
      rw [← hui] at q2 q3 hr
      obtain ⟨un, hun⟩ := Int.eq_ofNat_of_zero_le hr.1
      subst hun
      rw [Int.toNat_natCast] at q3
      obtain ⟨y, hy⟩ : ∃ z, z = g0.s.getD un 0 := ⟨_, rfl⟩
      rw [← hy] at q3
      have HV : Hid (Z.getD j 0 = y) := hide (by rw [HZK.out j hlt, ← hui, Int.toNat_natCast, hy])
      have h0 : (0 : Int) ≤ (j : Int) := by omega
      have h1 : (j : Int) < (g0.n : Int) := by omega
      have h2 : (0 : Int) ≤ (un : Int) := hr.1
      have h3 : (un : Int) < (g0.n : Int) := hr.2
      obtain ⟨hg1, hf1⟩ := own_cells9 HOw.out hlt
      obtain ⟨z0, hz0⟩ : ∃ z, z = (mix9 Z Z0 j).getD j 0 := ⟨_, rfl⟩
      rw [← hz0] at hg1
      have HO2 : Hid ((wr.setCell ⟨U0.heap.size, j, none⟩ (.int .i64 y)).ownsRow U0.heap.size 3 1 (.slice (some ⟨U0.heap.size, 0, none⟩) g0.n g0.n) g0.n ((mix9 Z Z0 (j + 1)).map (Value.int .i64))) := hide (by
        have h := own_set9 (v := .int .i64 y) HOw.out hlt
        rw [← List.map_set, ← HV.out, mix9_set HZL.out.1 (by rw [HZL.out.2]; exact hlt), HV.out] at h
        exact h)
      have HB2 : Hid (Below W0.heap.size W0 (wr.setCell ⟨U0.heap.size, j, none⟩ (.int .i64 y))) := hide (HBB.out.setCell (by dsimp only; omega) _)
      clear hr hui hy hz0
      go_wp2
      go_roundw
      case rel => exact ⟨j + 1, by omega, by go_num, HO2, HB2⟩
      case measure => simp [intOf]; omega
    · obtain rfl : j = g0.n := by omega
      have h5 : ¬ ((g0.n : Int) < (g0.n : Int)) := by omega
      have hmx : mix9 Z Z0 g0.n = Z := by rw [← HZL.out.2]; exact mix9_all HZL.out.1
      have HO2 := HOw.out
      rw [hmx, HZ.out] at HO2
      have HO3 := hide HO2
      clear HO2 hmx
      go_wp2
      go_ret2
      exact ⟨some ⟨U0.heap.size, 0, none⟩, g0.n, g0.n, rfl, by rw [HS9.out]; exact own_base HO3.out (by have := HB0.out.size; omega), by omega, HB0.out.trans (HBB.out.mono HB0.out.size)⟩

set_option maxHeartbeats 2000000 in
theorem ksummed_any (p : Nat) (A : Option Addr) (n c : Nat) (gs : List Sg) (x : Nd) (w : World) (hK : KnAt w p A n c gs) (hx : x.Ok w) (hin : 1 ≤ x.ni) (hal : allKn x.xs n = true) (hpos : ∀ g ∈ gs, 0 < sizeI g.s) (hN0 : 0 ≤ x.N) :
    Calls Tryz.prog 98 #[.pointer (some ⟨p, 0, none⟩), x.v] w fun e w' => ∃ R k kc, e = .returned (.tuple #[.slice R k kc, .int .i64 (gsE (kn gs x.xs 0) x.N)]) ∧ w'.ownsRow w.heap.size 3 1 (.slice R k kc) k ((gsS (kn gs x.xs 0) x.N).map (Value.int .i64)) ∧ k ≤ 4 ∧ Below w.heap.size w w' := by
  unfold Nd.v
  obtain ⟨W0, hW0⟩ : ∃ W0, W0 = w.alloc (.cells #[.int .u8 x.kd, .slice x.I x.ni x.ci, .slice x.S x.ns x.cs, .int .i64 x.N, .int .i64 x.P] 44) := ⟨_, rfl⟩
  have HB0 : Hid (Below w.heap.size w W0) := hide (by rw [hW0]; exact below_al6 (Below.refl _ _))
  have HX : Hid (BoxN W0 w.heap.size x) := hide (by rw [hW0]; exact BoxN.new w x)
  have HK := hide (hK.below HB0.out)
  have HO := hide (hx.below HB0.out)
  have HLI : Hid (x.xs.length = x.ni) := hide (lies_len9 hx.1)
  have HLS : Hid (x.sh.length = x.ns) := hide (lies_len9 hx.2.1)
  have hW0' := hW0.symm
  clear hW0 hK hx
  obtain ⟨i0, g0, hi0, hin0, hgj0, hkn0⟩ := kn_at (j := 0) HK.out.2.1 hal (by rw [HLI.out]; omega)
  have HI0 := hide hi0
  have HG0 := hide hgj0
  have HN0 := hide hkn0
  obtain ⟨hs0, hb0, h40⟩ := HK.out.2.2.2 g0 (List.mem_of_getElem? hgj0)
  have HS0 := hide hs0
  have hp0 : 1 ≤ g0.n := by have h := (sizeI_pos (hpos g0 (List.mem_of_getElem? hgj0))).1; rw [lies_len9 hs0] at h; exact h
  clear hi0 hgj0 hkn0 hs0
  obtain ⟨bK, oK, rfl, _, hxK⟩ := HK.out.2.2.1 (by omega)
  obtain ⟨bI, oI, hAI, _, _⟩ := byte_at HO.out.1 (by omega)
  have HAI := hide hAI
  clear hAI hxK
  have HC : Hid (∀ v, Below W0.heap.size W0 v → v.cell? ⟨p, 0, none⟩ = some (.slice (some ⟨bK, oK, none⟩) n c) ∧ v.cell? ⟨w.heap.size, 1, none⟩ = some (.slice (some ⟨bI, oI, none⟩) x.ni x.ci) ∧ v.cell? ⟨bI, oI, none⟩ = some (.int .i64 (i0 : Int)) ∧ v.cell? ⟨bK, oK + i0, none⟩ = some (.slice g0.A g0.n g0.c) ∧ v.cell? ⟨w.heap.size, 2, none⟩ = some (.slice x.S x.ns x.cs) ∧ v.cell? ⟨w.heap.size, 3, none⟩ = some (.int .i64 x.N) ∧ v.cell? ⟨w.heap.size, 4, none⟩ = some (.int .i64 x.P)) := hide (fun v hv => by
    obtain ⟨q0, q1, q2, q3, q4⟩ := (HX.out.kept hv).cs
    have kv := HK.out.below hv
    rw [HAI.out] at q1
    obtain ⟨_, _, eI, _, hxI⟩ := byte_at (HO.out.1.below hv) (by omega)
    rw [HAI.out] at eI
    cases eI
    obtain ⟨_, _, eK, _, hxK⟩ := kv.2.2.1 (by omega)
    cases eK
    have z0 := hxI 0 (by omega)
    rw [HI0.out, Nat.add_zero] at z0
    exact ⟨kv.c0, q1, z0, hxK i0 g0 HG0.out, q2, q3, q4⟩)
  have j00 : (0 : Int) ≤ (i0 : Int) := by omega
  have j10 : (i0 : Int) < (n : Int) := by omega
  have jz0 : ¬ x.ni = 0 := by omega
  have jn : (0 : Int) < (x.ni : Int) := by omega
  have hd0 : Below W0.heap.size W0 W0.drew := below_drewN (Below.refl _ _) 1
  obtain ⟨E, hE⟩ : ∃ z : Int, z = gsE (kn gs x.xs 0) x.N := ⟨_, rfl⟩
  obtain ⟨SS, hSS⟩ : ∃ z : List Int, z = gsS (kn gs x.xs 0) x.N := ⟨_, rfl⟩
  rw [← hE, ← hSS]
  have HE := hide hE
  have HSS := hide hSS
  clear hE hSS
  go_enter Tryz.func98, Tryz.ntmps98
  go_wp2
  have hS0 : Hid (W0.drew.cell? ⟨p, 0, none⟩ = some (.slice (some ⟨bK, oK, none⟩) n c) ∧ W0.drew.cell? ⟨w.heap.size, 1, none⟩ = some (.slice (some ⟨bI, oI, none⟩) x.ni x.ci) ∧ W0.drew.cell? ⟨bI, oI, none⟩ = some (.int .i64 (i0 : Int)) ∧ W0.drew.cell? ⟨bK, oK + i0, none⟩ = some (.slice g0.A g0.n g0.c) ∧ W0.drew.cell? ⟨w.heap.size, 2, none⟩ = some (.slice x.S x.ns x.cs) ∧ W0.drew.cell? ⟨w.heap.size, 3, none⟩ = some (.int .i64 x.N) ∧ W0.drew.cell? ⟨w.heap.size, 4, none⟩ = some (.int .i64 x.P)) := hide (HC.out _ hd0)
  refine wp_region_U (fun _ v => v.cell? ⟨p, 0, none⟩ = some (.slice (some ⟨bK, oK, none⟩) n c) ∧ v.cell? ⟨w.heap.size, 1, none⟩ = some (.slice (some ⟨bI, oI, none⟩) x.ni x.ci) ∧ v.cell? ⟨bI, oI, none⟩ = some (.int .i64 (i0 : Int)) ∧ v.cell? ⟨bK, oK + i0, none⟩ = some (.slice g0.A g0.n g0.c) ∧ v.cell? ⟨w.heap.size, 2, none⟩ = some (.slice x.S x.ns x.cs) ∧ v.cell? ⟨w.heap.size, 3, none⟩ = some (.int .i64 x.N) ∧ v.cell? ⟨w.heap.size, 4, none⟩ = some (.int .i64 x.P)) 99 (by kernel_rfl) ?_
  refine wpAnyU_take (i := 0) (oi := { dst := some 7, op := _, type := _, pos := _, after := _, guard := none }) (v := .pointer (some ⟨p, 0, none⟩)) rfl (by kernel_rfl) (by kernel_rfl) (by kernel_rfl) (by kernel_rfl) (fun _ _ _ h => h) (yields_take rfl (fun w' hw => by obtain ⟨h1, h2, h3, h4, h5, h6, h7⟩ := hw.const; go_simp)) hS0.out ?_
  simp only [Act.put, List.setIfInBounds_toArray, List.set_cons_zero, List.set_cons_succ]
  refine wpAnyU_take (i := 1) (oi := { dst := some 8, op := _, type := _, pos := _, after := _, guard := none }) (v := .pointer (some ⟨p, 0, none⟩)) rfl (by kernel_rfl) (by kernel_rfl) (by kernel_rfl) (by kernel_rfl) (fun _ _ _ h => h) (yields_take rfl (fun w' hw => by obtain ⟨h1, h2, h3, h4, h5, h6, h7⟩ := hw.const; go_simp)) hS0.out ?_
  simp only [Act.put, List.setIfInBounds_toArray, List.set_cons_zero, List.set_cons_succ]
  refine wpAnyU_take (i := 2) (oi := { dst := some 9, op := _, type := _, pos := _, after := _, guard := none }) (v := .pointer (some ⟨p, 0, none⟩)) rfl (by kernel_rfl) (by kernel_rfl) (by kernel_rfl) (by kernel_rfl) (fun _ _ _ h => h) (yields_take rfl (fun w' hw => by obtain ⟨h1, h2, h3, h4, h5, h6, h7⟩ := hw.const; go_simp)) hS0.out ?_
  simp only [Act.put, List.setIfInBounds_toArray, List.set_cons_zero, List.set_cons_succ]
  refine wpAnyU_take (i := 3) (oi := { dst := some 10, op := _, type := _, pos := _, after := _, guard := none }) (v := .slice (some ⟨bK, oK, none⟩) n c) rfl (by kernel_rfl) (by kernel_rfl) (by kernel_rfl) (by kernel_rfl) (fun _ _ _ h => h) (yields_take rfl (fun w' hw => by obtain ⟨h1, h2, h3, h4, h5, h6, h7⟩ := hw.const; go_simp)) hS0.out ?_
  simp only [Act.put, List.setIfInBounds_toArray, List.set_cons_zero, List.set_cons_succ]
  refine wpAnyU_take (i := 4) (oi := { dst := some 11, op := _, type := _, pos := _, after := _, guard := none }) (v := .pointer (some ⟨w.heap.size, 1, none⟩)) rfl (by kernel_rfl) (by kernel_rfl) (by kernel_rfl) (by kernel_rfl) (fun _ _ _ h => h) (yields_take rfl (fun w' hw => by obtain ⟨h1, h2, h3, h4, h5, h6, h7⟩ := hw.const; go_simp)) hS0.out ?_
  simp only [Act.put, List.setIfInBounds_toArray, List.set_cons_zero, List.set_cons_succ]
  refine wpAnyU_take (i := 5) (oi := { dst := some 12, op := _, type := _, pos := _, after := _, guard := none }) (v := .slice (some ⟨bI, oI, none⟩) x.ni x.ci) rfl (by kernel_rfl) (by kernel_rfl) (by kernel_rfl) (by kernel_rfl) (fun _ _ _ h => h) (yields_take rfl (fun w' hw => by obtain ⟨h1, h2, h3, h4, h5, h6, h7⟩ := hw.const; go_simp)) hS0.out ?_
  simp only [Act.put, List.setIfInBounds_toArray, List.set_cons_zero, List.set_cons_succ]
  refine wpAnyU_take (i := 6) (oi := { dst := some 13, op := _, type := _, pos := _, after := _, guard := none }) (v := .pointer (some ⟨bI, oI, none⟩)) rfl (by kernel_rfl) (by kernel_rfl) (by kernel_rfl) (by kernel_rfl) (fun _ _ _ h => h) (yields_take rfl (fun w' hw => by obtain ⟨h1, h2, h3, h4, h5, h6, h7⟩ := hw.const; go_simp)) hS0.out ?_
  simp only [Act.put, List.setIfInBounds_toArray, List.set_cons_zero, List.set_cons_succ]
  refine wpAnyU_take (i := 7) (oi := { dst := some 14, op := _, type := _, pos := _, after := _, guard := none }) (v := .int .i64 (i0 : Int)) rfl (by kernel_rfl) (by kernel_rfl) (by kernel_rfl) (by kernel_rfl) (fun _ _ _ h => h) (yields_take rfl (fun w' hw => by obtain ⟨h1, h2, h3, h4, h5, h6, h7⟩ := hw.const; go_simp)) hS0.out ?_
  simp only [Act.put, List.setIfInBounds_toArray, List.set_cons_zero, List.set_cons_succ]
  refine wpAnyU_take (i := 8) (oi := { dst := some 15, op := _, type := _, pos := _, after := _, guard := none }) (v := .pointer (some ⟨bK, oK + i0, none⟩)) rfl (by kernel_rfl) (by kernel_rfl) (by kernel_rfl) (by kernel_rfl) (fun _ _ _ h => h) (yields_take rfl (fun w' hw => by obtain ⟨h1, h2, h3, h4, h5, h6, h7⟩ := hw.const; go_simp)) hS0.out ?_
  simp only [Act.put, List.setIfInBounds_toArray, List.set_cons_zero, List.set_cons_succ]
  refine wpAnyU_take (i := 9) (oi := { dst := some 16, op := _, type := _, pos := _, after := _, guard := none }) (v := .slice g0.A g0.n g0.c) rfl (by kernel_rfl) (by kernel_rfl) (by kernel_rfl) (by kernel_rfl) (fun _ _ _ h => h) (yields_take rfl (fun w' hw => by obtain ⟨h1, h2, h3, h4, h5, h6, h7⟩ := hw.const; go_simp)) hS0.out ?_
  simp only [Act.put, List.setIfInBounds_toArray, List.set_cons_zero, List.set_cons_succ]
  refine wpAnyU_take (i := 10) (oi := { dst := some 6, op := _, type := _, pos := _, after := _, guard := none }) (v := .slice g0.A g0.n g0.c) rfl (by kernel_rfl) (by kernel_rfl) (by kernel_rfl) (by kernel_rfl) (fun _ _ _ h => h) (yields_take rfl (fun w' hw => by obtain ⟨h1, h2, h3, h4, h5, h6, h7⟩ := hw.const; go_simp)) hS0.out ?_
  simp only [Act.put, List.setIfInBounds_toArray, List.set_cons_zero, List.set_cons_succ]
  refine wpAnyU_done (by kernel_rfl) ?_ _
  clear hS0
  have HLG : Hid (g0.s.length = g0.n) := hide (lies_len9 HS0.out)
  generalize hU0 : W0.drew = U0
  have he : Below W0.heap.size W0 U0 := by rw [← hU0]; exact hd0
  clear hU0 hd0
  have HBE := hide he
  obtain ⟨d, hd⟩ := Int.eq_ofNat_of_zero_le hN0
  obtain ⟨_, _, _, _, q2, q3, q4⟩ := HC.out _ he
  rw [hd] at q3 HE HSS
  have HGS : Hid (gsE (kn gs x.xs 0) (d : Int) = if d < g0.n then 0 else 1) := hide (by
    rw [gsE, HN0.out, HLG.out]
    by_cases h : d < g0.n
    · rw [if_pos h, if_pos (by omega)]
    · rw [if_neg h, if_neg (by omega)])
  have HGT : Hid (gsS (kn gs x.xs 0) (d : Int) = if d < g0.n then woL g0.s d else []) := hide (by
    rw [gsS, HN0.out, HLG.out, Int.toNat_natCast]
    by_cases h : d < g0.n
    · rw [if_pos h, if_pos (by omega)]
    · rw [if_neg h, if_neg (by omega)])
  clear hd hN0
  by_cases hl : d < g0.n
  rotate_left
  · obtain rfl : E = 1 := by rw [HE.out, HGS.out, if_neg hl]
    have HS9 : Hid (SS = []) := hide (by rw [HSS.out, HGT.out, if_neg hl])
    have e1 : (g0.n : Int) ≤ (d : Int) := by omega
    clear hl he
    go_wp2
    go_ret2
    exact ⟨none, 0, 0, rfl, by rw [HS9.out]; exact World.ownsRow_nil _ _ _ _, by omega, HB0.out.trans (HBE.out.mono HB0.out.size)⟩
  obtain rfl : E = 0 := by rw [HE.out, HGS.out, if_pos hl]
  have e1 : ¬ ((g0.n : Int) ≤ (d : Int)) := by omega
  by_cases h1 : g0.n = 1
  · have HS9 : Hid (SS = [1]) := hide (by rw [HSS.out, HGT.out, if_pos hl, woL_one (by rw [HLG.out, h1])])
    have e2 : ((g0.n : Int) == 1) = true := by simp [h1]
    have e3 : (g0.n : Int) = 1 := by omega
    have hus := he.size
    have hb0 := HB0.out.size
    have HL : Hid ((U0.alloc (.cells (([1] : List Int).map (Value.int .i64)).toArray 3)).ownsRow w.heap.size 3 1 (.slice (some ⟨U0.heap.size, 0, none⟩) 1 1) 1 (([1] : List Int).map (Value.int .i64))) := hide (own_of_block (by omega) (heap_alloc_new U0 _) (by simp) (Nat.le_refl _) (by unfold maxLen; omega) (by simp))
    have HBW : Hid (Below W0.heap.size W0 (U0.alloc (.cells (([1] : List Int).map (Value.int .i64)).toArray 3))) := hide (below_al6 he)
    clear he hl h1
    go_wp2
    go_ret2
    exact ⟨some ⟨U0.heap.size, 0, none⟩, 1, 1, rfl, by rw [HS9.out]; exact HL.out, by omega, HB0.out.trans (HBW.out.mono HB0.out.size)⟩
  have HS9 : Hid (SS = outL g0.s d) := hide (by rw [HSS.out, HGT.out, if_pos hl, woL_more (by rw [HLG.out]; exact h1), outL])
  have e2 : ((g0.n : Int) == 1) = false := by simpa using (by omega : ¬ (g0.n : Int) = 1)
  have e3 : ¬ (g0.n : Int) = 1 := by omega
  have HCW := hide (fun v hv => gwithout_any g0.A g0.n g0.c d g0.s v (HS0.out.below hv) hl hb0 (by omega))
  clear he
  go_wp2_with fail
  refine Calls.mono (HCW.out _ HBE.out) ?_
  rintro e w2 ⟨G, k, c9, rfl, rfl, ho, hb⟩
  have HOR := hide (own_base ho HBE.out.size)
  have HB2 := hide (below_nx6 HBE.out hb)
  clear ho hb q2 q3 q4
  go_wp2
  go_ret2
  exact ⟨G, g0.n - 1, c9, rfl, by rw [HS9.out]; exact own_base HOR.out HB0.out.size, by omega, HB0.out.trans (HB2.out.mono HB0.out.size)⟩

end

end Go.Proofs.YtohndckbhjakfaaGreatDoor
