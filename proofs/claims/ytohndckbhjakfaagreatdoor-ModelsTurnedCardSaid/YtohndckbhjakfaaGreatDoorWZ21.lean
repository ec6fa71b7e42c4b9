/- Merged: Gr4. -/
import Derived.Test.YtohndckbhjakfaaGreatDoorWZ20
namespace Go.Proofs.YtohndckbhjakfaaGreatDoor

section
open Go.RowKit
set_option linter.unusedVariables false
set_option linter.unusedSimpArgs false
set_option maxRecDepth 100000

set_option maxHeartbeats 2000000 in
theorem kcommon_any (p : Nat) (A : Option Addr) (n c : Nat) (gs : List Sg) (x : Nd) (w : World) (hK : KnAt w p A n c gs) (hx : x.Ok w) (hin : 2 ≤ x.ni) (hal : allKn x.xs n = true) (hpos : ∀ g ∈ gs, 0 < sizeI g.s) :
    Calls Tryz.prog 89 #[.pointer (some ⟨p, 0, none⟩), x.v] w fun e w' => ∃ R k kc, e = .returned (.tuple #[.slice R k kc, .int .i64 (cmE (kn gs x.xs 0) (kn gs x.xs 1))]) ∧ w'.ownsRow w.heap.size 3 1 (.slice R k kc) k ((cmS (kn gs x.xs 0) (kn gs x.xs 1)).map (Value.int .i64)) ∧ k ≤ 4 ∧ Below w.heap.size w w' := by
  unfold Nd.v
  obtain ⟨W0, hW0⟩ : ∃ W0, W0 = w.alloc (.cells #[.int .u8 x.kd, .slice x.I x.ni x.ci, .slice x.S x.ns x.cs, .int .i64 x.N, .int .i64 x.P] 44) := ⟨_, rfl⟩
  have HB0 : Hid (Below w.heap.size w W0) := hide (by rw [hW0]; exact below_al6 (Below.refl _ _))
  have HX : Hid (BoxN W0 w.heap.size x) := hide (by rw [hW0]; exact BoxN.new w x)
  have HK := hide (hK.below HB0.out)
  have HO := hide (hx.below HB0.out)
  have HLI : Hid (x.xs.length = x.ni) := hide (lies_len9 hx.1)
  have HLS : Hid (x.sh.length = x.ns) := hide (lies_len9 hx.2.1)
  have hW0' := hW0.symm
  clear hW0 hK hx
  obtain ⟨i0, g0, hi0, hin0, hgj0, hkn0⟩ := kn_at (j := 0) HK.out.2.1 hal (by rw [HLI.out]; omega)
  have HI0 := hide hi0
  have HG0 := hide hgj0
  have HN0 := hide hkn0
  obtain ⟨hs0, hb0, h40⟩ := HK.out.2.2.2 g0 (List.mem_of_getElem? hgj0)
  have HS0 := hide hs0
  have hp0 : 1 ≤ g0.n := by have h := (sizeI_pos (hpos g0 (List.mem_of_getElem? hgj0))).1; rw [lies_len9 hs0] at h; exact h
  clear hi0 hgj0 hkn0 hs0
  obtain ⟨i1, g1, hi1, hin1, hgj1, hkn1⟩ := kn_at (j := 1) HK.out.2.1 hal (by rw [HLI.out]; omega)
  have HI1 := hide hi1
  have HG1 := hide hgj1
  have HN1 := hide hkn1
  obtain ⟨hs1, hb1, h41⟩ := HK.out.2.2.2 g1 (List.mem_of_getElem? hgj1)
  have HS1 := hide hs1
  have hp1 : 1 ≤ g1.n := by have h := (sizeI_pos (hpos g1 (List.mem_of_getElem? hgj1))).1; rw [lies_len9 hs1] at h; exact h
  clear hi1 hgj1 hkn1 hs1
  obtain ⟨bK, oK, rfl, _, hxK⟩ := HK.out.2.2.1 (by omega)
  obtain ⟨bI, oI, hAI, _, _⟩ := byte_at HO.out.1 (by omega)
  have HAI := hide hAI
  clear hAI hxK
  have HC : Hid (∀ v, Below W0.heap.size W0 v → v.cell? ⟨p, 0, none⟩ = some (.slice (some ⟨bK, oK, none⟩) n c) ∧ v.cell? ⟨w.heap.size, 1, none⟩ = some (.slice (some ⟨bI, oI, none⟩) x.ni x.ci) ∧ v.cell? ⟨bI, oI, none⟩ = some (.int .i64 (i0 : Int)) ∧ v.cell? ⟨bK, oK + i0, none⟩ = some (.slice g0.A g0.n g0.c) ∧ v.cell? ⟨bI, oI + 1, none⟩ = some (.int .i64 (i1 : Int)) ∧ v.cell? ⟨bK, oK + i1, none⟩ = some (.slice g1.A g1.n g1.c) ∧ v.cell? ⟨w.heap.size, 2, none⟩ = some (.slice x.S x.ns x.cs) ∧ v.cell? ⟨w.heap.size, 3, none⟩ = some (.int .i64 x.N) ∧ v.cell? ⟨w.heap.size, 4, none⟩ = some (.int .i64 x.P)) := hide (fun v hv => by
    obtain ⟨q0, q1, q2, q3, q4⟩ := (HX.out.kept hv).cs
    have kv := HK.out.below hv
    rw [HAI.out] at q1
    obtain ⟨_, _, eI, _, hxI⟩ := byte_at (HO.out.1.below hv) (by omega)
    rw [HAI.out] at eI
    cases eI
    obtain ⟨_, _, eK, _, hxK⟩ := kv.2.2.1 (by omega)
    cases eK
    have z0 := hxI 0 (by omega)
    rw [HI0.out, Nat.add_zero] at z0
    have z1 := hxI 1 (by omega)
    rw [HI1.out] at z1
    exact ⟨kv.c0, q1, z0, hxK i0 g0 HG0.out, z1, hxK i1 g1 HG1.out, q2, q3, q4⟩)
  have j00 : (0 : Int) ≤ (i0 : Int) := by omega
  have j10 : (i0 : Int) < (n : Int) := by omega
  have j01 : (0 : Int) ≤ (i1 : Int) := by omega
  have j11 : (i1 : Int) < (n : Int) := by omega
  have jz0 : ¬ x.ni = 0 := by omega
  have jn : (0 : Int) < (x.ni : Int) := by omega
  have jn2 : (1 : Int) < (x.ni : Int) := by omega
  have hd0 : Below W0.heap.size W0 W0.drew := below_drewN (Below.refl _ _) 1
  obtain ⟨E, hE⟩ : ∃ z : Int, z = cmE (kn gs x.xs 0) (kn gs x.xs 1) := ⟨_, rfl⟩
  obtain ⟨SS, hSS⟩ : ∃ z : List Int, z = cmS (kn gs x.xs 0) (kn gs x.xs 1) := ⟨_, rfl⟩
  rw [← hE, ← hSS]
  have HE := hide hE
  have HSS := hide hSS
  clear hE hSS
  go_enter Tryz.func89, Tryz.ntmps89
  go_wp2
  obtain ⟨B, hB⟩ : ∃ z : Bool, z = decide (g0.s = g1.s) := ⟨_, rfl⟩
  have HBQ := hide hB
  clear hB
  have hS0 : Hid (W0.drew.cell? ⟨p, 0, none⟩ = some (.slice (some ⟨bK, oK, none⟩) n c) ∧ W0.drew.cell? ⟨w.heap.size, 1, none⟩ = some (.slice (some ⟨bI, oI, none⟩) x.ni x.ci) ∧ W0.drew.cell? ⟨bI, oI, none⟩ = some (.int .i64 (i0 : Int)) ∧ W0.drew.cell? ⟨bK, oK + i0, none⟩ = some (.slice g0.A g0.n g0.c) ∧ W0.drew.cell? ⟨bI, oI + 1, none⟩ = some (.int .i64 (i1 : Int)) ∧ W0.drew.cell? ⟨bK, oK + i1, none⟩ = some (.slice g1.A g1.n g1.c) ∧ W0.drew.cell? ⟨w.heap.size, 2, none⟩ = some (.slice x.S x.ns x.cs) ∧ W0.drew.cell? ⟨w.heap.size, 3, none⟩ = some (.int .i64 x.N) ∧ W0.drew.cell? ⟨w.heap.size, 4, none⟩ = some (.int .i64 x.P)) := hide (HC.out _ hd0)
  refine wp_region_U (fun _ v => v.cell? ⟨p, 0, none⟩ = some (.slice (some ⟨bK, oK, none⟩) n c) ∧ v.cell? ⟨w.heap.size, 1, none⟩ = some (.slice (some ⟨bI, oI, none⟩) x.ni x.ci) ∧ v.cell? ⟨bI, oI, none⟩ = some (.int .i64 (i0 : Int)) ∧ v.cell? ⟨bK, oK + i0, none⟩ = some (.slice g0.A g0.n g0.c) ∧ v.cell? ⟨bI, oI + 1, none⟩ = some (.int .i64 (i1 : Int)) ∧ v.cell? ⟨bK, oK + i1, none⟩ = some (.slice g1.A g1.n g1.c) ∧ v.cell? ⟨w.heap.size, 2, none⟩ = some (.slice x.S x.ns x.cs) ∧ v.cell? ⟨w.heap.size, 3, none⟩ = some (.int .i64 x.N) ∧ v.cell? ⟨w.heap.size, 4, none⟩ = some (.int .i64 x.P)) 99 (by kernel_rfl) ?_
  refine wpAnyU_take (i := 0) (oi := { dst := some 6, op := _, type := _, pos := _, after := _, guard := none }) (v := .pointer (some ⟨p, 0, none⟩)) rfl (by kernel_rfl) (by kernel_rfl) (by kernel_rfl) (by kernel_rfl) (fun _ _ _ h => h) (yields_take rfl (fun w' hw => by obtain ⟨h1, h2, h3, h4, h5, h6, h7, h8, h9⟩ := hw.const; go_simp)) hS0.out ?_
  simp only [Act.put, List.setIfInBounds_toArray, List.set_cons_zero, List.set_cons_succ]
  refine wpAnyU_take (i := 1) (oi := { dst := some 7, op := _, type := _, pos := _, after := _, guard := none }) (v := .pointer (some ⟨p, 0, none⟩)) rfl (by kernel_rfl) (by kernel_rfl) (by kernel_rfl) (by kernel_rfl) (fun _ _ _ h => h) (yields_take rfl (fun w' hw => by obtain ⟨h1, h2, h3, h4, h5, h6, h7, h8, h9⟩ := hw.const; go_simp)) hS0.out ?_
  simp only [Act.put, List.setIfInBounds_toArray, List.set_cons_zero, List.set_cons_succ]
  refine wpAnyU_take (i := 2) (oi := { dst := some 8, op := _, type := _, pos := _, after := _, guard := none }) (v := .pointer (some ⟨p, 0, none⟩)) rfl (by kernel_rfl) (by kernel_rfl) (by kernel_rfl) (by kernel_rfl) (fun _ _ _ h => h) (yields_take rfl (fun w' hw => by obtain ⟨h1, h2, h3, h4, h5, h6, h7, h8, h9⟩ := hw.const; go_simp)) hS0.out ?_
  simp only [Act.put, List.setIfInBounds_toArray, List.set_cons_zero, List.set_cons_succ]
  refine wpAnyU_take (i := 3) (oi := { dst := some 9, op := _, type := _, pos := _, after := _, guard := none }) (v := .slice (some ⟨bK, oK, none⟩) n c) rfl (by kernel_rfl) (by kernel_rfl) (by kernel_rfl) (by kernel_rfl) (fun _ _ _ h => h) (yields_take rfl (fun w' hw => by obtain ⟨h1, h2, h3, h4, h5, h6, h7, h8, h9⟩ := hw.const; go_simp)) hS0.out ?_
  simp only [Act.put, List.setIfInBounds_toArray, List.set_cons_zero, List.set_cons_succ]
  refine wpAnyU_take (i := 4) (oi := { dst := some 10, op := _, type := _, pos := _, after := _, guard := none }) (v := .pointer (some ⟨w.heap.size, 1, none⟩)) rfl (by kernel_rfl) (by kernel_rfl) (by kernel_rfl) (by kernel_rfl) (fun _ _ _ h => h) (yields_take rfl (fun w' hw => by obtain ⟨h1, h2, h3, h4, h5, h6, h7, h8, h9⟩ := hw.const; go_simp)) hS0.out ?_
  simp only [Act.put, List.setIfInBounds_toArray, List.set_cons_zero, List.set_cons_succ]
  refine wpAnyU_take (i := 5) (oi := { dst := some 11, op := _, type := _, pos := _, after := _, guard := none }) (v := .slice (some ⟨bI, oI, none⟩) x.ni x.ci) rfl (by kernel_rfl) (by kernel_rfl) (by kernel_rfl) (by kernel_rfl) (fun _ _ _ h => h) (yields_take rfl (fun w' hw => by obtain ⟨h1, h2, h3, h4, h5, h6, h7, h8, h9⟩ := hw.const; go_simp)) hS0.out ?_
  simp only [Act.put, List.setIfInBounds_toArray, List.set_cons_zero, List.set_cons_succ]
  refine wpAnyU_take (i := 6) (oi := { dst := some 12, op := _, type := _, pos := _, after := _, guard := none }) (v := .pointer (some ⟨bI, oI, none⟩)) rfl (by kernel_rfl) (by kernel_rfl) (by kernel_rfl) (by kernel_rfl) (fun _ _ _ h => h) (yields_take rfl (fun w' hw => by obtain ⟨h1, h2, h3, h4, h5, h6, h7, h8, h9⟩ := hw.const; go_simp)) hS0.out ?_
  simp only [Act.put, List.setIfInBounds_toArray, List.set_cons_zero, List.set_cons_succ]
  refine wpAnyU_take (i := 7) (oi := { dst := some 13, op := _, type := _, pos := _, after := _, guard := none }) (v := .int .i64 (i0 : Int)) rfl (by kernel_rfl) (by kernel_rfl) (by kernel_rfl) (by kernel_rfl) (fun _ _ _ h => h) (yields_take rfl (fun w' hw => by obtain ⟨h1, h2, h3, h4, h5, h6, h7, h8, h9⟩ := hw.const; go_simp)) hS0.out ?_
  simp only [Act.put, List.setIfInBounds_toArray, List.set_cons_zero, List.set_cons_succ]
  refine wpAnyU_take (i := 8) (oi := { dst := some 14, op := _, type := _, pos := _, after := _, guard := none }) (v := .pointer (some ⟨bK, oK + i0, none⟩)) rfl (by kernel_rfl) (by kernel_rfl) (by kernel_rfl) (by kernel_rfl) (fun _ _ _ h => h) (yields_take rfl (fun w' hw => by obtain ⟨h1, h2, h3, h4, h5, h6, h7, h8, h9⟩ := hw.const; go_simp)) hS0.out ?_
  simp only [Act.put, List.setIfInBounds_toArray, List.set_cons_zero, List.set_cons_succ]
  refine wpAnyU_take (i := 9) (oi := { dst := some 15, op := _, type := _, pos := _, after := _, guard := none }) (v := .slice g0.A g0.n g0.c) rfl (by kernel_rfl) (by kernel_rfl) (by kernel_rfl) (by kernel_rfl) (fun _ _ _ h => h) (yields_take rfl (fun w' hw => by obtain ⟨h1, h2, h3, h4, h5, h6, h7, h8, h9⟩ := hw.const; go_simp)) hS0.out ?_
  simp only [Act.put, List.setIfInBounds_toArray, List.set_cons_zero, List.set_cons_succ]
  refine wpAnyU_take (i := 10) (oi := { dst := some 16, op := _, type := _, pos := _, after := _, guard := none }) (v := .pointer (some ⟨p, 0, none⟩)) rfl (by kernel_rfl) (by kernel_rfl) (by kernel_rfl) (by kernel_rfl) (fun _ _ _ h => h) (yields_take rfl (fun w' hw => by obtain ⟨h1, h2, h3, h4, h5, h6, h7, h8, h9⟩ := hw.const; go_simp)) hS0.out ?_
  simp only [Act.put, List.setIfInBounds_toArray, List.set_cons_zero, List.set_cons_succ]
  refine wpAnyU_take (i := 11) (oi := { dst := some 17, op := _, type := _, pos := _, after := _, guard := none }) (v := .pointer (some ⟨p, 0, none⟩)) rfl (by kernel_rfl) (by kernel_rfl) (by kernel_rfl) (by kernel_rfl) (fun _ _ _ h => h) (yields_take rfl (fun w' hw => by obtain ⟨h1, h2, h3, h4, h5, h6, h7, h8, h9⟩ := hw.const; go_simp)) hS0.out ?_
  simp only [Act.put, List.setIfInBounds_toArray, List.set_cons_zero, List.set_cons_succ]
  refine wpAnyU_take (i := 12) (oi := { dst := some 18, op := _, type := _, pos := _, after := _, guard := none }) (v := .pointer (some ⟨p, 0, none⟩)) rfl (by kernel_rfl) (by kernel_rfl) (by kernel_rfl) (by kernel_rfl) (fun _ _ _ h => h) (yields_take rfl (fun w' hw => by obtain ⟨h1, h2, h3, h4, h5, h6, h7, h8, h9⟩ := hw.const; go_simp)) hS0.out ?_
  simp only [Act.put, List.setIfInBounds_toArray, List.set_cons_zero, List.set_cons_succ]
  refine wpAnyU_take (i := 13) (oi := { dst := some 19, op := _, type := _, pos := _, after := _, guard := none }) (v := .slice (some ⟨bK, oK, none⟩) n c) rfl (by kernel_rfl) (by kernel_rfl) (by kernel_rfl) (by kernel_rfl) (fun _ _ _ h => h) (yields_take rfl (fun w' hw => by obtain ⟨h1, h2, h3, h4, h5, h6, h7, h8, h9⟩ := hw.const; go_simp)) hS0.out ?_
  simp only [Act.put, List.setIfInBounds_toArray, List.set_cons_zero, List.set_cons_succ]
  refine wpAnyU_take (i := 14) (oi := { dst := some 20, op := _, type := _, pos := _, after := _, guard := none }) (v := .pointer (some ⟨w.heap.size, 1, none⟩)) rfl (by kernel_rfl) (by kernel_rfl) (by kernel_rfl) (by kernel_rfl) (fun _ _ _ h => h) (yields_take rfl (fun w' hw => by obtain ⟨h1, h2, h3, h4, h5, h6, h7, h8, h9⟩ := hw.const; go_simp)) hS0.out ?_
  simp only [Act.put, List.setIfInBounds_toArray, List.set_cons_zero, List.set_cons_succ]
  refine wpAnyU_take (i := 15) (oi := { dst := some 21, op := _, type := _, pos := _, after := _, guard := none }) (v := .slice (some ⟨bI, oI, none⟩) x.ni x.ci) rfl (by kernel_rfl) (by kernel_rfl) (by kernel_rfl) (by kernel_rfl) (fun _ _ _ h => h) (yields_take rfl (fun w' hw => by obtain ⟨h1, h2, h3, h4, h5, h6, h7, h8, h9⟩ := hw.const; go_simp)) hS0.out ?_
  simp only [Act.put, List.setIfInBounds_toArray, List.set_cons_zero, List.set_cons_succ]
  refine wpAnyU_take (i := 16) (oi := { dst := some 22, op := _, type := _, pos := _, after := _, guard := none }) (v := .pointer (some ⟨bI, oI + 1, none⟩)) rfl (by kernel_rfl) (by kernel_rfl) (by kernel_rfl) (by kernel_rfl) (fun _ _ _ h => h) (yields_take rfl (fun w' hw => by obtain ⟨h1, h2, h3, h4, h5, h6, h7, h8, h9⟩ := hw.const; go_simp)) hS0.out ?_
  simp only [Act.put, List.setIfInBounds_toArray, List.set_cons_zero, List.set_cons_succ]
  refine wpAnyU_take (i := 17) (oi := { dst := some 23, op := _, type := _, pos := _, after := _, guard := none }) (v := .int .i64 (i1 : Int)) rfl (by kernel_rfl) (by kernel_rfl) (by kernel_rfl) (by kernel_rfl) (fun _ _ _ h => h) (yields_take rfl (fun w' hw => by obtain ⟨h1, h2, h3, h4, h5, h6, h7, h8, h9⟩ := hw.const; go_simp)) hS0.out ?_
  simp only [Act.put, List.setIfInBounds_toArray, List.set_cons_zero, List.set_cons_succ]
  refine wpAnyU_take (i := 18) (oi := { dst := some 24, op := _, type := _, pos := _, after := _, guard := none }) (v := .pointer (some ⟨bK, oK + i1, none⟩)) rfl (by kernel_rfl) (by kernel_rfl) (by kernel_rfl) (by kernel_rfl) (fun _ _ _ h => h) (yields_take rfl (fun w' hw => by obtain ⟨h1, h2, h3, h4, h5, h6, h7, h8, h9⟩ := hw.const; go_simp)) hS0.out ?_
  simp only [Act.put, List.setIfInBounds_toArray, List.set_cons_zero, List.set_cons_succ]
  refine wpAnyU_take (i := 19) (oi := { dst := some 25, op := _, type := _, pos := _, after := _, guard := none }) (v := .slice g1.A g1.n g1.c) rfl (by kernel_rfl) (by kernel_rfl) (by kernel_rfl) (by kernel_rfl) (fun _ _ _ h => h) (yields_take rfl (fun w' hw => by obtain ⟨h1, h2, h3, h4, h5, h6, h7, h8, h9⟩ := hw.const; go_simp)) hS0.out ?_
  simp only [Act.put, List.setIfInBounds_toArray, List.set_cons_zero, List.set_cons_succ]
  refine wpAnyU_one (i := 20) (by kernel_rfl) rfl ?_
  intro K hK
  go_simp
  refine Calls.mono (equal_ints g0.A g1.A g0.n g0.c g1.n g1.c g0.s g1.s _ (HS0.out.below hd0) (HS1.out.below hd0) (by omega)) ?_
  rintro e w1 ⟨rfl, jz, hjz⟩
  dsimp only
  rw [← HBQ.out]
  have hd1 : Below W0.heap.size W0 w1 := by rw [hjz]; exact below_drewN hd0 jz
  clear hjz
  have hS1 : Hid (w1.cell? ⟨p, 0, none⟩ = some (.slice (some ⟨bK, oK, none⟩) n c) ∧ w1.cell? ⟨w.heap.size, 1, none⟩ = some (.slice (some ⟨bI, oI, none⟩) x.ni x.ci) ∧ w1.cell? ⟨bI, oI, none⟩ = some (.int .i64 (i0 : Int)) ∧ w1.cell? ⟨bK, oK + i0, none⟩ = some (.slice g0.A g0.n g0.c) ∧ w1.cell? ⟨bI, oI + 1, none⟩ = some (.int .i64 (i1 : Int)) ∧ w1.cell? ⟨bK, oK + i1, none⟩ = some (.slice g1.A g1.n g1.c) ∧ w1.cell? ⟨w.heap.size, 2, none⟩ = some (.slice x.S x.ns x.cs) ∧ w1.cell? ⟨w.heap.size, 3, none⟩ = some (.int .i64 x.N) ∧ w1.cell? ⟨w.heap.size, 4, none⟩ = some (.int .i64 x.P)) := hide (HC.out _ hd1)
  refine hK.out _ _ hS1.out (fun _ => ?_)
  clear hK K hS0
  refine wpAnyU_take (i := 21) (oi := { dst := some 27, op := _, type := _, pos := _, after := _, guard := none }) (v := .bool (!B)) rfl (by kernel_rfl) (by kernel_rfl) (by kernel_rfl) (by kernel_rfl) (fun _ _ _ h => h) (yields_take rfl (fun w' hw => by obtain ⟨h1, h2, h3, h4, h5, h6, h7, h8, h9⟩ := hw.const; go_simp)) hS1.out ?_
  simp only [Act.put, List.setIfInBounds_toArray, List.set_cons_zero, List.set_cons_succ]
  refine wpAnyU_done (by kernel_rfl) ?_ _
  clear hS1
  have HBR := hide hd1
  cases B with
  | false =>
    have hq : ¬ (g0.s = g1.s) := by simpa using HBQ.out.symm
    obtain rfl : E = 10 := by rw [HE.out, HN0.out, HN1.out, cmE, if_neg hq]
    have HS9 : Hid (SS = []) := hide (by rw [HSS.out, HN0.out, HN1.out, cmS, if_neg hq])
    clear hq
    go_wp2
    go_ret2
    exact ⟨none, 0, 0, rfl, by rw [HS9.out]; exact World.ownsRow_nil _ _ _ _, by omega, HB0.out.trans (HBR.out.mono HB0.out.size)⟩
  | true =>
    have hq : g0.s = g1.s := by simpa using HBQ.out.symm
    obtain ⟨q0, q1, q2, q3, q4⟩ := (HX.out.kept hd1).cs
    have hkf := kfirst_any p (some ⟨bK, oK, none⟩) n c gs x w1 (HK.out.below HBR.out) (HO.out.below HBR.out) (by omega) hal hpos
    unfold Nd.v at hkf
    rw [HAI.out] at hkf q1
    have HKF := hide hkf
    obtain rfl : E = 0 := by rw [HE.out, HN0.out, HN1.out, cmE, if_pos hq]
    have HS9 : Hid (SS = kn gs x.xs 0) := hide (by rw [HSS.out, HN0.out, HN1.out, cmS, if_pos hq])
    clear hkf hd0 hd1 hq
    go_wp2_with fail
    refine Calls.mono HKF.out ?_
    rintro e w2 ⟨R, kR, cR, rfl, ho, hkR, hb⟩
    have HOR := hide (own_base ho HBR.out.size)
    have HB2 := hide (below_nx6 HBR.out hb)
    clear q0 q1 q2 q3 q4 ho hb HKF
    go_wp2
    go_ret2
    exact ⟨R, kR, cR, rfl, by rw [HS9.out]; exact own_base HOR.out HB0.out.size, hkR, HB0.out.trans (HB2.out.mono HB0.out.size)⟩

/-- What another shape comes to. -/
def reE (z s : List Int) : Int := if sizeI z = sizeI s then 0 else 10

def reS (z s : List Int) : List Int := if sizeI z = sizeI s then z else []

set_option maxHeartbeats 2000000 in
theorem kshaped_any (p : Nat) (A : Option Addr) (n c : Nat) (gs : List Sg) (x : Nd) (w : World) (hK : KnAt w p A n c gs) (hx : x.Ok w) (hin : 1 ≤ x.ni) (hal : allKn x.xs n = true) (hpos : ∀ g ∈ gs, 0 < sizeI g.s) (hs1 : 1 ≤ x.ns) (hs4 : x.ns ≤ 4) :
    Calls Tryz.prog 94 #[.pointer (some ⟨p, 0, none⟩), x.v] w fun e w' => ∃ R k kc, e = .returned (.tuple #[.slice R k kc, .int .i64 (reE x.sh (kn gs x.xs 0))]) ∧ w'.ownsRow w.heap.size 3 1 (.slice R k kc) k ((reS x.sh (kn gs x.xs 0)).map (Value.int .i64)) ∧ k ≤ 4 ∧ Below w.heap.size w w' := by
  unfold Nd.v
  obtain ⟨W0, hW0⟩ : ∃ W0, W0 = w.alloc (.cells #[.int .u8 x.kd, .slice x.I x.ni x.ci, .slice x.S x.ns x.cs, .int .i64 x.N, .int .i64 x.P] 44) := ⟨_, rfl⟩
  have HB0 : Hid (Below w.heap.size w W0) := hide (by rw [hW0]; exact below_al6 (Below.refl _ _))
  have HX : Hid (BoxN W0 w.heap.size x) := hide (by rw [hW0]; exact BoxN.new w x)
  have HK := hide (hK.below HB0.out)
  have HO := hide (hx.below HB0.out)
  have HLI : Hid (x.xs.length = x.ni) := hide (lies_len9 hx.1)
  have HLS : Hid (x.sh.length = x.ns) := hide (lies_len9 hx.2.1)
  have hW0' := hW0.symm
  clear hW0 hK hx
  obtain ⟨i0, g0, hi0, hin0, hgj0, hkn0⟩ := kn_at (j := 0) HK.out.2.1 hal (by rw [HLI.out]; omega)
  have HI0 := hide hi0
  have HG0 := hide hgj0
  have HN0 := hide hkn0
  obtain ⟨hs0, hb0, h40⟩ := HK.out.2.2.2 g0 (List.mem_of_getElem? hgj0)
  have HS0 := hide hs0
  have hp0 : 1 ≤ g0.n := by have h := (sizeI_pos (hpos g0 (List.mem_of_getElem? hgj0))).1; rw [lies_len9 hs0] at h; exact h
  clear hi0 hgj0 hkn0 hs0
  obtain ⟨bK, oK, rfl, _, hxK⟩ := HK.out.2.2.1 (by omega)
  obtain ⟨bI, oI, hAI, _, _⟩ := byte_at HO.out.1 (by omega)
  have HAI := hide hAI
  clear hAI hxK
  have HC : Hid (∀ v, Below W0.heap.size W0 v → v.cell? ⟨p, 0, none⟩ = some (.slice (some ⟨bK, oK, none⟩) n c) ∧ v.cell? ⟨w.heap.size, 1, none⟩ = some (.slice (some ⟨bI, oI, none⟩) x.ni x.ci) ∧ v.cell? ⟨bI, oI, none⟩ = some (.int .i64 (i0 : Int)) ∧ v.cell? ⟨bK, oK + i0, none⟩ = some (.slice g0.A g0.n g0.c) ∧ v.cell? ⟨w.heap.size, 2, none⟩ = some (.slice x.S x.ns x.cs) ∧ v.cell? ⟨w.heap.size, 3, none⟩ = some (.int .i64 x.N) ∧ v.cell? ⟨w.heap.size, 4, none⟩ = some (.int .i64 x.P)) := hide (fun v hv => by
    obtain ⟨q0, q1, q2, q3, q4⟩ := (HX.out.kept hv).cs
    have kv := HK.out.below hv
    rw [HAI.out] at q1
    obtain ⟨_, _, eI, _, hxI⟩ := byte_at (HO.out.1.below hv) (by omega)
    rw [HAI.out] at eI
    cases eI
    obtain ⟨_, _, eK, _, hxK⟩ := kv.2.2.1 (by omega)
    cases eK
    have z0 := hxI 0 (by omega)
    rw [HI0.out, Nat.add_zero] at z0
    exact ⟨kv.c0, q1, z0, hxK i0 g0 HG0.out, q2, q3, q4⟩)
  have j00 : (0 : Int) ≤ (i0 : Int) := by omega
  have j10 : (i0 : Int) < (n : Int) := by omega
  have jz0 : ¬ x.ni = 0 := by omega
  have jn : (0 : Int) < (x.ni : Int) := by omega
  have hd0 : Below W0.heap.size W0 W0.drew := below_drewN (Below.refl _ _) 1
  obtain ⟨E, hE⟩ : ∃ z : Int, z = reE x.sh (kn gs x.xs 0) := ⟨_, rfl⟩
  obtain ⟨SS, hSS⟩ : ∃ z : List Int, z = reS x.sh (kn gs x.xs 0) := ⟨_, rfl⟩
  rw [← hE, ← hSS]
  have HE := hide hE
  have HSS := hide hSS
  clear hE hSS
  go_enter Tryz.func94, Tryz.ntmps94
  go_wp2
  obtain ⟨y0, hy0⟩ : ∃ z : Int, z = sizeI x.sh := ⟨_, rfl⟩
  obtain ⟨y1, hy1⟩ : ∃ z : Int, z = sizeI g0.s := ⟨_, rfl⟩
  obtain ⟨B, hB⟩ : ∃ z : Bool, z = (y0 != y1) := ⟨_, rfl⟩
  have HY0 := hide hy0
  have HY1 := hide hy1
  have HBQ := hide hB
  clear hy0 hy1
  have hS0 : Hid (W0.drew.cell? ⟨p, 0, none⟩ = some (.slice (some ⟨bK, oK, none⟩) n c) ∧ W0.drew.cell? ⟨w.heap.size, 1, none⟩ = some (.slice (some ⟨bI, oI, none⟩) x.ni x.ci) ∧ W0.drew.cell? ⟨bI, oI, none⟩ = some (.int .i64 (i0 : Int)) ∧ W0.drew.cell? ⟨bK, oK + i0, none⟩ = some (.slice g0.A g0.n g0.c) ∧ W0.drew.cell? ⟨w.heap.size, 2, none⟩ = some (.slice x.S x.ns x.cs) ∧ W0.drew.cell? ⟨w.heap.size, 3, none⟩ = some (.int .i64 x.N) ∧ W0.drew.cell? ⟨w.heap.size, 4, none⟩ = some (.int .i64 x.P)) := hide (HC.out _ hd0)
  refine wp_region_U (fun _ v => v.cell? ⟨p, 0, none⟩ = some (.slice (some ⟨bK, oK, none⟩) n c) ∧ v.cell? ⟨w.heap.size, 1, none⟩ = some (.slice (some ⟨bI, oI, none⟩) x.ni x.ci) ∧ v.cell? ⟨bI, oI, none⟩ = some (.int .i64 (i0 : Int)) ∧ v.cell? ⟨bK, oK + i0, none⟩ = some (.slice g0.A g0.n g0.c) ∧ v.cell? ⟨w.heap.size, 2, none⟩ = some (.slice x.S x.ns x.cs) ∧ v.cell? ⟨w.heap.size, 3, none⟩ = some (.int .i64 x.N) ∧ v.cell? ⟨w.heap.size, 4, none⟩ = some (.int .i64 x.P)) 99 (by kernel_rfl) ?_
  refine wpAnyU_take (i := 0) (oi := { dst := some 6, op := _, type := _, pos := _, after := _, guard := none }) (v := .pointer (some ⟨w.heap.size, 2, none⟩)) rfl (by kernel_rfl) (by kernel_rfl) (by kernel_rfl) (by kernel_rfl) (fun _ _ _ h => h) (yields_take rfl (fun w' hw => by obtain ⟨h1, h2, h3, h4, h5, h6, h7⟩ := hw.const; go_simp)) hS0.out ?_
  simp only [Act.put, List.setIfInBounds_toArray, List.set_cons_zero, List.set_cons_succ]
  refine wpAnyU_take (i := 1) (oi := { dst := some 7, op := _, type := _, pos := _, after := _, guard := none }) (v := .slice x.S x.ns x.cs) rfl (by kernel_rfl) (by kernel_rfl) (by kernel_rfl) (by kernel_rfl) (fun _ _ _ h => h) (yields_take rfl (fun w' hw => by obtain ⟨h1, h2, h3, h4, h5, h6, h7⟩ := hw.const; go_simp)) hS0.out ?_
  simp only [Act.put, List.setIfInBounds_toArray, List.set_cons_zero, List.set_cons_succ]
  refine wpAnyU_take (i := 3) (oi := { dst := some 9, op := _, type := _, pos := _, after := _, guard := none }) (v := .pointer (some ⟨p, 0, none⟩)) rfl (by kernel_rfl) (by kernel_rfl) (by kernel_rfl) (by kernel_rfl) (fun _ _ _ h => h) (yields_take rfl (fun w' hw => by obtain ⟨h1, h2, h3, h4, h5, h6, h7⟩ := hw.const; go_simp)) hS0.out ?_
  simp only [Act.put, List.setIfInBounds_toArray, List.set_cons_zero, List.set_cons_succ]
  refine wpAnyU_take (i := 4) (oi := { dst := some 10, op := _, type := _, pos := _, after := _, guard := none }) (v := .pointer (some ⟨p, 0, none⟩)) rfl (by kernel_rfl) (by kernel_rfl) (by kernel_rfl) (by kernel_rfl) (fun _ _ _ h => h) (yields_take rfl (fun w' hw => by obtain ⟨h1, h2, h3, h4, h5, h6, h7⟩ := hw.const; go_simp)) hS0.out ?_
  simp only [Act.put, List.setIfInBounds_toArray, List.set_cons_zero, List.set_cons_succ]
  refine wpAnyU_take (i := 5) (oi := { dst := some 11, op := _, type := _, pos := _, after := _, guard := none }) (v := .pointer (some ⟨p, 0, none⟩)) rfl (by kernel_rfl) (by kernel_rfl) (by kernel_rfl) (by kernel_rfl) (fun _ _ _ h => h) (yields_take rfl (fun w' hw => by obtain ⟨h1, h2, h3, h4, h5, h6, h7⟩ := hw.const; go_simp)) hS0.out ?_
  simp only [Act.put, List.setIfInBounds_toArray, List.set_cons_zero, List.set_cons_succ]
  refine wpAnyU_take (i := 6) (oi := { dst := some 12, op := _, type := _, pos := _, after := _, guard := none }) (v := .slice (some ⟨bK, oK, none⟩) n c) rfl (by kernel_rfl) (by kernel_rfl) (by kernel_rfl) (by kernel_rfl) (fun _ _ _ h => h) (yields_take rfl (fun w' hw => by obtain ⟨h1, h2, h3, h4, h5, h6, h7⟩ := hw.const; go_simp)) hS0.out ?_
  simp only [Act.put, List.setIfInBounds_toArray, List.set_cons_zero, List.set_cons_succ]
  refine wpAnyU_take (i := 7) (oi := { dst := some 13, op := _, type := _, pos := _, after := _, guard := none }) (v := .pointer (some ⟨w.heap.size, 1, none⟩)) rfl (by kernel_rfl) (by kernel_rfl) (by kernel_rfl) (by kernel_rfl) (fun _ _ _ h => h) (yields_take rfl (fun w' hw => by obtain ⟨h1, h2, h3, h4, h5, h6, h7⟩ := hw.const; go_simp)) hS0.out ?_
  simp only [Act.put, List.setIfInBounds_toArray, List.set_cons_zero, List.set_cons_succ]
  refine wpAnyU_take (i := 8) (oi := { dst := some 14, op := _, type := _, pos := _, after := _, guard := none }) (v := .slice (some ⟨bI, oI, none⟩) x.ni x.ci) rfl (by kernel_rfl) (by kernel_rfl) (by kernel_rfl) (by kernel_rfl) (fun _ _ _ h => h) (yields_take rfl (fun w' hw => by obtain ⟨h1, h2, h3, h4, h5, h6, h7⟩ := hw.const; go_simp)) hS0.out ?_
  simp only [Act.put, List.setIfInBounds_toArray, List.set_cons_zero, List.set_cons_succ]
  refine wpAnyU_take (i := 9) (oi := { dst := some 15, op := _, type := _, pos := _, after := _, guard := none }) (v := .pointer (some ⟨bI, oI, none⟩)) rfl (by kernel_rfl) (by kernel_rfl) (by kernel_rfl) (by kernel_rfl) (fun _ _ _ h => h) (yields_take rfl (fun w' hw => by obtain ⟨h1, h2, h3, h4, h5, h6, h7⟩ := hw.const; go_simp)) hS0.out ?_
  simp only [Act.put, List.setIfInBounds_toArray, List.set_cons_zero, List.set_cons_succ]
  refine wpAnyU_take (i := 10) (oi := { dst := some 16, op := _, type := _, pos := _, after := _, guard := none }) (v := .int .i64 (i0 : Int)) rfl (by kernel_rfl) (by kernel_rfl) (by kernel_rfl) (by kernel_rfl) (fun _ _ _ h => h) (yields_take rfl (fun w' hw => by obtain ⟨h1, h2, h3, h4, h5, h6, h7⟩ := hw.const; go_simp)) hS0.out ?_
  simp only [Act.put, List.setIfInBounds_toArray, List.set_cons_zero, List.set_cons_succ]
  refine wpAnyU_take (i := 11) (oi := { dst := some 17, op := _, type := _, pos := _, after := _, guard := none }) (v := .pointer (some ⟨bK, oK + i0, none⟩)) rfl (by kernel_rfl) (by kernel_rfl) (by kernel_rfl) (by kernel_rfl) (fun _ _ _ h => h) (yields_take rfl (fun w' hw => by obtain ⟨h1, h2, h3, h4, h5, h6, h7⟩ := hw.const; go_simp)) hS0.out ?_
  simp only [Act.put, List.setIfInBounds_toArray, List.set_cons_zero, List.set_cons_succ]
  refine wpAnyU_take (i := 12) (oi := { dst := some 18, op := _, type := _, pos := _, after := _, guard := none }) (v := .slice g0.A g0.n g0.c) rfl (by kernel_rfl) (by kernel_rfl) (by kernel_rfl) (by kernel_rfl) (fun _ _ _ h => h) (yields_take rfl (fun w' hw => by obtain ⟨h1, h2, h3, h4, h5, h6, h7⟩ := hw.const; go_simp)) hS0.out ?_
  simp only [Act.put, List.setIfInBounds_toArray, List.set_cons_zero, List.set_cons_succ]
  refine wpAnyU_one (i := 2) (by kernel_rfl) rfl ?_
  intro K hK
  go_simp
  refine Calls.mono (size_any x.S x.ns x.cs x.sh _ (HO.out.2.1.below hd0) (by omega)) ?_
  rintro e w1 ⟨rfl, hb⟩
  dsimp only
  rw [← HY0.out]
  have hd1 : Below W0.heap.size W0 w1 := below_nx6 hd0 hb
  clear hb
  have hS1 : Hid (w1.cell? ⟨p, 0, none⟩ = some (.slice (some ⟨bK, oK, none⟩) n c) ∧ w1.cell? ⟨w.heap.size, 1, none⟩ = some (.slice (some ⟨bI, oI, none⟩) x.ni x.ci) ∧ w1.cell? ⟨bI, oI, none⟩ = some (.int .i64 (i0 : Int)) ∧ w1.cell? ⟨bK, oK + i0, none⟩ = some (.slice g0.A g0.n g0.c) ∧ w1.cell? ⟨w.heap.size, 2, none⟩ = some (.slice x.S x.ns x.cs) ∧ w1.cell? ⟨w.heap.size, 3, none⟩ = some (.int .i64 x.N) ∧ w1.cell? ⟨w.heap.size, 4, none⟩ = some (.int .i64 x.P)) := hide (HC.out _ hd1)
  refine hK.out _ _ hS1.out (fun _ => ?_)
  clear hK K hS0
  refine wpAnyU_one (i := 13) (by kernel_rfl) rfl ?_
  intro K hK
  go_simp
  refine Calls.mono (size_any g0.A g0.n g0.c g0.s _ (HS0.out.below hd1) (by omega)) ?_
  rintro e w2 ⟨rfl, hb⟩
  dsimp only
  rw [← HY1.out]
  have hd2 : Below W0.heap.size W0 w2 := below_nx6 hd1 hb
  clear hb
  have hS2 : Hid (w2.cell? ⟨p, 0, none⟩ = some (.slice (some ⟨bK, oK, none⟩) n c) ∧ w2.cell? ⟨w.heap.size, 1, none⟩ = some (.slice (some ⟨bI, oI, none⟩) x.ni x.ci) ∧ w2.cell? ⟨bI, oI, none⟩ = some (.int .i64 (i0 : Int)) ∧ w2.cell? ⟨bK, oK + i0, none⟩ = some (.slice g0.A g0.n g0.c) ∧ w2.cell? ⟨w.heap.size, 2, none⟩ = some (.slice x.S x.ns x.cs) ∧ w2.cell? ⟨w.heap.size, 3, none⟩ = some (.int .i64 x.N) ∧ w2.cell? ⟨w.heap.size, 4, none⟩ = some (.int .i64 x.P)) := hide (HC.out _ hd2)
  refine hK.out _ _ hS2.out (fun _ => ?_)
  clear hK K hS1
  refine wpAnyU_take (i := 14) (oi := { dst := some 20, op := _, type := _, pos := _, after := _, guard := none }) (v := .bool B) rfl (by kernel_rfl) (by kernel_rfl) (by kernel_rfl) (by kernel_rfl) (fun _ _ _ h => h) (yields_take rfl (fun w' hw => by obtain ⟨h1, h2, h3, h4, h5, h6, h7⟩ := hw.const; subst hB; go_simp)) hS2.out ?_
  simp only [Act.put, List.setIfInBounds_toArray, List.set_cons_zero, List.set_cons_succ]
  refine wpAnyU_done (by kernel_rfl) ?_ _
  clear hS2
  have HBR := hide hd2
  clear hB
  by_cases hq : y0 = y1
  · obtain rfl : B = false := by rw [HBQ.out, hq]; simp
    obtain ⟨q0, q1, q2, q3, q4⟩ := (HX.out.kept hd2).cs
    rw [HAI.out] at q1
    have hqs : sizeI x.sh = sizeI (kn gs x.xs 0) := by rw [HN0.out, ← HY0.out, ← HY1.out, hq]
    have hkf := kown_any p (some ⟨bK, oK, none⟩) n c gs x w2 (HK.out.below HBR.out) (HO.out.below HBR.out) (by omega) (by omega)
    unfold Nd.v at hkf
    rw [HAI.out] at hkf
    have HKF := hide hkf
    obtain rfl : E = 0 := by rw [HE.out, reE, if_pos hqs]
    have HS9 : Hid (SS = x.sh) := hide (by rw [HSS.out, reS, if_pos hqs])
    clear hkf hd0 hd1 hd2 hq hqs HY0 HY1 HBQ
    go_wp2_with fail
    refine Calls.mono HKF.out ?_
    rintro e w3 ⟨R, kR, cR, rfl, ho, hkR, hb⟩
    have HOR := hide (own_base ho HBR.out.size)
    have HB2 := hide (below_nx6 HBR.out hb)
    clear q0 q1 q2 q3 q4 ho hb HKF
    go_wp2
    go_ret2
    exact ⟨R, kR, cR, rfl, by rw [HS9.out]; exact own_base HOR.out HB0.out.size, hkR, HB0.out.trans (HB2.out.mono HB0.out.size)⟩
  · obtain rfl : B = true := by rw [HBQ.out]; simpa using hq
    have hqs : ¬ sizeI x.sh = sizeI (kn gs x.xs 0) := by rw [HN0.out, ← HY0.out, ← HY1.out]; exact hq
    obtain rfl : E = 10 := by rw [HE.out, reE, if_neg hqs]
    have HS9 : Hid (SS = []) := hide (by rw [HSS.out, reS, if_neg hqs])
    clear hd0 hd1 hd2 hq hqs HY0 HY1 HBQ
    go_wp2
    go_ret2
    exact ⟨none, 0, 0, rfl, by rw [HS9.out]; exact World.ownsRow_nil _ _ _ _, by omega, HB0.out.trans (HBR.out.mono HB0.out.size)⟩

end

end Go.Proofs.YtohndckbhjakfaaGreatDoor
