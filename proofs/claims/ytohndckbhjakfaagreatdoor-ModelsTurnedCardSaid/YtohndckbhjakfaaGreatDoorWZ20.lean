/- Merged: Gr3. -/
import Derived.Test.YtohndckbhjakfaaGreatDoorWZ14
import Derived.Test.YtohndckbhjakfaaGreatDoorWZ16
import Derived.Test.YtohndckbhjakfaaGreatDoorWZ18
import Derived.Test.YtohndckbhjakfaaGreatDoorWZ19
namespace Go.Proofs.YtohndckbhjakfaaGreatDoor

section
open Go.RowKit
set_option linter.unusedVariables false
set_option linter.unusedSimpArgs false
set_option maxRecDepth 100000

/-- The shape of the j-th node that is taken in. -/
def kn (gs : List Sg) (xs : List Int) (j : Nat) : List Int := match gs[(xs.getD j 0).toNat]? with
  | some g => g.s
  | none => []

/-- What two nodes' shapes come to, number by number. -/
def cmE (a b : List Int) : Int := if a = b then 0 else 10

def cmS (a b : List Int) : List Int := if a = b then a else []

theorem kn_at {gs : List Sg} {xs : List Int} {n j : Nat} (hl : gs.length = n) (h : allKn xs n = true) (hj : j < xs.length) : ∃ (i : Nat) (g : Sg), xs.getD j 0 = (i : Int) ∧ i < n ∧ gs[i]? = some g ∧ kn gs xs j = g.s := by
  have hx := List.all_eq_true.1 h (xs[j]) (List.getElem_mem hj)
  simp only [Bool.and_eq_true, decide_eq_true_eq] at hx
  have e : xs.getD j 0 = xs[j] := by simp [List.getD, hj]
  obtain ⟨i, hi⟩ := Int.eq_ofNat_of_zero_le hx.1
  have hin : i < n := by omega
  refine ⟨i, gs[i]'(by omega), by rw [e, hi], hin, List.getElem?_eq_getElem (by omega), ?_⟩
  rw [kn, e, hi, Int.toNat_natCast, List.getElem?_eq_getElem (by omega)]

set_option maxHeartbeats 2000000 in
theorem kown_any (p : Nat) (A : Option Addr) (n c : Nat) (gs : List Sg) (x : Nd) (w : World) (hK : KnAt w p A n c gs) (hx : x.Ok w) (hs1 : 1 ≤ x.ns) (hs4 : x.ns ≤ 4) :
    Calls Tryz.prog 88 #[.pointer (some ⟨p, 0, none⟩), x.v] w fun e w' => ∃ R k kc, e = .returned (.tuple #[.slice R k kc, .int .i64 (0)]) ∧ w'.ownsRow w.heap.size 3 1 (.slice R k kc) k ((x.sh).map (Value.int .i64)) ∧ k ≤ 4 ∧ Below w.heap.size w w' := by
  unfold Nd.v
  obtain ⟨W0, hW0⟩ : ∃ W0, W0 = w.alloc (.cells #[.int .u8 x.kd, .slice x.I x.ni x.ci, .slice x.S x.ns x.cs, .int .i64 x.N, .int .i64 x.P] 44) := ⟨_, rfl⟩
  have HB0 : Hid (Below w.heap.size w W0) := hide (by rw [hW0]; exact below_al6 (Below.refl _ _))
  have HX : Hid (BoxN W0 w.heap.size x) := hide (by rw [hW0]; exact BoxN.new w x)
  have HK := hide (hK.below HB0.out)
  have HO := hide (hx.below HB0.out)
  have HLI : Hid (x.xs.length = x.ni) := hide (lies_len9 hx.1)
  have HLS : Hid (x.sh.length = x.ns) := hide (lies_len9 hx.2.1)
  have hW0' := hW0.symm
  clear hW0 hK hx
  have HC : Hid (∀ v, Below W0.heap.size W0 v → v.cell? ⟨w.heap.size, 2, none⟩ = some (.slice x.S x.ns x.cs) ∧ v.cell? ⟨w.heap.size, 3, none⟩ = some (.int .i64 x.N) ∧ v.cell? ⟨w.heap.size, 4, none⟩ = some (.int .i64 x.P)) := hide (fun v hv => by
    obtain ⟨q0, q1, q2, q3, q4⟩ := (HX.out.kept hv).cs
    exact ⟨q2, q3, q4⟩)
  have hd0 : Below W0.heap.size W0 W0.drew := below_drewN (Below.refl _ _) 1
  obtain ⟨SS, hSS⟩ : ∃ z : List Int, z = x.sh := ⟨_, rfl⟩
  rw [← hSS]
  have HSS := hide hSS
  clear hSS
  go_enter Tryz.func88, Tryz.ntmps88
  obtain ⟨q2, q3, q4⟩ := HC.out _ (Below.refl _ _)
  go_wp2_with fail
  refine Calls.mono (clone_ints x.S x.ns x.cs x.sh _ HO.out.2.1 (by omega) (by omega)) ?_
  rintro e w1 ⟨gR, cR, rfl, ho, hb⟩
  have HOR := hide ho
  have HBR := hide hb
  clear q2 q3 q4 ho hb
  go_wp2
  go_ret2
  exact ⟨some ⟨gR, 0, none⟩, x.ns, cR, rfl, by rw [HSS.out]; exact own_base HOR.out HB0.out.size, by omega, HB0.out.trans (HBR.out.mono HB0.out.size)⟩

set_option maxHeartbeats 2000000 in
theorem kfirst_any (p : Nat) (A : Option Addr) (n c : Nat) (gs : List Sg) (x : Nd) (w : World) (hK : KnAt w p A n c gs) (hx : x.Ok w) (hin : 1 ≤ x.ni) (hal : allKn x.xs n = true) (hpos : ∀ g ∈ gs, 0 < sizeI g.s) :
    Calls Tryz.prog 90 #[.pointer (some ⟨p, 0, none⟩), x.v] w fun e w' => ∃ R k kc, e = .returned (.tuple #[.slice R k kc, .int .i64 (0)]) ∧ w'.ownsRow w.heap.size 3 1 (.slice R k kc) k ((kn gs x.xs 0).map (Value.int .i64)) ∧ k ≤ 4 ∧ Below w.heap.size w w' := by
  unfold Nd.v
  obtain ⟨W0, hW0⟩ : ∃ W0, W0 = w.alloc (.cells #[.int .u8 x.kd, .slice x.I x.ni x.ci, .slice x.S x.ns x.cs, .int .i64 x.N, .int .i64 x.P] 44) := ⟨_, rfl⟩
  have HB0 : Hid (Below w.heap.size w W0) := hide (by rw [hW0]; exact below_al6 (Below.refl _ _))
  have HX : Hid (BoxN W0 w.heap.size x) := hide (by rw [hW0]; exact BoxN.new w x)
  have HK := hide (hK.below HB0.out)
  have HO := hide (hx.below HB0.out)
  have HLI : Hid (x.xs.length = x.ni) := hide (lies_len9 hx.1)
  have HLS : Hid (x.sh.length = x.ns) := hide (lies_len9 hx.2.1)
  have hW0' := hW0.symm
  clear hW0 hK hx
  obtain ⟨i0, g0, hi0, hin0, hgj0, hkn0⟩ := kn_at (j := 0) HK.out.2.1 hal (by rw [HLI.out]; omega)
  have HI0 := hide hi0
  have HG0 := hide hgj0
  have HN0 := hide hkn0
  obtain ⟨hs0, hb0, h40⟩ := HK.out.2.2.2 g0 (List.mem_of_getElem? hgj0)
  have HS0 := hide hs0
  have hp0 : 1 ≤ g0.n := by have h := (sizeI_pos (hpos g0 (List.mem_of_getElem? hgj0))).1; rw [lies_len9 hs0] at h; exact h
  clear hi0 hgj0 hkn0 hs0
  obtain ⟨bK, oK, rfl, _, hxK⟩ := HK.out.2.2.1 (by omega)
  obtain ⟨bI, oI, hAI, _, _⟩ := byte_at HO.out.1 (by omega)
  have HAI := hide hAI
  clear hAI hxK
  have HC : Hid (∀ v, Below W0.heap.size W0 v → v.cell? ⟨p, 0, none⟩ = some (.slice (some ⟨bK, oK, none⟩) n c) ∧ v.cell? ⟨w.heap.size, 1, none⟩ = some (.slice (some ⟨bI, oI, none⟩) x.ni x.ci) ∧ v.cell? ⟨bI, oI, none⟩ = some (.int .i64 (i0 : Int)) ∧ v.cell? ⟨bK, oK + i0, none⟩ = some (.slice g0.A g0.n g0.c) ∧ v.cell? ⟨w.heap.size, 2, none⟩ = some (.slice x.S x.ns x.cs) ∧ v.cell? ⟨w.heap.size, 3, none⟩ = some (.int .i64 x.N) ∧ v.cell? ⟨w.heap.size, 4, none⟩ = some (.int .i64 x.P)) := hide (fun v hv => by
    obtain ⟨q0, q1, q2, q3, q4⟩ := (HX.out.kept hv).cs
    have kv := HK.out.below hv
    rw [HAI.out] at q1
    obtain ⟨_, _, eI, _, hxI⟩ := byte_at (HO.out.1.below hv) (by omega)
    rw [HAI.out] at eI
    cases eI
    obtain ⟨_, _, eK, _, hxK⟩ := kv.2.2.1 (by omega)
    cases eK
    have z0 := hxI 0 (by omega)
    rw [HI0.out, Nat.add_zero] at z0
    exact ⟨kv.c0, q1, z0, hxK i0 g0 HG0.out, q2, q3, q4⟩)
  have j00 : (0 : Int) ≤ (i0 : Int) := by omega
  have j10 : (i0 : Int) < (n : Int) := by omega
  have jz0 : ¬ x.ni = 0 := by omega
  have jn : (0 : Int) < (x.ni : Int) := by omega
  have hd0 : Below W0.heap.size W0 W0.drew := below_drewN (Below.refl _ _) 1
  obtain ⟨SS, hSS⟩ : ∃ z : List Int, z = kn gs x.xs 0 := ⟨_, rfl⟩
  rw [← hSS]
  have HSS := hide hSS
  clear hSS
  go_enter Tryz.func90, Tryz.ntmps90
  go_wp2
  have hS0 : Hid (W0.drew.cell? ⟨p, 0, none⟩ = some (.slice (some ⟨bK, oK, none⟩) n c) ∧ W0.drew.cell? ⟨w.heap.size, 1, none⟩ = some (.slice (some ⟨bI, oI, none⟩) x.ni x.ci) ∧ W0.drew.cell? ⟨bI, oI, none⟩ = some (.int .i64 (i0 : Int)) ∧ W0.drew.cell? ⟨bK, oK + i0, none⟩ = some (.slice g0.A g0.n g0.c) ∧ W0.drew.cell? ⟨w.heap.size, 2, none⟩ = some (.slice x.S x.ns x.cs) ∧ W0.drew.cell? ⟨w.heap.size, 3, none⟩ = some (.int .i64 x.N) ∧ W0.drew.cell? ⟨w.heap.size, 4, none⟩ = some (.int .i64 x.P)) := hide (HC.out _ hd0)
  refine wp_region_U (fun _ v => v.cell? ⟨p, 0, none⟩ = some (.slice (some ⟨bK, oK, none⟩) n c) ∧ v.cell? ⟨w.heap.size, 1, none⟩ = some (.slice (some ⟨bI, oI, none⟩) x.ni x.ci) ∧ v.cell? ⟨bI, oI, none⟩ = some (.int .i64 (i0 : Int)) ∧ v.cell? ⟨bK, oK + i0, none⟩ = some (.slice g0.A g0.n g0.c) ∧ v.cell? ⟨w.heap.size, 2, none⟩ = some (.slice x.S x.ns x.cs) ∧ v.cell? ⟨w.heap.size, 3, none⟩ = some (.int .i64 x.N) ∧ v.cell? ⟨w.heap.size, 4, none⟩ = some (.int .i64 x.P)) 99 (by kernel_rfl) ?_
  refine wpAnyU_take (i := 0) (oi := { dst := some 6, op := _, type := _, pos := _, after := _, guard := none }) (v := .pointer (some ⟨p, 0, none⟩)) rfl (by kernel_rfl) (by kernel_rfl) (by kernel_rfl) (by kernel_rfl) (fun _ _ _ h => h) (yields_take rfl (fun w' hw => by obtain ⟨h1, h2, h3, h4, h5, h6, h7⟩ := hw.const; go_simp)) hS0.out ?_
  simp only [Act.put, List.setIfInBounds_toArray, List.set_cons_zero, List.set_cons_succ]
  refine wpAnyU_take (i := 1) (oi := { dst := some 7, op := _, type := _, pos := _, after := _, guard := none }) (v := .pointer (some ⟨p, 0, none⟩)) rfl (by kernel_rfl) (by kernel_rfl) (by kernel_rfl) (by kernel_rfl) (fun _ _ _ h => h) (yields_take rfl (fun w' hw => by obtain ⟨h1, h2, h3, h4, h5, h6, h7⟩ := hw.const; go_simp)) hS0.out ?_
  simp only [Act.put, List.setIfInBounds_toArray, List.set_cons_zero, List.set_cons_succ]
  refine wpAnyU_take (i := 2) (oi := { dst := some 8, op := _, type := _, pos := _, after := _, guard := none }) (v := .pointer (some ⟨p, 0, none⟩)) rfl (by kernel_rfl) (by kernel_rfl) (by kernel_rfl) (by kernel_rfl) (fun _ _ _ h => h) (yields_take rfl (fun w' hw => by obtain ⟨h1, h2, h3, h4, h5, h6, h7⟩ := hw.const; go_simp)) hS0.out ?_
  simp only [Act.put, List.setIfInBounds_toArray, List.set_cons_zero, List.set_cons_succ]
  refine wpAnyU_take (i := 3) (oi := { dst := some 9, op := _, type := _, pos := _, after := _, guard := none }) (v := .slice (some ⟨bK, oK, none⟩) n c) rfl (by kernel_rfl) (by kernel_rfl) (by kernel_rfl) (by kernel_rfl) (fun _ _ _ h => h) (yields_take rfl (fun w' hw => by obtain ⟨h1, h2, h3, h4, h5, h6, h7⟩ := hw.const; go_simp)) hS0.out ?_
  simp only [Act.put, List.setIfInBounds_toArray, List.set_cons_zero, List.set_cons_succ]
  refine wpAnyU_take (i := 4) (oi := { dst := some 10, op := _, type := _, pos := _, after := _, guard := none }) (v := .pointer (some ⟨w.heap.size, 1, none⟩)) rfl (by kernel_rfl) (by kernel_rfl) (by kernel_rfl) (by kernel_rfl) (fun _ _ _ h => h) (yields_take rfl (fun w' hw => by obtain ⟨h1, h2, h3, h4, h5, h6, h7⟩ := hw.const; go_simp)) hS0.out ?_
  simp only [Act.put, List.setIfInBounds_toArray, List.set_cons_zero, List.set_cons_succ]
  refine wpAnyU_take (i := 5) (oi := { dst := some 11, op := _, type := _, pos := _, after := _, guard := none }) (v := .slice (some ⟨bI, oI, none⟩) x.ni x.ci) rfl (by kernel_rfl) (by kernel_rfl) (by kernel_rfl) (by kernel_rfl) (fun _ _ _ h => h) (yields_take rfl (fun w' hw => by obtain ⟨h1, h2, h3, h4, h5, h6, h7⟩ := hw.const; go_simp)) hS0.out ?_
  simp only [Act.put, List.setIfInBounds_toArray, List.set_cons_zero, List.set_cons_succ]
  refine wpAnyU_take (i := 6) (oi := { dst := some 12, op := _, type := _, pos := _, after := _, guard := none }) (v := .pointer (some ⟨bI, oI, none⟩)) rfl (by kernel_rfl) (by kernel_rfl) (by kernel_rfl) (by kernel_rfl) (fun _ _ _ h => h) (yields_take rfl (fun w' hw => by obtain ⟨h1, h2, h3, h4, h5, h6, h7⟩ := hw.const; go_simp)) hS0.out ?_
  simp only [Act.put, List.setIfInBounds_toArray, List.set_cons_zero, List.set_cons_succ]
  refine wpAnyU_take (i := 7) (oi := { dst := some 13, op := _, type := _, pos := _, after := _, guard := none }) (v := .int .i64 (i0 : Int)) rfl (by kernel_rfl) (by kernel_rfl) (by kernel_rfl) (by kernel_rfl) (fun _ _ _ h => h) (yields_take rfl (fun w' hw => by obtain ⟨h1, h2, h3, h4, h5, h6, h7⟩ := hw.const; go_simp)) hS0.out ?_
  simp only [Act.put, List.setIfInBounds_toArray, List.set_cons_zero, List.set_cons_succ]
  refine wpAnyU_take (i := 8) (oi := { dst := some 14, op := _, type := _, pos := _, after := _, guard := none }) (v := .pointer (some ⟨bK, oK + i0, none⟩)) rfl (by kernel_rfl) (by kernel_rfl) (by kernel_rfl) (by kernel_rfl) (fun _ _ _ h => h) (yields_take rfl (fun w' hw => by obtain ⟨h1, h2, h3, h4, h5, h6, h7⟩ := hw.const; go_simp)) hS0.out ?_
  simp only [Act.put, List.setIfInBounds_toArray, List.set_cons_zero, List.set_cons_succ]
  refine wpAnyU_take (i := 9) (oi := { dst := some 15, op := _, type := _, pos := _, after := _, guard := none }) (v := .slice g0.A g0.n g0.c) rfl (by kernel_rfl) (by kernel_rfl) (by kernel_rfl) (by kernel_rfl) (fun _ _ _ h => h) (yields_take rfl (fun w' hw => by obtain ⟨h1, h2, h3, h4, h5, h6, h7⟩ := hw.const; go_simp)) hS0.out ?_
  simp only [Act.put, List.setIfInBounds_toArray, List.set_cons_zero, List.set_cons_succ]
  refine wpAnyU_one (i := 10) (by kernel_rfl) rfl ?_
  intro K hK
  go_simp
  refine Calls.mono (clone_ints g0.A g0.n g0.c g0.s _ (HS0.out.below hd0) (by omega) (by omega)) ?_
  rintro e w1 ⟨gR, cR, rfl, ho, hb⟩
  dsimp only
  have hd1 : Below W0.heap.size W0 w1 := below_nx6 hd0 hb
  have HOR := hide (own_base ho hd0.size)
  clear hb ho
  have hS1 : Hid (w1.cell? ⟨p, 0, none⟩ = some (.slice (some ⟨bK, oK, none⟩) n c) ∧ w1.cell? ⟨w.heap.size, 1, none⟩ = some (.slice (some ⟨bI, oI, none⟩) x.ni x.ci) ∧ w1.cell? ⟨bI, oI, none⟩ = some (.int .i64 (i0 : Int)) ∧ w1.cell? ⟨bK, oK + i0, none⟩ = some (.slice g0.A g0.n g0.c) ∧ w1.cell? ⟨w.heap.size, 2, none⟩ = some (.slice x.S x.ns x.cs) ∧ w1.cell? ⟨w.heap.size, 3, none⟩ = some (.int .i64 x.N) ∧ w1.cell? ⟨w.heap.size, 4, none⟩ = some (.int .i64 x.P)) := hide (HC.out _ hd1)
  refine hK.out _ _ hS1.out (fun _ => ?_)
  clear hK K hS0
  refine wpAnyU_take (i := 11) (oi := { dst := some 4, op := _, type := _, pos := _, after := _, guard := none }) (v := .slice (some ⟨gR, 0, none⟩) g0.n cR) rfl (by kernel_rfl) (by kernel_rfl) (by kernel_rfl) (by kernel_rfl) (fun _ _ _ h => h) (yields_take rfl (fun w' hw => by obtain ⟨h1, h2, h3, h4, h5, h6, h7⟩ := hw.const; go_simp)) hS1.out ?_
  simp only [Act.put, List.setIfInBounds_toArray, List.set_cons_zero, List.set_cons_succ]
  refine wpAnyU_take (i := 12) (oi := { dst := some 5, op := _, type := _, pos := _, after := _, guard := none }) (v := .int .i64 (0 : Int)) rfl (by kernel_rfl) (by kernel_rfl) (by kernel_rfl) (by kernel_rfl) (fun _ _ _ h => h) (yields_take rfl (fun w' hw => by obtain ⟨h1, h2, h3, h4, h5, h6, h7⟩ := hw.const; go_simp)) hS1.out ?_
  simp only [Act.put, List.setIfInBounds_toArray, List.set_cons_zero, List.set_cons_succ]
  refine wpAnyU_done (by kernel_rfl) ?_ _
  clear hS1
  have HBR := hide hd1
  go_wp2
  go_ret2
  exact ⟨some ⟨gR, 0, none⟩, g0.n, cR, rfl, by rw [HSS.out, HN0.out]; exact own_base HOR.out HB0.out.size, by omega, HB0.out.trans (HBR.out.mono HB0.out.size)⟩

set_option maxHeartbeats 2000000 in
theorem kproduct_any (p : Nat) (A : Option Addr) (n c : Nat) (gs : List Sg) (x : Nd) (w : World) (hK : KnAt w p A n c gs) (hx : x.Ok w) (hin : 2 ≤ x.ni) (hal : allKn x.xs n = true) (hpos : ∀ g ∈ gs, 0 < sizeI g.s) :
    Calls Tryz.prog 91 #[.pointer (some ⟨p, 0, none⟩), x.v] w fun e w' => ∃ R k kc, e = .returned (.tuple #[.slice R k kc, .int .i64 (shp7E (kn gs x.xs 0) (kn gs x.xs 1))]) ∧ w'.ownsRow w.heap.size 3 1 (.slice R k kc) k ((shp7S (kn gs x.xs 0) (kn gs x.xs 1)).map (Value.int .i64)) ∧ k ≤ 4 ∧ Below w.heap.size w w' := by
  unfold Nd.v
  obtain ⟨W0, hW0⟩ : ∃ W0, W0 = w.alloc (.cells #[.int .u8 x.kd, .slice x.I x.ni x.ci, .slice x.S x.ns x.cs, .int .i64 x.N, .int .i64 x.P] 44) := ⟨_, rfl⟩
  have HB0 : Hid (Below w.heap.size w W0) := hide (by rw [hW0]; exact below_al6 (Below.refl _ _))
  have HX : Hid (BoxN W0 w.heap.size x) := hide (by rw [hW0]; exact BoxN.new w x)
  have HK := hide (hK.below HB0.out)
  have HO := hide (hx.below HB0.out)
  have HLI : Hid (x.xs.length = x.ni) := hide (lies_len9 hx.1)
  have HLS : Hid (x.sh.length = x.ns) := hide (lies_len9 hx.2.1)
  have hW0' := hW0.symm
  clear hW0 hK hx
  obtain ⟨i0, g0, hi0, hin0, hgj0, hkn0⟩ := kn_at (j := 0) HK.out.2.1 hal (by rw [HLI.out]; omega)
  have HI0 := hide hi0
  have HG0 := hide hgj0
  have HN0 := hide hkn0
  obtain ⟨hs0, hb0, h40⟩ := HK.out.2.2.2 g0 (List.mem_of_getElem? hgj0)
  have HS0 := hide hs0
  have hp0 : 1 ≤ g0.n := by have h := (sizeI_pos (hpos g0 (List.mem_of_getElem? hgj0))).1; rw [lies_len9 hs0] at h; exact h
  clear hi0 hgj0 hkn0 hs0
  obtain ⟨i1, g1, hi1, hin1, hgj1, hkn1⟩ := kn_at (j := 1) HK.out.2.1 hal (by rw [HLI.out]; omega)
  have HI1 := hide hi1
  have HG1 := hide hgj1
  have HN1 := hide hkn1
  obtain ⟨hs1, hb1, h41⟩ := HK.out.2.2.2 g1 (List.mem_of_getElem? hgj1)
  have HS1 := hide hs1
  have hp1 : 1 ≤ g1.n := by have h := (sizeI_pos (hpos g1 (List.mem_of_getElem? hgj1))).1; rw [lies_len9 hs1] at h; exact h
  clear hi1 hgj1 hkn1 hs1
  obtain ⟨bK, oK, rfl, _, hxK⟩ := HK.out.2.2.1 (by omega)
  obtain ⟨bI, oI, hAI, _, _⟩ := byte_at HO.out.1 (by omega)
  have HAI := hide hAI
  clear hAI hxK
  have HC : Hid (∀ v, Below W0.heap.size W0 v → v.cell? ⟨p, 0, none⟩ = some (.slice (some ⟨bK, oK, none⟩) n c) ∧ v.cell? ⟨w.heap.size, 1, none⟩ = some (.slice (some ⟨bI, oI, none⟩) x.ni x.ci) ∧ v.cell? ⟨bI, oI, none⟩ = some (.int .i64 (i0 : Int)) ∧ v.cell? ⟨bK, oK + i0, none⟩ = some (.slice g0.A g0.n g0.c) ∧ v.cell? ⟨bI, oI + 1, none⟩ = some (.int .i64 (i1 : Int)) ∧ v.cell? ⟨bK, oK + i1, none⟩ = some (.slice g1.A g1.n g1.c) ∧ v.cell? ⟨w.heap.size, 2, none⟩ = some (.slice x.S x.ns x.cs) ∧ v.cell? ⟨w.heap.size, 3, none⟩ = some (.int .i64 x.N) ∧ v.cell? ⟨w.heap.size, 4, none⟩ = some (.int .i64 x.P)) := hide (fun v hv => by
    obtain ⟨q0, q1, q2, q3, q4⟩ := (HX.out.kept hv).cs
    have kv := HK.out.below hv
    rw [HAI.out] at q1
    obtain ⟨_, _, eI, _, hxI⟩ := byte_at (HO.out.1.below hv) (by omega)
    rw [HAI.out] at eI
    cases eI
    obtain ⟨_, _, eK, _, hxK⟩ := kv.2.2.1 (by omega)
    cases eK
    have z0 := hxI 0 (by omega)
    rw [HI0.out, Nat.add_zero] at z0
    have z1 := hxI 1 (by omega)
    rw [HI1.out] at z1
    exact ⟨kv.c0, q1, z0, hxK i0 g0 HG0.out, z1, hxK i1 g1 HG1.out, q2, q3, q4⟩)
  have j00 : (0 : Int) ≤ (i0 : Int) := by omega
  have j10 : (i0 : Int) < (n : Int) := by omega
  have j01 : (0 : Int) ≤ (i1 : Int) := by omega
  have j11 : (i1 : Int) < (n : Int) := by omega
  have jz0 : ¬ x.ni = 0 := by omega
  have jn : (0 : Int) < (x.ni : Int) := by omega
  have jn2 : (1 : Int) < (x.ni : Int) := by omega
  have hd0 : Below W0.heap.size W0 W0.drew := below_drewN (Below.refl _ _) 1
  obtain ⟨E, hE⟩ : ∃ z : Int, z = shp7E (kn gs x.xs 0) (kn gs x.xs 1) := ⟨_, rfl⟩
  obtain ⟨SS, hSS⟩ : ∃ z : List Int, z = shp7S (kn gs x.xs 0) (kn gs x.xs 1) := ⟨_, rfl⟩
  rw [← hE, ← hSS]
  have HE := hide hE
  have HSS := hide hSS
  clear hE hSS
  go_enter Tryz.func91, Tryz.ntmps91
  go_wp2
  have hS0 : Hid (W0.drew.cell? ⟨p, 0, none⟩ = some (.slice (some ⟨bK, oK, none⟩) n c) ∧ W0.drew.cell? ⟨w.heap.size, 1, none⟩ = some (.slice (some ⟨bI, oI, none⟩) x.ni x.ci) ∧ W0.drew.cell? ⟨bI, oI, none⟩ = some (.int .i64 (i0 : Int)) ∧ W0.drew.cell? ⟨bK, oK + i0, none⟩ = some (.slice g0.A g0.n g0.c) ∧ W0.drew.cell? ⟨bI, oI + 1, none⟩ = some (.int .i64 (i1 : Int)) ∧ W0.drew.cell? ⟨bK, oK + i1, none⟩ = some (.slice g1.A g1.n g1.c) ∧ W0.drew.cell? ⟨w.heap.size, 2, none⟩ = some (.slice x.S x.ns x.cs) ∧ W0.drew.cell? ⟨w.heap.size, 3, none⟩ = some (.int .i64 x.N) ∧ W0.drew.cell? ⟨w.heap.size, 4, none⟩ = some (.int .i64 x.P)) := hide (HC.out _ hd0)
  refine wp_region_U (fun _ v => v.cell? ⟨p, 0, none⟩ = some (.slice (some ⟨bK, oK, none⟩) n c) ∧ v.cell? ⟨w.heap.size, 1, none⟩ = some (.slice (some ⟨bI, oI, none⟩) x.ni x.ci) ∧ v.cell? ⟨bI, oI, none⟩ = some (.int .i64 (i0 : Int)) ∧ v.cell? ⟨bK, oK + i0, none⟩ = some (.slice g0.A g0.n g0.c) ∧ v.cell? ⟨bI, oI + 1, none⟩ = some (.int .i64 (i1 : Int)) ∧ v.cell? ⟨bK, oK + i1, none⟩ = some (.slice g1.A g1.n g1.c) ∧ v.cell? ⟨w.heap.size, 2, none⟩ = some (.slice x.S x.ns x.cs) ∧ v.cell? ⟨w.heap.size, 3, none⟩ = some (.int .i64 x.N) ∧ v.cell? ⟨w.heap.size, 4, none⟩ = some (.int .i64 x.P)) 99 (by kernel_rfl) ?_
  refine wpAnyU_take (i := 0) (oi := { dst := some 6, op := _, type := _, pos := _, after := _, guard := none }) (v := .pointer (some ⟨p, 0, none⟩)) rfl (by kernel_rfl) (by kernel_rfl) (by kernel_rfl) (by kernel_rfl) (fun _ _ _ h => h) (yields_take rfl (fun w' hw => by obtain ⟨h1, h2, h3, h4, h5, h6, h7, h8, h9⟩ := hw.const; go_simp)) hS0.out ?_
  simp only [Act.put, List.setIfInBounds_toArray, List.set_cons_zero, List.set_cons_succ]
  refine wpAnyU_take (i := 1) (oi := { dst := some 7, op := _, type := _, pos := _, after := _, guard := none }) (v := .pointer (some ⟨p, 0, none⟩)) rfl (by kernel_rfl) (by kernel_rfl) (by kernel_rfl) (by kernel_rfl) (fun _ _ _ h => h) (yields_take rfl (fun w' hw => by obtain ⟨h1, h2, h3, h4, h5, h6, h7, h8, h9⟩ := hw.const; go_simp)) hS0.out ?_
  simp only [Act.put, List.setIfInBounds_toArray, List.set_cons_zero, List.set_cons_succ]
  refine wpAnyU_take (i := 2) (oi := { dst := some 8, op := _, type := _, pos := _, after := _, guard := none }) (v := .pointer (some ⟨p, 0, none⟩)) rfl (by kernel_rfl) (by kernel_rfl) (by kernel_rfl) (by kernel_rfl) (fun _ _ _ h => h) (yields_take rfl (fun w' hw => by obtain ⟨h1, h2, h3, h4, h5, h6, h7, h8, h9⟩ := hw.const; go_simp)) hS0.out ?_
  simp only [Act.put, List.setIfInBounds_toArray, List.set_cons_zero, List.set_cons_succ]
  refine wpAnyU_take (i := 3) (oi := { dst := some 9, op := _, type := _, pos := _, after := _, guard := none }) (v := .slice (some ⟨bK, oK, none⟩) n c) rfl (by kernel_rfl) (by kernel_rfl) (by kernel_rfl) (by kernel_rfl) (fun _ _ _ h => h) (yields_take rfl (fun w' hw => by obtain ⟨h1, h2, h3, h4, h5, h6, h7, h8, h9⟩ := hw.const; go_simp)) hS0.out ?_
  simp only [Act.put, List.setIfInBounds_toArray, List.set_cons_zero, List.set_cons_succ]
  refine wpAnyU_take (i := 4) (oi := { dst := some 10, op := _, type := _, pos := _, after := _, guard := none }) (v := .pointer (some ⟨w.heap.size, 1, none⟩)) rfl (by kernel_rfl) (by kernel_rfl) (by kernel_rfl) (by kernel_rfl) (fun _ _ _ h => h) (yields_take rfl (fun w' hw => by obtain ⟨h1, h2, h3, h4, h5, h6, h7, h8, h9⟩ := hw.const; go_simp)) hS0.out ?_
  simp only [Act.put, List.setIfInBounds_toArray, List.set_cons_zero, List.set_cons_succ]
  refine wpAnyU_take (i := 5) (oi := { dst := some 11, op := _, type := _, pos := _, after := _, guard := none }) (v := .slice (some ⟨bI, oI, none⟩) x.ni x.ci) rfl (by kernel_rfl) (by kernel_rfl) (by kernel_rfl) (by kernel_rfl) (fun _ _ _ h => h) (yields_take rfl (fun w' hw => by obtain ⟨h1, h2, h3, h4, h5, h6, h7, h8, h9⟩ := hw.const; go_simp)) hS0.out ?_
  simp only [Act.put, List.setIfInBounds_toArray, List.set_cons_zero, List.set_cons_succ]
  refine wpAnyU_take (i := 6) (oi := { dst := some 12, op := _, type := _, pos := _, after := _, guard := none }) (v := .pointer (some ⟨bI, oI, none⟩)) rfl (by kernel_rfl) (by kernel_rfl) (by kernel_rfl) (by kernel_rfl) (fun _ _ _ h => h) (yields_take rfl (fun w' hw => by obtain ⟨h1, h2, h3, h4, h5, h6, h7, h8, h9⟩ := hw.const; go_simp)) hS0.out ?_
  simp only [Act.put, List.setIfInBounds_toArray, List.set_cons_zero, List.set_cons_succ]
  refine wpAnyU_take (i := 7) (oi := { dst := some 13, op := _, type := _, pos := _, after := _, guard := none }) (v := .int .i64 (i0 : Int)) rfl (by kernel_rfl) (by kernel_rfl) (by kernel_rfl) (by kernel_rfl) (fun _ _ _ h => h) (yields_take rfl (fun w' hw => by obtain ⟨h1, h2, h3, h4, h5, h6, h7, h8, h9⟩ := hw.const; go_simp)) hS0.out ?_
  simp only [Act.put, List.setIfInBounds_toArray, List.set_cons_zero, List.set_cons_succ]
  refine wpAnyU_take (i := 8) (oi := { dst := some 14, op := _, type := _, pos := _, after := _, guard := none }) (v := .pointer (some ⟨bK, oK + i0, none⟩)) rfl (by kernel_rfl) (by kernel_rfl) (by kernel_rfl) (by kernel_rfl) (fun _ _ _ h => h) (yields_take rfl (fun w' hw => by obtain ⟨h1, h2, h3, h4, h5, h6, h7, h8, h9⟩ := hw.const; go_simp)) hS0.out ?_
  simp only [Act.put, List.setIfInBounds_toArray, List.set_cons_zero, List.set_cons_succ]
  refine wpAnyU_take (i := 9) (oi := { dst := some 15, op := _, type := _, pos := _, after := _, guard := none }) (v := .slice g0.A g0.n g0.c) rfl (by kernel_rfl) (by kernel_rfl) (by kernel_rfl) (by kernel_rfl) (fun _ _ _ h => h) (yields_take rfl (fun w' hw => by obtain ⟨h1, h2, h3, h4, h5, h6, h7, h8, h9⟩ := hw.const; go_simp)) hS0.out ?_
  simp only [Act.put, List.setIfInBounds_toArray, List.set_cons_zero, List.set_cons_succ]
  refine wpAnyU_take (i := 10) (oi := { dst := some 16, op := _, type := _, pos := _, after := _, guard := none }) (v := .pointer (some ⟨p, 0, none⟩)) rfl (by kernel_rfl) (by kernel_rfl) (by kernel_rfl) (by kernel_rfl) (fun _ _ _ h => h) (yields_take rfl (fun w' hw => by obtain ⟨h1, h2, h3, h4, h5, h6, h7, h8, h9⟩ := hw.const; go_simp)) hS0.out ?_
  simp only [Act.put, List.setIfInBounds_toArray, List.set_cons_zero, List.set_cons_succ]
  refine wpAnyU_take (i := 11) (oi := { dst := some 17, op := _, type := _, pos := _, after := _, guard := none }) (v := .pointer (some ⟨p, 0, none⟩)) rfl (by kernel_rfl) (by kernel_rfl) (by kernel_rfl) (by kernel_rfl) (fun _ _ _ h => h) (yields_take rfl (fun w' hw => by obtain ⟨h1, h2, h3, h4, h5, h6, h7, h8, h9⟩ := hw.const; go_simp)) hS0.out ?_
  simp only [Act.put, List.setIfInBounds_toArray, List.set_cons_zero, List.set_cons_succ]
  refine wpAnyU_take (i := 12) (oi := { dst := some 18, op := _, type := _, pos := _, after := _, guard := none }) (v := .pointer (some ⟨p, 0, none⟩)) rfl (by kernel_rfl) (by kernel_rfl) (by kernel_rfl) (by kernel_rfl) (fun _ _ _ h => h) (yields_take rfl (fun w' hw => by obtain ⟨h1, h2, h3, h4, h5, h6, h7, h8, h9⟩ := hw.const; go_simp)) hS0.out ?_
  simp only [Act.put, List.setIfInBounds_toArray, List.set_cons_zero, List.set_cons_succ]
  refine wpAnyU_take (i := 13) (oi := { dst := some 19, op := _, type := _, pos := _, after := _, guard := none }) (v := .slice (some ⟨bK, oK, none⟩) n c) rfl (by kernel_rfl) (by kernel_rfl) (by kernel_rfl) (by kernel_rfl) (fun _ _ _ h => h) (yields_take rfl (fun w' hw => by obtain ⟨h1, h2, h3, h4, h5, h6, h7, h8, h9⟩ := hw.const; go_simp)) hS0.out ?_
  simp only [Act.put, List.setIfInBounds_toArray, List.set_cons_zero, List.set_cons_succ]
  refine wpAnyU_take (i := 14) (oi := { dst := some 20, op := _, type := _, pos := _, after := _, guard := none }) (v := .pointer (some ⟨w.heap.size, 1, none⟩)) rfl (by kernel_rfl) (by kernel_rfl) (by kernel_rfl) (by kernel_rfl) (fun _ _ _ h => h) (yields_take rfl (fun w' hw => by obtain ⟨h1, h2, h3, h4, h5, h6, h7, h8, h9⟩ := hw.const; go_simp)) hS0.out ?_
  simp only [Act.put, List.setIfInBounds_toArray, List.set_cons_zero, List.set_cons_succ]
  refine wpAnyU_take (i := 15) (oi := { dst := some 21, op := _, type := _, pos := _, after := _, guard := none }) (v := .slice (some ⟨bI, oI, none⟩) x.ni x.ci) rfl (by kernel_rfl) (by kernel_rfl) (by kernel_rfl) (by kernel_rfl) (fun _ _ _ h => h) (yields_take rfl (fun w' hw => by obtain ⟨h1, h2, h3, h4, h5, h6, h7, h8, h9⟩ := hw.const; go_simp)) hS0.out ?_
  simp only [Act.put, List.setIfInBounds_toArray, List.set_cons_zero, List.set_cons_succ]
  refine wpAnyU_take (i := 16) (oi := { dst := some 22, op := _, type := _, pos := _, after := _, guard := none }) (v := .pointer (some ⟨bI, oI + 1, none⟩)) rfl (by kernel_rfl) (by kernel_rfl) (by kernel_rfl) (by kernel_rfl) (fun _ _ _ h => h) (yields_take rfl (fun w' hw => by obtain ⟨h1, h2, h3, h4, h5, h6, h7, h8, h9⟩ := hw.const; go_simp)) hS0.out ?_
  simp only [Act.put, List.setIfInBounds_toArray, List.set_cons_zero, List.set_cons_succ]
  refine wpAnyU_take (i := 17) (oi := { dst := some 23, op := _, type := _, pos := _, after := _, guard := none }) (v := .int .i64 (i1 : Int)) rfl (by kernel_rfl) (by kernel_rfl) (by kernel_rfl) (by kernel_rfl) (fun _ _ _ h => h) (yields_take rfl (fun w' hw => by obtain ⟨h1, h2, h3, h4, h5, h6, h7, h8, h9⟩ := hw.const; go_simp)) hS0.out ?_
  simp only [Act.put, List.setIfInBounds_toArray, List.set_cons_zero, List.set_cons_succ]
  refine wpAnyU_take (i := 18) (oi := { dst := some 24, op := _, type := _, pos := _, after := _, guard := none }) (v := .pointer (some ⟨bK, oK + i1, none⟩)) rfl (by kernel_rfl) (by kernel_rfl) (by kernel_rfl) (by kernel_rfl) (fun _ _ _ h => h) (yields_take rfl (fun w' hw => by obtain ⟨h1, h2, h3, h4, h5, h6, h7, h8, h9⟩ := hw.const; go_simp)) hS0.out ?_
  simp only [Act.put, List.setIfInBounds_toArray, List.set_cons_zero, List.set_cons_succ]
  refine wpAnyU_take (i := 19) (oi := { dst := some 25, op := _, type := _, pos := _, after := _, guard := none }) (v := .slice g1.A g1.n g1.c) rfl (by kernel_rfl) (by kernel_rfl) (by kernel_rfl) (by kernel_rfl) (fun _ _ _ h => h) (yields_take rfl (fun w' hw => by obtain ⟨h1, h2, h3, h4, h5, h6, h7, h8, h9⟩ := hw.const; go_simp)) hS0.out ?_
  simp only [Act.put, List.setIfInBounds_toArray, List.set_cons_zero, List.set_cons_succ]
  refine wpAnyU_one (i := 20) (by kernel_rfl) rfl ?_
  intro K hK
  go_simp
  refine Calls.mono (pshape_any g0.A g1.A g0.n g0.c g1.n g1.c g0.s g1.s _ (HS0.out.below hd0) (HS1.out.below hd0) (by omega) (by omega)) ?_
  rintro e w1 ⟨R, kR, cR, rfl, ho, hkR, hb⟩
  dsimp only
  have HE9 := HE.out
  rw [HN0.out, HN1.out] at HE9
  rw [← HE9]
  clear HE9
  have hd1 : Below W0.heap.size W0 w1 := below_nx6 hd0 hb
  have HOR := hide (own_base ho hd0.size)
  clear hb ho
  have hS1 : Hid (w1.cell? ⟨p, 0, none⟩ = some (.slice (some ⟨bK, oK, none⟩) n c) ∧ w1.cell? ⟨w.heap.size, 1, none⟩ = some (.slice (some ⟨bI, oI, none⟩) x.ni x.ci) ∧ w1.cell? ⟨bI, oI, none⟩ = some (.int .i64 (i0 : Int)) ∧ w1.cell? ⟨bK, oK + i0, none⟩ = some (.slice g0.A g0.n g0.c) ∧ w1.cell? ⟨bI, oI + 1, none⟩ = some (.int .i64 (i1 : Int)) ∧ w1.cell? ⟨bK, oK + i1, none⟩ = some (.slice g1.A g1.n g1.c) ∧ w1.cell? ⟨w.heap.size, 2, none⟩ = some (.slice x.S x.ns x.cs) ∧ w1.cell? ⟨w.heap.size, 3, none⟩ = some (.int .i64 x.N) ∧ w1.cell? ⟨w.heap.size, 4, none⟩ = some (.int .i64 x.P)) := hide (HC.out _ hd1)
  refine hK.out _ _ hS1.out (fun _ => ?_)
  clear hK K hS0
  refine wpAnyU_take (i := 21) (oi := { dst := some 27, op := _, type := _, pos := _, after := _, guard := none }) (v := .slice R kR cR) rfl (by kernel_rfl) (by kernel_rfl) (by kernel_rfl) (by kernel_rfl) (fun _ _ _ h => h) (yields_take rfl (fun w' hw => by obtain ⟨h1, h2, h3, h4, h5, h6, h7, h8, h9⟩ := hw.const; go_simp)) hS1.out ?_
  simp only [Act.put, List.setIfInBounds_toArray, List.set_cons_zero, List.set_cons_succ]
  refine wpAnyU_take (i := 22) (oi := { dst := some 28, op := _, type := _, pos := _, after := _, guard := none }) (v := .int .i64 E) rfl (by kernel_rfl) (by kernel_rfl) (by kernel_rfl) (by kernel_rfl) (fun _ _ _ h => h) (yields_take rfl (fun w' hw => by obtain ⟨h1, h2, h3, h4, h5, h6, h7, h8, h9⟩ := hw.const; go_simp)) hS1.out ?_
  simp only [Act.put, List.setIfInBounds_toArray, List.set_cons_zero, List.set_cons_succ]
  refine wpAnyU_take (i := 23) (oi := { dst := some 4, op := _, type := _, pos := _, after := _, guard := none }) (v := .slice R kR cR) rfl (by kernel_rfl) (by kernel_rfl) (by kernel_rfl) (by kernel_rfl) (fun _ _ _ h => h) (yields_take rfl (fun w' hw => by obtain ⟨h1, h2, h3, h4, h5, h6, h7, h8, h9⟩ := hw.const; go_simp)) hS1.out ?_
  simp only [Act.put, List.setIfInBounds_toArray, List.set_cons_zero, List.set_cons_succ]
  refine wpAnyU_take (i := 24) (oi := { dst := some 5, op := _, type := _, pos := _, after := _, guard := none }) (v := .int .i64 E) rfl (by kernel_rfl) (by kernel_rfl) (by kernel_rfl) (by kernel_rfl) (fun _ _ _ h => h) (yields_take rfl (fun w' hw => by obtain ⟨h1, h2, h3, h4, h5, h6, h7, h8, h9⟩ := hw.const; go_simp)) hS1.out ?_
  simp only [Act.put, List.setIfInBounds_toArray, List.set_cons_zero, List.set_cons_succ]
  refine wpAnyU_done (by kernel_rfl) ?_ _
  clear hS1
  have HBR := hide hd1
  go_wp2
  go_ret2
  exact ⟨R, kR, cR, rfl, by rw [HSS.out, HN0.out, HN1.out]; exact own_base HOR.out HB0.out.size, by omega, HB0.out.trans (HBR.out.mono HB0.out.size)⟩

set_option maxHeartbeats 2000000 in
theorem kwindow_any (p : Nat) (A : Option Addr) (n c : Nat) (gs : List Sg) (x : Nd) (w : World) (hK : KnAt w p A n c gs) (hx : x.Ok w) (hin : 2 ≤ x.ni) (hal : allKn x.xs n = true) (hpos : ∀ g ∈ gs, 0 < sizeI g.s) :
    Calls Tryz.prog 92 #[.pointer (some ⟨p, 0, none⟩), x.v] w fun e w' => ∃ R k kc, e = .returned (.tuple #[.slice R k kc, .int .i64 (shp8E (kn gs x.xs 0) (kn gs x.xs 1) x.N x.P)]) ∧ w'.ownsRow w.heap.size 3 1 (.slice R k kc) k ((shp8S (kn gs x.xs 0) (kn gs x.xs 1) x.N x.P).map (Value.int .i64)) ∧ k ≤ 4 ∧ Below w.heap.size w w' := by
  unfold Nd.v
  obtain ⟨W0, hW0⟩ : ∃ W0, W0 = w.alloc (.cells #[.int .u8 x.kd, .slice x.I x.ni x.ci, .slice x.S x.ns x.cs, .int .i64 x.N, .int .i64 x.P] 44) := ⟨_, rfl⟩
  have HB0 : Hid (Below w.heap.size w W0) := hide (by rw [hW0]; exact below_al6 (Below.refl _ _))
  have HX : Hid (BoxN W0 w.heap.size x) := hide (by rw [hW0]; exact BoxN.new w x)
  have HK := hide (hK.below HB0.out)
  have HO := hide (hx.below HB0.out)
  have HLI : Hid (x.xs.length = x.ni) := hide (lies_len9 hx.1)
  have HLS : Hid (x.sh.length = x.ns) := hide (lies_len9 hx.2.1)
  have hW0' := hW0.symm
  clear hW0 hK hx
  obtain ⟨i0, g0, hi0, hin0, hgj0, hkn0⟩ := kn_at (j := 0) HK.out.2.1 hal (by rw [HLI.out]; omega)
  have HI0 := hide hi0
  have HG0 := hide hgj0
  have HN0 := hide hkn0
  obtain ⟨hs0, hb0, h40⟩ := HK.out.2.2.2 g0 (List.mem_of_getElem? hgj0)
  have HS0 := hide hs0
  have hp0 : 1 ≤ g0.n := by have h := (sizeI_pos (hpos g0 (List.mem_of_getElem? hgj0))).1; rw [lies_len9 hs0] at h; exact h
  clear hi0 hgj0 hkn0 hs0
  obtain ⟨i1, g1, hi1, hin1, hgj1, hkn1⟩ := kn_at (j := 1) HK.out.2.1 hal (by rw [HLI.out]; omega)
  have HI1 := hide hi1
  have HG1 := hide hgj1
  have HN1 := hide hkn1
  obtain ⟨hs1, hb1, h41⟩ := HK.out.2.2.2 g1 (List.mem_of_getElem? hgj1)
  have HS1 := hide hs1
  have hp1 : 1 ≤ g1.n := by have h := (sizeI_pos (hpos g1 (List.mem_of_getElem? hgj1))).1; rw [lies_len9 hs1] at h; exact h
  clear hi1 hgj1 hkn1 hs1
  obtain ⟨bK, oK, rfl, _, hxK⟩ := HK.out.2.2.1 (by omega)
  obtain ⟨bI, oI, hAI, _, _⟩ := byte_at HO.out.1 (by omega)
  have HAI := hide hAI
  clear hAI hxK
  have HC : Hid (∀ v, Below W0.heap.size W0 v → v.cell? ⟨p, 0, none⟩ = some (.slice (some ⟨bK, oK, none⟩) n c) ∧ v.cell? ⟨w.heap.size, 1, none⟩ = some (.slice (some ⟨bI, oI, none⟩) x.ni x.ci) ∧ v.cell? ⟨bI, oI, none⟩ = some (.int .i64 (i0 : Int)) ∧ v.cell? ⟨bK, oK + i0, none⟩ = some (.slice g0.A g0.n g0.c) ∧ v.cell? ⟨bI, oI + 1, none⟩ = some (.int .i64 (i1 : Int)) ∧ v.cell? ⟨bK, oK + i1, none⟩ = some (.slice g1.A g1.n g1.c) ∧ v.cell? ⟨w.heap.size, 2, none⟩ = some (.slice x.S x.ns x.cs) ∧ v.cell? ⟨w.heap.size, 3, none⟩ = some (.int .i64 x.N) ∧ v.cell? ⟨w.heap.size, 4, none⟩ = some (.int .i64 x.P)) := hide (fun v hv => by
    obtain ⟨q0, q1, q2, q3, q4⟩ := (HX.out.kept hv).cs
    have kv := HK.out.below hv
    rw [HAI.out] at q1
    obtain ⟨_, _, eI, _, hxI⟩ := byte_at (HO.out.1.below hv) (by omega)
    rw [HAI.out] at eI
    cases eI
    obtain ⟨_, _, eK, _, hxK⟩ := kv.2.2.1 (by omega)
    cases eK
    have z0 := hxI 0 (by omega)
    rw [HI0.out, Nat.add_zero] at z0
    have z1 := hxI 1 (by omega)
    rw [HI1.out] at z1
    exact ⟨kv.c0, q1, z0, hxK i0 g0 HG0.out, z1, hxK i1 g1 HG1.out, q2, q3, q4⟩)
  have j00 : (0 : Int) ≤ (i0 : Int) := by omega
  have j10 : (i0 : Int) < (n : Int) := by omega
  have j01 : (0 : Int) ≤ (i1 : Int) := by omega
  have j11 : (i1 : Int) < (n : Int) := by omega
  have jz0 : ¬ x.ni = 0 := by omega
  have jn : (0 : Int) < (x.ni : Int) := by omega
  have jn2 : (1 : Int) < (x.ni : Int) := by omega
  have hd0 : Below W0.heap.size W0 W0.drew := below_drewN (Below.refl _ _) 1
  obtain ⟨E, hE⟩ : ∃ z : Int, z = shp8E (kn gs x.xs 0) (kn gs x.xs 1) x.N x.P := ⟨_, rfl⟩
  obtain ⟨SS, hSS⟩ : ∃ z : List Int, z = shp8S (kn gs x.xs 0) (kn gs x.xs 1) x.N x.P := ⟨_, rfl⟩
  rw [← hE, ← hSS]
  have HE := hide hE
  have HSS := hide hSS
  clear hE hSS
  go_enter Tryz.func92, Tryz.ntmps92
  go_wp2
  have hS0 : Hid (W0.drew.cell? ⟨p, 0, none⟩ = some (.slice (some ⟨bK, oK, none⟩) n c) ∧ W0.drew.cell? ⟨w.heap.size, 1, none⟩ = some (.slice (some ⟨bI, oI, none⟩) x.ni x.ci) ∧ W0.drew.cell? ⟨bI, oI, none⟩ = some (.int .i64 (i0 : Int)) ∧ W0.drew.cell? ⟨bK, oK + i0, none⟩ = some (.slice g0.A g0.n g0.c) ∧ W0.drew.cell? ⟨bI, oI + 1, none⟩ = some (.int .i64 (i1 : Int)) ∧ W0.drew.cell? ⟨bK, oK + i1, none⟩ = some (.slice g1.A g1.n g1.c) ∧ W0.drew.cell? ⟨w.heap.size, 2, none⟩ = some (.slice x.S x.ns x.cs) ∧ W0.drew.cell? ⟨w.heap.size, 3, none⟩ = some (.int .i64 x.N) ∧ W0.drew.cell? ⟨w.heap.size, 4, none⟩ = some (.int .i64 x.P)) := hide (HC.out _ hd0)
  refine wp_region_U (fun _ v => v.cell? ⟨p, 0, none⟩ = some (.slice (some ⟨bK, oK, none⟩) n c) ∧ v.cell? ⟨w.heap.size, 1, none⟩ = some (.slice (some ⟨bI, oI, none⟩) x.ni x.ci) ∧ v.cell? ⟨bI, oI, none⟩ = some (.int .i64 (i0 : Int)) ∧ v.cell? ⟨bK, oK + i0, none⟩ = some (.slice g0.A g0.n g0.c) ∧ v.cell? ⟨bI, oI + 1, none⟩ = some (.int .i64 (i1 : Int)) ∧ v.cell? ⟨bK, oK + i1, none⟩ = some (.slice g1.A g1.n g1.c) ∧ v.cell? ⟨w.heap.size, 2, none⟩ = some (.slice x.S x.ns x.cs) ∧ v.cell? ⟨w.heap.size, 3, none⟩ = some (.int .i64 x.N) ∧ v.cell? ⟨w.heap.size, 4, none⟩ = some (.int .i64 x.P)) 99 (by kernel_rfl) ?_
  refine wpAnyU_take (i := 0) (oi := { dst := some 6, op := _, type := _, pos := _, after := _, guard := none }) (v := .pointer (some ⟨p, 0, none⟩)) rfl (by kernel_rfl) (by kernel_rfl) (by kernel_rfl) (by kernel_rfl) (fun _ _ _ h => h) (yields_take rfl (fun w' hw => by obtain ⟨h1, h2, h3, h4, h5, h6, h7, h8, h9⟩ := hw.const; go_simp)) hS0.out ?_
  simp only [Act.put, List.setIfInBounds_toArray, List.set_cons_zero, List.set_cons_succ]
  refine wpAnyU_take (i := 1) (oi := { dst := some 7, op := _, type := _, pos := _, after := _, guard := none }) (v := .pointer (some ⟨p, 0, none⟩)) rfl (by kernel_rfl) (by kernel_rfl) (by kernel_rfl) (by kernel_rfl) (fun _ _ _ h => h) (yields_take rfl (fun w' hw => by obtain ⟨h1, h2, h3, h4, h5, h6, h7, h8, h9⟩ := hw.const; go_simp)) hS0.out ?_
  simp only [Act.put, List.setIfInBounds_toArray, List.set_cons_zero, List.set_cons_succ]
  refine wpAnyU_take (i := 2) (oi := { dst := some 8, op := _, type := _, pos := _, after := _, guard := none }) (v := .pointer (some ⟨p, 0, none⟩)) rfl (by kernel_rfl) (by kernel_rfl) (by kernel_rfl) (by kernel_rfl) (fun _ _ _ h => h) (yields_take rfl (fun w' hw => by obtain ⟨h1, h2, h3, h4, h5, h6, h7, h8, h9⟩ := hw.const; go_simp)) hS0.out ?_
  simp only [Act.put, List.setIfInBounds_toArray, List.set_cons_zero, List.set_cons_succ]
  refine wpAnyU_take (i := 3) (oi := { dst := some 9, op := _, type := _, pos := _, after := _, guard := none }) (v := .slice (some ⟨bK, oK, none⟩) n c) rfl (by kernel_rfl) (by kernel_rfl) (by kernel_rfl) (by kernel_rfl) (fun _ _ _ h => h) (yields_take rfl (fun w' hw => by obtain ⟨h1, h2, h3, h4, h5, h6, h7, h8, h9⟩ := hw.const; go_simp)) hS0.out ?_
  simp only [Act.put, List.setIfInBounds_toArray, List.set_cons_zero, List.set_cons_succ]
  refine wpAnyU_take (i := 4) (oi := { dst := some 10, op := _, type := _, pos := _, after := _, guard := none }) (v := .pointer (some ⟨w.heap.size, 1, none⟩)) rfl (by kernel_rfl) (by kernel_rfl) (by kernel_rfl) (by kernel_rfl) (fun _ _ _ h => h) (yields_take rfl (fun w' hw => by obtain ⟨h1, h2, h3, h4, h5, h6, h7, h8, h9⟩ := hw.const; go_simp)) hS0.out ?_
  simp only [Act.put, List.setIfInBounds_toArray, List.set_cons_zero, List.set_cons_succ]
  refine wpAnyU_take (i := 5) (oi := { dst := some 11, op := _, type := _, pos := _, after := _, guard := none }) (v := .slice (some ⟨bI, oI, none⟩) x.ni x.ci) rfl (by kernel_rfl) (by kernel_rfl) (by kernel_rfl) (by kernel_rfl) (fun _ _ _ h => h) (yields_take rfl (fun w' hw => by obtain ⟨h1, h2, h3, h4, h5, h6, h7, h8, h9⟩ := hw.const; go_simp)) hS0.out ?_
  simp only [Act.put, List.setIfInBounds_toArray, List.set_cons_zero, List.set_cons_succ]
  refine wpAnyU_take (i := 6) (oi := { dst := some 12, op := _, type := _, pos := _, after := _, guard := none }) (v := .pointer (some ⟨bI, oI, none⟩)) rfl (by kernel_rfl) (by kernel_rfl) (by kernel_rfl) (by kernel_rfl) (fun _ _ _ h => h) (yields_take rfl (fun w' hw => by obtain ⟨h1, h2, h3, h4, h5, h6, h7, h8, h9⟩ := hw.const; go_simp)) hS0.out ?_
  simp only [Act.put, List.setIfInBounds_toArray, List.set_cons_zero, List.set_cons_succ]
  refine wpAnyU_take (i := 7) (oi := { dst := some 13, op := _, type := _, pos := _, after := _, guard := none }) (v := .int .i64 (i0 : Int)) rfl (by kernel_rfl) (by kernel_rfl) (by kernel_rfl) (by kernel_rfl) (fun _ _ _ h => h) (yields_take rfl (fun w' hw => by obtain ⟨h1, h2, h3, h4, h5, h6, h7, h8, h9⟩ := hw.const; go_simp)) hS0.out ?_
  simp only [Act.put, List.setIfInBounds_toArray, List.set_cons_zero, List.set_cons_succ]
  refine wpAnyU_take (i := 8) (oi := { dst := some 14, op := _, type := _, pos := _, after := _, guard := none }) (v := .pointer (some ⟨bK, oK + i0, none⟩)) rfl (by kernel_rfl) (by kernel_rfl) (by kernel_rfl) (by kernel_rfl) (fun _ _ _ h => h) (yields_take rfl (fun w' hw => by obtain ⟨h1, h2, h3, h4, h5, h6, h7, h8, h9⟩ := hw.const; go_simp)) hS0.out ?_
  simp only [Act.put, List.setIfInBounds_toArray, List.set_cons_zero, List.set_cons_succ]
  refine wpAnyU_take (i := 9) (oi := { dst := some 15, op := _, type := _, pos := _, after := _, guard := none }) (v := .slice g0.A g0.n g0.c) rfl (by kernel_rfl) (by kernel_rfl) (by kernel_rfl) (by kernel_rfl) (fun _ _ _ h => h) (yields_take rfl (fun w' hw => by obtain ⟨h1, h2, h3, h4, h5, h6, h7, h8, h9⟩ := hw.const; go_simp)) hS0.out ?_
  simp only [Act.put, List.setIfInBounds_toArray, List.set_cons_zero, List.set_cons_succ]
  refine wpAnyU_take (i := 10) (oi := { dst := some 16, op := _, type := _, pos := _, after := _, guard := none }) (v := .pointer (some ⟨p, 0, none⟩)) rfl (by kernel_rfl) (by kernel_rfl) (by kernel_rfl) (by kernel_rfl) (fun _ _ _ h => h) (yields_take rfl (fun w' hw => by obtain ⟨h1, h2, h3, h4, h5, h6, h7, h8, h9⟩ := hw.const; go_simp)) hS0.out ?_
  simp only [Act.put, List.setIfInBounds_toArray, List.set_cons_zero, List.set_cons_succ]
  refine wpAnyU_take (i := 11) (oi := { dst := some 17, op := _, type := _, pos := _, after := _, guard := none }) (v := .pointer (some ⟨p, 0, none⟩)) rfl (by kernel_rfl) (by kernel_rfl) (by kernel_rfl) (by kernel_rfl) (fun _ _ _ h => h) (yields_take rfl (fun w' hw => by obtain ⟨h1, h2, h3, h4, h5, h6, h7, h8, h9⟩ := hw.const; go_simp)) hS0.out ?_
  simp only [Act.put, List.setIfInBounds_toArray, List.set_cons_zero, List.set_cons_succ]
  refine wpAnyU_take (i := 12) (oi := { dst := some 18, op := _, type := _, pos := _, after := _, guard := none }) (v := .pointer (some ⟨p, 0, none⟩)) rfl (by kernel_rfl) (by kernel_rfl) (by kernel_rfl) (by kernel_rfl) (fun _ _ _ h => h) (yields_take rfl (fun w' hw => by obtain ⟨h1, h2, h3, h4, h5, h6, h7, h8, h9⟩ := hw.const; go_simp)) hS0.out ?_
  simp only [Act.put, List.setIfInBounds_toArray, List.set_cons_zero, List.set_cons_succ]
  refine wpAnyU_take (i := 13) (oi := { dst := some 19, op := _, type := _, pos := _, after := _, guard := none }) (v := .slice (some ⟨bK, oK, none⟩) n c) rfl (by kernel_rfl) (by kernel_rfl) (by kernel_rfl) (by kernel_rfl) (fun _ _ _ h => h) (yields_take rfl (fun w' hw => by obtain ⟨h1, h2, h3, h4, h5, h6, h7, h8, h9⟩ := hw.const; go_simp)) hS0.out ?_
  simp only [Act.put, List.setIfInBounds_toArray, List.set_cons_zero, List.set_cons_succ]
  refine wpAnyU_take (i := 14) (oi := { dst := some 20, op := _, type := _, pos := _, after := _, guard := none }) (v := .pointer (some ⟨w.heap.size, 1, none⟩)) rfl (by kernel_rfl) (by kernel_rfl) (by kernel_rfl) (by kernel_rfl) (fun _ _ _ h => h) (yields_take rfl (fun w' hw => by obtain ⟨h1, h2, h3, h4, h5, h6, h7, h8, h9⟩ := hw.const; go_simp)) hS0.out ?_
  simp only [Act.put, List.setIfInBounds_toArray, List.set_cons_zero, List.set_cons_succ]
  refine wpAnyU_take (i := 15) (oi := { dst := some 21, op := _, type := _, pos := _, after := _, guard := none }) (v := .slice (some ⟨bI, oI, none⟩) x.ni x.ci) rfl (by kernel_rfl) (by kernel_rfl) (by kernel_rfl) (by kernel_rfl) (fun _ _ _ h => h) (yields_take rfl (fun w' hw => by obtain ⟨h1, h2, h3, h4, h5, h6, h7, h8, h9⟩ := hw.const; go_simp)) hS0.out ?_
  simp only [Act.put, List.setIfInBounds_toArray, List.set_cons_zero, List.set_cons_succ]
  refine wpAnyU_take (i := 16) (oi := { dst := some 22, op := _, type := _, pos := _, after := _, guard := none }) (v := .pointer (some ⟨bI, oI + 1, none⟩)) rfl (by kernel_rfl) (by kernel_rfl) (by kernel_rfl) (by kernel_rfl) (fun _ _ _ h => h) (yields_take rfl (fun w' hw => by obtain ⟨h1, h2, h3, h4, h5, h6, h7, h8, h9⟩ := hw.const; go_simp)) hS0.out ?_
  simp only [Act.put, List.setIfInBounds_toArray, List.set_cons_zero, List.set_cons_succ]
  refine wpAnyU_take (i := 17) (oi := { dst := some 23, op := _, type := _, pos := _, after := _, guard := none }) (v := .int .i64 (i1 : Int)) rfl (by kernel_rfl) (by kernel_rfl) (by kernel_rfl) (by kernel_rfl) (fun _ _ _ h => h) (yields_take rfl (fun w' hw => by obtain ⟨h1, h2, h3, h4, h5, h6, h7, h8, h9⟩ := hw.const; go_simp)) hS0.out ?_
  simp only [Act.put, List.setIfInBounds_toArray, List.set_cons_zero, List.set_cons_succ]
  refine wpAnyU_take (i := 18) (oi := { dst := some 24, op := _, type := _, pos := _, after := _, guard := none }) (v := .pointer (some ⟨bK, oK + i1, none⟩)) rfl (by kernel_rfl) (by kernel_rfl) (by kernel_rfl) (by kernel_rfl) (fun _ _ _ h => h) (yields_take rfl (fun w' hw => by obtain ⟨h1, h2, h3, h4, h5, h6, h7, h8, h9⟩ := hw.const; go_simp)) hS0.out ?_
  simp only [Act.put, List.setIfInBounds_toArray, List.set_cons_zero, List.set_cons_succ]
  refine wpAnyU_take (i := 19) (oi := { dst := some 25, op := _, type := _, pos := _, after := _, guard := none }) (v := .slice g1.A g1.n g1.c) rfl (by kernel_rfl) (by kernel_rfl) (by kernel_rfl) (by kernel_rfl) (fun _ _ _ h => h) (yields_take rfl (fun w' hw => by obtain ⟨h1, h2, h3, h4, h5, h6, h7, h8, h9⟩ := hw.const; go_simp)) hS0.out ?_
  simp only [Act.put, List.setIfInBounds_toArray, List.set_cons_zero, List.set_cons_succ]
  refine wpAnyU_take (i := 20) (oi := { dst := some 26, op := _, type := _, pos := _, after := _, guard := none }) (v := .pointer (some ⟨w.heap.size, 3, none⟩)) rfl (by kernel_rfl) (by kernel_rfl) (by kernel_rfl) (by kernel_rfl) (fun _ _ _ h => h) (yields_take rfl (fun w' hw => by obtain ⟨h1, h2, h3, h4, h5, h6, h7, h8, h9⟩ := hw.const; go_simp)) hS0.out ?_
  simp only [Act.put, List.setIfInBounds_toArray, List.set_cons_zero, List.set_cons_succ]
  refine wpAnyU_take (i := 21) (oi := { dst := some 27, op := _, type := _, pos := _, after := _, guard := none }) (v := .int .i64 x.N) rfl (by kernel_rfl) (by kernel_rfl) (by kernel_rfl) (by kernel_rfl) (fun _ _ _ h => h) (yields_take rfl (fun w' hw => by obtain ⟨h1, h2, h3, h4, h5, h6, h7, h8, h9⟩ := hw.const; go_simp)) hS0.out ?_
  simp only [Act.put, List.setIfInBounds_toArray, List.set_cons_zero, List.set_cons_succ]
  refine wpAnyU_take (i := 22) (oi := { dst := some 28, op := _, type := _, pos := _, after := _, guard := none }) (v := .pointer (some ⟨w.heap.size, 4, none⟩)) rfl (by kernel_rfl) (by kernel_rfl) (by kernel_rfl) (by kernel_rfl) (fun _ _ _ h => h) (yields_take rfl (fun w' hw => by obtain ⟨h1, h2, h3, h4, h5, h6, h7, h8, h9⟩ := hw.const; go_simp)) hS0.out ?_
  simp only [Act.put, List.setIfInBounds_toArray, List.set_cons_zero, List.set_cons_succ]
  refine wpAnyU_take (i := 23) (oi := { dst := some 29, op := _, type := _, pos := _, after := _, guard := none }) (v := .int .i64 x.P) rfl (by kernel_rfl) (by kernel_rfl) (by kernel_rfl) (by kernel_rfl) (fun _ _ _ h => h) (yields_take rfl (fun w' hw => by obtain ⟨h1, h2, h3, h4, h5, h6, h7, h8, h9⟩ := hw.const; go_simp)) hS0.out ?_
  simp only [Act.put, List.setIfInBounds_toArray, List.set_cons_zero, List.set_cons_succ]
  refine wpAnyU_one (i := 24) (by kernel_rfl) rfl ?_
  intro K hK
  go_simp
  refine Calls.mono (wshape_any g0.A g1.A g0.n g0.c g1.n g1.c g0.s g1.s x.N x.P _ (HS0.out.below hd0) (HS1.out.below hd0) (by omega) (by omega)) ?_
  rintro e w1 ⟨R, kR, cR, rfl, ho, hkR, hb⟩
  dsimp only
  have HE9 := HE.out
  rw [HN0.out, HN1.out] at HE9
  rw [← HE9]
  clear HE9
  have hd1 : Below W0.heap.size W0 w1 := below_nx6 hd0 hb
  have HOR := hide (own_base ho hd0.size)
  clear hb ho
  have hS1 : Hid (w1.cell? ⟨p, 0, none⟩ = some (.slice (some ⟨bK, oK, none⟩) n c) ∧ w1.cell? ⟨w.heap.size, 1, none⟩ = some (.slice (some ⟨bI, oI, none⟩) x.ni x.ci) ∧ w1.cell? ⟨bI, oI, none⟩ = some (.int .i64 (i0 : Int)) ∧ w1.cell? ⟨bK, oK + i0, none⟩ = some (.slice g0.A g0.n g0.c) ∧ w1.cell? ⟨bI, oI + 1, none⟩ = some (.int .i64 (i1 : Int)) ∧ w1.cell? ⟨bK, oK + i1, none⟩ = some (.slice g1.A g1.n g1.c) ∧ w1.cell? ⟨w.heap.size, 2, none⟩ = some (.slice x.S x.ns x.cs) ∧ w1.cell? ⟨w.heap.size, 3, none⟩ = some (.int .i64 x.N) ∧ w1.cell? ⟨w.heap.size, 4, none⟩ = some (.int .i64 x.P)) := hide (HC.out _ hd1)
  refine hK.out _ _ hS1.out (fun _ => ?_)
  clear hK K hS0
  refine wpAnyU_take (i := 25) (oi := { dst := some 31, op := _, type := _, pos := _, after := _, guard := none }) (v := .slice R kR cR) rfl (by kernel_rfl) (by kernel_rfl) (by kernel_rfl) (by kernel_rfl) (fun _ _ _ h => h) (yields_take rfl (fun w' hw => by obtain ⟨h1, h2, h3, h4, h5, h6, h7, h8, h9⟩ := hw.const; go_simp)) hS1.out ?_
  simp only [Act.put, List.setIfInBounds_toArray, List.set_cons_zero, List.set_cons_succ]
  refine wpAnyU_take (i := 26) (oi := { dst := some 32, op := _, type := _, pos := _, after := _, guard := none }) (v := .int .i64 E) rfl (by kernel_rfl) (by kernel_rfl) (by kernel_rfl) (by kernel_rfl) (fun _ _ _ h => h) (yields_take rfl (fun w' hw => by obtain ⟨h1, h2, h3, h4, h5, h6, h7, h8, h9⟩ := hw.const; go_simp)) hS1.out ?_
  simp only [Act.put, List.setIfInBounds_toArray, List.set_cons_zero, List.set_cons_succ]
  refine wpAnyU_take (i := 27) (oi := { dst := some 4, op := _, type := _, pos := _, after := _, guard := none }) (v := .slice R kR cR) rfl (by kernel_rfl) (by kernel_rfl) (by kernel_rfl) (by kernel_rfl) (fun _ _ _ h => h) (yields_take rfl (fun w' hw => by obtain ⟨h1, h2, h3, h4, h5, h6, h7, h8, h9⟩ := hw.const; go_simp)) hS1.out ?_
  simp only [Act.put, List.setIfInBounds_toArray, List.set_cons_zero, List.set_cons_succ]
  refine wpAnyU_take (i := 28) (oi := { dst := some 5, op := _, type := _, pos := _, after := _, guard := none }) (v := .int .i64 E) rfl (by kernel_rfl) (by kernel_rfl) (by kernel_rfl) (by kernel_rfl) (fun _ _ _ h => h) (yields_take rfl (fun w' hw => by obtain ⟨h1, h2, h3, h4, h5, h6, h7, h8, h9⟩ := hw.const; go_simp)) hS1.out ?_
  simp only [Act.put, List.setIfInBounds_toArray, List.set_cons_zero, List.set_cons_succ]
  refine wpAnyU_done (by kernel_rfl) ?_ _
  clear hS1
  have HBR := hide hd1
  go_wp2
  go_ret2
  exact ⟨R, kR, cR, rfl, by rw [HSS.out, HN0.out, HN1.out]; exact own_base HOR.out HB0.out.size, by omega, HB0.out.trans (HBR.out.mono HB0.out.size)⟩

set_option maxHeartbeats 2000000 in
theorem kpool_any (p : Nat) (A : Option Addr) (n c : Nat) (gs : List Sg) (x : Nd) (w : World) (hK : KnAt w p A n c gs) (hx : x.Ok w) (hin : 1 ≤ x.ni) (hal : allKn x.xs n = true) (hpos : ∀ g ∈ gs, 0 < sizeI g.s) :
    Calls Tryz.prog 93 #[.pointer (some ⟨p, 0, none⟩), x.v] w fun e w' => ∃ R k kc, e = .returned (.tuple #[.slice R k kc, .int .i64 (pp8E (kn gs x.xs 0) x.N)]) ∧ w'.ownsRow w.heap.size 3 1 (.slice R k kc) k ((pp8S (kn gs x.xs 0) x.N).map (Value.int .i64)) ∧ k ≤ 4 ∧ Below w.heap.size w w' := by
  unfold Nd.v
  obtain ⟨W0, hW0⟩ : ∃ W0, W0 = w.alloc (.cells #[.int .u8 x.kd, .slice x.I x.ni x.ci, .slice x.S x.ns x.cs, .int .i64 x.N, .int .i64 x.P] 44) := ⟨_, rfl⟩
  have HB0 : Hid (Below w.heap.size w W0) := hide (by rw [hW0]; exact below_al6 (Below.refl _ _))
  have HX : Hid (BoxN W0 w.heap.size x) := hide (by rw [hW0]; exact BoxN.new w x)
  have HK := hide (hK.below HB0.out)
  have HO := hide (hx.below HB0.out)
  have HLI : Hid (x.xs.length = x.ni) := hide (lies_len9 hx.1)
  have HLS : Hid (x.sh.length = x.ns) := hide (lies_len9 hx.2.1)
  have hW0' := hW0.symm
  clear hW0 hK hx
  obtain ⟨i0, g0, hi0, hin0, hgj0, hkn0⟩ := kn_at (j := 0) HK.out.2.1 hal (by rw [HLI.out]; omega)
  have HI0 := hide hi0
  have HG0 := hide hgj0
  have HN0 := hide hkn0
  obtain ⟨hs0, hb0, h40⟩ := HK.out.2.2.2 g0 (List.mem_of_getElem? hgj0)
  have HS0 := hide hs0
  have hp0 : 1 ≤ g0.n := by have h := (sizeI_pos (hpos g0 (List.mem_of_getElem? hgj0))).1; rw [lies_len9 hs0] at h; exact h
  clear hi0 hgj0 hkn0 hs0
  obtain ⟨bK, oK, rfl, _, hxK⟩ := HK.out.2.2.1 (by omega)
  obtain ⟨bI, oI, hAI, _, _⟩ := byte_at HO.out.1 (by omega)
  have HAI := hide hAI
  clear hAI hxK
  have HC : Hid (∀ v, Below W0.heap.size W0 v → v.cell? ⟨p, 0, none⟩ = some (.slice (some ⟨bK, oK, none⟩) n c) ∧ v.cell? ⟨w.heap.size, 1, none⟩ = some (.slice (some ⟨bI, oI, none⟩) x.ni x.ci) ∧ v.cell? ⟨bI, oI, none⟩ = some (.int .i64 (i0 : Int)) ∧ v.cell? ⟨bK, oK + i0, none⟩ = some (.slice g0.A g0.n g0.c) ∧ v.cell? ⟨w.heap.size, 2, none⟩ = some (.slice x.S x.ns x.cs) ∧ v.cell? ⟨w.heap.size, 3, none⟩ = some (.int .i64 x.N) ∧ v.cell? ⟨w.heap.size, 4, none⟩ = some (.int .i64 x.P)) := hide (fun v hv => by
    obtain ⟨q0, q1, q2, q3, q4⟩ := (HX.out.kept hv).cs
    have kv := HK.out.below hv
    rw [HAI.out] at q1
    obtain ⟨_, _, eI, _, hxI⟩ := byte_at (HO.out.1.below hv) (by omega)
    rw [HAI.out] at eI
    cases eI
    obtain ⟨_, _, eK, _, hxK⟩ := kv.2.2.1 (by omega)
    cases eK
    have z0 := hxI 0 (by omega)
    rw [HI0.out, Nat.add_zero] at z0
    exact ⟨kv.c0, q1, z0, hxK i0 g0 HG0.out, q2, q3, q4⟩)
  have j00 : (0 : Int) ≤ (i0 : Int) := by omega
  have j10 : (i0 : Int) < (n : Int) := by omega
  have jz0 : ¬ x.ni = 0 := by omega
  have jn : (0 : Int) < (x.ni : Int) := by omega
  have hd0 : Below W0.heap.size W0 W0.drew := below_drewN (Below.refl _ _) 1
  obtain ⟨E, hE⟩ : ∃ z : Int, z = pp8E (kn gs x.xs 0) x.N := ⟨_, rfl⟩
  obtain ⟨SS, hSS⟩ : ∃ z : List Int, z = pp8S (kn gs x.xs 0) x.N := ⟨_, rfl⟩
  rw [← hE, ← hSS]
  have HE := hide hE
  have HSS := hide hSS
  clear hE hSS
  go_enter Tryz.func93, Tryz.ntmps93
  go_wp2
  have hS0 : Hid (W0.drew.cell? ⟨p, 0, none⟩ = some (.slice (some ⟨bK, oK, none⟩) n c) ∧ W0.drew.cell? ⟨w.heap.size, 1, none⟩ = some (.slice (some ⟨bI, oI, none⟩) x.ni x.ci) ∧ W0.drew.cell? ⟨bI, oI, none⟩ = some (.int .i64 (i0 : Int)) ∧ W0.drew.cell? ⟨bK, oK + i0, none⟩ = some (.slice g0.A g0.n g0.c) ∧ W0.drew.cell? ⟨w.heap.size, 2, none⟩ = some (.slice x.S x.ns x.cs) ∧ W0.drew.cell? ⟨w.heap.size, 3, none⟩ = some (.int .i64 x.N) ∧ W0.drew.cell? ⟨w.heap.size, 4, none⟩ = some (.int .i64 x.P)) := hide (HC.out _ hd0)
  refine wp_region_U (fun _ v => v.cell? ⟨p, 0, none⟩ = some (.slice (some ⟨bK, oK, none⟩) n c) ∧ v.cell? ⟨w.heap.size, 1, none⟩ = some (.slice (some ⟨bI, oI, none⟩) x.ni x.ci) ∧ v.cell? ⟨bI, oI, none⟩ = some (.int .i64 (i0 : Int)) ∧ v.cell? ⟨bK, oK + i0, none⟩ = some (.slice g0.A g0.n g0.c) ∧ v.cell? ⟨w.heap.size, 2, none⟩ = some (.slice x.S x.ns x.cs) ∧ v.cell? ⟨w.heap.size, 3, none⟩ = some (.int .i64 x.N) ∧ v.cell? ⟨w.heap.size, 4, none⟩ = some (.int .i64 x.P)) 99 (by kernel_rfl) ?_
  refine wpAnyU_take (i := 0) (oi := { dst := some 6, op := _, type := _, pos := _, after := _, guard := none }) (v := .pointer (some ⟨p, 0, none⟩)) rfl (by kernel_rfl) (by kernel_rfl) (by kernel_rfl) (by kernel_rfl) (fun _ _ _ h => h) (yields_take rfl (fun w' hw => by obtain ⟨h1, h2, h3, h4, h5, h6, h7⟩ := hw.const; go_simp)) hS0.out ?_
  simp only [Act.put, List.setIfInBounds_toArray, List.set_cons_zero, List.set_cons_succ]
  refine wpAnyU_take (i := 1) (oi := { dst := some 7, op := _, type := _, pos := _, after := _, guard := none }) (v := .pointer (some ⟨p, 0, none⟩)) rfl (by kernel_rfl) (by kernel_rfl) (by kernel_rfl) (by kernel_rfl) (fun _ _ _ h => h) (yields_take rfl (fun w' hw => by obtain ⟨h1, h2, h3, h4, h5, h6, h7⟩ := hw.const; go_simp)) hS0.out ?_
  simp only [Act.put, List.setIfInBounds_toArray, List.set_cons_zero, List.set_cons_succ]
  refine wpAnyU_take (i := 2) (oi := { dst := some 8, op := _, type := _, pos := _, after := _, guard := none }) (v := .pointer (some ⟨p, 0, none⟩)) rfl (by kernel_rfl) (by kernel_rfl) (by kernel_rfl) (by kernel_rfl) (fun _ _ _ h => h) (yields_take rfl (fun w' hw => by obtain ⟨h1, h2, h3, h4, h5, h6, h7⟩ := hw.const; go_simp)) hS0.out ?_
  simp only [Act.put, List.setIfInBounds_toArray, List.set_cons_zero, List.set_cons_succ]
  refine wpAnyU_take (i := 3) (oi := { dst := some 9, op := _, type := _, pos := _, after := _, guard := none }) (v := .slice (some ⟨bK, oK, none⟩) n c) rfl (by kernel_rfl) (by kernel_rfl) (by kernel_rfl) (by kernel_rfl) (fun _ _ _ h => h) (yields_take rfl (fun w' hw => by obtain ⟨h1, h2, h3, h4, h5, h6, h7⟩ := hw.const; go_simp)) hS0.out ?_
  simp only [Act.put, List.setIfInBounds_toArray, List.set_cons_zero, List.set_cons_succ]
  refine wpAnyU_take (i := 4) (oi := { dst := some 10, op := _, type := _, pos := _, after := _, guard := none }) (v := .pointer (some ⟨w.heap.size, 1, none⟩)) rfl (by kernel_rfl) (by kernel_rfl) (by kernel_rfl) (by kernel_rfl) (fun _ _ _ h => h) (yields_take rfl (fun w' hw => by obtain ⟨h1, h2, h3, h4, h5, h6, h7⟩ := hw.const; go_simp)) hS0.out ?_
  simp only [Act.put, List.setIfInBounds_toArray, List.set_cons_zero, List.set_cons_succ]
  refine wpAnyU_take (i := 5) (oi := { dst := some 11, op := _, type := _, pos := _, after := _, guard := none }) (v := .slice (some ⟨bI, oI, none⟩) x.ni x.ci) rfl (by kernel_rfl) (by kernel_rfl) (by kernel_rfl) (by kernel_rfl) (fun _ _ _ h => h) (yields_take rfl (fun w' hw => by obtain ⟨h1, h2, h3, h4, h5, h6, h7⟩ := hw.const; go_simp)) hS0.out ?_
  simp only [Act.put, List.setIfInBounds_toArray, List.set_cons_zero, List.set_cons_succ]
  refine wpAnyU_take (i := 6) (oi := { dst := some 12, op := _, type := _, pos := _, after := _, guard := none }) (v := .pointer (some ⟨bI, oI, none⟩)) rfl (by kernel_rfl) (by kernel_rfl) (by kernel_rfl) (by kernel_rfl) (fun _ _ _ h => h) (yields_take rfl (fun w' hw => by obtain ⟨h1, h2, h3, h4, h5, h6, h7⟩ := hw.const; go_simp)) hS0.out ?_
  simp only [Act.put, List.setIfInBounds_toArray, List.set_cons_zero, List.set_cons_succ]
  refine wpAnyU_take (i := 7) (oi := { dst := some 13, op := _, type := _, pos := _, after := _, guard := none }) (v := .int .i64 (i0 : Int)) rfl (by kernel_rfl) (by kernel_rfl) (by kernel_rfl) (by kernel_rfl) (fun _ _ _ h => h) (yields_take rfl (fun w' hw => by obtain ⟨h1, h2, h3, h4, h5, h6, h7⟩ := hw.const; go_simp)) hS0.out ?_
  simp only [Act.put, List.setIfInBounds_toArray, List.set_cons_zero, List.set_cons_succ]
  refine wpAnyU_take (i := 8) (oi := { dst := some 14, op := _, type := _, pos := _, after := _, guard := none }) (v := .pointer (some ⟨bK, oK + i0, none⟩)) rfl (by kernel_rfl) (by kernel_rfl) (by kernel_rfl) (by kernel_rfl) (fun _ _ _ h => h) (yields_take rfl (fun w' hw => by obtain ⟨h1, h2, h3, h4, h5, h6, h7⟩ := hw.const; go_simp)) hS0.out ?_
  simp only [Act.put, List.setIfInBounds_toArray, List.set_cons_zero, List.set_cons_succ]
  refine wpAnyU_take (i := 9) (oi := { dst := some 15, op := _, type := _, pos := _, after := _, guard := none }) (v := .slice g0.A g0.n g0.c) rfl (by kernel_rfl) (by kernel_rfl) (by kernel_rfl) (by kernel_rfl) (fun _ _ _ h => h) (yields_take rfl (fun w' hw => by obtain ⟨h1, h2, h3, h4, h5, h6, h7⟩ := hw.const; go_simp)) hS0.out ?_
  simp only [Act.put, List.setIfInBounds_toArray, List.set_cons_zero, List.set_cons_succ]
  refine wpAnyU_take (i := 10) (oi := { dst := some 16, op := _, type := _, pos := _, after := _, guard := none }) (v := .pointer (some ⟨w.heap.size, 3, none⟩)) rfl (by kernel_rfl) (by kernel_rfl) (by kernel_rfl) (by kernel_rfl) (fun _ _ _ h => h) (yields_take rfl (fun w' hw => by obtain ⟨h1, h2, h3, h4, h5, h6, h7⟩ := hw.const; go_simp)) hS0.out ?_
  simp only [Act.put, List.setIfInBounds_toArray, List.set_cons_zero, List.set_cons_succ]
  refine wpAnyU_take (i := 11) (oi := { dst := some 17, op := _, type := _, pos := _, after := _, guard := none }) (v := .int .i64 x.N) rfl (by kernel_rfl) (by kernel_rfl) (by kernel_rfl) (by kernel_rfl) (fun _ _ _ h => h) (yields_take rfl (fun w' hw => by obtain ⟨h1, h2, h3, h4, h5, h6, h7⟩ := hw.const; go_simp)) hS0.out ?_
  simp only [Act.put, List.setIfInBounds_toArray, List.set_cons_zero, List.set_cons_succ]
  refine wpAnyU_one (i := 12) (by kernel_rfl) rfl ?_
  intro K hK
  go_simp
  refine Calls.mono (poolshape_any g0.A g0.n g0.c g0.s x.N _ (HS0.out.below hd0) (by omega)) ?_
  rintro e w1 ⟨R, kR, cR, rfl, ho, hkR, hb⟩
  dsimp only
  have HE9 := HE.out
  rw [HN0.out] at HE9
  rw [← HE9]
  clear HE9
  have hd1 : Below W0.heap.size W0 w1 := below_nx6 hd0 hb
  have HOR := hide (own_base ho hd0.size)
  clear hb ho
  have hS1 : Hid (w1.cell? ⟨p, 0, none⟩ = some (.slice (some ⟨bK, oK, none⟩) n c) ∧ w1.cell? ⟨w.heap.size, 1, none⟩ = some (.slice (some ⟨bI, oI, none⟩) x.ni x.ci) ∧ w1.cell? ⟨bI, oI, none⟩ = some (.int .i64 (i0 : Int)) ∧ w1.cell? ⟨bK, oK + i0, none⟩ = some (.slice g0.A g0.n g0.c) ∧ w1.cell? ⟨w.heap.size, 2, none⟩ = some (.slice x.S x.ns x.cs) ∧ w1.cell? ⟨w.heap.size, 3, none⟩ = some (.int .i64 x.N) ∧ w1.cell? ⟨w.heap.size, 4, none⟩ = some (.int .i64 x.P)) := hide (HC.out _ hd1)
  refine hK.out _ _ hS1.out (fun _ => ?_)
  clear hK K hS0
  refine wpAnyU_take (i := 13) (oi := { dst := some 19, op := _, type := _, pos := _, after := _, guard := none }) (v := .slice R kR cR) rfl (by kernel_rfl) (by kernel_rfl) (by kernel_rfl) (by kernel_rfl) (fun _ _ _ h => h) (yields_take rfl (fun w' hw => by obtain ⟨h1, h2, h3, h4, h5, h6, h7⟩ := hw.const; go_simp)) hS1.out ?_
  simp only [Act.put, List.setIfInBounds_toArray, List.set_cons_zero, List.set_cons_succ]
  refine wpAnyU_take (i := 14) (oi := { dst := some 20, op := _, type := _, pos := _, after := _, guard := none }) (v := .int .i64 E) rfl (by kernel_rfl) (by kernel_rfl) (by kernel_rfl) (by kernel_rfl) (fun _ _ _ h => h) (yields_take rfl (fun w' hw => by obtain ⟨h1, h2, h3, h4, h5, h6, h7⟩ := hw.const; go_simp)) hS1.out ?_
  simp only [Act.put, List.setIfInBounds_toArray, List.set_cons_zero, List.set_cons_succ]
  refine wpAnyU_take (i := 15) (oi := { dst := some 4, op := _, type := _, pos := _, after := _, guard := none }) (v := .slice R kR cR) rfl (by kernel_rfl) (by kernel_rfl) (by kernel_rfl) (by kernel_rfl) (fun _ _ _ h => h) (yields_take rfl (fun w' hw => by obtain ⟨h1, h2, h3, h4, h5, h6, h7⟩ := hw.const; go_simp)) hS1.out ?_
  simp only [Act.put, List.setIfInBounds_toArray, List.set_cons_zero, List.set_cons_succ]
  refine wpAnyU_take (i := 16) (oi := { dst := some 5, op := _, type := _, pos := _, after := _, guard := none }) (v := .int .i64 E) rfl (by kernel_rfl) (by kernel_rfl) (by kernel_rfl) (by kernel_rfl) (fun _ _ _ h => h) (yields_take rfl (fun w' hw => by obtain ⟨h1, h2, h3, h4, h5, h6, h7⟩ := hw.const; go_simp)) hS1.out ?_
  simp only [Act.put, List.setIfInBounds_toArray, List.set_cons_zero, List.set_cons_succ]
  refine wpAnyU_done (by kernel_rfl) ?_ _
  clear hS1
  have HBR := hide hd1
  go_wp2
  go_ret2
  exact ⟨R, kR, cR, rfl, by rw [HSS.out, HN0.out]; exact own_base HOR.out HB0.out.size, by omega, HB0.out.trans (HBR.out.mono HB0.out.size)⟩

end

end Go.Proofs.YtohndckbhjakfaaGreatDoor
