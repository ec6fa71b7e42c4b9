/- Merged: Gr7. -/
import Derived.Test.YtohndckbhjakfaaGreatDoorWZ22
namespace Go.Proofs.YtohndckbhjakfaaGreatDoor

section
open Go.RowKit
set_option linter.unusedVariables false
set_option linter.unusedSimpArgs false
set_option maxRecDepth 100000

/-- How long the first k + 1 ones are together. -/
def gjA (gs : List Sg) (xs : List Int) (d : Nat) : Nat → Int
  | 0 => (kn gs xs 0).getD d 0
  | k + 1 => gjA gs xs d k + (kn gs xs (k + 1)).getD d 0

/-- Is the j-th one like the first, but for a direction? -/
def gjLike (gs : List Sg) (xs : List Int) (d j : Nat) : Bool := decide ((kn gs xs j).length = (kn gs xs 0).length) && decide (outL (kn gs xs j) d = outL (kn gs xs 0) d)

def gjAll (gs : List Sg) (xs : List Int) (d m : Nat) : Bool := (List.range m).all (fun j => gjLike gs xs d (j + 1))

def gjZ (gs : List Sg) (xs : List Int) (d m : Nat) : List Int := (kn gs xs 0).set d (gjA gs xs d m)

/-- What nodes that are joined come to. -/
def gjE (gs : List Sg) (xs : List Int) (d : Int) : Int :=
  if d < ((kn gs xs 0).length : Int) then (if gjAll gs xs d.toNat (xs.length - 1) = true ∧ 0 < sizeI (gjZ gs xs d.toNat (xs.length - 1)) then 0 else 10) else 1

def gjS (gs : List Sg) (xs : List Int) (d : Int) : List Int := if gjE gs xs d = 0 then gjZ gs xs d.toNat (xs.length - 1) else []

theorem own_cap7 {w : World} {base : Nat} {e : TypeId} {A : Option Addr} {n c : Nat} {xs : List Value} (h : w.ownsRow base e 1 (.slice A n c) n xs) : n ≤ c := by
  rcases h.2 with ⟨e0, _⟩ | ⟨g', cap, cur, e0, hb, hg, hm, hl, hs, ht⟩
  · cases e0; exact Nat.le_refl _
  · cases e0; omega

theorem outL_set {s : List Int} {d : Nat} {y : Int} : outL (s.set d y) d = outL s d := by
  unfold outL
  rw [List.take_set_of_le (Nat.le_refl _), List.drop_set_of_lt (by omega)]

theorem gjAll_no {gs : List Sg} {xs : List Int} {d m k : Nat} (hk : k < m) (h : gjLike gs xs d (k + 1) = false) : gjAll gs xs d m = false := by
  refine List.all_eq_false.2 ⟨k, List.mem_range.2 hk, by simp [h]⟩

theorem gjAll_yes {gs : List Sg} {xs : List Int} {d m : Nat} (h : ∀ j, j < m → gjLike gs xs d (j + 1) = true) : gjAll gs xs d m = true :=
  List.all_eq_true.2 fun j hj => h j (List.mem_range.1 hj)

theorem gjA_le {gs : List Sg} {xs : List Int} {d n : Nat} (hl : gs.length = n) (hal : allKn xs n = true) (hpos : ∀ g ∈ gs, 0 < sizeI g.s) (h0 : d < (kn gs xs 0).length) : ∀ k, k < xs.length → (∀ j, j < k → gjLike gs xs d (j + 1) = true) → 0 ≤ gjA gs xs d k ∧ gjA gs xs d k ≤ 64 * ((k : Int) + 1)
  | 0, hk, _ => by
    obtain ⟨i, g, _, _, hg, he⟩ := kn_at (j := 0) hl hal hk
    have := (size_dims (hpos g (List.mem_of_getElem? hg))).at (k := d) (by rw [he] at h0; exact h0)
    rw [gjA, he]
    omega
  | k + 1, hk, hj => by
    have ih := gjA_le hl hal hpos h0 k (by omega) (fun j h => hj j (by omega))
    obtain ⟨i, g, _, _, hg, he⟩ := kn_at (j := k + 1) hl hal hk
    have h1 := hj k (by omega)
    simp only [gjLike, Bool.and_eq_true, decide_eq_true_eq] at h1
    have := (size_dims (hpos g (List.mem_of_getElem? hg))).at (k := d) (by rw [← he, h1.1]; exact h0)
    rw [gjA, he]
    omega

set_option maxHeartbeats 2000000 in
theorem kjoined_any (p : Nat) (A : Option Addr) (n c : Nat) (gs : List Sg) (x : Nd) (w : World) (hK : KnAt w p A n c gs) (hx : x.Ok w) (hin : 1 ≤ x.ni) (hal : allKn x.xs n = true) (hpos : ∀ g ∈ gs, 0 < sizeI g.s) (hi4 : x.ni ≤ 4) (hN0 : 0 ≤ x.N) :
    Calls Tryz.prog 97 #[.pointer (some ⟨p, 0, none⟩), x.v] w fun e w' => ∃ R k kc, e = .returned (.tuple #[.slice R k kc, .int .i64 (gjE gs x.xs x.N)]) ∧ w'.ownsRow w.heap.size 3 1 (.slice R k kc) k ((gjS gs x.xs x.N).map (Value.int .i64)) ∧ k ≤ 4 ∧ Below w.heap.size w w' := by
  unfold Nd.v
  obtain ⟨W0, hW0⟩ : ∃ W0, W0 = w.alloc (.cells #[.int .u8 x.kd, .slice x.I x.ni x.ci, .slice x.S x.ns x.cs, .int .i64 x.N, .int .i64 x.P] 44) := ⟨_, rfl⟩
  have HB0 : Hid (Below w.heap.size w W0) := hide (by rw [hW0]; exact below_al6 (Below.refl _ _))
  have HX : Hid (BoxN W0 w.heap.size x) := hide (by rw [hW0]; exact BoxN.new w x)
  have HK := hide (hK.below HB0.out)
  have HO := hide (hx.below HB0.out)
  have HLI : Hid (x.xs.length = x.ni) := hide (lies_len9 hx.1)
  have HLS : Hid (x.sh.length = x.ns) := hide (lies_len9 hx.2.1)
  have hW0' := hW0.symm
  clear hW0 hK hx
  obtain ⟨i0, g0, hi0, hin0, hgj0, hkn0⟩ := kn_at (j := 0) HK.out.2.1 hal (by rw [HLI.out]; omega)
  have HI0 := hide hi0
  have HG0 := hide hgj0
  have HN0 := hide hkn0
  obtain ⟨hs0, hb0, h40⟩ := HK.out.2.2.2 g0 (List.mem_of_getElem? hgj0)
  have HS0 := hide hs0
  have hp0 : 1 ≤ g0.n := by have h := (sizeI_pos (hpos g0 (List.mem_of_getElem? hgj0))).1; rw [lies_len9 hs0] at h; exact h
  clear hi0 hgj0 hkn0 hs0
  obtain ⟨bK, oK, rfl, _, hxK⟩ := HK.out.2.2.1 (by omega)
  obtain ⟨bI, oI, hAI, _, _⟩ := byte_at HO.out.1 (by omega)
  have HAI := hide hAI
  clear hAI hxK
  have HC : Hid (∀ v, Below W0.heap.size W0 v → v.cell? ⟨p, 0, none⟩ = some (.slice (some ⟨bK, oK, none⟩) n c) ∧ v.cell? ⟨w.heap.size, 1, none⟩ = some (.slice (some ⟨bI, oI, none⟩) x.ni x.ci) ∧ v.cell? ⟨bI, oI, none⟩ = some (.int .i64 (i0 : Int)) ∧ v.cell? ⟨bK, oK + i0, none⟩ = some (.slice g0.A g0.n g0.c) ∧ v.cell? ⟨w.heap.size, 2, none⟩ = some (.slice x.S x.ns x.cs) ∧ v.cell? ⟨w.heap.size, 3, none⟩ = some (.int .i64 x.N) ∧ v.cell? ⟨w.heap.size, 4, none⟩ = some (.int .i64 x.P)) := hide (fun v hv => by
    obtain ⟨q0, q1, q2, q3, q4⟩ := (HX.out.kept hv).cs
    have kv := HK.out.below hv
    rw [HAI.out] at q1
    obtain ⟨_, _, eI, _, hxI⟩ := byte_at (HO.out.1.below hv) (by omega)
    rw [HAI.out] at eI
    cases eI
    obtain ⟨_, _, eK, _, hxK⟩ := kv.2.2.1 (by omega)
    cases eK
    have z0 := hxI 0 (by omega)
    rw [HI0.out, Nat.add_zero] at z0
    exact ⟨kv.c0, q1, z0, hxK i0 g0 HG0.out, q2, q3, q4⟩)
  have j00 : (0 : Int) ≤ (i0 : Int) := by omega
  have j10 : (i0 : Int) < (n : Int) := by omega
  have jz0 : ¬ x.ni = 0 := by omega
  have jn : (0 : Int) < (x.ni : Int) := by omega
  have hd0 : Below W0.heap.size W0 W0.drew := below_drewN (Below.refl _ _) 1
  obtain ⟨E, hE⟩ : ∃ z : Int, z = gjE gs x.xs x.N := ⟨_, rfl⟩
  obtain ⟨SS, hSS⟩ : ∃ z : List Int, z = gjS gs x.xs x.N := ⟨_, rfl⟩
  rw [← hE, ← hSS]
  have HE := hide hE
  have HSS := hide hSS
  clear hE hSS
  go_enter Tryz.func97, Tryz.ntmps97
  obtain ⟨d, hd⟩ := Int.eq_ofNat_of_zero_le hN0
  rw [hd] at HE HSS HC
  clear hd hN0
  go_wp2
  have hS0 : Hid (W0.drew.cell? ⟨p, 0, none⟩ = some (.slice (some ⟨bK, oK, none⟩) n c) ∧ W0.drew.cell? ⟨w.heap.size, 1, none⟩ = some (.slice (some ⟨bI, oI, none⟩) x.ni x.ci) ∧ W0.drew.cell? ⟨bI, oI, none⟩ = some (.int .i64 (i0 : Int)) ∧ W0.drew.cell? ⟨bK, oK + i0, none⟩ = some (.slice g0.A g0.n g0.c) ∧ W0.drew.cell? ⟨w.heap.size, 2, none⟩ = some (.slice x.S x.ns x.cs) ∧ W0.drew.cell? ⟨w.heap.size, 3, none⟩ = some (.int .i64 (d : Int)) ∧ W0.drew.cell? ⟨w.heap.size, 4, none⟩ = some (.int .i64 x.P)) := hide (HC.out _ hd0)
  refine wp_region_U (fun _ v => v.cell? ⟨p, 0, none⟩ = some (.slice (some ⟨bK, oK, none⟩) n c) ∧ v.cell? ⟨w.heap.size, 1, none⟩ = some (.slice (some ⟨bI, oI, none⟩) x.ni x.ci) ∧ v.cell? ⟨bI, oI, none⟩ = some (.int .i64 (i0 : Int)) ∧ v.cell? ⟨bK, oK + i0, none⟩ = some (.slice g0.A g0.n g0.c) ∧ v.cell? ⟨w.heap.size, 2, none⟩ = some (.slice x.S x.ns x.cs) ∧ v.cell? ⟨w.heap.size, 3, none⟩ = some (.int .i64 (d : Int)) ∧ v.cell? ⟨w.heap.size, 4, none⟩ = some (.int .i64 x.P)) 99 (by kernel_rfl) ?_
  refine wpAnyU_take (i := 0) (oi := { dst := some 10, op := _, type := _, pos := _, after := _, guard := none }) (v := .pointer (some ⟨p, 0, none⟩)) rfl (by kernel_rfl) (by kernel_rfl) (by kernel_rfl) (by kernel_rfl) (fun _ _ _ h => h) (yields_take rfl (fun w' hw => by obtain ⟨h1, h2, h3, h4, h5, h6, h7⟩ := hw.const; go_simp)) hS0.out ?_
  simp only [Act.put, List.setIfInBounds_toArray, List.set_cons_zero, List.set_cons_succ]
  refine wpAnyU_take (i := 1) (oi := { dst := some 11, op := _, type := _, pos := _, after := _, guard := none }) (v := .pointer (some ⟨p, 0, none⟩)) rfl (by kernel_rfl) (by kernel_rfl) (by kernel_rfl) (by kernel_rfl) (fun _ _ _ h => h) (yields_take rfl (fun w' hw => by obtain ⟨h1, h2, h3, h4, h5, h6, h7⟩ := hw.const; go_simp)) hS0.out ?_
  simp only [Act.put, List.setIfInBounds_toArray, List.set_cons_zero, List.set_cons_succ]
  refine wpAnyU_take (i := 2) (oi := { dst := some 12, op := _, type := _, pos := _, after := _, guard := none }) (v := .pointer (some ⟨p, 0, none⟩)) rfl (by kernel_rfl) (by kernel_rfl) (by kernel_rfl) (by kernel_rfl) (fun _ _ _ h => h) (yields_take rfl (fun w' hw => by obtain ⟨h1, h2, h3, h4, h5, h6, h7⟩ := hw.const; go_simp)) hS0.out ?_
  simp only [Act.put, List.setIfInBounds_toArray, List.set_cons_zero, List.set_cons_succ]
  refine wpAnyU_take (i := 3) (oi := { dst := some 13, op := _, type := _, pos := _, after := _, guard := none }) (v := .slice (some ⟨bK, oK, none⟩) n c) rfl (by kernel_rfl) (by kernel_rfl) (by kernel_rfl) (by kernel_rfl) (fun _ _ _ h => h) (yields_take rfl (fun w' hw => by obtain ⟨h1, h2, h3, h4, h5, h6, h7⟩ := hw.const; go_simp)) hS0.out ?_
  simp only [Act.put, List.setIfInBounds_toArray, List.set_cons_zero, List.set_cons_succ]
  refine wpAnyU_take (i := 4) (oi := { dst := some 14, op := _, type := _, pos := _, after := _, guard := none }) (v := .pointer (some ⟨w.heap.size, 1, none⟩)) rfl (by kernel_rfl) (by kernel_rfl) (by kernel_rfl) (by kernel_rfl) (fun _ _ _ h => h) (yields_take rfl (fun w' hw => by obtain ⟨h1, h2, h3, h4, h5, h6, h7⟩ := hw.const; go_simp)) hS0.out ?_
  simp only [Act.put, List.setIfInBounds_toArray, List.set_cons_zero, List.set_cons_succ]
  refine wpAnyU_take (i := 5) (oi := { dst := some 15, op := _, type := _, pos := _, after := _, guard := none }) (v := .slice (some ⟨bI, oI, none⟩) x.ni x.ci) rfl (by kernel_rfl) (by kernel_rfl) (by kernel_rfl) (by kernel_rfl) (fun _ _ _ h => h) (yields_take rfl (fun w' hw => by obtain ⟨h1, h2, h3, h4, h5, h6, h7⟩ := hw.const; go_simp)) hS0.out ?_
  simp only [Act.put, List.setIfInBounds_toArray, List.set_cons_zero, List.set_cons_succ]
  refine wpAnyU_take (i := 6) (oi := { dst := some 16, op := _, type := _, pos := _, after := _, guard := none }) (v := .pointer (some ⟨bI, oI, none⟩)) rfl (by kernel_rfl) (by kernel_rfl) (by kernel_rfl) (by kernel_rfl) (fun _ _ _ h => h) (yields_take rfl (fun w' hw => by obtain ⟨h1, h2, h3, h4, h5, h6, h7⟩ := hw.const; go_simp)) hS0.out ?_
  simp only [Act.put, List.setIfInBounds_toArray, List.set_cons_zero, List.set_cons_succ]
  refine wpAnyU_take (i := 7) (oi := { dst := some 17, op := _, type := _, pos := _, after := _, guard := none }) (v := .int .i64 (i0 : Int)) rfl (by kernel_rfl) (by kernel_rfl) (by kernel_rfl) (by kernel_rfl) (fun _ _ _ h => h) (yields_take rfl (fun w' hw => by obtain ⟨h1, h2, h3, h4, h5, h6, h7⟩ := hw.const; go_simp)) hS0.out ?_
  simp only [Act.put, List.setIfInBounds_toArray, List.set_cons_zero, List.set_cons_succ]
  refine wpAnyU_take (i := 8) (oi := { dst := some 18, op := _, type := _, pos := _, after := _, guard := none }) (v := .pointer (some ⟨bK, oK + i0, none⟩)) rfl (by kernel_rfl) (by kernel_rfl) (by kernel_rfl) (by kernel_rfl) (fun _ _ _ h => h) (yields_take rfl (fun w' hw => by obtain ⟨h1, h2, h3, h4, h5, h6, h7⟩ := hw.const; go_simp)) hS0.out ?_
  simp only [Act.put, List.setIfInBounds_toArray, List.set_cons_zero, List.set_cons_succ]
  refine wpAnyU_take (i := 9) (oi := { dst := some 19, op := _, type := _, pos := _, after := _, guard := none }) (v := .slice g0.A g0.n g0.c) rfl (by kernel_rfl) (by kernel_rfl) (by kernel_rfl) (by kernel_rfl) (fun _ _ _ h => h) (yields_take rfl (fun w' hw => by obtain ⟨h1, h2, h3, h4, h5, h6, h7⟩ := hw.const; go_simp)) hS0.out ?_
  simp only [Act.put, List.setIfInBounds_toArray, List.set_cons_zero, List.set_cons_succ]
  refine wpAnyU_one (i := 10) (by kernel_rfl) rfl ?_
  intro K hK
  go_simp
  refine Calls.mono (clone_ints g0.A g0.n g0.c g0.s _ (HS0.out.below hd0) (by omega) (by omega)) ?_
  rintro e w1 ⟨gd, cd, rfl, ho, hb⟩
  dsimp only
  have hd1 : Below W0.heap.size W0 w1 := below_nx6 hd0 hb
  have HO0 := hide (own_base ho hd0.size)
  clear hb ho
  have hS1 : Hid (w1.cell? ⟨p, 0, none⟩ = some (.slice (some ⟨bK, oK, none⟩) n c) ∧ w1.cell? ⟨w.heap.size, 1, none⟩ = some (.slice (some ⟨bI, oI, none⟩) x.ni x.ci) ∧ w1.cell? ⟨bI, oI, none⟩ = some (.int .i64 (i0 : Int)) ∧ w1.cell? ⟨bK, oK + i0, none⟩ = some (.slice g0.A g0.n g0.c) ∧ w1.cell? ⟨w.heap.size, 2, none⟩ = some (.slice x.S x.ns x.cs) ∧ w1.cell? ⟨w.heap.size, 3, none⟩ = some (.int .i64 (d : Int)) ∧ w1.cell? ⟨w.heap.size, 4, none⟩ = some (.int .i64 x.P)) := hide (HC.out _ hd1)
  refine hK.out _ _ hS1.out (fun _ => ?_)
  clear hK K hS0
  refine wpAnyU_take (i := 11) (oi := { dst := some 6, op := _, type := _, pos := _, after := _, guard := none }) (v := .slice (some ⟨gd, 0, none⟩) g0.n cd) rfl (by kernel_rfl) (by kernel_rfl) (by kernel_rfl) (by kernel_rfl) (fun _ _ _ h => h) (yields_take rfl (fun w' hw => by obtain ⟨h1, h2, h3, h4, h5, h6, h7⟩ := hw.const; go_simp)) hS1.out ?_
  simp only [Act.put, List.setIfInBounds_toArray, List.set_cons_zero, List.set_cons_succ]
  refine wpAnyU_done (by kernel_rfl) ?_ _
  clear hS1
  have HLG : Hid (g0.s.length = g0.n) := hide (lies_len9 HS0.out)
  have HB1 := hide hd1
  obtain ⟨f0, f1, _, _, f2, f3, f4⟩ := HC.out _ hd1
  have HGD : Hid (W0.heap.size ≤ gd) := hide (HO0.out.lt gd rfl).1
  have HGE : Hid (gjE gs x.xs (d : Int) = if d < g0.n then (if gjAll gs x.xs d (x.xs.length - 1) = true ∧ 0 < sizeI (gjZ gs x.xs d (x.xs.length - 1)) then 0 else 10) else 1) := hide (by
    rw [gjE, HN0.out, HLG.out, Int.toNat_natCast]
    by_cases h : d < g0.n
    · rw [if_pos h, if_pos (by omega)]
    · rw [if_neg h, if_neg (by omega)])
  have HGZ : Hid (SS = if gjE gs x.xs (d : Int) = 0 then gjZ gs x.xs d (x.xs.length - 1) else []) := hide (by rw [HSS.out, gjS, Int.toNat_natCast])
  by_cases hl : d < g0.n
  rotate_left
  · obtain rfl : E = 1 := by rw [HE.out, HGE.out, if_neg hl]
    have HS9 : Hid (SS = []) := hide (by rw [HGZ.out, ← HE.out, if_neg (by decide)])
    have e1 : (g0.n : Int) ≤ (d : Int) := by omega
    clear hl hd1 hd0
    go_wp2
    go_ret2
    exact ⟨none, 0, 0, rfl, by rw [HS9.out]; exact World.ownsRow_nil _ _ _ _, by omega, HB0.out.trans (HB1.out.mono HB0.out.size)⟩
  rw [if_pos hl] at HGE
  have e1 : ¬ ((g0.n : Int) ≤ (d : Int)) := by omega
  have HLE := hide (gjA_le (d := d) HK.out.2.1 hal hpos (by rw [HN0.out, HLG.out]; exact hl))
  obtain ⟨r, hr⟩ : ∃ z, z = x.ni - 1 := ⟨_, rfl⟩
  obtain ⟨rc, hrc⟩ : ∃ z, z = x.ci - 1 := ⟨_, rfl⟩
  have hic := HO.out.2.2.1
  have k1 : (1 : Int) ≤ (x.ni : Int) := by omega
  have k2 : (x.ni : Int) ≤ (x.ci : Int) := by omega
  have k3 : 1 ≤ x.ni := hin
  have k9 : x.ni - 1 = r := hr.symm
  have k10 : x.ci - 1 = rc := hrc.symm
  have HQR : Hid (x.ni = r + 1 ∧ x.xs.length - 1 = r) := hide (by have := HLI.out; omega)
  have hr4 : r ≤ 3 := by omega
  obtain ⟨U, hU⟩ : ∃ z : Option Addr, z = (if x.ci = 1 then some ⟨bI, oI, none⟩ else some ⟨bI, oI + 1, none⟩) := ⟨_, rfl⟩
  have HU : Hid (1 ≤ r → U = some ⟨bI, oI + 1, none⟩) := hide (fun h => by rw [hU, if_neg (by omega)])
  have hU' := hU.symm
  rw [HQR.out.2] at HGE HGZ
  have HOD : Hid (w1.ownsRow W0.heap.size 3 1 (.slice (some ⟨gd, 0, none⟩) g0.n cd) g0.n ((gjZ gs x.xs d 0).map (Value.int .i64))) := hide (by
    have e : gjZ gs x.xs d 0 = g0.s := by
      rw [gjZ, gjA, HN0.out, List.getD_eq_getElem?_getD, List.getElem?_eq_getElem (by rw [HLG.out]; exact hl), Option.getD_some]
      exact List.set_getElem_self _
    rw [e]; exact HO0.out)
  have HCJ : Hid (∀ k, k < r → ∃ (i : Nat) (g : Sg), i < n ∧ g.n ≤ g.c ∧ g.n ≤ 4 ∧ kn gs x.xs (k + 1) = g.s ∧ Lies W0 g.A g.n (g.s.map (Value.int .i64)) ∧ ∀ v, Below W0.heap.size W0 v → v.cell? ⟨bI, oI + 1 + k, none⟩ = some (.int .i64 (i : Int)) ∧ v.cell? ⟨bK, oK + i, none⟩ = some (.slice g.A g.n g.c)) := hide (fun k hk => by
    obtain ⟨i, g, hi, hin, hg, hkn⟩ := kn_at (j := k + 1) HK.out.2.1 hal (by rw [HLI.out]; omega)
    obtain ⟨hs, hb, h4⟩ := HK.out.2.2.2 g (List.mem_of_getElem? hg)
    refine ⟨i, g, hin, hb, h4, hkn, hs, fun v hv => ?_⟩
    obtain ⟨_, _, eI, _, hxI⟩ := byte_at (HO.out.1.below hv) (by omega)
    rw [HAI.out] at eI
    cases eI
    obtain ⟨_, _, eK, _, hxK⟩ := (HK.out.below hv).2.2.1 (by omega)
    cases eK
    have z := hxI (k + 1) (by omega)
    rw [hi, show oI + (k + 1) = oI + 1 + k by omega] at z
    exact ⟨z, hxK i g hg⟩)
  clear hU hr hrc hd1 hd0 HO0
  go_wp2
  clear f0 f1 f2 f3 f4
  go_loopw [30] (fun i wr => ∃ k : Nat, k ≤ r ∧ i = .int .i64 (k : Int) ∧ Hid (∀ j, j < k → gjLike gs x.xs d (j + 1) = true) ∧ Hid (wr.ownsRow W0.heap.size 3 1 (.slice (some ⟨gd, 0, none⟩) g0.n cd) g0.n ((gjZ gs x.xs d k).map (Value.int .i64))) ∧ Hid (Below W0.heap.size W0 wr)) (fun i _ => r - (intOf i).toNat)
  case atStart => exact ⟨0, Nat.zero_le _, rfl, hide (fun j hj => absurd hj (by omega)), HOD, HB1⟩
  case round =>
    clear HOD HB1 hU' k9 k10 k1 k2
    obtain ⟨k, hk, rfl, HJ, HOw, HB⟩ := hrel
    by_cases hlt : k < r
    · have hUU := HU.out (by omega)
      subst hUU
      obtain ⟨ik, g, hik, hgc, hg4, hkn, hgl, hcf⟩ := HCJ.out k hlt
      have HKN := hide hkn
      have HGL := hide hgl
      have HCF := hide hcf
      have HLK : Hid (g.s.length = g.n) := hide (lies_len9 hgl)
      obtain ⟨f0, _, _, _, f2, f3, f4⟩ := HC.out _ HB.out
      obtain ⟨c0, c1⟩ := hcf _ HB.out
      have h0 : (0 : Int) ≤ (k : Int) := by omega
      have h1 : (k : Int) < (r : Int) := by omega
      have h2 : (0 : Int) ≤ (ik : Int) := by omega
      have h3 : (ik : Int) < (n : Int) := by omega
      have hk1 : k + 1 < x.xs.length := by have := HQR.out; have := HLI.out; omega
      have hdr : Below W0.heap.size W0 wr.drew := below_drewN HB.out 1
      have HEJ : Hid (gjLike gs x.xs d (k + 1) = (decide (g.n = g0.n) && decide (outL g.s d = outL g0.s d))) := hide (by rw [gjLike, HKN.out, HN0.out, HLK.out, HLG.out])
      clear hkn hgl hcf
      go_wp2
      clear f0 f2 f3 f4 c0 c1
      by_cases hn : g.n = g0.n
      rotate_left
      · have e2 : ((g.n : Int) != (g0.n : Int)) = true := by simpa using (by omega : ¬ (g.n : Int) = (g0.n : Int))
        have e3 : ¬ (g.n : Int) = (g0.n : Int) := by omega
        have hS0 : Hid (wr.drew.cell? ⟨w.heap.size, 3, none⟩ = some (.int .i64 (d : Int))) := hide ((by obtain ⟨_, _, _, _, _, q, _⟩ := HC.out _ hdr; exact q))
        refine wp_region_U (fun _ v => v.cell? ⟨w.heap.size, 3, none⟩ = some (.int .i64 (d : Int))) 99 (by kernel_rfl) ?_
        refine wpAnyU_take (i := 0) (oi := { dst := some 41, op := _, type := _, pos := _, after := _, guard := none }) (v := .slice g.A g.n g.c) rfl (by kernel_rfl) (by kernel_rfl) (by kernel_rfl) (by kernel_rfl) (fun _ _ _ h => h) (yields_take rfl (fun w' hw => by have h1 := hw.const; go_simp)) hS0.out ?_
        simp only [Act.put, List.setIfInBounds_toArray, List.set_cons_zero, List.set_cons_succ]
        refine wpAnyU_take (i := 1) (oi := { dst := some 42, op := _, type := _, pos := _, after := _, guard := none }) (v := .int .i64 (g.n : Int)) rfl (by kernel_rfl) (by kernel_rfl) (by kernel_rfl) (by kernel_rfl) (fun _ _ _ h => h) (yields_take rfl (fun w' hw => by have h1 := hw.const; go_simp)) hS0.out ?_
        simp only [Act.put, List.setIfInBounds_toArray, List.set_cons_zero, List.set_cons_succ]
        refine wpAnyU_take (i := 2) (oi := { dst := some 43, op := _, type := _, pos := _, after := _, guard := none }) (v := .slice (some ⟨gd, 0, none⟩) g0.n cd) rfl (by kernel_rfl) (by kernel_rfl) (by kernel_rfl) (by kernel_rfl) (fun _ _ _ h => h) (yields_take rfl (fun w' hw => by have h1 := hw.const; go_simp)) hS0.out ?_
        simp only [Act.put, List.setIfInBounds_toArray, List.set_cons_zero, List.set_cons_succ]
        refine wpAnyU_take (i := 3) (oi := { dst := some 44, op := _, type := _, pos := _, after := _, guard := none }) (v := .int .i64 (g0.n : Int)) rfl (by kernel_rfl) (by kernel_rfl) (by kernel_rfl) (by kernel_rfl) (fun _ _ _ h => h) (yields_take rfl (fun w' hw => by have h1 := hw.const; go_simp)) hS0.out ?_
        simp only [Act.put, List.setIfInBounds_toArray, List.set_cons_zero, List.set_cons_succ]
        refine wpAnyU_take (i := 4) (oi := { dst := some 45, op := _, type := _, pos := _, after := _, guard := none }) (v := .bool true) rfl (by kernel_rfl) (by kernel_rfl) (by kernel_rfl) (by kernel_rfl) (fun _ _ _ h => h) (yields_take rfl (fun w' hw => by have h1 := hw.const; go_simp)) hS0.out ?_
        simp only [Act.put, List.setIfInBounds_toArray, List.set_cons_zero, List.set_cons_succ]
        refine wpAnyU_take (i := 5) (oi := { dst := some 46, op := _, type := _, pos := _, after := _, guard := none }) (v := .bool true) rfl (by kernel_rfl) (by kernel_rfl) (by kernel_rfl) (by kernel_rfl) (fun _ _ _ h => h) (yields_take rfl (fun w' hw => by have h1 := hw.const; go_simp)) hS0.out ?_
        simp only [Act.put, List.setIfInBounds_toArray, List.set_cons_zero, List.set_cons_succ]
        refine wpAnyU_take (i := 6) (oi := { dst := some 47, op := _, type := _, pos := _, after := _, guard := some (5, false) }) (v := undef) rfl (by kernel_rfl) (by kernel_rfl) (by kernel_rfl) (by kernel_rfl) (fun _ _ _ h => h) (.inr ⟨rfl, rfl⟩) hS0.out ?_
        simp only [Act.put, List.setIfInBounds_toArray, List.set_cons_zero, List.set_cons_succ]
        refine wpAnyU_take (i := 7) (oi := { dst := some 48, op := _, type := _, pos := _, after := _, guard := some (5, false) }) (v := undef) rfl (by kernel_rfl) (by kernel_rfl) (by kernel_rfl) (by kernel_rfl) (fun _ _ _ h => h) (.inr ⟨rfl, rfl⟩) hS0.out ?_
        simp only [Act.put, List.setIfInBounds_toArray, List.set_cons_zero, List.set_cons_succ]
        refine wpAnyU_take (i := 8) (oi := { dst := some 49, op := _, type := _, pos := _, after := _, guard := some (5, false) }) (v := undef) rfl (by kernel_rfl) (by kernel_rfl) (by kernel_rfl) (by kernel_rfl) (fun _ _ _ h => h) (.inr ⟨rfl, rfl⟩) hS0.out ?_
        simp only [Act.put, List.setIfInBounds_toArray, List.set_cons_zero, List.set_cons_succ]
        refine wpAnyU_take (i := 9) (oi := { dst := some 50, op := _, type := _, pos := _, after := _, guard := some (5, false) }) (v := undef) rfl (by kernel_rfl) (by kernel_rfl) (by kernel_rfl) (by kernel_rfl) (fun _ _ _ h => h) (.inr ⟨rfl, rfl⟩) hS0.out ?_
        simp only [Act.put, List.setIfInBounds_toArray, List.set_cons_zero, List.set_cons_succ]
        refine wpAnyU_take (i := 10) (oi := { dst := some 51, op := _, type := _, pos := _, after := _, guard := some (5, false) }) (v := undef) rfl (by kernel_rfl) (by kernel_rfl) (by kernel_rfl) (by kernel_rfl) (fun _ _ _ h => h) (.inr ⟨rfl, rfl⟩) hS0.out ?_
        simp only [Act.put, List.setIfInBounds_toArray, List.set_cons_zero, List.set_cons_succ]
        refine wpAnyU_take (i := 11) (oi := { dst := some 52, op := _, type := _, pos := _, after := _, guard := some (5, false) }) (v := undef) rfl (by kernel_rfl) (by kernel_rfl) (by kernel_rfl) (by kernel_rfl) (fun _ _ _ h => h) (.inr ⟨rfl, rfl⟩) hS0.out ?_
        simp only [Act.put, List.setIfInBounds_toArray, List.set_cons_zero, List.set_cons_succ]
        refine wpAnyU_take (i := 12) (oi := { dst := some 53, op := _, type := _, pos := _, after := _, guard := some (5, false) }) (v := undef) rfl (by kernel_rfl) (by kernel_rfl) (by kernel_rfl) (by kernel_rfl) (fun _ _ _ h => h) (.inr ⟨rfl, rfl⟩) hS0.out ?_
        simp only [Act.put, List.setIfInBounds_toArray, List.set_cons_zero, List.set_cons_succ]
        refine wpAnyU_take (i := 13) (oi := { dst := some 54, op := _, type := _, pos := _, after := _, guard := some (5, false) }) (v := undef) rfl (by kernel_rfl) (by kernel_rfl) (by kernel_rfl) (by kernel_rfl) (fun _ _ _ h => h) (.inr ⟨rfl, rfl⟩) hS0.out ?_
        simp only [Act.put, List.setIfInBounds_toArray, List.set_cons_zero, List.set_cons_succ]
        refine wpAnyU_take (i := 14) (oi := { dst := some 55, op := _, type := _, pos := _, after := _, guard := some (5, false) }) (v := undef) rfl (by kernel_rfl) (by kernel_rfl) (by kernel_rfl) (by kernel_rfl) (fun _ _ _ h => h) (.inr ⟨rfl, rfl⟩) hS0.out ?_
        simp only [Act.put, List.setIfInBounds_toArray, List.set_cons_zero, List.set_cons_succ]
        refine wpAnyU_take (i := 15) (oi := { dst := some 56, op := _, type := _, pos := _, after := _, guard := some (5, false) }) (v := undef) rfl (by kernel_rfl) (by kernel_rfl) (by kernel_rfl) (by kernel_rfl) (fun _ _ _ h => h) (.inr ⟨rfl, rfl⟩) hS0.out ?_
        simp only [Act.put, List.setIfInBounds_toArray, List.set_cons_zero, List.set_cons_succ]
        refine wpAnyU_take (i := 16) (oi := { dst := some 57, op := _, type := _, pos := _, after := _, guard := none }) (v := .bool true) rfl (by kernel_rfl) (by kernel_rfl) (by kernel_rfl) (by kernel_rfl) (fun _ _ _ h => h) (yields_take rfl (fun w' hw => by have h1 := hw.const; go_simp)) hS0.out ?_
        simp only [Act.put, List.setIfInBounds_toArray, List.set_cons_zero, List.set_cons_succ]
        refine wpAnyU_done (by kernel_rfl) ?_ _
        clear hS0
        have HNL : Hid (gjLike gs x.xs d (k + 1) = false) := hide (by rw [HEJ.out, decide_eq_false hn, Bool.false_and])
        have hno : gjAll gs x.xs d r = false := gjAll_no hlt HNL.out
        obtain rfl : E = 10 := by rw [HE.out, HGE.out, hno]; simp
        have HS9 : Hid (SS = []) := hide (by rw [HGZ.out, ← HE.out, if_neg (by decide)])
        have HBX := hide hdr
        clear hno hdr
        go_wp2
        go_ret2
        exact ⟨none, 0, 0, rfl, by rw [HS9.out]; exact World.ownsRow_nil _ _ _ _, by omega, HB0.out.trans (HBX.out.mono HB0.out.size)⟩
      have e2 : ((g.n : Int) != (g0.n : Int)) = false := by simp [hn]
      have HNN := hide hn
      clear hn
      obtain ⟨B, hB⟩ : ∃ z : Bool, z = decide (outL g.s d = outL g0.s d) := ⟨_, rfl⟩
      have HBQ := hide hB
      have HZO : Hid (outL (gjZ gs x.xs d k) d = outL g0.s d) := hide (by rw [gjZ, outL_set, HN0.out])
      have hcd := own_cap7 HOw.out
      clear hB
      have hS0 : Hid (wr.drew.cell? ⟨w.heap.size, 3, none⟩ = some (.int .i64 (d : Int))) := hide ((by obtain ⟨_, _, _, _, _, q, _⟩ := HC.out _ hdr; exact q))
      refine wp_region_U (fun _ v => v.cell? ⟨w.heap.size, 3, none⟩ = some (.int .i64 (d : Int))) 99 (by kernel_rfl) ?_
      refine wpAnyU_take (i := 0) (oi := { dst := some 41, op := _, type := _, pos := _, after := _, guard := none }) (v := .slice g.A g.n g.c) rfl (by kernel_rfl) (by kernel_rfl) (by kernel_rfl) (by kernel_rfl) (fun _ _ _ h => h) (yields_take rfl (fun w' hw => by have h1 := hw.const; go_simp)) hS0.out ?_
      simp only [Act.put, List.setIfInBounds_toArray, List.set_cons_zero, List.set_cons_succ]
      refine wpAnyU_take (i := 1) (oi := { dst := some 42, op := _, type := _, pos := _, after := _, guard := none }) (v := .int .i64 (g.n : Int)) rfl (by kernel_rfl) (by kernel_rfl) (by kernel_rfl) (by kernel_rfl) (fun _ _ _ h => h) (yields_take rfl (fun w' hw => by have h1 := hw.const; go_simp)) hS0.out ?_
      simp only [Act.put, List.setIfInBounds_toArray, List.set_cons_zero, List.set_cons_succ]
      refine wpAnyU_take (i := 2) (oi := { dst := some 43, op := _, type := _, pos := _, after := _, guard := none }) (v := .slice (some ⟨gd, 0, none⟩) g0.n cd) rfl (by kernel_rfl) (by kernel_rfl) (by kernel_rfl) (by kernel_rfl) (fun _ _ _ h => h) (yields_take rfl (fun w' hw => by have h1 := hw.const; go_simp)) hS0.out ?_
      simp only [Act.put, List.setIfInBounds_toArray, List.set_cons_zero, List.set_cons_succ]
      refine wpAnyU_take (i := 3) (oi := { dst := some 44, op := _, type := _, pos := _, after := _, guard := none }) (v := .int .i64 (g0.n : Int)) rfl (by kernel_rfl) (by kernel_rfl) (by kernel_rfl) (by kernel_rfl) (fun _ _ _ h => h) (yields_take rfl (fun w' hw => by have h1 := hw.const; go_simp)) hS0.out ?_
      simp only [Act.put, List.setIfInBounds_toArray, List.set_cons_zero, List.set_cons_succ]
      refine wpAnyU_take (i := 4) (oi := { dst := some 45, op := _, type := _, pos := _, after := _, guard := none }) (v := .bool false) rfl (by kernel_rfl) (by kernel_rfl) (by kernel_rfl) (by kernel_rfl) (fun _ _ _ h => h) (yields_take rfl (fun w' hw => by have h1 := hw.const; go_simp)) hS0.out ?_
      simp only [Act.put, List.setIfInBounds_toArray, List.set_cons_zero, List.set_cons_succ]
      refine wpAnyU_take (i := 5) (oi := { dst := some 46, op := _, type := _, pos := _, after := _, guard := none }) (v := .bool false) rfl (by kernel_rfl) (by kernel_rfl) (by kernel_rfl) (by kernel_rfl) (fun _ _ _ h => h) (yields_take rfl (fun w' hw => by have h1 := hw.const; go_simp)) hS0.out ?_
      simp only [Act.put, List.setIfInBounds_toArray, List.set_cons_zero, List.set_cons_succ]
      refine wpAnyU_take (i := 6) (oi := { dst := some 47, op := _, type := _, pos := _, after := _, guard := some (5, false) }) (v := .slice g.A g.n g.c) rfl (by kernel_rfl) (by kernel_rfl) (by kernel_rfl) (by kernel_rfl) (fun _ _ _ h => h) (yields_take rfl (fun w' hw => by have h1 := hw.const; go_simp)) hS0.out ?_
      simp only [Act.put, List.setIfInBounds_toArray, List.set_cons_zero, List.set_cons_succ]
      refine wpAnyU_take (i := 7) (oi := { dst := some 48, op := _, type := _, pos := _, after := _, guard := some (5, false) }) (v := .pointer (some ⟨w.heap.size, 3, none⟩)) rfl (by kernel_rfl) (by kernel_rfl) (by kernel_rfl) (by kernel_rfl) (fun _ _ _ h => h) (yields_take rfl (fun w' hw => by have h1 := hw.const; go_simp)) hS0.out ?_
      simp only [Act.put, List.setIfInBounds_toArray, List.set_cons_zero, List.set_cons_succ]
      refine wpAnyU_take (i := 8) (oi := { dst := some 49, op := _, type := _, pos := _, after := _, guard := some (5, false) }) (v := .int .i64 (d : Int)) rfl (by kernel_rfl) (by kernel_rfl) (by kernel_rfl) (by kernel_rfl) (fun _ _ _ h => h) (yields_take rfl (fun w' hw => by have h1 := hw.const; go_simp)) hS0.out ?_
      simp only [Act.put, List.setIfInBounds_toArray, List.set_cons_zero, List.set_cons_succ]
      refine wpAnyU_take (i := 10) (oi := { dst := some 51, op := _, type := _, pos := _, after := _, guard := some (5, false) }) (v := .slice (some ⟨gd, 0, none⟩) g0.n cd) rfl (by kernel_rfl) (by kernel_rfl) (by kernel_rfl) (by kernel_rfl) (fun _ _ _ h => h) (yields_take rfl (fun w' hw => by have h1 := hw.const; go_simp)) hS0.out ?_
      simp only [Act.put, List.setIfInBounds_toArray, List.set_cons_zero, List.set_cons_succ]
      refine wpAnyU_take (i := 11) (oi := { dst := some 52, op := _, type := _, pos := _, after := _, guard := some (5, false) }) (v := .pointer (some ⟨w.heap.size, 3, none⟩)) rfl (by kernel_rfl) (by kernel_rfl) (by kernel_rfl) (by kernel_rfl) (fun _ _ _ h => h) (yields_take rfl (fun w' hw => by have h1 := hw.const; go_simp)) hS0.out ?_
      simp only [Act.put, List.setIfInBounds_toArray, List.set_cons_zero, List.set_cons_succ]
      refine wpAnyU_take (i := 12) (oi := { dst := some 53, op := _, type := _, pos := _, after := _, guard := some (5, false) }) (v := .int .i64 (d : Int)) rfl (by kernel_rfl) (by kernel_rfl) (by kernel_rfl) (by kernel_rfl) (fun _ _ _ h => h) (yields_take rfl (fun w' hw => by have h1 := hw.const; go_simp)) hS0.out ?_
      simp only [Act.put, List.setIfInBounds_toArray, List.set_cons_zero, List.set_cons_succ]
      refine wpAnyU_one (i := 9) (by kernel_rfl) rfl ?_
      intro K hK
      go_simp
      refine Calls.mono (gwithout_any g.A g.n g.c d g.s _ (HGL.out.below hdr) (by have := HNN.out; omega) hgc (by omega)) ?_
      rintro e v1 ⟨G1, q1, c1, rfl, hq1, ho1, hb1⟩
      dsimp only
      have hd1 : Below W0.heap.size W0 v1 := below_nx6 hdr hb1
      have HQ1 := hide hq1
      clear hq1
      have HO1 := hide (own_base ho1 hdr.size)
      have HOv := hide (own_below (own_drewN HOw.out 1) hb1)
      clear hb1 ho1
      have hS1 : Hid (v1.cell? ⟨w.heap.size, 3, none⟩ = some (.int .i64 (d : Int))) := hide ((by obtain ⟨_, _, _, _, _, q, _⟩ := HC.out _ hd1; exact q))
      refine hK.out _ _ hS1.out (fun _ => ?_)
      clear hK K hS0
      refine wpAnyU_one (i := 13) (by kernel_rfl) rfl ?_
      intro K hK
      go_simp
      refine Calls.mono (gwithout_any (some ⟨gd, 0, none⟩) g0.n cd d (gjZ gs x.xs d k) _ (lies_of_own HOv.out) hl hcd (by omega)) ?_
      rintro e v2 ⟨G2, q2, c2, rfl, hq2, ho2, hb2⟩
      dsimp only
      have hd2 : Below W0.heap.size W0 v2 := below_nx6 hd1 hb2
      have HQ2 := hide hq2
      clear hq2
      have HO2 := hide (own_base ho2 hd1.size)
      have HOy := hide (own_below HOv.out hb2)
      have HOx := hide (own_below HO1.out hb2)
      clear hb2 ho2
      have hS2 : Hid (v2.cell? ⟨w.heap.size, 3, none⟩ = some (.int .i64 (d : Int))) := hide ((by obtain ⟨_, _, _, _, _, q, _⟩ := HC.out _ hd2; exact q))
      refine hK.out _ _ hS2.out (fun _ => ?_)
      clear hK K hS1
      refine wpAnyU_one (i := 14) (by kernel_rfl) rfl ?_
      intro K hK
      go_simp
      refine Calls.mono (equal_ints G1 G2 q1 c1 q2 c2 (outL g.s d) (outL (gjZ gs x.xs d k) d) _ (lies_of_own HOx.out) (lies_of_own HO2.out) (by have := HQ1.out; have := HNN.out; omega)) ?_
      rintro e v3 ⟨rfl, jz, hjz⟩
      dsimp only
      rw [HZO.out, ← HBQ.out]
      have hd3 : Below W0.heap.size W0 v3 := by rw [hjz]; exact below_drewN hd2 jz
      have HOz : Hid (v3.ownsRow W0.heap.size 3 1 (.slice (some ⟨gd, 0, none⟩) g0.n cd) g0.n ((gjZ gs x.xs d k).map (Value.int .i64))) := hide (by rw [hjz]; exact own_drewN HOy.out jz)
      clear hjz
      have hS3 : Hid (v3.cell? ⟨w.heap.size, 3, none⟩ = some (.int .i64 (d : Int))) := hide ((by obtain ⟨_, _, _, _, _, q, _⟩ := HC.out _ hd3; exact q))
      refine hK.out _ _ hS3.out (fun _ => ?_)
      clear hK K hS2
      refine wpAnyU_take (i := 15) (oi := { dst := some 56, op := _, type := _, pos := _, after := _, guard := some (5, false) }) (v := .bool (!B)) rfl (by kernel_rfl) (by kernel_rfl) (by kernel_rfl) (by kernel_rfl) (fun _ _ _ h => h) (yields_take rfl (fun w' hw => by have h1 := hw.const; go_simp)) hS3.out ?_
      simp only [Act.put, List.setIfInBounds_toArray, List.set_cons_zero, List.set_cons_succ]
      refine wpAnyU_take (i := 16) (oi := { dst := some 57, op := _, type := _, pos := _, after := _, guard := none }) (v := .bool (!B)) rfl (by kernel_rfl) (by kernel_rfl) (by kernel_rfl) (by kernel_rfl) (fun _ _ _ h => h) (yields_take rfl (fun w' hw => by have h1 := hw.const; go_simp)) hS3.out ?_
      simp only [Act.put, List.setIfInBounds_toArray, List.set_cons_zero, List.set_cons_succ]
      refine wpAnyU_done (by kernel_rfl) ?_ _
      clear hS3
      clear HOv HOx HOy HO1 HO2 hd1 hd2 hdr
      cases B with
      | false =>
        have HNL : Hid (gjLike gs x.xs d (k + 1) = false) := hide (by rw [HEJ.out, ← HBQ.out, Bool.and_false])
        have hno : gjAll gs x.xs d r = false := gjAll_no hlt HNL.out
        obtain rfl : E = 10 := by rw [HE.out, HGE.out, hno]; simp
        have HS9 : Hid (SS = []) := hide (by rw [HGZ.out, ← HE.out, if_neg (by decide)])
        have HBX := hide hd3
        clear hno hd3
        go_wp2
        go_ret2
        exact ⟨none, 0, 0, rfl, by rw [HS9.out]; exact World.ownsRow_nil _ _ _ _, by omega, HB0.out.trans (HBX.out.mono HB0.out.size)⟩
      | true =>
        have HYL : Hid (gjLike gs x.xs d (k + 1) = true) := hide (by rw [HEJ.out, ← HBQ.out, decide_eq_true HNN.out]; rfl)
        have HJ2 : Hid (∀ j, j < k + 1 → gjLike gs x.xs d (j + 1) = true) := hide (fun j hj => by
          by_cases e : j = k
          · rw [e]; exact HYL.out
          · exact HJ.out j (by omega))
        obtain ⟨bG, oG, hgA, _, _⟩ := byte_at HGL.out (by have := HNN.out; omega)
        have HGA := hide hgA
        obtain ⟨X, hX⟩ : ∃ z, z = gjA gs x.xs d k := ⟨_, rfl⟩
        obtain ⟨Y, hY⟩ : ∃ z, z = g.s.getD d 0 := ⟨_, rfl⟩
        obtain ⟨Z, hZ⟩ : ∃ z, z = X + Y := ⟨_, rfl⟩
        have hz2 := HLE.out (k + 1) hk1 HJ2.out
        have HZ2 : Hid (gjA gs x.xs d (k + 1) = Z) := hide (by rw [gjA, HKN.out, ← hX, ← hY, hZ])
        rw [HZ2.out] at hz2
        have m1 : IntKind.i64.wrap (X + Y) = Z := by rw [← hZ, IntKind.wrap_i64]; omega
        have HF : Hid (∀ v, Below v3.heap.size v3 v → v.cell? ⟨w.heap.size, 3, none⟩ = some (.int .i64 (d : Int)) ∧ v.cell? ⟨gd, d, none⟩ = some (.int .i64 X) ∧ v.cell? ⟨bG, oG + d, none⟩ = some (.int .i64 Y)) := hide (fun v hv => by
          have hv0 := below_nx6 hd3 hv
          obtain ⟨_, _, _, _, _, q, _⟩ := HC.out _ hv0
          obtain ⟨_, _, eG, _, xG⟩ := byte_at (HGL.out.below hv0) (by have := HNN.out; omega)
          rw [HGA.out] at eG
          cases eG
          have p1 := (own_cells9 (own_below HOz.out hv) hl).1
          refine ⟨q, ?_, by rw [hY]; exact xG d (by have := HNN.out; omega)⟩
          rw [p1, gjZ, ← hX, List.getD_eq_getElem?_getD, List.getElem?_set_self (by rw [HN0.out, HLG.out]; exact hl), Option.getD_some])
        have ha0 : (0 : Int) ≤ (d : Int) := by omega
        have ha1 : (d : Int) < (g0.n : Int) := by omega
        have ha2 : (d : Int) < (g.n : Int) := by have := HNN.out; omega
        have hvd : Below v3.heap.size v3 v3.drew := below_drewN (Below.refl _ _) 1
        have hfz := (own_cells9 (own_below HOz.out hvd) hl).2
        have HB3 := hide hd3
        rw [hgA]
        clear hX hY hZ hz2 hgA hd3
        go_wp2
        have hS0 : Hid (v3.drew.cell? ⟨w.heap.size, 3, none⟩ = some (.int .i64 (d : Int)) ∧ v3.drew.cell? ⟨gd, d, none⟩ = some (.int .i64 X) ∧ v3.drew.cell? ⟨bG, oG + d, none⟩ = some (.int .i64 Y)) := hide (HF.out _ hvd)
        refine wp_region_U (fun b v => b = false → v.cell? ⟨w.heap.size, 3, none⟩ = some (.int .i64 (d : Int)) ∧ v.cell? ⟨gd, d, none⟩ = some (.int .i64 X) ∧ v.cell? ⟨bG, oG + d, none⟩ = some (.int .i64 Y)) 12 (by kernel_rfl) ?_
        refine wpAnyU_take (i := 0) (oi := { dst := some 58, op := _, type := _, pos := _, after := _, guard := none }) (v := .slice (some ⟨gd, 0, none⟩) g0.n cd) rfl (by kernel_rfl) (by kernel_rfl) (by kernel_rfl) (by kernel_rfl) (fun _ _ _ h => h) (yields_take rfl (fun w' hw => by obtain ⟨h1, h2, h3⟩ := hw.no (by kernel_rfl) rfl; go_simp)) (fun _ => hS0.out) ?_
        simp only [Act.put, List.setIfInBounds_toArray, List.set_cons_zero, List.set_cons_succ]
        refine wpAnyU_take (i := 1) (oi := { dst := some 59, op := _, type := _, pos := _, after := _, guard := none }) (v := .pointer (some ⟨w.heap.size, 3, none⟩)) rfl (by kernel_rfl) (by kernel_rfl) (by kernel_rfl) (by kernel_rfl) (fun _ _ _ h => h) (yields_take rfl (fun w' hw => by obtain ⟨h1, h2, h3⟩ := hw.no (by kernel_rfl) rfl; go_simp)) (fun _ => hS0.out) ?_
        simp only [Act.put, List.setIfInBounds_toArray, List.set_cons_zero, List.set_cons_succ]
        refine wpAnyU_take (i := 2) (oi := { dst := some 60, op := _, type := _, pos := _, after := _, guard := none }) (v := .int .i64 (d : Int)) rfl (by kernel_rfl) (by kernel_rfl) (by kernel_rfl) (by kernel_rfl) (fun _ _ _ h => h) (yields_take rfl (fun w' hw => by obtain ⟨h1, h2, h3⟩ := hw.no (by kernel_rfl) rfl; go_simp)) (fun _ => hS0.out) ?_
        simp only [Act.put, List.setIfInBounds_toArray, List.set_cons_zero, List.set_cons_succ]
        refine wpAnyU_take (i := 3) (oi := { dst := some 61, op := _, type := _, pos := _, after := _, guard := none }) (v := .pointer (some ⟨gd, d, none⟩)) rfl (by kernel_rfl) (by kernel_rfl) (by kernel_rfl) (by kernel_rfl) (fun _ _ _ h => h) (yields_take rfl (fun w' hw => by obtain ⟨h1, h2, h3⟩ := hw.no (by kernel_rfl) rfl; go_simp)) (fun _ => hS0.out) ?_
        simp only [Act.put, List.setIfInBounds_toArray, List.set_cons_zero, List.set_cons_succ]
        refine wpAnyU_take (i := 4) (oi := { dst := some 62, op := _, type := _, pos := _, after := _, guard := none }) (v := .int .i64 (X : Int)) rfl (by kernel_rfl) (by kernel_rfl) (by kernel_rfl) (by kernel_rfl) (fun _ _ _ h => h) (yields_take rfl (fun w' hw => by obtain ⟨h1, h2, h3⟩ := hw.no (by kernel_rfl) rfl; go_simp)) (fun _ => hS0.out) ?_
        simp only [Act.put, List.setIfInBounds_toArray, List.set_cons_zero, List.set_cons_succ]
        refine wpAnyU_take (i := 5) (oi := { dst := some 63, op := _, type := _, pos := _, after := _, guard := none }) (v := .slice (some ⟨bG, oG, none⟩) g.n g.c) rfl (by kernel_rfl) (by kernel_rfl) (by kernel_rfl) (by kernel_rfl) (fun _ _ _ h => h) (yields_take rfl (fun w' hw => by obtain ⟨h1, h2, h3⟩ := hw.no (by kernel_rfl) rfl; go_simp)) (fun _ => hS0.out) ?_
        simp only [Act.put, List.setIfInBounds_toArray, List.set_cons_zero, List.set_cons_succ]
        refine wpAnyU_take (i := 6) (oi := { dst := some 64, op := _, type := _, pos := _, after := _, guard := none }) (v := .pointer (some ⟨w.heap.size, 3, none⟩)) rfl (by kernel_rfl) (by kernel_rfl) (by kernel_rfl) (by kernel_rfl) (fun _ _ _ h => h) (yields_take rfl (fun w' hw => by obtain ⟨h1, h2, h3⟩ := hw.no (by kernel_rfl) rfl; go_simp)) (fun _ => hS0.out) ?_
        simp only [Act.put, List.setIfInBounds_toArray, List.set_cons_zero, List.set_cons_succ]
        refine wpAnyU_take (i := 7) (oi := { dst := some 65, op := _, type := _, pos := _, after := _, guard := none }) (v := .int .i64 (d : Int)) rfl (by kernel_rfl) (by kernel_rfl) (by kernel_rfl) (by kernel_rfl) (fun _ _ _ h => h) (yields_take rfl (fun w' hw => by obtain ⟨h1, h2, h3⟩ := hw.no (by kernel_rfl) rfl; go_simp)) (fun _ => hS0.out) ?_
        simp only [Act.put, List.setIfInBounds_toArray, List.set_cons_zero, List.set_cons_succ]
        refine wpAnyU_take (i := 8) (oi := { dst := some 66, op := _, type := _, pos := _, after := _, guard := none }) (v := .pointer (some ⟨bG, oG + d, none⟩)) rfl (by kernel_rfl) (by kernel_rfl) (by kernel_rfl) (by kernel_rfl) (fun _ _ _ h => h) (yields_take rfl (fun w' hw => by obtain ⟨h1, h2, h3⟩ := hw.no (by kernel_rfl) rfl; go_simp)) (fun _ => hS0.out) ?_
        simp only [Act.put, List.setIfInBounds_toArray, List.set_cons_zero, List.set_cons_succ]
        refine wpAnyU_take (i := 9) (oi := { dst := some 67, op := _, type := _, pos := _, after := _, guard := none }) (v := .int .i64 (Y : Int)) rfl (by kernel_rfl) (by kernel_rfl) (by kernel_rfl) (by kernel_rfl) (fun _ _ _ h => h) (yields_take rfl (fun w' hw => by obtain ⟨h1, h2, h3⟩ := hw.no (by kernel_rfl) rfl; go_simp)) (fun _ => hS0.out) ?_
        simp only [Act.put, List.setIfInBounds_toArray, List.set_cons_zero, List.set_cons_succ]
        refine wpAnyU_take (i := 10) (oi := { dst := some 68, op := _, type := _, pos := _, after := _, guard := none }) (v := .int .i64 (Z : Int)) rfl (by kernel_rfl) (by kernel_rfl) (by kernel_rfl) (by kernel_rfl) (fun _ _ _ h => h) (yields_take rfl (fun w' hw => by obtain ⟨h1, h2, h3⟩ := hw.no (by kernel_rfl) rfl; go_simp)) (fun _ => hS0.out) ?_
        simp only [Act.put, List.setIfInBounds_toArray, List.set_cons_zero, List.set_cons_succ]
        refine wpAnyU_take (i := 11) (oi := { dst := some 69, op := _, type := _, pos := _, after := _, guard := none }) (v := .pointer (some ⟨gd, d, none⟩)) rfl (by kernel_rfl) (by kernel_rfl) (by kernel_rfl) (by kernel_rfl) (fun _ _ _ h => h) (yields_take rfl (fun w' hw => by obtain ⟨h1, h2, h3⟩ := hw.no (by kernel_rfl) rfl; go_simp)) (fun _ => hS0.out) ?_
        simp only [Act.put, List.setIfInBounds_toArray, List.set_cons_zero, List.set_cons_succ]
        obtain ⟨_, hgx, _⟩ := HF.out _ hvd
        refine wpAnyU_one (i := 12) (by kernel_rfl) rfl ?_
        intro K hK
        go_simp
        refine hK _ _ (fun h => by cases h) (fun _ => ?_)
        clear hK K
        refine wpAnyU_done (by kernel_rfl) ?_ _
        clear hS0
        have HO2 : Hid ((v3.drew.setCell ⟨gd, d, none⟩ (.int .i64 Z)).ownsRow W0.heap.size 3 1 (.slice (some ⟨gd, 0, none⟩) g0.n cd) g0.n ((gjZ gs x.xs d (k + 1)).map (Value.int .i64))) := hide (by
          have h := own_set9 (v := .int .i64 Z) (own_below HOz.out hvd) hl
          rw [← List.map_set, gjZ, List.set_set] at h
          rw [gjZ, HZ2.out]; exact h)
        have HB2 : Hid (Below W0.heap.size W0 (v3.drew.setCell ⟨gd, d, none⟩ (.int .i64 Z))) := hide ((HB3.out.trans (hvd.mono HB3.out.size)).setCell (by dsimp only; exact HGD.out) _)
        clear hgx hfz hvd
        go_wp2
        go_roundw
        case rel => exact ⟨k + 1, by omega, by go_num, HJ2, HO2, HB2⟩
        case measure => simp [intOf]; omega
    · obtain rfl : r = k := by omega
      have h5 : ¬ ((r : Int) < (r : Int)) := by omega
      have hya : gjAll gs x.xs d r = true := gjAll_yes HJ.out
      rw [hya] at HGE
      have HCK := hide (fun v hv => check_any (some ⟨gd, 0, none⟩) g0.n cd (gjZ gs x.xs d r) v (lies_of_own (own_below HOw.out (w' := v) hv)) (by omega))
      obtain ⟨b, hb⟩ : ∃ z : Bool, z = decide (0 < sizeI (gjZ gs x.xs d r)) := ⟨_, rfl⟩
      rw [← hb] at HCK
      have HBD := hide hb
      clear hya hb
      go_wp2_with fail
      refine Calls.mono (HCK.out _ (Below.refl _ _)) ?_
      rintro e v1 ⟨rfl, hb⟩
      have HOz := hide (own_below HOw.out hb)
      have HB2 := hide (below_nx6 HB.out hb)
      clear hb
      cases b with
      | false =>
        have hz : ¬ (0 < sizeI (gjZ gs x.xs d r)) := by simpa using HBD.out.symm
        obtain rfl : E = 10 := by rw [HE.out, HGE.out]; simp [hz]
        have HS9 : Hid (SS = []) := hide (by rw [HGZ.out, ← HE.out, if_neg (by decide)])
        clear hz
        go_wp2
        go_ret2
        exact ⟨none, 0, 0, rfl, by rw [HS9.out]; exact World.ownsRow_nil _ _ _ _, by omega, HB0.out.trans (HB2.out.mono HB0.out.size)⟩
      | true =>
        have hz : 0 < sizeI (gjZ gs x.xs d r) := by simpa using HBD.out.symm
        obtain rfl : E = 0 := by rw [HE.out, HGE.out]; simp [hz]
        have HS9 : Hid (SS = gjZ gs x.xs d r) := hide (by rw [HGZ.out, ← HE.out, if_pos rfl])
        clear hz
        go_wp2
        go_ret2
        exact ⟨some ⟨gd, 0, none⟩, g0.n, cd, rfl, by rw [HS9.out]; exact own_base HOz.out HB0.out.size, by omega, HB0.out.trans (HB2.out.mono HB0.out.size)⟩

end

end Go.Proofs.YtohndckbhjakfaaGreatDoor
