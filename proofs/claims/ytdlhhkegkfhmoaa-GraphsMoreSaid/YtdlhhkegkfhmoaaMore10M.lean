/- GraphsMore: for every graph, node and number the walk of its Go text ends in true. -/
import Derived.Test.YtdlhhkegkfhmoaaAlive10M
import Derived.Test.YtdlhhkegkfhmoaaGp3M
namespace Go.Proofs.Ytdlhhkegkfhmoaa
open Go.RowKit
set_option linter.unusedVariables false
set_option linter.unusedSimpArgs false
set_option maxRecDepth 100000

set_option maxHeartbeats 32000000 in
theorem more10_any (A : Option Addr) (n c : Nat) (ns : List Nd) (a b : Int) (w : World) (h : NsIn w A n ns) (hc : n ≤ c) (hnil : A = none → c = 0) (hn : n ≤ 70368744177664) (ha : 0 ≤ a ∧ a < 256) (hb9 : -9223372036854775808 ≤ b ∧ b < 9223372036854775808) :
    Calls Try.prog 4 #[.agg #[.slice A n c], .int .u8 a, .int .i64 b] w fun e w' => e = .returned (.bool true) ∧ Below w.heap.size w w' := by
  obtain ⟨W0, hW0⟩ : ∃ W0, W0 = w.alloc (.cells #[.slice A n c] 24) := ⟨_, rfl⟩
  have HB0 : Hid (Below w.heap.size w W0) := hide (by rw [hW0]; exact below_al6 (Below.refl _ _))
  have HX : Hid (BoxG W0 w.heap.size (.slice A n c)) := hide (by rw [hW0]; exact BoxG.new w _)
  have HN := hide (h.below HB0.out)
  have HL : Hid (ns.length = n) := hide h.1
  have hW0' := hW0.symm
  clear hW0 h
  go_enter Try.func4, Try.ntmps4
  go_wp2_with fail
  refine Calls.mono (alive10_any _) ?_
  rintro e w1 ⟨rfl, hb⟩
  have HBN := hide hb
  clear hb
  have c0 := (HX.out.kept HBN.out).c0
  go_wp2_with fail
  refine Calls.mono (graph_size A n c ns _ (HN.out.below HBN.out) hn) ?_
  rintro e w2 ⟨r, rfl, hr0, hr1, hb⟩
  replace HBN := hide (below_nx6 HBN.out hb)
  clear hb c0
  by_cases hbig : 20000 < r
  · go_wp2_with fail
    refine Calls.mono (alive10_any _) ?_
    rintro e w3 ⟨rfl, hb⟩
    replace HBN := hide (below_nx6 HBN.out hb)
    clear hb
    go_wp2
    go_ret
    exact ⟨rfl, below_nx6 HB0.out HBN.out⟩
  have hsz := hr1 (by omega)
  have HSZ := hide hsz
  have hn2 : n ≤ 10000 := by have h1 := szN_len ns; rw [HL.out] at h1; omega
  clear hr1 hsz hr0
  have c0 := (HX.out.kept HBN.out).c0
  have HNIL := hide hnil
  have HB9 := hide hb9
  clear hnil hb9
  have HCK := hide (gcheck_any A n c ns _ (HN.out.below HBN.out) (by omega) hc)
  go_wp2_with fail
  refine Calls.mono HCK.out ?_
  rintro e w3 ⟨he, hb⟩
  replace HBN := hide (below_nx6 HBN.out hb)
  clear hb c0 HCK
  cases hG : gphB ns with
  | false =>
    rw [hG] at he
    subst he
    clear hG
    go_wp2_with fail
    refine Calls.mono (alive10_any _) ?_
    rintro e w4 ⟨rfl, hb⟩
    have HB4 := hide (below_nx6 HBN.out hb)
    clear hb
    go_wp2
    go_ret
    exact ⟨rfl, below_nx6 HB0.out HB4.out⟩
  | true =>
  rw [hG] at he
  subst he
  have HGB := hide hG
  have HEN := hide (endsOk_parts (gphB_parts HGB.out).1)
  have hn32 : n ≤ 32 := by have h := HEN.out.1; rw [HL.out] at h; exact h
  have hn1 : 1 ≤ n := by have h1 := HEN.out.2.1; have h2 := inIx_ge ns; rw [HL.out] at h2; omega
  obtain ⟨Z, rfl⟩ := Int.eq_ofNat_of_zero_le ha.1
  obtain ⟨t, ht⟩ : ∃ z, z = Z % n := ⟨_, rfl⟩
  have r1 : Int.tmod (Z : Int) (n : Int) = (t : Int) := by rw [ht]; rfl
  have htn : t < n := by rw [ht]; exact Nat.mod_lt _ (by omega)
  have r2 : ¬ (n : Int) = 0 := by omega
  have r2' : ¬ n = 0 := by omega
  have r3 : IntKind.i64.wrap (t : Int) = (t : Int) := by rw [IntKind.wrap_i64]; omega
  have rz : IntKind.i64.wrap (Z : Int) = (Z : Int) := by rw [IntKind.wrap_i64]; omega
  have HGL : Hid ((gphS ns).length = n) := hide (by rw [gphS_len HGB.out, HL.out])
  clear ht hG
  have c0 := (HX.out.kept HBN.out).c0
  have hlt : Below w3.heap.size w3 (w3.alloc (.cells #[.int .i64 (t : Int)] 3)) := below_al6 (Below.refl _ _)
  have HLT := hide hlt
  have HWC := hide (with_any A n c ns ⟨5, some ⟨w3.heap.size, 0, none⟩, 1, 1, none, 0, 0, 0, 0, [(t : Int)], []⟩ _ (HN.out.below (below_nx6 HBN.out hlt)) HNIL.out ⟨lit_lies w3 .i64 [(t : Int)] 3, Lies.nothing, Nat.le_refl _, Nat.le_refl _, by dsimp only; omega, by dsimp only; omega, by dsimp only; omega, by dsimp only; have := HB9.out; omega, by dsimp only; omega⟩ (by omega))
  unfold Nd.v at HWC
  clear hlt
  go_wp2_with fail
  refine Calls.mono HWC.out ?_
  rintro e w4 ⟨AR, cR, rfl, hnw, hcw, hnl, hb⟩
  have hz : Below w3.heap.size w3 w4 := below_nx6 HLT.out hb
  obtain ⟨V4, hV4⟩ : ∃ V, V = w4.alloc (.cells #[.slice AR (n + 1) cR] 24) := ⟨_, rfl⟩
  have hbv : Below w4.heap.size w4 V4 := by rw [hV4]; exact below_al6 (Below.refl _ _)
  have HXR : Hid (BoxG V4 w4.heap.size (.slice AR (n + 1) cR)) := hide (by rw [hV4]; exact BoxG.new w4 _)
  have HNR := hide (hnw.below hbv)
  have HCR := hide hcw
  have hV4' := hV4.symm
  replace hz := below_nx6 hz hbv
  replace HBN := hide (below_nx6 HBN.out hz)
  clear hV4 hbv hz hb hnw hcw hnl HLT HWC c0
  have c0 := (HX.out.kept HBN.out).c0
  have hlt : Below V4.heap.size V4 (V4.alloc (.cells #[.int .i64 (t : Int)] 3)) := below_al6 (Below.refl _ _)
  have HLT := hide hlt
  have HWC := hide (with_any A n c ns ⟨6, some ⟨V4.heap.size, 0, none⟩, 1, 1, none, 0, 0, b, 0, [(t : Int)], []⟩ _ (HN.out.below (below_nx6 HBN.out hlt)) HNIL.out ⟨lit_lies V4 .i64 [(t : Int)] 3, Lies.nothing, Nat.le_refl _, Nat.le_refl _, by dsimp only; omega, by dsimp only; omega, by dsimp only; omega, by dsimp only; have := HB9.out; omega, by dsimp only; omega⟩ (by omega))
  unfold Nd.v at HWC
  clear hlt
  go_wp2_with fail
  refine Calls.mono HWC.out ?_
  rintro e w5 ⟨AS, cS, rfl, hnw, hcw, hnl, hb⟩
  have hz : Below V4.heap.size V4 w5 := below_nx6 HLT.out hb
  obtain ⟨V5, hV5⟩ : ∃ V, V = w5.alloc (.cells #[.slice AS (n + 1) cS] 24) := ⟨_, rfl⟩
  have hbv : Below w5.heap.size w5 V5 := by rw [hV5]; exact below_al6 (Below.refl _ _)
  have HXS : Hid (BoxG V5 w5.heap.size (.slice AS (n + 1) cS)) := hide (by rw [hV5]; exact BoxG.new w5 _)
  have HNS := hide (hnw.below hbv)
  have HCS := hide hcw
  have hV5' := hV5.symm
  replace hz := below_nx6 hz hbv
  replace HBN := hide (below_nx6 HBN.out hz)
  replace HXR := hide (HXR.out.kept hz)
  replace HNR := hide (HNR.out.below hz)
  clear hV5 hbv hz hb hnw hcw hnl HLT HWC c0
  have c0 := (HX.out.kept HBN.out).c0
  have HS1 := hide (gshapes_any A n c ns V5 (HN.out.below HBN.out) (by omega) hc)
  rw [gphE_zero.2 HGB.out] at HS1
  go_wp2_with fail
  refine Calls.mono HS1.out ?_
  rintro e w6 ⟨R, m, kc, gs, rfl, hgd, hgs, hb⟩
  have hz : Below V5.heap.size V5 w6 := hb
  have hmn : m = n := by have h := congrArg List.length hgs; rw [List.length_map, hgd.1, HGL.out] at h; exact h
  subst hmn
  have HSG := hide hgd.sg
  have HGS := hide hgs
  replace HBN := hide (below_nx6 HBN.out hz)
  replace HXR := hide (HXR.out.kept hz)
  replace HNR := hide (HNR.out.below hz)
  replace HXS := hide (HXS.out.kept hz)
  replace HNS := hide (HNS.out.below hz)
  clear hz hb hgd hgs HS1 c0
  have c1 := HXR.out.c0
  have HS2 := hide (gshapes_any AR (m + 1) cR _ w6 HNR.out (by omega) HCR.out)
  have HFR : Hid (gphB (ns ++ [⟨5, some ⟨w3.heap.size, 0, none⟩, 1, 1, none, 0, 0, 0, 0, [(t : Int)], []⟩]) = decide (m < 32)) := hide (by
    rw [gph_snoc HGB.out, fit_relu, HGL.out, HL.out, decide_eq_true (show (0 : Int) ≤ (t : Int) ∧ (t : Int) < (m : Int) by omega)]
    simp)
  have HFS : Hid (gphB (ns ++ [⟨6, some ⟨V4.heap.size, 0, none⟩, 1, 1, none, 0, 0, b, 0, [(t : Int)], []⟩]) = (decide (m < 32) && decide (0 ≤ b ∧ b ≤ 31))) := hide (by
    rw [gph_snoc HGB.out, fit_shift, HGL.out, HL.out, decide_eq_true (show (0 : Int) ≤ (t : Int) ∧ (t : Int) < (m : Int) by omega)]
    simp)
  obtain ⟨E2, hE2⟩ : ∃ z, z = gphE (ns ++ [⟨5, some ⟨w3.heap.size, 0, none⟩, 1, 1, none, 0, 0, 0, 0, [(t : Int)], []⟩]) := ⟨_, rfl⟩
  rw [← hE2] at HS2
  have HE2 := hide hE2
  clear hE2
  go_wp2_with fail
  refine Calls.mono HS2.out ?_
  rintro e w7 ⟨R2, m2, kc2, gs2, rfl, hgd, hgs, hb⟩
  have hz : Below w6.heap.size w6 w7 := hb
  have HSG2 := hide hgd.sg
  have HGS2 := hide hgs
  have HM2 : Hid (m2 = (gphS (ns ++ [⟨5, some ⟨w3.heap.size, 0, none⟩, 1, 1, none, 0, 0, 0, 0, [(t : Int)], []⟩])).length) := hide (by rw [← hgs, List.length_map, hgd.1])
  replace HBN := hide (below_nx6 HBN.out hz)
  replace HXR := hide (HXR.out.kept hz)
  replace HNR := hide (HNR.out.below hz)
  replace HXS := hide (HXS.out.kept hz)
  replace HNS := hide (HNS.out.below hz)
  replace HSG := hide (HSG.out.below hz)
  clear hz hb hgd hgs HS2 c1
  have c0 := (HX.out.kept HBN.out).c0
  have c1 := HXS.out.c0
  by_cases h32 : m < 32
  · have hG2 : gphB (ns ++ [⟨5, some ⟨w3.heap.size, 0, none⟩, 1, 1, none, 0, 0, 0, 0, [(t : Int)], []⟩]) = true := by rw [HFR.out]; exact decide_eq_true h32
    have HG2 := hide hG2
    have hE0 : E2 = 0 := by rw [HE2.out]; exact gphE_zero.2 hG2
    subst hE0
    obtain ⟨n1, hn1'⟩ : ∃ z, z = m + 1 := ⟨_, rfl⟩
    have hm2 : m2 = n1 := by rw [HM2.out, gphS_len hG2, List.length_append, HL.out, hn1']; rfl
    subst hm2
    have rn : IntKind.i64.wrap ((m : Int) + 1) = (m2 : Int) := by rw [IntKind.wrap_i64]; omega
    have q32 : (m : Int) < 32 := by omega
    have HN1 := hide hn1'
    have hlt1 : m < m2 := by omega
    obtain ⟨n1, hn1''⟩ : ∃ z, z = m2 := ⟨_, rfl⟩
    subst hn1''
    clear hG2 hn1'
    by_cases hb0 : 0 ≤ b
    · by_cases hb31 : b ≤ 31
      · have q31 : b ≤ 31 := hb31
        have HCK := hide (gcheck_any AS (m + 1) cS _ w7 HNS.out (by omega) HCS.out)
        rw [HFS.out, decide_eq_true h32, decide_eq_true (show 0 ≤ b ∧ b ≤ 31 from ⟨hb0, hb31⟩)] at HCK
        go_wp2_with fail
        refine Calls.mono HCK.out ?_
        rintro e w8 ⟨rfl, hb⟩
        have hz : Below w7.heap.size w7 w8 := hb
        replace HBN := hide (below_nx6 HBN.out hz)
        replace HXR := hide (HXR.out.kept hz)
        replace HNR := hide (HNR.out.below hz)
        replace HXS := hide (HXS.out.kept hz)
        replace HNS := hide (HNS.out.below hz)
        replace HSG := hide (HSG.out.below hz)
        replace HSG2 := hide (HSG2.out.below hz)
        clear hz hb HCK c0 c1
        have c0 := (HX.out.kept HBN.out).c0
        have c1 := HXS.out.c0
        obtain ⟨bT, oT, g2, rfl, hg2, hcg2, hlg2, hgn2, hgo2⟩ := HSG2.out.at (show m < n1 by omega)
        obtain ⟨bS, oS, g, rfl, hg, hcg, hlg, hgn, hgo⟩ := HSG.out.at (show t < m by omega)
        have HEQ : Hid (g2.s = g.s) := hide (by
          have h1 : (gs2.map Sg.s)[m]? = some g2.s := by rw [List.getElem?_map, hg2]; rfl
          have h2 : (gs.map Sg.s)[t]? = some g.s := by rw [List.getElem?_map, hg]; rfl
          rw [HGS2.out, gphS_snoc HGB.out HG2.out, List.getElem?_append_right (by rw [HGL.out]; exact Nat.le_refl _), HGL.out, Nat.sub_self, sh_relu] at h1
          rw [HGS.out] at h2
          have h3 : (gphS ns).getD t [] = g2.s := by simpa using h1
          rw [List.getD_eq_getElem?_getD, h2] at h3
          exact h3.symm)
        have HCG : Hid (∀ v, Below w8.heap.size w8 v → v.cell? ⟨bT, oT + m, none⟩ = some (.slice g2.A g2.n g2.c) ∧ v.cell? ⟨bS, oS + t, none⟩ = some (.slice g.A g.n g.c)) := hide (fun v hv => ⟨(hv.cell (World.block_lt_of_cell? w8 _ hcg2)).trans hcg2, (hv.cell (World.block_lt_of_cell? w8 _ hcg)).trans hcg⟩)
        have HLG2 := hide hlg2
        have HLG := hide hlg
        have j00 : (0 : Int) ≤ (t : Int) := by omega
        have j10 : (t : Int) < (m : Int) := by omega
        have j20 : (0 : Int) ≤ (m : Int) := by omega
        have j21 : (m : Int) < (n1 : Int) := by omega
        have hd0 : Below w8.heap.size w8 w8.drew := below_drewN (Below.refl _ _) 1
        clear hg2 hg hcg2 hcg hlg2 hlg
        go_wp2
        have hS0 : Hid (w8.drew.cell? ⟨bT, oT + m, none⟩ = some (.slice g2.A g2.n g2.c) ∧ w8.drew.cell? ⟨bS, oS + t, none⟩ = some (.slice g.A g.n g.c)) := hide (HCG.out _ hd0)
        refine wp_region_U (fun _ v => v.cell? ⟨bT, oT + m, none⟩ = some (.slice g2.A g2.n g2.c) ∧ v.cell? ⟨bS, oS + t, none⟩ = some (.slice g.A g.n g.c)) 99 (by kernel_rfl) ?_
        refine wpAnyU_take (i := 0) (oi := { dst := some 80, op := _, type := _, pos := _, after := _, guard := none }) (v := .int .i64 0) rfl (by kernel_rfl) (by kernel_rfl) (by kernel_rfl) (by kernel_rfl) (fun _ _ _ h => h) (yields_take rfl (fun w' hw => by obtain ⟨h1, h2⟩ := hw.const; go_simp)) hS0.out ?_
        simp only [Act.put, List.setIfInBounds_toArray, List.set_cons_zero, List.set_cons_succ]
        refine wpAnyU_take (i := 1) (oi := { dst := some 81, op := _, type := _, pos := _, after := _, guard := none }) (v := .bool true) rfl (by kernel_rfl) (by kernel_rfl) (by kernel_rfl) (by kernel_rfl) (fun _ _ _ h => h) (yields_take rfl (fun w' hw => by obtain ⟨h1, h2⟩ := hw.const; go_simp)) hS0.out ?_
        simp only [Act.put, List.setIfInBounds_toArray, List.set_cons_zero, List.set_cons_succ]
        refine wpAnyU_take (i := 2) (oi := { dst := some 82, op := _, type := _, pos := _, after := _, guard := none }) (v := .bool true) rfl (by kernel_rfl) (by kernel_rfl) (by kernel_rfl) (by kernel_rfl) (fun _ _ _ h => h) (yields_take rfl (fun w' hw => by obtain ⟨h1, h2⟩ := hw.const; go_simp)) hS0.out ?_
        simp only [Act.put, List.setIfInBounds_toArray, List.set_cons_zero, List.set_cons_succ]
        refine wpAnyU_take (i := 3) (oi := { dst := some 83, op := _, type := _, pos := _, after := _, guard := some (2, true) }) (v := .slice (some ⟨bT, oT, none⟩) n1 kc2) rfl (by kernel_rfl) (by kernel_rfl) (by kernel_rfl) (by kernel_rfl) (fun _ _ _ h => h) (yields_take rfl (fun w' hw => by obtain ⟨h1, h2⟩ := hw.const; go_simp)) hS0.out ?_
        simp only [Act.put, List.setIfInBounds_toArray, List.set_cons_zero, List.set_cons_succ]
        refine wpAnyU_take (i := 4) (oi := { dst := some 84, op := _, type := _, pos := _, after := _, guard := some (2, true) }) (v := .int .i64 (n1 : Int)) rfl (by kernel_rfl) (by kernel_rfl) (by kernel_rfl) (by kernel_rfl) (fun _ _ _ h => h) (yields_take rfl (fun w' hw => by obtain ⟨h1, h2⟩ := hw.const; go_simp)) hS0.out ?_
        simp only [Act.put, List.setIfInBounds_toArray, List.set_cons_zero, List.set_cons_succ]
        refine wpAnyU_take (i := 5) (oi := { dst := some 85, op := _, type := _, pos := _, after := _, guard := some (2, true) }) (v := .int .i64 (m : Int)) rfl (by kernel_rfl) (by kernel_rfl) (by kernel_rfl) (by kernel_rfl) (fun _ _ _ h => h) (yields_take rfl (fun w' hw => by obtain ⟨h1, h2⟩ := hw.const; go_simp)) hS0.out ?_
        simp only [Act.put, List.setIfInBounds_toArray, List.set_cons_zero, List.set_cons_succ]
        refine wpAnyU_take (i := 6) (oi := { dst := some 86, op := _, type := _, pos := _, after := _, guard := some (2, true) }) (v := .int .i64 (n1 : Int)) rfl (by kernel_rfl) (by kernel_rfl) (by kernel_rfl) (by kernel_rfl) (fun _ _ _ h => h) (yields_take rfl (fun w' hw => by obtain ⟨h1, h2⟩ := hw.const; go_simp)) hS0.out ?_
        simp only [Act.put, List.setIfInBounds_toArray, List.set_cons_zero, List.set_cons_succ]
        refine wpAnyU_take (i := 7) (oi := { dst := some 87, op := _, type := _, pos := _, after := _, guard := some (2, true) }) (v := .bool false) rfl (by kernel_rfl) (by kernel_rfl) (by kernel_rfl) (by kernel_rfl) (fun _ _ _ h => h) (yields_take rfl (fun w' hw => by obtain ⟨h1, h2⟩ := hw.const; go_simp)) hS0.out ?_
        simp only [Act.put, List.setIfInBounds_toArray, List.set_cons_zero, List.set_cons_succ]
        refine wpAnyU_take (i := 8) (oi := { dst := some 88, op := _, type := _, pos := _, after := _, guard := some (2, true) }) (v := .bool false) rfl (by kernel_rfl) (by kernel_rfl) (by kernel_rfl) (by kernel_rfl) (fun _ _ _ h => h) (yields_take rfl (fun w' hw => by obtain ⟨h1, h2⟩ := hw.const; go_simp)) hS0.out ?_
        simp only [Act.put, List.setIfInBounds_toArray, List.set_cons_zero, List.set_cons_succ]
        refine wpAnyU_take (i := 9) (oi := { dst := some 89, op := _, type := _, pos := _, after := _, guard := some (8, false) }) (v := .slice (some ⟨bT, oT, none⟩) n1 kc2) rfl (by kernel_rfl) (by kernel_rfl) (by kernel_rfl) (by kernel_rfl) (fun _ _ _ h => h) (yields_take rfl (fun w' hw => by obtain ⟨h1, h2⟩ := hw.const; go_simp)) hS0.out ?_
        simp only [Act.put, List.setIfInBounds_toArray, List.set_cons_zero, List.set_cons_succ]
        refine wpAnyU_take (i := 10) (oi := { dst := some 90, op := _, type := _, pos := _, after := _, guard := some (8, false) }) (v := .int .i64 (m : Int)) rfl (by kernel_rfl) (by kernel_rfl) (by kernel_rfl) (by kernel_rfl) (fun _ _ _ h => h) (yields_take rfl (fun w' hw => by obtain ⟨h1, h2⟩ := hw.const; go_simp)) hS0.out ?_
        simp only [Act.put, List.setIfInBounds_toArray, List.set_cons_zero, List.set_cons_succ]
        refine wpAnyU_take (i := 11) (oi := { dst := some 91, op := _, type := _, pos := _, after := _, guard := some (8, false) }) (v := .pointer (some ⟨bT, oT + m, none⟩)) rfl (by kernel_rfl) (by kernel_rfl) (by kernel_rfl) (by kernel_rfl) (fun _ _ _ h => h) (yields_take rfl (fun w' hw => by obtain ⟨h1, h2⟩ := hw.const; go_simp)) hS0.out ?_
        simp only [Act.put, List.setIfInBounds_toArray, List.set_cons_zero, List.set_cons_succ]
        refine wpAnyU_take (i := 12) (oi := { dst := some 92, op := _, type := _, pos := _, after := _, guard := some (8, false) }) (v := .slice g2.A g2.n g2.c) rfl (by kernel_rfl) (by kernel_rfl) (by kernel_rfl) (by kernel_rfl) (fun _ _ _ h => h) (yields_take rfl (fun w' hw => by obtain ⟨h1, h2⟩ := hw.const; go_simp)) hS0.out ?_
        simp only [Act.put, List.setIfInBounds_toArray, List.set_cons_zero, List.set_cons_succ]
        refine wpAnyU_take (i := 13) (oi := { dst := some 93, op := _, type := _, pos := _, after := _, guard := some (8, false) }) (v := .slice (some ⟨bS, oS, none⟩) m kc) rfl (by kernel_rfl) (by kernel_rfl) (by kernel_rfl) (by kernel_rfl) (fun _ _ _ h => h) (yields_take rfl (fun w' hw => by obtain ⟨h1, h2⟩ := hw.const; go_simp)) hS0.out ?_
        simp only [Act.put, List.setIfInBounds_toArray, List.set_cons_zero, List.set_cons_succ]
        refine wpAnyU_take (i := 14) (oi := { dst := some 94, op := _, type := _, pos := _, after := _, guard := some (8, false) }) (v := .int .i64 (t : Int)) rfl (by kernel_rfl) (by kernel_rfl) (by kernel_rfl) (by kernel_rfl) (fun _ _ _ h => h) (yields_take rfl (fun w' hw => by obtain ⟨h1, h2⟩ := hw.const; go_simp)) hS0.out ?_
        simp only [Act.put, List.setIfInBounds_toArray, List.set_cons_zero, List.set_cons_succ]
        refine wpAnyU_take (i := 15) (oi := { dst := some 95, op := _, type := _, pos := _, after := _, guard := some (8, false) }) (v := .pointer (some ⟨bS, oS + t, none⟩)) rfl (by kernel_rfl) (by kernel_rfl) (by kernel_rfl) (by kernel_rfl) (fun _ _ _ h => h) (yields_take rfl (fun w' hw => by obtain ⟨h1, h2⟩ := hw.const; go_simp)) hS0.out ?_
        simp only [Act.put, List.setIfInBounds_toArray, List.set_cons_zero, List.set_cons_succ]
        refine wpAnyU_take (i := 16) (oi := { dst := some 96, op := _, type := _, pos := _, after := _, guard := some (8, false) }) (v := .slice g.A g.n g.c) rfl (by kernel_rfl) (by kernel_rfl) (by kernel_rfl) (by kernel_rfl) (fun _ _ _ h => h) (yields_take rfl (fun w' hw => by obtain ⟨h1, h2⟩ := hw.const; go_simp)) hS0.out ?_
        simp only [Act.put, List.setIfInBounds_toArray, List.set_cons_zero, List.set_cons_succ]
        refine wpAnyU_one (i := 17) (by kernel_rfl) rfl ?_
        intro K hK
        go_simp
        refine Calls.mono (sameI_any g2.A g.A g2.n g2.c g.n g.c g2.s g.s _ (HLG2.out.below hd0) (HLG.out.below hd0) (by omega)) ?_
        rintro e w9 ⟨he, hb⟩
        (try dsimp only)
        rw [decide_eq_true HEQ.out] at he
        subst he
        have hd1 : Below w8.heap.size w8 w9 := below_nx6 hd0 hb
        clear hb
        (try dsimp only)
        have hS1 : Hid (w9.cell? ⟨bT, oT + m, none⟩ = some (.slice g2.A g2.n g2.c) ∧ w9.cell? ⟨bS, oS + t, none⟩ = some (.slice g.A g.n g.c)) := hide (HCG.out _ hd1)
        refine hK.out _ _ hS1.out (fun _ => ?_)
        clear hK K hS0
        refine wpAnyU_take (i := 18) (oi := { dst := some 98, op := _, type := _, pos := _, after := _, guard := some (8, false) }) (v := .bool false) rfl (by kernel_rfl) (by kernel_rfl) (by kernel_rfl) (by kernel_rfl) (fun _ _ _ h => h) (yields_take rfl (fun w' hw => by obtain ⟨h1, h2⟩ := hw.const; go_simp)) hS1.out ?_
        simp only [Act.put, List.setIfInBounds_toArray, List.set_cons_zero, List.set_cons_succ]
        refine wpAnyU_take (i := 19) (oi := { dst := some 99, op := _, type := _, pos := _, after := _, guard := some (2, true) }) (v := .bool false) rfl (by kernel_rfl) (by kernel_rfl) (by kernel_rfl) (by kernel_rfl) (fun _ _ _ h => h) (yields_take rfl (fun w' hw => by obtain ⟨h1, h2⟩ := hw.const; go_simp)) hS1.out ?_
        simp only [Act.put, List.setIfInBounds_toArray, List.set_cons_zero, List.set_cons_succ]
        refine wpAnyU_take (i := 20) (oi := { dst := some 100, op := _, type := _, pos := _, after := _, guard := none }) (v := .bool false) rfl (by kernel_rfl) (by kernel_rfl) (by kernel_rfl) (by kernel_rfl) (fun _ _ _ h => h) (yields_take rfl (fun w' hw => by obtain ⟨h1, h2⟩ := hw.const; go_simp)) hS1.out ?_
        simp only [Act.put, List.setIfInBounds_toArray, List.set_cons_zero, List.set_cons_succ]
        refine wpAnyU_done (by kernel_rfl) ?_ _
        clear hS1
        have hz : Below w8.heap.size w8 w9 := hd1
        replace HBN := hide (below_nx6 HBN.out hz)
        replace HXR := hide (HXR.out.kept hz)
        replace HNR := hide (HNR.out.below hz)
        replace HXS := hide (HXS.out.kept hz)
        replace HNS := hide (HNS.out.below hz)
        replace HSG := hide (HSG.out.below hz)
        replace HSG2 := hide (HSG2.out.below hz)
        clear hz hd1 hd0 HCG HLG2 HLG HEQ j00 j10 j20 j21 c0 c1 HSG HSG2
        have c0 := (HX.out.kept HBN.out).c0
        have hlt : Below w9.heap.size w9 (w9.alloc (.cells #[.int .i64 (m : Int)] 3)) := below_al6 (Below.refl _ _)
        have HLT := hide hlt
        have HWC := hide (with_any A m c ns ⟨5, some ⟨w9.heap.size, 0, none⟩, 1, 1, none, 0, 0, 0, 0, [(m : Int)], []⟩ _ (HN.out.below (below_nx6 HBN.out hlt)) HNIL.out ⟨lit_lies w9 .i64 [(m : Int)] 3, Lies.nothing, Nat.le_refl _, Nat.le_refl _, by dsimp only; omega, by dsimp only; omega, by dsimp only; omega, by dsimp only; have := HB9.out; omega, by dsimp only; omega⟩ (by omega))
        unfold Nd.v at HWC
        clear hlt
        go_wp2_with fail
        refine Calls.mono HWC.out ?_
        rintro e x1 ⟨A1, c1, rfl, hnw, hcw, hnl, hb⟩
        have hz : Below w9.heap.size w9 x1 := below_nx6 HLT.out hb
        have HCK := hide (gcheck_any A1 (m + 1) c1 _ x1 hnw (by omega) hcw)
        rw [(by rw [gph_snoc HGB.out, fit_relu, HGL.out, decide_eq_false (show ¬ ((0 : Int) ≤ (m : Int) ∧ (m : Int) < (m : Int)) by omega)]; simp : gphB (ns ++ [⟨5, some ⟨w9.heap.size, 0, none⟩, 1, 1, none, 0, 0, 0, 0, [(m : Int)], []⟩]) = false)] at HCK
        replace HBN := hide (below_nx6 HBN.out hz)
        replace HXR := hide (HXR.out.kept hz)
        replace HNR := hide (HNR.out.below hz)
        replace HXS := hide (HXS.out.kept hz)
        replace HNS := hide (HNS.out.below hz)
        clear hz hb hnw hcw hnl HLT HWC
        go_wp2_with fail
        refine Calls.mono HCK.out ?_
        rintro e x2 ⟨rfl, hb⟩
        have hz : Below x1.heap.size x1 x2 := hb
        replace HBN := hide (below_nx6 HBN.out hz)
        replace HXR := hide (HXR.out.kept hz)
        replace HNR := hide (HNR.out.below hz)
        replace HXS := hide (HXS.out.kept hz)
        replace HNS := hide (HNS.out.below hz)
        clear hz hb HCK c0
        have c0 := (HX.out.kept HBN.out).c0
        have hlt : Below x2.heap.size x2 (x2.alloc (.cells #[.int .i64 (-1)] 3)) := below_al6 (Below.refl _ _)
        have HLT := hide hlt
        have HWC := hide (with_any A m c ns ⟨5, some ⟨x2.heap.size, 0, none⟩, 1, 1, none, 0, 0, 0, 0, [(-1)], []⟩ _ (HN.out.below (below_nx6 HBN.out hlt)) HNIL.out ⟨lit_lies x2 .i64 [(-1)] 3, Lies.nothing, Nat.le_refl _, Nat.le_refl _, by dsimp only; omega, by dsimp only; omega, by dsimp only; omega, by dsimp only; have := HB9.out; omega, by dsimp only; omega⟩ (by omega))
        unfold Nd.v at HWC
        clear hlt
        go_wp2_with fail
        refine Calls.mono HWC.out ?_
        rintro e x3 ⟨A2, c2, rfl, hnw, hcw, hnl, hb⟩
        have hz : Below x2.heap.size x2 x3 := below_nx6 HLT.out hb
        have HCK := hide (gcheck_any A2 (m + 1) c2 _ x3 hnw (by omega) hcw)
        rw [(by rw [gph_snoc HGB.out, fit_relu, decide_eq_false (show ¬ ((0 : Int) ≤ -1 ∧ (-1 : Int) < ((gphS ns).length : Int)) by omega)]; simp : gphB (ns ++ [⟨5, some ⟨x2.heap.size, 0, none⟩, 1, 1, none, 0, 0, 0, 0, [(-1)], []⟩]) = false)] at HCK
        replace HBN := hide (below_nx6 HBN.out hz)
        replace HXR := hide (HXR.out.kept hz)
        replace HNR := hide (HNR.out.below hz)
        replace HXS := hide (HXS.out.kept hz)
        replace HNS := hide (HNS.out.below hz)
        clear hz hb hnw hcw hnl HLT HWC
        go_wp2_with fail
        refine Calls.mono HCK.out ?_
        rintro e x4 ⟨rfl, hb⟩
        have hz : Below x3.heap.size x3 x4 := hb
        replace HBN := hide (below_nx6 HBN.out hz)
        replace HXR := hide (HXR.out.kept hz)
        replace HNR := hide (HNR.out.below hz)
        replace HXS := hide (HXS.out.kept hz)
        replace HNS := hide (HNS.out.below hz)
        clear hz hb HCK c0
        have c0 := (HX.out.kept HBN.out).c0
        have hlt : Below x4.heap.size x4 (x4.alloc (.cells #[.int .i64 (t : Int)] 3)) := below_al6 (Below.refl _ _)
        have HLT := hide hlt
        have HWC := hide (with_any A m c ns ⟨5, some ⟨x4.heap.size, 0, none⟩, 1, 1, none, 0, 0, 1, 0, [(t : Int)], []⟩ _ (HN.out.below (below_nx6 HBN.out hlt)) HNIL.out ⟨lit_lies x4 .i64 [(t : Int)] 3, Lies.nothing, Nat.le_refl _, Nat.le_refl _, by dsimp only; omega, by dsimp only; omega, by dsimp only; omega, by dsimp only; have := HB9.out; omega, by dsimp only; omega⟩ (by omega))
        unfold Nd.v at HWC
        clear hlt
        go_wp2_with fail
        refine Calls.mono HWC.out ?_
        rintro e x5 ⟨A3, c3, rfl, hnw, hcw, hnl, hb⟩
        have hz : Below x4.heap.size x4 x5 := below_nx6 HLT.out hb
        have HCK := hide (gcheck_any A3 (m + 1) c3 _ x5 hnw (by omega) hcw)
        rw [(by rw [gph_snoc HGB.out, fit_relu, decide_eq_false (show ¬ (1 : Int) = 0 by omega)]; simp : gphB (ns ++ [⟨5, some ⟨x4.heap.size, 0, none⟩, 1, 1, none, 0, 0, 1, 0, [(t : Int)], []⟩]) = false)] at HCK
        replace HBN := hide (below_nx6 HBN.out hz)
        replace HXR := hide (HXR.out.kept hz)
        replace HNR := hide (HNR.out.below hz)
        replace HXS := hide (HXS.out.kept hz)
        replace HNS := hide (HNS.out.below hz)
        clear hz hb hnw hcw hnl HLT HWC
        go_wp2_with fail
        refine Calls.mono HCK.out ?_
        rintro e x6 ⟨rfl, hb⟩
        have hz : Below x5.heap.size x5 x6 := hb
        replace HBN := hide (below_nx6 HBN.out hz)
        replace HXR := hide (HXR.out.kept hz)
        replace HNR := hide (HNR.out.below hz)
        replace HXS := hide (HXS.out.kept hz)
        replace HNS := hide (HNS.out.below hz)
        clear hz hb HCK c0
        have c0 := (HX.out.kept HBN.out).c0
        have hlt : Below x6.heap.size x6 (x6.alloc (.cells #[.int .i64 (t : Int), .int .i64 (t : Int)] 3)) := below_al6 (Below.refl _ _)
        have HLT := hide hlt
        have HWC := hide (with_any A m c ns ⟨5, some ⟨x6.heap.size, 0, none⟩, 2, 2, none, 0, 0, 0, 0, [(t : Int), (t : Int)], []⟩ _ (HN.out.below (below_nx6 HBN.out hlt)) HNIL.out ⟨lit_lies x6 .i64 [(t : Int), (t : Int)] 3, Lies.nothing, Nat.le_refl _, Nat.le_refl _, by dsimp only; omega, by dsimp only; omega, by dsimp only; omega, by dsimp only; have := HB9.out; omega, by dsimp only; omega⟩ (by omega))
        unfold Nd.v at HWC
        clear hlt
        go_wp2_with fail
        refine Calls.mono HWC.out ?_
        rintro e x7 ⟨A4, c4, rfl, hnw, hcw, hnl, hb⟩
        have hz : Below x6.heap.size x6 x7 := below_nx6 HLT.out hb
        have HCK := hide (gcheck_any A4 (m + 1) c4 _ x7 hnw (by omega) hcw)
        rw [(by rw [gph_snoc HGB.out, fit_relu2]; simp : gphB (ns ++ [⟨5, some ⟨x6.heap.size, 0, none⟩, 2, 2, none, 0, 0, 0, 0, [(t : Int), (t : Int)], []⟩]) = false)] at HCK
        replace HBN := hide (below_nx6 HBN.out hz)
        replace HXR := hide (HXR.out.kept hz)
        replace HNR := hide (HNR.out.below hz)
        replace HXS := hide (HXS.out.kept hz)
        replace HNS := hide (HNS.out.below hz)
        clear hz hb hnw hcw hnl HLT HWC
        go_wp2_with fail
        refine Calls.mono HCK.out ?_
        rintro e x8 ⟨rfl, hb⟩
        have hz : Below x7.heap.size x7 x8 := hb
        replace HBN := hide (below_nx6 HBN.out hz)
        replace HXR := hide (HXR.out.kept hz)
        replace HNR := hide (HNR.out.below hz)
        replace HXS := hide (HXS.out.kept hz)
        replace HNS := hide (HNS.out.below hz)
        clear hz hb HCK c0
        have c0 := (HX.out.kept HBN.out).c0
        have hlt : Below x8.heap.size x8 (x8.alloc (.cells #[.int .i64 1] 3)) := below_al6 (Below.refl _ _)
        have HLT := hide hlt
        have HWC := hide (with_any A m c ns ⟨1, none, 0, 0, some ⟨x8.heap.size, 0, none⟩, 1, 1, 0, 0, [], [1]⟩ _ (HN.out.below (below_nx6 HBN.out hlt)) HNIL.out ⟨Lies.nothing, lit_lies x8 .i64 [1] 3, Nat.le_refl _, Nat.le_refl _, by dsimp only; omega, by dsimp only; omega, by dsimp only; omega, by dsimp only; have := HB9.out; omega, by dsimp only; omega⟩ (by omega))
        unfold Nd.v at HWC
        clear hlt
        go_wp2_with fail
        refine Calls.mono HWC.out ?_
        rintro e x9 ⟨A5, c5, rfl, hnw, hcw, hnl, hb⟩
        have hz : Below x8.heap.size x8 x9 := below_nx6 HLT.out hb
        have HCK := hide (gcheck_any A5 (m + 1) c5 _ x9 hnw (by omega) hcw)
        rw [(by rw [gph_snoc HGB.out, decide_eq_false (show ¬ ((1 : Int) ≠ 1) by omega)]; simp : gphB (ns ++ [⟨1, none, 0, 0, some ⟨x8.heap.size, 0, none⟩, 1, 1, 0, 0, [], [1]⟩]) = false)] at HCK
        replace HBN := hide (below_nx6 HBN.out hz)
        replace HXR := hide (HXR.out.kept hz)
        replace HNR := hide (HNR.out.below hz)
        replace HXS := hide (HXS.out.kept hz)
        replace HNS := hide (HNS.out.below hz)
        clear hz hb hnw hcw hnl HLT HWC
        go_wp2_with fail
        refine Calls.mono HCK.out ?_
        rintro e x10 ⟨rfl, hb⟩
        have hz : Below x9.heap.size x9 x10 := hb
        replace HBN := hide (below_nx6 HBN.out hz)
        replace HXR := hide (HXR.out.kept hz)
        replace HNR := hide (HNR.out.below hz)
        replace HXS := hide (HXS.out.kept hz)
        replace HNS := hide (HNS.out.below hz)
        clear hz hb HCK c0
        have c0 := (HX.out.kept HBN.out).c0
        go_wp2
        go_ret
        exact ⟨rfl, below_nx6 HB0.out HBN.out⟩
      · have q31 : ¬ b ≤ 31 := hb31
        have HCK := hide (gcheck_any AS (m + 1) cS _ w7 HNS.out (by omega) HCS.out)
        rw [HFS.out, decide_eq_false (show ¬ (0 ≤ b ∧ b ≤ 31) from fun h => hb31 h.2), Bool.and_false] at HCK
        go_wp2_with fail
        refine Calls.mono HCK.out ?_
        rintro e w8 ⟨rfl, hb⟩
        have hz : Below w7.heap.size w7 w8 := hb
        replace HBN := hide (below_nx6 HBN.out hz)
        replace HXR := hide (HXR.out.kept hz)
        replace HNR := hide (HNR.out.below hz)
        replace HXS := hide (HXS.out.kept hz)
        replace HNS := hide (HNS.out.below hz)
        replace HSG := hide (HSG.out.below hz)
        replace HSG2 := hide (HSG2.out.below hz)
        clear hz hb HCK c0 c1
        have c0 := (HX.out.kept HBN.out).c0
        have c1 := HXS.out.c0
        obtain ⟨bT, oT, g2, rfl, hg2, hcg2, hlg2, hgn2, hgo2⟩ := HSG2.out.at (show m < n1 by omega)
        obtain ⟨bS, oS, g, rfl, hg, hcg, hlg, hgn, hgo⟩ := HSG.out.at (show t < m by omega)
        have HEQ : Hid (g2.s = g.s) := hide (by
          have h1 : (gs2.map Sg.s)[m]? = some g2.s := by rw [List.getElem?_map, hg2]; rfl
          have h2 : (gs.map Sg.s)[t]? = some g.s := by rw [List.getElem?_map, hg]; rfl
          rw [HGS2.out, gphS_snoc HGB.out HG2.out, List.getElem?_append_right (by rw [HGL.out]; exact Nat.le_refl _), HGL.out, Nat.sub_self, sh_relu] at h1
          rw [HGS.out] at h2
          have h3 : (gphS ns).getD t [] = g2.s := by simpa using h1
          rw [List.getD_eq_getElem?_getD, h2] at h3
          exact h3.symm)
        have HCG : Hid (∀ v, Below w8.heap.size w8 v → v.cell? ⟨bT, oT + m, none⟩ = some (.slice g2.A g2.n g2.c) ∧ v.cell? ⟨bS, oS + t, none⟩ = some (.slice g.A g.n g.c)) := hide (fun v hv => ⟨(hv.cell (World.block_lt_of_cell? w8 _ hcg2)).trans hcg2, (hv.cell (World.block_lt_of_cell? w8 _ hcg)).trans hcg⟩)
        have HLG2 := hide hlg2
        have HLG := hide hlg
        have j00 : (0 : Int) ≤ (t : Int) := by omega
        have j10 : (t : Int) < (m : Int) := by omega
        have j20 : (0 : Int) ≤ (m : Int) := by omega
        have j21 : (m : Int) < (n1 : Int) := by omega
        have hd0 : Below w8.heap.size w8 w8.drew := below_drewN (Below.refl _ _) 1
        clear hg2 hg hcg2 hcg hlg2 hlg
        go_wp2
        have hS0 : Hid (w8.drew.cell? ⟨bT, oT + m, none⟩ = some (.slice g2.A g2.n g2.c) ∧ w8.drew.cell? ⟨bS, oS + t, none⟩ = some (.slice g.A g.n g.c)) := hide (HCG.out _ hd0)
        refine wp_region_U (fun _ v => v.cell? ⟨bT, oT + m, none⟩ = some (.slice g2.A g2.n g2.c) ∧ v.cell? ⟨bS, oS + t, none⟩ = some (.slice g.A g.n g.c)) 99 (by kernel_rfl) ?_
        refine wpAnyU_take (i := 0) (oi := { dst := some 80, op := _, type := _, pos := _, after := _, guard := none }) (v := .int .i64 0) rfl (by kernel_rfl) (by kernel_rfl) (by kernel_rfl) (by kernel_rfl) (fun _ _ _ h => h) (yields_take rfl (fun w' hw => by obtain ⟨h1, h2⟩ := hw.const; go_simp)) hS0.out ?_
        simp only [Act.put, List.setIfInBounds_toArray, List.set_cons_zero, List.set_cons_succ]
        refine wpAnyU_take (i := 1) (oi := { dst := some 81, op := _, type := _, pos := _, after := _, guard := none }) (v := .bool true) rfl (by kernel_rfl) (by kernel_rfl) (by kernel_rfl) (by kernel_rfl) (fun _ _ _ h => h) (yields_take rfl (fun w' hw => by obtain ⟨h1, h2⟩ := hw.const; go_simp)) hS0.out ?_
        simp only [Act.put, List.setIfInBounds_toArray, List.set_cons_zero, List.set_cons_succ]
        refine wpAnyU_take (i := 2) (oi := { dst := some 82, op := _, type := _, pos := _, after := _, guard := none }) (v := .bool true) rfl (by kernel_rfl) (by kernel_rfl) (by kernel_rfl) (by kernel_rfl) (fun _ _ _ h => h) (yields_take rfl (fun w' hw => by obtain ⟨h1, h2⟩ := hw.const; go_simp)) hS0.out ?_
        simp only [Act.put, List.setIfInBounds_toArray, List.set_cons_zero, List.set_cons_succ]
        refine wpAnyU_take (i := 3) (oi := { dst := some 83, op := _, type := _, pos := _, after := _, guard := some (2, true) }) (v := .slice (some ⟨bT, oT, none⟩) n1 kc2) rfl (by kernel_rfl) (by kernel_rfl) (by kernel_rfl) (by kernel_rfl) (fun _ _ _ h => h) (yields_take rfl (fun w' hw => by obtain ⟨h1, h2⟩ := hw.const; go_simp)) hS0.out ?_
        simp only [Act.put, List.setIfInBounds_toArray, List.set_cons_zero, List.set_cons_succ]
        refine wpAnyU_take (i := 4) (oi := { dst := some 84, op := _, type := _, pos := _, after := _, guard := some (2, true) }) (v := .int .i64 (n1 : Int)) rfl (by kernel_rfl) (by kernel_rfl) (by kernel_rfl) (by kernel_rfl) (fun _ _ _ h => h) (yields_take rfl (fun w' hw => by obtain ⟨h1, h2⟩ := hw.const; go_simp)) hS0.out ?_
        simp only [Act.put, List.setIfInBounds_toArray, List.set_cons_zero, List.set_cons_succ]
        refine wpAnyU_take (i := 5) (oi := { dst := some 85, op := _, type := _, pos := _, after := _, guard := some (2, true) }) (v := .int .i64 (m : Int)) rfl (by kernel_rfl) (by kernel_rfl) (by kernel_rfl) (by kernel_rfl) (fun _ _ _ h => h) (yields_take rfl (fun w' hw => by obtain ⟨h1, h2⟩ := hw.const; go_simp)) hS0.out ?_
        simp only [Act.put, List.setIfInBounds_toArray, List.set_cons_zero, List.set_cons_succ]
        refine wpAnyU_take (i := 6) (oi := { dst := some 86, op := _, type := _, pos := _, after := _, guard := some (2, true) }) (v := .int .i64 (n1 : Int)) rfl (by kernel_rfl) (by kernel_rfl) (by kernel_rfl) (by kernel_rfl) (fun _ _ _ h => h) (yields_take rfl (fun w' hw => by obtain ⟨h1, h2⟩ := hw.const; go_simp)) hS0.out ?_
        simp only [Act.put, List.setIfInBounds_toArray, List.set_cons_zero, List.set_cons_succ]
        refine wpAnyU_take (i := 7) (oi := { dst := some 87, op := _, type := _, pos := _, after := _, guard := some (2, true) }) (v := .bool false) rfl (by kernel_rfl) (by kernel_rfl) (by kernel_rfl) (by kernel_rfl) (fun _ _ _ h => h) (yields_take rfl (fun w' hw => by obtain ⟨h1, h2⟩ := hw.const; go_simp)) hS0.out ?_
        simp only [Act.put, List.setIfInBounds_toArray, List.set_cons_zero, List.set_cons_succ]
        refine wpAnyU_take (i := 8) (oi := { dst := some 88, op := _, type := _, pos := _, after := _, guard := some (2, true) }) (v := .bool false) rfl (by kernel_rfl) (by kernel_rfl) (by kernel_rfl) (by kernel_rfl) (fun _ _ _ h => h) (yields_take rfl (fun w' hw => by obtain ⟨h1, h2⟩ := hw.const; go_simp)) hS0.out ?_
        simp only [Act.put, List.setIfInBounds_toArray, List.set_cons_zero, List.set_cons_succ]
        refine wpAnyU_take (i := 9) (oi := { dst := some 89, op := _, type := _, pos := _, after := _, guard := some (8, false) }) (v := .slice (some ⟨bT, oT, none⟩) n1 kc2) rfl (by kernel_rfl) (by kernel_rfl) (by kernel_rfl) (by kernel_rfl) (fun _ _ _ h => h) (yields_take rfl (fun w' hw => by obtain ⟨h1, h2⟩ := hw.const; go_simp)) hS0.out ?_
        simp only [Act.put, List.setIfInBounds_toArray, List.set_cons_zero, List.set_cons_succ]
        refine wpAnyU_take (i := 10) (oi := { dst := some 90, op := _, type := _, pos := _, after := _, guard := some (8, false) }) (v := .int .i64 (m : Int)) rfl (by kernel_rfl) (by kernel_rfl) (by kernel_rfl) (by kernel_rfl) (fun _ _ _ h => h) (yields_take rfl (fun w' hw => by obtain ⟨h1, h2⟩ := hw.const; go_simp)) hS0.out ?_
        simp only [Act.put, List.setIfInBounds_toArray, List.set_cons_zero, List.set_cons_succ]
        refine wpAnyU_take (i := 11) (oi := { dst := some 91, op := _, type := _, pos := _, after := _, guard := some (8, false) }) (v := .pointer (some ⟨bT, oT + m, none⟩)) rfl (by kernel_rfl) (by kernel_rfl) (by kernel_rfl) (by kernel_rfl) (fun _ _ _ h => h) (yields_take rfl (fun w' hw => by obtain ⟨h1, h2⟩ := hw.const; go_simp)) hS0.out ?_
        simp only [Act.put, List.setIfInBounds_toArray, List.set_cons_zero, List.set_cons_succ]
        refine wpAnyU_take (i := 12) (oi := { dst := some 92, op := _, type := _, pos := _, after := _, guard := some (8, false) }) (v := .slice g2.A g2.n g2.c) rfl (by kernel_rfl) (by kernel_rfl) (by kernel_rfl) (by kernel_rfl) (fun _ _ _ h => h) (yields_take rfl (fun w' hw => by obtain ⟨h1, h2⟩ := hw.const; go_simp)) hS0.out ?_
        simp only [Act.put, List.setIfInBounds_toArray, List.set_cons_zero, List.set_cons_succ]
        refine wpAnyU_take (i := 13) (oi := { dst := some 93, op := _, type := _, pos := _, after := _, guard := some (8, false) }) (v := .slice (some ⟨bS, oS, none⟩) m kc) rfl (by kernel_rfl) (by kernel_rfl) (by kernel_rfl) (by kernel_rfl) (fun _ _ _ h => h) (yields_take rfl (fun w' hw => by obtain ⟨h1, h2⟩ := hw.const; go_simp)) hS0.out ?_
        simp only [Act.put, List.setIfInBounds_toArray, List.set_cons_zero, List.set_cons_succ]
        refine wpAnyU_take (i := 14) (oi := { dst := some 94, op := _, type := _, pos := _, after := _, guard := some (8, false) }) (v := .int .i64 (t : Int)) rfl (by kernel_rfl) (by kernel_rfl) (by kernel_rfl) (by kernel_rfl) (fun _ _ _ h => h) (yields_take rfl (fun w' hw => by obtain ⟨h1, h2⟩ := hw.const; go_simp)) hS0.out ?_
        simp only [Act.put, List.setIfInBounds_toArray, List.set_cons_zero, List.set_cons_succ]
        refine wpAnyU_take (i := 15) (oi := { dst := some 95, op := _, type := _, pos := _, after := _, guard := some (8, false) }) (v := .pointer (some ⟨bS, oS + t, none⟩)) rfl (by kernel_rfl) (by kernel_rfl) (by kernel_rfl) (by kernel_rfl) (fun _ _ _ h => h) (yields_take rfl (fun w' hw => by obtain ⟨h1, h2⟩ := hw.const; go_simp)) hS0.out ?_
        simp only [Act.put, List.setIfInBounds_toArray, List.set_cons_zero, List.set_cons_succ]
        refine wpAnyU_take (i := 16) (oi := { dst := some 96, op := _, type := _, pos := _, after := _, guard := some (8, false) }) (v := .slice g.A g.n g.c) rfl (by kernel_rfl) (by kernel_rfl) (by kernel_rfl) (by kernel_rfl) (fun _ _ _ h => h) (yields_take rfl (fun w' hw => by obtain ⟨h1, h2⟩ := hw.const; go_simp)) hS0.out ?_
        simp only [Act.put, List.setIfInBounds_toArray, List.set_cons_zero, List.set_cons_succ]
        refine wpAnyU_one (i := 17) (by kernel_rfl) rfl ?_
        intro K hK
        go_simp
        refine Calls.mono (sameI_any g2.A g.A g2.n g2.c g.n g.c g2.s g.s _ (HLG2.out.below hd0) (HLG.out.below hd0) (by omega)) ?_
        rintro e w9 ⟨he, hb⟩
        (try dsimp only)
        rw [decide_eq_true HEQ.out] at he
        subst he
        have hd1 : Below w8.heap.size w8 w9 := below_nx6 hd0 hb
        clear hb
        (try dsimp only)
        have hS1 : Hid (w9.cell? ⟨bT, oT + m, none⟩ = some (.slice g2.A g2.n g2.c) ∧ w9.cell? ⟨bS, oS + t, none⟩ = some (.slice g.A g.n g.c)) := hide (HCG.out _ hd1)
        refine hK.out _ _ hS1.out (fun _ => ?_)
        clear hK K hS0
        refine wpAnyU_take (i := 18) (oi := { dst := some 98, op := _, type := _, pos := _, after := _, guard := some (8, false) }) (v := .bool false) rfl (by kernel_rfl) (by kernel_rfl) (by kernel_rfl) (by kernel_rfl) (fun _ _ _ h => h) (yields_take rfl (fun w' hw => by obtain ⟨h1, h2⟩ := hw.const; go_simp)) hS1.out ?_
        simp only [Act.put, List.setIfInBounds_toArray, List.set_cons_zero, List.set_cons_succ]
        refine wpAnyU_take (i := 19) (oi := { dst := some 99, op := _, type := _, pos := _, after := _, guard := some (2, true) }) (v := .bool false) rfl (by kernel_rfl) (by kernel_rfl) (by kernel_rfl) (by kernel_rfl) (fun _ _ _ h => h) (yields_take rfl (fun w' hw => by obtain ⟨h1, h2⟩ := hw.const; go_simp)) hS1.out ?_
        simp only [Act.put, List.setIfInBounds_toArray, List.set_cons_zero, List.set_cons_succ]
        refine wpAnyU_take (i := 20) (oi := { dst := some 100, op := _, type := _, pos := _, after := _, guard := none }) (v := .bool false) rfl (by kernel_rfl) (by kernel_rfl) (by kernel_rfl) (by kernel_rfl) (fun _ _ _ h => h) (yields_take rfl (fun w' hw => by obtain ⟨h1, h2⟩ := hw.const; go_simp)) hS1.out ?_
        simp only [Act.put, List.setIfInBounds_toArray, List.set_cons_zero, List.set_cons_succ]
        refine wpAnyU_done (by kernel_rfl) ?_ _
        clear hS1
        have hz : Below w8.heap.size w8 w9 := hd1
        replace HBN := hide (below_nx6 HBN.out hz)
        replace HXR := hide (HXR.out.kept hz)
        replace HNR := hide (HNR.out.below hz)
        replace HXS := hide (HXS.out.kept hz)
        replace HNS := hide (HNS.out.below hz)
        replace HSG := hide (HSG.out.below hz)
        replace HSG2 := hide (HSG2.out.below hz)
        clear hz hd1 hd0 HCG HLG2 HLG HEQ j00 j10 j20 j21 c0 c1 HSG HSG2
        have c0 := (HX.out.kept HBN.out).c0
        have hlt : Below w9.heap.size w9 (w9.alloc (.cells #[.int .i64 (m : Int)] 3)) := below_al6 (Below.refl _ _)
        have HLT := hide hlt
        have HWC := hide (with_any A m c ns ⟨5, some ⟨w9.heap.size, 0, none⟩, 1, 1, none, 0, 0, 0, 0, [(m : Int)], []⟩ _ (HN.out.below (below_nx6 HBN.out hlt)) HNIL.out ⟨lit_lies w9 .i64 [(m : Int)] 3, Lies.nothing, Nat.le_refl _, Nat.le_refl _, by dsimp only; omega, by dsimp only; omega, by dsimp only; omega, by dsimp only; have := HB9.out; omega, by dsimp only; omega⟩ (by omega))
        unfold Nd.v at HWC
        clear hlt
        go_wp2_with fail
        refine Calls.mono HWC.out ?_
        rintro e x1 ⟨A1, c1, rfl, hnw, hcw, hnl, hb⟩
        have hz : Below w9.heap.size w9 x1 := below_nx6 HLT.out hb
        have HCK := hide (gcheck_any A1 (m + 1) c1 _ x1 hnw (by omega) hcw)
        rw [(by rw [gph_snoc HGB.out, fit_relu, HGL.out, decide_eq_false (show ¬ ((0 : Int) ≤ (m : Int) ∧ (m : Int) < (m : Int)) by omega)]; simp : gphB (ns ++ [⟨5, some ⟨w9.heap.size, 0, none⟩, 1, 1, none, 0, 0, 0, 0, [(m : Int)], []⟩]) = false)] at HCK
        replace HBN := hide (below_nx6 HBN.out hz)
        replace HXR := hide (HXR.out.kept hz)
        replace HNR := hide (HNR.out.below hz)
        replace HXS := hide (HXS.out.kept hz)
        replace HNS := hide (HNS.out.below hz)
        clear hz hb hnw hcw hnl HLT HWC
        go_wp2_with fail
        refine Calls.mono HCK.out ?_
        rintro e x2 ⟨rfl, hb⟩
        have hz : Below x1.heap.size x1 x2 := hb
        replace HBN := hide (below_nx6 HBN.out hz)
        replace HXR := hide (HXR.out.kept hz)
        replace HNR := hide (HNR.out.below hz)
        replace HXS := hide (HXS.out.kept hz)
        replace HNS := hide (HNS.out.below hz)
        clear hz hb HCK c0
        have c0 := (HX.out.kept HBN.out).c0
        have hlt : Below x2.heap.size x2 (x2.alloc (.cells #[.int .i64 (-1)] 3)) := below_al6 (Below.refl _ _)
        have HLT := hide hlt
        have HWC := hide (with_any A m c ns ⟨5, some ⟨x2.heap.size, 0, none⟩, 1, 1, none, 0, 0, 0, 0, [(-1)], []⟩ _ (HN.out.below (below_nx6 HBN.out hlt)) HNIL.out ⟨lit_lies x2 .i64 [(-1)] 3, Lies.nothing, Nat.le_refl _, Nat.le_refl _, by dsimp only; omega, by dsimp only; omega, by dsimp only; omega, by dsimp only; have := HB9.out; omega, by dsimp only; omega⟩ (by omega))
        unfold Nd.v at HWC
        clear hlt
        go_wp2_with fail
        refine Calls.mono HWC.out ?_
        rintro e x3 ⟨A2, c2, rfl, hnw, hcw, hnl, hb⟩
        have hz : Below x2.heap.size x2 x3 := below_nx6 HLT.out hb
        have HCK := hide (gcheck_any A2 (m + 1) c2 _ x3 hnw (by omega) hcw)
        rw [(by rw [gph_snoc HGB.out, fit_relu, decide_eq_false (show ¬ ((0 : Int) ≤ -1 ∧ (-1 : Int) < ((gphS ns).length : Int)) by omega)]; simp : gphB (ns ++ [⟨5, some ⟨x2.heap.size, 0, none⟩, 1, 1, none, 0, 0, 0, 0, [(-1)], []⟩]) = false)] at HCK
        replace HBN := hide (below_nx6 HBN.out hz)
        replace HXR := hide (HXR.out.kept hz)
        replace HNR := hide (HNR.out.below hz)
        replace HXS := hide (HXS.out.kept hz)
        replace HNS := hide (HNS.out.below hz)
        clear hz hb hnw hcw hnl HLT HWC
        go_wp2_with fail
        refine Calls.mono HCK.out ?_
        rintro e x4 ⟨rfl, hb⟩
        have hz : Below x3.heap.size x3 x4 := hb
        replace HBN := hide (below_nx6 HBN.out hz)
        replace HXR := hide (HXR.out.kept hz)
        replace HNR := hide (HNR.out.below hz)
        replace HXS := hide (HXS.out.kept hz)
        replace HNS := hide (HNS.out.below hz)
        clear hz hb HCK c0
        have c0 := (HX.out.kept HBN.out).c0
        have hlt : Below x4.heap.size x4 (x4.alloc (.cells #[.int .i64 (t : Int)] 3)) := below_al6 (Below.refl _ _)
        have HLT := hide hlt
        have HWC := hide (with_any A m c ns ⟨5, some ⟨x4.heap.size, 0, none⟩, 1, 1, none, 0, 0, 1, 0, [(t : Int)], []⟩ _ (HN.out.below (below_nx6 HBN.out hlt)) HNIL.out ⟨lit_lies x4 .i64 [(t : Int)] 3, Lies.nothing, Nat.le_refl _, Nat.le_refl _, by dsimp only; omega, by dsimp only; omega, by dsimp only; omega, by dsimp only; have := HB9.out; omega, by dsimp only; omega⟩ (by omega))
        unfold Nd.v at HWC
        clear hlt
        go_wp2_with fail
        refine Calls.mono HWC.out ?_
        rintro e x5 ⟨A3, c3, rfl, hnw, hcw, hnl, hb⟩
        have hz : Below x4.heap.size x4 x5 := below_nx6 HLT.out hb
        have HCK := hide (gcheck_any A3 (m + 1) c3 _ x5 hnw (by omega) hcw)
        rw [(by rw [gph_snoc HGB.out, fit_relu, decide_eq_false (show ¬ (1 : Int) = 0 by omega)]; simp : gphB (ns ++ [⟨5, some ⟨x4.heap.size, 0, none⟩, 1, 1, none, 0, 0, 1, 0, [(t : Int)], []⟩]) = false)] at HCK
        replace HBN := hide (below_nx6 HBN.out hz)
        replace HXR := hide (HXR.out.kept hz)
        replace HNR := hide (HNR.out.below hz)
        replace HXS := hide (HXS.out.kept hz)
        replace HNS := hide (HNS.out.below hz)
        clear hz hb hnw hcw hnl HLT HWC
        go_wp2_with fail
        refine Calls.mono HCK.out ?_
        rintro e x6 ⟨rfl, hb⟩
        have hz : Below x5.heap.size x5 x6 := hb
        replace HBN := hide (below_nx6 HBN.out hz)
        replace HXR := hide (HXR.out.kept hz)
        replace HNR := hide (HNR.out.below hz)
        replace HXS := hide (HXS.out.kept hz)
        replace HNS := hide (HNS.out.below hz)
        clear hz hb HCK c0
        have c0 := (HX.out.kept HBN.out).c0
        have hlt : Below x6.heap.size x6 (x6.alloc (.cells #[.int .i64 (t : Int), .int .i64 (t : Int)] 3)) := below_al6 (Below.refl _ _)
        have HLT := hide hlt
        have HWC := hide (with_any A m c ns ⟨5, some ⟨x6.heap.size, 0, none⟩, 2, 2, none, 0, 0, 0, 0, [(t : Int), (t : Int)], []⟩ _ (HN.out.below (below_nx6 HBN.out hlt)) HNIL.out ⟨lit_lies x6 .i64 [(t : Int), (t : Int)] 3, Lies.nothing, Nat.le_refl _, Nat.le_refl _, by dsimp only; omega, by dsimp only; omega, by dsimp only; omega, by dsimp only; have := HB9.out; omega, by dsimp only; omega⟩ (by omega))
        unfold Nd.v at HWC
        clear hlt
        go_wp2_with fail
        refine Calls.mono HWC.out ?_
        rintro e x7 ⟨A4, c4, rfl, hnw, hcw, hnl, hb⟩
        have hz : Below x6.heap.size x6 x7 := below_nx6 HLT.out hb
        have HCK := hide (gcheck_any A4 (m + 1) c4 _ x7 hnw (by omega) hcw)
        rw [(by rw [gph_snoc HGB.out, fit_relu2]; simp : gphB (ns ++ [⟨5, some ⟨x6.heap.size, 0, none⟩, 2, 2, none, 0, 0, 0, 0, [(t : Int), (t : Int)], []⟩]) = false)] at HCK
        replace HBN := hide (below_nx6 HBN.out hz)
        replace HXR := hide (HXR.out.kept hz)
        replace HNR := hide (HNR.out.below hz)
        replace HXS := hide (HXS.out.kept hz)
        replace HNS := hide (HNS.out.below hz)
        clear hz hb hnw hcw hnl HLT HWC
        go_wp2_with fail
        refine Calls.mono HCK.out ?_
        rintro e x8 ⟨rfl, hb⟩
        have hz : Below x7.heap.size x7 x8 := hb
        replace HBN := hide (below_nx6 HBN.out hz)
        replace HXR := hide (HXR.out.kept hz)
        replace HNR := hide (HNR.out.below hz)
        replace HXS := hide (HXS.out.kept hz)
        replace HNS := hide (HNS.out.below hz)
        clear hz hb HCK c0
        have c0 := (HX.out.kept HBN.out).c0
        have hlt : Below x8.heap.size x8 (x8.alloc (.cells #[.int .i64 1] 3)) := below_al6 (Below.refl _ _)
        have HLT := hide hlt
        have HWC := hide (with_any A m c ns ⟨1, none, 0, 0, some ⟨x8.heap.size, 0, none⟩, 1, 1, 0, 0, [], [1]⟩ _ (HN.out.below (below_nx6 HBN.out hlt)) HNIL.out ⟨Lies.nothing, lit_lies x8 .i64 [1] 3, Nat.le_refl _, Nat.le_refl _, by dsimp only; omega, by dsimp only; omega, by dsimp only; omega, by dsimp only; have := HB9.out; omega, by dsimp only; omega⟩ (by omega))
        unfold Nd.v at HWC
        clear hlt
        go_wp2_with fail
        refine Calls.mono HWC.out ?_
        rintro e x9 ⟨A5, c5, rfl, hnw, hcw, hnl, hb⟩
        have hz : Below x8.heap.size x8 x9 := below_nx6 HLT.out hb
        have HCK := hide (gcheck_any A5 (m + 1) c5 _ x9 hnw (by omega) hcw)
        rw [(by rw [gph_snoc HGB.out, decide_eq_false (show ¬ ((1 : Int) ≠ 1) by omega)]; simp : gphB (ns ++ [⟨1, none, 0, 0, some ⟨x8.heap.size, 0, none⟩, 1, 1, 0, 0, [], [1]⟩]) = false)] at HCK
        replace HBN := hide (below_nx6 HBN.out hz)
        replace HXR := hide (HXR.out.kept hz)
        replace HNR := hide (HNR.out.below hz)
        replace HXS := hide (HXS.out.kept hz)
        replace HNS := hide (HNS.out.below hz)
        clear hz hb hnw hcw hnl HLT HWC
        go_wp2_with fail
        refine Calls.mono HCK.out ?_
        rintro e x10 ⟨rfl, hb⟩
        have hz : Below x9.heap.size x9 x10 := hb
        replace HBN := hide (below_nx6 HBN.out hz)
        replace HXR := hide (HXR.out.kept hz)
        replace HNR := hide (HNR.out.below hz)
        replace HXS := hide (HXS.out.kept hz)
        replace HNS := hide (HNS.out.below hz)
        clear hz hb HCK c0
        have c0 := (HX.out.kept HBN.out).c0
        go_wp2
        go_ret
        exact ⟨rfl, below_nx6 HB0.out HBN.out⟩
    · have q30 : ¬ 0 ≤ b := hb0
      have HCK := hide (gcheck_any AS (m + 1) cS _ w7 HNS.out (by omega) HCS.out)
      rw [HFS.out, decide_eq_false (show ¬ (0 ≤ b ∧ b ≤ 31) from fun h => hb0 h.1), Bool.and_false] at HCK
      go_wp2_with fail
      refine Calls.mono HCK.out ?_
      rintro e w8 ⟨rfl, hb⟩
      have hz : Below w7.heap.size w7 w8 := hb
      replace HBN := hide (below_nx6 HBN.out hz)
      replace HXR := hide (HXR.out.kept hz)
      replace HNR := hide (HNR.out.below hz)
      replace HXS := hide (HXS.out.kept hz)
      replace HNS := hide (HNS.out.below hz)
      replace HSG := hide (HSG.out.below hz)
      replace HSG2 := hide (HSG2.out.below hz)
      clear hz hb HCK c0 c1
      have c0 := (HX.out.kept HBN.out).c0
      have c1 := HXS.out.c0
      obtain ⟨bT, oT, g2, rfl, hg2, hcg2, hlg2, hgn2, hgo2⟩ := HSG2.out.at (show m < n1 by omega)
      obtain ⟨bS, oS, g, rfl, hg, hcg, hlg, hgn, hgo⟩ := HSG.out.at (show t < m by omega)
      have HEQ : Hid (g2.s = g.s) := hide (by
        have h1 : (gs2.map Sg.s)[m]? = some g2.s := by rw [List.getElem?_map, hg2]; rfl
        have h2 : (gs.map Sg.s)[t]? = some g.s := by rw [List.getElem?_map, hg]; rfl
        rw [HGS2.out, gphS_snoc HGB.out HG2.out, List.getElem?_append_right (by rw [HGL.out]; exact Nat.le_refl _), HGL.out, Nat.sub_self, sh_relu] at h1
        rw [HGS.out] at h2
        have h3 : (gphS ns).getD t [] = g2.s := by simpa using h1
        rw [List.getD_eq_getElem?_getD, h2] at h3
        exact h3.symm)
      have HCG : Hid (∀ v, Below w8.heap.size w8 v → v.cell? ⟨bT, oT + m, none⟩ = some (.slice g2.A g2.n g2.c) ∧ v.cell? ⟨bS, oS + t, none⟩ = some (.slice g.A g.n g.c)) := hide (fun v hv => ⟨(hv.cell (World.block_lt_of_cell? w8 _ hcg2)).trans hcg2, (hv.cell (World.block_lt_of_cell? w8 _ hcg)).trans hcg⟩)
      have HLG2 := hide hlg2
      have HLG := hide hlg
      have j00 : (0 : Int) ≤ (t : Int) := by omega
      have j10 : (t : Int) < (m : Int) := by omega
      have j20 : (0 : Int) ≤ (m : Int) := by omega
      have j21 : (m : Int) < (n1 : Int) := by omega
      have hd0 : Below w8.heap.size w8 w8.drew := below_drewN (Below.refl _ _) 1
      clear hg2 hg hcg2 hcg hlg2 hlg
      go_wp2
      have hS0 : Hid (w8.drew.cell? ⟨bT, oT + m, none⟩ = some (.slice g2.A g2.n g2.c) ∧ w8.drew.cell? ⟨bS, oS + t, none⟩ = some (.slice g.A g.n g.c)) := hide (HCG.out _ hd0)
      refine wp_region_U (fun _ v => v.cell? ⟨bT, oT + m, none⟩ = some (.slice g2.A g2.n g2.c) ∧ v.cell? ⟨bS, oS + t, none⟩ = some (.slice g.A g.n g.c)) 99 (by kernel_rfl) ?_
      refine wpAnyU_take (i := 0) (oi := { dst := some 80, op := _, type := _, pos := _, after := _, guard := none }) (v := .int .i64 0) rfl (by kernel_rfl) (by kernel_rfl) (by kernel_rfl) (by kernel_rfl) (fun _ _ _ h => h) (yields_take rfl (fun w' hw => by obtain ⟨h1, h2⟩ := hw.const; go_simp)) hS0.out ?_
      simp only [Act.put, List.setIfInBounds_toArray, List.set_cons_zero, List.set_cons_succ]
      refine wpAnyU_take (i := 1) (oi := { dst := some 81, op := _, type := _, pos := _, after := _, guard := none }) (v := .bool true) rfl (by kernel_rfl) (by kernel_rfl) (by kernel_rfl) (by kernel_rfl) (fun _ _ _ h => h) (yields_take rfl (fun w' hw => by obtain ⟨h1, h2⟩ := hw.const; go_simp)) hS0.out ?_
      simp only [Act.put, List.setIfInBounds_toArray, List.set_cons_zero, List.set_cons_succ]
      refine wpAnyU_take (i := 2) (oi := { dst := some 82, op := _, type := _, pos := _, after := _, guard := none }) (v := .bool true) rfl (by kernel_rfl) (by kernel_rfl) (by kernel_rfl) (by kernel_rfl) (fun _ _ _ h => h) (yields_take rfl (fun w' hw => by obtain ⟨h1, h2⟩ := hw.const; go_simp)) hS0.out ?_
      simp only [Act.put, List.setIfInBounds_toArray, List.set_cons_zero, List.set_cons_succ]
      refine wpAnyU_take (i := 3) (oi := { dst := some 83, op := _, type := _, pos := _, after := _, guard := some (2, true) }) (v := .slice (some ⟨bT, oT, none⟩) n1 kc2) rfl (by kernel_rfl) (by kernel_rfl) (by kernel_rfl) (by kernel_rfl) (fun _ _ _ h => h) (yields_take rfl (fun w' hw => by obtain ⟨h1, h2⟩ := hw.const; go_simp)) hS0.out ?_
      simp only [Act.put, List.setIfInBounds_toArray, List.set_cons_zero, List.set_cons_succ]
      refine wpAnyU_take (i := 4) (oi := { dst := some 84, op := _, type := _, pos := _, after := _, guard := some (2, true) }) (v := .int .i64 (n1 : Int)) rfl (by kernel_rfl) (by kernel_rfl) (by kernel_rfl) (by kernel_rfl) (fun _ _ _ h => h) (yields_take rfl (fun w' hw => by obtain ⟨h1, h2⟩ := hw.const; go_simp)) hS0.out ?_
      simp only [Act.put, List.setIfInBounds_toArray, List.set_cons_zero, List.set_cons_succ]
      refine wpAnyU_take (i := 5) (oi := { dst := some 85, op := _, type := _, pos := _, after := _, guard := some (2, true) }) (v := .int .i64 (m : Int)) rfl (by kernel_rfl) (by kernel_rfl) (by kernel_rfl) (by kernel_rfl) (fun _ _ _ h => h) (yields_take rfl (fun w' hw => by obtain ⟨h1, h2⟩ := hw.const; go_simp)) hS0.out ?_
      simp only [Act.put, List.setIfInBounds_toArray, List.set_cons_zero, List.set_cons_succ]
      refine wpAnyU_take (i := 6) (oi := { dst := some 86, op := _, type := _, pos := _, after := _, guard := some (2, true) }) (v := .int .i64 (n1 : Int)) rfl (by kernel_rfl) (by kernel_rfl) (by kernel_rfl) (by kernel_rfl) (fun _ _ _ h => h) (yields_take rfl (fun w' hw => by obtain ⟨h1, h2⟩ := hw.const; go_simp)) hS0.out ?_
      simp only [Act.put, List.setIfInBounds_toArray, List.set_cons_zero, List.set_cons_succ]
      refine wpAnyU_take (i := 7) (oi := { dst := some 87, op := _, type := _, pos := _, after := _, guard := some (2, true) }) (v := .bool false) rfl (by kernel_rfl) (by kernel_rfl) (by kernel_rfl) (by kernel_rfl) (fun _ _ _ h => h) (yields_take rfl (fun w' hw => by obtain ⟨h1, h2⟩ := hw.const; go_simp)) hS0.out ?_
      simp only [Act.put, List.setIfInBounds_toArray, List.set_cons_zero, List.set_cons_succ]
      refine wpAnyU_take (i := 8) (oi := { dst := some 88, op := _, type := _, pos := _, after := _, guard := some (2, true) }) (v := .bool false) rfl (by kernel_rfl) (by kernel_rfl) (by kernel_rfl) (by kernel_rfl) (fun _ _ _ h => h) (yields_take rfl (fun w' hw => by obtain ⟨h1, h2⟩ := hw.const; go_simp)) hS0.out ?_
      simp only [Act.put, List.setIfInBounds_toArray, List.set_cons_zero, List.set_cons_succ]
      refine wpAnyU_take (i := 9) (oi := { dst := some 89, op := _, type := _, pos := _, after := _, guard := some (8, false) }) (v := .slice (some ⟨bT, oT, none⟩) n1 kc2) rfl (by kernel_rfl) (by kernel_rfl) (by kernel_rfl) (by kernel_rfl) (fun _ _ _ h => h) (yields_take rfl (fun w' hw => by obtain ⟨h1, h2⟩ := hw.const; go_simp)) hS0.out ?_
      simp only [Act.put, List.setIfInBounds_toArray, List.set_cons_zero, List.set_cons_succ]
      refine wpAnyU_take (i := 10) (oi := { dst := some 90, op := _, type := _, pos := _, after := _, guard := some (8, false) }) (v := .int .i64 (m : Int)) rfl (by kernel_rfl) (by kernel_rfl) (by kernel_rfl) (by kernel_rfl) (fun _ _ _ h => h) (yields_take rfl (fun w' hw => by obtain ⟨h1, h2⟩ := hw.const; go_simp)) hS0.out ?_
      simp only [Act.put, List.setIfInBounds_toArray, List.set_cons_zero, List.set_cons_succ]
      refine wpAnyU_take (i := 11) (oi := { dst := some 91, op := _, type := _, pos := _, after := _, guard := some (8, false) }) (v := .pointer (some ⟨bT, oT + m, none⟩)) rfl (by kernel_rfl) (by kernel_rfl) (by kernel_rfl) (by kernel_rfl) (fun _ _ _ h => h) (yields_take rfl (fun w' hw => by obtain ⟨h1, h2⟩ := hw.const; go_simp)) hS0.out ?_
      simp only [Act.put, List.setIfInBounds_toArray, List.set_cons_zero, List.set_cons_succ]
      refine wpAnyU_take (i := 12) (oi := { dst := some 92, op := _, type := _, pos := _, after := _, guard := some (8, false) }) (v := .slice g2.A g2.n g2.c) rfl (by kernel_rfl) (by kernel_rfl) (by kernel_rfl) (by kernel_rfl) (fun _ _ _ h => h) (yields_take rfl (fun w' hw => by obtain ⟨h1, h2⟩ := hw.const; go_simp)) hS0.out ?_
      simp only [Act.put, List.setIfInBounds_toArray, List.set_cons_zero, List.set_cons_succ]
      refine wpAnyU_take (i := 13) (oi := { dst := some 93, op := _, type := _, pos := _, after := _, guard := some (8, false) }) (v := .slice (some ⟨bS, oS, none⟩) m kc) rfl (by kernel_rfl) (by kernel_rfl) (by kernel_rfl) (by kernel_rfl) (fun _ _ _ h => h) (yields_take rfl (fun w' hw => by obtain ⟨h1, h2⟩ := hw.const; go_simp)) hS0.out ?_
      simp only [Act.put, List.setIfInBounds_toArray, List.set_cons_zero, List.set_cons_succ]
      refine wpAnyU_take (i := 14) (oi := { dst := some 94, op := _, type := _, pos := _, after := _, guard := some (8, false) }) (v := .int .i64 (t : Int)) rfl (by kernel_rfl) (by kernel_rfl) (by kernel_rfl) (by kernel_rfl) (fun _ _ _ h => h) (yields_take rfl (fun w' hw => by obtain ⟨h1, h2⟩ := hw.const; go_simp)) hS0.out ?_
      simp only [Act.put, List.setIfInBounds_toArray, List.set_cons_zero, List.set_cons_succ]
      refine wpAnyU_take (i := 15) (oi := { dst := some 95, op := _, type := _, pos := _, after := _, guard := some (8, false) }) (v := .pointer (some ⟨bS, oS + t, none⟩)) rfl (by kernel_rfl) (by kernel_rfl) (by kernel_rfl) (by kernel_rfl) (fun _ _ _ h => h) (yields_take rfl (fun w' hw => by obtain ⟨h1, h2⟩ := hw.const; go_simp)) hS0.out ?_
      simp only [Act.put, List.setIfInBounds_toArray, List.set_cons_zero, List.set_cons_succ]
      refine wpAnyU_take (i := 16) (oi := { dst := some 96, op := _, type := _, pos := _, after := _, guard := some (8, false) }) (v := .slice g.A g.n g.c) rfl (by kernel_rfl) (by kernel_rfl) (by kernel_rfl) (by kernel_rfl) (fun _ _ _ h => h) (yields_take rfl (fun w' hw => by obtain ⟨h1, h2⟩ := hw.const; go_simp)) hS0.out ?_
      simp only [Act.put, List.setIfInBounds_toArray, List.set_cons_zero, List.set_cons_succ]
      refine wpAnyU_one (i := 17) (by kernel_rfl) rfl ?_
      intro K hK
      go_simp
      refine Calls.mono (sameI_any g2.A g.A g2.n g2.c g.n g.c g2.s g.s _ (HLG2.out.below hd0) (HLG.out.below hd0) (by omega)) ?_
      rintro e w9 ⟨he, hb⟩
      (try dsimp only)
      rw [decide_eq_true HEQ.out] at he
      subst he
      have hd1 : Below w8.heap.size w8 w9 := below_nx6 hd0 hb
      clear hb
      (try dsimp only)
      have hS1 : Hid (w9.cell? ⟨bT, oT + m, none⟩ = some (.slice g2.A g2.n g2.c) ∧ w9.cell? ⟨bS, oS + t, none⟩ = some (.slice g.A g.n g.c)) := hide (HCG.out _ hd1)
      refine hK.out _ _ hS1.out (fun _ => ?_)
      clear hK K hS0
      refine wpAnyU_take (i := 18) (oi := { dst := some 98, op := _, type := _, pos := _, after := _, guard := some (8, false) }) (v := .bool false) rfl (by kernel_rfl) (by kernel_rfl) (by kernel_rfl) (by kernel_rfl) (fun _ _ _ h => h) (yields_take rfl (fun w' hw => by obtain ⟨h1, h2⟩ := hw.const; go_simp)) hS1.out ?_
      simp only [Act.put, List.setIfInBounds_toArray, List.set_cons_zero, List.set_cons_succ]
      refine wpAnyU_take (i := 19) (oi := { dst := some 99, op := _, type := _, pos := _, after := _, guard := some (2, true) }) (v := .bool false) rfl (by kernel_rfl) (by kernel_rfl) (by kernel_rfl) (by kernel_rfl) (fun _ _ _ h => h) (yields_take rfl (fun w' hw => by obtain ⟨h1, h2⟩ := hw.const; go_simp)) hS1.out ?_
      simp only [Act.put, List.setIfInBounds_toArray, List.set_cons_zero, List.set_cons_succ]
      refine wpAnyU_take (i := 20) (oi := { dst := some 100, op := _, type := _, pos := _, after := _, guard := none }) (v := .bool false) rfl (by kernel_rfl) (by kernel_rfl) (by kernel_rfl) (by kernel_rfl) (fun _ _ _ h => h) (yields_take rfl (fun w' hw => by obtain ⟨h1, h2⟩ := hw.const; go_simp)) hS1.out ?_
      simp only [Act.put, List.setIfInBounds_toArray, List.set_cons_zero, List.set_cons_succ]
      refine wpAnyU_done (by kernel_rfl) ?_ _
      clear hS1
      have hz : Below w8.heap.size w8 w9 := hd1
      replace HBN := hide (below_nx6 HBN.out hz)
      replace HXR := hide (HXR.out.kept hz)
      replace HNR := hide (HNR.out.below hz)
      replace HXS := hide (HXS.out.kept hz)
      replace HNS := hide (HNS.out.below hz)
      replace HSG := hide (HSG.out.below hz)
      replace HSG2 := hide (HSG2.out.below hz)
      clear hz hd1 hd0 HCG HLG2 HLG HEQ j00 j10 j20 j21 c0 c1 HSG HSG2
      have c0 := (HX.out.kept HBN.out).c0
      have hlt : Below w9.heap.size w9 (w9.alloc (.cells #[.int .i64 (m : Int)] 3)) := below_al6 (Below.refl _ _)
      have HLT := hide hlt
      have HWC := hide (with_any A m c ns ⟨5, some ⟨w9.heap.size, 0, none⟩, 1, 1, none, 0, 0, 0, 0, [(m : Int)], []⟩ _ (HN.out.below (below_nx6 HBN.out hlt)) HNIL.out ⟨lit_lies w9 .i64 [(m : Int)] 3, Lies.nothing, Nat.le_refl _, Nat.le_refl _, by dsimp only; omega, by dsimp only; omega, by dsimp only; omega, by dsimp only; have := HB9.out; omega, by dsimp only; omega⟩ (by omega))
      unfold Nd.v at HWC
      clear hlt
      go_wp2_with fail
      refine Calls.mono HWC.out ?_
      rintro e x1 ⟨A1, c1, rfl, hnw, hcw, hnl, hb⟩
      have hz : Below w9.heap.size w9 x1 := below_nx6 HLT.out hb
      have HCK := hide (gcheck_any A1 (m + 1) c1 _ x1 hnw (by omega) hcw)
      rw [(by rw [gph_snoc HGB.out, fit_relu, HGL.out, decide_eq_false (show ¬ ((0 : Int) ≤ (m : Int) ∧ (m : Int) < (m : Int)) by omega)]; simp : gphB (ns ++ [⟨5, some ⟨w9.heap.size, 0, none⟩, 1, 1, none, 0, 0, 0, 0, [(m : Int)], []⟩]) = false)] at HCK
      replace HBN := hide (below_nx6 HBN.out hz)
      replace HXR := hide (HXR.out.kept hz)
      replace HNR := hide (HNR.out.below hz)
      replace HXS := hide (HXS.out.kept hz)
      replace HNS := hide (HNS.out.below hz)
      clear hz hb hnw hcw hnl HLT HWC
      go_wp2_with fail
      refine Calls.mono HCK.out ?_
      rintro e x2 ⟨rfl, hb⟩
      have hz : Below x1.heap.size x1 x2 := hb
      replace HBN := hide (below_nx6 HBN.out hz)
      replace HXR := hide (HXR.out.kept hz)
      replace HNR := hide (HNR.out.below hz)
      replace HXS := hide (HXS.out.kept hz)
      replace HNS := hide (HNS.out.below hz)
      clear hz hb HCK c0
      have c0 := (HX.out.kept HBN.out).c0
      have hlt : Below x2.heap.size x2 (x2.alloc (.cells #[.int .i64 (-1)] 3)) := below_al6 (Below.refl _ _)
      have HLT := hide hlt
      have HWC := hide (with_any A m c ns ⟨5, some ⟨x2.heap.size, 0, none⟩, 1, 1, none, 0, 0, 0, 0, [(-1)], []⟩ _ (HN.out.below (below_nx6 HBN.out hlt)) HNIL.out ⟨lit_lies x2 .i64 [(-1)] 3, Lies.nothing, Nat.le_refl _, Nat.le_refl _, by dsimp only; omega, by dsimp only; omega, by dsimp only; omega, by dsimp only; have := HB9.out; omega, by dsimp only; omega⟩ (by omega))
      unfold Nd.v at HWC
      clear hlt
      go_wp2_with fail
      refine Calls.mono HWC.out ?_
      rintro e x3 ⟨A2, c2, rfl, hnw, hcw, hnl, hb⟩
      have hz : Below x2.heap.size x2 x3 := below_nx6 HLT.out hb
      have HCK := hide (gcheck_any A2 (m + 1) c2 _ x3 hnw (by omega) hcw)
      rw [(by rw [gph_snoc HGB.out, fit_relu, decide_eq_false (show ¬ ((0 : Int) ≤ -1 ∧ (-1 : Int) < ((gphS ns).length : Int)) by omega)]; simp : gphB (ns ++ [⟨5, some ⟨x2.heap.size, 0, none⟩, 1, 1, none, 0, 0, 0, 0, [(-1)], []⟩]) = false)] at HCK
      replace HBN := hide (below_nx6 HBN.out hz)
      replace HXR := hide (HXR.out.kept hz)
      replace HNR := hide (HNR.out.below hz)
      replace HXS := hide (HXS.out.kept hz)
      replace HNS := hide (HNS.out.below hz)
      clear hz hb hnw hcw hnl HLT HWC
      go_wp2_with fail
      refine Calls.mono HCK.out ?_
      rintro e x4 ⟨rfl, hb⟩
      have hz : Below x3.heap.size x3 x4 := hb
      replace HBN := hide (below_nx6 HBN.out hz)
      replace HXR := hide (HXR.out.kept hz)
      replace HNR := hide (HNR.out.below hz)
      replace HXS := hide (HXS.out.kept hz)
      replace HNS := hide (HNS.out.below hz)
      clear hz hb HCK c0
      have c0 := (HX.out.kept HBN.out).c0
      have hlt : Below x4.heap.size x4 (x4.alloc (.cells #[.int .i64 (t : Int)] 3)) := below_al6 (Below.refl _ _)
      have HLT := hide hlt
      have HWC := hide (with_any A m c ns ⟨5, some ⟨x4.heap.size, 0, none⟩, 1, 1, none, 0, 0, 1, 0, [(t : Int)], []⟩ _ (HN.out.below (below_nx6 HBN.out hlt)) HNIL.out ⟨lit_lies x4 .i64 [(t : Int)] 3, Lies.nothing, Nat.le_refl _, Nat.le_refl _, by dsimp only; omega, by dsimp only; omega, by dsimp only; omega, by dsimp only; have := HB9.out; omega, by dsimp only; omega⟩ (by omega))
      unfold Nd.v at HWC
      clear hlt
      go_wp2_with fail
      refine Calls.mono HWC.out ?_
      rintro e x5 ⟨A3, c3, rfl, hnw, hcw, hnl, hb⟩
      have hz : Below x4.heap.size x4 x5 := below_nx6 HLT.out hb
      have HCK := hide (gcheck_any A3 (m + 1) c3 _ x5 hnw (by omega) hcw)
      rw [(by rw [gph_snoc HGB.out, fit_relu, decide_eq_false (show ¬ (1 : Int) = 0 by omega)]; simp : gphB (ns ++ [⟨5, some ⟨x4.heap.size, 0, none⟩, 1, 1, none, 0, 0, 1, 0, [(t : Int)], []⟩]) = false)] at HCK
      replace HBN := hide (below_nx6 HBN.out hz)
      replace HXR := hide (HXR.out.kept hz)
      replace HNR := hide (HNR.out.below hz)
      replace HXS := hide (HXS.out.kept hz)
      replace HNS := hide (HNS.out.below hz)
      clear hz hb hnw hcw hnl HLT HWC
      go_wp2_with fail
      refine Calls.mono HCK.out ?_
      rintro e x6 ⟨rfl, hb⟩
      have hz : Below x5.heap.size x5 x6 := hb
      replace HBN := hide (below_nx6 HBN.out hz)
      replace HXR := hide (HXR.out.kept hz)
      replace HNR := hide (HNR.out.below hz)
      replace HXS := hide (HXS.out.kept hz)
      replace HNS := hide (HNS.out.below hz)
      clear hz hb HCK c0
      have c0 := (HX.out.kept HBN.out).c0
      have hlt : Below x6.heap.size x6 (x6.alloc (.cells #[.int .i64 (t : Int), .int .i64 (t : Int)] 3)) := below_al6 (Below.refl _ _)
      have HLT := hide hlt
      have HWC := hide (with_any A m c ns ⟨5, some ⟨x6.heap.size, 0, none⟩, 2, 2, none, 0, 0, 0, 0, [(t : Int), (t : Int)], []⟩ _ (HN.out.below (below_nx6 HBN.out hlt)) HNIL.out ⟨lit_lies x6 .i64 [(t : Int), (t : Int)] 3, Lies.nothing, Nat.le_refl _, Nat.le_refl _, by dsimp only; omega, by dsimp only; omega, by dsimp only; omega, by dsimp only; have := HB9.out; omega, by dsimp only; omega⟩ (by omega))
      unfold Nd.v at HWC
      clear hlt
      go_wp2_with fail
      refine Calls.mono HWC.out ?_
      rintro e x7 ⟨A4, c4, rfl, hnw, hcw, hnl, hb⟩
      have hz : Below x6.heap.size x6 x7 := below_nx6 HLT.out hb
      have HCK := hide (gcheck_any A4 (m + 1) c4 _ x7 hnw (by omega) hcw)
      rw [(by rw [gph_snoc HGB.out, fit_relu2]; simp : gphB (ns ++ [⟨5, some ⟨x6.heap.size, 0, none⟩, 2, 2, none, 0, 0, 0, 0, [(t : Int), (t : Int)], []⟩]) = false)] at HCK
      replace HBN := hide (below_nx6 HBN.out hz)
      replace HXR := hide (HXR.out.kept hz)
      replace HNR := hide (HNR.out.below hz)
      replace HXS := hide (HXS.out.kept hz)
      replace HNS := hide (HNS.out.below hz)
      clear hz hb hnw hcw hnl HLT HWC
      go_wp2_with fail
      refine Calls.mono HCK.out ?_
      rintro e x8 ⟨rfl, hb⟩
      have hz : Below x7.heap.size x7 x8 := hb
      replace HBN := hide (below_nx6 HBN.out hz)
      replace HXR := hide (HXR.out.kept hz)
      replace HNR := hide (HNR.out.below hz)
      replace HXS := hide (HXS.out.kept hz)
      replace HNS := hide (HNS.out.below hz)
      clear hz hb HCK c0
      have c0 := (HX.out.kept HBN.out).c0
      have hlt : Below x8.heap.size x8 (x8.alloc (.cells #[.int .i64 1] 3)) := below_al6 (Below.refl _ _)
      have HLT := hide hlt
      have HWC := hide (with_any A m c ns ⟨1, none, 0, 0, some ⟨x8.heap.size, 0, none⟩, 1, 1, 0, 0, [], [1]⟩ _ (HN.out.below (below_nx6 HBN.out hlt)) HNIL.out ⟨Lies.nothing, lit_lies x8 .i64 [1] 3, Nat.le_refl _, Nat.le_refl _, by dsimp only; omega, by dsimp only; omega, by dsimp only; omega, by dsimp only; have := HB9.out; omega, by dsimp only; omega⟩ (by omega))
      unfold Nd.v at HWC
      clear hlt
      go_wp2_with fail
      refine Calls.mono HWC.out ?_
      rintro e x9 ⟨A5, c5, rfl, hnw, hcw, hnl, hb⟩
      have hz : Below x8.heap.size x8 x9 := below_nx6 HLT.out hb
      have HCK := hide (gcheck_any A5 (m + 1) c5 _ x9 hnw (by omega) hcw)
      rw [(by rw [gph_snoc HGB.out, decide_eq_false (show ¬ ((1 : Int) ≠ 1) by omega)]; simp : gphB (ns ++ [⟨1, none, 0, 0, some ⟨x8.heap.size, 0, none⟩, 1, 1, 0, 0, [], [1]⟩]) = false)] at HCK
      replace HBN := hide (below_nx6 HBN.out hz)
      replace HXR := hide (HXR.out.kept hz)
      replace HNR := hide (HNR.out.below hz)
      replace HXS := hide (HXS.out.kept hz)
      replace HNS := hide (HNS.out.below hz)
      clear hz hb hnw hcw hnl HLT HWC
      go_wp2_with fail
      refine Calls.mono HCK.out ?_
      rintro e x10 ⟨rfl, hb⟩
      have hz : Below x9.heap.size x9 x10 := hb
      replace HBN := hide (below_nx6 HBN.out hz)
      replace HXR := hide (HXR.out.kept hz)
      replace HNR := hide (HNR.out.below hz)
      replace HXS := hide (HXS.out.kept hz)
      replace HNS := hide (HNS.out.below hz)
      clear hz hb HCK c0
      have c0 := (HX.out.kept HBN.out).c0
      go_wp2
      go_ret
      exact ⟨rfl, below_nx6 HB0.out HBN.out⟩
  · have hG2 : gphB (ns ++ [⟨5, some ⟨w3.heap.size, 0, none⟩, 1, 1, none, 0, 0, 0, 0, [(t : Int)], []⟩]) = false := by rw [HFR.out]; exact decide_eq_false h32
    have hE0 : E2 = 1 := by rw [HE2.out, gphE, hG2]; rfl
    subst hE0
    have q32 : ¬ (m : Int) < 32 := by omega
    clear hG2
    have HCK := hide (gcheck_any AS (m + 1) cS _ w7 HNS.out (by omega) HCS.out)
    rw [HFS.out, decide_eq_false h32, Bool.false_and] at HCK
    go_wp2_with fail
    refine Calls.mono HCK.out ?_
    rintro e w8 ⟨rfl, hb⟩
    have hz : Below w7.heap.size w7 w8 := hb
    replace HBN := hide (below_nx6 HBN.out hz)
    replace HXR := hide (HXR.out.kept hz)
    replace HNR := hide (HNR.out.below hz)
    replace HXS := hide (HXS.out.kept hz)
    replace HNS := hide (HNS.out.below hz)
    replace HSG := hide (HSG.out.below hz)
    replace HSG2 := hide (HSG2.out.below hz)
    clear hz hb HCK c0 c1
    have c0 := (HX.out.kept HBN.out).c0
    have c1 := HXS.out.c0
    go_wp2
    have hS0 : Hid (True) := hide (trivial)
    refine wp_region_U (fun _ v => True) 99 (by kernel_rfl) ?_
    refine wpAnyU_take (i := 0) (oi := { dst := some 80, op := _, type := _, pos := _, after := _, guard := none }) (v := .int .i64 1) rfl (by kernel_rfl) (by kernel_rfl) (by kernel_rfl) (by kernel_rfl) (fun _ _ _ h => h) (yields_take rfl (fun w' hw => by go_simp)) hS0.out ?_
    simp only [Act.put, List.setIfInBounds_toArray, List.set_cons_zero, List.set_cons_succ]
    refine wpAnyU_take (i := 1) (oi := { dst := some 81, op := _, type := _, pos := _, after := _, guard := none }) (v := .bool false) rfl (by kernel_rfl) (by kernel_rfl) (by kernel_rfl) (by kernel_rfl) (fun _ _ _ h => h) (yields_take rfl (fun w' hw => by go_simp)) hS0.out ?_
    simp only [Act.put, List.setIfInBounds_toArray, List.set_cons_zero, List.set_cons_succ]
    refine wpAnyU_take (i := 2) (oi := { dst := some 82, op := _, type := _, pos := _, after := _, guard := none }) (v := .bool false) rfl (by kernel_rfl) (by kernel_rfl) (by kernel_rfl) (by kernel_rfl) (fun _ _ _ h => h) (yields_take rfl (fun w' hw => by go_simp)) hS0.out ?_
    simp only [Act.put, List.setIfInBounds_toArray, List.set_cons_zero, List.set_cons_succ]
    refine wpAnyU_take (i := 3) (oi := { dst := some 83, op := _, type := _, pos := _, after := _, guard := some (2, true) }) (v := undef) rfl (by kernel_rfl) (by kernel_rfl) (by kernel_rfl) (by kernel_rfl) (fun _ _ _ h => h) (.inr ⟨rfl, rfl⟩) hS0.out ?_
    simp only [Act.put, List.setIfInBounds_toArray, List.set_cons_zero, List.set_cons_succ]
    refine wpAnyU_take (i := 4) (oi := { dst := some 84, op := _, type := _, pos := _, after := _, guard := some (2, true) }) (v := undef) rfl (by kernel_rfl) (by kernel_rfl) (by kernel_rfl) (by kernel_rfl) (fun _ _ _ h => h) (.inr ⟨rfl, rfl⟩) hS0.out ?_
    simp only [Act.put, List.setIfInBounds_toArray, List.set_cons_zero, List.set_cons_succ]
    refine wpAnyU_take (i := 5) (oi := { dst := some 85, op := _, type := _, pos := _, after := _, guard := some (2, true) }) (v := undef) rfl (by kernel_rfl) (by kernel_rfl) (by kernel_rfl) (by kernel_rfl) (fun _ _ _ h => h) (.inr ⟨rfl, rfl⟩) hS0.out ?_
    simp only [Act.put, List.setIfInBounds_toArray, List.set_cons_zero, List.set_cons_succ]
    refine wpAnyU_take (i := 6) (oi := { dst := some 86, op := _, type := _, pos := _, after := _, guard := some (2, true) }) (v := undef) rfl (by kernel_rfl) (by kernel_rfl) (by kernel_rfl) (by kernel_rfl) (fun _ _ _ h => h) (.inr ⟨rfl, rfl⟩) hS0.out ?_
    simp only [Act.put, List.setIfInBounds_toArray, List.set_cons_zero, List.set_cons_succ]
    refine wpAnyU_take (i := 7) (oi := { dst := some 87, op := _, type := _, pos := _, after := _, guard := some (2, true) }) (v := undef) rfl (by kernel_rfl) (by kernel_rfl) (by kernel_rfl) (by kernel_rfl) (fun _ _ _ h => h) (.inr ⟨rfl, rfl⟩) hS0.out ?_
    simp only [Act.put, List.setIfInBounds_toArray, List.set_cons_zero, List.set_cons_succ]
    refine wpAnyU_take (i := 8) (oi := { dst := some 88, op := _, type := _, pos := _, after := _, guard := some (2, true) }) (v := undef) rfl (by kernel_rfl) (by kernel_rfl) (by kernel_rfl) (by kernel_rfl) (fun _ _ _ h => h) (.inr ⟨rfl, rfl⟩) hS0.out ?_
    simp only [Act.put, List.setIfInBounds_toArray, List.set_cons_zero, List.set_cons_succ]
    refine wpAnyU_take (i := 9) (oi := { dst := some 89, op := _, type := _, pos := _, after := _, guard := some (8, false) }) (v := undef) rfl (by kernel_rfl) (by kernel_rfl) (by kernel_rfl) (by kernel_rfl) (fun _ _ _ h => h) (.inr ⟨rfl, rfl⟩) hS0.out ?_
    simp only [Act.put, List.setIfInBounds_toArray, List.set_cons_zero, List.set_cons_succ]
    refine wpAnyU_take (i := 10) (oi := { dst := some 90, op := _, type := _, pos := _, after := _, guard := some (8, false) }) (v := undef) rfl (by kernel_rfl) (by kernel_rfl) (by kernel_rfl) (by kernel_rfl) (fun _ _ _ h => h) (.inr ⟨rfl, rfl⟩) hS0.out ?_
    simp only [Act.put, List.setIfInBounds_toArray, List.set_cons_zero, List.set_cons_succ]
    refine wpAnyU_take (i := 11) (oi := { dst := some 91, op := _, type := _, pos := _, after := _, guard := some (8, false) }) (v := undef) rfl (by kernel_rfl) (by kernel_rfl) (by kernel_rfl) (by kernel_rfl) (fun _ _ _ h => h) (.inr ⟨rfl, rfl⟩) hS0.out ?_
    simp only [Act.put, List.setIfInBounds_toArray, List.set_cons_zero, List.set_cons_succ]
    refine wpAnyU_take (i := 12) (oi := { dst := some 92, op := _, type := _, pos := _, after := _, guard := some (8, false) }) (v := undef) rfl (by kernel_rfl) (by kernel_rfl) (by kernel_rfl) (by kernel_rfl) (fun _ _ _ h => h) (.inr ⟨rfl, rfl⟩) hS0.out ?_
    simp only [Act.put, List.setIfInBounds_toArray, List.set_cons_zero, List.set_cons_succ]
    refine wpAnyU_take (i := 13) (oi := { dst := some 93, op := _, type := _, pos := _, after := _, guard := some (8, false) }) (v := undef) rfl (by kernel_rfl) (by kernel_rfl) (by kernel_rfl) (by kernel_rfl) (fun _ _ _ h => h) (.inr ⟨rfl, rfl⟩) hS0.out ?_
    simp only [Act.put, List.setIfInBounds_toArray, List.set_cons_zero, List.set_cons_succ]
    refine wpAnyU_take (i := 14) (oi := { dst := some 94, op := _, type := _, pos := _, after := _, guard := some (8, false) }) (v := undef) rfl (by kernel_rfl) (by kernel_rfl) (by kernel_rfl) (by kernel_rfl) (fun _ _ _ h => h) (.inr ⟨rfl, rfl⟩) hS0.out ?_
    simp only [Act.put, List.setIfInBounds_toArray, List.set_cons_zero, List.set_cons_succ]
    refine wpAnyU_take (i := 15) (oi := { dst := some 95, op := _, type := _, pos := _, after := _, guard := some (8, false) }) (v := undef) rfl (by kernel_rfl) (by kernel_rfl) (by kernel_rfl) (by kernel_rfl) (fun _ _ _ h => h) (.inr ⟨rfl, rfl⟩) hS0.out ?_
    simp only [Act.put, List.setIfInBounds_toArray, List.set_cons_zero, List.set_cons_succ]
    refine wpAnyU_take (i := 16) (oi := { dst := some 96, op := _, type := _, pos := _, after := _, guard := some (8, false) }) (v := undef) rfl (by kernel_rfl) (by kernel_rfl) (by kernel_rfl) (by kernel_rfl) (fun _ _ _ h => h) (.inr ⟨rfl, rfl⟩) hS0.out ?_
    simp only [Act.put, List.setIfInBounds_toArray, List.set_cons_zero, List.set_cons_succ]
    refine wpAnyU_take (i := 17) (oi := { dst := some 97, op := _, type := _, pos := _, after := _, guard := some (8, false) }) (v := undef) rfl (by kernel_rfl) (by kernel_rfl) (by kernel_rfl) (by kernel_rfl) (fun _ _ _ h => h) (.inr ⟨rfl, rfl⟩) hS0.out ?_
    simp only [Act.put, List.setIfInBounds_toArray, List.set_cons_zero, List.set_cons_succ]
    refine wpAnyU_take (i := 18) (oi := { dst := some 98, op := _, type := _, pos := _, after := _, guard := some (8, false) }) (v := undef) rfl (by kernel_rfl) (by kernel_rfl) (by kernel_rfl) (by kernel_rfl) (fun _ _ _ h => h) (.inr ⟨rfl, rfl⟩) hS0.out ?_
    simp only [Act.put, List.setIfInBounds_toArray, List.set_cons_zero, List.set_cons_succ]
    refine wpAnyU_take (i := 19) (oi := { dst := some 99, op := _, type := _, pos := _, after := _, guard := some (2, true) }) (v := undef) rfl (by kernel_rfl) (by kernel_rfl) (by kernel_rfl) (by kernel_rfl) (fun _ _ _ h => h) (.inr ⟨rfl, rfl⟩) hS0.out ?_
    simp only [Act.put, List.setIfInBounds_toArray, List.set_cons_zero, List.set_cons_succ]
    refine wpAnyU_take (i := 20) (oi := { dst := some 100, op := _, type := _, pos := _, after := _, guard := none }) (v := .bool false) rfl (by kernel_rfl) (by kernel_rfl) (by kernel_rfl) (by kernel_rfl) (fun _ _ _ h => h) (yields_take rfl (fun w' hw => by go_simp)) hS0.out ?_
    simp only [Act.put, List.setIfInBounds_toArray, List.set_cons_zero, List.set_cons_succ]
    refine wpAnyU_done (by kernel_rfl) ?_ _
    clear hS0
    obtain ⟨w9, hw9⟩ : ∃ z, z = w8.drew := ⟨_, rfl⟩
    have hz : Below w8.heap.size w8 w9 := by rw [hw9]; exact below_drewN (Below.refl _ _) 1
    rw [← hw9]
    clear hw9
    replace HBN := hide (below_nx6 HBN.out hz)
    replace HXR := hide (HXR.out.kept hz)
    replace HNR := hide (HNR.out.below hz)
    replace HXS := hide (HXS.out.kept hz)
    replace HNS := hide (HNS.out.below hz)
    replace HSG := hide (HSG.out.below hz)
    replace HSG2 := hide (HSG2.out.below hz)
    clear hz c0 c1 HSG HSG2
    have c0 := (HX.out.kept HBN.out).c0
    have hlt : Below w9.heap.size w9 (w9.alloc (.cells #[.int .i64 (m : Int)] 3)) := below_al6 (Below.refl _ _)
    have HLT := hide hlt
    have HWC := hide (with_any A m c ns ⟨5, some ⟨w9.heap.size, 0, none⟩, 1, 1, none, 0, 0, 0, 0, [(m : Int)], []⟩ _ (HN.out.below (below_nx6 HBN.out hlt)) HNIL.out ⟨lit_lies w9 .i64 [(m : Int)] 3, Lies.nothing, Nat.le_refl _, Nat.le_refl _, by dsimp only; omega, by dsimp only; omega, by dsimp only; omega, by dsimp only; have := HB9.out; omega, by dsimp only; omega⟩ (by omega))
    unfold Nd.v at HWC
    clear hlt
    go_wp2_with fail
    refine Calls.mono HWC.out ?_
    rintro e x1 ⟨A1, c1, rfl, hnw, hcw, hnl, hb⟩
    have hz : Below w9.heap.size w9 x1 := below_nx6 HLT.out hb
    have HCK := hide (gcheck_any A1 (m + 1) c1 _ x1 hnw (by omega) hcw)
    rw [(by rw [gph_snoc HGB.out, fit_relu, HGL.out, decide_eq_false (show ¬ ((0 : Int) ≤ (m : Int) ∧ (m : Int) < (m : Int)) by omega)]; simp : gphB (ns ++ [⟨5, some ⟨w9.heap.size, 0, none⟩, 1, 1, none, 0, 0, 0, 0, [(m : Int)], []⟩]) = false)] at HCK
    replace HBN := hide (below_nx6 HBN.out hz)
    replace HXR := hide (HXR.out.kept hz)
    replace HNR := hide (HNR.out.below hz)
    replace HXS := hide (HXS.out.kept hz)
    replace HNS := hide (HNS.out.below hz)
    clear hz hb hnw hcw hnl HLT HWC
    go_wp2_with fail
    refine Calls.mono HCK.out ?_
    rintro e x2 ⟨rfl, hb⟩
    have hz : Below x1.heap.size x1 x2 := hb
    replace HBN := hide (below_nx6 HBN.out hz)
    replace HXR := hide (HXR.out.kept hz)
    replace HNR := hide (HNR.out.below hz)
    replace HXS := hide (HXS.out.kept hz)
    replace HNS := hide (HNS.out.below hz)
    clear hz hb HCK c0
    have c0 := (HX.out.kept HBN.out).c0
    have hlt : Below x2.heap.size x2 (x2.alloc (.cells #[.int .i64 (-1)] 3)) := below_al6 (Below.refl _ _)
    have HLT := hide hlt
    have HWC := hide (with_any A m c ns ⟨5, some ⟨x2.heap.size, 0, none⟩, 1, 1, none, 0, 0, 0, 0, [(-1)], []⟩ _ (HN.out.below (below_nx6 HBN.out hlt)) HNIL.out ⟨lit_lies x2 .i64 [(-1)] 3, Lies.nothing, Nat.le_refl _, Nat.le_refl _, by dsimp only; omega, by dsimp only; omega, by dsimp only; omega, by dsimp only; have := HB9.out; omega, by dsimp only; omega⟩ (by omega))
    unfold Nd.v at HWC
    clear hlt
    go_wp2_with fail
    refine Calls.mono HWC.out ?_
    rintro e x3 ⟨A2, c2, rfl, hnw, hcw, hnl, hb⟩
    have hz : Below x2.heap.size x2 x3 := below_nx6 HLT.out hb
    have HCK := hide (gcheck_any A2 (m + 1) c2 _ x3 hnw (by omega) hcw)
    rw [(by rw [gph_snoc HGB.out, fit_relu, decide_eq_false (show ¬ ((0 : Int) ≤ -1 ∧ (-1 : Int) < ((gphS ns).length : Int)) by omega)]; simp : gphB (ns ++ [⟨5, some ⟨x2.heap.size, 0, none⟩, 1, 1, none, 0, 0, 0, 0, [(-1)], []⟩]) = false)] at HCK
    replace HBN := hide (below_nx6 HBN.out hz)
    replace HXR := hide (HXR.out.kept hz)
    replace HNR := hide (HNR.out.below hz)
    replace HXS := hide (HXS.out.kept hz)
    replace HNS := hide (HNS.out.below hz)
    clear hz hb hnw hcw hnl HLT HWC
    go_wp2_with fail
    refine Calls.mono HCK.out ?_
    rintro e x4 ⟨rfl, hb⟩
    have hz : Below x3.heap.size x3 x4 := hb
    replace HBN := hide (below_nx6 HBN.out hz)
    replace HXR := hide (HXR.out.kept hz)
    replace HNR := hide (HNR.out.below hz)
    replace HXS := hide (HXS.out.kept hz)
    replace HNS := hide (HNS.out.below hz)
    clear hz hb HCK c0
    have c0 := (HX.out.kept HBN.out).c0
    have hlt : Below x4.heap.size x4 (x4.alloc (.cells #[.int .i64 (t : Int)] 3)) := below_al6 (Below.refl _ _)
    have HLT := hide hlt
    have HWC := hide (with_any A m c ns ⟨5, some ⟨x4.heap.size, 0, none⟩, 1, 1, none, 0, 0, 1, 0, [(t : Int)], []⟩ _ (HN.out.below (below_nx6 HBN.out hlt)) HNIL.out ⟨lit_lies x4 .i64 [(t : Int)] 3, Lies.nothing, Nat.le_refl _, Nat.le_refl _, by dsimp only; omega, by dsimp only; omega, by dsimp only; omega, by dsimp only; have := HB9.out; omega, by dsimp only; omega⟩ (by omega))
    unfold Nd.v at HWC
    clear hlt
    go_wp2_with fail
    refine Calls.mono HWC.out ?_
    rintro e x5 ⟨A3, c3, rfl, hnw, hcw, hnl, hb⟩
    have hz : Below x4.heap.size x4 x5 := below_nx6 HLT.out hb
    have HCK := hide (gcheck_any A3 (m + 1) c3 _ x5 hnw (by omega) hcw)
    rw [(by rw [gph_snoc HGB.out, fit_relu, decide_eq_false (show ¬ (1 : Int) = 0 by omega)]; simp : gphB (ns ++ [⟨5, some ⟨x4.heap.size, 0, none⟩, 1, 1, none, 0, 0, 1, 0, [(t : Int)], []⟩]) = false)] at HCK
    replace HBN := hide (below_nx6 HBN.out hz)
    replace HXR := hide (HXR.out.kept hz)
    replace HNR := hide (HNR.out.below hz)
    replace HXS := hide (HXS.out.kept hz)
    replace HNS := hide (HNS.out.below hz)
    clear hz hb hnw hcw hnl HLT HWC
    go_wp2_with fail
    refine Calls.mono HCK.out ?_
    rintro e x6 ⟨rfl, hb⟩
    have hz : Below x5.heap.size x5 x6 := hb
    replace HBN := hide (below_nx6 HBN.out hz)
    replace HXR := hide (HXR.out.kept hz)
    replace HNR := hide (HNR.out.below hz)
    replace HXS := hide (HXS.out.kept hz)
    replace HNS := hide (HNS.out.below hz)
    clear hz hb HCK c0
    have c0 := (HX.out.kept HBN.out).c0
    have hlt : Below x6.heap.size x6 (x6.alloc (.cells #[.int .i64 (t : Int), .int .i64 (t : Int)] 3)) := below_al6 (Below.refl _ _)
    have HLT := hide hlt
    have HWC := hide (with_any A m c ns ⟨5, some ⟨x6.heap.size, 0, none⟩, 2, 2, none, 0, 0, 0, 0, [(t : Int), (t : Int)], []⟩ _ (HN.out.below (below_nx6 HBN.out hlt)) HNIL.out ⟨lit_lies x6 .i64 [(t : Int), (t : Int)] 3, Lies.nothing, Nat.le_refl _, Nat.le_refl _, by dsimp only; omega, by dsimp only; omega, by dsimp only; omega, by dsimp only; have := HB9.out; omega, by dsimp only; omega⟩ (by omega))
    unfold Nd.v at HWC
    clear hlt
    go_wp2_with fail
    refine Calls.mono HWC.out ?_
    rintro e x7 ⟨A4, c4, rfl, hnw, hcw, hnl, hb⟩
    have hz : Below x6.heap.size x6 x7 := below_nx6 HLT.out hb
    have HCK := hide (gcheck_any A4 (m + 1) c4 _ x7 hnw (by omega) hcw)
    rw [(by rw [gph_snoc HGB.out, fit_relu2]; simp : gphB (ns ++ [⟨5, some ⟨x6.heap.size, 0, none⟩, 2, 2, none, 0, 0, 0, 0, [(t : Int), (t : Int)], []⟩]) = false)] at HCK
    replace HBN := hide (below_nx6 HBN.out hz)
    replace HXR := hide (HXR.out.kept hz)
    replace HNR := hide (HNR.out.below hz)
    replace HXS := hide (HXS.out.kept hz)
    replace HNS := hide (HNS.out.below hz)
    clear hz hb hnw hcw hnl HLT HWC
    go_wp2_with fail
    refine Calls.mono HCK.out ?_
    rintro e x8 ⟨rfl, hb⟩
    have hz : Below x7.heap.size x7 x8 := hb
    replace HBN := hide (below_nx6 HBN.out hz)
    replace HXR := hide (HXR.out.kept hz)
    replace HNR := hide (HNR.out.below hz)
    replace HXS := hide (HXS.out.kept hz)
    replace HNS := hide (HNS.out.below hz)
    clear hz hb HCK c0
    have c0 := (HX.out.kept HBN.out).c0
    have hlt : Below x8.heap.size x8 (x8.alloc (.cells #[.int .i64 1] 3)) := below_al6 (Below.refl _ _)
    have HLT := hide hlt
    have HWC := hide (with_any A m c ns ⟨1, none, 0, 0, some ⟨x8.heap.size, 0, none⟩, 1, 1, 0, 0, [], [1]⟩ _ (HN.out.below (below_nx6 HBN.out hlt)) HNIL.out ⟨Lies.nothing, lit_lies x8 .i64 [1] 3, Nat.le_refl _, Nat.le_refl _, by dsimp only; omega, by dsimp only; omega, by dsimp only; omega, by dsimp only; have := HB9.out; omega, by dsimp only; omega⟩ (by omega))
    unfold Nd.v at HWC
    clear hlt
    go_wp2_with fail
    refine Calls.mono HWC.out ?_
    rintro e x9 ⟨A5, c5, rfl, hnw, hcw, hnl, hb⟩
    have hz : Below x8.heap.size x8 x9 := below_nx6 HLT.out hb
    have HCK := hide (gcheck_any A5 (m + 1) c5 _ x9 hnw (by omega) hcw)
    rw [(by rw [gph_snoc HGB.out, decide_eq_false (show ¬ ((1 : Int) ≠ 1) by omega)]; simp : gphB (ns ++ [⟨1, none, 0, 0, some ⟨x8.heap.size, 0, none⟩, 1, 1, 0, 0, [], [1]⟩]) = false)] at HCK
    replace HBN := hide (below_nx6 HBN.out hz)
    replace HXR := hide (HXR.out.kept hz)
    replace HNR := hide (HNR.out.below hz)
    replace HXS := hide (HXS.out.kept hz)
    replace HNS := hide (HNS.out.below hz)
    clear hz hb hnw hcw hnl HLT HWC
    go_wp2_with fail
    refine Calls.mono HCK.out ?_
    rintro e x10 ⟨rfl, hb⟩
    have hz : Below x9.heap.size x9 x10 := hb
    replace HBN := hide (below_nx6 HBN.out hz)
    replace HXR := hide (HXR.out.kept hz)
    replace HNR := hide (HNR.out.below hz)
    replace HXS := hide (HXS.out.kept hz)
    replace HNS := hide (HNS.out.below hz)
    clear hz hb HCK c0
    have c0 := (HX.out.kept HBN.out).c0
    go_wp2
    go_ret
    exact ⟨rfl, below_nx6 HB0.out HBN.out⟩

end Go.Proofs.Ytdlhhkegkfhmoaa
