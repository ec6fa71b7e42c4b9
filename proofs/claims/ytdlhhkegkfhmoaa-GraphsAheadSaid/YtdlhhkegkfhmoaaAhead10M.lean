/- GraphsAhead: for every graph and every number of nodes the walk of its Go text ends in true. -/
import Derived.Test.YtdlhhkegkfhmoaaAlive10M
import Derived.Test.YtdlhhkegkfhmoaaGp2M
import Derived.Test.YtdlhhkegkfhmoaaWA
namespace Go.Proofs.Ytdlhhkegkfhmoaa
open Go.RowKit
set_option linter.unusedVariables false
set_option linter.unusedSimpArgs false
set_option maxRecDepth 100000

/-- A beginning that may not be. -/
theorem gph_notake {ns : List Nd} {k : Nat} {x : Nd} (hk1 : 1 ≤ k) (hk : k ≤ ns.length) (hx : ns[k - 1]? = some x) (h0 : 0 ≤ inIx ns) (h : ¬ (inIx ns < (k : Int) ∧ x.kd ≠ 1 ∧ x.kd ≠ 2)) : gphB (ns.take k) = false := by
  cases hb : gphB (ns.take k) with
  | false => rfl
  | true =>
    exfalso
    obtain ⟨he, _⟩ := gphB_parts hb
    obtain ⟨e1, e2, e3, e4⟩ := endsOk_parts he
    have hl : (ns.take k).length = k := by rw [List.length_take]; omega
    rw [lastOk_at (x := x) (by rw [hl, List.getElem?_take, if_pos (by omega)]; exact hx)] at e4
    rw [inIx_take] at e2
    by_cases hf : inIx ns < (k : Int)
    · by_cases h1 : x.kd = 1
      · simp [h1] at e4
      · by_cases h2 : x.kd = 2
        · simp [h2] at e4
        · exact h ⟨hf, h1, h2⟩
    · rw [if_neg (by omega)] at e2; omega

set_option maxHeartbeats 16000000 in
theorem ahead10_any (A : Option Addr) (n c : Nat) (ns : List Nd) (a : Int) (w : World) (h : NsIn w A n ns) (hc : n ≤ c) (hn : n ≤ 70368744177664) (ha : 0 ≤ a ∧ a < 256) :
    Calls Try.prog 3 #[.agg #[.slice A n c], .int .u8 a] w fun e w' => e = .returned (.bool true) ∧ Below w.heap.size w w' := by
  obtain ⟨W0, hW0⟩ : ∃ W0, W0 = w.alloc (.cells #[.slice A n c] 24) := ⟨_, rfl⟩
  have HB0 : Hid (Below w.heap.size w W0) := hide (by rw [hW0]; exact below_al6 (Below.refl _ _))
  have HX : Hid (BoxG W0 w.heap.size (.slice A n c)) := hide (by rw [hW0]; exact BoxG.new w _)
  have HN := hide (h.below HB0.out)
  have HL : Hid (ns.length = n) := hide h.1
  have hW0' := hW0.symm
  clear hW0 h
  go_enter Try.func3, Try.ntmps3
  go_wp2_with fail
  refine Calls.mono (alive10_any _) ?_
  rintro e w1 ⟨rfl, hb⟩
  have HBN := hide hb
  clear hb
  have c0 := (HX.out.kept HBN.out).c0
  go_wp2_with fail
  refine Calls.mono (graph_size A n c ns _ (HN.out.below HBN.out) hn) ?_
  rintro e w2 ⟨r, rfl, hr0, hr1, hb⟩
  replace HBN := hide (below_nx6 HBN.out hb)
  clear hb c0
  by_cases hbig : 20000 < r
  · go_wp2_with fail
    refine Calls.mono (alive10_any _) ?_
    rintro e w3 ⟨rfl, hb⟩
    replace HBN := hide (below_nx6 HBN.out hb)
    clear hb
    go_wp2
    go_ret
    exact ⟨rfl, below_nx6 HB0.out HBN.out⟩
  have hsz := hr1 (by omega)
  have HSZ := hide hsz
  have hn2 : n ≤ 10000 := by have h1 := szN_len ns; rw [HL.out] at h1; omega
  clear hr1 hsz hr0
  have c0 := (HX.out.kept HBN.out).c0
  have HS1 := hide (gshapes_any A n c ns _ (HN.out.below HBN.out) (by omega) hc)
  obtain ⟨E, hE⟩ : ∃ z, z = gphE ns := ⟨_, rfl⟩
  rw [← hE] at HS1
  have HE := hide hE
  clear hE
  go_wp2_with fail
  refine Calls.mono HS1.out ?_
  rintro e w3 ⟨R, m, kc, gs, rfl, hG, hgs, hb⟩
  have HSG := hide hG.sg
  have HGS := hide hgs
  have HML : Hid (m = (gphS ns).length) := hide (by rw [← hgs, List.length_map, hG.1])
  replace HBN := hide (below_nx6 HBN.out hb)
  clear hb c0 hG hgs HS1
  by_cases hE0 : E = 0
  · subst hE0
    have c1 := (HX.out.kept HBN.out).c0
    have HGB : Hid (gphB ns = true) := hide (gphE_zero.1 HE.out.symm)
    have HEN := hide (endsOk_parts (gphB_parts HGB.out).1)
    have hn32 : n ≤ 32 := by have h := HEN.out.1; rw [HL.out] at h; exact h
    have hn1 : 1 ≤ n := by have h1 := HEN.out.2.1; have h2 := inIx_ge ns; rw [HL.out] at h2; omega
    have hmn : m = n := by rw [HML.out, gphS_len HGB.out, HL.out]
    subst hmn
    obtain ⟨bA, oA, rfl, hbA, _⟩ := HN.out.2 hn1
    obtain ⟨Z, rfl⟩ := Int.eq_ofNat_of_zero_le ha.1
    obtain ⟨t, ht⟩ : ∃ z, z = Z % m := ⟨_, rfl⟩
    have r1 : Int.tmod (Z : Int) (m : Int) = (t : Int) := by rw [ht]; rfl
    have htn : t < m := by rw [ht]; exact Nat.mod_lt _ (by omega)
    have r2 : ¬ (m : Int) = 0 := by omega
    have r2' : ¬ m = 0 := by omega
    have r3 : IntKind.i64.wrap (t : Int) = (t : Int) := by rw [IntKind.wrap_i64]; omega
    obtain ⟨k, hkt⟩ : ∃ z, z = t + 1 := ⟨_, rfl⟩
    have r4 : IntKind.i64.wrap (1 + (t : Int)) = (k : Int) := by rw [IntKind.wrap_i64]; omega
    have r5 : IntKind.i64.wrap ((k : Int) - 1) = (t : Int) := by rw [IntKind.wrap_i64]; omega
    have r6 : (0 : Int) ≤ (k : Int) := by omega
    have r7 : (k : Int) ≤ (m : Int) := by omega
    have r8 : (m : Int) ≤ (c : Int) := by omega
    have r9 : (0 : Int) ≤ (t : Int) := by omega
    have r10 : (t : Int) < (m : Int) := by omega
    have rz : IntKind.i64.wrap (Z : Int) = (Z : Int) := by rw [IntKind.wrap_i64]; omega
    have HKT := hide hkt
    clear ht hkt
    have hk1 : 1 ≤ k := by have := HKT.out; omega
    have hkm : k ≤ m := by have := HKT.out; omega
    obtain ⟨V, hV⟩ : ∃ V, V = w3.alloc (.cells #[.slice (some ⟨bA, oA, none⟩) k c] 24) := ⟨_, rfl⟩
    have hbv : Below w3.heap.size w3 V := by rw [hV]; exact below_al6 (Below.refl _ _)
    have HX2 : Hid (BoxG V w3.heap.size (.slice (some ⟨bA, oA, none⟩) k c)) := hide (by rw [hV]; exact BoxG.new w3 _)
    replace HBN := hide (below_nx6 HBN.out hbv)
    replace HSG := hide (HSG.out.below hbv)
    have hV' := hV.symm
    clear hV hbv
    obtain ⟨b2, o2, x, eA, hxt, h0, h1, h2, h3, h4, hxo⟩ := (HN.out.below HBN.out).at htn
    cases eA
    have HXT : Hid (ns[k - 1]? = some x) := hide (by rw [show k - 1 = t by have := HKT.out; omega]; exact hxt)
    have c0 := (HX.out.kept HBN.out).c0
    have HIN := hide (input_any (some ⟨bA, oA, none⟩) m c ns V (HN.out.below HBN.out) (by omega))
    obtain ⟨z, hz⟩ : ∃ z, z = inIx ns := ⟨_, rfl⟩
    rw [← hz] at HIN
    have HZ := hide hz
    clear hz hxt hxo
    go_wp2_with fail
    refine Calls.mono HIN.out ?_
    rintro e w4 ⟨rfl, hb⟩
    replace HBN := hide (below_nx6 HBN.out hb)
    replace HX2 := hide (HX2.out.kept hb)
    replace HSG := hide (HSG.out.below hb)
    clear hb HIN h0 h1 h2 h3 h4 c0
    have HPRE : Hid (∀ v, Below W0.heap.size W0 v → NsIn v (some ⟨bA, oA, none⟩) k (ns.take k)) := hide (fun v hv => (HN.out.below hv).pre hkm)
    clear c1
    by_cases hzk : z < (k : Int)
    · have hzk2 : z < (k : Int) := hzk
      by_cases hx1 : x.kd = 1
      · have g1 : (x.kd == 1) = true := by simpa using hx1
        have hno : gphB (ns.take k) = false := gph_notake hk1 (by rw [HL.out]; exact hkm) HXT.out (by have := HEN.out.2.1; omega) (by rw [← HZ.out]; intro h; exact h.2.1 hx1)
        have HS2 := hide (gshapes_any (some ⟨bA, oA, none⟩) k c (ns.take k) w4 (HPRE.out w4 HBN.out) (by omega) (by omega))
        rw [show gphE (ns.take k) = 1 by rw [gphE, hno]; rfl] at HS2
        have c2 := HX2.out.c0
        clear hno
        go_wp2_with fail
        refine Calls.mono HS2.out ?_
        rintro e w5 ⟨R2, m2, kc2, gs2, rfl, _, _, hb⟩
        have HB5 := hide (below_nx6 HBN.out hb)
        clear hb HS2 c2
        go_wp2
        go_ret
        exact ⟨rfl, below_nx6 HB0.out HB5.out⟩
      have g1 : (x.kd == 1) = false := by simpa using hx1
      by_cases hx2 : x.kd = 2
      · have g2 : (x.kd == 2) = true := by simpa using hx2
        have hno : gphB (ns.take k) = false := gph_notake hk1 (by rw [HL.out]; exact hkm) HXT.out (by have := HEN.out.2.1; omega) (by rw [← HZ.out]; intro h; exact h.2.2 hx2)
        have HS2 := hide (gshapes_any (some ⟨bA, oA, none⟩) k c (ns.take k) w4 (HPRE.out w4 HBN.out) (by omega) (by omega))
        rw [show gphE (ns.take k) = 1 by rw [gphE, hno]; rfl] at HS2
        have c2 := HX2.out.c0
        clear hno
        go_wp2_with fail
        refine Calls.mono HS2.out ?_
        rintro e w5 ⟨R2, m2, kc2, gs2, rfl, _, _, hb⟩
        have HB5 := hide (below_nx6 HBN.out hb)
        clear hb HS2 c2
        go_wp2
        go_ret
        exact ⟨rfl, below_nx6 HB0.out HB5.out⟩
      have g2 : (x.kd == 2) = false := by simpa using hx2
      have g3 : (x.kd != 1) = true := by simpa using hx1
      have g4 : (x.kd != 2) = true := by simpa using hx2
      obtain ⟨hb2, hs2⟩ := gph_take HGB.out hk1 (by rw [HL.out]; exact hkm) (by rw [← HZ.out]; exact hzk) HXT.out hx1 hx2
      have HS2 := hide (gshapes_any (some ⟨bA, oA, none⟩) k c (ns.take k) w4 (HPRE.out w4 HBN.out) (by omega) (by omega))
      rw [gphE_zero.2 hb2] at HS2
      have HT2 := hide hs2
      have HBT := hide hb2
      have c2 := HX2.out.c0
      clear hb2 hs2
      go_wp2_with fail
      refine Calls.mono HS2.out ?_
      rintro e w5 ⟨R2, m2, kc2, gs2, rfl, hG2, hgs2, hb⟩
      have hm2 : m2 = k := by
        have h := congrArg List.length (hgs2.trans HT2.out)
        rw [List.length_map, hG2.1, List.length_take, ← HML.out] at h
        omega
      subst hm2
      have HSG2 := hide hG2.sg
      have HGS2 := hide (hgs2.trans HT2.out)
      replace HBN := hide (below_nx6 HBN.out hb)
      replace HSG := hide (HSG.out.below hb)
      have c0 := (HX.out.kept HBN.out).c0
      clear hb HS2 c2 hG2 hgs2
      go_wp2
      go_loopw [13] (fun i wr => ∃ j : Nat, j ≤ m2 ∧ i = .int .i64 j ∧ Hid (Below w5.heap.size w5 wr)) (fun i _ => m2 - (intOf i).toNat)
      case atStart => exact ⟨0, Nat.zero_le _, rfl, hide (Below.refl _ _)⟩
      case round =>
        obtain ⟨j, hj, rfl, HBR⟩ := hrel
        by_cases hlt : j < m2
        · obtain ⟨bT, oT, g2, rfl, hg2, hcg2, hlg2, hgn2, hgo2⟩ := (HSG2.out.below HBR.out).at hlt
          obtain ⟨bS, oS, g, rfl, hg, hcg, hlg, hgn, hgo⟩ := (HSG.out.below HBR.out).at (show j < m by omega)
          have hE : g2.s = g.s ∧ 0 < sizeI g.s := by
            have h1 : (gs2.map Sg.s)[j]? = some g2.s := by rw [List.getElem?_map, hg2]; rfl
            have h2 : (gs.map Sg.s)[j]? = some g.s := by rw [List.getElem?_map, hg]; rfl
            rw [HGS2.out, List.getElem?_take, if_pos hlt, ← HGS.out, h2] at h1
            injection h1 with h1
            exact ⟨h1.symm, gphS_pos ns _ (by rw [← HGS.out]; exact List.mem_map.2 ⟨g, List.mem_of_getElem? hg, rfl⟩)⟩
          have HEQ := hide hE.1
          have HPOS : Hid (0 < sizeI g2.s) := hide (by rw [hE.1]; exact hE.2)
          have HCG : Hid (∀ v, Below wr.heap.size wr v → v.cell? ⟨bT, oT + j, none⟩ = some (.slice g2.A g2.n g2.c) ∧ v.cell? ⟨bS, oS + j, none⟩ = some (.slice g.A g.n g.c)) := hide (fun v hv => ⟨(hv.cell (World.block_lt_of_cell? wr _ hcg2)).trans hcg2, (hv.cell (World.block_lt_of_cell? wr _ hcg)).trans hcg⟩)
          have HLG2 := hide hlg2
          have HLG := hide hlg
          have j00 : (0 : Int) ≤ (j : Int) := by omega
          have j10 : (j : Int) < (m2 : Int) := by omega
          have j11 : (j : Int) < (m : Int) := by omega
          have hd0 : Below wr.heap.size wr wr.drew := below_drewN (Below.refl _ _) 1
          clear hg2 hg hcg2 hcg hlg2 hlg hE
          go_wp2
          have hS0 : Hid (wr.drew.cell? ⟨bT, oT + j, none⟩ = some (.slice g2.A g2.n g2.c) ∧ wr.drew.cell? ⟨bS, oS + j, none⟩ = some (.slice g.A g.n g.c)) := hide (HCG.out _ hd0)
          refine wp_region_U (fun _ v => v.cell? ⟨bT, oT + j, none⟩ = some (.slice g2.A g2.n g2.c) ∧ v.cell? ⟨bS, oS + j, none⟩ = some (.slice g.A g.n g.c)) 99 (by kernel_rfl) ?_
          refine wpAnyU_take (i := 0) (oi := { dst := some 102, op := _, type := _, pos := _, after := _, guard := none }) (v := .slice (some ⟨bT, oT, none⟩) m2 kc2) rfl (by kernel_rfl) (by kernel_rfl) (by kernel_rfl) (by kernel_rfl) (fun _ _ _ h => h) (yields_take rfl (fun w' hw => by obtain ⟨h1, h2⟩ := hw.const; go_simp)) hS0.out ?_
          simp only [Act.put, List.setIfInBounds_toArray, List.set_cons_zero, List.set_cons_succ]
          refine wpAnyU_take (i := 1) (oi := { dst := some 103, op := _, type := _, pos := _, after := _, guard := none }) (v := .int .i64 (j : Int)) rfl (by kernel_rfl) (by kernel_rfl) (by kernel_rfl) (by kernel_rfl) (fun _ _ _ h => h) (yields_take rfl (fun w' hw => by obtain ⟨h1, h2⟩ := hw.const; go_simp)) hS0.out ?_
          simp only [Act.put, List.setIfInBounds_toArray, List.set_cons_zero, List.set_cons_succ]
          refine wpAnyU_take (i := 2) (oi := { dst := some 104, op := _, type := _, pos := _, after := _, guard := none }) (v := .pointer (some ⟨bT, oT + j, none⟩)) rfl (by kernel_rfl) (by kernel_rfl) (by kernel_rfl) (by kernel_rfl) (fun _ _ _ h => h) (yields_take rfl (fun w' hw => by obtain ⟨h1, h2⟩ := hw.const; go_simp)) hS0.out ?_
          simp only [Act.put, List.setIfInBounds_toArray, List.set_cons_zero, List.set_cons_succ]
          refine wpAnyU_take (i := 3) (oi := { dst := some 105, op := _, type := _, pos := _, after := _, guard := none }) (v := .slice g2.A g2.n g2.c) rfl (by kernel_rfl) (by kernel_rfl) (by kernel_rfl) (by kernel_rfl) (fun _ _ _ h => h) (yields_take rfl (fun w' hw => by obtain ⟨h1, h2⟩ := hw.const; go_simp)) hS0.out ?_
          simp only [Act.put, List.setIfInBounds_toArray, List.set_cons_zero, List.set_cons_succ]
          refine wpAnyU_take (i := 4) (oi := { dst := some 106, op := _, type := _, pos := _, after := _, guard := none }) (v := .slice (some ⟨bS, oS, none⟩) m kc) rfl (by kernel_rfl) (by kernel_rfl) (by kernel_rfl) (by kernel_rfl) (fun _ _ _ h => h) (yields_take rfl (fun w' hw => by obtain ⟨h1, h2⟩ := hw.const; go_simp)) hS0.out ?_
          simp only [Act.put, List.setIfInBounds_toArray, List.set_cons_zero, List.set_cons_succ]
          refine wpAnyU_take (i := 5) (oi := { dst := some 107, op := _, type := _, pos := _, after := _, guard := none }) (v := .int .i64 (j : Int)) rfl (by kernel_rfl) (by kernel_rfl) (by kernel_rfl) (by kernel_rfl) (fun _ _ _ h => h) (yields_take rfl (fun w' hw => by obtain ⟨h1, h2⟩ := hw.const; go_simp)) hS0.out ?_
          simp only [Act.put, List.setIfInBounds_toArray, List.set_cons_zero, List.set_cons_succ]
          refine wpAnyU_take (i := 6) (oi := { dst := some 108, op := _, type := _, pos := _, after := _, guard := none }) (v := .pointer (some ⟨bS, oS + j, none⟩)) rfl (by kernel_rfl) (by kernel_rfl) (by kernel_rfl) (by kernel_rfl) (fun _ _ _ h => h) (yields_take rfl (fun w' hw => by obtain ⟨h1, h2⟩ := hw.const; go_simp)) hS0.out ?_
          simp only [Act.put, List.setIfInBounds_toArray, List.set_cons_zero, List.set_cons_succ]
          refine wpAnyU_take (i := 7) (oi := { dst := some 109, op := _, type := _, pos := _, after := _, guard := none }) (v := .slice g.A g.n g.c) rfl (by kernel_rfl) (by kernel_rfl) (by kernel_rfl) (by kernel_rfl) (fun _ _ _ h => h) (yields_take rfl (fun w' hw => by obtain ⟨h1, h2⟩ := hw.const; go_simp)) hS0.out ?_
          simp only [Act.put, List.setIfInBounds_toArray, List.set_cons_zero, List.set_cons_succ]
          refine wpAnyU_one (i := 8) (by kernel_rfl) rfl ?_
          intro K hK
          go_simp
          refine Calls.mono (sameI_any g2.A g.A g2.n g2.c g.n g.c g2.s g.s _ (HLG2.out.below hd0) (HLG.out.below hd0) (by omega)) ?_
          rintro e w6 ⟨he, hb⟩
          (try dsimp only)
          rw [decide_eq_true HEQ.out] at he
          subst he
          have hd1 : Below wr.heap.size wr w6 := below_nx6 hd0 hb
          clear hb
          (try dsimp only)
          have hS1 : Hid (w6.cell? ⟨bT, oT + j, none⟩ = some (.slice g2.A g2.n g2.c) ∧ w6.cell? ⟨bS, oS + j, none⟩ = some (.slice g.A g.n g.c)) := hide (HCG.out _ hd1)
          refine hK.out _ _ hS1.out (fun _ => ?_)
          clear hK K hS0
          refine wpAnyU_take (i := 9) (oi := { dst := some 111, op := _, type := _, pos := _, after := _, guard := none }) (v := .bool false) rfl (by kernel_rfl) (by kernel_rfl) (by kernel_rfl) (by kernel_rfl) (fun _ _ _ h => h) (yields_take rfl (fun w' hw => by obtain ⟨h1, h2⟩ := hw.const; go_simp)) hS1.out ?_
          simp only [Act.put, List.setIfInBounds_toArray, List.set_cons_zero, List.set_cons_succ]
          refine wpAnyU_take (i := 10) (oi := { dst := some 112, op := _, type := _, pos := _, after := _, guard := none }) (v := .bool false) rfl (by kernel_rfl) (by kernel_rfl) (by kernel_rfl) (by kernel_rfl) (fun _ _ _ h => h) (yields_take rfl (fun w' hw => by obtain ⟨h1, h2⟩ := hw.const; go_simp)) hS1.out ?_
          simp only [Act.put, List.setIfInBounds_toArray, List.set_cons_zero, List.set_cons_succ]
          refine wpAnyU_take (i := 11) (oi := { dst := some 113, op := _, type := _, pos := _, after := _, guard := some (10, false) }) (v := .slice (some ⟨bT, oT, none⟩) m2 kc2) rfl (by kernel_rfl) (by kernel_rfl) (by kernel_rfl) (by kernel_rfl) (fun _ _ _ h => h) (yields_take rfl (fun w' hw => by obtain ⟨h1, h2⟩ := hw.const; go_simp)) hS1.out ?_
          simp only [Act.put, List.setIfInBounds_toArray, List.set_cons_zero, List.set_cons_succ]
          refine wpAnyU_take (i := 12) (oi := { dst := some 114, op := _, type := _, pos := _, after := _, guard := some (10, false) }) (v := .int .i64 (j : Int)) rfl (by kernel_rfl) (by kernel_rfl) (by kernel_rfl) (by kernel_rfl) (fun _ _ _ h => h) (yields_take rfl (fun w' hw => by obtain ⟨h1, h2⟩ := hw.const; go_simp)) hS1.out ?_
          simp only [Act.put, List.setIfInBounds_toArray, List.set_cons_zero, List.set_cons_succ]
          refine wpAnyU_take (i := 13) (oi := { dst := some 115, op := _, type := _, pos := _, after := _, guard := some (10, false) }) (v := .pointer (some ⟨bT, oT + j, none⟩)) rfl (by kernel_rfl) (by kernel_rfl) (by kernel_rfl) (by kernel_rfl) (fun _ _ _ h => h) (yields_take rfl (fun w' hw => by obtain ⟨h1, h2⟩ := hw.const; go_simp)) hS1.out ?_
          simp only [Act.put, List.setIfInBounds_toArray, List.set_cons_zero, List.set_cons_succ]
          refine wpAnyU_take (i := 14) (oi := { dst := some 116, op := _, type := _, pos := _, after := _, guard := some (10, false) }) (v := .slice g2.A g2.n g2.c) rfl (by kernel_rfl) (by kernel_rfl) (by kernel_rfl) (by kernel_rfl) (fun _ _ _ h => h) (yields_take rfl (fun w' hw => by obtain ⟨h1, h2⟩ := hw.const; go_simp)) hS1.out ?_
          simp only [Act.put, List.setIfInBounds_toArray, List.set_cons_zero, List.set_cons_succ]
          refine wpAnyU_one (i := 15) (by kernel_rfl) rfl ?_
          intro K hK
          go_simp
          refine Calls.mono (check_any g2.A g2.n g2.c g2.s _ (HLG2.out.below hd1) (by omega)) ?_
          rintro e w7 ⟨he, hb⟩
          (try dsimp only)
          rw [decide_eq_true HPOS.out] at he
          subst he
          have hd2 : Below wr.heap.size wr w7 := below_nx6 hd1 hb
          clear hb
          (try dsimp only)
          have hS2 : Hid (w7.cell? ⟨bT, oT + j, none⟩ = some (.slice g2.A g2.n g2.c) ∧ w7.cell? ⟨bS, oS + j, none⟩ = some (.slice g.A g.n g.c)) := hide (HCG.out _ hd2)
          refine hK.out _ _ hS2.out (fun _ => ?_)
          clear hK K hS1
          refine wpAnyU_take (i := 16) (oi := { dst := some 118, op := _, type := _, pos := _, after := _, guard := some (10, false) }) (v := .bool false) rfl (by kernel_rfl) (by kernel_rfl) (by kernel_rfl) (by kernel_rfl) (fun _ _ _ h => h) (yields_take rfl (fun w' hw => by obtain ⟨h1, h2⟩ := hw.const; go_simp)) hS2.out ?_
          simp only [Act.put, List.setIfInBounds_toArray, List.set_cons_zero, List.set_cons_succ]
          refine wpAnyU_take (i := 17) (oi := { dst := some 119, op := _, type := _, pos := _, after := _, guard := none }) (v := .bool false) rfl (by kernel_rfl) (by kernel_rfl) (by kernel_rfl) (by kernel_rfl) (fun _ _ _ h => h) (yields_take rfl (fun w' hw => by obtain ⟨h1, h2⟩ := hw.const; go_simp)) hS2.out ?_
          simp only [Act.put, List.setIfInBounds_toArray, List.set_cons_zero, List.set_cons_succ]
          refine wpAnyU_done (by kernel_rfl) ?_ _
          clear hS2
          have HB7 := hide (below_nx6 HBR.out hd2)
          go_wp2
          go_roundw
          case rel => exact ⟨j + 1, by omega, by go_num, HB7⟩
          case measure => simp [intOf] <;> omega
        · obtain rfl : j = m2 := by omega
          have f1 : ¬ ((j : Int) < (j : Int)) := by omega
          go_wp2
          go_ret
          exact ⟨rfl, below_nx6 HB0.out (below_nx6 HBN.out HBR.out)⟩
    · have hzk2 : ¬ z < (k : Int) := hzk
      have hno : gphB (ns.take k) = false := gph_notake hk1 (by rw [HL.out]; exact hkm) HXT.out (by have := HEN.out.2.1; omega) (by rw [← HZ.out]; intro h; exact hzk h.1)
      have HS2 := hide (gshapes_any (some ⟨bA, oA, none⟩) k c (ns.take k) w4 (HPRE.out w4 HBN.out) (by omega) (by omega))
      rw [show gphE (ns.take k) = 1 by rw [gphE, hno]; rfl] at HS2
      have c2 := HX2.out.c0
      clear hno
      go_wp2_with fail
      refine Calls.mono HS2.out ?_
      rintro e w5 ⟨R2, m2, kc2, gs2, rfl, _, _, hb⟩
      have HB5 := hide (below_nx6 HBN.out hb)
      clear hb HS2 c2
      go_wp2
      go_ret
      exact ⟨rfl, below_nx6 HB0.out HB5.out⟩
  · have hE1 : E = 1 := by have h := gphE_cases ns; rw [← HE.out] at h; omega
    subst hE1
    have hb0 : gphB ns = false := by
      cases hb : gphB ns with
      | false => rfl
      | true => have h := HE.out; rw [gphE_zero.2 hb] at h; omega
    have hm0 : m = 0 := by rw [HML.out, gphS_no hb0]; rfl
    subst hm0
    have HCK := hide (gcheck_any A n c ns w3 (HN.out.below HBN.out) (by omega) hc)
    rw [hb0] at HCK
    have c0 := (HX.out.kept HBN.out).c0
    clear hE0 hb0
    go_wp2_with fail
    refine Calls.mono HCK.out ?_
    rintro e w4 ⟨rfl, hb⟩
    have HB4 := hide (below_nx6 HBN.out hb)
    clear hb HCK c0
    go_wp2
    go_ret
    exact ⟨rfl, below_nx6 HB0.out HB4.out⟩

end Go.Proofs.Ytdlhhkegkfhmoaa
