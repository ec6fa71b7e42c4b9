/- The document's answers of layer 9: Sum. -/
import Derived.Test.YtomhbhhfbbdilaaGreatDoorRef09cM
namespace Go.Proofs.YtomhbhhfbbdilaaGreatDoor
open Go.RowKit
set_option linter.unusedVariables false
set_option linter.unusedSimpArgs false
set_option maxRecDepth 100000

set_option maxHeartbeats 8000000 in
theorem rmsum9_any (A B : Option Addr) (n c m d : Nat) (s l : List Int) (al : Int) (w : World) (hA : Lies w A n (s.map (Value.int .i64))) (hB : Lies w B m (l.map (Value.int .i32))) (hn : n ≤ 281474976710656) :
    Calls Tryz.prog 32 #[tenV A n c B m d, .int .i64 al] w fun e w' => ∃ A1 k1 c1 A2 k2 c2, e = .returned (.tuple #[tenV A1 k1 c1 A2 k2 c2, .int .i64 (smE s m al)]) ∧ Lies w' A1 k1 ((smS s m al).map (Value.int .i64)) ∧ Lies w' A2 k2 ((smL s m l al).map (Value.int .i32)) ∧ Below w.heap.size w w' := by
  obtain ⟨W0, hW0⟩ : ∃ W0, W0 = (w.alloc (.cells #[.slice A n c, .slice B m d] 60)).alloc (.cells #[.slice none 0 0, .slice none 0 0] 60) := ⟨_, rfl⟩
  have HB0 : Hid (Below w.heap.size w W0) := hide (by rw [hW0]; exact ((Below.refl w.heap.size w).alloc (Nat.le_refl _) _).alloc (by simp only [World.size_alloc]; omega) _)
  have hs0 : W0.heap.size = w.heap.size + 2 := by rw [hW0]; simp
  have HX0 : Hid (BoxT W0 w.heap.size (.slice A n c) (.slice B m d)) := hide (by rw [hW0]; exact (BoxT.new w _ _).alloc _)
  have HXR : Hid (BoxT W0 (w.heap.size + 1) (.slice none 0 0) (.slice none 0 0)) := hide (by
    rw [hW0]
    have h := BoxT.new (w.alloc (.cells #[.slice A n c, .slice B m d] 60)) (.slice none 0 0) (.slice none 0 0)
    rwa [World.size_alloc] at h)
  have hW0' := hW0.symm
  clear hW0
  have HLS : Hid (s.length = n) := hide (lies_len9 hA)
  have HLM : Hid (l.length = m) := hide (lies_len9 hB)
  have HA := hide (hA.below HB0.out)
  have HB := hide (hB.below HB0.out)
  clear hA hB
  obtain ⟨E, hE⟩ : ∃ z, z = smE s m al := ⟨_, rfl⟩
  rw [← hE]
  have HE := hide hE
  clear hE
  have a0 := HX0.out.c0
  have a1 := HX0.out.c1
  go_enter Tryz.func32, Tryz.ntmps32
  go_wp2_with fail
  refine Calls.mono (rtcheck_any A B n c m d s _ HA.out hn) ?_
  rintro e w1 ⟨rfl, hb1⟩
  clear a0 a1
  have HB1 := hide hb1
  clear hb1
  by_cases hok : tenOk s m = true
  rotate_left
  · have hno : tenOk s m = false := by simpa using hok
    rw [hno]
    have HEE : E = 1 := by rw [HE.out, smE, if_neg (fun h => hok h.1)]
    have r0 := (HXR.out.kept HB1.out).c0
    have r1 := (HXR.out.kept HB1.out).c1
    have rf0 := (HXR.out.kept HB1.out).f0 0
    have rf1 := (HXR.out.kept HB1.out).f0 1
    have HBB := hide (HB0.out.trans (HB1.out.mono (by omega)))
    have HXF := hide (HXR.out.kept HB1.out)
    go_wp2
    (try simp only [Exit.inBlock, Exit.then])
    refine ret_ten (p := 4) (u := 5) rfl rfl (w.heap.size + 1) _ rfl (HXF.out.set2 _ _) rfl ?_
    have hne : ¬ E = 0 := by omega
    exact ⟨none, 0, 0, none, 0, 0, by rw [HEE]; rfl, by rw [smS, if_neg (by rw [← HE.out]; exact hne)]; exact nil_lies9 _ _, by rw [smL, if_neg (by rw [← HE.out]; exact hne)]; exact nil_lies9 _ _, (HBB.out.setCell (by dsimp only; omega) _).setCell (by dsimp only; omega) _⟩
  rw [hok]
  have HOK := hide hok
  clear hok
  obtain ⟨hn1, hn4, hzz⟩ := sizeI_pos (tenOk_iff.1 HOK.out).1
  rw [HLS.out] at hn1 hn4
  have hm4 : m ≤ 4096 := by have := sizeI_le s; have := (tenOk_iff.1 HOK.out).2; omega
  have hmp : 0 < m := by have := tenOk_iff.1 HOK.out; omega
  clear hzz
  have a0 := (HX0.out.kept HB1.out).c0
  have a1 := (HX0.out.kept HB1.out).c1
  by_cases ha0 : al < 0
  · have HN0 := hide ha0
    have HEE : E = 1 := by rw [HE.out, smE, if_neg (fun h => absurd h.2.1 (by have := HN0.out; omega))]
    have r0 := (HXR.out.kept HB1.out).c0
    have r1 := (HXR.out.kept HB1.out).c1
    have rf0 := (HXR.out.kept HB1.out).f0 0
    have rf1 := (HXR.out.kept HB1.out).f0 1
    have HBB := hide (HB0.out.trans (HB1.out.mono (by omega)))
    have HXF := hide (HXR.out.kept HB1.out)
    go_wp2
    (try simp only [Exit.inBlock, Exit.then])
    refine ret_ten (p := 4) (u := 5) rfl rfl (w.heap.size + 1) _ rfl (HXF.out.set2 _ _) rfl ?_
    have hne : ¬ E = 0 := by omega
    exact ⟨none, 0, 0, none, 0, 0, by rw [HEE]; rfl, by rw [smS, if_neg (by rw [← HE.out]; exact hne)]; exact nil_lies9 _ _, by rw [smL, if_neg (by rw [← HE.out]; exact hne)]; exact nil_lies9 _ _, (HBB.out.setCell (by dsimp only; omega) _).setCell (by dsimp only; omega) _⟩
  by_cases ha1 : (n : Int) ≤ al
  · have HN1 := hide ha1
    have HEE : E = 1 := by rw [HE.out, smE, if_neg (fun h => absurd h.2.2 (by have := HN1.out; have := HLS.out; omega))]
    have r0 := (HXR.out.kept HB1.out).c0
    have r1 := (HXR.out.kept HB1.out).c1
    have rf0 := (HXR.out.kept HB1.out).f0 0
    have rf1 := (HXR.out.kept HB1.out).f0 1
    have HBB := hide (HB0.out.trans (HB1.out.mono (by omega)))
    have HXF := hide (HXR.out.kept HB1.out)
    go_wp2
    (try simp only [Exit.inBlock, Exit.then])
    refine ret_ten (p := 4) (u := 5) rfl rfl (w.heap.size + 1) _ rfl (HXF.out.set2 _ _) rfl ?_
    have hne : ¬ E = 0 := by omega
    exact ⟨none, 0, 0, none, 0, 0, by rw [HEE]; rfl, by rw [smS, if_neg (by rw [← HE.out]; exact hne)]; exact nil_lies9 _ _, by rw [smL, if_neg (by rw [← HE.out]; exact hne)]; exact nil_lies9 _ _, (HBB.out.setCell (by dsimp only; omega) _).setCell (by dsimp only; omega) _⟩
  obtain ⟨a, rfl⟩ := Int.eq_ofNat_of_zero_le (show 0 ≤ al by omega)
  have han : a < n := by omega
  obtain ⟨SS, hSS⟩ : ∃ z, z = woL s a := ⟨_, rfl⟩
  have HSS := hide hSS
  obtain ⟨P, K, st, e1, e2, e3, e4, p1, p2, p3, e5, _⟩ := wo_facts HOK.out (show a < s.length by rw [HLS.out]; exact han)
  obtain ⟨M, hM⟩ : ∃ z, z = P * st := ⟨_, rfl⟩
  have hMp : 0 < M := by rw [hM]; exact Nat.mul_pos p1 p3
  have HSZ : Hid (sizeI SS = (M : Int)) := hide (by rw [hSS, hM]; exact e5)
  have HM4 : Hid (M ≤ 4096) := hide (by have h := sizeI_le (woL s a); rw [e5, ← hM] at h; omega)
  have hM4 := HM4.out
  obtain ⟨kS, hkS⟩ : ∃ z, z = SS.length := ⟨_, rfl⟩
  have HSL : Hid (SS.length = kS) := hide hkS.symm
  have HDIM : Hid (s.getD a 0 = (K : Int) ∧ prodZ (s.drop (a + 1)) = (st : Int) ∧ prodZ (s.take a) = (P : Int) ∧ m = P * K * st ∧ M = P * st ∧ 1 ≤ K ∧ 1 ≤ st) := hide ⟨e1, e2, e3, e4, hM, p2, p3⟩
  have hEE : E = 0 := by rw [HE.out]; exact sm_ok HOK.out (by rw [HLS.out]; exact han)
  clear hSS hM hkS e1 e2 e3 e4 e5 p1 p2 p3 HM4
  have a0 := (HX0.out.kept HB1.out).c0
  have a1 := (HX0.out.kept HB1.out).c1
  go_wp2_with fail
  refine Calls.mono (rwithout9_any A n c a s _ (HA.out.below HB1.out) han hn4) ?_
  rintro e w3 ⟨At, kt, ct, rfl, hot, hb3⟩
  obtain rfl : kt = kS := by have h := hot.1; rw [List.length_map, ← HSS.out, HSL.out] at h; omega
  rw [← HSS.out] at hot
  have HB3 := hide (below_nx6 HB1.out hb3)
  have hnil : At = none → ct = 0 := by
    intro h
    subst h
    rcases hot.2 with ⟨e9, _⟩ | ⟨g, cap, cur, e9, _⟩
    · injection e9
    · cases e9
  have hlt := lies_of_own hot
  clear a0 a1 hb3 hot
  go_wp2_with fail
  refine Calls.mono (rnew_ok9 At kt ct M SS _ hlt hnil HSZ.out (by omega)) ?_
  rintro e w4 ⟨g1, c1, g2, rfl, ho1, ho2, hne, hb4⟩
  clear hlt hnil
  obtain ⟨W5, hW5⟩ : ∃ W, W = w4.alloc (.cells #[.slice (some ⟨g1, 0, none⟩) kt c1, .slice (some ⟨g2, 0, none⟩) M M] 60) := ⟨_, rfl⟩
  have hs3 := HB3.out.size
  have hl1 := ho1.lt g1 rfl
  have hl2 := ho2.lt g2 rfl
  have HO5 : Hid (OutT W5 w4.heap.size W0.heap.size g1 kt c1 g2 M SS (List.replicate M 0)) := hide (by
    rw [hW5]
    have hb5 : Below w4.heap.size w4 (w4.alloc (.cells #[.slice (some ⟨g1, 0, none⟩) kt c1, .slice (some ⟨g2, 0, none⟩) M M] 60)) := below_al6 (Below.refl _ _)
    refine ⟨BoxT.new w4 _ _, own_base (own_below ho1 hb5) hs3, own_base (own_below (by simpa using ho2) hb5) hs3, by omega, hne, by omega⟩)
  have HB5 : Hid (Below W0.heap.size W0 W5) := hide (by rw [hW5]; exact below_al6 (below_nx6 HB3.out hb4))
  have hpx : W0.heap.size ≤ w4.heap.size := (below_nx6 HB3.out hb4).size
  have hg2b : W0.heap.size ≤ g2 := by omega
  have hW5' := hW5.symm
  clear hW5 ho1 ho2 hne hb4 hs3 hl1 hl2 HB3 HB1
  have HF : Hid (∀ v, Below W0.heap.size W0 v → v.cell? ⟨w.heap.size, 0, none⟩ = some (.slice A n c) ∧ v.cell? ⟨w.heap.size, 1, none⟩ = some (.slice B m d) ∧ Lies v A n (s.map (Value.int .i64)) ∧ Lies v B m (l.map (Value.int .i32))) := hide (fun v hv => ⟨(HX0.out.kept hv).c0, (HX0.out.kept hv).c1, HA.out.below hv, HB.out.below hv⟩)
  obtain ⟨bB, oB, rfl, _, _⟩ := byte_at HB.out (by omega)
  obtain ⟨a0, a1, _⟩ := HF.out _ HB5.out
  go_wp2
  clear a0 a1
  go_loopw [8] (fun i wr => ∃ (k : Nat) (zs : List Int), k ≤ m ∧ i = .int .i64 k ∧ Hid (OutT wr w4.heap.size W0.heap.size g1 kt c1 g2 M SS zs) ∧ Hid (zs = partL l K st M k) ∧ Hid (Below W0.heap.size W0 wr)) (fun i _ => m - (intOf i).toNat)
  case atStart => exact ⟨0, _, Nat.zero_le _, rfl, HO5, hide (partL_zero _ _ _ _).symm, HB5⟩
  case round =>
    clear HO5 HB5
    obtain ⟨k, zs, hk, rfl, HO, HR, HBk⟩ := hrel
    by_cases hlk : k < m
    · have h0 : (0 : Int) ≤ (k : Int) := by omega
      have h3 : (k : Int) < (m : Int) := by omega
      obtain ⟨a0, a1, hlA, _⟩ := HF.out _ HBk.out
      go_wp2_with fail
      refine Calls.mono (rat_ok A n c (k : Int) s _ hlA hn (by omega) (by have := (tenOk_iff.1 HOK.out).2; omega)) ?_
      rintro e wm ⟨ga, hga, rfl, hha, hbm⟩
      have HOM := hide (HO.out.kept hbm)
      have HBm := hide (below_nx6 HBk.out hbm)
      have HDL : Hid ((digs s (k : Int)).length = n) := hide (by rw [digs_len, HLS.out])
      have HAT : Hid (Lies wm (some ⟨ga, 0, none⟩) n ((digs s (k : Int)).map (Value.int .i64))) := hide (lies_of_own (own_of_block (base := 0) (w := wm) (e := 3) (Nat.zero_le _) hha (by simp [HDL.out]) (Nat.le_refl _) (by unfold maxLen; omega) (by rw [List.take_of_length_le (by simp [HDL.out])])) )
      clear a0 a1 hlA hbm hha
      obtain ⟨d1, d2, d3, d4, d5, d6, d7⟩ := HDIM.out
      obtain ⟨kk, hkk⟩ : ∃ z, z = toSum K st k := ⟨_, rfl⟩
      have hkm : kk < M := by rw [hkk, d5]; exact toSum_lt (P := P) (by rw [← d4]; exact hlk)
      have HKK := hide hkk
      clear d4 d5 d6 d7
      by_cases hn2 : 2 ≤ n
      · have f1 : (1 : Int) < (n : Int) := by omega
        obtain ⟨t1, t2⟩ := sum_there HOK.out HLS.out han hn2 hlk
        rw [d1, d2, Int.toNat_natCast, Int.toNat_natCast, ← hkk] at t2
        have hwo : woL (digs s (k : Int)) a = withoutL (digs s (k : Int)) a := woL_more (by rw [HDL.out]; omega)
        have HIX : Hid (idxV SS (woL (digs s (k : Int)) a) = (kk : Int) ∧ idxE SS (woL (digs s (k : Int)) a) = 0) := hide (by
          rw [HSS.out, hwo, idxV, idxE, if_pos t1, if_pos t1]
          exact ⟨t2, rfl⟩)
        have HWL : Hid ((woL (digs s (k : Int)) a).length = kt) := hide (by rw [hwo, withoutL_len (by rw [HDL.out]; exact han), HDL.out, ← HSL.out, HSS.out, woL_more (by rw [HLS.out]; omega), List.length_append, List.length_take, List.length_drop, HLS.out]; omega)
        clear t1 t2 hwo hkk d1 d2 d3
        have HC : Hid (∀ v, Below wm.heap.size wm v → v.cell? ⟨w4.heap.size, 0, none⟩ = some (.slice (some ⟨g1, 0, none⟩) kt c1)) := hide (fun v hv => (HOM.out.kept hv).1.c0)
        have hd0 : Below wm.heap.size wm wm.drew := below_drewN (Below.refl _ _) 1
        go_wp2
        have hS0 : Hid (wm.drew.cell? ⟨w4.heap.size, 0, none⟩ = some (.slice (some ⟨g1, 0, none⟩) kt c1)) := hide (HC.out _ hd0)
        refine wp_region_U (fun _ v => v.cell? ⟨w4.heap.size, 0, none⟩ = some (.slice (some ⟨g1, 0, none⟩) kt c1)) 99 (by kernel_rfl) ?_
        refine wpAnyU_take (i := 0) (oi := { dst := some 53, op := _, type := _, pos := _, after := _, guard := none }) (v := .pointer (some ⟨w4.heap.size, 0, none⟩)) rfl (by kernel_rfl) (by kernel_rfl) (by kernel_rfl) (by kernel_rfl) (fun _ _ _ h => h) (yields_take rfl (fun w' hw => by have h1 := hw.const; go_simp)) hS0.out ?_
        simp only [Act.put, List.setIfInBounds_toArray, List.set_cons_zero, List.set_cons_succ]
        refine wpAnyU_take (i := 1) (oi := { dst := some 54, op := _, type := _, pos := _, after := _, guard := none }) (v := .slice (some ⟨g1, 0, none⟩) kt c1) rfl (by kernel_rfl) (by kernel_rfl) (by kernel_rfl) (by kernel_rfl) (fun _ _ _ h => h) (yields_take rfl (fun w' hw => by have h1 := hw.const; go_simp)) hS0.out ?_
        simp only [Act.put, List.setIfInBounds_toArray, List.set_cons_zero, List.set_cons_succ]
        refine wpAnyU_take (i := 2) (oi := { dst := some 55, op := _, type := _, pos := _, after := _, guard := none }) (v := .slice (some ⟨ga, 0, none⟩) n n) rfl (by kernel_rfl) (by kernel_rfl) (by kernel_rfl) (by kernel_rfl) (fun _ _ _ h => h) (yields_take rfl (fun w' hw => by have h1 := hw.const; go_simp)) hS0.out ?_
        simp only [Act.put, List.setIfInBounds_toArray, List.set_cons_zero, List.set_cons_succ]
        refine wpAnyU_take (i := 3) (oi := { dst := some 56, op := _, type := _, pos := _, after := _, guard := none }) (v := .int .i64 (a : Int)) rfl (by kernel_rfl) (by kernel_rfl) (by kernel_rfl) (by kernel_rfl) (fun _ _ _ h => h) (yields_take rfl (fun w' hw => by have h1 := hw.const; go_simp)) hS0.out ?_
        simp only [Act.put, List.setIfInBounds_toArray, List.set_cons_zero, List.set_cons_succ]
        refine wpAnyU_one (i := 4) (by kernel_rfl) rfl ?_
        intro K hK
        go_simp
        refine Calls.mono (rwithout9_any (some ⟨ga, 0, none⟩) n n a (digs s (k : Int)) _ (HAT.out.below hd0) han hn4) ?_
        rintro e wq ⟨Ay, ky, cy, rfl, hoy, hb⟩
        dsimp only
        have hd1 : Below wm.heap.size wm wq := below_nx6 hd0 hb
        clear hb
        have hky : ky ≤ 4 := by have h := hoy.1; rw [List.length_map, HWL.out] at h; have h2 := HSL.out; rw [HSS.out] at h2; have h3 := wo_len (s := s) (a := a) (by rw [HLS.out]; exact han) (by rw [HLS.out]; omega); have h4 := HLS.out; omega
        have hS1 : Hid (wq.cell? ⟨w4.heap.size, 0, none⟩ = some (.slice (some ⟨g1, 0, none⟩) kt c1)) := hide (HC.out _ hd1)
        refine hK.out _ _ hS1.out (fun _ => ?_)
        clear hK K hS0
        refine wpAnyU_one (i := 5) (by kernel_rfl) rfl ?_
        intro K hK
        go_simp
        refine Calls.mono (rindex_any (some ⟨g1, 0, none⟩) Ay kt c1 ky cy SS (woL (digs s (k : Int)) a) _ (lies_of_own (HOM.out.kept hd1).2.1) (lies_of_own hoy) (by have h2 := HSL.out; rw [HSS.out] at h2; have h3 := wo_len (s := s) (a := a) (by rw [HLS.out]; exact han) (by rw [HLS.out]; omega); have h4 := HLS.out; omega) (by omega)) ?_
        rintro e ws ⟨rfl, hb⟩
        dsimp only
        rw [HIX.out.1, HIX.out.2]
        have hd2 : Below wm.heap.size wm ws := below_nx6 hd1 hb
        clear hb hoy hky
        have hS2 : Hid (ws.cell? ⟨w4.heap.size, 0, none⟩ = some (.slice (some ⟨g1, 0, none⟩) kt c1)) := hide (HC.out _ hd2)
        refine hK.out _ _ hS2.out (fun _ => ?_)
        clear hK K hS1
        refine wpAnyU_take (i := 6) (oi := { dst := some 52, op := _, type := _, pos := _, after := _, guard := none }) (v := .tuple #[.int .i64 (kk : Int), .int .i64 (0 : Int)]) rfl (by kernel_rfl) (by kernel_rfl) (by kernel_rfl) (by kernel_rfl) (fun _ _ _ h => h) (yields_take rfl (fun w' hw => by have h1 := hw.const; go_simp)) hS2.out ?_
        simp only [Act.put, List.setIfInBounds_toArray, List.set_cons_zero, List.set_cons_succ]
        refine wpAnyU_take (i := 7) (oi := { dst := some 59, op := _, type := _, pos := _, after := _, guard := none }) (v := .int .i64 (kk : Int)) rfl (by kernel_rfl) (by kernel_rfl) (by kernel_rfl) (by kernel_rfl) (fun _ _ _ h => h) (yields_take rfl (fun w' hw => by have h1 := hw.const; go_simp)) hS2.out ?_
        simp only [Act.put, List.setIfInBounds_toArray, List.set_cons_zero, List.set_cons_succ]
        refine wpAnyU_take (i := 8) (oi := { dst := some 60, op := _, type := _, pos := _, after := _, guard := none }) (v := .int .i64 (0 : Int)) rfl (by kernel_rfl) (by kernel_rfl) (by kernel_rfl) (by kernel_rfl) (fun _ _ _ h => h) (yields_take rfl (fun w' hw => by have h1 := hw.const; go_simp)) hS2.out ?_
        simp only [Act.put, List.setIfInBounds_toArray, List.set_cons_zero, List.set_cons_succ]
        refine wpAnyU_take (i := 9) (oi := { dst := some 11, op := _, type := _, pos := _, after := _, guard := none }) (v := .int .i64 (kk : Int)) rfl (by kernel_rfl) (by kernel_rfl) (by kernel_rfl) (by kernel_rfl) (fun _ _ _ h => h) (yields_take rfl (fun w' hw => by have h1 := hw.const; go_simp)) hS2.out ?_
        simp only [Act.put, List.setIfInBounds_toArray, List.set_cons_zero, List.set_cons_succ]
        refine wpAnyU_done (by kernel_rfl) ?_ _
        clear hS2
        have HOS := hide (HOM.out.kept hd2)
        have HBs := hide (below_nx6 HBm.out hd2)
        clear HC hd0 hd1 hd2 HOM HBm HAT HIX HWL HO HBk
        obtain ⟨q0, q1, _, hlB⟩ := HF.out _ HBs.out
        obtain ⟨_, _, eB, _, hxB⟩ := byte_at hlB (by omega)
        cases eB
        have hcB := hxB k hlk
        obtain ⟨x, hx⟩ : ∃ z, z = l.getD k 0 := ⟨_, rfl⟩
        rw [← hx] at hcB
        have HXV := hide hx
        obtain ⟨hg2, hf2⟩ := own_cells9 HOS.out.2.2.1 hkm
        clear hx hlB hxB q0 q1
        obtain ⟨y, hy⟩ : ∃ z, z = zs.getD kk 0 := ⟨_, rfl⟩
        rw [← hy] at hg2
        have HYV := hide hy
        clear hy
        obtain ⟨z, hz⟩ : ∃ z, z = add32 y x := ⟨_, rfl⟩
        have m1 : IntKind.i32.wrap (y + x) = z := by rw [hz, add32, wrap32, IntKind.wrap_i32]
        have HZV := hide hz
        clear hz
        have HC : Hid (∀ v, Below ws.heap.size ws v → v.cell? ⟨w4.heap.size, 1, none⟩ = some (.slice (some ⟨g2, 0, none⟩) M M) ∧ v.cell? ⟨g2, kk, none⟩ = some (.int .i32 y) ∧ v.cell? ⟨w.heap.size, 1, none⟩ = some (.slice (some ⟨bB, oB, none⟩) m d) ∧ v.cell? ⟨bB, oB + k, none⟩ = some (.int .i32 x)) := hide (fun v hv => by
          have hb9 := below_nx6 HBs.out hv
          obtain ⟨_, q1, _, hlB⟩ := HF.out _ hb9
          obtain ⟨_, _, eB, _, hxB⟩ := byte_at hlB (by omega)
          cases eB
          exact ⟨(HOS.out.kept hv).1.c1, by rw [HYV.out]; exact (own_cells9 (HOS.out.kept hv).2.2.1 hkm).1, q1, by rw [HXV.out]; exact hxB k hlk⟩)
        have hd0 : Below ws.heap.size ws ws.drew := below_drewN (Below.refl _ _) 1
        have g0 : (0 : Int) ≤ (kk : Int) := by omega
        have g1' : (kk : Int) < (M : Int) := by omega
        have hfx : ws.drew.frozen? ⟨g2, kk, none⟩ = false := hf2
        clear hcB
        go_wp2
        have hS0 : Hid (ws.drew.cell? ⟨w4.heap.size, 1, none⟩ = some (.slice (some ⟨g2, 0, none⟩) M M) ∧ ws.drew.cell? ⟨g2, kk, none⟩ = some (.int .i32 y) ∧ ws.drew.cell? ⟨w.heap.size, 1, none⟩ = some (.slice (some ⟨bB, oB, none⟩) m d) ∧ ws.drew.cell? ⟨bB, oB + k, none⟩ = some (.int .i32 x)) := hide (HC.out _ hd0)
        refine wp_region_U (fun b v => b = false → v.cell? ⟨w4.heap.size, 1, none⟩ = some (.slice (some ⟨g2, 0, none⟩) M M) ∧ v.cell? ⟨g2, kk, none⟩ = some (.int .i32 y) ∧ v.cell? ⟨w.heap.size, 1, none⟩ = some (.slice (some ⟨bB, oB, none⟩) m d) ∧ v.cell? ⟨bB, oB + k, none⟩ = some (.int .i32 x)) 15 (by kernel_rfl) ?_
        refine wpAnyU_take (i := 0) (oi := { dst := some 61, op := _, type := _, pos := _, after := _, guard := none }) (v := .pointer (some ⟨w4.heap.size, 1, none⟩)) rfl (by kernel_rfl) (by kernel_rfl) (by kernel_rfl) (by kernel_rfl) (fun _ _ _ h => h) (yields_take rfl (fun w' hw => by obtain ⟨h1, h2, h3, h4⟩ := hw.no (by kernel_rfl) rfl; go_simp)) (fun _ => hS0.out) ?_
        simp only [Act.put, List.setIfInBounds_toArray, List.set_cons_zero, List.set_cons_succ]
        refine wpAnyU_take (i := 1) (oi := { dst := some 62, op := _, type := _, pos := _, after := _, guard := none }) (v := .slice (some ⟨g2, 0, none⟩) M M) rfl (by kernel_rfl) (by kernel_rfl) (by kernel_rfl) (by kernel_rfl) (fun _ _ _ h => h) (yields_take rfl (fun w' hw => by obtain ⟨h1, h2, h3, h4⟩ := hw.no (by kernel_rfl) rfl; go_simp)) (fun _ => hS0.out) ?_
        simp only [Act.put, List.setIfInBounds_toArray, List.set_cons_zero, List.set_cons_succ]
        refine wpAnyU_take (i := 2) (oi := { dst := some 63, op := _, type := _, pos := _, after := _, guard := none }) (v := .int .i64 (kk : Int)) rfl (by kernel_rfl) (by kernel_rfl) (by kernel_rfl) (by kernel_rfl) (fun _ _ _ h => h) (yields_take rfl (fun w' hw => by obtain ⟨h1, h2, h3, h4⟩ := hw.no (by kernel_rfl) rfl; go_simp)) (fun _ => hS0.out) ?_
        simp only [Act.put, List.setIfInBounds_toArray, List.set_cons_zero, List.set_cons_succ]
        refine wpAnyU_take (i := 3) (oi := { dst := some 64, op := _, type := _, pos := _, after := _, guard := none }) (v := .pointer (some ⟨w4.heap.size, 1, none⟩)) rfl (by kernel_rfl) (by kernel_rfl) (by kernel_rfl) (by kernel_rfl) (fun _ _ _ h => h) (yields_take rfl (fun w' hw => by obtain ⟨h1, h2, h3, h4⟩ := hw.no (by kernel_rfl) rfl; go_simp)) (fun _ => hS0.out) ?_
        simp only [Act.put, List.setIfInBounds_toArray, List.set_cons_zero, List.set_cons_succ]
        refine wpAnyU_take (i := 4) (oi := { dst := some 65, op := _, type := _, pos := _, after := _, guard := none }) (v := .slice (some ⟨g2, 0, none⟩) M M) rfl (by kernel_rfl) (by kernel_rfl) (by kernel_rfl) (by kernel_rfl) (fun _ _ _ h => h) (yields_take rfl (fun w' hw => by obtain ⟨h1, h2, h3, h4⟩ := hw.no (by kernel_rfl) rfl; go_simp)) (fun _ => hS0.out) ?_
        simp only [Act.put, List.setIfInBounds_toArray, List.set_cons_zero, List.set_cons_succ]
        refine wpAnyU_take (i := 5) (oi := { dst := some 66, op := _, type := _, pos := _, after := _, guard := none }) (v := .int .i64 (kk : Int)) rfl (by kernel_rfl) (by kernel_rfl) (by kernel_rfl) (by kernel_rfl) (fun _ _ _ h => h) (yields_take rfl (fun w' hw => by obtain ⟨h1, h2, h3, h4⟩ := hw.no (by kernel_rfl) rfl; go_simp)) (fun _ => hS0.out) ?_
        simp only [Act.put, List.setIfInBounds_toArray, List.set_cons_zero, List.set_cons_succ]
        refine wpAnyU_take (i := 6) (oi := { dst := some 67, op := _, type := _, pos := _, after := _, guard := none }) (v := .pointer (some ⟨g2, kk, none⟩)) rfl (by kernel_rfl) (by kernel_rfl) (by kernel_rfl) (by kernel_rfl) (fun _ _ _ h => h) (yields_take rfl (fun w' hw => by obtain ⟨h1, h2, h3, h4⟩ := hw.no (by kernel_rfl) rfl; go_simp)) (fun _ => hS0.out) ?_
        simp only [Act.put, List.setIfInBounds_toArray, List.set_cons_zero, List.set_cons_succ]
        refine wpAnyU_take (i := 7) (oi := { dst := some 68, op := _, type := _, pos := _, after := _, guard := none }) (v := .int .i32 y) rfl (by kernel_rfl) (by kernel_rfl) (by kernel_rfl) (by kernel_rfl) (fun _ _ _ h => h) (yields_take rfl (fun w' hw => by obtain ⟨h1, h2, h3, h4⟩ := hw.no (by kernel_rfl) rfl; go_simp)) (fun _ => hS0.out) ?_
        simp only [Act.put, List.setIfInBounds_toArray, List.set_cons_zero, List.set_cons_succ]
        refine wpAnyU_take (i := 8) (oi := { dst := some 69, op := _, type := _, pos := _, after := _, guard := none }) (v := .pointer (some ⟨w.heap.size, 1, none⟩)) rfl (by kernel_rfl) (by kernel_rfl) (by kernel_rfl) (by kernel_rfl) (fun _ _ _ h => h) (yields_take rfl (fun w' hw => by obtain ⟨h1, h2, h3, h4⟩ := hw.no (by kernel_rfl) rfl; go_simp)) (fun _ => hS0.out) ?_
        simp only [Act.put, List.setIfInBounds_toArray, List.set_cons_zero, List.set_cons_succ]
        refine wpAnyU_take (i := 9) (oi := { dst := some 70, op := _, type := _, pos := _, after := _, guard := none }) (v := .slice (some ⟨bB, oB, none⟩) m d) rfl (by kernel_rfl) (by kernel_rfl) (by kernel_rfl) (by kernel_rfl) (fun _ _ _ h => h) (yields_take rfl (fun w' hw => by obtain ⟨h1, h2, h3, h4⟩ := hw.no (by kernel_rfl) rfl; go_simp)) (fun _ => hS0.out) ?_
        simp only [Act.put, List.setIfInBounds_toArray, List.set_cons_zero, List.set_cons_succ]
        refine wpAnyU_take (i := 10) (oi := { dst := some 71, op := _, type := _, pos := _, after := _, guard := none }) (v := .int .i64 (k : Int)) rfl (by kernel_rfl) (by kernel_rfl) (by kernel_rfl) (by kernel_rfl) (fun _ _ _ h => h) (yields_take rfl (fun w' hw => by obtain ⟨h1, h2, h3, h4⟩ := hw.no (by kernel_rfl) rfl; go_simp)) (fun _ => hS0.out) ?_
        simp only [Act.put, List.setIfInBounds_toArray, List.set_cons_zero, List.set_cons_succ]
        refine wpAnyU_take (i := 11) (oi := { dst := some 72, op := _, type := _, pos := _, after := _, guard := none }) (v := .pointer (some ⟨bB, oB + k, none⟩)) rfl (by kernel_rfl) (by kernel_rfl) (by kernel_rfl) (by kernel_rfl) (fun _ _ _ h => h) (yields_take rfl (fun w' hw => by obtain ⟨h1, h2, h3, h4⟩ := hw.no (by kernel_rfl) rfl; go_simp)) (fun _ => hS0.out) ?_
        simp only [Act.put, List.setIfInBounds_toArray, List.set_cons_zero, List.set_cons_succ]
        refine wpAnyU_take (i := 12) (oi := { dst := some 73, op := _, type := _, pos := _, after := _, guard := none }) (v := .int .i32 x) rfl (by kernel_rfl) (by kernel_rfl) (by kernel_rfl) (by kernel_rfl) (fun _ _ _ h => h) (yields_take rfl (fun w' hw => by obtain ⟨h1, h2, h3, h4⟩ := hw.no (by kernel_rfl) rfl; go_simp)) (fun _ => hS0.out) ?_
        simp only [Act.put, List.setIfInBounds_toArray, List.set_cons_zero, List.set_cons_succ]
        refine wpAnyU_take (i := 13) (oi := { dst := some 74, op := _, type := _, pos := _, after := _, guard := none }) (v := .int .i32 z) rfl (by kernel_rfl) (by kernel_rfl) (by kernel_rfl) (by kernel_rfl) (fun _ _ _ h => h) (yields_take rfl (fun w' hw => by obtain ⟨h1, h2, h3, h4⟩ := hw.no (by kernel_rfl) rfl; go_simp)) (fun _ => hS0.out) ?_
        simp only [Act.put, List.setIfInBounds_toArray, List.set_cons_zero, List.set_cons_succ]
        refine wpAnyU_take (i := 14) (oi := { dst := some 75, op := _, type := _, pos := _, after := _, guard := none }) (v := .pointer (some ⟨g2, kk, none⟩)) rfl (by kernel_rfl) (by kernel_rfl) (by kernel_rfl) (by kernel_rfl) (fun _ _ _ h => h) (yields_take rfl (fun w' hw => by obtain ⟨h1, h2, h3, h4⟩ := hw.no (by kernel_rfl) rfl; go_simp)) (fun _ => hS0.out) ?_
        simp only [Act.put, List.setIfInBounds_toArray, List.set_cons_zero, List.set_cons_succ]
        have hgd : ws.drew.cell? ⟨g2, kk, none⟩ = some (.int .i32 y) := hg2
        refine wpAnyU_one (i := 15) (by kernel_rfl) rfl ?_
        intro K hK
        go_simp
        refine hK _ _ (fun h => by cases h) (fun _ => ?_)
        clear hK K
        refine wpAnyU_done (by kernel_rfl) ?_ _
        clear hS0
        have HON : Hid (OutT (ws.drew.setCell ⟨g2, kk, none⟩ (.int .i32 z)) w4.heap.size W0.heap.size g1 kt c1 g2 M SS (zs.set kk z)) := hide ((HOS.out.kept hd0).put hkm z)
        have HBN : Hid (Below W0.heap.size W0 (ws.drew.setCell ⟨g2, kk, none⟩ (.int .i32 z))) := hide ((below_nx6 HBs.out hd0).setCell (by dsimp only; exact hg2b) _)
        have HRN : Hid (zs.set kk z = partL l K st M (k + 1)) := hide (by
          have h := partL_step (l := l) (K := K) (st := st) (R := M) (i := k) (by rw [← HKK.out]; exact hkm)
          rw [← HKK.out] at h
          rw [HZV.out, HYV.out, HXV.out, ← h, HR.out, partL_at hkm])
        clear HC hd0 hg2 hf2 hfx hgd HOS HBs HR
        go_wp2
        go_roundw
        case rel => exact ⟨k + 1, _, by omega, by go_num, HON, HRN, HBN⟩
        case measure => simp [intOf] <;> omega
      · have f1 : ¬ ((1 : Int) < (n : Int)) := by omega
        obtain rfl : kk = 0 := by
          obtain rfl : a = 0 := by omega
          have e9 : prodZ (s.drop (0 + 1)) = 1 := by rw [List.drop_eq_nil_of_le (by rw [HLS.out]; omega)]; rfl
          have e8 : prodZ (s.take 0) = 1 := rfl
          obtain rfl : st = 1 := by omega
          obtain rfl : P = 1 := by omega
          have h9 := HDIM.out.2.2.2.1
          rw [hkk, toSum, Nat.div_one, Nat.mod_one, Nat.mul_one, Nat.add_zero]
          exact Nat.div_eq_of_lt (by omega)
        clear hkk d1 d2 d3
        have HOS := HOM
        have HBs := HBm
        clear HOM HBm HAT HO HBk
        obtain ⟨q0, q1, _, hlB⟩ := HF.out _ HBs.out
        obtain ⟨_, _, eB, _, hxB⟩ := byte_at hlB (by omega)
        cases eB
        have hcB := hxB k hlk
        obtain ⟨x, hx⟩ : ∃ z, z = l.getD k 0 := ⟨_, rfl⟩
        rw [← hx] at hcB
        have HXV := hide hx
        obtain ⟨hg2, hf2⟩ := own_cells9 HOS.out.2.2.1 hkm
        clear hx hlB hxB q0 q1
        obtain ⟨y, hy⟩ : ∃ z, z = zs.getD 0 0 := ⟨_, rfl⟩
        rw [← hy] at hg2
        have HYV := hide hy
        clear hy
        obtain ⟨z, hz⟩ : ∃ z, z = add32 y x := ⟨_, rfl⟩
        have m1 : IntKind.i32.wrap (y + x) = z := by rw [hz, add32, wrap32, IntKind.wrap_i32]
        have HZV := hide hz
        clear hz
        have HC : Hid (∀ v, Below wm.heap.size wm v → v.cell? ⟨w4.heap.size, 1, none⟩ = some (.slice (some ⟨g2, 0, none⟩) M M) ∧ v.cell? ⟨g2, 0, none⟩ = some (.int .i32 y) ∧ v.cell? ⟨w.heap.size, 1, none⟩ = some (.slice (some ⟨bB, oB, none⟩) m d) ∧ v.cell? ⟨bB, oB + k, none⟩ = some (.int .i32 x)) := hide (fun v hv => by
          have hb9 := below_nx6 HBs.out hv
          obtain ⟨_, q1, _, hlB⟩ := HF.out _ hb9
          obtain ⟨_, _, eB, _, hxB⟩ := byte_at hlB (by omega)
          cases eB
          exact ⟨(HOS.out.kept hv).1.c1, by rw [HYV.out]; exact (own_cells9 (HOS.out.kept hv).2.2.1 hkm).1, q1, by rw [HXV.out]; exact hxB k hlk⟩)
        have hd0 : Below wm.heap.size wm wm.drew := below_drewN (Below.refl _ _) 1
        have g0 : (0 : Int) ≤ (0 : Int) := by omega
        have g1' : (0 : Int) < (M : Int) := by omega
        have hfx : wm.drew.frozen? ⟨g2, 0, none⟩ = false := hf2
        clear hcB
        go_wp2
        have hS0 : Hid (wm.drew.cell? ⟨w4.heap.size, 1, none⟩ = some (.slice (some ⟨g2, 0, none⟩) M M) ∧ wm.drew.cell? ⟨g2, 0, none⟩ = some (.int .i32 y) ∧ wm.drew.cell? ⟨w.heap.size, 1, none⟩ = some (.slice (some ⟨bB, oB, none⟩) m d) ∧ wm.drew.cell? ⟨bB, oB + k, none⟩ = some (.int .i32 x)) := hide (HC.out _ hd0)
        refine wp_region_U (fun b v => b = false → v.cell? ⟨w4.heap.size, 1, none⟩ = some (.slice (some ⟨g2, 0, none⟩) M M) ∧ v.cell? ⟨g2, 0, none⟩ = some (.int .i32 y) ∧ v.cell? ⟨w.heap.size, 1, none⟩ = some (.slice (some ⟨bB, oB, none⟩) m d) ∧ v.cell? ⟨bB, oB + k, none⟩ = some (.int .i32 x)) 15 (by kernel_rfl) ?_
        refine wpAnyU_take (i := 0) (oi := { dst := some 61, op := _, type := _, pos := _, after := _, guard := none }) (v := .pointer (some ⟨w4.heap.size, 1, none⟩)) rfl (by kernel_rfl) (by kernel_rfl) (by kernel_rfl) (by kernel_rfl) (fun _ _ _ h => h) (yields_take rfl (fun w' hw => by obtain ⟨h1, h2, h3, h4⟩ := hw.no (by kernel_rfl) rfl; go_simp)) (fun _ => hS0.out) ?_
        simp only [Act.put, List.setIfInBounds_toArray, List.set_cons_zero, List.set_cons_succ]
        refine wpAnyU_take (i := 1) (oi := { dst := some 62, op := _, type := _, pos := _, after := _, guard := none }) (v := .slice (some ⟨g2, 0, none⟩) M M) rfl (by kernel_rfl) (by kernel_rfl) (by kernel_rfl) (by kernel_rfl) (fun _ _ _ h => h) (yields_take rfl (fun w' hw => by obtain ⟨h1, h2, h3, h4⟩ := hw.no (by kernel_rfl) rfl; go_simp)) (fun _ => hS0.out) ?_
        simp only [Act.put, List.setIfInBounds_toArray, List.set_cons_zero, List.set_cons_succ]
        refine wpAnyU_take (i := 2) (oi := { dst := some 63, op := _, type := _, pos := _, after := _, guard := none }) (v := .int .i64 0) rfl (by kernel_rfl) (by kernel_rfl) (by kernel_rfl) (by kernel_rfl) (fun _ _ _ h => h) (yields_take rfl (fun w' hw => by obtain ⟨h1, h2, h3, h4⟩ := hw.no (by kernel_rfl) rfl; go_simp)) (fun _ => hS0.out) ?_
        simp only [Act.put, List.setIfInBounds_toArray, List.set_cons_zero, List.set_cons_succ]
        refine wpAnyU_take (i := 3) (oi := { dst := some 64, op := _, type := _, pos := _, after := _, guard := none }) (v := .pointer (some ⟨w4.heap.size, 1, none⟩)) rfl (by kernel_rfl) (by kernel_rfl) (by kernel_rfl) (by kernel_rfl) (fun _ _ _ h => h) (yields_take rfl (fun w' hw => by obtain ⟨h1, h2, h3, h4⟩ := hw.no (by kernel_rfl) rfl; go_simp)) (fun _ => hS0.out) ?_
        simp only [Act.put, List.setIfInBounds_toArray, List.set_cons_zero, List.set_cons_succ]
        refine wpAnyU_take (i := 4) (oi := { dst := some 65, op := _, type := _, pos := _, after := _, guard := none }) (v := .slice (some ⟨g2, 0, none⟩) M M) rfl (by kernel_rfl) (by kernel_rfl) (by kernel_rfl) (by kernel_rfl) (fun _ _ _ h => h) (yields_take rfl (fun w' hw => by obtain ⟨h1, h2, h3, h4⟩ := hw.no (by kernel_rfl) rfl; go_simp)) (fun _ => hS0.out) ?_
        simp only [Act.put, List.setIfInBounds_toArray, List.set_cons_zero, List.set_cons_succ]
        refine wpAnyU_take (i := 5) (oi := { dst := some 66, op := _, type := _, pos := _, after := _, guard := none }) (v := .int .i64 0) rfl (by kernel_rfl) (by kernel_rfl) (by kernel_rfl) (by kernel_rfl) (fun _ _ _ h => h) (yields_take rfl (fun w' hw => by obtain ⟨h1, h2, h3, h4⟩ := hw.no (by kernel_rfl) rfl; go_simp)) (fun _ => hS0.out) ?_
        simp only [Act.put, List.setIfInBounds_toArray, List.set_cons_zero, List.set_cons_succ]
        refine wpAnyU_take (i := 6) (oi := { dst := some 67, op := _, type := _, pos := _, after := _, guard := none }) (v := .pointer (some ⟨g2, 0, none⟩)) rfl (by kernel_rfl) (by kernel_rfl) (by kernel_rfl) (by kernel_rfl) (fun _ _ _ h => h) (yields_take rfl (fun w' hw => by obtain ⟨h1, h2, h3, h4⟩ := hw.no (by kernel_rfl) rfl; go_simp)) (fun _ => hS0.out) ?_
        simp only [Act.put, List.setIfInBounds_toArray, List.set_cons_zero, List.set_cons_succ]
        refine wpAnyU_take (i := 7) (oi := { dst := some 68, op := _, type := _, pos := _, after := _, guard := none }) (v := .int .i32 y) rfl (by kernel_rfl) (by kernel_rfl) (by kernel_rfl) (by kernel_rfl) (fun _ _ _ h => h) (yields_take rfl (fun w' hw => by obtain ⟨h1, h2, h3, h4⟩ := hw.no (by kernel_rfl) rfl; go_simp)) (fun _ => hS0.out) ?_
        simp only [Act.put, List.setIfInBounds_toArray, List.set_cons_zero, List.set_cons_succ]
        refine wpAnyU_take (i := 8) (oi := { dst := some 69, op := _, type := _, pos := _, after := _, guard := none }) (v := .pointer (some ⟨w.heap.size, 1, none⟩)) rfl (by kernel_rfl) (by kernel_rfl) (by kernel_rfl) (by kernel_rfl) (fun _ _ _ h => h) (yields_take rfl (fun w' hw => by obtain ⟨h1, h2, h3, h4⟩ := hw.no (by kernel_rfl) rfl; go_simp)) (fun _ => hS0.out) ?_
        simp only [Act.put, List.setIfInBounds_toArray, List.set_cons_zero, List.set_cons_succ]
        refine wpAnyU_take (i := 9) (oi := { dst := some 70, op := _, type := _, pos := _, after := _, guard := none }) (v := .slice (some ⟨bB, oB, none⟩) m d) rfl (by kernel_rfl) (by kernel_rfl) (by kernel_rfl) (by kernel_rfl) (fun _ _ _ h => h) (yields_take rfl (fun w' hw => by obtain ⟨h1, h2, h3, h4⟩ := hw.no (by kernel_rfl) rfl; go_simp)) (fun _ => hS0.out) ?_
        simp only [Act.put, List.setIfInBounds_toArray, List.set_cons_zero, List.set_cons_succ]
        refine wpAnyU_take (i := 10) (oi := { dst := some 71, op := _, type := _, pos := _, after := _, guard := none }) (v := .int .i64 (k : Int)) rfl (by kernel_rfl) (by kernel_rfl) (by kernel_rfl) (by kernel_rfl) (fun _ _ _ h => h) (yields_take rfl (fun w' hw => by obtain ⟨h1, h2, h3, h4⟩ := hw.no (by kernel_rfl) rfl; go_simp)) (fun _ => hS0.out) ?_
        simp only [Act.put, List.setIfInBounds_toArray, List.set_cons_zero, List.set_cons_succ]
        refine wpAnyU_take (i := 11) (oi := { dst := some 72, op := _, type := _, pos := _, after := _, guard := none }) (v := .pointer (some ⟨bB, oB + k, none⟩)) rfl (by kernel_rfl) (by kernel_rfl) (by kernel_rfl) (by kernel_rfl) (fun _ _ _ h => h) (yields_take rfl (fun w' hw => by obtain ⟨h1, h2, h3, h4⟩ := hw.no (by kernel_rfl) rfl; go_simp)) (fun _ => hS0.out) ?_
        simp only [Act.put, List.setIfInBounds_toArray, List.set_cons_zero, List.set_cons_succ]
        refine wpAnyU_take (i := 12) (oi := { dst := some 73, op := _, type := _, pos := _, after := _, guard := none }) (v := .int .i32 x) rfl (by kernel_rfl) (by kernel_rfl) (by kernel_rfl) (by kernel_rfl) (fun _ _ _ h => h) (yields_take rfl (fun w' hw => by obtain ⟨h1, h2, h3, h4⟩ := hw.no (by kernel_rfl) rfl; go_simp)) (fun _ => hS0.out) ?_
        simp only [Act.put, List.setIfInBounds_toArray, List.set_cons_zero, List.set_cons_succ]
        refine wpAnyU_take (i := 13) (oi := { dst := some 74, op := _, type := _, pos := _, after := _, guard := none }) (v := .int .i32 z) rfl (by kernel_rfl) (by kernel_rfl) (by kernel_rfl) (by kernel_rfl) (fun _ _ _ h => h) (yields_take rfl (fun w' hw => by obtain ⟨h1, h2, h3, h4⟩ := hw.no (by kernel_rfl) rfl; go_simp)) (fun _ => hS0.out) ?_
        simp only [Act.put, List.setIfInBounds_toArray, List.set_cons_zero, List.set_cons_succ]
        refine wpAnyU_take (i := 14) (oi := { dst := some 75, op := _, type := _, pos := _, after := _, guard := none }) (v := .pointer (some ⟨g2, 0, none⟩)) rfl (by kernel_rfl) (by kernel_rfl) (by kernel_rfl) (by kernel_rfl) (fun _ _ _ h => h) (yields_take rfl (fun w' hw => by obtain ⟨h1, h2, h3, h4⟩ := hw.no (by kernel_rfl) rfl; go_simp)) (fun _ => hS0.out) ?_
        simp only [Act.put, List.setIfInBounds_toArray, List.set_cons_zero, List.set_cons_succ]
        have hgd : wm.drew.cell? ⟨g2, 0, none⟩ = some (.int .i32 y) := hg2
        refine wpAnyU_one (i := 15) (by kernel_rfl) rfl ?_
        intro K hK
        go_simp
        refine hK _ _ (fun h => by cases h) (fun _ => ?_)
        clear hK K
        refine wpAnyU_done (by kernel_rfl) ?_ _
        clear hS0
        have HON : Hid (OutT (wm.drew.setCell ⟨g2, 0, none⟩ (.int .i32 z)) w4.heap.size W0.heap.size g1 kt c1 g2 M SS (zs.set 0 z)) := hide ((HOS.out.kept hd0).put hkm z)
        have HBN : Hid (Below W0.heap.size W0 (wm.drew.setCell ⟨g2, 0, none⟩ (.int .i32 z))) := hide ((below_nx6 HBs.out hd0).setCell (by dsimp only; exact hg2b) _)
        have HRN : Hid (zs.set 0 z = partL l K st M (k + 1)) := hide (by
          have h := partL_step (l := l) (K := K) (st := st) (R := M) (i := k) (by rw [← HKK.out]; exact hkm)
          rw [← HKK.out] at h
          rw [HZV.out, HYV.out, HXV.out, ← h, HR.out, partL_at hkm])
        clear HC hd0 hg2 hf2 hfx hgd HOS HBs HR
        go_wp2
        go_roundw
        case rel => exact ⟨k + 1, _, by omega, by go_num, HON, HRN, HBN⟩
        case measure => simp [intOf] <;> omega
    · obtain rfl : k = m := by omega
      obtain ⟨a0, a1, _⟩ := HF.out _ HBk.out
      have c0 := HO.out.1.c0
      have c1' := HO.out.1.c1
      have HXF := hide (HXR.out.kept HBk.out)
      have r0 := HXF.out.c0
      have r1 := HXF.out.c1
      have rf0 := HXF.out.f0 0
      have rf1 := HXF.out.f0 1
      have HZS : Hid (zs = sumL9 l K st (P * st)) := hide (by rw [HR.out]; have h := HDIM.out; rw [h.2.2.2.1, h.2.2.2.2.1]; exact partL_all h.2.2.2.2.2.1 h.2.2.2.2.2.2)
      have hW1 := HBk.out.size
      have HL1 := hide (lies_of_own HO.out.2.1)
      have HL2 := hide (lies_of_own HO.out.2.2.1)
      have HBF : Hid (Below w.heap.size w wr) := hide (HB0.out.trans (HBk.out.mono (by omega)))
      have h3 : ¬ ((k : Int) < (k : Int)) := by omega
      go_wp2
      (try simp only [Exit.inBlock, Exit.then])
      refine ret_ten (p := 4) (u := 5) rfl rfl (w.heap.size + 1) _ rfl (HXF.out.set2 _ _) rfl ?_
      have hE0 : smE s k (a : Int) = 0 := by rw [← HE.out]; exact hEE
      have hLL : smL s k l (a : Int) = zs := by
        have h := HDIM.out
        rw [smL_ok HOK.out (by rw [HLS.out]; exact han), sumT, h.1, h.2.1, h.2.2.1, HZS.out]
        rfl
      exact ⟨_, _, _, _, _, ⟨_, by first | rfl | (rw [hEE]; rfl)⟩, by rw [smS_ok HOK.out (by rw [HLS.out]; exact han), ← HSS.out]; exact lies_aside9 HXF.out HL1.out _ _, by rw [hLL]; exact lies_aside9 HXF.out HL2.out _ _, (HBF.out.setCell (by dsimp only; omega) _).setCell (by dsimp only; omega) _⟩

end Go.Proofs.YtomhbhhfbbdilaaGreatDoor
