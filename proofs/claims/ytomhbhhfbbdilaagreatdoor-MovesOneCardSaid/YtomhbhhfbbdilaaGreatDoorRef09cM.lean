/- The document's answers of layer 9: Turn. -/
import Derived.Test.YtomhbhhfbbdilaaGreatDoorRef09bM
namespace Go.Proofs.YtomhbhhfbbdilaaGreatDoor
open Go.RowKit
set_option linter.unusedVariables false
set_option linter.unusedSimpArgs false
set_option maxRecDepth 100000

set_option maxHeartbeats 800000 in
theorem rnew_ok9 (A : Option Addr) (n c q : Nat) (s : List Int) (w : World) (h : Lies w A n (s.map (Value.int .i64))) (hnil : A = none → c = 0) (hq : sizeI s = (q : Int)) (hp : 0 < q) :
    Calls Tryz.prog 121 #[.slice A n c] w fun e w' => ∃ g1 c1 g2, e = .returned (.tuple #[tenV (some ⟨g1, 0, none⟩) n c1 (some ⟨g2, 0, none⟩) q q, .int .i64 0]) ∧
      w'.ownsRow w.heap.size 3 1 (.slice (some ⟨g1, 0, none⟩) n c1) n (s.map (Value.int .i64)) ∧ w'.ownsRow w.heap.size 21 1 (.slice (some ⟨g2, 0, none⟩) q q) q (List.replicate q (.int .i32 0)) ∧ g1 ≠ g2 ∧ Below w.heap.size w w' := by
  have hlen : s.length = n := by have := h.len; simpa using this
  obtain ⟨hn1, hn4, _⟩ := sizeI_pos (xs := s) (by omega)
  rw [hlen] at hn1 hn4
  have hq4 := sizeI_le s
  have HA := hide h
  have HD : Hid (decide (0 < sizeI s) = true) := hide (decide_eq_true (by omega))
  have HQ := hide hq
  have HNIL := hide hnil
  obtain ⟨i0, hi, hz0, hz1, hz2⟩ := info_parts Tryz.infoI
  have HI := hide hi
  have HZ0 := hide hz0
  have HZ1 := hide hz1
  have HZ2 := hide hz2
  clear h hq hlen hi hz0 hz1 hz2 hnil
  obtain ⟨W, hW⟩ : ∃ W, W = w.alloc (.cells #[.slice none 0 0, .slice none 0 0] 60) := ⟨_, rfl⟩
  have HBX : Hid (BoxT W w.heap.size (.slice none 0 0) (.slice none 0 0)) := hide (by rw [hW]; exact BoxT.new w _ _)
  have HBB : Hid (Below w.heap.size w W) := hide (by rw [hW]; exact (Below.refl w.heap.size w).alloc (Nat.le_refl _) _)
  have hW' := hW.symm
  clear hW
  go_enter Tryz.func121, Tryz.ntmps121
  go_wp2_with fail
  refine Calls.mono (rcheck_any A n c s _ (HA.out.below HBB.out) (by omega)) ?_
  rintro e w2 ⟨rfl, rfl⟩
  rw [HD.out]
  go_wp2_with (at_builtin; with_reducible refine wpList_append_nil rfl (.const (.slice none 0 0)) (.tmp 8) 31 rfl 3 i0 (.int .i64 0) 8 Tryz.underlying31 HI.out HZ0.out HZ1.out HZ2.out rfl rfl A n c .i64 s rfl (HA.out.below HBB.out) HNIL.out (by omega) (by unfold maxLen; omega) ?_)
  intro A1 c1 w3 ho1 hb3
  have hs23 := hb3.size
  have HBX3 := hide (HBX.out.kept hb3)
  have hlt3 := HBX.out.lt
  have HB3 := hide (HBB.out.trans (hb3.mono HBB.out.size))
  have HO1 := hide ho1
  clear ho1 hb3 HBX
  go_wp2_with fail
  refine Calls.mono (rsize_any A n c s w3 (HA.out.below HB3.out) (by omega)) ?_
  rintro e w4 ⟨rfl, rfl⟩
  have hsz := HB3.out.size
  rw [HQ.out]
  have hmk := make_nums [] (q : Int) q rfl (by have := HQ.out; omega) w3
  have HBX5 := hide (HBX3.out.alloc (.cells (part [] q 0).toArray 21))
  have hmk5 := heap_alloc_new w3 (.cells (part [] q 0).toArray 21)
  have HMK := hide hmk5
  clear HBX3 hmk5
  go_wp2_with (refine wpList_store_row rfl 60 _ _ rfl w.heap.size #[.slice A1 n c1, .slice (some ⟨w3.heap.size, 0, none⟩) q q] rfl rfl 60 _ HBX5.out sizeT rfl (by simp [Value.oneCell']) ?_)
  (try simp only [Exit.inBlock, Exit.then])
  refine ret_ten (p := 2) (u := 3) rfl rfl w.heap.size _ rfl (HBX5.out.set _ _) rfl ?_
  obtain ⟨g1, rfl⟩ := own_some HO1.out (by omega)
  refine ⟨g1, c1, w3.heap.size, rfl, ?_, ?_, ?_, below_setRow (HB3.out.alloc (by omega) _) (Nat.le_refl _) _⟩
  · exact own_base (own_setRow (HO1.out.alloc _) hlt3 _) (by omega)
  · have h0 : World.ownsRow (w3.alloc (.cells (part [] q 0).toArray 21)) w3.heap.size 21 1 (.slice (some ⟨w3.heap.size, 0, none⟩) q q) q (List.replicate q (.int .i32 0)) := own_of_block (Nat.le_refl _) HMK.out (by rw [part_none]; simp) (Nat.le_refl _) (by unfold maxLen; have := HQ.out; omega) (by rw [part_none]; simp)
    have hne : w.heap.size ≠ w3.heap.size := by omega
    exact own_base (own_setRow h0 (by omega) _) (by omega)
  · have := (HO1.out.lt g1 rfl).2
    omega

/-- The tensor that the reference fills. -/
def OutT (v : World) (px B g1 n c1 g2 m : Nat) (ts zs : List Int) : Prop :=
  BoxT v px (.slice (some ⟨g1, 0, none⟩) n c1) (.slice (some ⟨g2, 0, none⟩) m m) ∧ v.ownsRow B 3 1 (.slice (some ⟨g1, 0, none⟩) n c1) n (ts.map (Value.int .i64)) ∧ v.ownsRow B 21 1 (.slice (some ⟨g2, 0, none⟩) m m) m (zs.map (Value.int .i32)) ∧ px ≠ g2 ∧ g1 ≠ g2 ∧ px ≠ g1

theorem OutT.kept {v v' : World} {px B g1 n c1 g2 m : Nat} {ts zs : List Int} (h : OutT v px B g1 n c1 g2 m ts zs) (hb : Below v.heap.size v v') : OutT v' px B g1 n c1 g2 m ts zs :=
  ⟨h.1.kept hb, own_below h.2.1 hb, own_below h.2.2.1 hb, h.2.2.2⟩

theorem OutT.put {v : World} {px B g1 n c1 g2 m k : Nat} {ts zs : List Int} (h : OutT v px B g1 n c1 g2 m ts zs) (hk : k < m) (z : Int) : OutT (v.setCell ⟨g2, k, none⟩ (.int .i32 z)) px B g1 n c1 g2 m ts (zs.set k z) :=
  ⟨(Below.heap_setCell _ _ _ _ (by dsimp only; exact h.2.2.2.1)).trans h.1, own_setCell' h.2.1 (by dsimp only; exact h.2.2.2.2.1) _, by rw [List.map_set]; exact own_set9 h.2.2.1 hk, h.2.2.2⟩

set_option maxHeartbeats 8000000 in
theorem rmturn9_any (A B U : Option Addr) (n c m d q e0 : Nat) (s l u : List Int) (w : World) (hA : Lies w A n (s.map (Value.int .i64))) (hB : Lies w B m (l.map (Value.int .i32))) (hU : Lies w U q (u.map (Value.int .i64))) (hn : n ≤ 281474976710656) (hq : q ≤ 281474976710656) :
    Calls Tryz.prog 31 #[tenV A n c B m d, .slice U q e0] w fun e w' => ∃ A1 k1 c1 A2 k2 c2, e = .returned (.tuple #[tenV A1 k1 c1 A2 k2 c2, .int .i64 (tuE s m u)]) ∧ Lies w' A1 k1 ((tuS s m u).map (Value.int .i64)) ∧ Lies w' A2 k2 ((tuL s m l u).map (Value.int .i32)) ∧ Below w.heap.size w w' := by
  obtain ⟨W0, hW0⟩ : ∃ W0, W0 = (w.alloc (.cells #[.slice A n c, .slice B m d] 60)).alloc (.cells #[.slice none 0 0, .slice none 0 0] 60) := ⟨_, rfl⟩
  have HB0 : Hid (Below w.heap.size w W0) := hide (by rw [hW0]; exact ((Below.refl w.heap.size w).alloc (Nat.le_refl _) _).alloc (by simp only [World.size_alloc]; omega) _)
  have hs0 : W0.heap.size = w.heap.size + 2 := by rw [hW0]; simp
  have HX0 : Hid (BoxT W0 w.heap.size (.slice A n c) (.slice B m d)) := hide (by rw [hW0]; exact (BoxT.new w _ _).alloc _)
  have HXR : Hid (BoxT W0 (w.heap.size + 1) (.slice none 0 0) (.slice none 0 0)) := hide (by
    rw [hW0]
    have h := BoxT.new (w.alloc (.cells #[.slice A n c, .slice B m d] 60)) (.slice none 0 0) (.slice none 0 0)
    rwa [World.size_alloc] at h)
  have hW0' := hW0.symm
  clear hW0
  have HLS : Hid (s.length = n) := hide (lies_len9 hA)
  have HLM : Hid (l.length = m) := hide (lies_len9 hB)
  have HA := hide (hA.below HB0.out)
  have HB := hide (hB.below HB0.out)
  have HU := hide (hU.below HB0.out)
  have HLU : Hid (u.length = q) := hide (lies_len9 hU)
  clear hU
  clear hA hB
  obtain ⟨E, hE⟩ : ∃ z, z = tuE s m u := ⟨_, rfl⟩
  rw [← hE]
  have HE := hide hE
  clear hE
  have a0 := HX0.out.c0
  have a1 := HX0.out.c1
  go_enter Tryz.func31, Tryz.ntmps31
  go_wp2_with fail
  refine Calls.mono (rtcheck_any A B n c m d s _ HA.out hn) ?_
  rintro e w1 ⟨rfl, hb1⟩
  clear a0 a1
  have HB1 := hide hb1
  clear hb1
  by_cases hok : tenOk s m = true
  rotate_left
  · have hno : tenOk s m = false := by simpa using hok
    rw [hno]
    have HEE : E = 1 := by rw [HE.out, tuE, if_neg (fun h => hok h.1)]
    have r0 := (HXR.out.kept HB1.out).c0
    have r1 := (HXR.out.kept HB1.out).c1
    have rf0 := (HXR.out.kept HB1.out).f0 0
    have rf1 := (HXR.out.kept HB1.out).f0 1
    have HBB := hide (HB0.out.trans (HB1.out.mono (by omega)))
    have HXF := hide (HXR.out.kept HB1.out)
    go_wp2
    (try simp only [Exit.inBlock, Exit.then])
    refine ret_ten (p := 4) (u := 5) rfl rfl (w.heap.size + 1) _ rfl (HXF.out.set2 _ _) rfl ?_
    have hne : ¬ E = 0 := by omega
    exact ⟨none, 0, 0, none, 0, 0, by rw [HEE]; rfl, by rw [tuS, if_neg (by rw [← HE.out]; exact hne)]; exact nil_lies9 _ _, by rw [tuL, if_neg (by rw [← HE.out]; exact hne)]; exact nil_lies9 _ _, (HBB.out.setCell (by dsimp only; omega) _).setCell (by dsimp only; omega) _⟩
  rw [hok]
  have HOK := hide hok
  clear hok
  obtain ⟨hn1, hn4, hzz⟩ := sizeI_pos (tenOk_iff.1 HOK.out).1
  rw [HLS.out] at hn1 hn4
  have hm4 : m ≤ 4096 := by have := sizeI_le s; have := (tenOk_iff.1 HOK.out).2; omega
  have hmp : 0 < m := by have := tenOk_iff.1 HOK.out; omega
  clear hzz
  have a0 := (HX0.out.kept HB1.out).c0
  have a1 := (HX0.out.kept HB1.out).c1
  go_wp2_with fail
  refine Calls.mono (rorder9_any U q e0 n u _ (HU.out.below HB1.out) hn4 hq) ?_
  rintro e w2 ⟨rfl, rfl⟩
  clear a0 a1
  by_cases hor : ordOk u n = true
  rotate_left
  · have hno : ordOk u n = false := by simpa using hor
    rw [hno]
    have HEE : E = 1 := by rw [HE.out, tuE, if_neg (fun h => hor (by rw [HLS.out] at h; exact h.2))]
    have r0 := (HXR.out.kept HB1.out).c0
    have r1 := (HXR.out.kept HB1.out).c1
    have rf0 := (HXR.out.kept HB1.out).f0 0
    have rf1 := (HXR.out.kept HB1.out).f0 1
    have HBB := hide (HB0.out.trans (HB1.out.mono (by omega)))
    have HXF := hide (HXR.out.kept HB1.out)
    go_wp2
    (try simp only [Exit.inBlock, Exit.then])
    refine ret_ten (p := 4) (u := 5) rfl rfl (w.heap.size + 1) _ rfl (HXF.out.set2 _ _) rfl ?_
    have hne : ¬ E = 0 := by omega
    exact ⟨none, 0, 0, none, 0, 0, by rw [HEE]; rfl, by rw [tuS, if_neg (by rw [← HE.out]; exact hne)]; exact nil_lies9 _ _, by rw [tuL, if_neg (by rw [← HE.out]; exact hne)]; exact nil_lies9 _ _, (HBB.out.setCell (by dsimp only; omega) _).setCell (by dsimp only; omega) _⟩
  rw [hor]
  have HOR := hide hor
  clear hor
  obtain ⟨SS, hSS⟩ : ∃ z, z = pickL s u := ⟨_, rfl⟩
  have HSS := hide hSS
  have HUI := hide (ord_in HOR.out hn4)
  obtain rfl : q = n := by rw [← HLU.out]; exact (ordOk_iff.1 HOR.out).1
  have HSZ : Hid (sizeI SS = (m : Int)) := hide (by rw [hSS, pick_size HLS.out HOR.out hn4]; exact (tenOk_iff.1 HOK.out).2)
  have HSL : Hid (SS.length = q) := hide (by rw [hSS, pickL_len, HLU.out])
  have hEE : E = 0 := by rw [HE.out]; exact tuE_iff.2 ⟨HOK.out, by rw [HLS.out]; exact HOR.out⟩
  clear hSS
  have a0 := (HX0.out.kept HB1.out).c0
  have a1 := (HX0.out.kept HB1.out).c1
  go_wp2_with fail
  refine Calls.mono (rturned9_any A U q c q e0 s u _ (HA.out.below HB1.out) (HU.out.below HB1.out) hn4 HUI.out) ?_
  rintro e w3 ⟨At, ct, rfl, hot, hb3⟩
  rw [← HSS.out] at hot
  have HB3 := hide (below_nx6 HB1.out hb3)
  have hnil : At = none → ct = 0 := by
    intro h
    subst h
    rcases hot.2 with ⟨e9, _⟩ | ⟨g, cap, cur, e9, _⟩
    · injection e9
    · cases e9
  have hlt := lies_of_own hot
  clear a0 a1 hb3 hot
  go_wp2_with fail
  refine Calls.mono (rnew_ok9 At q ct m SS _ hlt hnil HSZ.out (by omega)) ?_
  rintro e w4 ⟨g1, c1, g2, rfl, ho1, ho2, hne, hb4⟩
  clear hlt hnil
  obtain ⟨W5, hW5⟩ : ∃ W, W = w4.alloc (.cells #[.slice (some ⟨g1, 0, none⟩) q c1, .slice (some ⟨g2, 0, none⟩) m m] 60) := ⟨_, rfl⟩
  have hs3 := HB3.out.size
  have hl1 := ho1.lt g1 rfl
  have hl2 := ho2.lt g2 rfl
  have HO5 : Hid (OutT W5 w4.heap.size W0.heap.size g1 q c1 g2 m SS (List.replicate m 0)) := hide (by
    rw [hW5]
    have hb5 : Below w4.heap.size w4 (w4.alloc (.cells #[.slice (some ⟨g1, 0, none⟩) q c1, .slice (some ⟨g2, 0, none⟩) m m] 60)) := below_al6 (Below.refl _ _)
    refine ⟨BoxT.new w4 _ _, own_base (own_below ho1 hb5) hs3, own_base (own_below (by simpa using ho2) hb5) hs3, by omega, hne, by omega⟩)
  have HB5 : Hid (Below W0.heap.size W0 W5) := hide (by rw [hW5]; exact below_al6 (below_nx6 HB3.out hb4))
  have hpx : W0.heap.size ≤ w4.heap.size := (below_nx6 HB3.out hb4).size
  have hg2b : W0.heap.size ≤ g2 := by omega
  have hW5' := hW5.symm
  clear hW5 ho1 ho2 hne hb4 hs3 hl1 hl2 HB3 HB1
  have HF : Hid (∀ v, Below W0.heap.size W0 v → v.cell? ⟨w.heap.size, 0, none⟩ = some (.slice A q c) ∧ v.cell? ⟨w.heap.size, 1, none⟩ = some (.slice B m d) ∧ Lies v A q (s.map (Value.int .i64)) ∧ Lies v B m (l.map (Value.int .i32)) ∧ Lies v U q (u.map (Value.int .i64))) := hide (fun v hv => ⟨(HX0.out.kept hv).c0, (HX0.out.kept hv).c1, HA.out.below hv, HB.out.below hv, HU.out.below hv⟩)
  obtain ⟨bB, oB, rfl, _, _⟩ := byte_at HB.out (by omega)
  obtain ⟨a0, a1, _⟩ := HF.out _ HB5.out
  go_wp2
  clear a0 a1
  go_loopw [8] (fun i wr => ∃ (k : Nat) (zs : List Int), k ≤ m ∧ i = .int .i64 k ∧ Hid (OutT wr w4.heap.size W0.heap.size g1 q c1 g2 m SS zs) ∧ Hid (laidT s u l m k zs) ∧ Hid (Below W0.heap.size W0 wr)) (fun i _ => m - (intOf i).toNat)
  case atStart => exact ⟨0, _, Nat.zero_le _, rfl, HO5, hide ⟨by rw [List.length_replicate], fun i hi => absurd hi (by omega)⟩, HB5⟩
  case round =>
    clear HO5 HB5
    obtain ⟨k, zs, hk, rfl, HO, HR, HBk⟩ := hrel
    by_cases hlk : k < m
    · have h0 : (0 : Int) ≤ (k : Int) := by omega
      have h3 : (k : Int) < (m : Int) := by omega
      obtain ⟨a0, a1, hlA, _⟩ := HF.out _ HBk.out
      go_wp2_with fail
      refine Calls.mono (rat_ok A q c (k : Int) s _ hlA hn (by omega) (by have := (tenOk_iff.1 HOK.out).2; omega)) ?_
      rintro e wm ⟨ga, hga, rfl, hha, hbm⟩
      have HOM := hide (HO.out.kept hbm)
      have HBm := hide (below_nx6 HBk.out hbm)
      have HDL : Hid ((digs s (k : Int)).length = q) := hide (by rw [digs_len, HLS.out])
      have HAT : Hid (Lies wm (some ⟨ga, 0, none⟩) q ((digs s (k : Int)).map (Value.int .i64))) := hide (lies_of_own (own_of_block (base := 0) (w := wm) (e := 3) (Nat.zero_le _) hha (by simp [HDL.out]) (Nat.le_refl _) (by unfold maxLen; omega) (by rw [List.take_of_length_le (by simp [HDL.out])])) )
      clear a0 a1 hlA hbm hha
      obtain ⟨t1, t2, t3, t4⟩ := turn_there HOK.out HLS.out HOR.out hlk
      obtain ⟨kk, hkk⟩ := Int.eq_ofNat_of_zero_le t2
      have hkm : kk < m := by omega
      have HIX : Hid (idxV SS (pickL (digs s (k : Int)) u) = (kk : Int) ∧ idxE SS (pickL (digs s (k : Int)) u) = 0) := hide (by
        rw [HSS.out]
        have e : pickL (digs s (k : Int)) u = toAt s u k := rfl
        rw [e, idxV, idxE, if_pos t1, if_pos t1]
        exact ⟨hkk, rfl⟩)
      have HKK : Hid ((valI (pickL s u) (toAt s u k)).toNat = kk) := hide (by rw [hkk]; rfl)
      clear t1 t2 t3 t4 hkk
      have HC : Hid (∀ v, Below wm.heap.size wm v → v.cell? ⟨w4.heap.size, 0, none⟩ = some (.slice (some ⟨g1, 0, none⟩) q c1)) := hide (fun v hv => (HOM.out.kept hv).1.c0)
      have hd0 : Below wm.heap.size wm wm.drew := below_drewN (Below.refl _ _) 1
      go_wp2
      have hS0 : Hid (wm.drew.cell? ⟨w4.heap.size, 0, none⟩ = some (.slice (some ⟨g1, 0, none⟩) q c1)) := hide (HC.out _ hd0)
      refine wp_region_U (fun _ v => v.cell? ⟨w4.heap.size, 0, none⟩ = some (.slice (some ⟨g1, 0, none⟩) q c1)) 99 (by kernel_rfl) ?_
      refine wpAnyU_take (i := 0) (oi := { dst := some 48, op := _, type := _, pos := _, after := _, guard := none }) (v := .pointer (some ⟨w4.heap.size, 0, none⟩)) rfl (by kernel_rfl) (by kernel_rfl) (by kernel_rfl) (by kernel_rfl) (fun _ _ _ h => h) (yields_take rfl (fun w' hw => by have h1 := hw.const; go_simp)) hS0.out ?_
      simp only [Act.put, List.setIfInBounds_toArray, List.set_cons_zero, List.set_cons_succ]
      refine wpAnyU_take (i := 1) (oi := { dst := some 49, op := _, type := _, pos := _, after := _, guard := none }) (v := .slice (some ⟨g1, 0, none⟩) q c1) rfl (by kernel_rfl) (by kernel_rfl) (by kernel_rfl) (by kernel_rfl) (fun _ _ _ h => h) (yields_take rfl (fun w' hw => by have h1 := hw.const; go_simp)) hS0.out ?_
      simp only [Act.put, List.setIfInBounds_toArray, List.set_cons_zero, List.set_cons_succ]
      refine wpAnyU_take (i := 2) (oi := { dst := some 50, op := _, type := _, pos := _, after := _, guard := none }) (v := .slice (some ⟨ga, 0, none⟩) q q) rfl (by kernel_rfl) (by kernel_rfl) (by kernel_rfl) (by kernel_rfl) (fun _ _ _ h => h) (yields_take rfl (fun w' hw => by have h1 := hw.const; go_simp)) hS0.out ?_
      simp only [Act.put, List.setIfInBounds_toArray, List.set_cons_zero, List.set_cons_succ]
      refine wpAnyU_take (i := 3) (oi := { dst := some 51, op := _, type := _, pos := _, after := _, guard := none }) (v := .slice U q e0) rfl (by kernel_rfl) (by kernel_rfl) (by kernel_rfl) (by kernel_rfl) (fun _ _ _ h => h) (yields_take rfl (fun w' hw => by have h1 := hw.const; go_simp)) hS0.out ?_
      simp only [Act.put, List.setIfInBounds_toArray, List.set_cons_zero, List.set_cons_succ]
      refine wpAnyU_one (i := 4) (by kernel_rfl) rfl ?_
      intro K hK
      go_simp
      refine Calls.mono (rturned9_any (some ⟨ga, 0, none⟩) U q q q e0 (digs s (k : Int)) u _ (HAT.out.below hd0) ((HF.out _ (below_nx6 HBm.out hd0)).2.2.2.2) hn4 HUI.out) ?_
      rintro e wq ⟨Ay, cy, rfl, hoy, hb⟩
      dsimp only
      have hd1 : Below wm.heap.size wm wq := below_nx6 hd0 hb
      clear hb
      have hS1 : Hid (wq.cell? ⟨w4.heap.size, 0, none⟩ = some (.slice (some ⟨g1, 0, none⟩) q c1)) := hide (HC.out _ hd1)
      refine hK.out _ _ hS1.out (fun _ => ?_)
      clear hK K hS0
      refine wpAnyU_one (i := 5) (by kernel_rfl) rfl ?_
      intro K hK
      go_simp
      refine Calls.mono (rindex_any (some ⟨g1, 0, none⟩) Ay q c1 q cy SS (pickL (digs s (k : Int)) u) _ (lies_of_own (HOM.out.kept hd1).2.1) (lies_of_own hoy) hn hn) ?_
      rintro e ws ⟨rfl, hb⟩
      dsimp only
      rw [HIX.out.1, HIX.out.2]
      have hd2 : Below wm.heap.size wm ws := below_nx6 hd1 hb
      clear hb hoy
      have hS2 : Hid (ws.cell? ⟨w4.heap.size, 0, none⟩ = some (.slice (some ⟨g1, 0, none⟩) q c1)) := hide (HC.out _ hd2)
      refine hK.out _ _ hS2.out (fun _ => ?_)
      clear hK K hS1
      refine wpAnyU_take (i := 6) (oi := { dst := some 47, op := _, type := _, pos := _, after := _, guard := none }) (v := .tuple #[.int .i64 (kk : Int), .int .i64 (0 : Int)]) rfl (by kernel_rfl) (by kernel_rfl) (by kernel_rfl) (by kernel_rfl) (fun _ _ _ h => h) (yields_take rfl (fun w' hw => by have h1 := hw.const; go_simp)) hS2.out ?_
      simp only [Act.put, List.setIfInBounds_toArray, List.set_cons_zero, List.set_cons_succ]
      refine wpAnyU_take (i := 7) (oi := { dst := some 54, op := _, type := _, pos := _, after := _, guard := none }) (v := .int .i64 (kk : Int)) rfl (by kernel_rfl) (by kernel_rfl) (by kernel_rfl) (by kernel_rfl) (fun _ _ _ h => h) (yields_take rfl (fun w' hw => by have h1 := hw.const; go_simp)) hS2.out ?_
      simp only [Act.put, List.setIfInBounds_toArray, List.set_cons_zero, List.set_cons_succ]
      refine wpAnyU_take (i := 8) (oi := { dst := some 55, op := _, type := _, pos := _, after := _, guard := none }) (v := .int .i64 (0 : Int)) rfl (by kernel_rfl) (by kernel_rfl) (by kernel_rfl) (by kernel_rfl) (fun _ _ _ h => h) (yields_take rfl (fun w' hw => by have h1 := hw.const; go_simp)) hS2.out ?_
      simp only [Act.put, List.setIfInBounds_toArray, List.set_cons_zero, List.set_cons_succ]
      refine wpAnyU_take (i := 9) (oi := { dst := some 11, op := _, type := _, pos := _, after := _, guard := none }) (v := .int .i64 (kk : Int)) rfl (by kernel_rfl) (by kernel_rfl) (by kernel_rfl) (by kernel_rfl) (fun _ _ _ h => h) (yields_take rfl (fun w' hw => by have h1 := hw.const; go_simp)) hS2.out ?_
      simp only [Act.put, List.setIfInBounds_toArray, List.set_cons_zero, List.set_cons_succ]
      refine wpAnyU_take (i := 10) (oi := { dst := some 12, op := _, type := _, pos := _, after := _, guard := none }) (v := .int .i64 (0 : Int)) rfl (by kernel_rfl) (by kernel_rfl) (by kernel_rfl) (by kernel_rfl) (fun _ _ _ h => h) (yields_take rfl (fun w' hw => by have h1 := hw.const; go_simp)) hS2.out ?_
      simp only [Act.put, List.setIfInBounds_toArray, List.set_cons_zero, List.set_cons_succ]
      refine wpAnyU_done (by kernel_rfl) ?_ _
      clear hS2
      have HOS := hide (HOM.out.kept hd2)
      have HBs := hide (below_nx6 HBm.out hd2)
      clear HC hd0 hd1 hd2 HOM HBm HAT HIX HO HBk
      obtain ⟨q0, q1, _, hlB, _⟩ := HF.out _ HBs.out
      obtain ⟨_, _, eB, _, hxB⟩ := byte_at hlB (by omega)
      cases eB
      have hcB := hxB k hlk
      obtain ⟨x, hx⟩ : ∃ z, z = l.getD k 0 := ⟨_, rfl⟩
      rw [← hx] at hcB
      have HXV := hide hx
      obtain ⟨hg2, hf2⟩ := own_cells9 HOS.out.2.2.1 hkm
      clear hx hlB hxB q0 q1
      obtain ⟨y, hy⟩ : ∃ z, z = zs.getD kk 0 := ⟨_, rfl⟩
      rw [← hy] at hg2
      clear hy
      have HC : Hid (∀ v, Below ws.heap.size ws v → v.cell? ⟨w4.heap.size, 1, none⟩ = some (.slice (some ⟨g2, 0, none⟩) m m) ∧ v.cell? ⟨w.heap.size, 1, none⟩ = some (.slice (some ⟨bB, oB, none⟩) m d) ∧ v.cell? ⟨bB, oB + k, none⟩ = some (.int .i32 x)) := hide (fun v hv => by
        have hb9 := below_nx6 HBs.out hv
        obtain ⟨_, q1, _, hlB, _⟩ := HF.out _ hb9
        obtain ⟨_, _, eB, _, hxB⟩ := byte_at hlB (by omega)
        cases eB
        exact ⟨(HOS.out.kept hv).1.c1, q1, by rw [HXV.out]; exact hxB k hlk⟩)
      have hd0 : Below ws.heap.size ws ws.drew := below_drewN (Below.refl _ _) 1
      have g0 : (0 : Int) ≤ (kk : Int) := by omega
      have g1' : (kk : Int) < (m : Int) := by omega
      have hfx : ws.drew.frozen? ⟨g2, kk, none⟩ = false := hf2
      clear hcB
      go_wp2
      have hS0 : Hid (ws.drew.cell? ⟨w4.heap.size, 1, none⟩ = some (.slice (some ⟨g2, 0, none⟩) m m) ∧ ws.drew.cell? ⟨w.heap.size, 1, none⟩ = some (.slice (some ⟨bB, oB, none⟩) m d) ∧ ws.drew.cell? ⟨bB, oB + k, none⟩ = some (.int .i32 x)) := hide (HC.out _ hd0)
      refine wp_region_U (fun b v => b = false → v.cell? ⟨w4.heap.size, 1, none⟩ = some (.slice (some ⟨g2, 0, none⟩) m m) ∧ v.cell? ⟨w.heap.size, 1, none⟩ = some (.slice (some ⟨bB, oB, none⟩) m d) ∧ v.cell? ⟨bB, oB + k, none⟩ = some (.int .i32 x)) 9 (by kernel_rfl) ?_
      refine wpAnyU_take (i := 0) (oi := { dst := some 56, op := _, type := _, pos := _, after := _, guard := none }) (v := .pointer (some ⟨w4.heap.size, 1, none⟩)) rfl (by kernel_rfl) (by kernel_rfl) (by kernel_rfl) (by kernel_rfl) (fun _ _ _ h => h) (yields_take rfl (fun w' hw => by obtain ⟨h1, h2, h3⟩ := hw.no (by kernel_rfl) rfl; go_simp)) (fun _ => hS0.out) ?_
      simp only [Act.put, List.setIfInBounds_toArray, List.set_cons_zero, List.set_cons_succ]
      refine wpAnyU_take (i := 1) (oi := { dst := some 57, op := _, type := _, pos := _, after := _, guard := none }) (v := .slice (some ⟨g2, 0, none⟩) m m) rfl (by kernel_rfl) (by kernel_rfl) (by kernel_rfl) (by kernel_rfl) (fun _ _ _ h => h) (yields_take rfl (fun w' hw => by obtain ⟨h1, h2, h3⟩ := hw.no (by kernel_rfl) rfl; go_simp)) (fun _ => hS0.out) ?_
      simp only [Act.put, List.setIfInBounds_toArray, List.set_cons_zero, List.set_cons_succ]
      refine wpAnyU_take (i := 2) (oi := { dst := some 58, op := _, type := _, pos := _, after := _, guard := none }) (v := .int .i64 (kk : Int)) rfl (by kernel_rfl) (by kernel_rfl) (by kernel_rfl) (by kernel_rfl) (fun _ _ _ h => h) (yields_take rfl (fun w' hw => by obtain ⟨h1, h2, h3⟩ := hw.no (by kernel_rfl) rfl; go_simp)) (fun _ => hS0.out) ?_
      simp only [Act.put, List.setIfInBounds_toArray, List.set_cons_zero, List.set_cons_succ]
      refine wpAnyU_take (i := 3) (oi := { dst := some 59, op := _, type := _, pos := _, after := _, guard := none }) (v := .pointer (some ⟨w.heap.size, 1, none⟩)) rfl (by kernel_rfl) (by kernel_rfl) (by kernel_rfl) (by kernel_rfl) (fun _ _ _ h => h) (yields_take rfl (fun w' hw => by obtain ⟨h1, h2, h3⟩ := hw.no (by kernel_rfl) rfl; go_simp)) (fun _ => hS0.out) ?_
      simp only [Act.put, List.setIfInBounds_toArray, List.set_cons_zero, List.set_cons_succ]
      refine wpAnyU_take (i := 4) (oi := { dst := some 60, op := _, type := _, pos := _, after := _, guard := none }) (v := .slice (some ⟨bB, oB, none⟩) m d) rfl (by kernel_rfl) (by kernel_rfl) (by kernel_rfl) (by kernel_rfl) (fun _ _ _ h => h) (yields_take rfl (fun w' hw => by obtain ⟨h1, h2, h3⟩ := hw.no (by kernel_rfl) rfl; go_simp)) (fun _ => hS0.out) ?_
      simp only [Act.put, List.setIfInBounds_toArray, List.set_cons_zero, List.set_cons_succ]
      refine wpAnyU_take (i := 5) (oi := { dst := some 61, op := _, type := _, pos := _, after := _, guard := none }) (v := .int .i64 (k : Int)) rfl (by kernel_rfl) (by kernel_rfl) (by kernel_rfl) (by kernel_rfl) (fun _ _ _ h => h) (yields_take rfl (fun w' hw => by obtain ⟨h1, h2, h3⟩ := hw.no (by kernel_rfl) rfl; go_simp)) (fun _ => hS0.out) ?_
      simp only [Act.put, List.setIfInBounds_toArray, List.set_cons_zero, List.set_cons_succ]
      refine wpAnyU_take (i := 6) (oi := { dst := some 62, op := _, type := _, pos := _, after := _, guard := none }) (v := .pointer (some ⟨bB, oB + k, none⟩)) rfl (by kernel_rfl) (by kernel_rfl) (by kernel_rfl) (by kernel_rfl) (fun _ _ _ h => h) (yields_take rfl (fun w' hw => by obtain ⟨h1, h2, h3⟩ := hw.no (by kernel_rfl) rfl; go_simp)) (fun _ => hS0.out) ?_
      simp only [Act.put, List.setIfInBounds_toArray, List.set_cons_zero, List.set_cons_succ]
      refine wpAnyU_take (i := 7) (oi := { dst := some 63, op := _, type := _, pos := _, after := _, guard := none }) (v := .int .i32 x) rfl (by kernel_rfl) (by kernel_rfl) (by kernel_rfl) (by kernel_rfl) (fun _ _ _ h => h) (yields_take rfl (fun w' hw => by obtain ⟨h1, h2, h3⟩ := hw.no (by kernel_rfl) rfl; go_simp)) (fun _ => hS0.out) ?_
      simp only [Act.put, List.setIfInBounds_toArray, List.set_cons_zero, List.set_cons_succ]
      refine wpAnyU_take (i := 8) (oi := { dst := some 64, op := _, type := _, pos := _, after := _, guard := none }) (v := .pointer (some ⟨g2, kk, none⟩)) rfl (by kernel_rfl) (by kernel_rfl) (by kernel_rfl) (by kernel_rfl) (fun _ _ _ h => h) (yields_take rfl (fun w' hw => by obtain ⟨h1, h2, h3⟩ := hw.no (by kernel_rfl) rfl; go_simp)) (fun _ => hS0.out) ?_
      simp only [Act.put, List.setIfInBounds_toArray, List.set_cons_zero, List.set_cons_succ]
      have hgd : ws.drew.cell? ⟨g2, kk, none⟩ = some (.int .i32 y) := hg2
      refine wpAnyU_one (i := 9) (by kernel_rfl) rfl ?_
      intro K hK
      go_simp
      refine hK _ _ (fun h => by cases h) (fun _ => ?_)
      clear hK K
      refine wpAnyU_done (by kernel_rfl) ?_ _
      clear hS0
      have HON : Hid (OutT (ws.drew.setCell ⟨g2, kk, none⟩ (.int .i32 x)) w4.heap.size W0.heap.size g1 q c1 g2 m SS (zs.set kk x)) := hide ((HOS.out.kept hd0).put hkm x)
      have HBN : Hid (Below W0.heap.size W0 (ws.drew.setCell ⟨g2, kk, none⟩ (.int .i32 x))) := hide ((below_nx6 HBs.out hd0).setCell (by dsimp only; exact hg2b) _)
      have HRN : Hid (laidT s u l m (k + 1) (zs.set kk x)) := hide (by
        have h := laidT_step HOK.out HLS.out HOR.out HR.out hlk
        rwa [HKK.out, ← HXV.out] at h)
      clear HC hd0 hg2 hf2 hfx hgd HOS HBs HR
      go_wp2
      go_roundw
      case rel => exact ⟨k + 1, _, by omega, by go_num, HON, HRN, HBN⟩
      case measure => simp [intOf] <;> omega
    · obtain rfl : k = m := by omega
      obtain ⟨a0, a1, _⟩ := HF.out _ HBk.out
      have c0 := HO.out.1.c0
      have c1' := HO.out.1.c1
      have HXF := hide (HXR.out.kept HBk.out)
      have r0 := HXF.out.c0
      have r1 := HXF.out.c1
      have rf0 := HXF.out.f0 0
      have rf1 := HXF.out.f0 1
      have HZS : Hid (zs = turnL s l u k) := hide (laidT_all HOK.out HLS.out HOR.out HR.out)
      have hW1 := HBk.out.size
      have HL1 := hide (lies_of_own HO.out.2.1)
      have HL2 := hide (lies_of_own HO.out.2.2.1)
      have HBF : Hid (Below w.heap.size w wr) := hide (HB0.out.trans (HBk.out.mono (by omega)))
      have h3 : ¬ ((k : Int) < (k : Int)) := by omega
      go_wp2
      (try simp only [Exit.inBlock, Exit.then])
      refine ret_ten (p := 4) (u := 5) rfl rfl (w.heap.size + 1) _ rfl (HXF.out.set2 _ _) rfl ?_
      have hE0 : tuE s k u = 0 := by rw [← HE.out]; exact hEE
      exact ⟨_, _, _, _, _, ⟨_, by first | rfl | (rw [hEE]; rfl)⟩, by rw [tuS, if_pos hE0, ← HSS.out]; exact lies_aside9 HXF.out HL1.out _ _, by rw [tuL, if_pos hE0, ← HZS.out]; exact lies_aside9 HXF.out HL2.out _ _, (HBF.out.setCell (by dsimp only; omega) _).setCell (by dsimp only; omega) _⟩

end Go.Proofs.YtomhbhhfbbdilaaGreatDoor
