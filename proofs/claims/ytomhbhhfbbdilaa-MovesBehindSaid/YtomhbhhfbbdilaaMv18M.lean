/- Contract of moves.Join: tensors one behind the other along a direction, or refused. -/
import Derived.Test.YtomhbhhfbbdilaaMv17M
namespace Go.Proofs.Ytomhbhhfbbdilaa
open Go.RowKit
set_option linter.unusedVariables false
set_option linter.unusedSimpArgs false
set_option maxRecDepth 100000

/-- What the loop of Join leaves as it is. -/
def JoinAt (w4 : World) (px pf g1 c1 g2 R n g q gt a : Nat) (sh : List Int) (v : World) : Prop :=
  BoxT v px (.slice (some ⟨g1, 0, none⟩) n c1) (.slice (some ⟨g2, 0, none⟩) R R) ∧ v.heap[pf]? = some (.cells #[.slice (some ⟨g, 0, none⟩) q q] 101 (0, 0)) ∧ BoxL v (pf + 1) (.slice (some ⟨g1, 0, none⟩) n c1) (.slice (some ⟨gt, 0, none⟩) n n) ∧ v.heap[pf + 2]? = some (.cells #[.int .i64 (a : Int)] 3 (0, 0)) ∧ v.ownsRow w4.heap.size 3 1 (.slice (some ⟨g1, 0, none⟩) n c1) n (sh.map (Value.int .i64)) ∧ v.ownsRow w4.heap.size 3 1 (.slice (some ⟨gt, 0, none⟩) n n) n ((strL sh).map (Value.int .i64)) ∧ Below w4.heap.size w4 v

theorem JoinAt.below {w4 v v' : World} {px pf g1 c1 g2 R n g q gt a : Nat} {sh : List Int} (h : JoinAt w4 px pf g1 c1 g2 R n g q gt a sh v) (hb : Below v.heap.size v v') : JoinAt w4 px pf g1 c1 g2 R n g q gt a sh v' :=
  ⟨h.1.kept hb, (hb.block _ (lt_of_heap h.2.1)).trans h.2.1, h.2.2.1.kept hb, (hb.block _ (lt_of_heap h.2.2.2.1)).trans h.2.2.2.1, own_below h.2.2.2.2.1 hb, own_below h.2.2.2.2.2.1 hb, below_nx6 h.2.2.2.2.2.2 hb⟩

theorem JoinAt.set {w4 v : World} {px pf g1 c1 g2 R n g q gt a : Nat} {sh : List Int} (h : JoinAt w4 px pf g1 c1 g2 R n g q gt a sh v) (h1 : px ≠ g2) (h2 : pf ≠ g2) (h3 : pf + 1 ≠ g2) (h4 : pf + 2 ≠ g2) (h5 : g1 ≠ g2) (h7 : gt ≠ g2) (h6 : w4.heap.size ≤ g2) (k : Nat) (x : Value) : JoinAt w4 px pf g1 c1 g2 R n g q gt a sh (v.setCell ⟨g2, k, none⟩ x) :=
  ⟨(Below.heap_setCell _ _ _ _ (by dsimp only; exact h1)).trans h.1, (Below.heap_setCell _ _ _ _ (by dsimp only; exact h2)).trans h.2.1, (Below.heap_setCell _ _ _ _ (by dsimp only; exact h3)).trans h.2.2.1, (Below.heap_setCell _ _ _ _ (by dsimp only; exact h4)).trans h.2.2.2.1, own_setCell' h.2.2.2.2.1 (by dsimp only; exact h5) _, own_setCell' h.2.2.2.2.2.1 (by dsimp only; exact h7) _, h.2.2.2.2.2.2.setCell (by dsimp only; exact h6) _⟩

set_option maxHeartbeats 8000000 in
theorem mjoin_own (U : Option Addr) (q cu : Nat) (ts : List Tn) (al : Int) (w : World) (hl : ts.length = q) (hU : 1 ≤ q → ∃ b o, U = some ⟨b, o, none⟩ ∧ b < w.heap.size ∧ TsAt w b o ts) (hq48 : q ≤ 70368744177664) :
    Calls Try.prog 28 #[.slice U q cu, .int .i64 al] w fun e w' => ∃ A1 k1 c1 A2 k2 c2, e = .returned (.tuple #[tenV A1 k1 c1 A2 k2 c2, .int .i64 (jnE ts al)]) ∧
      w'.ownsRow w.heap.size 3 1 (.slice A1 k1 c1) k1 ((jnS ts al).map (Value.int .i64)) ∧ w'.ownsRow w.heap.size 21 1 (.slice A2 k2 c2) k2 ((jnL ts al).map (Value.int .i32)) ∧ k1 ≤ 4 ∧ k2 ≤ 4096 ∧ Below w.heap.size w w' := by
  obtain ⟨W0, hW0⟩ : ∃ W0, W0 = w.alloc (.cells #[.slice none 0 0, .slice none 0 0] 49) := ⟨_, rfl⟩
  have HB0 : Hid (Below w.heap.size w W0) := hide (by rw [hW0]; exact below_al6 (Below.refl _ _))
  have hs0 : W0.heap.size = w.heap.size + 1 := by rw [hW0]; simp
  have HXR : Hid (BoxT W0 w.heap.size (.slice none 0 0) (.slice none 0 0)) := hide (by rw [hW0]; exact BoxT.new w _ _)
  have hW0' := hW0.symm
  have HL := hide hl
  clear hW0 hl
  obtain ⟨E, hE⟩ : ∃ z, z = jnE ts al := ⟨_, rfl⟩
  rw [← hE]
  have HE := hide hE
  clear hE
  have HB00 := hide (Below.refl W0.heap.size W0)
  go_enter Try.func28, Try.ntmps28
  by_cases h1q : 1 ≤ q
  rotate_left
  · obtain rfl : 0 = q := by omega
    have HLz := HL
    have HEE : E = 1 := by rw [HE.out, jnE, if_neg (fun h => by have h1 := h.1.1; rw [HLz.out] at h1; exact absurd h1 (by decide))]
    have r0 := (HXR.out.kept HB00.out).c0
    have r1 := (HXR.out.kept HB00.out).c1
    have rf0 := (HXR.out.kept HB00.out).f0 0
    have rf1 := (HXR.out.kept HB00.out).f0 1
    have HBB := hide (HB0.out.trans (HB00.out.mono (by omega)))
    have HXF := hide (HXR.out.kept HB00.out)
    go_wp2
    (try simp only [Exit.inBlock, Exit.then])
    refine ret_ten (p := 4) (u := 5) rfl rfl w.heap.size _ rfl (HXF.out.set2 _ _) rfl ?_
    have hne : ¬ E = 0 := by omega
    exact ⟨none, 0, 0, none, 0, 0, by first | (rw [HEE]; rfl) | rfl, by rw [jnS, if_neg (by rw [← HE.out]; exact hne)]; exact World.ownsRow_nil _ _ _ _, by rw [jnL, if_neg (by rw [← HE.out]; exact hne)]; exact World.ownsRow_nil _ _ _ _, by omega, by omega, (HBB.out.setCell (by dsimp only; omega) _).setCell (by dsimp only; omega) _⟩
  have f1 : ¬ ((q : Int) < 1) := by omega
  by_cases h4q : q ≤ 4
  rotate_left
  · have f2 : (4 : Int) < (q : Int) := by omega
    have H4 := hide h4q
    clear h4q
    have HEE : E = 1 := by rw [HE.out, jnE, if_neg (fun h => by have h1 := h.1.2.1; rw [HL.out] at h1; exact H4.out h1)]
    have r0 := (HXR.out.kept HB00.out).c0
    have r1 := (HXR.out.kept HB00.out).c1
    have rf0 := (HXR.out.kept HB00.out).f0 0
    have rf1 := (HXR.out.kept HB00.out).f0 1
    have HBB := hide (HB0.out.trans (HB00.out.mono (by omega)))
    have HXF := hide (HXR.out.kept HB00.out)
    go_wp2
    (try simp only [Exit.inBlock, Exit.then])
    refine ret_ten (p := 4) (u := 5) rfl rfl w.heap.size _ rfl (HXF.out.set2 _ _) rfl ?_
    have hne : ¬ E = 0 := by omega
    exact ⟨none, 0, 0, none, 0, 0, by first | (rw [HEE]; rfl) | rfl, by rw [jnS, if_neg (by rw [← HE.out]; exact hne)]; exact World.ownsRow_nil _ _ _ _, by rw [jnL, if_neg (by rw [← HE.out]; exact hne)]; exact World.ownsRow_nil _ _ _ _, by omega, by omega, (HBB.out.setCell (by dsimp only; omega) _).setCell (by dsimp only; omega) _⟩
  have f2 : ¬ ((4 : Int) < (q : Int)) := by omega
  obtain ⟨b, o, rfl, hbw, hTS⟩ := hU h1q
  have HBW := hide hbw
  have HTS : Hid (TsAt W0 b o ts) := hide (fun j t ht => by
    obtain ⟨x0, x1, k1, k2, k3⟩ := hTS j t ht
    exact ⟨(World.cell?_of_block (HB0.out.block _ hbw)).trans x0, (World.cell?_of_block (HB0.out.block _ hbw)).trans x1, k1.below HB0.out, k2.below HB0.out, k3⟩)
  have hbW : b < W0.heap.size := by omega
  clear hU hbw hTS
  go_wp2_with fail
  refine Calls.mono (areTensors_any b o q cu ts _ HL.out h4q hbW HTS.out) ?_
  rintro e w1 ⟨rfl, hb1⟩
  have HB1 := hide hb1
  clear hb1
  by_cases hok : tsOk ts = true
  rotate_left
  · have hno : tsOk ts = false := by simpa using hok
    rw [hno]
    have HNO := hide hno
    clear hno hok
    have HEE : E = 1 := by rw [HE.out, jnE, if_neg (fun h => by have h1 := h.1.2.2; rw [HNO.out] at h1; exact absurd h1 (by decide))]
    have r0 := (HXR.out.kept HB1.out).c0
    have r1 := (HXR.out.kept HB1.out).c1
    have rf0 := (HXR.out.kept HB1.out).f0 0
    have rf1 := (HXR.out.kept HB1.out).f0 1
    have HBB := hide (HB0.out.trans (HB1.out.mono (by omega)))
    have HXF := hide (HXR.out.kept HB1.out)
    go_wp2
    (try simp only [Exit.inBlock, Exit.then])
    refine ret_ten (p := 4) (u := 5) rfl rfl w.heap.size _ rfl (HXF.out.set2 _ _) rfl ?_
    have hne : ¬ E = 0 := by omega
    exact ⟨none, 0, 0, none, 0, 0, by first | (rw [HEE]; rfl) | rfl, by rw [jnS, if_neg (by rw [← HE.out]; exact hne)]; exact World.ownsRow_nil _ _ _ _, by rw [jnL, if_neg (by rw [← HE.out]; exact hne)]; exact World.ownsRow_nil _ _ _ _, by omega, by omega, (HBB.out.setCell (by dsimp only; omega) _).setCell (by dsimp only; omega) _⟩
  rw [hok]
  have HOK := hide hok
  clear hok
  have HTO : Hid (∀ v, Below W0.heap.size W0 v → ∀ (j : Nat) (t : Tn), ts[j]? = some t → t.Ok v) := hide (fun v hv j t ht => by
    obtain ⟨_, _, k1, k2, k3⟩ := HTS.out j t ht
    exact ⟨k1.below hv, k2.below hv, k3⟩)
  have HT1 : Hid (∀ v, Below W0.heap.size W0 v → TsAt v b o ts) := hide (fun v hv j t ht => by
    obtain ⟨x0, x1, _⟩ := HTS.out j t ht
    exact ⟨(World.cell?_of_block (hv.block _ hbW)).trans x0, (World.cell?_of_block (hv.block _ hbW)).trans x1, HTO.out v hv j t ht⟩)
  go_wp2_with fail
  refine Calls.mono (layoutsOf_ok b o q cu ts w1 HL.out h4q (Nat.lt_of_lt_of_le hbW HB1.out.size) (HT1.out w1 HB1.out) HOK.out) ?_
  obtain ⟨g, hg⟩ : ∃ z, z = w1.heap.size := ⟨_, rfl⟩
  rw [← hg]
  rintro e w2 ⟨rfl, hls2, hb20⟩
  have HB2 := hide (below_nx6 HB1.out (by rw [hg] at hb20; exact hb20))
  have HS2 := hide hls2
  have HG1 : Hid (W0.heap.size ≤ g) := hide (by rw [hg]; exact HB1.out.size)
  obtain ⟨t0, ht0⟩ : ∃ t, ts[0]? = some t := ⟨ts[0]'(by rw [HL.out]; omega), List.getElem?_eq_getElem (by rw [HL.out]; omega)⟩
  have HT0 := hide ht0
  have HSS0 : Hid (jnS0 ts = t0.s) := hide (by rw [jnS0, ht0])
  have hn0 : t0.s.length = t0.n := lies_len9 (HTO.out _ (Below.refl _ _) 0 t0 ht0).1
  have HN0 := hide hn0
  obtain ⟨gs0, y0, y1, _⟩ := HS2.out.cells (j := 0) (by omega) ht0
  rw [Nat.zero_mul] at y0 y1
  have f3 : (0 : Int) < (q : Int) := by omega
  have f4 : ¬ q = 0 := by omega
  clear hls2 hb20 ht0 hn0 hg
  go_wp2_with fail
  refine Calls.mono (has_any t0.A t0.n t0.c al _) ?_
  rintro e w3 ⟨rfl, hb30⟩
  have HB3 := hide (below_nx6 HB2.out hb30)
  have HS3 := hide (HS2.out.below hb30)
  clear hb30 y0 y1 HS2
  by_cases hal : 0 ≤ al ∧ al < (t0.n : Int)
  rotate_left
  · rw [decide_eq_false hal]
    have HAL := hide hal
    clear hal
    have HEE : E = 1 := by rw [HE.out, jnE, if_neg (fun h => HAL.out (by have h2 := h.2; rw [HSS0.out, HN0.out] at h2; exact h2))]
    have r0 := (HXR.out.kept HB3.out).c0
    have r1 := (HXR.out.kept HB3.out).c1
    have rf0 := (HXR.out.kept HB3.out).f0 0
    have rf1 := (HXR.out.kept HB3.out).f0 1
    have HBB := hide (HB0.out.trans (HB3.out.mono (by omega)))
    have HXF := hide (HXR.out.kept HB3.out)
    go_wp2
    (try simp only [Exit.inBlock, Exit.then])
    refine ret_ten (p := 4) (u := 5) rfl rfl w.heap.size _ rfl (HXF.out.set2 _ _) rfl ?_
    have hne : ¬ E = 0 := by omega
    exact ⟨none, 0, 0, none, 0, 0, by first | (rw [HEE]; rfl) | rfl, by rw [jnS, if_neg (by rw [← HE.out]; exact hne)]; exact World.ownsRow_nil _ _ _ _, by rw [jnL, if_neg (by rw [← HE.out]; exact hne)]; exact World.ownsRow_nil _ _ _ _, by omega, by omega, (HBB.out.setCell (by dsimp only; omega) _).setCell (by dsimp only; omega) _⟩
  rw [decide_eq_true hal]
  obtain ⟨a, rfl⟩ := Int.eq_ofNat_of_zero_le hal.1
  have han : a < t0.n := by omega
  have HP1 : Hid ((1 ≤ ts.length ∧ ts.length ≤ 4 ∧ tsOk ts = true) ∧ 0 ≤ (a : Int) ∧ (a : Int) < ((jnS0 ts).length : Int)) := hide ⟨⟨by rw [HL.out]; exact h1q, by rw [HL.out]; exact h4q, HOK.out⟩, by rw [HSS0.out, HN0.out]; exact hal⟩
  clear hal
  go_wp2_with fail
  refine Calls.mono (areAlike_any g q a ts t0 _ HL.out ⟨h1q, h4q⟩ HT0.out HS3.out (HTO.out _ HB3.out)) ?_
  rintro e w4 ⟨rfl, hb40⟩
  have HB4 := hide (below_nx6 HB3.out hb40)
  have HS4 := hide (HS3.out.below hb40)
  clear hb40 HS3
  by_cases hak : alikes9 ts t0.s a = true
  rotate_left
  · have hno : alikes9 ts t0.s a = false := by simpa using hak
    rw [hno]
    have HNO := hide hno
    clear hno hak
    have HEE : E = 10 := by rw [HE.out, jnE, if_pos HP1.out, if_neg (fun h => by have h1 := h.1; rw [HSS0.out, Int.toNat_natCast, HNO.out] at h1; exact absurd h1 (by decide))]
    have r0 := (HXR.out.kept HB4.out).c0
    have r1 := (HXR.out.kept HB4.out).c1
    have rf0 := (HXR.out.kept HB4.out).f0 0
    have rf1 := (HXR.out.kept HB4.out).f0 1
    have HBB := hide (HB0.out.trans (HB4.out.mono (by omega)))
    have HXF := hide (HXR.out.kept HB4.out)
    go_wp2
    (try simp only [Exit.inBlock, Exit.then])
    refine ret_ten (p := 4) (u := 5) rfl rfl w.heap.size _ rfl (HXF.out.set2 _ _) rfl ?_
    have hne : ¬ E = 0 := by omega
    exact ⟨none, 0, 0, none, 0, 0, by first | (rw [HEE]; rfl) | rfl, by rw [jnS, if_neg (by rw [← HE.out]; exact hne)]; exact World.ownsRow_nil _ _ _ _, by rw [jnL, if_neg (by rw [← HE.out]; exact hne)]; exact World.ownsRow_nil _ _ _ _, by omega, by omega, (HBB.out.setCell (by dsimp only; omega) _).setCell (by dsimp only; omega) _⟩
  rw [hak]
  have HAK := hide hak
  clear hak
  go_wp2_with fail
  refine Calls.mono (joined_ok g q a ts t0 _ HL.out ⟨h1q, h4q⟩ HT0.out HS4.out (HTO.out _ HB4.out) HOK.out HAK.out han) ?_
  rintro e w5 ⟨gj, cj, rfl, hoj, hb50⟩
  obtain ⟨sh, hsh⟩ : ∃ z, z = t0.s.set a (sumSz ts a q) := ⟨_, rfl⟩
  rw [← hsh] at hoj
  have HSH := hide hsh
  have HJS : Hid (jnSh ts a = sh) := hide (by rw [jnSh, HSS0.out, HL.out, hsh])
  have HB5 := hide (below_nx6 HB4.out hb50)
  have HS5 := hide (HS4.out.below hb50)
  have hshl : sh.length = t0.n := by rw [hsh, List.length_set, HN0.out]
  have HSHL := hide hshl
  have HLJ := hide (lies_of_own hoj)
  have hn4 : t0.n ≤ 4 := by
    have h := (sizeI_pos (tenOk_iff.1 (List.all_eq_true.1 HOK.out t0 (List.mem_of_getElem? HT0.out))).1).2.1
    rw [HN0.out] at h; exact h
  clear hoj hb50 hsh hshl HS4
  by_cases hz : 0 < sizeI sh
  rotate_left
  · have HZ := hide hz
    clear hz
    go_wp2_with fail
    refine Calls.mono (new_err (some ⟨gj, 0, none⟩) t0.n cj sh _ HLJ.out (by omega) (by have := HZ.out; omega)) ?_
    rintro e w6 ⟨rfl, hb60⟩
    obtain ⟨V6, hV6⟩ : ∃ W, W = w6.alloc (.cells #[.slice none 0 0, .slice none 0 0] 49) := ⟨_, rfl⟩
    have hX6 : BoxT V6 w6.heap.size (.slice none 0 0) (.slice none 0 0) := by rw [hV6]; exact BoxT.new w6 _ _
    have hb6 : Below W0.heap.size W0 V6 := by rw [hV6]; exact below_al6 (below_nx6 HB5.out hb60)
    obtain ⟨V7, hV7⟩ : ∃ W, W = (V6.setCell ⟨w6.heap.size, 0, none⟩ (.slice none 0 0)).setCell ⟨w6.heap.size, 1, none⟩ (.slice none 0 0) := ⟨_, rfl⟩
    have hle : W0.heap.size ≤ w6.heap.size := (below_nx6 HB5.out hb60).size
    have HB7 : Hid (Below W0.heap.size W0 V7) := hide (by rw [hV7]; exact (hb6.setCell (by dsimp only; omega) _).setCell (by dsimp only; omega) _)
    have z0 := hX6.c0
    have z1 := hX6.c1
    have zf0 := hX6.f0 0
    have zf1 := hX6.f0 1
    have hV6' := hV6.symm
    have hV7' := hV7.symm
    clear hV6 hV7 hX6 hb6 hb60
    have HEE : E = 10 := by rw [HE.out, jnE, if_pos HP1.out, if_neg (fun h => by have h1 := h.2; rw [Int.toNat_natCast, HJS.out] at h1; have := HZ.out; omega)]
    have r0 := (HXR.out.kept HB7.out).c0
    have r1 := (HXR.out.kept HB7.out).c1
    have rf0 := (HXR.out.kept HB7.out).f0 0
    have rf1 := (HXR.out.kept HB7.out).f0 1
    have HBB := hide (HB0.out.trans (HB7.out.mono (by omega)))
    have HXF := hide (HXR.out.kept HB7.out)
    go_wp2
    (try simp only [Exit.inBlock, Exit.then])
    refine ret_ten (p := 4) (u := 5) rfl rfl w.heap.size _ rfl (HXF.out.set2 _ _) rfl ?_
    have hne : ¬ E = 0 := by omega
    exact ⟨none, 0, 0, none, 0, 0, by first | (rw [HEE]; rfl) | rfl, by rw [jnS, if_neg (by rw [← HE.out]; exact hne)]; exact World.ownsRow_nil _ _ _ _, by rw [jnL, if_neg (by rw [← HE.out]; exact hne)]; exact World.ownsRow_nil _ _ _ _, by omega, by omega, (HBB.out.setCell (by dsimp only; omega) _).setCell (by dsimp only; omega) _⟩
  obtain ⟨P, KT, st, R, j1, j2, j3, j4, j5, j6, j7, j8, j9, j10, j11⟩ := join_facts HL.out h1q HT0.out HOK.out HAK.out (by rw [HN0.out]; exact han) (by rw [← HSH.out]; exact hz)
  rw [← HSH.out] at j5 j9 j10
  have HJ1 := hide j1
  have HJ5 := hide j5
  have HJ9 := hide j9
  have HJ10 := hide j10
  have HJ11 := hide j11
  have hEE : E = 0 := by rw [HE.out, jnE, if_pos HP1.out, if_pos ⟨by rw [HSS0.out, Int.toNat_natCast]; exact HAK.out, by rw [Int.toNat_natCast, HJS.out]; exact hz⟩]
  have HEE := hide hEE
  have HJL : Hid (jnL ts (a : Int) = (List.range R).map (fun i => jnN ts a KT st i) ∧ jnS ts (a : Int) = sh) := hide ⟨by
    rw [jnL, if_pos (by rw [← HE.out]; exact HEE.out), Int.toNat_natCast, joinL, HJS.out, j5, Int.toNat_natCast, HSS0.out, j4, Int.toNat_natCast, HL.out, ← j1, Int.toNat_natCast], by
    rw [jnS, if_pos (by rw [← HE.out]; exact HEE.out), Int.toNat_natCast, HJS.out]⟩
  clear j1 j4 j5 j6 j9 j10 j11 hEE hz
  go_wp2_with fail
  refine Calls.mono (new_ok (some ⟨gj, 0, none⟩) t0.n cj R sh _ HLJ.out HJ5.out (by omega)) ?_
  rintro e w6 ⟨g1, c1, g2, rfl, ho1, ho2, hne, hb60⟩
  obtain ⟨V6, hV6⟩ : ∃ W, W = w6.alloc (.cells #[.slice (some ⟨g1, 0, none⟩) t0.n c1, .slice (some ⟨g2, 0, none⟩) R R] 49) := ⟨_, rfl⟩
  have hlo1 := ho1.lt g1 rfl
  have hlo2 := ho2.lt g2 rfl
  have hsz5 := HB5.out.size
  have hb6 : Below w5.heap.size w5 V6 := by rw [hV6]; exact below_al6 hb60
  have HB56 := hide hb6
  have HXV : Hid (BoxT V6 w6.heap.size (.slice (some ⟨g1, 0, none⟩) t0.n c1) (.slice (some ⟨g2, 0, none⟩) R R)) := hide (by rw [hV6]; exact BoxT.new w6 _ _)
  have HO1 : Hid (V6.ownsRow w5.heap.size 3 1 (.slice (some ⟨g1, 0, none⟩) t0.n c1) t0.n (sh.map (Value.int .i64))) := hide (by rw [hV6]; exact own_below ho1 (below_al6 (Below.refl _ _)))
  have HO2 : Hid (V6.ownsRow w5.heap.size 21 1 (.slice (some ⟨g2, 0, none⟩) R R) R (((List.replicate R (0 : Int)) : List Int).map (Value.int .i32))) := hide (by rw [hV6, List.map_replicate]; exact own_below ho2 (below_al6 (Below.refl _ _)))
  have HNE : Hid (g1 ≠ g2 ∧ w6.heap.size ≠ g2) := hide ⟨hne, by omega⟩
  have hg2V : g2 < V6.heap.size := by rw [hV6, World.size_alloc]; omega
  have hV6' := hV6.symm
  clear hV6 hb60 hb6 ho1 ho2 hne
  have v0 := HXV.out.c0
  have v1 := HXV.out.c1
  go_wp2_with fail
  refine Calls.mono (layoutOf_ok (some ⟨g1, 0, none⟩) t0.n c1 sh _ (lies_of_own HO1.out) (by rw [HJ5.out]; omega)) ?_
  rintro e w7 ⟨gt, rfl, hot, hd7⟩
  have hgt := hot.lt gt rfl
  clear v0 v1
  go_wp2_with fail
  refine Calls.mono (joinOrigin_ok (some ⟨g, 0, none⟩) (some ⟨g1, 0, none⟩) (some ⟨gt, 0, none⟩) q q t0.n c1 t0.n t0.n a _) ?_
  rintro e w8 ⟨rfl, hw8⟩
  have hb8 : Below w7.heap.size w7 w8 := by rw [hw8]; exact ((Below.refl w7.heap.size w7).alloc (Nat.le_refl _) _ |>.alloc (by simp only [World.size_alloc]; omega) _).alloc (by simp only [World.size_alloc]; omega) _
  have hd8 : Below V6.heap.size V6 w8 := below_nx6 hd7 hb8
  have hqp : w8.heap[w7.heap.size]? = some (.cells #[.slice (some ⟨g, 0, none⟩) q q] 101 (0, 0)) := by
    rw [hw8]
    exact (Below.heap_alloc _ _ _ (by simp only [World.size_alloc]; omega)).trans ((Below.heap_alloc _ _ _ (by simp only [World.size_alloc]; omega)).trans (heap_alloc_new w7 _))
  have hqa : BoxL w8 (w7.heap.size + 1) (.slice (some ⟨g1, 0, none⟩) t0.n c1) (.slice (some ⟨gt, 0, none⟩) t0.n t0.n) := by
    rw [hw8]
    have h := BoxL.new (w7.alloc (.cells #[.slice (some ⟨g, 0, none⟩) q q] 101)) (.slice (some ⟨g1, 0, none⟩) t0.n c1) (.slice (some ⟨gt, 0, none⟩) t0.n t0.n)
    rw [World.size_alloc] at h
    exact h.alloc _
  have hqs : w8.heap[w7.heap.size + 2]? = some (.cells #[.int .i64 (a : Int)] 3 (0, 0)) := by
    rw [hw8]
    have h := heap_alloc_new ((w7.alloc (.cells #[.slice (some ⟨g, 0, none⟩) q q] 101)).alloc (.cells #[.slice (some ⟨g1, 0, none⟩) t0.n c1, .slice (some ⟨gt, 0, none⟩) t0.n t0.n] 87)) (.cells #[.int .i64 (a : Int)] 3)
    rw [World.size_alloc, World.size_alloc] at h
    exact h
  have hV5 := HB56.out.size
  have hV7 := hd7.size
  obtain ⟨pf, hpf⟩ : ∃ z, z = w7.heap.size := ⟨_, rfl⟩
  rw [← hpf] at hqp hqa hqs ⊢
  have HS : Hid (JoinAt w5 w6.heap.size pf g1 c1 g2 R t0.n g q gt a sh w8) := hide ⟨HXV.out.kept hd8, hqp, hqa, hqs, own_below HO1.out hd8, own_base (own_below hot hb8) (by omega), HB56.out.trans (hd8.mono HB56.out.size)⟩
  replace HO2 := hide (own_below HO2.out hd8)
  have HN5 : Hid (w6.heap.size ≠ g2 ∧ pf ≠ g2 ∧ pf + 1 ≠ g2 ∧ pf + 2 ≠ g2 ∧ g1 ≠ g2 ∧ gt ≠ g2 ∧ w5.heap.size ≤ g2) := hide ⟨HNE.out.2, by omega, by omega, by omega, HNE.out.1, by omega, hlo2.1⟩
  clear hw8 hqp hqa hqs HXV HO1 HNE hpf hd7 hd8 hb8 hot hgt hV5 hV7 hg2V
  obtain ⟨Z, hZ⟩ : ∃ z : List Int, z = (List.range R).map (fun i => jnN ts a KT st i) := ⟨_, rfl⟩
  obtain ⟨Z0, hZ0⟩ : ∃ z : List Int, z = List.replicate R 0 := ⟨_, rfl⟩
  have HZL : Hid (Z.length = Z0.length ∧ Z0.length = R) := hide ⟨by rw [hZ, hZ0]; simp, by rw [hZ0, List.length_replicate]⟩
  have HZK : Hid (∀ k, k < R → Z.getD k 0 = jnN ts a KT st k) := hide (fun k hk => by rw [hZ]; simp [List.getD, hk])
  have HZ := hide hZ
  replace HO2 : Hid (w8.ownsRow w5.heap.size 21 1 (.slice (some ⟨g2, 0, none⟩) R R) R ((mix9 Z Z0 0).map (Value.int .i32))) := hide (by rw [mix9_zero, hZ0]; exact HO2.out)
  clear hZ hZ0
  have p1 := HS.out.1.c1
  go_wp2
  clear p1
  go_loopw [61] (fun i wr => ∃ k : Nat, k ≤ R ∧ i = .int .i64 (k : Int) ∧ Hid (JoinAt w5 w6.heap.size pf g1 c1 g2 R t0.n g q gt a sh wr) ∧ Hid (wr.ownsRow w5.heap.size 21 1 (.slice (some ⟨g2, 0, none⟩) R R) R ((mix9 Z Z0 k).map (Value.int .i32)))) (fun i _ => R - (intOf i).toNat)
  case atStart => exact ⟨0, Nat.zero_le _, rfl, HS, HO2⟩
  case round =>
    clear HS HO2
    obtain ⟨k, hk, rfl, HS, HO⟩ := hrel
    by_cases hlt : k < R
    · have h0 : (0 : Int) ≤ (k : Int) := by omega
      have h3 : (k : Int) < (R : Int) := by omega
      have HW : Hid (Below W0.heap.size W0 wr) := hide (below_nx6 HB5.out HS.out.2.2.2.2.2.2)
      have HCL := hide (joinOrig_ok pf (pf + 1) (pf + 2) g q a t0.n c1 t0.n t0.n KT st k (some ⟨g1, 0, none⟩) (some ⟨gt, 0, none⟩) sh (strL sh) ts wr HS.out.2.2.1 HS.out.2.1 HS.out.2.2.2.1 (lies_of_own HS.out.2.2.2.2.1) (lies_of_own HS.out.2.2.2.2.2.1) han han HJ9.out HJ10.out j3 HJ1.out j2 (by omega) HL.out h4q (HS5.out.below HS.out.2.2.2.2.2.2) (fun j t ht => by
        obtain ⟨q1, q2, q3, q4, q5⟩ := HJ11.out j t ht
        have k1 := HTO.out wr HW.out j t ht
        have k2 := lies_len9 k1.1
        have k3 : t.m ≤ 4096 := by
          have h1 := tenOk_iff.1 (List.all_eq_true.1 HOK.out t (List.mem_of_getElem? ht))
          have := sizeI_le t.s
          omega
        exact ⟨k1, by omega, q1, q2, by rw [q3]; omega, fun x hx => by have := q5 k x hlt hx; rw [q3, Int.toNat_natCast]; omega⟩))
      go_wp2_with fail
      refine Calls.mono HCL.out ?_
      rintro e w9 ⟨j, x, t, ht, hx, hX, rfl, hb9⟩
      obtain ⟨q1, q2, q3, q4, q5⟩ := HJ11.out j t ht
      have hpl := q5 k x hlt hx
      have hfj := findJ_is ts a (k / st % KT) j x t (fun j t ht => (HJ11.out j t ht).1) ht hx hX
      rw [q3, Int.toNat_natCast]
      obtain ⟨ix, hix⟩ : ∃ y, y = (k / st / KT * (t.s.getD a 0).toNat + x) * st + k % st := ⟨_, rfl⟩
      rw [← hix] at hpl ⊢
      obtain ⟨y, hy⟩ : ∃ y, y = t.l.getD ix 0 := ⟨_, rfl⟩
      have HV : Hid (Z.getD k 0 = y) := hide (by rw [HZK.out k hlt, jnN, hfj]; simp only [ht]; rw [q3, Int.toNat_natCast, ← hix, hy])
      have hjq : j < q := by rw [← HL.out]; exact (List.getElem?_eq_some_iff.1 ht).1
      have HS9 := hide (HS.out.below hb9)
      have HO9 := hide (own_below HO.out hb9)
      have HTT := hide ht
      have hj0 : (0 : Int) ≤ (j : Int) := by omega
      have hj1 : (j : Int) < (q : Int) := by omega
      have hm1 : 0 < t.m := by omega
      have hkO := HTO.out W0 (Below.refl _ _) j t ht
      obtain ⟨tb, to, htB, _, _⟩ := byte_at hkO.2.1 (by omega)
      have HTB := hide htB
      obtain ⟨xg, hxg⟩ : ∃ z, z = (mix9 Z Z0 k).getD k 0 := ⟨_, rfl⟩
      have HGX : Hid (∀ v, Below w9.heap.size w9 v → v.cell? ⟨g2, k, none⟩ = some (.int .i32 xg) ∧ v.frozen? ⟨g2, k, none⟩ = false) := hide (fun v hv => by rw [hxg]; exact own_cells9 (own_below HO9.out hv) hlt)
      have HF : Hid (∀ v, Below w9.heap.size w9 v → v.cell? ⟨w6.heap.size, 1, none⟩ = some (.slice (some ⟨g2, 0, none⟩) R R) ∧ v.cell? ⟨b, o + j * 2 + 1, none⟩ = some (.slice (some ⟨tb, to, none⟩) t.m t.d) ∧ v.cell? ⟨tb, to + ix, none⟩ = some (.int .i32 y)) := hide (fun v hv => by
        have hs := HS9.out.below hv
        have hw := below_nx6 HB5.out hs.2.2.2.2.2.2
        obtain ⟨_, z1, z2⟩ := HT1.out v hw j t HTT.out
        have z3 := z2.2.1
        rw [HTB.out] at z1 z3
        obtain ⟨_, _, e1, _, x1⟩ := byte_at z3 (by omega)
        cases e1
        exact ⟨hs.1.c1, z1, by rw [hy]; exact x1 ix hpl⟩)
      have hix0 : (0 : Int) ≤ (ix : Int) := by omega
      have hix1 : (ix : Int) < (t.m : Int) := by omega
      have hd0 : Below w9.heap.size w9 w9.drew := below_drewN (Below.refl _ _) 1
      clear hix hy hxg hpl hfj q1 q2 q3 q4 q5 hx hX ht hb9 htB hkO HCL
      go_wp2
      have hS0 : Hid (w9.drew.cell? ⟨w6.heap.size, 1, none⟩ = some (.slice (some ⟨g2, 0, none⟩) R R) ∧ w9.drew.cell? ⟨b, o + j * 2 + 1, none⟩ = some (.slice (some ⟨tb, to, none⟩) t.m t.d) ∧ w9.drew.cell? ⟨tb, to + ix, none⟩ = some (.int .i32 y)) := hide (HF.out _ hd0)
      refine wp_region_U (fun bb9 v => bb9 = false → v.cell? ⟨w6.heap.size, 1, none⟩ = some (.slice (some ⟨g2, 0, none⟩) R R) ∧ v.cell? ⟨b, o + j * 2 + 1, none⟩ = some (.slice (some ⟨tb, to, none⟩) t.m t.d) ∧ v.cell? ⟨tb, to + ix, none⟩ = some (.int .i32 y)) 12 (by kernel_rfl) ?_
      refine wpAnyU_take (i := 0) (oi := { dst := some 70, op := _, type := _, pos := _, after := _, guard := none }) (v := .pointer (some ⟨w6.heap.size, 1, none⟩)) rfl (by kernel_rfl) (by kernel_rfl) (by kernel_rfl) (by kernel_rfl) (fun _ _ _ h => h) (yields_take rfl (fun w' hw => by obtain ⟨h1, h2, h3⟩ := hw.no (by kernel_rfl) rfl; go_simp)) (fun _ => hS0.out) ?_
      simp only [Act.put, List.setIfInBounds_toArray, List.set_cons_zero, List.set_cons_succ]
      refine wpAnyU_take (i := 1) (oi := { dst := some 71, op := _, type := _, pos := _, after := _, guard := none }) (v := .slice (some ⟨g2, 0, none⟩) R R) rfl (by kernel_rfl) (by kernel_rfl) (by kernel_rfl) (by kernel_rfl) (fun _ _ _ h => h) (yields_take rfl (fun w' hw => by obtain ⟨h1, h2, h3⟩ := hw.no (by kernel_rfl) rfl; go_simp)) (fun _ => hS0.out) ?_
      simp only [Act.put, List.setIfInBounds_toArray, List.set_cons_zero, List.set_cons_succ]
      refine wpAnyU_take (i := 2) (oi := { dst := some 72, op := _, type := _, pos := _, after := _, guard := none }) (v := .int .i64 (k : Int)) rfl (by kernel_rfl) (by kernel_rfl) (by kernel_rfl) (by kernel_rfl) (fun _ _ _ h => h) (yields_take rfl (fun w' hw => by obtain ⟨h1, h2, h3⟩ := hw.no (by kernel_rfl) rfl; go_simp)) (fun _ => hS0.out) ?_
      simp only [Act.put, List.setIfInBounds_toArray, List.set_cons_zero, List.set_cons_succ]
      refine wpAnyU_take (i := 3) (oi := { dst := some 73, op := _, type := _, pos := _, after := _, guard := none }) (v := .slice (some ⟨b, o, none⟩) q cu) rfl (by kernel_rfl) (by kernel_rfl) (by kernel_rfl) (by kernel_rfl) (fun _ _ _ h => h) (yields_take rfl (fun w' hw => by obtain ⟨h1, h2, h3⟩ := hw.no (by kernel_rfl) rfl; go_simp)) (fun _ => hS0.out) ?_
      simp only [Act.put, List.setIfInBounds_toArray, List.set_cons_zero, List.set_cons_succ]
      refine wpAnyU_take (i := 4) (oi := { dst := some 74, op := _, type := _, pos := _, after := _, guard := none }) (v := .int .i64 (j : Int)) rfl (by kernel_rfl) (by kernel_rfl) (by kernel_rfl) (by kernel_rfl) (fun _ _ _ h => h) (yields_take rfl (fun w' hw => by obtain ⟨h1, h2, h3⟩ := hw.no (by kernel_rfl) rfl; go_simp)) (fun _ => hS0.out) ?_
      simp only [Act.put, List.setIfInBounds_toArray, List.set_cons_zero, List.set_cons_succ]
      refine wpAnyU_take (i := 5) (oi := { dst := some 75, op := _, type := _, pos := _, after := _, guard := none }) (v := .pointer (some ⟨b, o + j * 2, none⟩)) rfl (by kernel_rfl) (by kernel_rfl) (by kernel_rfl) (by kernel_rfl) (fun _ _ _ h => h) (yields_take rfl (fun w' hw => by obtain ⟨h1, h2, h3⟩ := hw.no (by kernel_rfl) rfl; go_simp)) (fun _ => hS0.out) ?_
      simp only [Act.put, List.setIfInBounds_toArray, List.set_cons_zero, List.set_cons_succ]
      refine wpAnyU_take (i := 6) (oi := { dst := some 76, op := _, type := _, pos := _, after := _, guard := none }) (v := .pointer (some ⟨b, o + j * 2 + 1, none⟩)) rfl (by kernel_rfl) (by kernel_rfl) (by kernel_rfl) (by kernel_rfl) (fun _ _ _ h => h) (yields_take rfl (fun w' hw => by obtain ⟨h1, h2, h3⟩ := hw.no (by kernel_rfl) rfl; go_simp)) (fun _ => hS0.out) ?_
      simp only [Act.put, List.setIfInBounds_toArray, List.set_cons_zero, List.set_cons_succ]
      refine wpAnyU_take (i := 7) (oi := { dst := some 77, op := _, type := _, pos := _, after := _, guard := none }) (v := .slice (some ⟨tb, to, none⟩) t.m t.d) rfl (by kernel_rfl) (by kernel_rfl) (by kernel_rfl) (by kernel_rfl) (fun _ _ _ h => h) (yields_take rfl (fun w' hw => by obtain ⟨h1, h2, h3⟩ := hw.no (by kernel_rfl) rfl; go_simp)) (fun _ => hS0.out) ?_
      simp only [Act.put, List.setIfInBounds_toArray, List.set_cons_zero, List.set_cons_succ]
      refine wpAnyU_take (i := 8) (oi := { dst := some 78, op := _, type := _, pos := _, after := _, guard := none }) (v := .int .i64 (ix : Int)) rfl (by kernel_rfl) (by kernel_rfl) (by kernel_rfl) (by kernel_rfl) (fun _ _ _ h => h) (yields_take rfl (fun w' hw => by obtain ⟨h1, h2, h3⟩ := hw.no (by kernel_rfl) rfl; go_simp)) (fun _ => hS0.out) ?_
      simp only [Act.put, List.setIfInBounds_toArray, List.set_cons_zero, List.set_cons_succ]
      refine wpAnyU_take (i := 9) (oi := { dst := some 79, op := _, type := _, pos := _, after := _, guard := none }) (v := .pointer (some ⟨tb, to + ix, none⟩)) rfl (by kernel_rfl) (by kernel_rfl) (by kernel_rfl) (by kernel_rfl) (fun _ _ _ h => h) (yields_take rfl (fun w' hw => by obtain ⟨h1, h2, h3⟩ := hw.no (by kernel_rfl) rfl; go_simp)) (fun _ => hS0.out) ?_
      simp only [Act.put, List.setIfInBounds_toArray, List.set_cons_zero, List.set_cons_succ]
      refine wpAnyU_take (i := 10) (oi := { dst := some 80, op := _, type := _, pos := _, after := _, guard := none }) (v := .int .i32 y) rfl (by kernel_rfl) (by kernel_rfl) (by kernel_rfl) (by kernel_rfl) (fun _ _ _ h => h) (yields_take rfl (fun w' hw => by obtain ⟨h1, h2, h3⟩ := hw.no (by kernel_rfl) rfl; go_simp)) (fun _ => hS0.out) ?_
      simp only [Act.put, List.setIfInBounds_toArray, List.set_cons_zero, List.set_cons_succ]
      refine wpAnyU_take (i := 11) (oi := { dst := some 81, op := _, type := _, pos := _, after := _, guard := none }) (v := .pointer (some ⟨g2, k, none⟩)) rfl (by kernel_rfl) (by kernel_rfl) (by kernel_rfl) (by kernel_rfl) (fun _ _ _ h => h) (yields_take rfl (fun w' hw => by obtain ⟨h1, h2, h3⟩ := hw.no (by kernel_rfl) rfl; go_simp)) (fun _ => hS0.out) ?_
      simp only [Act.put, List.setIfInBounds_toArray, List.set_cons_zero, List.set_cons_succ]
      obtain ⟨hgx, hfx⟩ := HGX.out _ hd0
      refine wpAnyU_one (i := 12) (by kernel_rfl) rfl ?_
      intro K hK
      go_simp
      refine hK _ _ (fun h => by cases h) (fun _ => ?_)
      clear hK K
      refine wpAnyU_done (by kernel_rfl) ?_ _
      clear hS0
      have HS2 : Hid (JoinAt w5 w6.heap.size pf g1 c1 g2 R t0.n g q gt a sh (w9.drew.setCell ⟨g2, k, none⟩ (.int .i32 y))) := hide ((HS9.out.below hd0).set HN5.out.1 HN5.out.2.1 HN5.out.2.2.1 HN5.out.2.2.2.1 HN5.out.2.2.2.2.1 HN5.out.2.2.2.2.2.1 HN5.out.2.2.2.2.2.2 k _)
      have HO2 : Hid ((w9.drew.setCell ⟨g2, k, none⟩ (.int .i32 y)).ownsRow w5.heap.size 21 1 (.slice (some ⟨g2, 0, none⟩) R R) R ((mix9 Z Z0 (k + 1)).map (Value.int .i32))) := hide (by
        have h := own_set9 (v := .int .i32 y) (own_below HO9.out hd0) hlt
        rw [← List.map_set, ← HV.out, mix9_set HZL.out.1 (by rw [HZL.out.2]; exact hlt), HV.out] at h
        exact h)
      clear hgx hfx hd0
      go_wp2
      go_roundw
      case rel => exact ⟨k + 1, by omega, by go_num, HS2, HO2⟩
      case measure => simp [intOf]; omega
    · obtain rfl : R = k := by omega
      have h5 : ¬ ((R : Int) < (R : Int)) := by omega
      have hmx : mix9 Z Z0 R = Z := by rw [← HZL.out.2]; exact mix9_all HZL.out.1
      have HO2 := HO.out
      rw [hmx, HZ.out] at HO2
      have HO3 := hide HO2
      have hbw := HS.out.2.2.2.2.2.2
      have hbW2 := below_nx6 HB5.out hbw
      have r0 := (HXR.out.kept hbW2).c0
      have r1 := (HXR.out.kept hbW2).c1
      have rf0 := (HXR.out.kept hbW2).f0 0
      have rf1 := (HXR.out.kept hbW2).f0 1
      have v0 := HS.out.1.c0
      have v1 := HS.out.1.c1
      have HXF := hide (HXR.out.kept hbW2)
      have HBB := hide (HB0.out.trans (hbW2.mono (by omega)))
      have hg1b := hlo1.1
      have hg2b := hlo2.1
      clear HO2 hmx hbw hbW2
      go_wp2
      (try simp only [Exit.inBlock, Exit.then])
      refine ret_ten (p := 4) (u := 5) rfl rfl w.heap.size _ rfl (HXF.out.set2 _ _) rfl ?_
      exact ⟨_, _, _, _, _, _, by rw [HEE.out]; rfl, by rw [HJL.out.2]; exact own_setCell' (own_setCell' (own_base HS.out.2.2.2.2.1 (by omega)) (by dsimp only; omega) _) (by dsimp only; omega) _, by rw [HJL.out.1]; exact own_setCell' (own_setCell' (own_base HO3.out (by omega)) (by dsimp only; omega) _) (by dsimp only; omega) _, hn4, j8, (HBB.out.setCell (by dsimp only; omega) _).setCell (by dsimp only; omega) _⟩

end Go.Proofs.Ytomhbhhfbbdilaa
