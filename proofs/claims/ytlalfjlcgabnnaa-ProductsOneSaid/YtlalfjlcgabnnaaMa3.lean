/- Contracts of package maths: apply, for each operation. -/
import Derived.Test.YtlalfjlcgabnnaaMa2
import Derived.Test.YtlalfjlcgabnnaaTLaw
namespace Go.Proofs.Ytlalfjlcgabnnaa
open Go.RowKit
set_option linter.unusedVariables false
set_option linter.unusedSimpArgs false
set_option maxRecDepth 20000

/-- q numbers of which the first k are those of zs, the others 0. -/
def fillN (zs : List Int) (q k : Nat) : List Value := (List.range q).map fun j => .int .i32 (if j < k then zs.getD j 0 else 0)

section
variable {zs : List Int} {q k : Nat}

theorem fillN_len : (fillN zs q k).length = q := by simp [fillN]

theorem fillN_at {j : Nat} (h : j < q) : (fillN zs q k)[j]? = some (.int .i32 (if j < k then zs.getD j 0 else 0)) := by simp [fillN, h]

theorem fillN_none : fillN zs q 0 = List.replicate q (.int .i32 0) := by
  apply List.ext_getElem <;> simp [fillN]

theorem fillN_all (h : zs.length = q) : fillN zs q q = zs.map (Value.int .i32) := by
  apply List.ext_getElem
  · simp [fillN, h]
  · intro j h1 h2
    have : j < q := by simpa [fillN] using h1
    simp [fillN, this, List.getD, h]

theorem fillN_set : (fillN zs q k).set k (.int .i32 (zs.getD k 0)) = fillN zs q (k + 1) := by
  apply List.ext_getElem
  · simp [fillN]
  · intro j h1 h2
    simp only [fillN, List.getElem_set, List.getElem_map, List.getElem_range]
    by_cases e : k = j
    · subst e; simp
    · rw [if_neg e]
      by_cases h : j < k
      · rw [if_pos h, if_pos (by omega)]
      · rw [if_neg h, if_neg (by omega)]

end

/-- A block of q numbers, of which the first k are those of zs. -/
def FillAt (w : World) (g q : Nat) (zs : List Int) (k : Nat) : Prop := w.heap[g]? = some (.cells (fillN zs q k).toArray 21 (0, 0))

section
variable {w : World} {g q k : Nat} {zs : List Int}

theorem FillAt.cell (h : FillAt w g q zs k) {j : Nat} (hj : j < q) : w.cell? ⟨g, j, none⟩ = some (.int .i32 (if j < k then zs.getD j 0 else 0)) := by
  rw [cell_of_row _ _ j _ _ (0, 0) h, List.getElem?_toArray, fillN_at hj]

theorem FillAt.frozen (h : FillAt w g q zs k) (j : Nat) : w.frozen? ⟨g, j, none⟩ = false := frozen_of_row w g j _ _ h

theorem FillAt.lt (h : FillAt w g q zs k) : g < w.heap.size := lt_of_heap h

theorem FillAt.set (h : FillAt w g q zs k) : FillAt (w.setCell ⟨g, k, none⟩ (.int .i32 (zs.getD k 0))) g q zs (k + 1) := by
  have e1 := setCell_eq_setRow w g k _ _ (0, 0) (.int .i32 (zs.getD k 0)) h
  have h1 := setRow_heap w g _ ((fillN zs q k).toArray.setIfInBounds k (.int .i32 (zs.getD k 0))) _ _ h
  rw [e1]
  unfold FillAt
  rw [h1, ← fillN_set]
  simp

theorem FillAt.below (h : FillAt w g q zs k) {w' : World} (hb : Below w.heap.size w w') : FillAt w' g q zs k := (hb.block g h.lt).trans h

theorem FillAt.of_own {base : Nat} (h : w.ownsRow base 21 1 (.slice (some ⟨g, 0, none⟩) q q) q (List.replicate q (.int .i32 0))) (zs : List Int) : FillAt w g q zs 0 := by
  obtain ⟨cur, hh, _, _, _, hs, ht⟩ := own_heap h
  unfold FillAt
  rw [hh, fillN_none, ← ht, Nat.mul_one, List.take_of_length_le (by simp; omega)]

theorem FillAt.own (h : FillAt w g q zs q) (hz : zs.length = q) {base : Nat} (hb : base ≤ g) (hq : q ≤ maxLen) : w.ownsRow base 21 1 (.slice (some ⟨g, 0, none⟩) q q) q (zs.map (Value.int .i32)) :=
  own_of_block hb h fillN_len (Nat.le_refl _) hq (by rw [fillN_all hz, List.take_of_length_le (by simp [hz])])

end

theorem grown_cell6 (w : World) (a : Addr) (v : Value) : w.grownBy (w.setCell a v) (some a.block) :=
  ⟨rfl, rfl, rfl, by simp, fun k _ hk => Below.heap_setCell w a v k (by intro e; exact hk (by rw [e]))⟩

theorem grown_lies {w w' : World} {r n : Nat} {A : Option Addr} {xs : List Value} (hg : w.grownBy w' (some r)) (h : Lies w A n xs) (hne : ∀ b o, A = some ⟨b, o, none⟩ → b ≠ r) : Lies w' A n xs :=
  h.grown hg (fun b o e => by simpa using hne b o e)

theorem lies_block {w : World} {A : Option Addr} {n B : Nat} {xs : List Value} (h : Lies w A n xs) (hn : 0 < n) (hB : w.heap.size ≤ B) : ∀ b o, A = some ⟨b, o, none⟩ → b ≠ B := by
  intro b o e
  obtain ⟨b', o', e', hb, _⟩ := h.cells hn
  rw [e] at e'
  cases e'
  omega

set_option maxHeartbeats 1000000 in
theorem apply_add (A : Option Addr) (n c q : Nat) (s : List Int) (gp : Nat) (xs ys : List Int) (w : World) (hA : Lies w A n (s.map (Value.int .i64))) (hP : PairsAt w gp q xs ys q) (hx : xs.length = q) (hy : ys.length = q) (hq : sizeI s = (q : Int)) (hp : 0 < q) :
    Calls Try.prog 28 #[.slice A n c, .slice (some ⟨gp, 0, none⟩) q q, .agg #[.func (.func 21) #[] #[]]] w fun e w' => ∃ g1 c1 g2, e = .returned (tenV (some ⟨g1, 0, none⟩) n c1 (some ⟨g2, 0, none⟩) q q) ∧
      w'.ownsRow w.heap.size 3 1 (.slice (some ⟨g1, 0, none⟩) n c1) n (s.map (Value.int .i64)) ∧ w'.ownsRow w.heap.size 21 1 (.slice (some ⟨g2, 0, none⟩) q q) q ((List.zipWith add32 xs ys).map (Value.int .i32)) ∧ g1 ≠ g2 ∧ Below w.heap.size w w' := by
  have hlen : s.length = n := by have := hA.len; simpa using this
  have hq4 : q ≤ 4096 := by have := sizeI_le s; omega
  have HA := hide hA
  have HQ := hide hq
  obtain ⟨zs, hzs⟩ : ∃ zs, zs = List.zipWith add32 xs ys := ⟨_, rfl⟩
  rw [← hzs]
  have HZL : Hid (zs.length = q) := hide (by rw [hzs]; simp [hx, hy])
  have HZK : Hid (∀ k, k < q → zs.getD k 0 = add32 (xs.getD k 0) (ys.getD k 0)) := hide (fun k hk => by rw [hzs]; simp [List.getD, List.getElem?_zipWith, List.getElem?_eq_getElem (show k < xs.length by omega), List.getElem?_eq_getElem (show k < ys.length by omega)])
  clear hzs
  have hgp := hP.lt
  have HP := hide hP
  clear hA hq hlen
  obtain ⟨W0, hW0⟩ : ∃ W0, W0 = (w.alloc (.cells #[.func (.func 21) #[] #[]] 54)).alloc (.cells #[.slice none 0 0, .slice none 0 0] 28) := ⟨_, rfl⟩
  have HB0 : Hid (Below w.heap.size w W0) := hide (by rw [hW0]; exact ((Below.refl w.heap.size w).alloc (Nat.le_refl _) _).alloc (by simp) _)
  have HO0 : Hid (Box1 W0 w.heap.size 54 (.func (.func 21) #[] #[])) := hide (by
    rw [hW0]
    exact (Below.heap_alloc _ _ w.heap.size (by simp)).trans (heap_alloc_new w _))
  have HR0 : Hid (BoxT W0 (w.heap.size + 1) (.slice none 0 0) (.slice none 0 0)) := hide (by
    rw [hW0]
    have h := BoxT.new (w.alloc (.cells #[.func (.func 21) #[] #[]] 54)) (.slice none 0 0) (.slice none 0 0)
    rwa [World.size_alloc] at h)
  have hs0 : W0.heap.size = w.heap.size + 2 := by rw [hW0]; simp
  have hW0' := hW0.symm
  clear hW0
  go_enter Try.func28, Try.ntmps28
  go_wp2_with fail
  refine Calls.mono (new_ok A n c q s _ (HA.out.below HB0.out) HQ.out hp) ?_
  rintro e w1 ⟨g1, c1, g2, rfl, ho1, ho2, hne, hb⟩
  have lt1 := ho1.lt g1 rfl
  have lt2 := ho2.lt g2 rfl
  obtain ⟨W1, hW1⟩ : ∃ W1, W1 = w1.alloc (.cells #[.slice (some ⟨g1, 0, none⟩) n c1, .slice (some ⟨g2, 0, none⟩) q q] 28) := ⟨_, rfl⟩
  have HB1 : Hid (Below W0.heap.size W0 W1) := hide (by rw [hW1]; exact hb.alloc hb.size _)
  have HT1 : Hid (BoxT W1 w1.heap.size (.slice (some ⟨g1, 0, none⟩) n c1) (.slice (some ⟨g2, 0, none⟩) q q)) := hide (by rw [hW1]; exact BoxT.new w1 _ _)
  have HO1 : Hid (W1.ownsRow W0.heap.size 3 1 (.slice (some ⟨g1, 0, none⟩) n c1) n (s.map (Value.int .i64))) := hide (by rw [hW1]; exact ho1.alloc _)
  have HF1 : Hid (FillAt W1 g2 q zs 0) := hide (by rw [hW1]; exact FillAt.of_own (ho2.alloc _) zs)
  have hs1 : W1.heap.size = w1.heap.size + 1 := by rw [hW1]; simp
  have hW1' := hW1.symm
  clear hW1 ho1 ho2 hb
  have HOB : Hid (Box1 W1 w.heap.size 54 (.func (.func 21) #[] #[])) := hide ((HB1.out.block w.heap.size (by omega)).trans HO0.out)
  have HRB : Hid (BoxT W1 (w.heap.size + 1) (.slice none 0 0) (.slice none 0 0)) := hide (HR0.out.kept HB1.out)
  have HB1w : Hid (Below w.heap.size w W1) := hide (HB0.out.trans (HB1.out.mono (by omega)))
  have HP1 : Hid (PairsAt W1 gp q xs ys q) := hide (HP.out.keep HB1w.out hgp)
  clear HO0 HR0
  go_wp2_with fail
  clear hW1' hW0'
  go_loopw [18] (fun i wr => ∃ k : Nat, k ≤ q ∧ i = .int .i64 k ∧ Hid (FillAt wr g2 q zs k) ∧ Hid (W1.grownBy wr (some g2))) (fun i _ => q - (intOf i).toNat)
  case atStart => exact ⟨0, Nat.zero_le _, rfl, HF1, hide (World.grownBy.refl W1 (some g2))⟩
  case round =>
    obtain ⟨k, hk, rfl, HF, HG⟩ := hrel
    have hszr := HG.out.size
    have HTr : Hid (BoxT wr w1.heap.size (.slice (some ⟨g1, 0, none⟩) n c1) (.slice (some ⟨g2, 0, none⟩) q q)) := hide ((HG.out.block w1.heap.size (by omega) (by simp; omega)).trans HT1.out)
    by_cases hlt : k < q
    · have h0 : (0 : Int) ≤ (k : Int) := by omega
      have h3 : (k : Int) < (q : Int) := by omega
      have HOr : Hid (Box1 wr w.heap.size 54 (.func (.func 21) #[] #[])) := hide ((HG.out.block w.heap.size (by omega) (by simp; omega)).trans HOB.out)
      have HPr : Hid (PairsAt wr gp q xs ys q) := hide (HP1.out.grown HG.out (by omega))
      obtain ⟨x, hx1⟩ : ∃ x, x = xs.getD k 0 := ⟨_, rfl⟩
      obtain ⟨y, hy1⟩ : ∃ y, y = ys.getD k 0 := ⟨_, rfl⟩
      obtain ⟨z, hz1⟩ : ∃ z, z = add32 x y := ⟨_, rfl⟩
      have hcx := HPr.out.c0 hlt
      have hcy := HPr.out.c1 hlt
      rw [← hx1] at hcx
      rw [← hy1] at hcy
      have HZ : Hid (z = zs.getD k 0) := hide (by rw [hz1, hx1, hy1, HZK.out k hlt])
      have HC : Hid (∀ v : World, Calls Try.prog 21 #[.agg #[.int .i32 x, .int .i32 y]] v fun e w' => e = .returned (.int .i32 z) ∧ Below v.heap.size v w') := hide (fun v => by rw [hz1]; exact add1_any x y v)
      clear hx1 hy1 hz1
      obtain ⟨Wx, hWx⟩ : ∃ Wx, Wx = wr.alloc (.cells #[.int .i32 x, .int .i32 y] 51) := ⟨_, rfl⟩
      have HBx : Hid (Below wr.heap.size wr Wx) := hide (by rw [hWx]; exact (Below.refl wr.heap.size wr).alloc (Nat.le_refl _) _)
      have HXx : Hid (BoxP Wx wr.heap.size x y) := hide (by rw [hWx]; exact BoxP.new wr x y)
      have hWx' := hWx.symm
      clear hWx
      have HK : Hid (∀ v, Below Wx.heap.size Wx v → v.cell? ⟨w1.heap.size, 1, none⟩ = some (.slice (some ⟨g2, 0, none⟩) q q) ∧ v.cell? ⟨w.heap.size, 0, none⟩ = some (.func (.func 21) #[] #[]) ∧ v.cell? ⟨wr.heap.size, 0, none⟩ = some (.int .i32 x) ∧ v.cell? ⟨wr.heap.size, 1, none⟩ = some (.int .i32 y)) := hide (fun v hv =>
        ⟨((HTr.out.kept HBx.out).kept hv).c1, Box1.cell ((hv.block _ (by have := HBx.out.size; have := HOr.out.lt; omega)).trans ((HBx.out.block _ HOr.out.lt).trans HOr.out)), (HXx.out.kept hv).c0, (HXx.out.kept hv).c1⟩)
      have HS : Hid (∀ v, Below wr.heap.size wr v → v.cell? ⟨g2, k, none⟩ = some (.int .i32 0) ∧ v.frozen? ⟨g2, k, none⟩ = false) := hide (fun v hv => by
        have h := HF.out.below hv
        have hc := h.cell hlt
        rw [if_neg (by omega)] at hc
        exact ⟨hc, h.frozen k⟩)
      have HKS : Hid (∀ v u, Below Wx.heap.size Wx v → (v.setCell ⟨g2, k, none⟩ u).cell? ⟨w1.heap.size, 1, none⟩ = some (.slice (some ⟨g2, 0, none⟩) q q) ∧ (v.setCell ⟨g2, k, none⟩ u).cell? ⟨w.heap.size, 0, none⟩ = some (.func (.func 21) #[] #[]) ∧ (v.setCell ⟨g2, k, none⟩ u).cell? ⟨wr.heap.size, 0, none⟩ = some (.int .i32 x) ∧ (v.setCell ⟨g2, k, none⟩ u).cell? ⟨wr.heap.size, 1, none⟩ = some (.int .i32 y)) := hide (fun v u hv => by
        obtain ⟨q0, q1, q2, q3⟩ := HK.out v hv
        exact ⟨(World.cell?_of_block (Below.heap_setCell v ⟨g2, k, none⟩ u w1.heap.size (by simp; omega))).trans q0, (World.cell?_of_block (Below.heap_setCell v ⟨g2, k, none⟩ u w.heap.size (by simp; omega))).trans q1, (World.cell?_of_block (Below.heap_setCell v ⟨g2, k, none⟩ u wr.heap.size (by simp; omega))).trans q2, (World.cell?_of_block (Below.heap_setCell v ⟨g2, k, none⟩ u wr.heap.size (by simp; omega))).trans q3⟩)
      have hbx0 : Below Wx.heap.size Wx Wx := Below.refl _ Wx
      have hbx1 : Below Wx.heap.size Wx (Wx.drewN 1) := below_drewN (Below.refl _ Wx) 1
      go_wp2
      go_region_held3 (fun v => v.cell? ⟨w1.heap.size, 1, none⟩ = some (.slice (some ⟨g2, 0, none⟩) q q) ∧ v.cell? ⟨w.heap.size, 0, none⟩ = some (.func (.func 21) #[] #[]) ∧ v.cell? ⟨wr.heap.size, 0, none⟩ = some (.int .i32 x) ∧ v.cell? ⟨wr.heap.size, 1, none⟩ = some (.int .i32 y))
        (first | (exact HKS.out _ _ hbx2) | (exact HK.out _ hbx2) | (exact HK.out _ hbx1) | (exact HK.out _ hbx0) | go_keep)
        (first | (go_at_call 21; refine Calls.mono (HC.out _) ?_; rintro e w2 ⟨rfl, hb2⟩; have hbx2 : Below Wx.heap.size Wx w2 := hbx1.trans hb2; have hbr2 : Below wr.heap.size wr w2 := HBx.out.trans (hbx2.mono HBx.out.size); obtain ⟨hs, hf⟩ := HS.out _ hbr2))
      have HNG : Hid (W1.grownBy (w2.setCell ⟨g2, k, none⟩ (.int .i32 z)) (some g2)) := hide (grown_trans (grown_trans HG.out (grown_below (hbr2) (some g2))) (grown_cell6 w2 ⟨g2, k, none⟩ _))
      have HNF : Hid (FillAt (w2.setCell ⟨g2, k, none⟩ (.int .i32 z)) g2 q zs (k + 1)) := hide (by
        have h := (HF.out.below (hbr2)).set
        rwa [← HZ.out] at h)
      go_wp2
      go_roundw
      case rel => exact ⟨k + 1, by omega, by go_num, HNF, HNG⟩
      case measure => simp [intOf]; omega
    · obtain rfl : k = q := by omega
      have t0 := HTr.out.c0
      have t1 := HTr.out.c1
      have HRr : Hid (BoxT wr (w.heap.size + 1) (.slice none 0 0) (.slice none 0 0)) := hide ((HG.out.block (w.heap.size + 1) (by omega) (by simp; omega)).trans HRB.out)
      have r0 := HRr.out.c0
      have r1 := HRr.out.c1
      have rf0 := HRr.out.f0 0
      have rf1 := HRr.out.f0 1
      go_wp2
      (try simp only [Exit.inBlock, Exit.then])
      refine ret_ten1 (p := 6) rfl rfl (w.heap.size + 1) _ rfl (HRr.out.set2 _ _) rfl ?_
      refine ⟨g1, c1, g2, rfl, ?_, ?_, hne, ?_⟩
      · refine own_base (own_setCell' (own_setCell' (HO1.out.kept (row := some g2) HG.out (.inr (by simp [Value.ownBlock]; omega))) (by simp; omega) _) (by simp; omega) _) (by omega)
      · refine own_setCell' (own_setCell' (HF.out.own HZL.out (by omega) (by unfold maxLen; omega)) (by simp; omega) _) (by simp; omega) _
      · exact ((HB1w.out.trans (below_grown HG.out (by omega) (by omega))).setCell (by simp) _).setCell (by simp) _

end Go.Proofs.Ytlalfjlcgabnnaa
