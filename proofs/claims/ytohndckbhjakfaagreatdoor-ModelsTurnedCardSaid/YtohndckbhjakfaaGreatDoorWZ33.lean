/- Merged: Mo4, Mo7, Mo8, Table. -/
import Derived.Test.YtohndckbhjakfaaGreatDoorWZ31
import Derived.Test.YtohndckbhjakfaaGreatDoorWZ32
import Derived.Test.YtohndckbhjakfaaGreatDoorWZ03
import Derived.Test.YtohndckbhjakfaaGreatDoorWZ01
import Derived.Test.YtohndckbhjakfaaGreatDoorWZ05
import Derived.Test.YtohndckbhjakfaaGreatDoorWZ10
import Derived.Test.YtohndckbhjakfaaGreatDoorWZ29
import Derived.Test.YtohndckbhjakfaaGreatDoorWZ00
import Derived.Test.YtohndckbhjakfaaGreatDoorWZ27
namespace Go.Proofs.YtohndckbhjakfaaGreatDoor

section
open Go.RowKit
set_option linter.unusedVariables false
set_option linter.unusedSimpArgs false
set_option maxRecDepth 100000

/-- A model in a block. -/
def BoxM (w : World) (q : Nat) (v u : Value) : Prop := w.heap[q]? = some (.cells #[v, u] 27 (0, 0))

theorem BoxM.new (w : World) (v u : Value) : BoxM (w.alloc (.cells #[v, u] 27)) w.heap.size v u := heap_alloc_new w _

theorem BoxM.kept {w w' : World} {q : Nat} {v u : Value} (h : BoxM w q v u) (hb : Below w.heap.size w w') : BoxM w' q v u := (hb.block q (lt_of_heap h)).trans h

theorem BoxM.cs {w : World} {q : Nat} {v u : Value} (h : BoxM w q v u) : w.cell? ⟨q, 0, none⟩ = some v ∧ w.cell? ⟨q, 1, none⟩ = some u := ⟨cell_of_row _ _ 0 _ _ (0, 0) h, cell_of_row _ _ 1 _ _ (0, 0) h⟩

set_option maxHeartbeats 16000000 in
theorem isModel11_any (A B : Option Addr) (n c m d : Nat) (ns : List Nd) (ts : List Wt) (w : World) (h : NsIn w A n ns) (hn : n ≤ 1073741824) (hc : n ≤ c) (hW : WsIn w B m ts) (hm : m ≤ 70368744177664) :
    Calls Tryz.prog 26 #[.agg #[.slice A n c, .slice B m d]] w fun e w' => e = .returned (.bool (mdB ns ts)) ∧ Below w.heap.size w w' := by
  obtain ⟨W0, hW0⟩ : ∃ W0, W0 = w.alloc (.cells #[.slice A n c, .slice B m d] 27) := ⟨_, rfl⟩
  have HB0 : Hid (Below w.heap.size w W0) := hide (by rw [hW0]; exact below_al6 (Below.refl _ _))
  have HX : Hid (BoxM W0 w.heap.size (.slice A n c) (.slice B m d)) := hide (by rw [hW0]; exact BoxM.new w _ _)
  have HN := hide (h.below HB0.out)
  have HWS := hide (hW.below HB0.out)
  have HL : Hid (ns.length = n) := hide h.1
  have HM : Hid (ts.length = m) := hide hW.1
  obtain ⟨R, hR⟩ : ∃ z, z = mdB ns ts := ⟨_, rfl⟩
  rw [← hR]
  have HR := hide hR
  have HNO : Hid (¬ (gphB ns = true ∧ wsFit ns (wtF 0 ns) ts = true) → R = false) := hide (fun h => by
    rw [HR.out]
    cases e : mdB ns ts with
    | false => rfl
    | true => exact absurd (mdB_parts.1 e) h)
  have HC1 := hide (weights_any A n c ns W0 HN.out hn)
  obtain ⟨c0, c1⟩ := HX.out.cs
  have hW0' := hW0.symm
  clear hW0 h hW hR
  go_enter Tryz.func26, Tryz.ntmps26
  go_wp2_with fail
  refine Calls.mono HC1.out ?_
  rintro e w1 ⟨A1, k1, ca, rfl, ho1, hb⟩
  have HLW := hide (lies_of_own ho1)
  have HKW : Hid ((wtF 0 ns).length = k1) := hide (lies_len9 (lies_of_own ho1))
  have HB1 := hide hb
  clear ho1 hb HC1 c0 c1
  have hk1 : k1 ≤ n := by have := wtF_len11 ns 0; rw [HKW.out, HL.out] at this; exact this
  obtain ⟨G, hG⟩ : ∃ z, z = gphB ns := ⟨_, rfl⟩
  have hck := gcheck_any A n c ns w1 (HN.out.below HB1.out) hn hc
  rw [← hG] at hck
  have HCK := hide hck
  have HG := hide hG
  obtain ⟨c0, c1⟩ := (HX.out.kept HB1.out).cs
  clear hck hG
  go_wp2_with fail
  refine Calls.mono HCK.out ?_
  rintro e w2 ⟨rfl, hb⟩
  have HB2 := hide (below_nx6 HB1.out hb)
  replace HLW := hide (HLW.out.below hb)
  clear hb HCK c0 c1
  obtain ⟨c0, c1⟩ := (HX.out.kept HB2.out).cs
  cases G with
  | false =>
    obtain rfl : R = false := HNO.out (fun h => by rw [← HG.out] at h; cases h.1)
    clear c0 c1
    go_wp2
    go_ret
    exact ⟨rfl, below_nx6 HB0.out HB2.out⟩
  | true =>
  have HN32 := hide (gphB_n11 HG.out.symm)
  have hn32 : n ≤ 32 := by have h := HN32.out; rw [HL.out] at h; exact h
  by_cases hmk : m = k1
  · have e0 : ((m : Int) != (k1 : Int)) = false := by rw [bne_eq_false_iff_eq]; omega
    have HMK := hide hmk
    have hm32 : m ≤ 32 := by omega
    clear hmk
    go_wp2
    clear e0 c0 c1
    go_loopw [24] (fun v wr => ∃ i : Nat, i ≤ m ∧ v = .int .i64 i ∧ Hid (∀ (j : Nat) (z : Int) (t : Wt), j < i → (wtF 0 ns)[j]? = some z → ts[j]? = some t → tenOk t.s t.m = true ∧ t.s = shOf ns z) ∧ Hid (Below w2.heap.size w2 wr)) (fun v _ => m - (intOf v).toNat)
    case atStart => exact ⟨0, Nat.zero_le _, rfl, hide (fun j z t hj => absurd hj (by omega)), hide (Below.refl _ _)⟩
    case round =>
      obtain ⟨i, hi, rfl, HP, HB⟩ := hrel
      by_cases hlt : i < m
      · have HBR := hide (below_nx6 HB2.out HB.out)
        obtain ⟨bT, oT, t, eB, ht, t0, t1, hto⟩ := (HWS.out.below HBR.out).at hlt
        obtain ⟨z, hz⟩ : ∃ z, (wtF 0 ns)[i]? = some z := ⟨(wtF 0 ns)[i]'(by rw [HKW.out, ← HMK.out]; exact hlt), List.getElem?_eq_getElem _⟩
        obtain ⟨u, x, rfl, hxu, hkd, hsh⟩ := wt_node hz
        have hun : u < n := by rw [← HL.out]; exact (List.getElem?_eq_some_iff.1 hxu).1
        obtain ⟨bA, oA, x2, eA, hx2, _, _, h2, _, _, hxo⟩ := (HN.out.below HBR.out).at hun
        rw [hxu] at hx2
        cases hx2
        obtain ⟨bW, oW, eW, _, hxW⟩ := byte_at (HLW.out.below HB.out) (by rw [← HMK.out]; omega)
        have hcw := hxW i (by rw [← HMK.out]; exact hlt)
        have hgd : (wtF 0 ns).getD i 0 = (u : Int) := by rw [List.getD, hz]; rfl
        rw [hgd] at hcw
        have HZ := hide hz
        have HT := hide ht
        have HSH := hide hsh
        have HTO := hide hto
        have HXO := hide hxo
        have i0 : (0 : Int) ≤ (i : Int) := by omega
        have i1 : (i : Int) < (m : Int) := by omega
        have i2 : (i : Int) < (k1 : Int) := by have := HMK.out; omega
        have u0 : (0 : Int) ≤ (u : Int) := by omega
        have u1 : (u : Int) < (n : Int) := by omega
        subst eB eA eW
        obtain ⟨W1, hW1⟩ : ∃ W1, W1 = wr.alloc (.cells #[.slice t.A t.n t.c, .slice t.B t.m t.d] 40) := ⟨_, rfl⟩
        have hb1 : Below wr.heap.size wr W1 := by rw [hW1]; exact below_al6 (Below.refl _ _)
        have HXT : Hid (BoxT W1 wr.heap.size (.slice t.A t.n t.c) (.slice t.B t.m t.d)) := hide (by rw [hW1]; exact BoxT.new wr _ _)
        have HKC : Hid (∀ v, Below W1.heap.size W1 v → v.cell? ⟨wr.heap.size, 0, none⟩ = some (.slice t.A t.n t.c) ∧ v.cell? ⟨wr.heap.size, 1, none⟩ = some (.slice t.B t.m t.d) ∧ v.cell? ⟨w.heap.size, 0, none⟩ = some (.slice (some ⟨bA, oA, none⟩) n c) ∧ v.cell? ⟨bW, oW + i, none⟩ = some (.int .i64 (u : Int)) ∧ v.cell? ⟨bA, oA + u * 5 + 2, none⟩ = some (.slice x.S x.ns x.cs)) := hide (fun v hv => by
          have hv2 := below_nx6 hb1 hv
          have k := fun {b o : Nat} {z : Value} (h : wr.cell? ⟨b, o, none⟩ = some z) => (hv2.cell (World.block_lt_of_cell? wr _ h)).trans h
          exact ⟨(HXT.out.kept hv).c0, (HXT.out.kept hv).c1, ((HX.out.kept (below_nx6 HBR.out hv2)).cs).1, k hcw, k h2⟩)
        have HTW := hide (hto.below hb1)
        have HXW := hide (hxo.below hb1)
        have HBW := hide (below_nx6 HB.out hb1)
        have hd0 : Below W1.heap.size W1 W1.drew := below_drewN (Below.refl _ _) 1
        have hW1' := hW1.symm
        clear hW1 hz hxu hkd hsh ht hto hxo hb1 h2 hcw hgd hxW HBR HXO HTO
        obtain ⟨T, hT⟩ : ∃ z, z = tenOk t.s t.m := ⟨_, rfl⟩
        have HTT := hide hT
        clear hT
        go_wp2
        clear t0 t1
        cases T with
        | false =>
          obtain rfl : R = false := HNO.out (fun h => by have := (wsFit_at h.2 HZ.out HT.out).1; rw [← HTT.out] at this; cases this)
          have hS0 : Hid (W1.drew.cell? ⟨wr.heap.size, 0, none⟩ = some (.slice t.A t.n t.c) ∧ W1.drew.cell? ⟨wr.heap.size, 1, none⟩ = some (.slice t.B t.m t.d) ∧ W1.drew.cell? ⟨w.heap.size, 0, none⟩ = some (.slice (some ⟨bA, oA, none⟩) n c) ∧ W1.drew.cell? ⟨bW, oW + i, none⟩ = some (.int .i64 (u : Int)) ∧ W1.drew.cell? ⟨bA, oA + u * 5 + 2, none⟩ = some (.slice x.S x.ns x.cs)) := hide (HKC.out _ hd0)
          refine wp_region_U (fun _ v => v.cell? ⟨wr.heap.size, 0, none⟩ = some (.slice t.A t.n t.c) ∧ v.cell? ⟨wr.heap.size, 1, none⟩ = some (.slice t.B t.m t.d) ∧ v.cell? ⟨w.heap.size, 0, none⟩ = some (.slice (some ⟨bA, oA, none⟩) n c) ∧ v.cell? ⟨bW, oW + i, none⟩ = some (.int .i64 (u : Int)) ∧ v.cell? ⟨bA, oA + u * 5 + 2, none⟩ = some (.slice x.S x.ns x.cs)) 99 (by kernel_rfl) ?_
          refine wpAnyU_take (i := 0) (oi := { dst := some 29, op := _, type := _, pos := _, after := _, guard := none }) (v := .agg #[.slice t.A t.n t.c, .slice t.B t.m t.d]) rfl (by kernel_rfl) (by kernel_rfl) (by kernel_rfl) (by kernel_rfl) (fun _ _ _ h => h) (yields_take rfl (fun w' hw => by obtain ⟨h1, h2, h3, h4, h5⟩ := hw.const; go_simp)) hS0.out ?_
          simp only [Act.put, List.setIfInBounds_toArray, List.set_cons_zero, List.set_cons_succ]
          refine wpAnyU_one (i := 1) (by kernel_rfl) rfl ?_
          intro K hK
          go_simp
          refine Calls.mono (tcheck_any t.A t.B t.n t.c t.m t.d t.s _ (HTW.out.1.1.below hd0) (by have := HTW.out.2.2.1.1; omega)) ?_
          rintro e w3 ⟨he, hb⟩
          (try dsimp only)
          rw [← HTT.out] at he
          subst he
          have hd1 : Below W1.heap.size W1 w3 := below_nx6 hd0 hb
          clear hb
          (try dsimp only)
          have hS1 : Hid (w3.cell? ⟨wr.heap.size, 0, none⟩ = some (.slice t.A t.n t.c) ∧ w3.cell? ⟨wr.heap.size, 1, none⟩ = some (.slice t.B t.m t.d) ∧ w3.cell? ⟨w.heap.size, 0, none⟩ = some (.slice (some ⟨bA, oA, none⟩) n c) ∧ w3.cell? ⟨bW, oW + i, none⟩ = some (.int .i64 (u : Int)) ∧ w3.cell? ⟨bA, oA + u * 5 + 2, none⟩ = some (.slice x.S x.ns x.cs)) := hide (HKC.out _ hd1)
          refine hK.out _ _ hS1.out (fun _ => ?_)
          clear hK K hS0
          refine wpAnyU_take (i := 2) (oi := { dst := some 31, op := _, type := _, pos := _, after := _, guard := none }) (v := .bool true) rfl (by kernel_rfl) (by kernel_rfl) (by kernel_rfl) (by kernel_rfl) (fun _ _ _ h => h) (yields_take rfl (fun w' hw => by obtain ⟨h1, h2, h3, h4, h5⟩ := hw.const; go_simp)) hS1.out ?_
          simp only [Act.put, List.setIfInBounds_toArray, List.set_cons_zero, List.set_cons_succ]
          refine wpAnyU_take (i := 3) (oi := { dst := some 32, op := _, type := _, pos := _, after := _, guard := none }) (v := .bool true) rfl (by kernel_rfl) (by kernel_rfl) (by kernel_rfl) (by kernel_rfl) (fun _ _ _ h => h) (yields_take rfl (fun w' hw => by obtain ⟨h1, h2, h3, h4, h5⟩ := hw.const; go_simp)) hS1.out ?_
          simp only [Act.put, List.setIfInBounds_toArray, List.set_cons_zero, List.set_cons_succ]
          refine wpAnyU_take (i := 4) (oi := { dst := some 33, op := _, type := _, pos := _, after := _, guard := some (3, false) }) (v := undef) rfl (by kernel_rfl) (by kernel_rfl) (by kernel_rfl) (by kernel_rfl) (fun _ _ _ h => h) (.inr ⟨rfl, rfl⟩) hS1.out ?_
          simp only [Act.put, List.setIfInBounds_toArray, List.set_cons_zero, List.set_cons_succ]
          refine wpAnyU_take (i := 5) (oi := { dst := some 34, op := _, type := _, pos := _, after := _, guard := some (3, false) }) (v := undef) rfl (by kernel_rfl) (by kernel_rfl) (by kernel_rfl) (by kernel_rfl) (fun _ _ _ h => h) (.inr ⟨rfl, rfl⟩) hS1.out ?_
          simp only [Act.put, List.setIfInBounds_toArray, List.set_cons_zero, List.set_cons_succ]
          refine wpAnyU_take (i := 6) (oi := { dst := some 35, op := _, type := _, pos := _, after := _, guard := some (3, false) }) (v := undef) rfl (by kernel_rfl) (by kernel_rfl) (by kernel_rfl) (by kernel_rfl) (fun _ _ _ h => h) (.inr ⟨rfl, rfl⟩) hS1.out ?_
          simp only [Act.put, List.setIfInBounds_toArray, List.set_cons_zero, List.set_cons_succ]
          refine wpAnyU_take (i := 7) (oi := { dst := some 36, op := _, type := _, pos := _, after := _, guard := some (3, false) }) (v := undef) rfl (by kernel_rfl) (by kernel_rfl) (by kernel_rfl) (by kernel_rfl) (fun _ _ _ h => h) (.inr ⟨rfl, rfl⟩) hS1.out ?_
          simp only [Act.put, List.setIfInBounds_toArray, List.set_cons_zero, List.set_cons_succ]
          refine wpAnyU_take (i := 8) (oi := { dst := some 37, op := _, type := _, pos := _, after := _, guard := some (3, false) }) (v := undef) rfl (by kernel_rfl) (by kernel_rfl) (by kernel_rfl) (by kernel_rfl) (fun _ _ _ h => h) (.inr ⟨rfl, rfl⟩) hS1.out ?_
          simp only [Act.put, List.setIfInBounds_toArray, List.set_cons_zero, List.set_cons_succ]
          refine wpAnyU_take (i := 9) (oi := { dst := some 38, op := _, type := _, pos := _, after := _, guard := some (3, false) }) (v := undef) rfl (by kernel_rfl) (by kernel_rfl) (by kernel_rfl) (by kernel_rfl) (fun _ _ _ h => h) (.inr ⟨rfl, rfl⟩) hS1.out ?_
          simp only [Act.put, List.setIfInBounds_toArray, List.set_cons_zero, List.set_cons_succ]
          refine wpAnyU_take (i := 10) (oi := { dst := some 39, op := _, type := _, pos := _, after := _, guard := some (3, false) }) (v := undef) rfl (by kernel_rfl) (by kernel_rfl) (by kernel_rfl) (by kernel_rfl) (fun _ _ _ h => h) (.inr ⟨rfl, rfl⟩) hS1.out ?_
          simp only [Act.put, List.setIfInBounds_toArray, List.set_cons_zero, List.set_cons_succ]
          refine wpAnyU_take (i := 11) (oi := { dst := some 40, op := _, type := _, pos := _, after := _, guard := some (3, false) }) (v := undef) rfl (by kernel_rfl) (by kernel_rfl) (by kernel_rfl) (by kernel_rfl) (fun _ _ _ h => h) (.inr ⟨rfl, rfl⟩) hS1.out ?_
          simp only [Act.put, List.setIfInBounds_toArray, List.set_cons_zero, List.set_cons_succ]
          refine wpAnyU_take (i := 12) (oi := { dst := some 41, op := _, type := _, pos := _, after := _, guard := some (3, false) }) (v := undef) rfl (by kernel_rfl) (by kernel_rfl) (by kernel_rfl) (by kernel_rfl) (fun _ _ _ h => h) (.inr ⟨rfl, rfl⟩) hS1.out ?_
          simp only [Act.put, List.setIfInBounds_toArray, List.set_cons_zero, List.set_cons_succ]
          refine wpAnyU_take (i := 13) (oi := { dst := some 42, op := _, type := _, pos := _, after := _, guard := some (3, false) }) (v := undef) rfl (by kernel_rfl) (by kernel_rfl) (by kernel_rfl) (by kernel_rfl) (fun _ _ _ h => h) (.inr ⟨rfl, rfl⟩) hS1.out ?_
          simp only [Act.put, List.setIfInBounds_toArray, List.set_cons_zero, List.set_cons_succ]
          refine wpAnyU_take (i := 14) (oi := { dst := some 43, op := _, type := _, pos := _, after := _, guard := some (3, false) }) (v := undef) rfl (by kernel_rfl) (by kernel_rfl) (by kernel_rfl) (by kernel_rfl) (fun _ _ _ h => h) (.inr ⟨rfl, rfl⟩) hS1.out ?_
          simp only [Act.put, List.setIfInBounds_toArray, List.set_cons_zero, List.set_cons_succ]
          refine wpAnyU_take (i := 15) (oi := { dst := some 44, op := _, type := _, pos := _, after := _, guard := some (3, false) }) (v := undef) rfl (by kernel_rfl) (by kernel_rfl) (by kernel_rfl) (by kernel_rfl) (fun _ _ _ h => h) (.inr ⟨rfl, rfl⟩) hS1.out ?_
          simp only [Act.put, List.setIfInBounds_toArray, List.set_cons_zero, List.set_cons_succ]
          refine wpAnyU_take (i := 16) (oi := { dst := some 45, op := _, type := _, pos := _, after := _, guard := some (3, false) }) (v := undef) rfl (by kernel_rfl) (by kernel_rfl) (by kernel_rfl) (by kernel_rfl) (fun _ _ _ h => h) (.inr ⟨rfl, rfl⟩) hS1.out ?_
          simp only [Act.put, List.setIfInBounds_toArray, List.set_cons_zero, List.set_cons_succ]
          refine wpAnyU_take (i := 17) (oi := { dst := some 46, op := _, type := _, pos := _, after := _, guard := some (3, false) }) (v := undef) rfl (by kernel_rfl) (by kernel_rfl) (by kernel_rfl) (by kernel_rfl) (fun _ _ _ h => h) (.inr ⟨rfl, rfl⟩) hS1.out ?_
          simp only [Act.put, List.setIfInBounds_toArray, List.set_cons_zero, List.set_cons_succ]
          refine wpAnyU_take (i := 18) (oi := { dst := some 47, op := _, type := _, pos := _, after := _, guard := none }) (v := .bool true) rfl (by kernel_rfl) (by kernel_rfl) (by kernel_rfl) (by kernel_rfl) (fun _ _ _ h => h) (yields_take rfl (fun w' hw => by obtain ⟨h1, h2, h3, h4, h5⟩ := hw.const; go_simp)) hS1.out ?_
          simp only [Act.put, List.setIfInBounds_toArray, List.set_cons_zero, List.set_cons_succ]
          refine wpAnyU_done (by kernel_rfl) ?_ _
          clear hS1
          have hbe := below_nx6 HB0.out (below_nx6 HB2.out (below_nx6 HBW.out hd1))
          have HBE := hide hbe
          clear HKC hbe
          go_wp2
          go_ret
          exact ⟨rfl, HBE.out⟩
        | true =>
          obtain ⟨Q, hQ⟩ : ∃ z, z = decide (t.s = x.sh) := ⟨_, rfl⟩
          have HQ := hide hQ
          clear hQ
          have hS0 : Hid (W1.drew.cell? ⟨wr.heap.size, 0, none⟩ = some (.slice t.A t.n t.c) ∧ W1.drew.cell? ⟨wr.heap.size, 1, none⟩ = some (.slice t.B t.m t.d) ∧ W1.drew.cell? ⟨w.heap.size, 0, none⟩ = some (.slice (some ⟨bA, oA, none⟩) n c) ∧ W1.drew.cell? ⟨bW, oW + i, none⟩ = some (.int .i64 (u : Int)) ∧ W1.drew.cell? ⟨bA, oA + u * 5 + 2, none⟩ = some (.slice x.S x.ns x.cs)) := hide (HKC.out _ hd0)
          refine wp_region_U (fun _ v => v.cell? ⟨wr.heap.size, 0, none⟩ = some (.slice t.A t.n t.c) ∧ v.cell? ⟨wr.heap.size, 1, none⟩ = some (.slice t.B t.m t.d) ∧ v.cell? ⟨w.heap.size, 0, none⟩ = some (.slice (some ⟨bA, oA, none⟩) n c) ∧ v.cell? ⟨bW, oW + i, none⟩ = some (.int .i64 (u : Int)) ∧ v.cell? ⟨bA, oA + u * 5 + 2, none⟩ = some (.slice x.S x.ns x.cs)) 99 (by kernel_rfl) ?_
          refine wpAnyU_take (i := 0) (oi := { dst := some 29, op := _, type := _, pos := _, after := _, guard := none }) (v := .agg #[.slice t.A t.n t.c, .slice t.B t.m t.d]) rfl (by kernel_rfl) (by kernel_rfl) (by kernel_rfl) (by kernel_rfl) (fun _ _ _ h => h) (yields_take rfl (fun w' hw => by obtain ⟨h1, h2, h3, h4, h5⟩ := hw.const; go_simp)) hS0.out ?_
          simp only [Act.put, List.setIfInBounds_toArray, List.set_cons_zero, List.set_cons_succ]
          refine wpAnyU_one (i := 1) (by kernel_rfl) rfl ?_
          intro K hK
          go_simp
          refine Calls.mono (tcheck_any t.A t.B t.n t.c t.m t.d t.s _ (HTW.out.1.1.below hd0) (by have := HTW.out.2.2.1.1; omega)) ?_
          rintro e w3 ⟨he, hb⟩
          (try dsimp only)
          rw [← HTT.out] at he
          subst he
          have hd1 : Below W1.heap.size W1 w3 := below_nx6 hd0 hb
          clear hb
          (try dsimp only)
          have hS1 : Hid (w3.cell? ⟨wr.heap.size, 0, none⟩ = some (.slice t.A t.n t.c) ∧ w3.cell? ⟨wr.heap.size, 1, none⟩ = some (.slice t.B t.m t.d) ∧ w3.cell? ⟨w.heap.size, 0, none⟩ = some (.slice (some ⟨bA, oA, none⟩) n c) ∧ w3.cell? ⟨bW, oW + i, none⟩ = some (.int .i64 (u : Int)) ∧ w3.cell? ⟨bA, oA + u * 5 + 2, none⟩ = some (.slice x.S x.ns x.cs)) := hide (HKC.out _ hd1)
          refine hK.out _ _ hS1.out (fun _ => ?_)
          clear hK K hS0
          refine wpAnyU_take (i := 2) (oi := { dst := some 31, op := _, type := _, pos := _, after := _, guard := none }) (v := .bool false) rfl (by kernel_rfl) (by kernel_rfl) (by kernel_rfl) (by kernel_rfl) (fun _ _ _ h => h) (yields_take rfl (fun w' hw => by obtain ⟨h1, h2, h3, h4, h5⟩ := hw.const; go_simp)) hS1.out ?_
          simp only [Act.put, List.setIfInBounds_toArray, List.set_cons_zero, List.set_cons_succ]
          refine wpAnyU_take (i := 3) (oi := { dst := some 32, op := _, type := _, pos := _, after := _, guard := none }) (v := .bool false) rfl (by kernel_rfl) (by kernel_rfl) (by kernel_rfl) (by kernel_rfl) (fun _ _ _ h => h) (yields_take rfl (fun w' hw => by obtain ⟨h1, h2, h3, h4, h5⟩ := hw.const; go_simp)) hS1.out ?_
          simp only [Act.put, List.setIfInBounds_toArray, List.set_cons_zero, List.set_cons_succ]
          refine wpAnyU_take (i := 4) (oi := { dst := some 33, op := _, type := _, pos := _, after := _, guard := some (3, false) }) (v := .pointer (some ⟨wr.heap.size, 0, none⟩)) rfl (by kernel_rfl) (by kernel_rfl) (by kernel_rfl) (by kernel_rfl) (fun _ _ _ h => h) (yields_take rfl (fun w' hw => by obtain ⟨h1, h2, h3, h4, h5⟩ := hw.const; go_simp)) hS1.out ?_
          simp only [Act.put, List.setIfInBounds_toArray, List.set_cons_zero, List.set_cons_succ]
          refine wpAnyU_take (i := 5) (oi := { dst := some 34, op := _, type := _, pos := _, after := _, guard := some (3, false) }) (v := .slice t.A t.n t.c) rfl (by kernel_rfl) (by kernel_rfl) (by kernel_rfl) (by kernel_rfl) (fun _ _ _ h => h) (yields_take rfl (fun w' hw => by obtain ⟨h1, h2, h3, h4, h5⟩ := hw.const; go_simp)) hS1.out ?_
          simp only [Act.put, List.setIfInBounds_toArray, List.set_cons_zero, List.set_cons_succ]
          refine wpAnyU_take (i := 6) (oi := { dst := some 35, op := _, type := _, pos := _, after := _, guard := some (3, false) }) (v := .pointer (some ⟨w.heap.size, 0, none⟩)) rfl (by kernel_rfl) (by kernel_rfl) (by kernel_rfl) (by kernel_rfl) (fun _ _ _ h => h) (yields_take rfl (fun w' hw => by obtain ⟨h1, h2, h3, h4, h5⟩ := hw.const; go_simp)) hS1.out ?_
          simp only [Act.put, List.setIfInBounds_toArray, List.set_cons_zero, List.set_cons_succ]
          refine wpAnyU_take (i := 7) (oi := { dst := some 36, op := _, type := _, pos := _, after := _, guard := some (3, false) }) (v := .pointer (some ⟨w.heap.size, 0, none⟩)) rfl (by kernel_rfl) (by kernel_rfl) (by kernel_rfl) (by kernel_rfl) (fun _ _ _ h => h) (yields_take rfl (fun w' hw => by obtain ⟨h1, h2, h3, h4, h5⟩ := hw.const; go_simp)) hS1.out ?_
          simp only [Act.put, List.setIfInBounds_toArray, List.set_cons_zero, List.set_cons_succ]
          refine wpAnyU_take (i := 8) (oi := { dst := some 37, op := _, type := _, pos := _, after := _, guard := some (3, false) }) (v := .slice (some ⟨bA, oA, none⟩) n c) rfl (by kernel_rfl) (by kernel_rfl) (by kernel_rfl) (by kernel_rfl) (fun _ _ _ h => h) (yields_take rfl (fun w' hw => by obtain ⟨h1, h2, h3, h4, h5⟩ := hw.const; go_simp)) hS1.out ?_
          simp only [Act.put, List.setIfInBounds_toArray, List.set_cons_zero, List.set_cons_succ]
          refine wpAnyU_take (i := 9) (oi := { dst := some 38, op := _, type := _, pos := _, after := _, guard := some (3, false) }) (v := .slice (some ⟨bW, oW, none⟩) k1 ca) rfl (by kernel_rfl) (by kernel_rfl) (by kernel_rfl) (by kernel_rfl) (fun _ _ _ h => h) (yields_take rfl (fun w' hw => by obtain ⟨h1, h2, h3, h4, h5⟩ := hw.const; go_simp)) hS1.out ?_
          simp only [Act.put, List.setIfInBounds_toArray, List.set_cons_zero, List.set_cons_succ]
          refine wpAnyU_take (i := 10) (oi := { dst := some 39, op := _, type := _, pos := _, after := _, guard := some (3, false) }) (v := .int .i64 (i : Int)) rfl (by kernel_rfl) (by kernel_rfl) (by kernel_rfl) (by kernel_rfl) (fun _ _ _ h => h) (yields_take rfl (fun w' hw => by obtain ⟨h1, h2, h3, h4, h5⟩ := hw.const; go_simp)) hS1.out ?_
          simp only [Act.put, List.setIfInBounds_toArray, List.set_cons_zero, List.set_cons_succ]
          refine wpAnyU_take (i := 11) (oi := { dst := some 40, op := _, type := _, pos := _, after := _, guard := some (3, false) }) (v := .pointer (some ⟨bW, oW + i, none⟩)) rfl (by kernel_rfl) (by kernel_rfl) (by kernel_rfl) (by kernel_rfl) (fun _ _ _ h => h) (yields_take rfl (fun w' hw => by obtain ⟨h1, h2, h3, h4, h5⟩ := hw.const; go_simp)) hS1.out ?_
          simp only [Act.put, List.setIfInBounds_toArray, List.set_cons_zero, List.set_cons_succ]
          refine wpAnyU_take (i := 12) (oi := { dst := some 41, op := _, type := _, pos := _, after := _, guard := some (3, false) }) (v := .int .i64 (u : Int)) rfl (by kernel_rfl) (by kernel_rfl) (by kernel_rfl) (by kernel_rfl) (fun _ _ _ h => h) (yields_take rfl (fun w' hw => by obtain ⟨h1, h2, h3, h4, h5⟩ := hw.const; go_simp)) hS1.out ?_
          simp only [Act.put, List.setIfInBounds_toArray, List.set_cons_zero, List.set_cons_succ]
          refine wpAnyU_take (i := 13) (oi := { dst := some 42, op := _, type := _, pos := _, after := _, guard := some (3, false) }) (v := .pointer (some ⟨bA, oA + u * 5, none⟩)) rfl (by kernel_rfl) (by kernel_rfl) (by kernel_rfl) (by kernel_rfl) (fun _ _ _ h => h) (yields_take rfl (fun w' hw => by obtain ⟨h1, h2, h3, h4, h5⟩ := hw.const; go_simp)) hS1.out ?_
          simp only [Act.put, List.setIfInBounds_toArray, List.set_cons_zero, List.set_cons_succ]
          refine wpAnyU_take (i := 14) (oi := { dst := some 43, op := _, type := _, pos := _, after := _, guard := some (3, false) }) (v := .pointer (some ⟨bA, oA + u * 5 + 2, none⟩)) rfl (by kernel_rfl) (by kernel_rfl) (by kernel_rfl) (by kernel_rfl) (fun _ _ _ h => h) (yields_take rfl (fun w' hw => by obtain ⟨h1, h2, h3, h4, h5⟩ := hw.const; go_simp)) hS1.out ?_
          simp only [Act.put, List.setIfInBounds_toArray, List.set_cons_zero, List.set_cons_succ]
          refine wpAnyU_take (i := 15) (oi := { dst := some 44, op := _, type := _, pos := _, after := _, guard := some (3, false) }) (v := .slice x.S x.ns x.cs) rfl (by kernel_rfl) (by kernel_rfl) (by kernel_rfl) (by kernel_rfl) (fun _ _ _ h => h) (yields_take rfl (fun w' hw => by obtain ⟨h1, h2, h3, h4, h5⟩ := hw.const; go_simp)) hS1.out ?_
          simp only [Act.put, List.setIfInBounds_toArray, List.set_cons_zero, List.set_cons_succ]
          refine wpAnyU_one (i := 16) (by kernel_rfl) rfl ?_
          intro K hK
          go_simp
          refine Calls.mono (equal_ints t.A x.S t.n t.c x.ns x.cs t.s x.sh _ (HTW.out.1.1.below hd1) (HXW.out.2.1.below hd1) (by have := HTW.out.2.2.1.1; omega)) ?_
          rintro e _ ⟨he, jj, rfl⟩
          (try dsimp only)
          rw [← HQ.out] at he
          subst he
          have hd2 : Below W1.heap.size W1 (w3.drewN jj) := below_drewN hd1 jj
          (try dsimp only)
          have hS2 : Hid ((w3.drewN jj).cell? ⟨wr.heap.size, 0, none⟩ = some (.slice t.A t.n t.c) ∧ (w3.drewN jj).cell? ⟨wr.heap.size, 1, none⟩ = some (.slice t.B t.m t.d) ∧ (w3.drewN jj).cell? ⟨w.heap.size, 0, none⟩ = some (.slice (some ⟨bA, oA, none⟩) n c) ∧ (w3.drewN jj).cell? ⟨bW, oW + i, none⟩ = some (.int .i64 (u : Int)) ∧ (w3.drewN jj).cell? ⟨bA, oA + u * 5 + 2, none⟩ = some (.slice x.S x.ns x.cs)) := hide (HKC.out _ hd2)
          refine hK.out _ _ hS2.out (fun _ => ?_)
          clear hK K hS1
          refine wpAnyU_take (i := 17) (oi := { dst := some 46, op := _, type := _, pos := _, after := _, guard := some (3, false) }) (v := .bool (!Q)) rfl (by kernel_rfl) (by kernel_rfl) (by kernel_rfl) (by kernel_rfl) (fun _ _ _ h => h) (yields_take rfl (fun w' hw => by obtain ⟨h1, h2, h3, h4, h5⟩ := hw.const; go_simp)) hS2.out ?_
          simp only [Act.put, List.setIfInBounds_toArray, List.set_cons_zero, List.set_cons_succ]
          refine wpAnyU_take (i := 18) (oi := { dst := some 47, op := _, type := _, pos := _, after := _, guard := none }) (v := .bool (!Q)) rfl (by kernel_rfl) (by kernel_rfl) (by kernel_rfl) (by kernel_rfl) (fun _ _ _ h => h) (yields_take rfl (fun w' hw => by obtain ⟨h1, h2, h3, h4, h5⟩ := hw.const; go_simp)) hS2.out ?_
          simp only [Act.put, List.setIfInBounds_toArray, List.set_cons_zero, List.set_cons_succ]
          refine wpAnyU_done (by kernel_rfl) ?_ _
          clear hS2
          cases Q with
          | false =>
            obtain rfl : R = false := HNO.out (fun h => by
              have h1 := (wsFit_at h.2 HZ.out HT.out).2
              rw [HSH.out] at h1
              have := HQ.out
              rw [decide_eq_true h1] at this
              cases this)
            have HBE := hide (below_nx6 HB0.out (below_nx6 HB2.out (below_nx6 HBW.out hd2)))
            clear HKC
            go_wp2
            go_ret
            exact ⟨rfl, HBE.out⟩
          | true =>
            have HP2 : Hid (∀ (j : Nat) (z : Int) (t : Wt), j < i + 1 → (wtF 0 ns)[j]? = some z → ts[j]? = some t → tenOk t.s t.m = true ∧ t.s = shOf ns z) := hide (fun j z' t' hj hz' ht' => by
              by_cases e : j = i
              · subst e
                rw [HZ.out] at hz'
                rw [HT.out] at ht'
                cases hz'
                cases ht'
                exact ⟨HTT.out.symm, by rw [HSH.out]; exact of_decide_eq_true HQ.out.symm⟩
              · exact HP.out j z' t' (by omega) hz' ht')
            have HBE := hide (below_nx6 HBW.out hd2)
            clear HKC
            go_wp2
            go_roundw
            case rel => exact ⟨i + 1, by omega, by go_num, HP2, HBE⟩
            case measure => simp [intOf] <;> omega
      · obtain rfl : i = m := by omega
        have i1 : ¬ (i : Int) < (i : Int) := by omega
        obtain rfl : R = true := by
          rw [HR.out, mdB_parts]
          exact ⟨HG.out.symm, wsFit_mk (by rw [HKW.out, HM.out, HMK.out]) (fun j z t hz ht => HP.out j z t (by have := (List.getElem?_eq_some_iff.1 ht).1; rw [HM.out] at this; exact this) hz ht)⟩
        go_wp2
        go_ret
        exact ⟨rfl, below_nx6 HB0.out (below_nx6 HB2.out HB.out)⟩
  · obtain rfl : R = false := HNO.out (fun h => by have h1 := wsFit_len h.2; rw [HKW.out, HM.out] at h1; omega)
    have e0 : ((m : Int) != (k1 : Int)) = true := by rw [bne_iff_ne]; omega
    clear hmk
    go_wp2
    go_ret
    exact ⟨rfl, below_nx6 HB0.out HB2.out⟩

end

section
open Go.RowKit
set_option linter.unusedVariables false
set_option linter.unusedSimpArgs false
set_option maxRecDepth 100000

/-- A weight of a graph has a shape. -/
theorem wt_pos {ns : List Nd} {u : Nat} {x : Nd} (h : gphB ns = true) (hx : ns[u]? = some x) (hk : x.kd = 2) : 0 < sizeI x.sh := by
  obtain ⟨_, ss, hs, _⟩ := gphB_parts h
  have hu := (List.getElem?_eq_some_iff.1 hx).1
  have ht := allSh_take hs u (by omega)
  cases hf : fitN x (ss.take u) with
  | false => rw [allSh_stop ht hx hf] at hs; cases hs
  | true =>
    have hp := shN_pos (allSh_pos _ [] _ (by simp) ht) hf
    have e : (2 : Int).toNat = 2 := rfl
    have : shN x (ss.take u) = x.sh := by rw [shN, hk, e]; rfl
    rwa [this] at hp

theorem wtF_two {ns : List Nd} {k : Nat} {z : Int} (hG : gphB ns = true) (h : (wtF 0 ns)[k]? = some z) : ∃ (j : Nat) (x : Nd), z = (j : Int) ∧ ns[j]? = some x ∧ shOf ns z = x.sh ∧ 0 < sizeI x.sh := by
  obtain ⟨j, x, e, hx, hk, hsh⟩ := wt_node h
  exact ⟨j, x, e, hx, hsh, wt_pos hG hx hk⟩

theorem szW_append (ns : List Nd) : ∀ (a b : List Int), szW ns (a ++ b) = szW ns a + szW ns b
  | [], b => by rw [List.nil_append, szW, Nat.zero_add]
  | i :: a, b => by rw [List.cons_append, szW, szW, szW_append ns a b, Nat.add_assoc]

theorem szW_take {ns : List Nd} {is : List Int} {k : Nat} {z : Int} (h : is[k]? = some z) : szW ns (is.take (k + 1)) = szW ns (is.take k) + (sizeI (shOf ns z)).toNat := by
  obtain ⟨h1, h2⟩ := List.getElem?_eq_some_iff.1 h
  rw [List.take_succ_eq_append_getElem h1, h2, szW_append, szW, szW, Nat.add_zero]

theorem szW_le (ns : List Nd) : ∀ is : List Int, szW ns is ≤ 4096 * is.length
  | [] => Nat.le_refl _
  | i :: is => by
    have h1 := szW_le ns is
    have h2 := sizeI_le (shOf ns i)
    rw [szW, List.length_cons]
    omega

set_option maxHeartbeats 8000000 in
theorem numbersOf11_any (A : Option Addr) (n c : Nat) (ns : List Nd) (w : World) (h : NsIn w A n ns) (hG : gphB ns = true) :
    Calls Tryz.prog 35 #[.agg #[.slice A n c]] w fun e w' => e = .returned (.int .i64 ((szW ns (wtF 0 ns) : Nat) : Int)) ∧ Below w.heap.size w w' := by
  obtain ⟨W0, hW0⟩ : ∃ W0, W0 = w.alloc (.cells #[.slice A n c] 24) := ⟨_, rfl⟩
  have HB0 : Hid (Below w.heap.size w W0) := hide (by rw [hW0]; exact below_al6 (Below.refl _ _))
  have HX : Hid (W0.heap[w.heap.size]? = some (.cells #[.slice A n c] 24 (0, 0))) := hide (by rw [hW0]; exact heap_alloc_new w _)
  have hX := fun {v : World} (hb : Below W0.heap.size W0 v) => cell_of_row _ _ 0 _ _ (0, 0) ((hb.block _ (lt_of_heap HX.out)).trans HX.out)
  have hn32 : n ≤ 32 := by have := gphB_n11 hG; have := h.1; omega
  have HN := hide (h.below HB0.out)
  have HL : Hid (ns.length = n) := hide h.1
  have HG := hide hG
  have HC := hide (weights_any A n c ns W0 HN.out (by omega))
  have c0 : W0.cell? ⟨w.heap.size, 0, none⟩ = some (.slice A n c) := cell_of_row _ _ 0 _ _ (0, 0) HX.out
  have HKX : Hid (∀ v : World, Below W0.heap.size W0 v → v.cell? ⟨w.heap.size, 0, none⟩ = some (.slice A n c)) := hide (fun v hb => cell_of_row _ _ 0 _ _ (0, 0) ((hb.block _ (lt_of_heap HX.out)).trans HX.out))
  have hW0' := hW0.symm
  clear hW0 h hX hG HX
  go_enter Tryz.func35, Tryz.ntmps35
  go_wp2_with fail
  refine Calls.mono HC.out ?_
  rintro e w1 ⟨A1, k1, ca, rfl, ho1, hb⟩
  have HLW := hide (lies_of_own ho1)
  have HKW : Hid ((wtF 0 ns).length = k1) := hide (lies_len9 (lies_of_own ho1))
  have HB1 := hide hb
  clear ho1 hb HC c0
  have hk1 : k1 ≤ 32 := by have := wtF_len11 ns 0; rw [HKW.out, HL.out] at this; omega
  go_wp2
  go_loopw [3, 9] (fun v i wr => ∃ k : Nat, k ≤ k1 ∧ i = .int .i64 k ∧ v = .int .i64 ((szW ns ((wtF 0 ns).take k) : Nat) : Int) ∧ Hid (Below w1.heap.size w1 wr)) (fun _ i _ => k1 - (intOf i).toNat)
  case atStart => exact ⟨0, Nat.zero_le _, rfl, rfl, hide (Below.refl _ _)⟩
  case round =>
    obtain ⟨k, hk, rfl, rfl, HB⟩ := hrel
    by_cases hlt : k < k1
    · have HBR := hide (below_nx6 HB1.out HB.out)
      obtain ⟨z, hz⟩ : ∃ z, (wtF 0 ns)[k]? = some z := ⟨(wtF 0 ns)[k]'(by rw [HKW.out]; exact hlt), List.getElem?_eq_getElem _⟩
      obtain ⟨u, x, rfl, hxu, hsh, hps⟩ := wtF_two HG.out hz
      have hun : u < n := by rw [← HL.out]; exact (List.getElem?_eq_some_iff.1 hxu).1
      obtain ⟨bA, oA, x2, eA, hx2, _, _, h2, _, _, hxo⟩ := (HN.out.below HBR.out).at hun
      rw [hxu] at hx2
      cases hx2
      obtain ⟨bW, oW, eW, _, hxW⟩ := byte_at (HLW.out.below HB.out) (by omega)
      have hcw := hxW k hlt
      have hgd : (wtF 0 ns).getD k 0 = (u : Int) := by rw [List.getD, hz]; rfl
      rw [hgd] at hcw
      have hg := HKX.out _ HBR.out
      have i0 : (0 : Int) ≤ (k : Int) := by omega
      have i2 : (k : Int) < (k1 : Int) := by omega
      have u0 : (0 : Int) ≤ (u : Int) := by omega
      have u1 : (u : Int) < (n : Int) := by omega
      have HST := hide (szW_take (ns := ns) hz)
      have hle := szW_le ns ((wtF 0 ns).take k)
      have hle2 := sizeI_le x.sh
      obtain ⟨sz, hsz⟩ : ∃ sz : Nat, sizeI x.sh = (sz : Int) := ⟨(sizeI x.sh).toNat, by omega⟩
      obtain ⟨ac, hac⟩ : ∃ ac, ac = szW ns ((wtF 0 ns).take k) := ⟨_, rfl⟩
      rw [List.length_take, HKW.out, ← hac] at hle
      rw [Nat.min_eq_left (by omega)] at hle
      rw [hsz] at hle2
      have hac2 : ac ≤ 131072 := by omega
      have hsz2 : sz ≤ 4096 := by omega
      have hs := hsh ▸ HST.out
      rw [← hac, hsz, Int.toNat_natCast] at hs
      have HS := hide hs
      have hcall := size_any x.S x.ns x.cs x.sh wr hxo.2.1 (by have := hxo.2.2; omega)
      rw [hsz] at hcall
      have HCL := hide hcall
      rw [← hac]
      subst eA eW
      clear hz hxu hsh hps hxW hgd HST hsz hac hs hcall hxo
      go_wp2_with fail
      refine Calls.mono HCL.out ?_
      rintro e w3 ⟨rfl, hb3⟩
      have HB3 := hide (below_nx6 HB.out hb3)
      clear hb3 HCL h2 hcw hg
      go_wp2
      go_roundw
      case rel => exact ⟨k + 1, by omega, by go_num, by rw [HS.out]; go_num, HB3⟩
      case measure => simp [intOf] <;> omega
    · obtain rfl : k = k1 := by omega
      rw [List.take_of_length_le (by rw [HKW.out]; exact Nat.le_refl _)]
      go_wp2
      go_ret
      exact ⟨rfl, below_nx6 (below_nx6 HB0.out HB1.out) HB.out⟩

end

section
open Go.RowKit
set_option linter.unusedVariables false
set_option linter.unusedSimpArgs false
set_option maxRecDepth 100000

def Wt.two (t : Wt) : List Value := [.slice t.A t.n t.c, .slice t.B t.m t.d]

def cellsW (ts : List Wt) : List Value := ts.flatMap Wt.two

theorem cellsW_cons (t : Wt) (r : List Wt) : cellsW (t :: r) = .slice t.A t.n t.c :: .slice t.B t.m t.d :: cellsW r := by simp [cellsW, Wt.two]

theorem cellsW_append (a b : List Wt) : cellsW (a ++ b) = cellsW a ++ cellsW b := by simp [cellsW, List.flatMap_append]

theorem cellsW_at : ∀ (ts : List Wt) (j : Nat) (t : Wt), ts[j]? = some t → (cellsW ts)[j * 2]? = some (.slice t.A t.n t.c) ∧ (cellsW ts)[j * 2 + 1]? = some (.slice t.B t.m t.d)
  | [], j, t, h => by simp at h
  | y :: r, 0, t, h => by
    obtain rfl : y = t := by simpa using h
    rw [cellsW_cons]
    exact ⟨rfl, rfl⟩
  | y :: r, j + 1, t, h => by
    have ih := cellsW_at r j t (by simpa using h)
    rw [cellsW_cons, show (j + 1) * 2 = j * 2 + 1 + 1 by omega]
    simpa using ih

theorem own_typ11 {w : World} {B e s n g : Nat} {v : Value} {xs : List Value} (h : w.ownsRow B e s v n xs) (hv : v.ownBlock = some g) : ∃ cur, w.heap[g]? = some (.cells cur e (0, 0)) := by
  rcases h.2 with ⟨rfl, _⟩ | ⟨g', cap, cur, rfl, _, hg, _⟩
  · simp [Value.ownBlock] at hv
  · simp [Value.ownBlock] at hv
    subst hv
    exact ⟨cur, hg⟩

/-- A weight's memory is the call's own. -/
def OwnW (w : World) (B : Nat) (t : Wt) : Prop := w.ownsRow B 3 1 (.slice t.A t.n t.c) t.n (t.s.map (Value.int .i64)) ∧ w.ownsRow B 21 1 (.slice t.B t.m t.d) t.m (t.l.map (Value.int .i32)) ∧ (t.n ≤ t.c ∧ t.m ≤ t.d) ∧ (t.n ≤ 70368744177664 ∧ t.m ≤ 70368744177664) ∧ Words t.l

theorem OwnW.ok {w : World} {B : Nat} {t : Wt} (h : OwnW w B t) : t.Ok w := ⟨⟨lies_of_own h.1, lies_of_own h.2.1⟩, h.2.2⟩

theorem OwnW.below {w w' : World} {B : Nat} {t : Wt} (h : OwnW w B t) (hb : Below w.heap.size w w') : OwnW w' B t := ⟨own_below h.1 hb, own_below h.2.1 hb, h.2.2⟩

theorem OwnW.base {w : World} {B B' : Nat} {t : Wt} (h : OwnW w B t) (hb : B' ≤ B) : OwnW w B' t := ⟨own_base h.1 hb, own_base h.2.1 hb, h.2.2⟩

theorem OwnW.kept {w w' : World} {B : Nat} {t : Wt} {row : Option Nat} (h : OwnW w B t) (hg : w.grownBy w' row) (hr : ∀ g, row = some g → (Value.slice t.A t.n t.c).ownBlock ≠ some g ∧ (Value.slice t.B t.m t.d).ownBlock ≠ some g) : OwnW w' B t := by
  refine ⟨h.1.kept hg ?_, h.2.1.kept hg ?_, h.2.2⟩
  · cases hv : (Value.slice t.A t.n t.c).ownBlock with
    | none => exact .inl rfl
    | some g => exact .inr fun e => (hr g e.symm).1 hv
  · cases hv : (Value.slice t.B t.m t.d).ownBlock with
    | none => exact .inl rfl
    | some g => exact .inr fun e => (hr g e.symm).2 hv

/-- Weights that are gathered in a row of their own. -/
structure WsG (B : Nat) (w : World) (A : Option Addr) (c : Nat) (ts : List Wt) : Prop where
  big : B ≤ w.heap.size
  ro : w.ownsRow B 40 2 (.slice A ts.length c) ts.length (cellsW ts)
  ow : ∀ t ∈ ts, OwnW w B t

theorem WsG.below {B : Nat} {w w' : World} {A : Option Addr} {c : Nat} {ts : List Wt} (h : WsG B w A c ts) (hb : Below w.heap.size w w') : WsG B w' A c ts :=
  ⟨Nat.le_trans h.big hb.size, own_keep10 h.ro hb, fun t ht => (h.ow t ht).below hb⟩

theorem WsG.push {B : Nat} {w w' : World} {A A' : Option Addr} {c c' : Nat} {ts : List Wt} {t : Wt} (h : WsG B w A c ts) (ht : OwnW w B t)
    (ho : w'.ownsRow B 40 2 (.slice A' (ts.length + 1) c') (ts.length + 1) (cellsW ts ++ t.two)) (hg : w.grownBy w' (Value.slice A ts.length c).ownBlock) : WsG B w' A' c' (ts ++ [t]) := by
  have hne : ∀ g, (Value.slice A ts.length c).ownBlock = some g → B ≤ g := fun g e => (h.ro.lt g e).1
  have htyp : ∀ y : Wt, OwnW w B y → ∀ g, (Value.slice A ts.length c).ownBlock = some g → (Value.slice y.A y.n y.c).ownBlock ≠ some g ∧ (Value.slice y.B y.m y.d).ownBlock ≠ some g := by
    intro y hy g hgg
    obtain ⟨c1, e1⟩ := own_typ11 h.ro hgg
    constructor
    · intro hby
      obtain ⟨c2, e2⟩ := own_typ11 hy.1 hby
      rw [e1] at e2
      injection e2 with e2
      injection e2 with _ e2
      exact absurd e2 (by decide)
    · intro hby
      obtain ⟨c2, e2⟩ := own_typ11 hy.2.1 hby
      rw [e1] at e2
      injection e2 with e2
      injection e2 with _ e2
      exact absurd e2 (by decide)
  have hlen : (ts ++ [t]).length = ts.length + 1 := by simp
  refine ⟨Nat.le_trans h.big ((Below.refl B w).grown hg h.big hne).size, ?_, ?_⟩
  · rw [hlen, cellsW_append, show cellsW [t] = t.two by simp [cellsW]]
    exact ho
  · intro y hy
    rcases List.mem_append.1 hy with hy | hy
    · exact (h.ow y hy).kept hg (htyp y (h.ow y hy))
    · obtain rfl : y = t := by simpa using hy
      exact ht.kept hg (htyp y ht)

theorem WsG.base {B B' : Nat} {w : World} {A : Option Addr} {c : Nat} {ts : List Wt} (h : WsG B w A c ts) (hb : B' ≤ B) : WsG B' w A c ts := by
  refine ⟨Nat.le_trans hb h.big, ⟨h.ro.1, ?_⟩, fun t ht => (h.ow t ht).base hb⟩
  rcases h.ro.2 with h1 | ⟨g, cap, cur, h1, h2, r⟩
  · exact .inl h1
  · exact .inr ⟨g, cap, cur, h1, Nat.le_trans hb h2, r⟩

theorem WsG.wsIn {B : Nat} {w : World} {A : Option Addr} {c : Nat} {ts : List Wt} (h : WsG B w A c ts) : WsIn w A ts.length ts := by
  refine ⟨rfl, fun hn => ?_⟩
  obtain ⟨g, hA, _, hlt, hcs⟩ := ownN_cells h.ro hn
  refine ⟨g, 0, hA, hlt, fun j t hj => ?_⟩
  obtain ⟨a0, a1⟩ := cellsW_at ts j t hj
  simp only [Nat.zero_add]
  exact ⟨hcs _ _ a0, hcs _ _ a1, (h.ow t (List.mem_of_getElem? hj)).ok⟩

theorem infoT11 : (Tryz.prog.info? 40).map (fun i => (i.zero, i.size, i.bytes)) = some (some (.agg #[.slice none 0 0, .slice none 0 0]), 2, 48) := by kernel_rfl

theorem wsFit_snoc {ns : List Nd} : ∀ {is : List Int} {ts : List Wt} {i : Int} {t : Wt}, wsFit ns is ts = true → tenOk t.s t.m = true → t.s = shOf ns i → wsFit ns (is ++ [i]) (ts ++ [t]) = true
  | [], [], i, t, _, h1, h2 => by
    rw [List.nil_append, List.nil_append, wsFit, wsFit, h1, h2]
    simp
  | [], _ :: _, i, t, h, _, _ => by simp [wsFit] at h
  | _ :: _, [], i, t, h, _, _ => by simp [wsFit] at h
  | j :: is, u :: ts, i, t, h, h1, h2 => by
    rw [List.cons_append, List.cons_append, wsFit]
    rw [wsFit] at h
    simp only [Bool.and_eq_true] at h ⊢
    exact ⟨h.1, wsFit_snoc h.2 h1 h2⟩

theorem take_four {zs : List Int} {a q : Nat} (h : 4 * (a + q) ≤ zs.length) (hb : Bytes zs) : zs.take (4 * (a + q)) = zs.take (4 * a) ++ enc (dec (zs.drop (4 * a)) q) := by
  rw [← dec_take, enc_dec q _ (fun x hx => hb x (List.mem_of_mem_drop (List.mem_of_mem_take hx))) (by rw [List.length_take, List.length_drop]; omega), show 4 * (a + q) = 4 * a + 4 * q by omega, List.take_add]

theorem dec_words (bs : List Int) (q : Nat) : Words (dec bs q) := by
  intro x hx
  obtain ⟨j, _, rfl⟩ := List.mem_map.1 hx
  unfold wd
  rw [signed_eq]
  omega

end

section
open Go.RowKit

theorem step_even {r : Nat} (h : r % 2 = 0) : step r = r / 2 := by unfold step; rw [if_neg (by omega)]

theorem step_odd {r : Nat} (h : r % 2 = 1) : step r = (r / 2) ^^^ 3988292384 := by unfold step; rw [if_pos h]

theorem and_one {x : Nat} (h : x < 4294967296) : bits .and .u32 (x : Int) 1 = ((x % 2 : Nat) : Int) := by
  rw [show (1 : Int) = ((1 : Nat) : Int) from rfl, u32_and_nat x 1 h (by omega), nat_mask1]

theorem and_fifteen {x : Nat} (h : x < 4294967296) : bits .and .u32 (x : Int) 15 = ((x % 16 : Nat) : Int) := by
  rw [show (15 : Int) = ((15 : Nat) : Int) from rfl, u32_and_nat x 15 h (by omega), nat_mask4]

theorem xor_half {x : Nat} (h : x < 4294967296) : bits .xor .u32 ((x : Int) / 2) 3988292384 = ((x / 2 ^^^ 3988292384 : Nat) : Int) := by
  have := u32_xor_nat (x / 2) 3988292384 (by omega) (by omega)
  simpa using this

set_option maxHeartbeats 400000 in
theorem shift_any (r : Nat) (h1 : r < 4294967296) (w : World) : Calls Tryz.prog 118 #[.int .u32 (r : Int)] w fun e w' => e = .returned (.int .u32 ((steps 4 r : Nat) : Int)) ∧ w = w' := by
  go_enter Tryz.func118, Tryz.ntmps118
  go_wp2
  go_loop [0, 4] (fun v i => ∃ k : Nat, k ≤ 4 ∧ i = .int .i64 k ∧ v = .int .u32 ((steps k r : Nat) : Int)) (fun _ i => 4 - (intOf i).toNat)
  case atStart => exact ⟨0, Nat.zero_le _, rfl, rfl⟩
  case round =>
    obtain ⟨k, hk, rfl, rfl⟩ := hrel
    have hlt4 := steps_lt k h1
    obtain ⟨x, hx⟩ : ∃ x, x = steps k r := ⟨_, rfl⟩
    have hsn := steps_succ k r
    rw [← hx] at hlt4 hsn ⊢
    have HSN := hide hsn
    have HX := hide hx
    clear hx hsn
    by_cases hlt : k < 4
    · rcases Nat.mod_two_eq_zero_or_one x with hm | hm
      · have hand : bits .and .u32 (x : Int) 1 = 0 := by rw [and_one hlt4, hm]; rfl
        have HE := hide (step_even hm)
        clear hm
        go_wp2
        go_round
        case rel => exact ⟨k + 1, by omega, by go_num, by rw [HSN.out, HE.out]; simp⟩
        case measure => simp [intOf]; omega
      · have hand : bits .and .u32 (x : Int) 1 = 1 := by rw [and_one hlt4, hm]; rfl
        have HE := hide (step_odd hm)
        have HXO := hide (xor_half hlt4)
        clear hm
        go_wp2
        go_round
        case rel => exact ⟨k + 1, by omega, by go_num, by rw [HSN.out, HE.out, HXO.out]⟩
        case measure => simp [intOf]; omega
    · obtain rfl : k = 4 := by omega
      go_wp2
      go_ret
      exact ⟨by rw [HX.out]; rfl, rfl⟩

/-- The table, its first k words filled. -/
def tabL (k : Nat) : List Value := (List.range 16).map fun j => .int .u32 (((if j < k then steps 4 j else 0) : Nat) : Int)

def tabA (k : Nat) : Array Value := (tabL k).toArray

theorem tab_size (k : Nat) : (tabA k).size = 16 := by simp [tabA, tabL]

theorem tab_at (k j : Nat) (h : j < 16) : (tabA k)[j]? = some (.int .u32 (((if j < k then steps 4 j else 0) : Nat) : Int)) := by simp [tabA, tabL, h]

theorem tab_set (k : Nat) (_h : k < 16) : (tabA k).setIfInBounds k (.int .u32 ((steps 4 k : Nat) : Int)) = tabA (k + 1) := by
  apply Array.ext_getElem?
  intro j
  rw [Array.getElem?_setIfInBounds]
  by_cases hj : j < 16
  · rw [tab_at (k + 1) j hj]
    by_cases e : k = j
    · subst e
      rw [if_pos rfl, if_pos (by rw [tab_size]; exact hj), if_pos (by omega)]
    · rw [if_neg e, tab_at k j hj]
      by_cases hjk : j < k
      · rw [if_pos hjk, if_pos (by omega)]
      · rw [if_neg hjk, if_neg (by omega)]
  · have h1 : (tabA (k + 1))[j]? = none := by rw [Array.getElem?_eq_none_iff, tab_size]; omega
    have h2 : (tabA k)[j]? = none := by rw [Array.getElem?_eq_none_iff, tab_size]; omega
    rw [if_neg (by omega), h1, h2]

theorem tab_zero : tabA 0 = #[.int .u32 0, .int .u32 0, .int .u32 0, .int .u32 0, .int .u32 0, .int .u32 0, .int .u32 0, .int .u32 0, .int .u32 0, .int .u32 0, .int .u32 0, .int .u32 0, .int .u32 0, .int .u32 0, .int .u32 0, .int .u32 0] := by rfl

/-- The whole table, written out. -/
def tabF : Array Value := #[.int .u32 0, .int .u32 498536548, .int .u32 997073096, .int .u32 651767980, .int .u32 1994146192, .int .u32 1802195444, .int .u32 1303535960, .int .u32 1342533948, .int .u32 3988292384, .int .u32 4027552580, .int .u32 3604390888, .int .u32 3412177804, .int .u32 2607071920, .int .u32 2262029012, .int .u32 2685067896, .int .u32 3183342108]

theorem tab_full : tabA 16 = #[.int .u32 0, .int .u32 498536548, .int .u32 997073096, .int .u32 651767980, .int .u32 1994146192, .int .u32 1802195444, .int .u32 1303535960, .int .u32 1342533948, .int .u32 3988292384, .int .u32 4027552580, .int .u32 3604390888, .int .u32 3412177804, .int .u32 2607071920, .int .u32 2262029012, .int .u32 2685067896, .int .u32 3183342108] := by rfl

theorem tab_word (j : Nat) (h : j < 16) : tabF[j]? = some (.int .u32 ((steps 4 j : Nat) : Int)) := by
  have := tab_at 16 j h
  rw [if_pos h, tab_full] at this
  exact this

set_option maxRecDepth 100000 in
set_option maxHeartbeats 2000000 in
theorem table_any (w : World) : Calls Tryz.prog 83 #[] w fun e w' => e = .returned (.agg tabF) ∧ Below w.heap.size w w' := by
  go_enter Tryz.func83, Tryz.ntmps83
  go_wp2
  go_loopw [3] (fun i wr => ∃ k : Nat, k ≤ 16 ∧ i = .int .i64 k ∧ wr = (w.alloc (.cells (tabA 0) 151)).alloc (.cells (tabA k) 151)) (fun i _ => 16 - (intOf i).toNat)
  case atStart => exact ⟨0, by omega, rfl, by rw [tab_zero]⟩
  case round =>
    obtain ⟨k, hk, rfl, rfl⟩ := hrel
    by_cases hlt : k < 16
    · have hsz := tab_size k
      have HT := hide (tab_set k hlt)
      have hat := tab_at k k hlt
      rw [if_neg (by omega)] at hat
      go_wp2_with fail
      have h0 : (0 : Int) ≤ (k : Int) := by omega
      have h3 : (k : Int) < 16 := by omega
      refine Calls.mono (shift_any k (by omega) _) ?_
      rintro e w4 ⟨rfl, rfl⟩
      go_wp2
      go_roundw
      case rel => exact ⟨k + 1, by omega, by go_num, by rw [HT.out]⟩
      case measure => simp [intOf]; omega
    · obtain rfl : k = 16 := by omega
      rw [tab_zero, tab_full]
      go_wp2
      exact bodyPost_ret (v := .agg tabF) (by simp [results, Tryz.results83, go_sem, tabF]) rfl ⟨rfl, ((Below.refl _ _).alloc (Nat.le_refl _) _).alloc (by simp) _⟩

end

end Go.Proofs.YtohndckbhjakfaaGreatDoor
