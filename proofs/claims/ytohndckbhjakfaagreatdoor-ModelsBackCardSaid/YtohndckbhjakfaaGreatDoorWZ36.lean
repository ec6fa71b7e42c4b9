/- Merged: Sg11, Tx16, Mo13, Mo14. -/
import Derived.Test.YtohndckbhjakfaaGreatDoorWZ29
import Derived.Test.YtohndckbhjakfaaGreatDoorWZ26
import Derived.Test.YtohndckbhjakfaaGreatDoorWZ32
import Derived.Test.YtohndckbhjakfaaGreatDoorWZ35
import Derived.Test.YtohndckbhjakfaaGreatDoorWZ04
import Derived.Test.YtohndckbhjakfaaGreatDoorWZ34
namespace Go.Proofs.YtohndckbhjakfaaGreatDoor

section
open Go.RowKit
set_option linter.unusedVariables false
set_option linter.unusedSimpArgs false
set_option maxRecDepth 100000

theorem cell_onS {w w' : World} {a : Addr} {v : Value} (h : w.cell? a = some v) (hb : Below w.heap.size w w') : w'.cell? a = some v := (hb.cell (World.block_lt_of_cell? _ _ h)).trans h

theorem tn_same {x y : Nd} (h : x.tn = y.tn) (hx : 0 ≤ x.kd) (hy : 0 ≤ y.kd) : y.kd = x.kd ∧ y.xs = x.xs ∧ y.sh = x.sh ∧ y.N = x.N ∧ y.P = x.P := by
  unfold Nd.tn at h
  injection h with h1 h2 h3 h4 h5
  exact ⟨by omega, h2.symm, h3.symm, h4.symm, h5.symm⟩

set_option maxHeartbeats 2000000 in
theorem sameNode_true (x y : Nd) (w : World) (hx : x.Ok w) (hy : y.Ok w) (h : x.tn = y.tn) : Calls Tryz.prog 72 #[x.v, y.v] w fun e w' => e = .returned (.bool true) ∧ Below w.heap.size w w' := by
  obtain ⟨e1, e2, e3, e4, e5⟩ := tn_same h hx.2.2.2.2.2.2.1.1 hy.2.2.2.2.2.2.1.1
  obtain ⟨W0, hW0⟩ : ∃ W0, W0 = w.alloc (.cells #[.int .u8 x.kd, .slice x.I x.ni x.ci, .slice x.S x.ns x.cs, .int .i64 x.N, .int .i64 x.P] 44) := ⟨_, rfl⟩
  obtain ⟨W1, hW1⟩ : ∃ W1, W1 = W0.alloc (.cells #[.int .u8 y.kd, .slice y.I y.ni y.ci, .slice y.S y.ns y.cs, .int .i64 y.N, .int .i64 y.P] 44) := ⟨_, rfl⟩
  have hB0 : Below w.heap.size w W0 := by rw [hW0]; exact below_al6 (Below.refl _ _)
  have hB01 : Below W0.heap.size W0 W1 := by rw [hW1]; exact below_al6 (Below.refl _ _)
  have hs0 : W0.heap.size = w.heap.size + 1 := by rw [hW0]; exact Array.size_push _
  have HB : Hid (Below w.heap.size w W1) := hide (hB0.trans (hB01.mono hB0.size))
  have b0 : W0.heap[w.heap.size]? = some (.cells #[.int .u8 x.kd, .slice x.I x.ni x.ci, .slice x.S x.ns x.cs, .int .i64 x.N, .int .i64 x.P] 44 (0, 0)) := by rw [hW0]; exact heap_alloc_new w _
  have b1 : W1.heap[w.heap.size]? = some (.cells #[.int .u8 x.kd, .slice x.I x.ni x.ci, .slice x.S x.ns x.cs, .int .i64 x.N, .int .i64 x.P] 44 (0, 0)) := (hB01.block _ (by omega)).trans b0
  have b2 : W1.heap[W0.heap.size]? = some (.cells #[.int .u8 y.kd, .slice y.I y.ni y.ci, .slice y.S y.ns y.cs, .int .i64 y.N, .int .i64 y.P] 44 (0, 0)) := by rw [hW1]; exact heap_alloc_new W0 _
  rw [hs0] at b2
  have HC : Hid (∀ v, Below W1.heap.size W1 v → v.heap[w.heap.size]? = some (.cells #[.int .u8 x.kd, .slice x.I x.ni x.ci, .slice x.S x.ns x.cs, .int .i64 x.N, .int .i64 x.P] 44 (0, 0)) ∧ v.heap[w.heap.size + 1]? = some (.cells #[.int .u8 y.kd, .slice y.I y.ni y.ci, .slice y.S y.ns y.cs, .int .i64 y.N, .int .i64 y.P] 44 (0, 0))) := hide (fun v hv => ⟨(hv.block _ (lt_of_heap b1)).trans b1, (hv.block _ (lt_of_heap b2)).trans b2⟩)
  have HX := hide hx
  have HY := hide hy
  have q0 := cell_of_row W1 _ 0 _ _ (0, 0) b1
  have q1 := cell_of_row W1 _ 1 _ _ (0, 0) b1
  have r0 := cell_of_row W1 _ 0 _ _ (0, 0) b2
  have r1 := cell_of_row W1 _ 1 _ _ (0, 0) b2
  have HE2 := hide e2
  have HE3 := hide e3
  simp only [e1, e4, e5] at q0 q1 r0 r1 b1 b2 HC hW1
  have hW0' := hW0.symm
  have hW1' := hW1.symm
  unfold Nd.v
  rw [e1, e4, e5]
  clear hW0 hW1 b0 b1 b2 hB0 hB01 h e1 e2 e3 e4 e5 hx hy
  go_enter Tryz.func72, Tryz.ntmps72
  go_wp2_with fail
  refine Calls.mono (sameI_any x.I y.I x.ni x.ci y.ni y.ci x.xs y.xs _ (HX.out.1.below HB.out) (HY.out.1.below HB.out) (by have := HX.out.2.2.2.2.1; omega)) ?_
  rintro e w1 ⟨rfl, hb⟩
  rw [HE2.out, decide_eq_true rfl]
  obtain ⟨b1, b2⟩ := HC.out _ hb
  have q2 := cell_of_row w1 _ 2 _ _ (0, 0) b1
  have q3 := cell_of_row w1 _ 3 _ _ (0, 0) b1
  have q4 := cell_of_row w1 _ 4 _ _ (0, 0) b1
  have r2 := cell_of_row w1 _ 2 _ _ (0, 0) b2
  have HB1 : Hid (Below w.heap.size w w1) := hide (HB.out.trans (hb.mono HB.out.size))
  have HB2 := hide hb
  clear q0 q1 r0 r1 b1 b2 hb
  go_wp2_with fail
  refine Calls.mono (sameI_any x.S y.S x.ns x.cs y.ns y.cs x.sh y.sh _ (HX.out.2.1.below HB1.out) (HY.out.2.1.below HB1.out) (by have := HX.out.2.2.2.2.2.1; omega)) ?_
  rintro e w2 ⟨rfl, hb⟩
  rw [HE3.out, decide_eq_true rfl]
  have hb2 := HB2.out.trans (hb.mono HB2.out.size)
  obtain ⟨b1, b2⟩ := HC.out _ hb2
  have q5 := cell_of_row w2 _ 3 _ _ (0, 0) b1
  have q6 := cell_of_row w2 _ 4 _ _ (0, 0) b1
  have r5 := cell_of_row w2 _ 3 _ _ (0, 0) b2
  have r6 := cell_of_row w2 _ 4 _ _ (0, 0) b2
  have HB3 : Hid (Below w.heap.size w w2) := hide (HB1.out.trans (hb.mono HB1.out.size))
  clear q2 q3 q4 r2 b1 b2 hb hb2
  go_wp2
  go_ret
  exact ⟨rfl, HB3.out⟩

set_option maxHeartbeats 4000000 in
theorem sameNodes_true (A B : Option Addr) (n c d : Nat) (ns ms : List Nd) (w : World) (hA : NsIn w A n ns) (hB : NsIn w B n ms) (hn : n ≤ 1073741824) (hs : ns.map Nd.tn = ms.map Nd.tn) :
    Calls Tryz.prog 42 #[.slice A n c, .slice B n d] w fun e w' => e = .returned (.bool true) ∧ Below w.heap.size w w' := by
  have HA := hide hA
  have HB := hide hB
  have HS := hide hs
  clear hA hB hs
  go_enter Tryz.func42, Tryz.ntmps42
  have e0 : ((n : Int) == (n : Int)) = true := by simp
  go_wp2
  go_loopw [5] (fun i wr => ∃ k : Nat, k ≤ n ∧ i = .int .i64 k ∧ Hid (Below w.heap.size w wr)) (fun i _ => n - (intOf i).toNat)
  case atStart => exact ⟨0, Nat.zero_le _, rfl, hide (Below.refl _ _)⟩
  case round =>
    obtain ⟨k, hk, rfl, HBR⟩ := hrel
    by_cases hlt : k < n
    · obtain ⟨bA, oA, g, rfl, hg, a0, a1, a2, a3, a4, hgo⟩ := (HA.out.below HBR.out).at hlt
      obtain ⟨bB, oB, q, rfl, hq, b0, b1, b2, b3, b4, hqo⟩ := (HB.out.below HBR.out).at hlt
      have HT : Hid (g.tn = q.tn) := hide (by
        have h1 := congrArg (·[k]?) HS.out
        simp only [List.getElem?_map, hg, hq, Option.map_some, Option.some.injEq] at h1
        exact h1)
      have HCG : Hid (∀ v, Below wr.heap.size wr v → v.cell? ⟨bA, oA + k * 5, none⟩ = some (.int .u8 g.kd) ∧ v.cell? ⟨bA, oA + k * 5 + 1, none⟩ = some (.slice g.I g.ni g.ci) ∧ v.cell? ⟨bA, oA + k * 5 + 2, none⟩ = some (.slice g.S g.ns g.cs) ∧ v.cell? ⟨bA, oA + k * 5 + 3, none⟩ = some (.int .i64 g.N) ∧ v.cell? ⟨bA, oA + k * 5 + 4, none⟩ = some (.int .i64 g.P) ∧ v.cell? ⟨bB, oB + k * 5, none⟩ = some (.int .u8 q.kd) ∧ v.cell? ⟨bB, oB + k * 5 + 1, none⟩ = some (.slice q.I q.ni q.ci) ∧ v.cell? ⟨bB, oB + k * 5 + 2, none⟩ = some (.slice q.S q.ns q.cs) ∧ v.cell? ⟨bB, oB + k * 5 + 3, none⟩ = some (.int .i64 q.N) ∧ v.cell? ⟨bB, oB + k * 5 + 4, none⟩ = some (.int .i64 q.P)) := hide (fun v hv => ⟨cell_onS a0 hv, cell_onS a1 hv, cell_onS a2 hv, cell_onS a3 hv, cell_onS a4 hv, cell_onS b0 hv, cell_onS b1 hv, cell_onS b2 hv, cell_onS b3 hv, cell_onS b4 hv⟩)
      have HG := hide hgo
      have HQ := hide hqo
      have j00 : (0 : Int) ≤ (k : Int) := by omega
      have j10 : (k : Int) < (n : Int) := by omega
      have hd0 : Below wr.heap.size wr wr.drew := below_drewN (Below.refl _ _) 1
      clear a0 a1 a2 a3 a4 b0 b1 b2 b3 b4 hgo hqo hg hq
      go_wp2
      have hS0 : Hid (wr.drew.cell? ⟨bA, oA + k * 5, none⟩ = some (.int .u8 g.kd) ∧ wr.drew.cell? ⟨bA, oA + k * 5 + 1, none⟩ = some (.slice g.I g.ni g.ci) ∧ wr.drew.cell? ⟨bA, oA + k * 5 + 2, none⟩ = some (.slice g.S g.ns g.cs) ∧ wr.drew.cell? ⟨bA, oA + k * 5 + 3, none⟩ = some (.int .i64 g.N) ∧ wr.drew.cell? ⟨bA, oA + k * 5 + 4, none⟩ = some (.int .i64 g.P) ∧ wr.drew.cell? ⟨bB, oB + k * 5, none⟩ = some (.int .u8 q.kd) ∧ wr.drew.cell? ⟨bB, oB + k * 5 + 1, none⟩ = some (.slice q.I q.ni q.ci) ∧ wr.drew.cell? ⟨bB, oB + k * 5 + 2, none⟩ = some (.slice q.S q.ns q.cs) ∧ wr.drew.cell? ⟨bB, oB + k * 5 + 3, none⟩ = some (.int .i64 q.N) ∧ wr.drew.cell? ⟨bB, oB + k * 5 + 4, none⟩ = some (.int .i64 q.P)) := hide (HCG.out _ hd0)
      refine wp_region_U (fun _ v => v.cell? ⟨bA, oA + k * 5, none⟩ = some (.int .u8 g.kd) ∧ v.cell? ⟨bA, oA + k * 5 + 1, none⟩ = some (.slice g.I g.ni g.ci) ∧ v.cell? ⟨bA, oA + k * 5 + 2, none⟩ = some (.slice g.S g.ns g.cs) ∧ v.cell? ⟨bA, oA + k * 5 + 3, none⟩ = some (.int .i64 g.N) ∧ v.cell? ⟨bA, oA + k * 5 + 4, none⟩ = some (.int .i64 g.P) ∧ v.cell? ⟨bB, oB + k * 5, none⟩ = some (.int .u8 q.kd) ∧ v.cell? ⟨bB, oB + k * 5 + 1, none⟩ = some (.slice q.I q.ni q.ci) ∧ v.cell? ⟨bB, oB + k * 5 + 2, none⟩ = some (.slice q.S q.ns q.cs) ∧ v.cell? ⟨bB, oB + k * 5 + 3, none⟩ = some (.int .i64 q.N) ∧ v.cell? ⟨bB, oB + k * 5 + 4, none⟩ = some (.int .i64 q.P)) 99 (by kernel_rfl) ?_
      refine wpAnyU_take (i := 0) (oi := { dst := some 17, op := _, type := _, pos := _, after := _, guard := none }) (v := .slice (some ⟨bA, oA, none⟩) n c) rfl (by kernel_rfl) (by kernel_rfl) (by kernel_rfl) (by kernel_rfl) (fun _ _ _ h => h) (yields_take rfl (fun w' hw => by obtain ⟨h1, h2, h3, h4, h5, h6, h7, h8, h9, h10⟩ := hw.const; go_simp)) hS0.out ?_
      simp only [Act.put, List.setIfInBounds_toArray, List.set_cons_zero, List.set_cons_succ]
      refine wpAnyU_take (i := 1) (oi := { dst := some 18, op := _, type := _, pos := _, after := _, guard := none }) (v := .int .i64 (k : Int)) rfl (by kernel_rfl) (by kernel_rfl) (by kernel_rfl) (by kernel_rfl) (fun _ _ _ h => h) (yields_take rfl (fun w' hw => by obtain ⟨h1, h2, h3, h4, h5, h6, h7, h8, h9, h10⟩ := hw.const; go_simp)) hS0.out ?_
      simp only [Act.put, List.setIfInBounds_toArray, List.set_cons_zero, List.set_cons_succ]
      refine wpAnyU_take (i := 2) (oi := { dst := some 19, op := _, type := _, pos := _, after := _, guard := none }) (v := .pointer (some ⟨bA, oA + k * 5, none⟩)) rfl (by kernel_rfl) (by kernel_rfl) (by kernel_rfl) (by kernel_rfl) (fun _ _ _ h => h) (yields_take rfl (fun w' hw => by obtain ⟨h1, h2, h3, h4, h5, h6, h7, h8, h9, h10⟩ := hw.const; go_simp)) hS0.out ?_
      simp only [Act.put, List.setIfInBounds_toArray, List.set_cons_zero, List.set_cons_succ]
      refine wpAnyU_take (i := 3) (oi := { dst := some 20, op := _, type := _, pos := _, after := _, guard := none }) (v := .agg #[.int .u8 g.kd, .slice g.I g.ni g.ci, .slice g.S g.ns g.cs, .int .i64 g.N, .int .i64 g.P]) rfl (by kernel_rfl) (by kernel_rfl) (by kernel_rfl) (by kernel_rfl) (fun _ _ _ h => h) (yields_take rfl (fun w' hw => by obtain ⟨h1, h2, h3, h4, h5, h6, h7, h8, h9, h10⟩ := hw.const; go_simp)) hS0.out ?_
      simp only [Act.put, List.setIfInBounds_toArray, List.set_cons_zero, List.set_cons_succ]
      refine wpAnyU_take (i := 4) (oi := { dst := some 21, op := _, type := _, pos := _, after := _, guard := none }) (v := .slice (some ⟨bB, oB, none⟩) n d) rfl (by kernel_rfl) (by kernel_rfl) (by kernel_rfl) (by kernel_rfl) (fun _ _ _ h => h) (yields_take rfl (fun w' hw => by obtain ⟨h1, h2, h3, h4, h5, h6, h7, h8, h9, h10⟩ := hw.const; go_simp)) hS0.out ?_
      simp only [Act.put, List.setIfInBounds_toArray, List.set_cons_zero, List.set_cons_succ]
      refine wpAnyU_take (i := 5) (oi := { dst := some 22, op := _, type := _, pos := _, after := _, guard := none }) (v := .int .i64 (k : Int)) rfl (by kernel_rfl) (by kernel_rfl) (by kernel_rfl) (by kernel_rfl) (fun _ _ _ h => h) (yields_take rfl (fun w' hw => by obtain ⟨h1, h2, h3, h4, h5, h6, h7, h8, h9, h10⟩ := hw.const; go_simp)) hS0.out ?_
      simp only [Act.put, List.setIfInBounds_toArray, List.set_cons_zero, List.set_cons_succ]
      refine wpAnyU_take (i := 6) (oi := { dst := some 23, op := _, type := _, pos := _, after := _, guard := none }) (v := .pointer (some ⟨bB, oB + k * 5, none⟩)) rfl (by kernel_rfl) (by kernel_rfl) (by kernel_rfl) (by kernel_rfl) (fun _ _ _ h => h) (yields_take rfl (fun w' hw => by obtain ⟨h1, h2, h3, h4, h5, h6, h7, h8, h9, h10⟩ := hw.const; go_simp)) hS0.out ?_
      simp only [Act.put, List.setIfInBounds_toArray, List.set_cons_zero, List.set_cons_succ]
      refine wpAnyU_take (i := 7) (oi := { dst := some 24, op := _, type := _, pos := _, after := _, guard := none }) (v := .agg #[.int .u8 q.kd, .slice q.I q.ni q.ci, .slice q.S q.ns q.cs, .int .i64 q.N, .int .i64 q.P]) rfl (by kernel_rfl) (by kernel_rfl) (by kernel_rfl) (by kernel_rfl) (fun _ _ _ h => h) (yields_take rfl (fun w' hw => by obtain ⟨h1, h2, h3, h4, h5, h6, h7, h8, h9, h10⟩ := hw.const; go_simp)) hS0.out ?_
      simp only [Act.put, List.setIfInBounds_toArray, List.set_cons_zero, List.set_cons_succ]
      refine wpAnyU_one (i := 8) (by kernel_rfl) rfl ?_
      intro K hK
      go_simp
      refine Calls.mono (sameNode_true g q _ (HG.out.below hd0) (HQ.out.below hd0) HT.out) ?_
      rintro e w1 ⟨rfl, hb⟩
      dsimp only
      have hd1 : Below wr.heap.size wr w1 := below_nx6 hd0 hb
      clear hb
      have hS1 : Hid (w1.cell? ⟨bA, oA + k * 5, none⟩ = some (.int .u8 g.kd) ∧ w1.cell? ⟨bA, oA + k * 5 + 1, none⟩ = some (.slice g.I g.ni g.ci) ∧ w1.cell? ⟨bA, oA + k * 5 + 2, none⟩ = some (.slice g.S g.ns g.cs) ∧ w1.cell? ⟨bA, oA + k * 5 + 3, none⟩ = some (.int .i64 g.N) ∧ w1.cell? ⟨bA, oA + k * 5 + 4, none⟩ = some (.int .i64 g.P) ∧ w1.cell? ⟨bB, oB + k * 5, none⟩ = some (.int .u8 q.kd) ∧ w1.cell? ⟨bB, oB + k * 5 + 1, none⟩ = some (.slice q.I q.ni q.ci) ∧ w1.cell? ⟨bB, oB + k * 5 + 2, none⟩ = some (.slice q.S q.ns q.cs) ∧ w1.cell? ⟨bB, oB + k * 5 + 3, none⟩ = some (.int .i64 q.N) ∧ w1.cell? ⟨bB, oB + k * 5 + 4, none⟩ = some (.int .i64 q.P)) := hide (HCG.out _ hd1)
      refine hK.out _ _ hS1.out (fun _ => ?_)
      clear hK K hS0
      refine wpAnyU_take (i := 9) (oi := { dst := some 26, op := _, type := _, pos := _, after := _, guard := none }) (v := .bool false) rfl (by kernel_rfl) (by kernel_rfl) (by kernel_rfl) (by kernel_rfl) (fun _ _ _ h => h) (yields_take rfl (fun w' hw => by go_simp)) hS1.out ?_
      simp only [Act.put, List.setIfInBounds_toArray, List.set_cons_zero, List.set_cons_succ]
      refine wpAnyU_done (by kernel_rfl) ?_ _
      clear hS1
      have HB1 := hide (below_nx6 HBR.out hd1)
      go_wp2
      go_roundw
      case rel => exact ⟨k + 1, by omega, by go_num, HB1⟩
      case measure => simp [intOf] <;> omega
    · obtain rfl : k = n := by omega
      have f1 : ¬ ((k : Int) < (k : Int)) := by omega
      go_wp2
      go_ret
      exact ⟨rfl, HBR.out⟩

end

section
open Go.RowKit
set_option linter.unusedVariables false
set_option linter.unusedSimpArgs false
set_option maxRecDepth 100000

set_option maxHeartbeats 1000000 in
theorem sameGraph_true (A B : Option Addr) (n c d : Nat) (ns ms : List Nd) (w : World) (hA : NsIn w A n ns) (hB : NsIn w B n ms) (hn : n ≤ 1073741824) (hs : ns.map Nd.tn = ms.map Nd.tn) :
    Calls Tryz.prog 19 #[.agg #[.slice A n c], .agg #[.slice B n d]] w fun e w' => e = .returned (.bool true) ∧ Below w.heap.size w w' := by
  obtain ⟨W0, hW0⟩ : ∃ W0, W0 = w.alloc (.cells #[.slice A n c] 24) := ⟨_, rfl⟩
  obtain ⟨W1, hW1⟩ : ∃ W1, W1 = W0.alloc (.cells #[.slice B n d] 24) := ⟨_, rfl⟩
  have hB0 : Below w.heap.size w W0 := by rw [hW0]; exact below_al6 (Below.refl _ _)
  have hB01 : Below W0.heap.size W0 W1 := by rw [hW1]; exact below_al6 (Below.refl _ _)
  have hs0 : W0.heap.size = w.heap.size + 1 := by rw [hW0]; exact Array.size_push _
  have HB : Hid (Below w.heap.size w W1) := hide (hB0.trans (hB01.mono hB0.size))
  have b0 : W0.heap[w.heap.size]? = some (.cells #[.slice A n c] 24 (0, 0)) := by rw [hW0]; exact heap_alloc_new w _
  have b1 : W1.heap[w.heap.size]? = some (.cells #[.slice A n c] 24 (0, 0)) := (hB01.block _ (by omega)).trans b0
  have b2 : W1.heap[W0.heap.size]? = some (.cells #[.slice B n d] 24 (0, 0)) := by rw [hW1]; exact heap_alloc_new W0 _
  rw [hs0] at b2
  have q0 := cell_of_row W1 _ 0 _ _ (0, 0) b1
  have r0 := cell_of_row W1 _ 0 _ _ (0, 0) b2
  have HC := hide (sameNodes_true A B n c d ns ms W1 (hA.below HB.out) (hB.below HB.out) hn hs)
  have hW0' := hW0.symm
  have hW1' := hW1.symm
  clear hW0 hW1 b0 b1 b2 hB0 hB01 hA hB hs
  go_enter Tryz.func19, Tryz.ntmps19
  go_wp2_with fail
  refine Calls.mono HC.out ?_
  rintro e w1 ⟨rfl, hb⟩
  have HB1 : Hid (Below w.heap.size w w1) := hide (HB.out.trans (hb.mono HB.out.size))
  clear hb q0 r0
  go_wp2
  go_ret
  exact ⟨rfl, HB1.out⟩

end

section
open Go.RowKit
set_option linter.unusedVariables false
set_option linter.unusedSimpArgs false
set_option maxRecDepth 100000

theorem sameT11 (A B A' B' : Option Addr) (n c m d c' d' : Nat) (s l : List Int) (w : World) (hA : Lies w A n (s.map (Value.int .i64))) (hB : Lies w B m (l.map (Value.int .i32))) (hA' : Lies w A' n (s.map (Value.int .i64))) (hB' : Lies w B' m (l.map (Value.int .i32))) (hn : n ≤ 281474976710656) (hm : m ≤ 281474976710656) :
    Calls Tryz.prog 67 #[tenV A n c B m d, tenV A' n c' B' m d'] w fun e w' => e = .returned (.bool true) ∧ Below w.heap.size w w' := by
  obtain ⟨W, hW⟩ : ∃ W, W = (w.alloc (.cells #[.slice A n c, .slice B m d] 40)).alloc (.cells #[.slice A' n c', .slice B' m d'] 40) := ⟨_, rfl⟩
  have HX0 : Hid (BoxT W w.heap.size (.slice A n c) (.slice B m d)) := hide (by rw [hW]; exact (BoxT.new w _ _).alloc _)
  have HX1 : Hid (BoxT W (w.heap.size + 1) (.slice A' n c') (.slice B' m d')) := hide (by
    rw [hW]
    have h := (BoxT.new (w.alloc (.cells #[.slice A n c, .slice B m d] 40)) (.slice A' n c') (.slice B' m d'))
    rwa [World.size_alloc] at h)
  have HB0 : Hid (Below w.heap.size w W) := hide (by rw [hW]; exact ((Below.refl w.heap.size w).alloc (Nat.le_refl _) _).alloc (by simp) _)
  have HA := hide (hA.below HB0.out)
  have HB := hide (hB.below HB0.out)
  have HA' := hide (hA'.below HB0.out)
  have HB' := hide (hB'.below HB0.out)
  have hW' := hW.symm
  clear hW hA hB hA' hB'
  have hsW := HB0.out.size
  have a0 := HX0.out.c0
  have b0 := HX1.out.c0
  go_enter Tryz.func67, Tryz.ntmps67
  go_wp2_with fail
  refine Calls.mono (sameG_Ints A A' n c n c' s s _ HA.out HA'.out hn) ?_
  rw [show decide (s = s) = true by simp]
  rintro e w1 ⟨rfl, j, hj⟩
  have hb1 : Below W.heap.size W w1 := by rw [hj]; exact below_drewN (Below.refl _ W) j
  clear hj a0 b0
  have a1 := (HX0.out.kept hb1).c1
  have b1 := (HX1.out.kept hb1).c1
  go_wp2_with fail
  refine Calls.mono (sameG_Numbers B B' m d m d' l l _ (HB.out.below hb1) (HB'.out.below hb1) hm) ?_
  rw [show decide (l = l) = true by simp]
  rintro e w2 ⟨rfl, j, hj⟩
  have hb2 : Below W.heap.size W w2 := by rw [hj]; exact below_drewN hb1 j
  have HB2 := hide (HB0.out.trans (hb2.mono hsW))
  clear hj a1 b1
  go_wp2
  go_ret
  exact ⟨rfl, HB2.out⟩

/-- A weight in plain words. -/
def Wt.pw (t : Wt) : List Int × List Int := (t.s, t.l)

set_option maxHeartbeats 4000000 in
theorem sameTs_true (A B : Option Addr) (n c d : Nat) (ts us : List Wt) (w : World) (hA : WsIn w A n ts) (hB : WsIn w B n us) (hn : n ≤ 1073741824) (hs : ts.map Wt.pw = us.map Wt.pw) :
    Calls Tryz.prog 37 #[.slice A n c, .slice B n d] w fun e w' => e = .returned (.bool true) ∧ Below w.heap.size w w' := by
  have HA := hide hA
  have HB := hide hB
  have HS := hide hs
  clear hA hB hs
  go_enter Tryz.func37, Tryz.ntmps37
  have e0 : ((n : Int) == (n : Int)) = true := by simp
  go_wp2
  go_loopw [5] (fun i wr => ∃ k : Nat, k ≤ n ∧ i = .int .i64 k ∧ Hid (Below w.heap.size w wr)) (fun i _ => n - (intOf i).toNat)
  case atStart => exact ⟨0, Nat.zero_le _, rfl, hide (Below.refl _ _)⟩
  case round =>
    obtain ⟨k, hk, rfl, HBR⟩ := hrel
    by_cases hlt : k < n
    · obtain ⟨bA, oA, g, rfl, hg, a0, a1, hgo⟩ := (HA.out.below HBR.out).at hlt
      obtain ⟨bB, oB, q, rfl, hq, b0, b1, hqo⟩ := (HB.out.below HBR.out).at hlt
      have HT : Hid (g.s = q.s ∧ g.l = q.l) := hide (by
        have h1 := congrArg (·[k]?) HS.out
        simp only [List.getElem?_map, hg, hq, Option.map_some, Option.some.injEq, Wt.pw, Prod.mk.injEq] at h1
        exact h1)
      have HCG : Hid (∀ v, Below wr.heap.size wr v → v.cell? ⟨bA, oA + k * 2, none⟩ = some (.slice g.A g.n g.c) ∧ v.cell? ⟨bA, oA + k * 2 + 1, none⟩ = some (.slice g.B g.m g.d) ∧ v.cell? ⟨bB, oB + k * 2, none⟩ = some (.slice q.A q.n q.c) ∧ v.cell? ⟨bB, oB + k * 2 + 1, none⟩ = some (.slice q.B q.m q.d)) := hide (fun v hv => ⟨cell_onS a0 hv, cell_onS a1 hv, cell_onS b0 hv, cell_onS b1 hv⟩)
      have hn1 : g.n = q.n := by have h1 := lies_len9 hgo.1.1; have h2 := lies_len9 hqo.1.1; rw [HT.out.1] at h1; omega
      have hn2 : g.m = q.m := by have h1 := lies_len9 hgo.1.2; have h2 := lies_len9 hqo.1.2; rw [HT.out.2] at h1; omega
      have hq1 := hqo.1
      have hb1 := hqo.2.2.1
      rw [← HT.out.1, ← HT.out.2, ← hn1, ← hn2] at hq1
      rw [← hn1, ← hn2] at hb1
      have HG := hide hgo.1
      have HQ := hide hq1
      have HBD := hide hb1
      have HN1 := hide hn1.symm
      have HN2 := hide hn2.symm
      have j00 : (0 : Int) ≤ (k : Int) := by omega
      have j10 : (k : Int) < (n : Int) := by omega
      have hd0 : Below wr.heap.size wr wr.drew := below_drewN (Below.refl _ _) 1
      clear a0 a1 b0 b1 hgo hqo hg hq hn1 hn2 hq1 hb1
      go_wp2
      have hS0 : Hid (wr.drew.cell? ⟨bA, oA + k * 2, none⟩ = some (.slice g.A g.n g.c) ∧ wr.drew.cell? ⟨bA, oA + k * 2 + 1, none⟩ = some (.slice g.B g.m g.d) ∧ wr.drew.cell? ⟨bB, oB + k * 2, none⟩ = some (.slice q.A q.n q.c) ∧ wr.drew.cell? ⟨bB, oB + k * 2 + 1, none⟩ = some (.slice q.B q.m q.d)) := hide (HCG.out _ hd0)
      refine wp_region_U (fun _ v => v.cell? ⟨bA, oA + k * 2, none⟩ = some (.slice g.A g.n g.c) ∧ v.cell? ⟨bA, oA + k * 2 + 1, none⟩ = some (.slice g.B g.m g.d) ∧ v.cell? ⟨bB, oB + k * 2, none⟩ = some (.slice q.A q.n q.c) ∧ v.cell? ⟨bB, oB + k * 2 + 1, none⟩ = some (.slice q.B q.m q.d)) 99 (by kernel_rfl) ?_
      refine wpAnyU_take (i := 0) (oi := { dst := some 17, op := _, type := _, pos := _, after := _, guard := none }) (v := .slice (some ⟨bA, oA, none⟩) n c) rfl (by kernel_rfl) (by kernel_rfl) (by kernel_rfl) (by kernel_rfl) (fun _ _ _ h => h) (yields_take rfl (fun w' hw => by obtain ⟨h1, h2, h3, h4⟩ := hw.const; go_simp)) hS0.out ?_
      simp only [Act.put, List.setIfInBounds_toArray, List.set_cons_zero, List.set_cons_succ]
      refine wpAnyU_take (i := 1) (oi := { dst := some 18, op := _, type := _, pos := _, after := _, guard := none }) (v := .int .i64 (k : Int)) rfl (by kernel_rfl) (by kernel_rfl) (by kernel_rfl) (by kernel_rfl) (fun _ _ _ h => h) (yields_take rfl (fun w' hw => by obtain ⟨h1, h2, h3, h4⟩ := hw.const; go_simp)) hS0.out ?_
      simp only [Act.put, List.setIfInBounds_toArray, List.set_cons_zero, List.set_cons_succ]
      refine wpAnyU_take (i := 2) (oi := { dst := some 19, op := _, type := _, pos := _, after := _, guard := none }) (v := .pointer (some ⟨bA, oA + k * 2, none⟩)) rfl (by kernel_rfl) (by kernel_rfl) (by kernel_rfl) (by kernel_rfl) (fun _ _ _ h => h) (yields_take rfl (fun w' hw => by obtain ⟨h1, h2, h3, h4⟩ := hw.const; go_simp)) hS0.out ?_
      simp only [Act.put, List.setIfInBounds_toArray, List.set_cons_zero, List.set_cons_succ]
      refine wpAnyU_take (i := 3) (oi := { dst := some 20, op := _, type := _, pos := _, after := _, guard := none }) (v := .agg #[.slice g.A g.n g.c, .slice g.B g.m g.d]) rfl (by kernel_rfl) (by kernel_rfl) (by kernel_rfl) (by kernel_rfl) (fun _ _ _ h => h) (yields_take rfl (fun w' hw => by obtain ⟨h1, h2, h3, h4⟩ := hw.const; go_simp)) hS0.out ?_
      simp only [Act.put, List.setIfInBounds_toArray, List.set_cons_zero, List.set_cons_succ]
      refine wpAnyU_take (i := 4) (oi := { dst := some 21, op := _, type := _, pos := _, after := _, guard := none }) (v := .slice (some ⟨bB, oB, none⟩) n d) rfl (by kernel_rfl) (by kernel_rfl) (by kernel_rfl) (by kernel_rfl) (fun _ _ _ h => h) (yields_take rfl (fun w' hw => by obtain ⟨h1, h2, h3, h4⟩ := hw.const; go_simp)) hS0.out ?_
      simp only [Act.put, List.setIfInBounds_toArray, List.set_cons_zero, List.set_cons_succ]
      refine wpAnyU_take (i := 5) (oi := { dst := some 22, op := _, type := _, pos := _, after := _, guard := none }) (v := .int .i64 (k : Int)) rfl (by kernel_rfl) (by kernel_rfl) (by kernel_rfl) (by kernel_rfl) (fun _ _ _ h => h) (yields_take rfl (fun w' hw => by obtain ⟨h1, h2, h3, h4⟩ := hw.const; go_simp)) hS0.out ?_
      simp only [Act.put, List.setIfInBounds_toArray, List.set_cons_zero, List.set_cons_succ]
      refine wpAnyU_take (i := 6) (oi := { dst := some 23, op := _, type := _, pos := _, after := _, guard := none }) (v := .pointer (some ⟨bB, oB + k * 2, none⟩)) rfl (by kernel_rfl) (by kernel_rfl) (by kernel_rfl) (by kernel_rfl) (fun _ _ _ h => h) (yields_take rfl (fun w' hw => by obtain ⟨h1, h2, h3, h4⟩ := hw.const; go_simp)) hS0.out ?_
      simp only [Act.put, List.setIfInBounds_toArray, List.set_cons_zero, List.set_cons_succ]
      refine wpAnyU_take (i := 7) (oi := { dst := some 24, op := _, type := _, pos := _, after := _, guard := none }) (v := .agg #[.slice q.A q.n q.c, .slice q.B q.m q.d]) rfl (by kernel_rfl) (by kernel_rfl) (by kernel_rfl) (by kernel_rfl) (fun _ _ _ h => h) (yields_take rfl (fun w' hw => by obtain ⟨h1, h2, h3, h4⟩ := hw.const; go_simp)) hS0.out ?_
      simp only [Act.put, List.setIfInBounds_toArray, List.set_cons_zero, List.set_cons_succ]
      refine wpAnyU_one (i := 8) (by kernel_rfl) rfl ?_
      intro K hK
      go_simp
      rw [HN1.out, HN2.out]
      refine Calls.mono (sameT11 g.A g.B q.A q.B g.n g.c g.m g.d q.c q.d g.s g.l _ (HG.out.1.below hd0) (HG.out.2.below hd0) (HQ.out.1.below hd0) (HQ.out.2.below hd0) (by have := HBD.out.1; omega) (by have := HBD.out.2; omega)) ?_
      rintro e w1 ⟨rfl, hb⟩
      (try dsimp only)
      have hd1 : Below wr.heap.size wr w1 := below_nx6 hd0 hb
      clear hb
      (try dsimp only)
      have hS1 : Hid (w1.cell? ⟨bA, oA + k * 2, none⟩ = some (.slice g.A g.n g.c) ∧ w1.cell? ⟨bA, oA + k * 2 + 1, none⟩ = some (.slice g.B g.m g.d) ∧ w1.cell? ⟨bB, oB + k * 2, none⟩ = some (.slice q.A q.n q.c) ∧ w1.cell? ⟨bB, oB + k * 2 + 1, none⟩ = some (.slice q.B q.m q.d)) := hide (HCG.out _ hd1)
      refine hK.out _ _ hS1.out (fun _ => ?_)
      clear hK K hS0
      refine wpAnyU_take (i := 9) (oi := { dst := some 26, op := _, type := _, pos := _, after := _, guard := none }) (v := .bool false) rfl (by kernel_rfl) (by kernel_rfl) (by kernel_rfl) (by kernel_rfl) (fun _ _ _ h => h) (yields_take rfl (fun w' hw => by obtain ⟨h1, h2, h3, h4⟩ := hw.const; go_simp)) hS1.out ?_
      simp only [Act.put, List.setIfInBounds_toArray, List.set_cons_zero, List.set_cons_succ]
      refine wpAnyU_done (by kernel_rfl) ?_ _
      clear hS1
      have HBE := hide (below_nx6 HBR.out hd1)
      clear HCG
      go_wp2
      go_roundw
      case rel => exact ⟨k + 1, by omega, by go_num, HBE⟩
      case measure => simp [intOf] <;> omega
    · obtain rfl : k = n := by omega
      have f1 : ¬ ((k : Int) < (k : Int)) := by omega
      go_wp2
      go_ret
      exact ⟨rfl, HBR.out⟩

set_option maxHeartbeats 4000000 in
theorem sameM_true (A B A' B' : Option Addr) (n c m d c' d' : Nat) (ns ns' : List Nd) (ts ts' : List Wt) (w : World) (hA : NsIn w A n ns) (hA' : NsIn w A' n ns') (hB : WsIn w B m ts) (hB' : WsIn w B' m ts') (hn : n ≤ 1073741824) (hm : m ≤ 1073741824) (hs : ns.map Nd.tn = ns'.map Nd.tn) (ht : ts.map Wt.pw = ts'.map Wt.pw) :
    Calls Tryz.prog 14 #[.agg #[.slice A n c, .slice B m d], .agg #[.slice A' n c', .slice B' m d']] w fun e w' => e = .returned (.bool true) ∧ Below w.heap.size w w' := by
  obtain ⟨W, hW⟩ : ∃ W, W = (w.alloc (.cells #[.slice A n c, .slice B m d] 27)).alloc (.cells #[.slice A' n c', .slice B' m d'] 27) := ⟨_, rfl⟩
  have HB0 : Hid (Below w.heap.size w W) := hide (by rw [hW]; exact ((Below.refl w.heap.size w).alloc (Nat.le_refl _) _).alloc (by simp) _)
  have HX0 : Hid (BoxM W w.heap.size (.slice A n c) (.slice B m d)) := hide (by rw [hW]; exact (BoxM.new w _ _).kept (below_al6 (Below.refl _ _)))
  have HX1 : Hid (BoxM W (w.heap.size + 1) (.slice A' n c') (.slice B' m d')) := hide (by
    rw [hW]
    have h := (BoxM.new (w.alloc (.cells #[.slice A n c, .slice B m d] 27)) (.slice A' n c') (.slice B' m d'))
    rwa [World.size_alloc] at h)
  have HG := hide (sameGraph_true A A' n c c' ns ns' W (hA.below HB0.out) (hA'.below HB0.out) hn hs)
  have HT := hide (hB.below HB0.out)
  have HT' := hide (hB'.below HB0.out)
  have HPW := hide ht
  obtain ⟨a0, a1⟩ := HX0.out.cs
  obtain ⟨b0, b1⟩ := HX1.out.cs
  have hW' := hW.symm
  clear hW hA hA' hB hB' hs ht
  go_enter Tryz.func14, Tryz.ntmps14
  go_wp2_with fail
  refine Calls.mono HG.out ?_
  rintro e w1 ⟨rfl, hb⟩
  obtain ⟨p0, p1⟩ := (HX0.out.kept hb).cs
  obtain ⟨q0, q1⟩ := (HX1.out.kept hb).cs
  have HB1 := hide hb
  have HS := hide (sameTs_true B B' m d d' ts ts' w1 (HT.out.below hb) (HT'.out.below hb) hm HPW.out)
  clear hb HG a0 a1 b0 b1
  go_wp2_with fail
  refine Calls.mono HS.out ?_
  rintro e w2 ⟨rfl, hb⟩
  have HBE := hide (below_nx6 (below_nx6 HB0.out HB1.out) hb)
  clear hb p0 p1 q0 q1 HS
  go_wp2
  go_ret
  exact ⟨rfl, HBE.out⟩

end

section
open Go.RowKit
set_option linter.unusedVariables false
set_option linter.unusedSimpArgs false
set_option maxRecDepth 100000

theorem wsFit_cons {ns : List Nd} {i : Int} {is : List Int} {t : Wt} {ts : List Wt} (h : wsFit ns (i :: is) (t :: ts) = true) : tenOk t.s t.m = true ∧ t.s = shOf ns i ∧ wsFit ns is ts = true := by
  rw [wsFit] at h
  simp only [Bool.and_eq_true, decide_eq_true_eq] at h
  exact ⟨h.1.1, h.1.2, h.2⟩

theorem pw_eq {ns : List Nd} : ∀ (is : List Int) (ts us : List Wt), wsFit ns is ts = true → wsFit ns is us = true → (∀ t ∈ ts, t.l.length = t.m ∧ Words t.l) → (∀ t ∈ us, t.l.length = t.m ∧ Words t.l) → wsI ts = wsI us → ts.map Wt.pw = us.map Wt.pw
  | [], [], [], _, _, _, _, _ => rfl
  | [], _ :: _, _, h, _, _, _, _ => by simp [wsFit] at h
  | [], [], _ :: _, _, h, _, _, _ => by simp [wsFit] at h
  | _ :: _, [], _, h, _, _, _, _ => by simp [wsFit] at h
  | _ :: _, _ :: _, [], _, h, _, _, _ => by simp [wsFit] at h
  | i :: is, t :: ts, u :: us, h, k, ht, hu, he => by
    obtain ⟨h1, h2, h3⟩ := wsFit_cons h
    obtain ⟨k1, k2, k3⟩ := wsFit_cons k
    obtain ⟨l1, w1⟩ := ht t (List.mem_cons_self ..)
    obtain ⟨l2, w2⟩ := hu u (List.mem_cons_self ..)
    have hs : t.s = u.s := by rw [h2, k2]
    have hm : t.m = u.m := by
      have a := (tenOk_iff.1 h1).2
      have b := (tenOk_iff.1 k1).2
      rw [hs, b] at a
      omega
    have e1 : wsI (t :: ts) = enc t.l ++ wsI ts := by simp [wsI]
    have e2 : wsI (u :: us) = enc u.l ++ wsI us := by simp [wsI]
    rw [e1, e2] at he
    obtain ⟨f1, f2⟩ := List.append_inj he (by rw [enc_len, enc_len, l1, l2, hm])
    have hl : t.l = u.l := by
      rw [← dec_encE t.l w1, ← dec_encE u.l w2, f1, l1, l2, hm]
    rw [List.map_cons, List.map_cons, pw_eq is ts us h3 k3 (fun x hx => ht x (List.mem_cons_of_mem _ hx)) (fun x hx => hu x (List.mem_cons_of_mem _ hx)) f2]
    simp [Wt.pw, hs, hl]

theorem WsIn.all {w : World} {A : Option Addr} {n : Nat} {ts : List Wt} (h : WsIn w A n ts) : ∀ t ∈ ts, t.l.length = t.m ∧ Words t.l := by
  intro t ht
  obtain ⟨j, hj⟩ := List.getElem?_of_mem ht
  have hl := (List.getElem?_eq_some_iff.1 hj).1
  obtain ⟨_, _, u, _, hu, _, _, ho⟩ := h.at (k := j) (by rw [← h.1]; exact hl)
  rw [hj] at hu
  cases hu
  exact ⟨lies_len9 ho.1.2, ho.2.2.2⟩

/-- Models whose bytes are the same are the same. -/
theorem mdP_inj {ns ms : List Nd} {ts us : List Wt} (h : mdB ns ts = true) (k : mdB ms us = true) (hk : ∀ x ∈ ns, 0 ≤ x.kd) (kk : ∀ x ∈ ms, 0 ≤ x.kd) (hl : ∀ t ∈ ts, t.l.length = t.m ∧ Words t.l) (kl : ∀ t ∈ us, t.l.length = t.m ∧ Words t.l) (he : mdP ns ts = mdP ms us) : ns.map Nd.tn = ms.map Nd.tn ∧ ts.map Wt.pw = us.map Wt.pw := by
  obtain ⟨_, a2, a3⟩ := getB_put h hk (fun t ht => (hl t ht).1)
  obtain ⟨_, b2, b3⟩ := getB_put k kk (fun t ht => (kl t ht).1)
  rw [he] at a2 a3
  have hn : ns.map Nd.tn = ms.map Nd.tn := a2.symm.trans b2
  have hp : ns.map pl = ms.map pl := by rw [← tnN_all hk, ← tnN_all kk, hn]
  have f1 := (mdB_parts.1 h).2
  have f2 := (mdB_parts.1 k).2
  rw [← wsFit_pl, ← wtF_pl, hp] at f1
  rw [← wsFit_pl, ← wtF_pl] at f2
  exact ⟨hn, pw_eq _ _ _ f1 f2 hl kl (a3.symm.trans b3)⟩

set_option maxHeartbeats 1000000 in
theorem mput_any (A B : Option Addr) (n c m d : Nat) (ns : List Nd) (ts : List Wt) (w : World) (h : NsIn w A n ns) (hn : n ≤ 1073741824) (hc : n ≤ c) (hW : WsIn w B m ts) (hm : m ≤ 70368744177664) :
    Calls Tryz.prog 8 #[.agg #[.slice A n c, .slice B m d]] w fun e w' => ∃ (A' : Option Addr) (k c' : Nat) (z : Int), e = .returned (.tuple #[.slice A' k c', .int .i64 z]) ∧ (mdB ns ts = false → k = 0 ∧ z = 1) ∧ (mdB ns ts = true → z = 0 ∧ w'.ownsRow w.heap.size 5 1 (.slice A' k c') k ((mdP ns ts).map (Value.int .u8)) ∧ k ≤ 1000000) ∧ Below w.heap.size w w' := by
  cases hb : mdB ns ts with
  | false =>
    refine Calls.mono (mput_no A B n c m d ns ts w h hn hc hW hm hb) ?_
    rintro e w' ⟨rfl, hbe⟩
    exact ⟨none, 0, 0, 1, rfl, fun _ => ⟨rfl, rfl⟩, (fun h => by cases h), hbe⟩
  | true =>
    refine Calls.mono (mput_ok A B n c m d ns ts w h hn hc hW hm hb) ?_
    rintro e w' ⟨A', k, c', rfl, ho, hk, hbe⟩
    exact ⟨A', k, c', 0, rfl, (fun h => by cases h), fun _ => ⟨rfl, ho, hk⟩, hbe⟩

end

end Go.Proofs.YtohndckbhjakfaaGreatDoor

