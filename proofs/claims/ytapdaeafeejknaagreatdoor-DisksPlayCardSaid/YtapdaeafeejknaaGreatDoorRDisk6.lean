/- Contracts of the document's disk: New. -/
import Derived.Test.YtapdaeafeejknaaGreatDoorRDisk5
namespace Go.Proofs.YtapdaeafeejknaaGreatDoor
open Go.RowKit
set_option maxRecDepth 20000
set_option linter.unusedVariables false
set_option linter.unusedSimpArgs false

theorem cell_kept3 {a w : World} {b o : Nat} {v : Value} (hb : Below a.heap.size a w) (h : a.cell? ⟨b, o, none⟩ = some v) : w.cell? ⟨b, o, none⟩ = some v :=
  (hb.cell (World.block_lt_of_cell? a _ h)).trans h
theorem own_type2 {w : World} {base : Nat} {e : TypeId} {s : Nat} {v : Value} {n : Nat} {xs : List Value} (h : w.ownsRow base e s v n xs) {g : Nat} (hg : v.ownBlock = some g) : ∃ cur, w.heap[g]? = some (.cells cur e (0, 0)) := by
  rcases h.2 with ⟨rfl, _⟩ | ⟨g', cap, cur, rfl, _, hh, _⟩
  · simp [Value.ownBlock] at hg
  · simp [Value.ownBlock] at hg
    subst hg
    exact ⟨cur, hh⟩
theorem rnew_arg (n : Int) (w : World) (h : n < 1 ∨ 16384 < n) :
    Calls Tryz.prog 6 #[.int .i64 n] w fun e w' => e = .returned (.tuple #[.pointer none, .int .i64 1]) ∧ w = w' := by
  by_cases h1 : n < 1
  · clear h
    go_enter Tryz.func6, Tryz.ntmps6
    go_wp2
    go_ret2
    exact ⟨rfl, rfl⟩
  · have h2 : 16384 < n := by omega
    clear h
    go_enter Tryz.func6, Tryz.ntmps6
    go_wp2
    go_ret2
    exact ⟨rfl, rfl⟩

set_option maxRecDepth 100000 in
set_option maxHeartbeats 4000000 in
theorem rnew_ok (n : Nat) (w : World) (h1 : 1 ≤ n) (h2 : n ≤ 16384) :
    Calls Tryz.prog 6 #[.int .i64 (n : Int)] w fun e w' => ∃ L : RLoc, e = .returned (.tuple #[L.ptr, .int .i64 0]) ∧ RAt w.heap.size w' L (List.replicate n zeroSec) [] ∧ (∀ b, L.has b → w.heap.size ≤ b) ∧ Below w.heap.size w w' := by
  obtain ⟨i0, hi, hz0, hz1, hz2⟩ := info_parts Tryz.infoRS
  have HI := hide hi
  have HZ0 := hide hz0
  have HZ1 := hide hz1
  have HZ2 := hide hz2
  have a1 : (1 : Int) ≤ (n : Int) := by omega
  have a2 : (n : Int) ≤ 16384 := by omega
  clear hi hz0 hz1 hz2
  go_enter Tryz.func6, Tryz.ntmps6
  go_wp2
  go_loopw [5] (fun i wr => ∃ (k : Nat) (A : Option Addr) (c : Nat), k ≤ n ∧ i = .int .i64 k ∧ Hid (wr.heap[w.heap.size]? = some (.cells #[.slice A k c, .slice none 0 0, .slice none 0 0] 71 (0, 0))) ∧ Hid (wr.ownsRow w.heap.size 74 2 (.slice A k c) k (rsecsV (List.replicate k zeroSec))) ∧ Hid (Below w.heap.size w wr)) (fun i _ => n - (intOf i).toNat)
  case atStart => exact ⟨0, none, 0, Nat.zero_le _, rfl, hide (heap_alloc_new w _), hide (World.ownsRow_nil _ _ _ _), hide ((Below.refl _ _).alloc (Nat.le_refl _) _)⟩
  case round =>
    obtain ⟨k, A, c, hk, rfl, HT, HO, HW⟩ := hrel
    have r0 : wr.cell? ⟨w.heap.size, 0, none⟩ = some (.slice A k c) := by rw [cell_of_row _ _ _ _ _ _ HT.out]; rfl
    by_cases hlt : k < n
    · go_wp2_with fail
      have hS0 : Hid (wr.drew.cell? ⟨w.heap.size, 0, none⟩ = some (.slice A k c)) := hide r0
      refine wp_region_U (fun b w' => b = false → w'.cell? ⟨w.heap.size, 0, none⟩ = some (.slice A k c)) 11 (by kernel_rfl) ?_
      refine wpAnyU_take (i := 0) (oi := { dst := some 19, op := _, type := _, pos := _, after := _, guard := none }) (v := .pointer (some ⟨w.heap.size, 0, none⟩)) rfl (by kernel_rfl) (by kernel_rfl) (by kernel_rfl) (by kernel_rfl) (fun _ _ _ h => h) (yields_take rfl (fun w' hw => by go_simp)) (fun _ => hS0.out) ?_
      simp only [Act.put, List.setIfInBounds_toArray, List.set_cons_zero, List.set_cons_succ]
      refine wpAnyU_take (i := 1) (oi := { dst := some 20, op := _, type := _, pos := _, after := _, guard := none }) (v := .pointer (some ⟨w.heap.size, 0, none⟩)) rfl (by kernel_rfl) (by kernel_rfl) (by kernel_rfl) (by kernel_rfl) (fun _ _ _ h => h) (yields_take rfl (fun w' hw => by go_simp)) (fun _ => hS0.out) ?_
      simp only [Act.put, List.setIfInBounds_toArray, List.set_cons_zero, List.set_cons_succ]
      refine wpAnyU_take (i := 2) (oi := { dst := some 21, op := _, type := _, pos := _, after := _, guard := none }) (v := .pointer (some ⟨w.heap.size, 0, none⟩)) rfl (by kernel_rfl) (by kernel_rfl) (by kernel_rfl) (by kernel_rfl) (fun _ _ _ h => h) (yields_take rfl (fun w' hw => by go_simp)) (fun _ => hS0.out) ?_
      simp only [Act.put, List.setIfInBounds_toArray, List.set_cons_zero, List.set_cons_succ]
      refine wpAnyU_take (i := 3) (oi := { dst := some 22, op := _, type := _, pos := _, after := _, guard := none }) (v := .pointer (some ⟨w.heap.size, 0, none⟩)) rfl (by kernel_rfl) (by kernel_rfl) (by kernel_rfl) (by kernel_rfl) (fun _ _ _ h => h) (yields_take rfl (fun w' hw => by go_simp)) (fun _ => hS0.out) ?_
      simp only [Act.put, List.setIfInBounds_toArray, List.set_cons_zero, List.set_cons_succ]
      refine wpAnyU_take (i := 4) (oi := { dst := some 23, op := _, type := _, pos := _, after := _, guard := none }) (v := .slice A k c) rfl (by kernel_rfl) (by kernel_rfl) (by kernel_rfl) (by kernel_rfl) (fun _ _ _ h => h) (yields_take rfl (fun w' hw => by have hc := hw.no (by kernel_rfl) rfl; go_simp)) (fun _ => hS0.out) ?_
      simp only [Act.put, List.setIfInBounds_toArray, List.set_cons_zero, List.set_cons_succ]
      refine wpAnyU_one (i := 5) (by kernel_rfl) rfl ?_
      intro K hK
      go_simp
      refine Calls.mono (noughts_any 64 _ (by omega)) ?_
      rintro e w1 ⟨rfl, hb1⟩
      rw [show strV (List.replicate 64 0) = .string (strOfNums zeros64) from rfl]
      dsimp only
      have hS1 : Hid (w1.cell? ⟨w.heap.size, 0, none⟩ = some (.slice A k c)) := hide (cell_kept3 hb1 hS0.out)
      have HB1 : Hid (Below wr.heap.size wr w1) := hide ((below_drewN (Below.refl wr.heap.size wr) 1).trans hb1)
      refine hK.out _ _ (fun _ => hS1.out) (fun _ => ?_)
      clear hK K hS0 hb1
      refine wpAnyU_take (i := 6) (oi := { dst := some 25, op := _, type := _, pos := _, after := _, guard := none }) (v := .agg #[.string (strOfNums zeros64), .bool false]) rfl (by kernel_rfl) (by kernel_rfl) (by kernel_rfl) (by kernel_rfl) (fun _ _ _ h => h) (yields_take rfl (fun w' hw => by go_simp)) (fun _ => hS1.out) ?_
      simp only [Act.put, List.setIfInBounds_toArray, List.set_cons_zero, List.set_cons_succ]
      refine wpAnyU_one (i := 7) (by kernel_rfl) rfl ?_
      intro K hK
      go_simp
      have HNEW := hide (cells_new w1 (rsecV zeroSec) 74)
      have hs1 := HB1.out.size
      have hsw := HW.out.size
      have HS2 : Hid ((w1.alloc (.cells (rsecV zeroSec).toArray 74)).cell? ⟨w.heap.size, 0, none⟩ = some (.slice A k c)) := hide (cell_kept3 ((Below.refl w1.heap.size w1).alloc (Nat.le_refl _) _) hS1.out)
      have HO2 : Hid ((w1.alloc (.cells (rsecV zeroSec).toArray 74)).ownsRow w.heap.size 74 2 (.slice A k c) k (rsecsV (List.replicate k zeroSec))) := hide (((ownsRow_same HO.out (fun b hb => HB1.out.block b (HO.out.lt b hb).2))).alloc _)
      have HT2 : Hid ((w1.alloc (.cells (rsecV zeroSec).toArray 74)).heap[w.heap.size]? = some (.cells #[.slice A k c, .slice none 0 0, .slice none 0 0] 71 (0, 0))) := hide ((((Below.refl w1.heap.size w1).alloc (Nat.le_refl _) (.cells (rsecV zeroSec).toArray 74)).block _ (Nat.lt_of_lt_of_le (lt_of_heap HT.out) hs1)).trans ((HB1.out.block _ (lt_of_heap HT.out)).trans HT.out))
      have HB2 : Hid (Below w.heap.size w (w1.alloc (.cells (rsecV zeroSec).toArray 74))) := hide ((HW.out.trans (HB1.out.mono hsw)).alloc (Nat.le_trans hsw hs1) _)
      have hb2 := HB2.out.size
      refine hK.out _ (w1.alloc (.cells (rsecV zeroSec).toArray 74)) (fun _ => HS2.out) (fun _ => ?_)
      clear hK K hS1
      obtain ⟨W1, hW1⟩ : ∃ W1, W1 = w1.alloc (.cells (rsecV zeroSec).toArray 74) := ⟨_, rfl⟩
      have HX : Hid (∀ j u, (rsecV zeroSec)[j]? = some u → W1.cell? ((⟨w1.heap.size, 0, none⟩ : Addr).add j) = some u) := hide (by rw [hW1]; exact HNEW.out)
      rw [← hW1] at HS2 HO2 HT2 HB2 hb2 ⊢
      clear hW1 HNEW HO HT HW r0
      refine wpAnyU_one (i := 8) (by kernel_rfl) rfl ?_
      intro K hK
      refine step_append_held rfl (.tmp 23) (.tmp 26) 68 rfl 74 i0 (.agg #[.string ⟨#[]⟩, .bool false]) 2 24 Tryz.underlying68 HI.out HZ0.out HZ1.out HZ2.out rfl (by decide) w.heap.size (.slice A k c) k (rsecsV (List.replicate k zeroSec)) rfl HO2.out hb2 ⟨w1.heap.size, 0, none⟩ (rsecV zeroSec) rfl rfl HX.out (rsecV_one _) (by omega) (by unfold maxLen; omega) ?_
      intro g3 c3 w3 ho3 hg3
      have hne3 : (Value.slice A k c).ownBlock ≠ some w.heap.size := fun e => by obtain ⟨cur, hc⟩ := own_type2 HO2.out e; exact ty_ne hc HT2.out (by decide) rfl
      have t3 := (hg3.block w.heap.size (lt_of_heap HT2.out) (fun e => hne3 e.symm)).trans HT2.out
      have HT3 := hide t3
      have HO3 : Hid (w3.ownsRow w.heap.size 74 2 (.slice (some ⟨g3, 0, none⟩) (k + 1) c3) (k + 1) (rsecsV (List.replicate (k + 1) zeroSec))) := hide (by rw [List.replicate_succ', rsecs_snoc]; exact ho3)
      have HB3 : Hid (Below w.heap.size w w3) := hide (HB2.out.grown hg3 hb2 (fun b hb => (HO2.out.lt b hb).1))
      have HS3 : Hid (w3.cell? ⟨w.heap.size, 0, none⟩ = some (.slice A k c)) := hide (by rw [cell_of_row _ _ _ _ _ _ t3]; rfl)
      have q1 := HS3.out
      have q2 : w3.frozen? ⟨w.heap.size, 0, none⟩ = false := frozen_of_row w3 _ 0 _ _ t3
      refine hK.out _ _ (fun _ => HS3.out) (fun _ => ?_)
      clear hK K HS2 hne3 t3 ho3
      refine wpAnyU_take (i := 9) (oi := { dst := some 28, op := _, type := _, pos := _, after := _, guard := none }) (v := .pointer (some ⟨w.heap.size, 0, none⟩)) rfl (by kernel_rfl) (by kernel_rfl) (by kernel_rfl) (by kernel_rfl) (fun _ _ _ h => h) (yields_take rfl (fun w' hw => by go_simp)) (fun _ => HS3.out) ?_
      simp only [Act.put, List.setIfInBounds_toArray, List.set_cons_zero, List.set_cons_succ]
      refine wpAnyU_take (i := 10) (oi := { dst := some 29, op := _, type := _, pos := _, after := _, guard := none }) (v := .pointer (some ⟨w.heap.size, 0, none⟩)) rfl (by kernel_rfl) (by kernel_rfl) (by kernel_rfl) (by kernel_rfl) (fun _ _ _ h => h) (yields_take rfl (fun w' hw => by go_simp)) (fun _ => HS3.out) ?_
      simp only [Act.put, List.setIfInBounds_toArray, List.set_cons_zero, List.set_cons_succ]
      obtain ⟨W4, hW4⟩ : ∃ W4, w3.setCell ⟨w.heap.size, 0, none⟩ (.slice (some ⟨g3, 0, none⟩) (k + 1) c3) = W4 := ⟨_, rfl⟩
      have HT4 : Hid (W4.heap[w.heap.size]? = some (.cells #[.slice (some ⟨g3, 0, none⟩) (k + 1) c3, .slice none 0 0, .slice none 0 0] 71 (0, 0))) := hide (by rw [← hW4]; exact heap_setCell_same w3 w.heap.size 0 _ _ _ HT3.out)
      have hne4 : g3 ≠ w.heap.size := by obtain ⟨cur, hc, _⟩ := own_heap HO3.out; exact ty_ne hc HT3.out (by decide)
      have HO4 : Hid (W4.ownsRow w.heap.size 74 2 (.slice (some ⟨g3, 0, none⟩) (k + 1) c3) (k + 1) (rsecsV (List.replicate (k + 1) zeroSec))) := hide (ownsRow_same HO3.out (fun b hb => by injection hb with hb; rw [← hW4]; exact heap_setCell_other w3 ⟨w.heap.size, 0, none⟩ b _ (by rw [← hb]; exact hne4)))
      have HB4 : Hid (Below w.heap.size w W4) := hide (by rw [← hW4]; exact HB3.out.setCell (Nat.le_refl _) _)
      refine wpAnyU_one (i := 11) (by kernel_rfl) rfl ?_
      intro K hK
      go_simp
      refine hK.out _ _ (fun h => absurd h (by decide)) (fun _ => ?_)
      clear hK K q1 q2
      refine wpAnyU_done (by kernel_rfl) ?_ _
      clear hW4 HS3
      go_wp2
      go_roundw
      case rel => exact ⟨k + 1, some ⟨g3, 0, none⟩, c3, by omega, by go_num, HT4, HO4, HB4⟩
      case measure => simp [intOf]; omega
    · obtain rfl : k = n := by omega
      obtain ⟨g, rfl⟩ : ∃ g, A = some ⟨g, 0, none⟩ := by
        rcases HO.out.2 with ⟨e0, h0⟩ | ⟨g, cap, cur, e0, _⟩
        · omega
        · injection e0 with e0; exact ⟨g, e0⟩
      have HLEN : Hid ((rsecsV (List.replicate k zeroSec)).length = k * 2) := hide (by rw [rsecsV_len, List.length_replicate])
      go_wp2_with (at_builtin; refine wpList_append_rows rfl _ _ 68 rfl 74 i0 (.agg #[.string ⟨#[]⟩, .bool false]) 2 24 Tryz.underlying68 HI.out HZ0.out HZ1.out HZ2.out rfl (by decide) rfl ⟨g, 0, none⟩ k c (rsecsV (List.replicate k zeroSec)) rfl HLEN.out (World.ownsRow.cells HO.out rfl) (rsecsV_one _) (by omega) (by omega) (by unfold maxLen; omega) ?_)
      intro g1 c1 w1 ho1 hb1 hg1
      have hgl := (HO.out.lt g rfl)
      have hsw := HW.out.size
      have t1 := (hb1.block w.heap.size (lt_of_heap HT.out)).trans HT.out
      have q1 : w1.cell? ⟨w.heap.size, 1, none⟩ = some (.slice none 0 0) := by rw [cell_of_row _ _ _ _ _ _ t1]; rfl
      have q2 : w1.frozen? ⟨w.heap.size, 1, none⟩ = false := frozen_of_row w1 _ 1 _ _ t1
      obtain ⟨W4, hW4⟩ : ∃ W4, w1.setCell ⟨w.heap.size, 1, none⟩ (.slice (some ⟨g1, 0, none⟩) k c1) = W4 := ⟨_, rfl⟩
      have t4 : W4.heap[w.heap.size]? = some (.cells #[.slice (some ⟨g, 0, none⟩) k c, .slice (some ⟨g1, 0, none⟩) k c1, .slice none 0 0] 71 (0, 0)) := by
        rw [← hW4]
        exact heap_setCell_same w1 w.heap.size 1 _ _ _ t1
      have hot : ∀ b, b ≠ w.heap.size → W4.heap[b]? = w1.heap[b]? := fun b hb => by rw [← hW4]; exact heap_setCell_other w1 ⟨w.heap.size, 1, none⟩ b _ hb
      have hg1w : w.heap.size < w1.heap.size := lt_of_heap t1
      have hneg : g ≠ w.heap.size := by obtain ⟨cur, hc, _⟩ := own_heap HO.out; exact ty_ne hc HT.out (by decide)
      have hne1 : g1 ≠ w.heap.size := by obtain ⟨cur, hc, _⟩ := own_heap ho1; exact ty_ne hc t1 (by decide)
      have HFIN : Hid (RAt w.heap.size W4 ⟨w.heap.size, g1, c1, g, c, .slice none 0 0⟩ (List.replicate k zeroSec) []) := hide (by
        refine ⟨Nat.le_refl _, by rw [List.length_replicate]; exact t4, ?_, ?_, World.ownsRow_nil _ _ _ _, by show g1 ≠ g; omega, by rw [List.length_replicate]; omega, by rw [List.length_replicate]; omega, fun s hs => by rw [(List.mem_replicate.1 hs).2]; exact okB_zeros, fun x hx => by cases hx⟩
        · show RSR w.heap.size W4 g1 c1 (List.replicate k zeroSec)
          unfold RSR
          rw [List.length_replicate]
          exact ownsRow_same (own_base' ho1 hsw) (fun b hb => by injection hb with hb; exact hot b (by show b ≠ _; intro e; exact hne1 (by rw [← e]; exact hb)))
        · show RSR w.heap.size W4 g c (List.replicate k zeroSec)
          unfold RSR
          rw [List.length_replicate]
          exact ownsRow_same HO.out (fun b hb => by injection hb with hb; have hbg : g = b := hb; subst hbg; exact (hot g hneg).trans (hb1.block g hgl.2)))
      have HBF : Hid (Below w.heap.size w W4) := hide (by rw [← hW4]; exact (HW.out.trans (hb1.mono hsw)).setCell (Nat.le_refl _) _)
      have HHAS : Hid (∀ b, (⟨w.heap.size, g1, c1, g, c, .slice none 0 0⟩ : RLoc).has b → w.heap.size ≤ b) := hide (by
        rintro b (rfl | rfl | rfl | hb)
        · exact Nat.le_refl _
        · exact Nat.le_trans hsw hg1
        · exact hgl.1
        · cases hb)
      clear t1 t4 hot ho1 hb1
      go_wp2
      go_ret2
      exact ⟨⟨w.heap.size, g1, c1, g, c, .slice none 0 0⟩, rfl, HFIN.out, HHAS.out, HBF.out⟩
end Go.Proofs.YtapdaeafeejknaaGreatDoor
