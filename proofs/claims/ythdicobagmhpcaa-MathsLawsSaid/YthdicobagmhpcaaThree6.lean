/- The contract of three of the statements on maths: where it says yes, three tensors may be, and are of one shape. -/
import Derived.Test.YthdicobagmhpcaaMl6
import Derived.Test.YthdicobagmhpcaaRegU
import Derived.Deep.QuietTactic
import Derived.BigQuiet
namespace Go.Proofs.Ythdicobagmhpcaa
open Go.RowKit
set_option linter.unusedVariables false
set_option linter.unusedSimpArgs false
set_option maxRecDepth 100000

set_option maxHeartbeats 4000000 in
theorem three_any (As Bs : Nat → Option Addr) (ns cs ms ds : Nat → Nat) (ss ls : Nat → List Int) (w : World) (hA : ∀ k, k < 3 → Lies w (As k) (ns k) ((ss k).map (Value.int .i64))) (hB : ∀ k, k < 3 → Lies w (Bs k) (ms k) ((ls k).map (Value.int .i32)))
    (hn : ∀ k, k < 3 → ns k ≤ 70368744177664) (hm : ∀ k, k < 3 → ms k ≤ 70368744177664) :
    Calls Try.prog 10 #[.agg #[.slice (As 0) (ns 0) (cs 0), .slice (Bs 0) (ms 0) (ds 0), .slice (As 1) (ns 1) (cs 1), .slice (Bs 1) (ms 1) (ds 1), .slice (As 2) (ns 2) (cs 2), .slice (Bs 2) (ms 2) (ds 2)]] w fun e w' =>
      ∃ b, e = .returned (.bool b) ∧ (b = true → ∀ k, k < 3 → tenOk (ss k) (ms k) = true ∧ ss k = ss 0) ∧ Below w.heap.size w w' := by
  obtain ⟨W0, hW0⟩ : ∃ W0, W0 = w.alloc (.cells #[.slice (As 0) (ns 0) (cs 0), .slice (Bs 0) (ms 0) (ds 0), .slice (As 1) (ns 1) (cs 1), .slice (Bs 1) (ms 1) (ds 1), .slice (As 2) (ns 2) (cs 2), .slice (Bs 2) (ms 2) (ds 2)] 26) := ⟨_, rfl⟩
  have HB0 : Hid (Below w.heap.size w W0) := hide (by rw [hW0]; exact (Below.refl w.heap.size w).alloc (Nat.le_refl _) _)
  have HR : Hid (W0.heap[w.heap.size]? = some (.cells #[.slice (As 0) (ns 0) (cs 0), .slice (Bs 0) (ms 0) (ds 0), .slice (As 1) (ns 1) (cs 1), .slice (Bs 1) (ms 1) (ds 1), .slice (As 2) (ns 2) (cs 2), .slice (Bs 2) (ms 2) (ds 2)] 26 (0, 0))) := hide (by rw [hW0]; exact heap_alloc_new w _)
  have HC : Hid (∀ k v, k < 3 → Below W0.heap.size W0 v → v.cell? ⟨w.heap.size, k * 2, none⟩ = some (.slice (As k) (ns k) (cs k)) ∧ v.cell? ⟨w.heap.size, k * 2 + 1, none⟩ = some (.slice (Bs k) (ms k) (ds k))) := hide (fun k v hk hv => by
    have h := (hv.block _ (lt_of_heap HR.out)).trans HR.out
    rw [cell_of_row _ _ _ _ _ (0, 0) h, cell_of_row _ _ _ _ _ (0, 0) h]
    obtain rfl | rfl | rfl : k = 0 ∨ k = 1 ∨ k = 2 := by omega
    · exact ⟨rfl, rfl⟩
    · exact ⟨rfl, rfl⟩
    · exact ⟨rfl, rfl⟩)
  have HA : Hid (∀ k, k < 3 → Lies W0 (As k) (ns k) ((ss k).map (Value.int .i64))) := hide (fun k hk => (hA k hk).below HB0.out)
  have HB : Hid (∀ k, k < 3 → Lies W0 (Bs k) (ms k) ((ls k).map (Value.int .i32))) := hide (fun k hk => (hB k hk).below HB0.out)
  have HN := hide hn
  have HM := hide hm
  have hW0' := hW0.symm
  clear hW0 hA hB hn hm
  go_enter Try.func10, Try.ntmps10
  go_wp2
  go_loopw [3, 4] (fun x i wr => ∃ (k : Nat) (N : Int), k ≤ 3 ∧ i = .int .i64 k ∧ x = .int .i64 N ∧ 0 ≤ N ∧ N ≤ 100000 ∧ Hid (∀ j, j < k → tenOk (ss j) (ms j) = true ∧ ss j = ss 0) ∧ Hid (Below W0.heap.size W0 wr)) (fun _ i _ => 3 - (intOf i).toNat)
  case atStart => exact ⟨0, 0, by omega, rfl, rfl, by omega, by omega, hide (fun j hj => absurd hj (by omega)), hide (Below.refl _ _)⟩
  case round =>
    obtain ⟨k, N, hk, rfl, rfl, hN0, hN1, HJ, HW⟩ := hrel
    by_cases hlt : k < 3
    · have h0 : (0 : Int) ≤ (k : Int) := by omega
      have h3 : (k : Int) < 3 := by omega
      have hnk := HN.out k hlt
      have hmk := HM.out k hlt
      obtain ⟨An, hAn⟩ : ∃ x, x = As k := ⟨_, rfl⟩
      obtain ⟨Bn, hBn⟩ : ∃ x, x = Bs k := ⟨_, rfl⟩
      obtain ⟨n, hne⟩ : ∃ x, x = ns k := ⟨_, rfl⟩
      obtain ⟨c, hce⟩ : ∃ x, x = cs k := ⟨_, rfl⟩
      obtain ⟨m, hme⟩ : ∃ x, x = ms k := ⟨_, rfl⟩
      obtain ⟨d, hde⟩ : ∃ x, x = ds k := ⟨_, rfl⟩
      obtain ⟨s, hse⟩ : ∃ x, x = ss k := ⟨_, rfl⟩
      have HCk : Hid (∀ v, Below W0.heap.size W0 v → v.cell? ⟨w.heap.size, k * 2, none⟩ = some (.slice An n c) ∧ v.cell? ⟨w.heap.size, k * 2 + 1, none⟩ = some (.slice Bn m d)) := hide (fun v hv => by rw [hAn, hBn, hne, hce, hme, hde]; exact HC.out k v hlt hv)
      have HC0 : Hid (∀ v, Below W0.heap.size W0 v → v.cell? ⟨w.heap.size, 0, none⟩ = some (.slice (As 0) (ns 0) (cs 0))) := hide (fun v hv => (HC.out 0 v (by omega) hv).1)
      have HAk : Hid (Lies W0 An n (s.map (Value.int .i64))) := hide (by rw [hAn, hne, hse]; exact HA.out k hlt)
      have HA0 : Hid (Lies W0 (As 0) (ns 0) ((ss 0).map (Value.int .i64))) := hide (HA.out 0 (by omega))
      have HKE : Hid (tenOk s m = tenOk (ss k) (ms k) ∧ (s = ss 0 ↔ ss k = ss 0)) := hide (by rw [hse, hme]; exact ⟨rfl, Iff.rfl⟩)
      rw [← hne] at hnk
      rw [← hme] at hmk
      have hn0 := HN.out 0 (by omega)
      clear hAn hBn hne hce hme hde hse
      obtain ⟨c0, c1⟩ := HCk.out _ HW.out
      have ht0 := tsz_nn6 n m
      have ht1 := tsz_hi6 hnk hmk
      go_wp2_with fail
      refine Calls.mono (tsize_any An Bn n c m d _ (by omega) (by omega)) ?_
      rintro e u1 ⟨rfl, hb⟩
      have hb1 := below_nx6 HW.out hb
      clear hb c0 c1
      by_cases hgo : 100000 < N + (tsz n m : Int)
      · have HBF : Hid (∀ q, Below w.heap.size w (u1.drewN q)) := hide (fun q => HB0.out.trans (below_drewN (hb1.mono HB0.out.size) q))
        go_wp2
        go_quiet (fail)
        go_wp2
        go_ret
        exact ⟨false, rfl, fun h => absurd h (by decide), HBF.out _⟩
      · have hgo' : N + (tsz n m : Int) ≤ 100000 := by omega
        have hb2 : Below W0.heap.size W0 (u1.drewN 1) := below_drewN hb1 1
        have HK : Hid (∀ v, Below W0.heap.size W0 v → v.cell? ⟨w.heap.size, k * 2, none⟩ = some (.slice An n c) ∧ v.cell? ⟨w.heap.size, k * 2 + 1, none⟩ = some (.slice Bn m d) ∧ v.cell? ⟨w.heap.size, 0, none⟩ = some (.slice (As 0) (ns 0) (cs 0))) := hide (fun v hv => ⟨(HCk.out v hv).1, (HCk.out v hv).2, HC0.out v hv⟩)
        by_cases hok : tenOk s m = true
        · obtain ⟨SM, hSM⟩ : ∃ SM, SM = decide (s = ss 0) := ⟨_, rfl⟩
          have HSM := hide hSM
          clear hSM
          go_wp2
          have hS0 : Hid (u1.drew.cell? ⟨w.heap.size, k * 2, none⟩ = some (.slice An n c) ∧ u1.drew.cell? ⟨w.heap.size, k * 2 + 1, none⟩ = some (.slice Bn m d) ∧ u1.drew.cell? ⟨w.heap.size, 0, none⟩ = some (.slice (As 0) (ns 0) (cs 0))) := hide (HK.out _ hb2)
          refine wp_region_U (fun _ v => v.cell? ⟨w.heap.size, k * 2, none⟩ = some (.slice An n c) ∧ v.cell? ⟨w.heap.size, k * 2 + 1, none⟩ = some (.slice Bn m d) ∧ v.cell? ⟨w.heap.size, 0, none⟩ = some (.slice (As 0) (ns 0) (cs 0))) 50 (by kernel_rfl) ?_
          refine wpAnyU_take (i := 0) (oi := { dst := some 15, op := _, type := _, pos := _, after := _, guard := none }) (v := .int .i64 (N + (tsz n m : Int))) rfl (by kernel_rfl) (by kernel_rfl) (by kernel_rfl) (by kernel_rfl) (fun _ _ _ h => h) (yields_take rfl (fun w' hw => by obtain ⟨h1, h2, h3⟩ := hw.const; go_simp)) hS0.out ?_
          simp only [Act.put, List.setIfInBounds_toArray, List.set_cons_zero, List.set_cons_succ]
          refine wpAnyU_take (i := 1) (oi := { dst := some 16, op := _, type := _, pos := _, after := _, guard := none }) (v := .bool false) rfl (by kernel_rfl) (by kernel_rfl) (by kernel_rfl) (by kernel_rfl) (fun _ _ _ h => h) (yields_take rfl (fun w' hw => by obtain ⟨h1, h2, h3⟩ := hw.const; go_simp)) hS0.out ?_
          simp only [Act.put, List.setIfInBounds_toArray, List.set_cons_zero, List.set_cons_succ]
          refine wpAnyU_take (i := 2) (oi := { dst := some 17, op := _, type := _, pos := _, after := _, guard := none }) (v := .bool false) rfl (by kernel_rfl) (by kernel_rfl) (by kernel_rfl) (by kernel_rfl) (fun _ _ _ h => h) (yields_take rfl (fun w' hw => by obtain ⟨h1, h2, h3⟩ := hw.const; go_simp)) hS0.out ?_
          simp only [Act.put, List.setIfInBounds_toArray, List.set_cons_zero, List.set_cons_succ]
          refine wpAnyU_take (i := 3) (oi := { dst := some 18, op := _, type := _, pos := _, after := _, guard := some (2, false) }) (v := .int .i64 (k : Int)) rfl (by kernel_rfl) (by kernel_rfl) (by kernel_rfl) (by kernel_rfl) (fun _ _ _ h => h) (yields_take rfl (fun w' hw => by obtain ⟨h1, h2, h3⟩ := hw.const; go_simp)) hS0.out ?_
          simp only [Act.put, List.setIfInBounds_toArray, List.set_cons_zero, List.set_cons_succ]
          refine wpAnyU_take (i := 4) (oi := { dst := some 19, op := _, type := _, pos := _, after := _, guard := some (2, false) }) (v := .pointer (some ⟨w.heap.size, k * 2, none⟩)) rfl (by kernel_rfl) (by kernel_rfl) (by kernel_rfl) (by kernel_rfl) (fun _ _ _ h => h) (yields_take rfl (fun w' hw => by obtain ⟨h1, h2, h3⟩ := hw.const; go_simp)) hS0.out ?_
          simp only [Act.put, List.setIfInBounds_toArray, List.set_cons_zero, List.set_cons_succ]
          refine wpAnyU_take (i := 5) (oi := { dst := some 20, op := _, type := _, pos := _, after := _, guard := some (2, false) }) (v := .agg #[.slice An n c, .slice Bn m d]) rfl (by kernel_rfl) (by kernel_rfl) (by kernel_rfl) (by kernel_rfl) (fun _ _ _ h => h) (yields_take rfl (fun w' hw => by obtain ⟨h1, h2, h3⟩ := hw.const; go_simp)) hS0.out ?_
          simp only [Act.put, List.setIfInBounds_toArray, List.set_cons_zero, List.set_cons_succ]
          refine wpAnyU_one (i := 6) (by kernel_rfl) rfl ?_
          intro K hK
          go_simp
          refine Calls.mono (tcheck_any An Bn n c m d s _ (HAk.out.below hb2) (by omega)) ?_
          rw [hok]
          rintro e u2 ⟨rfl, hb⟩
          dsimp only
          have hb3 : Below W0.heap.size W0 u2 := below_nx6 hb2 hb
          have hS1 : Hid (u2.cell? ⟨w.heap.size, k * 2, none⟩ = some (.slice An n c) ∧ u2.cell? ⟨w.heap.size, k * 2 + 1, none⟩ = some (.slice Bn m d) ∧ u2.cell? ⟨w.heap.size, 0, none⟩ = some (.slice (As 0) (ns 0) (cs 0))) := hide (HK.out _ hb3)
          refine hK.out _ _ hS1.out (fun _ => ?_)
          clear hK K hS0 hb
          refine wpAnyU_take (i := 7) (oi := { dst := some 22, op := _, type := _, pos := _, after := _, guard := some (2, false) }) (v := .bool false) rfl (by kernel_rfl) (by kernel_rfl) (by kernel_rfl) (by kernel_rfl) (fun _ _ _ h => h) (yields_take rfl (fun w' hw => by obtain ⟨h1, h2, h3⟩ := hw.const; go_simp)) hS1.out ?_
          simp only [Act.put, List.setIfInBounds_toArray, List.set_cons_zero, List.set_cons_succ]
          refine wpAnyU_take (i := 8) (oi := { dst := some 23, op := _, type := _, pos := _, after := _, guard := none }) (v := .bool false) rfl (by kernel_rfl) (by kernel_rfl) (by kernel_rfl) (by kernel_rfl) (fun _ _ _ h => h) (yields_take rfl (fun w' hw => by obtain ⟨h1, h2, h3⟩ := hw.const; go_simp)) hS1.out ?_
          simp only [Act.put, List.setIfInBounds_toArray, List.set_cons_zero, List.set_cons_succ]
          refine wpAnyU_take (i := 9) (oi := { dst := some 24, op := _, type := _, pos := _, after := _, guard := none }) (v := .bool false) rfl (by kernel_rfl) (by kernel_rfl) (by kernel_rfl) (by kernel_rfl) (fun _ _ _ h => h) (yields_take rfl (fun w' hw => by obtain ⟨h1, h2, h3⟩ := hw.const; go_simp)) hS1.out ?_
          simp only [Act.put, List.setIfInBounds_toArray, List.set_cons_zero, List.set_cons_succ]
          refine wpAnyU_take (i := 10) (oi := { dst := some 25, op := _, type := _, pos := _, after := _, guard := some (9, false) }) (v := .int .i64 (k : Int)) rfl (by kernel_rfl) (by kernel_rfl) (by kernel_rfl) (by kernel_rfl) (fun _ _ _ h => h) (yields_take rfl (fun w' hw => by obtain ⟨h1, h2, h3⟩ := hw.const; go_simp)) hS1.out ?_
          simp only [Act.put, List.setIfInBounds_toArray, List.set_cons_zero, List.set_cons_succ]
          refine wpAnyU_take (i := 11) (oi := { dst := some 26, op := _, type := _, pos := _, after := _, guard := some (9, false) }) (v := .pointer (some ⟨w.heap.size, k * 2, none⟩)) rfl (by kernel_rfl) (by kernel_rfl) (by kernel_rfl) (by kernel_rfl) (fun _ _ _ h => h) (yields_take rfl (fun w' hw => by obtain ⟨h1, h2, h3⟩ := hw.const; go_simp)) hS1.out ?_
          simp only [Act.put, List.setIfInBounds_toArray, List.set_cons_zero, List.set_cons_succ]
          refine wpAnyU_take (i := 12) (oi := { dst := some 27, op := _, type := _, pos := _, after := _, guard := some (9, false) }) (v := .pointer (some ⟨w.heap.size, k * 2, none⟩)) rfl (by kernel_rfl) (by kernel_rfl) (by kernel_rfl) (by kernel_rfl) (fun _ _ _ h => h) (yields_take rfl (fun w' hw => by obtain ⟨h1, h2, h3⟩ := hw.const; go_simp)) hS1.out ?_
          simp only [Act.put, List.setIfInBounds_toArray, List.set_cons_zero, List.set_cons_succ]
          refine wpAnyU_take (i := 13) (oi := { dst := some 28, op := _, type := _, pos := _, after := _, guard := some (9, false) }) (v := .slice An n c) rfl (by kernel_rfl) (by kernel_rfl) (by kernel_rfl) (by kernel_rfl) (fun _ _ _ h => h) (yields_take rfl (fun w' hw => by obtain ⟨h1, h2, h3⟩ := hw.const; go_simp)) hS1.out ?_
          simp only [Act.put, List.setIfInBounds_toArray, List.set_cons_zero, List.set_cons_succ]
          refine wpAnyU_take (i := 14) (oi := { dst := some 29, op := _, type := _, pos := _, after := _, guard := some (9, false) }) (v := .pointer (some ⟨w.heap.size, 0, none⟩)) rfl (by kernel_rfl) (by kernel_rfl) (by kernel_rfl) (by kernel_rfl) (fun _ _ _ h => h) (yields_take rfl (fun w' hw => by obtain ⟨h1, h2, h3⟩ := hw.const; go_simp)) hS1.out ?_
          simp only [Act.put, List.setIfInBounds_toArray, List.set_cons_zero, List.set_cons_succ]
          refine wpAnyU_take (i := 15) (oi := { dst := some 30, op := _, type := _, pos := _, after := _, guard := some (9, false) }) (v := .pointer (some ⟨w.heap.size, 0, none⟩)) rfl (by kernel_rfl) (by kernel_rfl) (by kernel_rfl) (by kernel_rfl) (fun _ _ _ h => h) (yields_take rfl (fun w' hw => by obtain ⟨h1, h2, h3⟩ := hw.const; go_simp)) hS1.out ?_
          simp only [Act.put, List.setIfInBounds_toArray, List.set_cons_zero, List.set_cons_succ]
          refine wpAnyU_take (i := 16) (oi := { dst := some 31, op := _, type := _, pos := _, after := _, guard := some (9, false) }) (v := .slice (As 0) (ns 0) (cs 0)) rfl (by kernel_rfl) (by kernel_rfl) (by kernel_rfl) (by kernel_rfl) (fun _ _ _ h => h) (yields_take rfl (fun w' hw => by obtain ⟨h1, h2, h3⟩ := hw.const; go_simp)) hS1.out ?_
          simp only [Act.put, List.setIfInBounds_toArray, List.set_cons_zero, List.set_cons_succ]
          refine wpAnyU_one (i := 17) (by kernel_rfl) rfl ?_
          intro K hK
          go_simp
          refine Calls.mono (sameG_Ints An (As 0) n c (ns 0) (cs 0) s (ss 0) _ (HAk.out.below hb3) (HA0.out.below hb3) (by omega)) ?_
          rw [← HSM.out]
          rintro e u3 ⟨rfl, j3, hj3⟩
          dsimp only
          have hb4 : Below W0.heap.size W0 u3 := by rw [hj3]; exact below_drewN hb3 j3
          have hS2 : Hid (u3.cell? ⟨w.heap.size, k * 2, none⟩ = some (.slice An n c) ∧ u3.cell? ⟨w.heap.size, k * 2 + 1, none⟩ = some (.slice Bn m d) ∧ u3.cell? ⟨w.heap.size, 0, none⟩ = some (.slice (As 0) (ns 0) (cs 0))) := hide (HK.out _ hb4)
          refine hK.out _ _ hS2.out (fun _ => ?_)
          clear hK K hS1 hj3
          by_cases hsm : s = ss 0
          · have hSM2 : SM = true := by rw [HSM.out]; exact decide_eq_true hsm
            subst hSM2
            have HJN : Hid (∀ j, j < k + 1 → tenOk (ss j) (ms j) = true ∧ ss j = ss 0) := hide (fun j hj => by
              by_cases e : j = k
              · subst e
                exact ⟨by rw [← HKE.out.1]; exact hok, HKE.out.2.1 hsm⟩
              · exact HJ.out j (by omega))
            have HB4 := hide hb4
            have hM0 : 0 ≤ N + (tsz n m : Int) := by omega
            refine wpAnyU_take (i := 18) (oi := { dst := some 33, op := _, type := _, pos := _, after := _, guard := some (9, false) }) (v := .bool false) rfl (by kernel_rfl) (by kernel_rfl) (by kernel_rfl) (by kernel_rfl) (fun _ _ _ h => h) (yields_take rfl (fun w' hw => by obtain ⟨h1, h2, h3⟩ := hw.const; go_simp)) hS2.out ?_
            simp only [Act.put, List.setIfInBounds_toArray, List.set_cons_zero, List.set_cons_succ]
            refine wpAnyU_take (i := 19) (oi := { dst := some 34, op := _, type := _, pos := _, after := _, guard := none }) (v := .bool false) rfl (by kernel_rfl) (by kernel_rfl) (by kernel_rfl) (by kernel_rfl) (fun _ _ _ h => h) (yields_take rfl (fun w' hw => by obtain ⟨h1, h2, h3⟩ := hw.const; go_simp)) hS2.out ?_
            simp only [Act.put, List.setIfInBounds_toArray, List.set_cons_zero, List.set_cons_succ]
            refine wpAnyU_done (by kernel_rfl) ?_ _
            clear hS2
            go_wp2
            go_roundw
            case rel => exact ⟨k + 1, N + (tsz n m : Int), by omega, by go_num, by first | rfl | go_num, hM0, hgo', HJN, HB4⟩
            case measure => simp [intOf]; omega
          · have hSM2 : SM = false := by rw [HSM.out]; exact decide_eq_false hsm
            subst hSM2
            have HBF := hide (HB0.out.trans (hb4.mono HB0.out.size))
            refine wpAnyU_take (i := 18) (oi := { dst := some 33, op := _, type := _, pos := _, after := _, guard := some (9, false) }) (v := .bool true) rfl (by kernel_rfl) (by kernel_rfl) (by kernel_rfl) (by kernel_rfl) (fun _ _ _ h => h) (yields_take rfl (fun w' hw => by obtain ⟨h1, h2, h3⟩ := hw.const; go_simp)) hS2.out ?_
            simp only [Act.put, List.setIfInBounds_toArray, List.set_cons_zero, List.set_cons_succ]
            refine wpAnyU_take (i := 19) (oi := { dst := some 34, op := _, type := _, pos := _, after := _, guard := none }) (v := .bool true) rfl (by kernel_rfl) (by kernel_rfl) (by kernel_rfl) (by kernel_rfl) (fun _ _ _ h => h) (yields_take rfl (fun w' hw => by obtain ⟨h1, h2, h3⟩ := hw.const; go_simp)) hS2.out ?_
            simp only [Act.put, List.setIfInBounds_toArray, List.set_cons_zero, List.set_cons_succ]
            refine wpAnyU_done (by kernel_rfl) ?_ _
            clear hS2
            go_wp2
            go_ret
            exact ⟨false, rfl, fun h => absurd h (by decide), HBF.out⟩
        · go_wp2
          have hS0 : Hid (u1.drew.cell? ⟨w.heap.size, k * 2, none⟩ = some (.slice An n c) ∧ u1.drew.cell? ⟨w.heap.size, k * 2 + 1, none⟩ = some (.slice Bn m d) ∧ u1.drew.cell? ⟨w.heap.size, 0, none⟩ = some (.slice (As 0) (ns 0) (cs 0))) := hide (HK.out _ hb2)
          refine wp_region_U (fun _ v => v.cell? ⟨w.heap.size, k * 2, none⟩ = some (.slice An n c) ∧ v.cell? ⟨w.heap.size, k * 2 + 1, none⟩ = some (.slice Bn m d) ∧ v.cell? ⟨w.heap.size, 0, none⟩ = some (.slice (As 0) (ns 0) (cs 0))) 50 (by kernel_rfl) ?_
          refine wpAnyU_take (i := 0) (oi := { dst := some 15, op := _, type := _, pos := _, after := _, guard := none }) (v := .int .i64 (N + (tsz n m : Int))) rfl (by kernel_rfl) (by kernel_rfl) (by kernel_rfl) (by kernel_rfl) (fun _ _ _ h => h) (yields_take rfl (fun w' hw => by obtain ⟨h1, h2, h3⟩ := hw.const; go_simp)) hS0.out ?_
          simp only [Act.put, List.setIfInBounds_toArray, List.set_cons_zero, List.set_cons_succ]
          refine wpAnyU_take (i := 1) (oi := { dst := some 16, op := _, type := _, pos := _, after := _, guard := none }) (v := .bool false) rfl (by kernel_rfl) (by kernel_rfl) (by kernel_rfl) (by kernel_rfl) (fun _ _ _ h => h) (yields_take rfl (fun w' hw => by obtain ⟨h1, h2, h3⟩ := hw.const; go_simp)) hS0.out ?_
          simp only [Act.put, List.setIfInBounds_toArray, List.set_cons_zero, List.set_cons_succ]
          refine wpAnyU_take (i := 2) (oi := { dst := some 17, op := _, type := _, pos := _, after := _, guard := none }) (v := .bool false) rfl (by kernel_rfl) (by kernel_rfl) (by kernel_rfl) (by kernel_rfl) (fun _ _ _ h => h) (yields_take rfl (fun w' hw => by obtain ⟨h1, h2, h3⟩ := hw.const; go_simp)) hS0.out ?_
          simp only [Act.put, List.setIfInBounds_toArray, List.set_cons_zero, List.set_cons_succ]
          refine wpAnyU_take (i := 3) (oi := { dst := some 18, op := _, type := _, pos := _, after := _, guard := some (2, false) }) (v := .int .i64 (k : Int)) rfl (by kernel_rfl) (by kernel_rfl) (by kernel_rfl) (by kernel_rfl) (fun _ _ _ h => h) (yields_take rfl (fun w' hw => by obtain ⟨h1, h2, h3⟩ := hw.const; go_simp)) hS0.out ?_
          simp only [Act.put, List.setIfInBounds_toArray, List.set_cons_zero, List.set_cons_succ]
          refine wpAnyU_take (i := 4) (oi := { dst := some 19, op := _, type := _, pos := _, after := _, guard := some (2, false) }) (v := .pointer (some ⟨w.heap.size, k * 2, none⟩)) rfl (by kernel_rfl) (by kernel_rfl) (by kernel_rfl) (by kernel_rfl) (fun _ _ _ h => h) (yields_take rfl (fun w' hw => by obtain ⟨h1, h2, h3⟩ := hw.const; go_simp)) hS0.out ?_
          simp only [Act.put, List.setIfInBounds_toArray, List.set_cons_zero, List.set_cons_succ]
          refine wpAnyU_take (i := 5) (oi := { dst := some 20, op := _, type := _, pos := _, after := _, guard := some (2, false) }) (v := .agg #[.slice An n c, .slice Bn m d]) rfl (by kernel_rfl) (by kernel_rfl) (by kernel_rfl) (by kernel_rfl) (fun _ _ _ h => h) (yields_take rfl (fun w' hw => by obtain ⟨h1, h2, h3⟩ := hw.const; go_simp)) hS0.out ?_
          simp only [Act.put, List.setIfInBounds_toArray, List.set_cons_zero, List.set_cons_succ]
          refine wpAnyU_one (i := 6) (by kernel_rfl) rfl ?_
          intro K hK
          go_simp
          refine Calls.mono (tcheck_any An Bn n c m d s _ (HAk.out.below hb2) (by omega)) ?_
          rw [show tenOk s m = false by simpa using hok]
          rintro e u2 ⟨rfl, hb⟩
          dsimp only
          have hb3 : Below W0.heap.size W0 u2 := below_nx6 hb2 hb
          have hS1 : Hid (u2.cell? ⟨w.heap.size, k * 2, none⟩ = some (.slice An n c) ∧ u2.cell? ⟨w.heap.size, k * 2 + 1, none⟩ = some (.slice Bn m d) ∧ u2.cell? ⟨w.heap.size, 0, none⟩ = some (.slice (As 0) (ns 0) (cs 0))) := hide (HK.out _ hb3)
          refine hK.out _ _ hS1.out (fun _ => ?_)
          clear hK K hS0 hb
          refine wpAnyU_take (i := 7) (oi := { dst := some 22, op := _, type := _, pos := _, after := _, guard := some (2, false) }) (v := .bool true) rfl (by kernel_rfl) (by kernel_rfl) (by kernel_rfl) (by kernel_rfl) (fun _ _ _ h => h) (yields_take rfl (fun w' hw => by obtain ⟨h1, h2, h3⟩ := hw.const; go_simp)) hS1.out ?_
          simp only [Act.put, List.setIfInBounds_toArray, List.set_cons_zero, List.set_cons_succ]
          refine wpAnyU_take (i := 8) (oi := { dst := some 23, op := _, type := _, pos := _, after := _, guard := none }) (v := .bool true) rfl (by kernel_rfl) (by kernel_rfl) (by kernel_rfl) (by kernel_rfl) (fun _ _ _ h => h) (yields_take rfl (fun w' hw => by obtain ⟨h1, h2, h3⟩ := hw.const; go_simp)) hS1.out ?_
          simp only [Act.put, List.setIfInBounds_toArray, List.set_cons_zero, List.set_cons_succ]
          refine wpAnyU_take (i := 9) (oi := { dst := some 24, op := _, type := _, pos := _, after := _, guard := none }) (v := .bool true) rfl (by kernel_rfl) (by kernel_rfl) (by kernel_rfl) (by kernel_rfl) (fun _ _ _ h => h) (yields_take rfl (fun w' hw => by obtain ⟨h1, h2, h3⟩ := hw.const; go_simp)) hS1.out ?_
          simp only [Act.put, List.setIfInBounds_toArray, List.set_cons_zero, List.set_cons_succ]
          refine wpAnyU_take (i := 10) (oi := { dst := some 25, op := _, type := _, pos := _, after := _, guard := some (9, false) }) (v := undef) rfl (by kernel_rfl) (by kernel_rfl) (by kernel_rfl) (by kernel_rfl) (fun _ _ _ h => h) (.inr ⟨rfl, rfl⟩) hS1.out ?_
          simp only [Act.put, List.setIfInBounds_toArray, List.set_cons_zero, List.set_cons_succ]
          refine wpAnyU_take (i := 11) (oi := { dst := some 26, op := _, type := _, pos := _, after := _, guard := some (9, false) }) (v := undef) rfl (by kernel_rfl) (by kernel_rfl) (by kernel_rfl) (by kernel_rfl) (fun _ _ _ h => h) (.inr ⟨rfl, rfl⟩) hS1.out ?_
          simp only [Act.put, List.setIfInBounds_toArray, List.set_cons_zero, List.set_cons_succ]
          refine wpAnyU_take (i := 12) (oi := { dst := some 27, op := _, type := _, pos := _, after := _, guard := some (9, false) }) (v := undef) rfl (by kernel_rfl) (by kernel_rfl) (by kernel_rfl) (by kernel_rfl) (fun _ _ _ h => h) (.inr ⟨rfl, rfl⟩) hS1.out ?_
          simp only [Act.put, List.setIfInBounds_toArray, List.set_cons_zero, List.set_cons_succ]
          refine wpAnyU_take (i := 13) (oi := { dst := some 28, op := _, type := _, pos := _, after := _, guard := some (9, false) }) (v := undef) rfl (by kernel_rfl) (by kernel_rfl) (by kernel_rfl) (by kernel_rfl) (fun _ _ _ h => h) (.inr ⟨rfl, rfl⟩) hS1.out ?_
          simp only [Act.put, List.setIfInBounds_toArray, List.set_cons_zero, List.set_cons_succ]
          refine wpAnyU_take (i := 14) (oi := { dst := some 29, op := _, type := _, pos := _, after := _, guard := some (9, false) }) (v := undef) rfl (by kernel_rfl) (by kernel_rfl) (by kernel_rfl) (by kernel_rfl) (fun _ _ _ h => h) (.inr ⟨rfl, rfl⟩) hS1.out ?_
          simp only [Act.put, List.setIfInBounds_toArray, List.set_cons_zero, List.set_cons_succ]
          refine wpAnyU_take (i := 15) (oi := { dst := some 30, op := _, type := _, pos := _, after := _, guard := some (9, false) }) (v := undef) rfl (by kernel_rfl) (by kernel_rfl) (by kernel_rfl) (by kernel_rfl) (fun _ _ _ h => h) (.inr ⟨rfl, rfl⟩) hS1.out ?_
          simp only [Act.put, List.setIfInBounds_toArray, List.set_cons_zero, List.set_cons_succ]
          refine wpAnyU_take (i := 16) (oi := { dst := some 31, op := _, type := _, pos := _, after := _, guard := some (9, false) }) (v := undef) rfl (by kernel_rfl) (by kernel_rfl) (by kernel_rfl) (by kernel_rfl) (fun _ _ _ h => h) (.inr ⟨rfl, rfl⟩) hS1.out ?_
          simp only [Act.put, List.setIfInBounds_toArray, List.set_cons_zero, List.set_cons_succ]
          refine wpAnyU_take (i := 17) (oi := { dst := some 32, op := _, type := _, pos := _, after := _, guard := some (9, false) }) (v := undef) rfl (by kernel_rfl) (by kernel_rfl) (by kernel_rfl) (by kernel_rfl) (fun _ _ _ h => h) (.inr ⟨rfl, rfl⟩) hS1.out ?_
          simp only [Act.put, List.setIfInBounds_toArray, List.set_cons_zero, List.set_cons_succ]
          refine wpAnyU_take (i := 18) (oi := { dst := some 33, op := _, type := _, pos := _, after := _, guard := some (9, false) }) (v := undef) rfl (by kernel_rfl) (by kernel_rfl) (by kernel_rfl) (by kernel_rfl) (fun _ _ _ h => h) (.inr ⟨rfl, rfl⟩) hS1.out ?_
          simp only [Act.put, List.setIfInBounds_toArray, List.set_cons_zero, List.set_cons_succ]
          refine wpAnyU_take (i := 19) (oi := { dst := some 34, op := _, type := _, pos := _, after := _, guard := none }) (v := .bool true) rfl (by kernel_rfl) (by kernel_rfl) (by kernel_rfl) (by kernel_rfl) (fun _ _ _ h => h) (yields_take rfl (fun w' hw => by obtain ⟨h1, h2, h3⟩ := hw.const; go_simp)) hS1.out ?_
          simp only [Act.put, List.setIfInBounds_toArray, List.set_cons_zero, List.set_cons_succ]
          refine wpAnyU_done (by kernel_rfl) ?_ _
          clear hS1
          have HBF := hide (HB0.out.trans (hb3.mono HB0.out.size))
          go_wp2
          go_ret
          exact ⟨false, rfl, fun h => absurd h (by decide), HBF.out⟩
    · obtain rfl : k = 3 := by omega
      have HBF := hide (HB0.out.trans (HW.out.mono HB0.out.size))
      go_wp2
      go_ret
      exact ⟨true, rfl, fun _ => HJ.out, HBF.out⟩
end Go.Proofs.Ythdicobagmhpcaa
