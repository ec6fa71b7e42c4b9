/- Contracts of graphs.Check, SameInts and SameGrids. -/
import Derived.Test.YtdlhhkegkfhmoaaGr13M
import Derived.Test.YtdlhhkegkfhmoaaHelp10M
import Derived.Test.YtdlhhkegkfhmoaaWB
namespace Go.Proofs.Ytdlhhkegkfhmoaa
open Go.RowKit
set_option linter.unusedVariables false
set_option linter.unusedSimpArgs false
set_option maxRecDepth 100000

set_option maxHeartbeats 1000000 in
theorem gcheck_any (A : Option Addr) (n c : Nat) (ns : List Nd) (w : World) (h : NsIn w A n ns) (hn : n ≤ 1073741824) (hc : n ≤ c) :
    Calls Try.prog 11 #[.agg #[.slice A n c]] w fun e w' => e = .returned (.bool (gphB ns)) ∧ Below w.heap.size w w' := by
  obtain ⟨W0, hW0⟩ : ∃ W0, W0 = w.alloc (.cells #[.slice A n c] 24) := ⟨_, rfl⟩
  have HB0 : Hid (Below w.heap.size w W0) := hide (by rw [hW0]; exact below_al6 (Below.refl _ _))
  have c0 : W0.cell? ⟨w.heap.size, 0, none⟩ = some (.slice A n c) := by rw [hW0]; exact cell_of_row _ _ 0 _ _ (0, 0) (heap_alloc_new w _)
  have HC := hide (gshapes_any A n c ns W0 (h.below HB0.out) hn hc)
  have hW0' := hW0.symm
  clear hW0 h
  have HE := hide (@gphE_zero ns)
  obtain ⟨E, hE⟩ : ∃ z, z = gphE ns := ⟨_, rfl⟩
  obtain ⟨B, hB⟩ : ∃ z, z = gphB ns := ⟨_, rfl⟩
  rw [← hE] at HC HE
  rw [← hB] at HE ⊢
  clear hE hB
  go_enter Try.func11, Try.ntmps11
  go_wp2_with fail
  refine Calls.mono HC.out ?_
  rintro e w1 ⟨R, m, kc, gs, rfl, _, _, hb⟩
  have HB := hide (below_nx6 HB0.out hb)
  clear hb c0 HC
  by_cases h0 : E = 0
  · obtain rfl : B = true := HE.out.1 h0
    subst h0
    go_wp2
    go_ret
    exact ⟨rfl, HB.out⟩
  · obtain rfl : B = false := by
      cases B with
      | false => rfl
      | true => exact absurd (HE.out.2 rfl) h0
    have e0 : (E == 0) = false := by simpa using h0
    clear h0
    go_wp2
    go_ret
    exact ⟨rfl, HB.out⟩

theorem take_oneS {α : Type} {l : List α} {k : Nat} {x : α} (h : l[k]? = some x) : l.take (k + 1) = l.take k ++ [x] := by
  obtain ⟨h1, h2⟩ := List.getElem?_eq_some_iff.1 h
  rw [List.take_succ_eq_append_getElem h1, h2]

theorem sameI_any (A B : Option Addr) (n c m d : Nat) (xs ys : List Int) (w : World) (h : Lies w A n (xs.map (Value.int .i64))) (k : Lies w B m (ys.map (Value.int .i64))) (hm : n ≤ 281474976710656) :
    Calls Try.prog 13 #[.slice A n c, .slice B m d] w fun e w' => e = .returned (.bool (decide (xs = ys))) ∧ Below w.heap.size w w' :=
  Calls.mono (sameG_Ints A B n c m d xs ys w h k hm) (fun e w' h => ⟨h.1, by obtain ⟨j, rfl⟩ := h.2; exact below_drewN (Below.refl _ _) j⟩)

set_option maxHeartbeats 2000000 in
theorem sameGrids_any (A B : Option Addr) (n c m d : Nat) (gs hs : List Sg) (w : World) (hA : SgAt w A n gs) (hB : SgAt w B m hs) (hn : n ≤ 1073741824) (hm : m ≤ 1073741824) :
    Calls Try.prog 18 #[.slice A n c, .slice B m d] w fun e w' => e = .returned (.bool (decide (gs.map Sg.s = hs.map Sg.s))) ∧ Below w.heap.size w w' := by
  have HA := hide hA
  have HB := hide hB
  have HL : Hid ((gs.map Sg.s).length = n ∧ (hs.map Sg.s).length = m) := hide ⟨by rw [List.length_map, hA.1], by rw [List.length_map, hB.1]⟩
  obtain ⟨E, hE⟩ : ∃ z, z = decide (gs.map Sg.s = hs.map Sg.s) := ⟨_, rfl⟩
  rw [← hE]
  have HE := hide hE
  clear hA hB hE
  go_enter Try.func18, Try.ntmps18
  by_cases hnm : n = m
  · subst hnm
    have e0 : ((n : Int) == (n : Int)) = true := by simp
    go_wp2
    go_loopw [5] (fun i wr => ∃ k : Nat, k ≤ n ∧ i = .int .i64 k ∧ Hid ((gs.map Sg.s).take k = (hs.map Sg.s).take k) ∧ Hid (Below w.heap.size w wr)) (fun i _ => n - (intOf i).toNat)
    case atStart => exact ⟨0, Nat.zero_le _, rfl, hide rfl, hide (Below.refl _ _)⟩
    case round =>
      obtain ⟨k, hk, rfl, HP, HBR⟩ := hrel
      by_cases hlt : k < n
      · obtain ⟨bA, oA, g, rfl, hg, hcg, hlg, hg1, hg2⟩ := (HA.out.below HBR.out).at hlt
        obtain ⟨bB, oB, q, rfl, hq, hcq, hlq, hq1, hq2⟩ := (HB.out.below HBR.out).at hlt
        have HCG : Hid (∀ v, Below wr.heap.size wr v → v.cell? ⟨bA, oA + k, none⟩ = some (.slice g.A g.n g.c) ∧ v.cell? ⟨bB, oB + k, none⟩ = some (.slice q.A q.n q.c)) := hide (fun v hv => ⟨(hv.cell (World.block_lt_of_cell? wr _ hcg)).trans hcg, (hv.cell (World.block_lt_of_cell? wr _ hcq)).trans hcq⟩)
        have HLG := hide hlg
        have HLQ := hide hlq
        have HGT : Hid ((gs.map Sg.s).take (k + 1) = (gs.map Sg.s).take k ++ [g.s]) := hide (take_oneS (by rw [List.getElem?_map, hg]; rfl))
        have HQT : Hid ((hs.map Sg.s).take (k + 1) = (hs.map Sg.s).take k ++ [q.s]) := hide (take_oneS (by rw [List.getElem?_map, hq]; rfl))
        have j00 : (0 : Int) ≤ (k : Int) := by omega
        have j10 : (k : Int) < (n : Int) := by omega
        have hd0 : Below wr.heap.size wr wr.drew := below_drewN (Below.refl _ _) 1
        obtain ⟨D, hD⟩ : ∃ z, z = decide (g.s = q.s) := ⟨_, rfl⟩
        have HD := hide hD
        clear hcg hcq hlg hlq hg hq hD
        go_wp2
        have hS0 : Hid (wr.drew.cell? ⟨bA, oA + k, none⟩ = some (.slice g.A g.n g.c) ∧ wr.drew.cell? ⟨bB, oB + k, none⟩ = some (.slice q.A q.n q.c)) := hide (HCG.out _ hd0)
        refine wp_region_U (fun _ v => v.cell? ⟨bA, oA + k, none⟩ = some (.slice g.A g.n g.c) ∧ v.cell? ⟨bB, oB + k, none⟩ = some (.slice q.A q.n q.c)) 99 (by kernel_rfl) ?_
        refine wpAnyU_take (i := 0) (oi := { dst := some 17, op := _, type := _, pos := _, after := _, guard := none }) (v := .slice (some ⟨bA, oA, none⟩) n c) rfl (by kernel_rfl) (by kernel_rfl) (by kernel_rfl) (by kernel_rfl) (fun _ _ _ h => h) (yields_take rfl (fun w' hw => by obtain ⟨h1, h2⟩ := hw.const; go_simp)) hS0.out ?_
        simp only [Act.put, List.setIfInBounds_toArray, List.set_cons_zero, List.set_cons_succ]
        refine wpAnyU_take (i := 1) (oi := { dst := some 18, op := _, type := _, pos := _, after := _, guard := none }) (v := .int .i64 (k : Int)) rfl (by kernel_rfl) (by kernel_rfl) (by kernel_rfl) (by kernel_rfl) (fun _ _ _ h => h) (yields_take rfl (fun w' hw => by obtain ⟨h1, h2⟩ := hw.const; go_simp)) hS0.out ?_
        simp only [Act.put, List.setIfInBounds_toArray, List.set_cons_zero, List.set_cons_succ]
        refine wpAnyU_take (i := 2) (oi := { dst := some 19, op := _, type := _, pos := _, after := _, guard := none }) (v := .pointer (some ⟨bA, oA + k, none⟩)) rfl (by kernel_rfl) (by kernel_rfl) (by kernel_rfl) (by kernel_rfl) (fun _ _ _ h => h) (yields_take rfl (fun w' hw => by obtain ⟨h1, h2⟩ := hw.const; go_simp)) hS0.out ?_
        simp only [Act.put, List.setIfInBounds_toArray, List.set_cons_zero, List.set_cons_succ]
        refine wpAnyU_take (i := 3) (oi := { dst := some 20, op := _, type := _, pos := _, after := _, guard := none }) (v := .slice g.A g.n g.c) rfl (by kernel_rfl) (by kernel_rfl) (by kernel_rfl) (by kernel_rfl) (fun _ _ _ h => h) (yields_take rfl (fun w' hw => by obtain ⟨h1, h2⟩ := hw.const; go_simp)) hS0.out ?_
        simp only [Act.put, List.setIfInBounds_toArray, List.set_cons_zero, List.set_cons_succ]
        refine wpAnyU_take (i := 4) (oi := { dst := some 21, op := _, type := _, pos := _, after := _, guard := none }) (v := .slice (some ⟨bB, oB, none⟩) n d) rfl (by kernel_rfl) (by kernel_rfl) (by kernel_rfl) (by kernel_rfl) (fun _ _ _ h => h) (yields_take rfl (fun w' hw => by obtain ⟨h1, h2⟩ := hw.const; go_simp)) hS0.out ?_
        simp only [Act.put, List.setIfInBounds_toArray, List.set_cons_zero, List.set_cons_succ]
        refine wpAnyU_take (i := 5) (oi := { dst := some 22, op := _, type := _, pos := _, after := _, guard := none }) (v := .int .i64 (k : Int)) rfl (by kernel_rfl) (by kernel_rfl) (by kernel_rfl) (by kernel_rfl) (fun _ _ _ h => h) (yields_take rfl (fun w' hw => by obtain ⟨h1, h2⟩ := hw.const; go_simp)) hS0.out ?_
        simp only [Act.put, List.setIfInBounds_toArray, List.set_cons_zero, List.set_cons_succ]
        refine wpAnyU_take (i := 6) (oi := { dst := some 23, op := _, type := _, pos := _, after := _, guard := none }) (v := .pointer (some ⟨bB, oB + k, none⟩)) rfl (by kernel_rfl) (by kernel_rfl) (by kernel_rfl) (by kernel_rfl) (fun _ _ _ h => h) (yields_take rfl (fun w' hw => by obtain ⟨h1, h2⟩ := hw.const; go_simp)) hS0.out ?_
        simp only [Act.put, List.setIfInBounds_toArray, List.set_cons_zero, List.set_cons_succ]
        refine wpAnyU_take (i := 7) (oi := { dst := some 24, op := _, type := _, pos := _, after := _, guard := none }) (v := .slice q.A q.n q.c) rfl (by kernel_rfl) (by kernel_rfl) (by kernel_rfl) (by kernel_rfl) (fun _ _ _ h => h) (yields_take rfl (fun w' hw => by obtain ⟨h1, h2⟩ := hw.const; go_simp)) hS0.out ?_
        simp only [Act.put, List.setIfInBounds_toArray, List.set_cons_zero, List.set_cons_succ]
        refine wpAnyU_one (i := 8) (by kernel_rfl) rfl ?_
        intro K hK
        go_simp
        refine Calls.mono (sameI_any g.A q.A g.n g.c q.n q.c g.s q.s _ (HLG.out.below hd0) (HLQ.out.below hd0) (by omega)) ?_
        rintro e w1 ⟨rfl, hb⟩
        dsimp only
        rw [← HD.out]
        have hd1 : Below wr.heap.size wr w1 := below_nx6 hd0 hb
        clear hb
        have hS1 : Hid (w1.cell? ⟨bA, oA + k, none⟩ = some (.slice g.A g.n g.c) ∧ w1.cell? ⟨bB, oB + k, none⟩ = some (.slice q.A q.n q.c)) := hide (HCG.out _ hd1)
        refine hK.out _ _ hS1.out (fun _ => ?_)
        clear hK K hS0
        refine wpAnyU_take (i := 9) (oi := { dst := some 26, op := _, type := _, pos := _, after := _, guard := none }) (v := .bool (!D)) rfl (by kernel_rfl) (by kernel_rfl) (by kernel_rfl) (by kernel_rfl) (fun _ _ _ h => h) (yields_take rfl (fun w' hw => by obtain ⟨h1, h2⟩ := hw.const; go_simp)) hS1.out ?_
        simp only [Act.put, List.setIfInBounds_toArray, List.set_cons_zero, List.set_cons_succ]
        refine wpAnyU_done (by kernel_rfl) ?_ _
        clear hS1
        have HB1 := hide (below_nx6 HBR.out hd1)
        cases D with
        | true =>
          have HP2 : Hid ((gs.map Sg.s).take (k + 1) = (hs.map Sg.s).take (k + 1)) := hide (by rw [HGT.out, HQT.out, HP.out, of_decide_eq_true HD.out.symm])
          go_wp2
          go_roundw
          case rel => exact ⟨k + 1, by omega, by go_num, HP2, HB1⟩
          case measure => simp [intOf] <;> omega
        | false =>
          obtain rfl : E = false := by
            rw [HE.out]
            refine decide_eq_false (fun h => of_decide_eq_false HD.out.symm ?_)
            have h1 := congrArg (List.take (k + 1)) h
            rw [HGT.out, HQT.out] at h1
            have h2 := List.append_inj_right' h1 rfl
            simpa using h2
          go_wp2
          go_ret
          exact ⟨rfl, HB1.out⟩
      · obtain rfl : k = n := by omega
        obtain rfl : E = true := by
          rw [HE.out]
          have h := HP.out
          rw [List.take_of_length_le (by rw [HL.out.1]; exact Nat.le_refl _), List.take_of_length_le (by rw [HL.out.2]; exact Nat.le_refl _)] at h
          exact decide_eq_true h
        have f1 : ¬ ((k : Int) < (k : Int)) := by omega
        go_wp2
        go_ret
        exact ⟨rfl, HBR.out⟩
  · obtain rfl : E = false := by
      rw [HE.out]
      refine decide_eq_false (fun h => hnm ?_)
      have := congrArg List.length h
      rw [HL.out.1, HL.out.2] at this
      exact this
    have e0 : ((n : Int) == (m : Int)) = false := beq_eq_false_iff_ne.2 (by omega)
    go_wp2
    go_ret
    exact ⟨rfl, Below.refl _ _⟩

end Go.Proofs.Ytdlhhkegkfhmoaa
