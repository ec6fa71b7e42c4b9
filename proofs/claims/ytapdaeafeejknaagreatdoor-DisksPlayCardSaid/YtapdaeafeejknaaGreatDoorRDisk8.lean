/- Contracts of the document's disk: Rot. -/
import Derived.Test.YtapdaeafeejknaaGreatDoorRDisk7
namespace Go.Proofs.YtapdaeafeejknaaGreatDoor
open Go.RowKit
set_option maxRecDepth 20000
set_option linter.unusedVariables false
set_option linter.unusedSimpArgs false

theorem rrot_arg {B : Nat} {L : RLoc} {dur : List Sec} {pend : List Wr} (n p y : Int) (w : World) (h : RAt B w L dur pend) (hn : n < 0 ∨ (dur.length : Int) ≤ n ∨ p < 0 ∨ 64 ≤ p) :
    Calls Tryz.prog 15 #[L.ptr, .int .i64 n, .int .i64 p, .int .u8 y] w fun e w' => e = .returned (.int .i64 1) ∧ w = w' := by
  obtain ⟨h0, h1, h2⟩ := h.cell
  clear h h0 h2
  by_cases hneg : n < 0
  · clear hn
    go_enter Tryz.func15, Tryz.ntmps15
    unfold RLoc.ptr
    go_wp2
    go_ret
    exact ⟨rfl, rfl⟩
  · by_cases hge : (dur.length : Int) ≤ n
    · clear hn
      go_enter Tryz.func15, Tryz.ntmps15
      unfold RLoc.ptr
      go_wp2
      go_ret
      exact ⟨rfl, rfl⟩
    · have f0 : 0 ≤ n := by omega
      have f1 : n < (dur.length : Int) := by omega
      by_cases hp0 : p < 0
      · clear hn hneg hge
        go_enter Tryz.func15, Tryz.ntmps15
        unfold RLoc.ptr
        go_wp2
        go_ret
        exact ⟨rfl, rfl⟩
      · have hp64 : 64 ≤ p := by omega
        clear hn hneg hge
        go_enter Tryz.func15, Tryz.ntmps15
        unfold RLoc.ptr
        go_wp2
        go_ret
        exact ⟨rfl, rfl⟩

set_option maxRecDepth 100000 in
set_option maxHeartbeats 16000000 in
theorem rrot_ok {B : Nat} {L : RLoc} {dur : List Sec} {pend : List Wr} (n p : Nat) (y : Int) (w : World) (h : RAt B w L dur pend) (hn : n < dur.length) (hp64 : p < 64) (hy : 0 ≤ y ∧ y < 256) (hp : pend.length ≤ 1000000000) :
    Calls Tryz.prog 15 #[L.ptr, .int .i64 (n : Int), .int .i64 (p : Int), .int .u8 y] w fun e w' => e = .returned (.int .i64 0) ∧ RAt B w' L (rotD n p y dur) (pend.map (rotW n p y)) ∧ Turns w w' L.has := by
  have HD := hide h
  obtain ⟨pA, pc, hpf⟩ := waits_form h.waits
  have HPF := hide hpf
  have hmx := h.max
  have HN := hide hn
  have hn1 : n < (seenOf dur pend).length := by rw [seen_len]; exact hn
  have HN1 := hide hn1
  have hok1 := secAt_ok (seen_ok h.okS (fun x hx => (h.okW x hx).1)) hn1
  have hok2 := secAt_ok h.okS hn
  obtain ⟨b1, hb1⟩ : ∃ b, b = (secAt (seenOf dur pend) n).b := ⟨_, rfl⟩
  obtain ⟨b2, hb2⟩ : ∃ b, b = (secAt dur n).b := ⟨_, rfl⟩
  have c1a := h.cell.2.1
  have c2a := h.seen.cellB hn1
  rw [← hb1] at c2a hok1
  rw [← hb2] at hok2
  unfold strV at c2a
  have HOKBa := hide hok1
  have HOKBb := hide hok2
  have HE1 := hide hb1
  have HE2 := hide hb2
  have a1 : (0 : Int) ≤ (n : Int) := by omega
  have a2 : (n : Int) < (dur.length : Int) := by omega
  have a3 : (0 : Int) ≤ (p : Int) := by omega
  have a4 : (p : Int) < 64 := by omega
  have HTOP := hide h.top
  clear h hpf hn hn1 hok1 hok2 hb1 hb2
  go_enter Tryz.func15, Tryz.ntmps15
  unfold RLoc.ptr
  go_wp2_with fail
  have hSaa : Hid (w.drew.cell? ⟨L.g, 1, none⟩ = some (.slice (some ⟨L.gs, 0, none⟩) dur.length L.cs) ∧ w.drew.cell? ⟨L.gs, n * 2, none⟩ = some (.string (strOfNums b1))) := hide ⟨c1a, c2a⟩
  refine wp_region_U (fun bb w' => bb = false → w'.cell? ⟨L.g, 1, none⟩ = some (.slice (some ⟨L.gs, 0, none⟩) dur.length L.cs) ∧ w'.cell? ⟨L.gs, n * 2, none⟩ = some (.string (strOfNums b1))) 18 (by kernel_rfl) ?_
  refine wpAnyU_take (i := 0) (oi := { dst := some 29, op := _, type := _, pos := _, after := _, guard := none }) (v := .pointer (some ⟨L.g, 0, none⟩)) rfl (by kernel_rfl) (by kernel_rfl) (by kernel_rfl) (by kernel_rfl) (fun _ _ _ h => h) (yields_take rfl (fun w' hw => by go_simp)) (fun _ => hSaa.out) ?_
  simp only [Act.put, List.setIfInBounds_toArray, List.set_cons_zero, List.set_cons_succ]
  refine wpAnyU_take (i := 1) (oi := { dst := some 30, op := _, type := _, pos := _, after := _, guard := none }) (v := .pointer (some ⟨L.g, 0, none⟩)) rfl (by kernel_rfl) (by kernel_rfl) (by kernel_rfl) (by kernel_rfl) (fun _ _ _ h => h) (yields_take rfl (fun w' hw => by go_simp)) (fun _ => hSaa.out) ?_
  simp only [Act.put, List.setIfInBounds_toArray, List.set_cons_zero, List.set_cons_succ]
  refine wpAnyU_take (i := 2) (oi := { dst := some 31, op := _, type := _, pos := _, after := _, guard := none }) (v := .pointer (some ⟨L.g, 1, none⟩)) rfl (by kernel_rfl) (by kernel_rfl) (by kernel_rfl) (by kernel_rfl) (fun _ _ _ h => h) (yields_take rfl (fun w' hw => by go_simp)) (fun _ => hSaa.out) ?_
  simp only [Act.put, List.setIfInBounds_toArray, List.set_cons_zero, List.set_cons_succ]
  refine wpAnyU_take (i := 3) (oi := { dst := some 32, op := _, type := _, pos := _, after := _, guard := none }) (v := .slice (some ⟨L.gs, 0, none⟩) dur.length L.cs) rfl (by kernel_rfl) (by kernel_rfl) (by kernel_rfl) (by kernel_rfl) (fun _ _ _ h => h) (yields_take rfl (fun w' hw => by have hc := hw.no (by kernel_rfl) rfl; obtain ⟨hc1, hc2⟩ := hc; go_simp)) (fun _ => hSaa.out) ?_
  simp only [Act.put, List.setIfInBounds_toArray, List.set_cons_zero, List.set_cons_succ]
  refine wpAnyU_take (i := 4) (oi := { dst := some 33, op := _, type := _, pos := _, after := _, guard := none }) (v := .int .i64 (n : Int)) rfl (by kernel_rfl) (by kernel_rfl) (by kernel_rfl) (by kernel_rfl) (fun _ _ _ h => h) (yields_take rfl (fun w' hw => by go_simp)) (fun _ => hSaa.out) ?_
  simp only [Act.put, List.setIfInBounds_toArray, List.set_cons_zero, List.set_cons_succ]
  refine wpAnyU_take (i := 5) (oi := { dst := some 34, op := _, type := _, pos := _, after := _, guard := none }) (v := .pointer (some ⟨L.g, 0, none⟩)) rfl (by kernel_rfl) (by kernel_rfl) (by kernel_rfl) (by kernel_rfl) (fun _ _ _ h => h) (yields_take rfl (fun w' hw => by go_simp)) (fun _ => hSaa.out) ?_
  simp only [Act.put, List.setIfInBounds_toArray, List.set_cons_zero, List.set_cons_succ]
  refine wpAnyU_take (i := 6) (oi := { dst := some 35, op := _, type := _, pos := _, after := _, guard := none }) (v := .pointer (some ⟨L.g, 0, none⟩)) rfl (by kernel_rfl) (by kernel_rfl) (by kernel_rfl) (by kernel_rfl) (fun _ _ _ h => h) (yields_take rfl (fun w' hw => by go_simp)) (fun _ => hSaa.out) ?_
  simp only [Act.put, List.setIfInBounds_toArray, List.set_cons_zero, List.set_cons_succ]
  refine wpAnyU_take (i := 7) (oi := { dst := some 36, op := _, type := _, pos := _, after := _, guard := none }) (v := .pointer (some ⟨L.g, 1, none⟩)) rfl (by kernel_rfl) (by kernel_rfl) (by kernel_rfl) (by kernel_rfl) (fun _ _ _ h => h) (yields_take rfl (fun w' hw => by go_simp)) (fun _ => hSaa.out) ?_
  simp only [Act.put, List.setIfInBounds_toArray, List.set_cons_zero, List.set_cons_succ]
  refine wpAnyU_take (i := 8) (oi := { dst := some 37, op := _, type := _, pos := _, after := _, guard := none }) (v := .slice (some ⟨L.gs, 0, none⟩) dur.length L.cs) rfl (by kernel_rfl) (by kernel_rfl) (by kernel_rfl) (by kernel_rfl) (fun _ _ _ h => h) (yields_take rfl (fun w' hw => by have hc := hw.no (by kernel_rfl) rfl; obtain ⟨hc1, hc2⟩ := hc; go_simp)) (fun _ => hSaa.out) ?_
  simp only [Act.put, List.setIfInBounds_toArray, List.set_cons_zero, List.set_cons_succ]
  refine wpAnyU_take (i := 9) (oi := { dst := some 38, op := _, type := _, pos := _, after := _, guard := none }) (v := .int .i64 (n : Int)) rfl (by kernel_rfl) (by kernel_rfl) (by kernel_rfl) (by kernel_rfl) (fun _ _ _ h => h) (yields_take rfl (fun w' hw => by go_simp)) (fun _ => hSaa.out) ?_
  simp only [Act.put, List.setIfInBounds_toArray, List.set_cons_zero, List.set_cons_succ]
  refine wpAnyU_take (i := 10) (oi := { dst := some 39, op := _, type := _, pos := _, after := _, guard := none }) (v := .pointer (some ⟨L.gs, n * 2, none⟩)) rfl (by kernel_rfl) (by kernel_rfl) (by kernel_rfl) (by kernel_rfl) (fun _ _ _ h => h) (yields_take rfl (fun w' hw => by go_simp)) (fun _ => hSaa.out) ?_
  simp only [Act.put, List.setIfInBounds_toArray, List.set_cons_zero, List.set_cons_succ]
  refine wpAnyU_take (i := 11) (oi := { dst := some 40, op := _, type := _, pos := _, after := _, guard := none }) (v := .pointer (some ⟨L.gs, n * 2, none⟩)) rfl (by kernel_rfl) (by kernel_rfl) (by kernel_rfl) (by kernel_rfl) (fun _ _ _ h => h) (yields_take rfl (fun w' hw => by go_simp)) (fun _ => hSaa.out) ?_
  simp only [Act.put, List.setIfInBounds_toArray, List.set_cons_zero, List.set_cons_succ]
  refine wpAnyU_take (i := 12) (oi := { dst := some 41, op := _, type := _, pos := _, after := _, guard := none }) (v := .string (strOfNums b1)) rfl (by kernel_rfl) (by kernel_rfl) (by kernel_rfl) (by kernel_rfl) (fun _ _ _ h => h) (yields_take rfl (fun w' hw => by have hc := hw.no (by kernel_rfl) rfl; obtain ⟨hc1, hc2⟩ := hc; go_simp)) (fun _ => hSaa.out) ?_
  simp only [Act.put, List.setIfInBounds_toArray, List.set_cons_zero, List.set_cons_succ]
  refine wpAnyU_take (i := 13) (oi := { dst := some 42, op := _, type := _, pos := _, after := _, guard := none }) (v := .int .i64 (p : Int)) rfl (by kernel_rfl) (by kernel_rfl) (by kernel_rfl) (by kernel_rfl) (fun _ _ _ h => h) (yields_take rfl (fun w' hw => by go_simp)) (fun _ => hSaa.out) ?_
  simp only [Act.put, List.setIfInBounds_toArray, List.set_cons_zero, List.set_cons_succ]
  refine wpAnyU_take (i := 14) (oi := { dst := some 43, op := _, type := _, pos := _, after := _, guard := none }) (v := .int .u8 y) rfl (by kernel_rfl) (by kernel_rfl) (by kernel_rfl) (by kernel_rfl) (fun _ _ _ h => h) (yields_take rfl (fun w' hw => by go_simp)) (fun _ => hSaa.out) ?_
  simp only [Act.put, List.setIfInBounds_toArray, List.set_cons_zero, List.set_cons_succ]
  refine wpAnyU_one (i := 15) (by kernel_rfl) rfl ?_
  intro K hK
  go_simp
  refine Calls.mono (turned_any b1 p y _ HOKBa.out hp64 hy) ?_
  rintro e w1 ⟨rfl, hbx⟩
  unfold strV
  dsimp only
  have hSba : Hid (w1.cell? ⟨L.g, 1, none⟩ = some (.slice (some ⟨L.gs, 0, none⟩) dur.length L.cs) ∧ w1.cell? ⟨L.gs, n * 2, none⟩ = some (.string (strOfNums b1))) := hide ⟨cell_kept3 hbx hSaa.out.1, cell_kept3 hbx hSaa.out.2⟩
  have HBa : Hid (Below w.heap.size w w1) := hide ((below_drewN (Below.refl w.heap.size w) 1).trans hbx)
  refine hK.out _ _ (fun _ => hSba.out) (fun _ => ?_)
  clear hK K hSaa hbx
  refine wpAnyU_take (i := 16) (oi := { dst := some 45, op := _, type := _, pos := _, after := _, guard := none }) (v := .pointer (some ⟨L.gs, n * 2, none⟩)) rfl (by kernel_rfl) (by kernel_rfl) (by kernel_rfl) (by kernel_rfl) (fun _ _ _ h => h) (yields_take rfl (fun w' hw => by go_simp)) (fun _ => hSba.out) ?_
  simp only [Act.put, List.setIfInBounds_toArray, List.set_cons_zero, List.set_cons_succ]
  refine wpAnyU_take (i := 17) (oi := { dst := some 46, op := _, type := _, pos := _, after := _, guard := none }) (v := .pointer (some ⟨L.gs, n * 2, none⟩)) rfl (by kernel_rfl) (by kernel_rfl) (by kernel_rfl) (by kernel_rfl) (fun _ _ _ h => h) (yields_take rfl (fun w' hw => by go_simp)) (fun _ => hSba.out) ?_
  simp only [Act.put, List.setIfInBounds_toArray, List.set_cons_zero, List.set_cons_succ]
  have z1a := hSba.out.2
  have z2a : w1.frozen? ⟨L.gs, n * 2, none⟩ = false := (HD.out.below HBa.out).seen.frozen _
  obtain ⟨W2, hW2⟩ : ∃ W2, w1.setCell ⟨L.gs, n * 2, none⟩ (.string (strOfNums (xorB b1 p y))) = W2 := ⟨_, rfl⟩
  refine wpAnyU_one (i := 18) (by kernel_rfl) rfl ?_
  intro K hK
  go_simp
  refine hK.out _ _ (fun h => absurd h (by decide)) (fun _ => ?_)
  clear hK K z1a z2a hSba
  refine wpAnyU_done (by kernel_rfl) ?_ _
  have HD1 := hide (HD.out.below HBa.out)
  have HS2 : Hid (RSR B W2 L.gs L.cs (rotD n p y (seenOf dur pend))) := hide (by
    have h := (HD1.out.seen.setB HN1.out (xorB b1 p y)).1
    unfold strV at h
    rw [hW2] at h
    rw [HE1.out] at h
    exact h)
  have HO2 : Hid (∀ b, b ≠ L.gs → W2.heap[b]? = w1.heap[b]?) := hide (fun b hb => by rw [← hW2]; exact heap_setCell_other w1 ⟨L.gs, n * 2, none⟩ b _ hb)
  have HQ2 : Hid (W2.os = w1.os ∧ W2.tape = w1.tape ∧ W2.output = w1.output ∧ W2.heap.size = w1.heap.size) := hide (by rw [← hW2]; exact ⟨rfl, rfl, rfl, World.size_setCell _ _ _⟩)
  have HD2 : Hid (RSR B W2 L.gd L.cd dur) := hide (HD1.out.sure.same (HO2.out _ HD.out.ne.symm))
  have t2 := (HO2.out L.g HD.out.g_ne_s).trans HD1.out.top
  have HT2 := hide t2
  have c1b : W2.cell? ⟨L.g, 0, none⟩ = some (.slice (some ⟨L.gd, 0, none⟩) dur.length L.cd) := by rw [cell_of_row _ _ _ _ _ _ t2]; rfl
  have c2b := HD2.out.cellB HN.out
  rw [← HE2.out] at c2b
  unfold strV at c2b
  clear t2 hW2 c1a c2a
  go_wp2_with fail
  have hSab : Hid (W2.drew.cell? ⟨L.g, 0, none⟩ = some (.slice (some ⟨L.gd, 0, none⟩) dur.length L.cd) ∧ W2.drew.cell? ⟨L.gd, n * 2, none⟩ = some (.string (strOfNums b2))) := hide ⟨c1b, c2b⟩
  refine wp_region_U (fun bb w' => bb = false → w'.cell? ⟨L.g, 0, none⟩ = some (.slice (some ⟨L.gd, 0, none⟩) dur.length L.cd) ∧ w'.cell? ⟨L.gd, n * 2, none⟩ = some (.string (strOfNums b2))) 18 (by kernel_rfl) ?_
  refine wpAnyU_take (i := 0) (oi := { dst := some 47, op := _, type := _, pos := _, after := _, guard := none }) (v := .pointer (some ⟨L.g, 0, none⟩)) rfl (by kernel_rfl) (by kernel_rfl) (by kernel_rfl) (by kernel_rfl) (fun _ _ _ h => h) (yields_take rfl (fun w' hw => by go_simp)) (fun _ => hSab.out) ?_
  simp only [Act.put, List.setIfInBounds_toArray, List.set_cons_zero, List.set_cons_succ]
  refine wpAnyU_take (i := 1) (oi := { dst := some 48, op := _, type := _, pos := _, after := _, guard := none }) (v := .pointer (some ⟨L.g, 0, none⟩)) rfl (by kernel_rfl) (by kernel_rfl) (by kernel_rfl) (by kernel_rfl) (fun _ _ _ h => h) (yields_take rfl (fun w' hw => by go_simp)) (fun _ => hSab.out) ?_
  simp only [Act.put, List.setIfInBounds_toArray, List.set_cons_zero, List.set_cons_succ]
  refine wpAnyU_take (i := 2) (oi := { dst := some 49, op := _, type := _, pos := _, after := _, guard := none }) (v := .pointer (some ⟨L.g, 0, none⟩)) rfl (by kernel_rfl) (by kernel_rfl) (by kernel_rfl) (by kernel_rfl) (fun _ _ _ h => h) (yields_take rfl (fun w' hw => by go_simp)) (fun _ => hSab.out) ?_
  simp only [Act.put, List.setIfInBounds_toArray, List.set_cons_zero, List.set_cons_succ]
  refine wpAnyU_take (i := 3) (oi := { dst := some 50, op := _, type := _, pos := _, after := _, guard := none }) (v := .slice (some ⟨L.gd, 0, none⟩) dur.length L.cd) rfl (by kernel_rfl) (by kernel_rfl) (by kernel_rfl) (by kernel_rfl) (fun _ _ _ h => h) (yields_take rfl (fun w' hw => by have hc := hw.no (by kernel_rfl) rfl; obtain ⟨hc1, hc2⟩ := hc; go_simp)) (fun _ => hSab.out) ?_
  simp only [Act.put, List.setIfInBounds_toArray, List.set_cons_zero, List.set_cons_succ]
  refine wpAnyU_take (i := 4) (oi := { dst := some 51, op := _, type := _, pos := _, after := _, guard := none }) (v := .int .i64 (n : Int)) rfl (by kernel_rfl) (by kernel_rfl) (by kernel_rfl) (by kernel_rfl) (fun _ _ _ h => h) (yields_take rfl (fun w' hw => by go_simp)) (fun _ => hSab.out) ?_
  simp only [Act.put, List.setIfInBounds_toArray, List.set_cons_zero, List.set_cons_succ]
  refine wpAnyU_take (i := 5) (oi := { dst := some 52, op := _, type := _, pos := _, after := _, guard := none }) (v := .pointer (some ⟨L.g, 0, none⟩)) rfl (by kernel_rfl) (by kernel_rfl) (by kernel_rfl) (by kernel_rfl) (fun _ _ _ h => h) (yields_take rfl (fun w' hw => by go_simp)) (fun _ => hSab.out) ?_
  simp only [Act.put, List.setIfInBounds_toArray, List.set_cons_zero, List.set_cons_succ]
  refine wpAnyU_take (i := 6) (oi := { dst := some 53, op := _, type := _, pos := _, after := _, guard := none }) (v := .pointer (some ⟨L.g, 0, none⟩)) rfl (by kernel_rfl) (by kernel_rfl) (by kernel_rfl) (by kernel_rfl) (fun _ _ _ h => h) (yields_take rfl (fun w' hw => by go_simp)) (fun _ => hSab.out) ?_
  simp only [Act.put, List.setIfInBounds_toArray, List.set_cons_zero, List.set_cons_succ]
  refine wpAnyU_take (i := 7) (oi := { dst := some 54, op := _, type := _, pos := _, after := _, guard := none }) (v := .pointer (some ⟨L.g, 0, none⟩)) rfl (by kernel_rfl) (by kernel_rfl) (by kernel_rfl) (by kernel_rfl) (fun _ _ _ h => h) (yields_take rfl (fun w' hw => by go_simp)) (fun _ => hSab.out) ?_
  simp only [Act.put, List.setIfInBounds_toArray, List.set_cons_zero, List.set_cons_succ]
  refine wpAnyU_take (i := 8) (oi := { dst := some 55, op := _, type := _, pos := _, after := _, guard := none }) (v := .slice (some ⟨L.gd, 0, none⟩) dur.length L.cd) rfl (by kernel_rfl) (by kernel_rfl) (by kernel_rfl) (by kernel_rfl) (fun _ _ _ h => h) (yields_take rfl (fun w' hw => by have hc := hw.no (by kernel_rfl) rfl; obtain ⟨hc1, hc2⟩ := hc; go_simp)) (fun _ => hSab.out) ?_
  simp only [Act.put, List.setIfInBounds_toArray, List.set_cons_zero, List.set_cons_succ]
  refine wpAnyU_take (i := 9) (oi := { dst := some 56, op := _, type := _, pos := _, after := _, guard := none }) (v := .int .i64 (n : Int)) rfl (by kernel_rfl) (by kernel_rfl) (by kernel_rfl) (by kernel_rfl) (fun _ _ _ h => h) (yields_take rfl (fun w' hw => by go_simp)) (fun _ => hSab.out) ?_
  simp only [Act.put, List.setIfInBounds_toArray, List.set_cons_zero, List.set_cons_succ]
  refine wpAnyU_take (i := 10) (oi := { dst := some 57, op := _, type := _, pos := _, after := _, guard := none }) (v := .pointer (some ⟨L.gd, n * 2, none⟩)) rfl (by kernel_rfl) (by kernel_rfl) (by kernel_rfl) (by kernel_rfl) (fun _ _ _ h => h) (yields_take rfl (fun w' hw => by go_simp)) (fun _ => hSab.out) ?_
  simp only [Act.put, List.setIfInBounds_toArray, List.set_cons_zero, List.set_cons_succ]
  refine wpAnyU_take (i := 11) (oi := { dst := some 58, op := _, type := _, pos := _, after := _, guard := none }) (v := .pointer (some ⟨L.gd, n * 2, none⟩)) rfl (by kernel_rfl) (by kernel_rfl) (by kernel_rfl) (by kernel_rfl) (fun _ _ _ h => h) (yields_take rfl (fun w' hw => by go_simp)) (fun _ => hSab.out) ?_
  simp only [Act.put, List.setIfInBounds_toArray, List.set_cons_zero, List.set_cons_succ]
  refine wpAnyU_take (i := 12) (oi := { dst := some 59, op := _, type := _, pos := _, after := _, guard := none }) (v := .string (strOfNums b2)) rfl (by kernel_rfl) (by kernel_rfl) (by kernel_rfl) (by kernel_rfl) (fun _ _ _ h => h) (yields_take rfl (fun w' hw => by have hc := hw.no (by kernel_rfl) rfl; obtain ⟨hc1, hc2⟩ := hc; go_simp)) (fun _ => hSab.out) ?_
  simp only [Act.put, List.setIfInBounds_toArray, List.set_cons_zero, List.set_cons_succ]
  refine wpAnyU_take (i := 13) (oi := { dst := some 60, op := _, type := _, pos := _, after := _, guard := none }) (v := .int .i64 (p : Int)) rfl (by kernel_rfl) (by kernel_rfl) (by kernel_rfl) (by kernel_rfl) (fun _ _ _ h => h) (yields_take rfl (fun w' hw => by go_simp)) (fun _ => hSab.out) ?_
  simp only [Act.put, List.setIfInBounds_toArray, List.set_cons_zero, List.set_cons_succ]
  refine wpAnyU_take (i := 14) (oi := { dst := some 61, op := _, type := _, pos := _, after := _, guard := none }) (v := .int .u8 y) rfl (by kernel_rfl) (by kernel_rfl) (by kernel_rfl) (by kernel_rfl) (fun _ _ _ h => h) (yields_take rfl (fun w' hw => by go_simp)) (fun _ => hSab.out) ?_
  simp only [Act.put, List.setIfInBounds_toArray, List.set_cons_zero, List.set_cons_succ]
  refine wpAnyU_one (i := 15) (by kernel_rfl) rfl ?_
  intro K hK
  go_simp
  refine Calls.mono (turned_any b2 p y _ HOKBb.out hp64 hy) ?_
  rintro e w3 ⟨rfl, hby⟩
  unfold strV
  dsimp only
  have hSbb : Hid (w3.cell? ⟨L.g, 0, none⟩ = some (.slice (some ⟨L.gd, 0, none⟩) dur.length L.cd) ∧ w3.cell? ⟨L.gd, n * 2, none⟩ = some (.string (strOfNums b2))) := hide ⟨cell_kept3 hby hSab.out.1, cell_kept3 hby hSab.out.2⟩
  have HBb : Hid (Below W2.heap.size W2 w3) := hide ((below_drewN (Below.refl W2.heap.size W2) 1).trans hby)
  refine hK.out _ _ (fun _ => hSbb.out) (fun _ => ?_)
  clear hK K hSab hby
  refine wpAnyU_take (i := 16) (oi := { dst := some 63, op := _, type := _, pos := _, after := _, guard := none }) (v := .pointer (some ⟨L.gd, n * 2, none⟩)) rfl (by kernel_rfl) (by kernel_rfl) (by kernel_rfl) (by kernel_rfl) (fun _ _ _ h => h) (yields_take rfl (fun w' hw => by go_simp)) (fun _ => hSbb.out) ?_
  simp only [Act.put, List.setIfInBounds_toArray, List.set_cons_zero, List.set_cons_succ]
  refine wpAnyU_take (i := 17) (oi := { dst := some 64, op := _, type := _, pos := _, after := _, guard := none }) (v := .pointer (some ⟨L.gd, n * 2, none⟩)) rfl (by kernel_rfl) (by kernel_rfl) (by kernel_rfl) (by kernel_rfl) (fun _ _ _ h => h) (yields_take rfl (fun w' hw => by go_simp)) (fun _ => hSbb.out) ?_
  simp only [Act.put, List.setIfInBounds_toArray, List.set_cons_zero, List.set_cons_succ]
  have z1b := hSbb.out.2
  have z2b : w3.frozen? ⟨L.gd, n * 2, none⟩ = false := (HD2.out.below HBb.out).frozen _
  obtain ⟨W4, hW4⟩ : ∃ W4, w3.setCell ⟨L.gd, n * 2, none⟩ (.string (strOfNums (xorB b2 p y))) = W4 := ⟨_, rfl⟩
  refine wpAnyU_one (i := 18) (by kernel_rfl) rfl ?_
  intro K hK
  go_simp
  refine hK.out _ _ (fun h => absurd h (by decide)) (fun _ => ?_)
  clear hK K z1b z2b hSbb
  refine wpAnyU_done (by kernel_rfl) ?_ _
  have HS3 := hide (HS2.out.below HBb.out)
  have HD3 := hide (HD2.out.below HBb.out)
  have HD4 : Hid (RSR B W4 L.gd L.cd (rotD n p y dur)) := hide (by
    have h := (HD3.out.setB HN.out (xorB b2 p y)).1
    unfold strV at h
    rw [hW4] at h
    rw [HE2.out] at h
    exact h)
  have HO4 : Hid (∀ b, b ≠ L.gd → W4.heap[b]? = w3.heap[b]?) := hide (fun b hb => by rw [← hW4]; exact heap_setCell_other w3 ⟨L.gd, n * 2, none⟩ b _ hb)
  have HQ4 : Hid (W4.os = w3.os ∧ W4.tape = w3.tape ∧ W4.output = w3.output ∧ W4.heap.size = w3.heap.size) := hide (by rw [← hW4]; exact ⟨rfl, rfl, rfl, World.size_setCell _ _ _⟩)
  have HS4 : Hid (RSR B W4 L.gs L.cs (rotD n p y (seenOf dur pend))) := hide (HS3.out.same (HO4.out _ HD.out.ne))
  have HTT : Hid (Turns w W4 L.has) := hide (by
    have q2 := HQ2.out
    have q4 := HQ4.out
    have s1 := HBa.out.size
    have s3 := HBb.out.size
    refine ⟨q4.1.trans (HBb.out.os.trans (q2.1.trans HBa.out.os)), q4.2.1.trans (HBb.out.tape.trans (q2.2.1.trans HBa.out.tape)), q4.2.2.1.trans (HBb.out.output.trans (q2.2.2.1.trans HBa.out.output)), by omega, fun b hb hn => ?_⟩
    rw [HO4.out b (fun e => hn (.inr (.inr (.inl e)))), HBb.out.block b (by omega), HO2.out b (fun e => hn (.inr (.inl e))), HBa.out.block b hb])
  have hgL : L.g < w.heap.size := lt_of_heap HTOP.out
  have HT4 : Hid (W4.heap[L.g]? = some (.cells #[.slice (some ⟨L.gd, 0, none⟩) dur.length L.cd, .slice (some ⟨L.gs, 0, none⟩) dur.length L.cs, L.p] 71 (0, 0))) := hide ((HO4.out L.g HD.out.g_ne_d).trans ((HBb.out.block L.g (lt_of_heap HT2.out)).trans HT2.out))
  have HW4 : Hid (W4.ownsRow B 89 3 (.slice pA pend.length pc) pend.length (rwrsV (upTo (rotW n p y) pend 0))) := hide (by
    rw [upTo_zero, ← HPF.out]
    exact ownsRow_same HD.out.waits (fun b hb => by
      have hlt := (HD.out.waits.lt b hb).2
      have s1 := HBa.out.size
      have q2 := HQ2.out.2.2.2
      rw [HO4.out b (fun e => HD.out.p_ne_d (e ▸ hb)), HBb.out.block b (by omega), HO2.out b (fun e => HD.out.p_ne_s (e ▸ hb)), HBa.out.block b hlt]))
  clear hW4 c1b c2b hgL
  go_wp2
  go_loopw [9] (fun i wr => ∃ k : Nat, k ≤ pend.length ∧ i = .int .i64 k ∧ Hid (wr.ownsRow B 89 3 (.slice pA pend.length pc) pend.length (rwrsV (upTo (rotW n p y) pend k))) ∧ Hid (Turns W4 wr (fun b => L.p.ownBlock = some b))) (fun i _ => pend.length - (intOf i).toNat)
  case atStart => exact ⟨0, Nat.zero_le _, rfl, HW4, hide (Turns.refl _ _)⟩
  case round =>
    obtain ⟨k, hk, rfl, HR, HTR⟩ := hrel
    have ht := (HTR.out.block L.g (lt_of_heap HT4.out) HD.out.p_ne_g).trans HT4.out
    have HTK := hide ht
    have h6 : wr.cell? ⟨L.g, 2, none⟩ = some (.slice pA pend.length pc) := by rw [cell_of_row _ _ _ _ _ _ ht, ← HPF.out]; rfl
    clear ht
    by_cases hlt : k < pend.length
    · obtain ⟨gp, hgp⟩ : ∃ gp, pA = some ⟨gp, 0, none⟩ := by
        rcases HD.out.p_form with ⟨_, e⟩ | ⟨g', c', e, _, cur, hh⟩
        · rw [e] at hlt; cases hlt
        · rw [HPF.out] at e; injection e with e _ _; exact ⟨g', e⟩
      subst hgp
      obtain ⟨x, hx⟩ : ∃ x, x = wrAt pend k := ⟨_, rfl⟩
      have HXM : Hid (OkB x.b ∧ x.n < dur.length) := hide (by rw [hx]; exact HD.out.okW _ (wrAt_mem hlt))
      have HXU : Hid (wrAt (upTo (rotW n p y) pend k) k = x) := hide (by rw [upTo_at _ _ _ hlt, hx])
      have hku : k < (upTo (rotW n p y) pend k).length := by rw [upTo_len]; exact hlt
      have HKU := hide hku
      have HX := hide hx
      obtain ⟨c0, c2c, _⟩ := rwaits_at HR.out (upTo_len _ _ _).symm hku
      rw [HXU.out] at c0 c2c
      obtain ⟨xn, hxn⟩ : ∃ xn, xn = x.n := ⟨_, rfl⟩
      obtain ⟨xb, hxb⟩ : ∃ xb, xb = x.b := ⟨_, rfl⟩
      rw [← hxn] at c0
      rw [← hxb] at c2c
      unfold strV at c2c
      have HOKBc : Hid (OkB xb) := hide (by rw [hxb]; exact HXM.out.1)
      have c1c := h6
      have k0 : (0 : Int) ≤ (k : Int) := by omega
      have k1 : (k : Int) < (pend.length : Int) := by omega
      have HXN := hide hxn
      have HXB := hide hxb
      clear hx hku hxn hxb
      by_cases hne : xn = n
      · have e1 : ((xn : Int) == (n : Int)) = true := by rw [hne]; exact beq_self_eq_true _
        have HFX : Hid (rotW n p y x = ⟨x.n, xorB xb p y, x.old⟩) := hide (by unfold rotW; rw [if_pos (HXN.out.symm.trans hne), HXB.out])
        clear hne
        go_wp2_with fail
        have hSac : Hid (wr.drew.cell? ⟨L.g, 2, none⟩ = some (.slice (some ⟨gp, 0, none⟩) pend.length pc) ∧ wr.drew.cell? ⟨gp, k * 3 + 1, none⟩ = some (.string (strOfNums xb))) := hide ⟨c1c, c2c⟩
        refine wp_region_U (fun bb w' => bb = false → w'.cell? ⟨L.g, 2, none⟩ = some (.slice (some ⟨gp, 0, none⟩) pend.length pc) ∧ w'.cell? ⟨gp, k * 3 + 1, none⟩ = some (.string (strOfNums xb))) 18 (by kernel_rfl) ?_
        refine wpAnyU_take (i := 0) (oi := { dst := some 84, op := _, type := _, pos := _, after := _, guard := none }) (v := .pointer (some ⟨L.g, 0, none⟩)) rfl (by kernel_rfl) (by kernel_rfl) (by kernel_rfl) (by kernel_rfl) (fun _ _ _ h => h) (yields_take rfl (fun w' hw => by go_simp)) (fun _ => hSac.out) ?_
        simp only [Act.put, List.setIfInBounds_toArray, List.set_cons_zero, List.set_cons_succ]
        refine wpAnyU_take (i := 1) (oi := { dst := some 85, op := _, type := _, pos := _, after := _, guard := none }) (v := .pointer (some ⟨L.g, 0, none⟩)) rfl (by kernel_rfl) (by kernel_rfl) (by kernel_rfl) (by kernel_rfl) (fun _ _ _ h => h) (yields_take rfl (fun w' hw => by go_simp)) (fun _ => hSac.out) ?_
        simp only [Act.put, List.setIfInBounds_toArray, List.set_cons_zero, List.set_cons_succ]
        refine wpAnyU_take (i := 2) (oi := { dst := some 86, op := _, type := _, pos := _, after := _, guard := none }) (v := .pointer (some ⟨L.g, 2, none⟩)) rfl (by kernel_rfl) (by kernel_rfl) (by kernel_rfl) (by kernel_rfl) (fun _ _ _ h => h) (yields_take rfl (fun w' hw => by go_simp)) (fun _ => hSac.out) ?_
        simp only [Act.put, List.setIfInBounds_toArray, List.set_cons_zero, List.set_cons_succ]
        refine wpAnyU_take (i := 3) (oi := { dst := some 87, op := _, type := _, pos := _, after := _, guard := none }) (v := .slice (some ⟨gp, 0, none⟩) pend.length pc) rfl (by kernel_rfl) (by kernel_rfl) (by kernel_rfl) (by kernel_rfl) (fun _ _ _ h => h) (yields_take rfl (fun w' hw => by have hc := hw.no (by kernel_rfl) rfl; obtain ⟨hc1, hc2⟩ := hc; go_simp)) (fun _ => hSac.out) ?_
        simp only [Act.put, List.setIfInBounds_toArray, List.set_cons_zero, List.set_cons_succ]
        refine wpAnyU_take (i := 4) (oi := { dst := some 88, op := _, type := _, pos := _, after := _, guard := none }) (v := .int .i64 (k : Int)) rfl (by kernel_rfl) (by kernel_rfl) (by kernel_rfl) (by kernel_rfl) (fun _ _ _ h => h) (yields_take rfl (fun w' hw => by go_simp)) (fun _ => hSac.out) ?_
        simp only [Act.put, List.setIfInBounds_toArray, List.set_cons_zero, List.set_cons_succ]
        refine wpAnyU_take (i := 5) (oi := { dst := some 89, op := _, type := _, pos := _, after := _, guard := none }) (v := .pointer (some ⟨L.g, 0, none⟩)) rfl (by kernel_rfl) (by kernel_rfl) (by kernel_rfl) (by kernel_rfl) (fun _ _ _ h => h) (yields_take rfl (fun w' hw => by go_simp)) (fun _ => hSac.out) ?_
        simp only [Act.put, List.setIfInBounds_toArray, List.set_cons_zero, List.set_cons_succ]
        refine wpAnyU_take (i := 6) (oi := { dst := some 90, op := _, type := _, pos := _, after := _, guard := none }) (v := .pointer (some ⟨L.g, 0, none⟩)) rfl (by kernel_rfl) (by kernel_rfl) (by kernel_rfl) (by kernel_rfl) (fun _ _ _ h => h) (yields_take rfl (fun w' hw => by go_simp)) (fun _ => hSac.out) ?_
        simp only [Act.put, List.setIfInBounds_toArray, List.set_cons_zero, List.set_cons_succ]
        refine wpAnyU_take (i := 7) (oi := { dst := some 91, op := _, type := _, pos := _, after := _, guard := none }) (v := .pointer (some ⟨L.g, 2, none⟩)) rfl (by kernel_rfl) (by kernel_rfl) (by kernel_rfl) (by kernel_rfl) (fun _ _ _ h => h) (yields_take rfl (fun w' hw => by go_simp)) (fun _ => hSac.out) ?_
        simp only [Act.put, List.setIfInBounds_toArray, List.set_cons_zero, List.set_cons_succ]
        refine wpAnyU_take (i := 8) (oi := { dst := some 92, op := _, type := _, pos := _, after := _, guard := none }) (v := .slice (some ⟨gp, 0, none⟩) pend.length pc) rfl (by kernel_rfl) (by kernel_rfl) (by kernel_rfl) (by kernel_rfl) (fun _ _ _ h => h) (yields_take rfl (fun w' hw => by have hc := hw.no (by kernel_rfl) rfl; obtain ⟨hc1, hc2⟩ := hc; go_simp)) (fun _ => hSac.out) ?_
        simp only [Act.put, List.setIfInBounds_toArray, List.set_cons_zero, List.set_cons_succ]
        refine wpAnyU_take (i := 9) (oi := { dst := some 93, op := _, type := _, pos := _, after := _, guard := none }) (v := .int .i64 (k : Int)) rfl (by kernel_rfl) (by kernel_rfl) (by kernel_rfl) (by kernel_rfl) (fun _ _ _ h => h) (yields_take rfl (fun w' hw => by go_simp)) (fun _ => hSac.out) ?_
        simp only [Act.put, List.setIfInBounds_toArray, List.set_cons_zero, List.set_cons_succ]
        refine wpAnyU_take (i := 10) (oi := { dst := some 94, op := _, type := _, pos := _, after := _, guard := none }) (v := .pointer (some ⟨gp, k * 3, none⟩)) rfl (by kernel_rfl) (by kernel_rfl) (by kernel_rfl) (by kernel_rfl) (fun _ _ _ h => h) (yields_take rfl (fun w' hw => by go_simp)) (fun _ => hSac.out) ?_
        simp only [Act.put, List.setIfInBounds_toArray, List.set_cons_zero, List.set_cons_succ]
        refine wpAnyU_take (i := 11) (oi := { dst := some 95, op := _, type := _, pos := _, after := _, guard := none }) (v := .pointer (some ⟨gp, k * 3 + 1, none⟩)) rfl (by kernel_rfl) (by kernel_rfl) (by kernel_rfl) (by kernel_rfl) (fun _ _ _ h => h) (yields_take rfl (fun w' hw => by go_simp)) (fun _ => hSac.out) ?_
        simp only [Act.put, List.setIfInBounds_toArray, List.set_cons_zero, List.set_cons_succ]
        refine wpAnyU_take (i := 12) (oi := { dst := some 96, op := _, type := _, pos := _, after := _, guard := none }) (v := .string (strOfNums xb)) rfl (by kernel_rfl) (by kernel_rfl) (by kernel_rfl) (by kernel_rfl) (fun _ _ _ h => h) (yields_take rfl (fun w' hw => by have hc := hw.no (by kernel_rfl) rfl; obtain ⟨hc1, hc2⟩ := hc; go_simp)) (fun _ => hSac.out) ?_
        simp only [Act.put, List.setIfInBounds_toArray, List.set_cons_zero, List.set_cons_succ]
        refine wpAnyU_take (i := 13) (oi := { dst := some 97, op := _, type := _, pos := _, after := _, guard := none }) (v := .int .i64 (p : Int)) rfl (by kernel_rfl) (by kernel_rfl) (by kernel_rfl) (by kernel_rfl) (fun _ _ _ h => h) (yields_take rfl (fun w' hw => by go_simp)) (fun _ => hSac.out) ?_
        simp only [Act.put, List.setIfInBounds_toArray, List.set_cons_zero, List.set_cons_succ]
        refine wpAnyU_take (i := 14) (oi := { dst := some 98, op := _, type := _, pos := _, after := _, guard := none }) (v := .int .u8 y) rfl (by kernel_rfl) (by kernel_rfl) (by kernel_rfl) (by kernel_rfl) (fun _ _ _ h => h) (yields_take rfl (fun w' hw => by go_simp)) (fun _ => hSac.out) ?_
        simp only [Act.put, List.setIfInBounds_toArray, List.set_cons_zero, List.set_cons_succ]
        refine wpAnyU_one (i := 15) (by kernel_rfl) rfl ?_
        intro K hK
        go_simp
        refine Calls.mono (turned_any xb p y _ HOKBc.out hp64 hy) ?_
        rintro e w5 ⟨rfl, hbz⟩
        unfold strV
        dsimp only
        have hSbc : Hid (w5.cell? ⟨L.g, 2, none⟩ = some (.slice (some ⟨gp, 0, none⟩) pend.length pc) ∧ w5.cell? ⟨gp, k * 3 + 1, none⟩ = some (.string (strOfNums xb))) := hide ⟨cell_kept3 hbz hSac.out.1, cell_kept3 hbz hSac.out.2⟩
        have HBc : Hid (Below wr.heap.size wr w5) := hide ((below_drewN (Below.refl wr.heap.size wr) 1).trans hbz)
        refine hK.out _ _ (fun _ => hSbc.out) (fun _ => ?_)
        clear hK K hSac hbz
        refine wpAnyU_take (i := 16) (oi := { dst := some 100, op := _, type := _, pos := _, after := _, guard := none }) (v := .pointer (some ⟨gp, k * 3, none⟩)) rfl (by kernel_rfl) (by kernel_rfl) (by kernel_rfl) (by kernel_rfl) (fun _ _ _ h => h) (yields_take rfl (fun w' hw => by go_simp)) (fun _ => hSbc.out) ?_
        simp only [Act.put, List.setIfInBounds_toArray, List.set_cons_zero, List.set_cons_succ]
        refine wpAnyU_take (i := 17) (oi := { dst := some 101, op := _, type := _, pos := _, after := _, guard := none }) (v := .pointer (some ⟨gp, k * 3 + 1, none⟩)) rfl (by kernel_rfl) (by kernel_rfl) (by kernel_rfl) (by kernel_rfl) (fun _ _ _ h => h) (yields_take rfl (fun w' hw => by go_simp)) (fun _ => hSbc.out) ?_
        simp only [Act.put, List.setIfInBounds_toArray, List.set_cons_zero, List.set_cons_succ]
        have z1c := hSbc.out.2
        have z2c : w5.frozen? ⟨gp, k * 3 + 1, none⟩ = false := (ownsRow_same HR.out (fun b hb => HBc.out.block b (HR.out.lt b hb).2)).frozenAt _
        obtain ⟨W6, hW6⟩ : ∃ W6, w5.setCell ⟨gp, k * 3 + 1, none⟩ (.string (strOfNums (xorB xb p y))) = W6 := ⟨_, rfl⟩
        refine wpAnyU_one (i := 18) (by kernel_rfl) rfl ?_
        intro K hK
        go_simp
        refine hK.out _ _ (fun h => absurd h (by decide)) (fun _ => ?_)
        clear hK K z1c z2c hSbc
        refine wpAnyU_done (by kernel_rfl) ?_ _
        have HR5 : Hid (w5.ownsRow B 89 3 (.slice (some ⟨gp, 0, none⟩) pend.length pc) pend.length (rwrsV (upTo (rotW n p y) pend k))) := hide (ownsRow_same HR.out (fun b hb => HBc.out.block b (HR.out.lt b hb).2))
        have HR6 : Hid (W6.ownsRow B 89 3 (.slice (some ⟨gp, 0, none⟩) pend.length pc) pend.length (rwrsV (upTo (rotW n p y) pend (k + 1)))) := hide (by
          have h := (HR5.out.stored (k * 3 + 1) (strV (xorB xb p y))).1
          rw [rwrs_set_b HKU.out, HXU.out] at h
          unfold strV at h
          rw [hW6] at h
          rw [upTo_succ _ _ _ hlt, ← HX.out, HFX.out]
          exact h)
        have HT6 : Hid (Turns W4 W6 (fun b => L.p.ownBlock = some b)) := hide (HTR.out.trans ((Turns.of_below HBc.out _).trans (by
          rw [← hW6]
          exact ⟨rfl, rfl, rfl, by rw [World.size_setCell]; exact Nat.le_refl _, fun b hb hn => heap_setCell_other w5 ⟨gp, k * 3 + 1, none⟩ b _ (fun e => hn (by rw [HPF.out, e]; rfl))⟩)))
        clear hW6 c0 c1c c2c h6
        go_wp2
        go_roundw
        case rel => exact ⟨k + 1, by omega, by go_num, HR6, HT6⟩
        case measure => simp [intOf]; omega
      · have e1 : ((xn : Int) == (n : Int)) = false := beq_eq_false_iff_ne.2 (by omega)
        have HFX : Hid (rotW n p y x = x) := hide (by unfold rotW; rw [if_neg (by rw [← HXN.out]; exact hne)])
        have HR3 : Hid (wr.ownsRow B 89 3 (.slice (some ⟨gp, 0, none⟩) pend.length pc) pend.length (rwrsV (upTo (rotW n p y) pend (k + 1)))) := hide (by
          rw [upTo_succ _ _ _ hlt, ← HX.out, HFX.out, ← HXU.out, wrAt_set_self HKU.out]
          exact HR.out)
        clear hne
        go_wp2
        go_roundw
        case rel => exact ⟨k + 1, by omega, by go_num, HR3, HTR⟩
        case measure => simp [intOf]; omega
    · obtain rfl : k = pend.length := by omega
      have HFIN : Hid (RAt B wr L (rotD n p y dur) (pend.map (rotW n p y))) := hide (by
        refine HD.out.turned (HTK.out.trans HTOP.out.symm) ?_ (HD4.out.same (HTR.out.block _ HD4.out.lt.2 HD.out.p_ne_d)) ?_ (by simp [rotD]) (by simp) ?_ (fun x hx => ?_)
        · rw [rot_seen HN.out (fun x hx => (HD.out.okW x hx).2)]
          exact HS4.out.same (HTR.out.block _ HS4.out.lt.2 HD.out.p_ne_s)
        · have := HR.out
          rw [upTo_all, ← HPF.out] at this
          exact this
        · exact set_ok HD.out.okS (xorB_ok (secAt_ok HD.out.okS HN.out) hy)
        · obtain ⟨z, hz, rfl⟩ := List.mem_map.1 hx
          exact ⟨rotW_ok (HD.out.okW z hz).1 hy, by rw [rotW_n]; exact (HD.out.okW z hz).2⟩)
      have HTF : Hid (Turns w wr L.has) := hide (HTT.out.trans ⟨HTR.out.os, HTR.out.tape, HTR.out.output, HTR.out.size, fun b hb hn => HTR.out.block b hb (fun e => hn (.inr (.inr (.inr e))))⟩)
      go_wp2
      go_ret
      exact ⟨rfl, HFIN.out, HTF.out⟩
end Go.Proofs.YtapdaeafeejknaaGreatDoor
