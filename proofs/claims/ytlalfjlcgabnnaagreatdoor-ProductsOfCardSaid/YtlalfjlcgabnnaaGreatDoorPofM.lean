/- Merged: Pr1, Pr2, Pr3, Ref07, Pof7. -/
import Derived.Test.YtlalfjlcgabnnaaGreatDoorProdM
import Derived.Test.YtlalfjlcgabnnaaGreatDoorRegU
import Derived.Deep.QuietTactic
import Derived.BigQuiet
import Derived.Test.YtlalfjlcgabnnaaGreatDoorRef05
import Derived.Test.YtlalfjlcgabnnaaGreatDoorBookT
import Derived.Test.YtlalfjlcgabnnaaGreatDoorBeyond
namespace Go.Proofs.YtlalfjlcgabnnaaGreatDoor

section
open Go.RowKit
set_option linter.unusedVariables false
set_option linter.unusedSimpArgs false
set_option maxRecDepth 100000

theorem setCell_self (w : World) (a : Addr) (u : Value) : w.grownBy (w.setCell a u) (some a.block) := grown_cell6 w a u

set_option maxHeartbeats 400000 in
theorem sumadd_any (p : Nat) (x s : Int) (w : World) (h : Box1 w p 21 (.int .i32 s)) :
    Calls Tryz.prog 116 #[.int .i32 x, .pointer (some ⟨p, 0, none⟩)] w fun e w' => e = .returned voidV ∧ w' = w.setCell ⟨p, 0, none⟩ (.int .i32 (add32 s x)) := by
  have hc := h.cell
  have hf := h.frozen
  clear h
  go_enter Tryz.func116, Tryz.ntmps116
  go_wp2
  go_end0
  exact ⟨rfl, rfl⟩

set_option maxHeartbeats 400000 in
theorem sumtotal_any (p : Nat) (s : Int) (w : World) (h : Box1 w p 21 (.int .i32 s)) :
    Calls Tryz.prog 117 #[.pointer (some ⟨p, 0, none⟩)] w fun e w' => e = .returned (.int .i32 s) ∧ w = w' := by
  have hc := h.cell
  clear h
  go_enter Tryz.func117, Tryz.ntmps117
  go_wp2
  go_ret
  exact ⟨rfl, rfl⟩

set_option maxHeartbeats 400000 in
theorem newsum_any (w : World) :
    Calls Tryz.prog 80 #[] w fun e w' => e = .returned (.tuple #[.func (.func 116) #[] #[.pointer (some ⟨w.heap.size, 0, none⟩)], .func (.func 117) #[] #[.pointer (some ⟨w.heap.size, 0, none⟩)]]) ∧ w' = w.alloc (.cells #[.int .i32 0] 21) := by
  go_enter Tryz.func80, Tryz.ntmps80
  go_wp2
  go_ret2
  exact ⟨rfl, rfl⟩

set_option maxHeartbeats 2000000 in
theorem rowcol_any (A B A' B' : Option Addr) (n c m d c' m' d' K N I j : Nat) (l l' : List Int) (w : World) (hB : Lies w B m (l.map (Value.int .i32))) (hA' : Lies w A' 2 (([(K : Int), (N : Int)] : List Int).map (Value.int .i64))) (hB' : Lies w B' m' (l'.map (Value.int .i32)))
    (hK1 : 1 ≤ K) (hK : K ≤ 64) (hN : N ≤ 64) (hi : I ≤ 64) (hj : j < N) (hm : I * K + K ≤ m) (hm' : K * N ≤ m') :
    Calls Tryz.prog 24 #[tenV A n c B m d, tenV A' 2 c' B' m' d', .int .i64 (I : Int), .int .i64 (j : Int)] w fun e w' => e = .returned (.int .i32 (dotN l l' K N I j K)) ∧ Below w.heap.size w w' := by
  have hKN : K * N ≤ 4096 := by have := Nat.mul_le_mul hK hN; omega
  have hkn1 : 1 ≤ K * N := Nat.mul_pos (by omega) (by omega)
  obtain ⟨b1, o1, rfl, hb1, hx1⟩ := byte_at hB (by omega)
  obtain ⟨b2, o2, rfl, hb2, hx2⟩ := byte_at hB' (by omega)
  obtain ⟨b3, o3, rfl, hb3, hx3⟩ := byte_at hA' (by omega)
  have HX1 : Hid (∀ q, q < m → w.cell? ⟨b1, o1 + q, none⟩ = some (.int .i32 (l.getD q 0))) := hide (fun q hq => hx1 q hq)
  have HX2 : Hid (∀ q, q < m' → w.cell? ⟨b2, o2 + q, none⟩ = some (.int .i32 (l'.getD q 0))) := hide (fun q hq => hx2 q hq)
  have hk0 := hx3 0 (by omega)
  have hk1 := hx3 1 (by omega)
  simp only [List.getD_cons_zero, List.getD_cons_succ] at hk0 hk1
  clear hx1 hx2 hx3 hB hA' hB'
  obtain ⟨W0, hW0⟩ : ∃ W0, W0 = (w.alloc (.cells #[.slice A n c, .slice (some ⟨b1, o1, none⟩) m d] 25)).alloc (.cells #[.slice (some ⟨b3, o3, none⟩) 2 c', .slice (some ⟨b2, o2, none⟩) m' d'] 25) := ⟨_, rfl⟩
  have HB0 : Hid (Below w.heap.size w W0) := hide (by rw [hW0]; exact ((Below.refl w.heap.size w).alloc (Nat.le_refl _) _).alloc (by simp only [World.size_alloc]; omega) _)
  have hs0 : W0.heap.size = w.heap.size + 2 := by rw [hW0]; simp
  have HT0 : Hid (BoxT W0 w.heap.size (.slice A n c) (.slice (some ⟨b1, o1, none⟩) m d)) := hide (by rw [hW0]; exact (BoxT.new w _ _).alloc _)
  have HT1 : Hid (BoxT W0 (w.heap.size + 1) (.slice (some ⟨b3, o3, none⟩) 2 c') (.slice (some ⟨b2, o2, none⟩) m' d')) := hide (by
    rw [hW0]
    have h := BoxT.new (w.alloc (.cells #[.slice A n c, .slice (some ⟨b1, o1, none⟩) m d] 25)) (.slice (some ⟨b3, o3, none⟩) 2 c') (.slice (some ⟨b2, o2, none⟩) m' d')
    rwa [World.size_alloc] at h)
  have hW0' := hW0.symm
  clear hW0
  have hk0' : W0.cell? ⟨b3, o3, none⟩ = some (.int .i64 (K : Int)) := (HB0.out.cell (p := ⟨b3, o3, none⟩) hb3).trans hk0
  have hk1' : W0.cell? ⟨b3, o3 + 1, none⟩ = some (.int .i64 (N : Int)) := (HB0.out.cell (p := ⟨b3, o3 + 1, none⟩) hb3).trans hk1
  have t0 := HT1.out.c0
  go_enter Tryz.func24, Tryz.ntmps24
  go_wp2
  go_quiet (fail)
  obtain ⟨p, hp⟩ : ∃ p, p = W0.heap.size := ⟨_, rfl⟩
  have hns := newsum_any (W0.drewN nq)
  rw [show (W0.drewN nq).heap.size = p from hp.symm] at hns
  have HNS := hide hns
  have HPP := hide hp
  clear hns hp
  go_wp2_with fail
  refine Calls.mono HNS.out ?_
  rintro e w1 ⟨rfl, hw1⟩
  have hp := HPP.out
  have HB1 : Hid (Below W0.heap.size W0 w1) := hide (by rw [hw1]; exact (below_drewN (Below.refl _ W0) nq).alloc (Nat.le_refl _) _)
  have HX : Hid (Box1 w1 p 21 (.int .i32 0)) := hide (by rw [hw1, hp]; exact Box1.new (W0.drewN nq) _ _)
  have HF : Hid (∀ v, w1.grownBy v (some p) → v.cell? ⟨w.heap.size, 1, none⟩ = some (.slice (some ⟨b1, o1, none⟩) m d) ∧ v.cell? ⟨w.heap.size + 1, 1, none⟩ = some (.slice (some ⟨b2, o2, none⟩) m' d') ∧ (∀ q, q < m → v.cell? ⟨b1, o1 + q, none⟩ = some (.int .i32 (l.getD q 0))) ∧ (∀ q, q < m' → v.cell? ⟨b2, o2 + q, none⟩ = some (.int .i32 (l'.getD q 0)))) := hide (fun v hv => by
    have h01 : ∀ k, k < W0.heap.size → v.heap[k]? = W0.heap[k]? := fun k hk => (hv.block k (by have := HB1.out.size; omega) (by simp; omega)).trans (HB1.out.block k hk)
    have h02 : ∀ k, k < w.heap.size → v.heap[k]? = w.heap[k]? := fun k hk => (h01 k (by omega)).trans (HB0.out.block k hk)
    exact ⟨BoxT.c1 ((h01 _ (by omega)).trans HT0.out), BoxT.c1 ((h01 _ (by omega)).trans HT1.out), fun q hq => (World.cell?_of_block (h02 b1 hb1)).trans (HX1.out q hq), fun q hq => (World.cell?_of_block (h02 b2 hb2)).trans (HX2.out q hq)⟩)
  have HBW : Hid (∀ v, w1.grownBy v (some p) → Below w.heap.size w v) := hide (fun v hv => (HB0.out.trans (HB1.out.mono HB0.out.size)).trans (below_grown hv (by have := HB0.out.size; have := HB1.out.size; omega) (by have := HB0.out.size; omega)))
  clear hw1 HX1 HX2 hk0 hk1 hk0' hk1' t0 HNS hp
  go_wp2
  go_loopw [27] (fun i wr => ∃ k : Nat, k ≤ K ∧ i = .int .i64 k ∧ Hid (Box1 wr p 21 (.int .i32 (dotN l l' K N I j k))) ∧ Hid (w1.grownBy wr (some p))) (fun i _ => K - (intOf i).toNat)
  case atStart => exact ⟨0, Nat.zero_le _, rfl, HX, hide (World.grownBy.refl w1 (some p))⟩
  case round =>
    obtain ⟨k, hk, rfl, HX, HG⟩ := hrel
    by_cases hlt : k < K
    · have h3 : (k : Int) < (K : Int) := by omega
      obtain ⟨a1, a2, a3, a4⟩ := HF.out wr HG.out
      obtain ⟨u1, hu1⟩ : ∃ q, q = I * K := ⟨_, rfl⟩
      obtain ⟨u2, hu2⟩ : ∃ q, q = k * N := ⟨_, rfl⟩
      have hmu2 : k * N + N ≤ K * N := by rw [← Nat.succ_mul]; exact Nat.mul_le_mul_right N hlt
      obtain ⟨q1, hq1⟩ : ∃ q, q = I * K + k := ⟨_, rfl⟩
      obtain ⟨q2, hq2⟩ : ∃ q, q = k * N + j := ⟨_, rfl⟩
      have hIK : I * K ≤ 4096 := by have := Nat.mul_le_mul hi hK; omega
      have m1 : IntKind.i64.wrap ((I : Int) * (K : Int)) = (u1 : Int) := by rw [hu1, Int.natCast_mul, IntKind.wrap_i64, ← Int.natCast_mul]; omega
      have m2 : IntKind.i64.wrap ((u1 : Int) + (k : Int)) = (q1 : Int) := by rw [hu1, hq1, IntKind.wrap_i64]; omega
      have m3 : IntKind.i64.wrap ((k : Int) * (N : Int)) = (u2 : Int) := by rw [hu2, Int.natCast_mul, IntKind.wrap_i64, ← Int.natCast_mul]; omega
      have m4 : IntKind.i64.wrap ((u2 : Int) + (j : Int)) = (q2 : Int) := by rw [hu2, hq2, IntKind.wrap_i64]; omega
      have hl1 : q1 < m := by omega
      have hl2 : q2 < m' := by omega
      obtain ⟨x, hx⟩ : ∃ x, x = l.getD q1 0 := ⟨_, rfl⟩
      obtain ⟨y, hy⟩ : ∃ y, y = l'.getD q2 0 := ⟨_, rfl⟩
      obtain ⟨s0, hs⟩ : ∃ s0, s0 = dotN l l' K N I j k := ⟨_, rfl⟩
      obtain ⟨z, hz⟩ : ∃ z, z = mul32 x y := ⟨_, rfl⟩
      have m5 : IntKind.i32.wrap (x * y) = z := by rw [hz, mul32, wrap32, IntKind.wrap_i32]
      have HD : Hid (add32 s0 z = dotN l l' K N I j (k + 1)) := hide (by rw [hz, hx, hy, hs, hq1, hq2]; rfl)
      have HF2 : Hid (∀ v, w1.grownBy v (some p) → v.cell? ⟨w.heap.size, 1, none⟩ = some (.slice (some ⟨b1, o1, none⟩) m d) ∧ v.cell? ⟨w.heap.size + 1, 1, none⟩ = some (.slice (some ⟨b2, o2, none⟩) m' d') ∧ v.cell? ⟨b1, o1 + q1, none⟩ = some (.int .i32 x) ∧ v.cell? ⟨b2, o2 + q2, none⟩ = some (.int .i32 y)) := hide (fun v hv => by
        obtain ⟨a1, a2, a3, a4⟩ := HF.out v hv
        exact ⟨a1, a2, by rw [hx]; exact a3 q1 hl1, by rw [hy]; exact a4 q2 hl2⟩)
      rw [← hs] at HX
      clear hs hx hy hz hq1 hq2 hu1 hu2 hmu2 a1 a2 a3 a4
      have hg1 : w1.grownBy wr.drew (some p) := grown_trans HG.out (grown_below (below_drewN (Below.refl _ wr) 1) _)
      have HX1 : Hid (Box1 wr.drew p 21 (.int .i32 s0)) := hide HX.out
      have hq1 : (0 : Int) ≤ (q1 : Int) := by omega
      have hq1' : (q1 : Int) < (m : Int) := by omega
      have hq2 : (0 : Int) ≤ (q2 : Int) := by omega
      have hq2' : (q2 : Int) < (m' : Int) := by omega
      go_wp2
      have hS0 : Hid (wr.drew.cell? ⟨w.heap.size, 1, none⟩ = some (.slice (some ⟨b1, o1, none⟩) m d) ∧ wr.drew.cell? ⟨w.heap.size + 1, 1, none⟩ = some (.slice (some ⟨b2, o2, none⟩) m' d') ∧ wr.drew.cell? ⟨b1, o1 + q1, none⟩ = some (.int .i32 x) ∧ wr.drew.cell? ⟨b2, o2 + q2, none⟩ = some (.int .i32 y)) := hide (HF2.out _ hg1)
      refine wp_region_U (fun _ v => v.cell? ⟨w.heap.size, 1, none⟩ = some (.slice (some ⟨b1, o1, none⟩) m d) ∧ v.cell? ⟨w.heap.size + 1, 1, none⟩ = some (.slice (some ⟨b2, o2, none⟩) m' d') ∧ v.cell? ⟨b1, o1 + q1, none⟩ = some (.int .i32 x) ∧ v.cell? ⟨b2, o2 + q2, none⟩ = some (.int .i32 y)) 99 (by kernel_rfl) ?_
      refine wpAnyU_take (i := 0) (oi := { dst := some 30, op := _, type := _, pos := _, after := _, guard := none }) (v := .func (.func 116) #[] #[.pointer (some ⟨p, 0, none⟩)]) rfl (by kernel_rfl) (by kernel_rfl) (by kernel_rfl) (by kernel_rfl) (fun _ _ _ h => h) (yields_take rfl (fun w' hw => by obtain ⟨h1, h2, h3, h4⟩ := hw.const; go_simp)) hS0.out ?_
      simp only [Act.put, List.setIfInBounds_toArray, List.set_cons_zero, List.set_cons_succ]
      refine wpAnyU_take (i := 1) (oi := { dst := some 31, op := _, type := _, pos := _, after := _, guard := none }) (v := .pointer (some ⟨w.heap.size, 1, none⟩)) rfl (by kernel_rfl) (by kernel_rfl) (by kernel_rfl) (by kernel_rfl) (fun _ _ _ h => h) (yields_take rfl (fun w' hw => by obtain ⟨h1, h2, h3, h4⟩ := hw.const; go_simp)) hS0.out ?_
      simp only [Act.put, List.setIfInBounds_toArray, List.set_cons_zero, List.set_cons_succ]
      refine wpAnyU_take (i := 2) (oi := { dst := some 32, op := _, type := _, pos := _, after := _, guard := none }) (v := .slice (some ⟨b1, o1, none⟩) m d) rfl (by kernel_rfl) (by kernel_rfl) (by kernel_rfl) (by kernel_rfl) (fun _ _ _ h => h) (yields_take rfl (fun w' hw => by obtain ⟨h1, h2, h3, h4⟩ := hw.const; go_simp)) hS0.out ?_
      simp only [Act.put, List.setIfInBounds_toArray, List.set_cons_zero, List.set_cons_succ]
      refine wpAnyU_take (i := 3) (oi := { dst := some 33, op := _, type := _, pos := _, after := _, guard := none }) (v := .int .i64 (I : Int)) rfl (by kernel_rfl) (by kernel_rfl) (by kernel_rfl) (by kernel_rfl) (fun _ _ _ h => h) (yields_take rfl (fun w' hw => by obtain ⟨h1, h2, h3, h4⟩ := hw.const; go_simp)) hS0.out ?_
      simp only [Act.put, List.setIfInBounds_toArray, List.set_cons_zero, List.set_cons_succ]
      refine wpAnyU_take (i := 4) (oi := { dst := some 34, op := _, type := _, pos := _, after := _, guard := none }) (v := .int .i64 (K : Int)) rfl (by kernel_rfl) (by kernel_rfl) (by kernel_rfl) (by kernel_rfl) (fun _ _ _ h => h) (yields_take rfl (fun w' hw => by obtain ⟨h1, h2, h3, h4⟩ := hw.const; go_simp)) hS0.out ?_
      simp only [Act.put, List.setIfInBounds_toArray, List.set_cons_zero, List.set_cons_succ]
      refine wpAnyU_take (i := 5) (oi := { dst := some 35, op := _, type := _, pos := _, after := _, guard := none }) (v := .int .i64 (u1 : Int)) rfl (by kernel_rfl) (by kernel_rfl) (by kernel_rfl) (by kernel_rfl) (fun _ _ _ h => h) (yields_take rfl (fun w' hw => by obtain ⟨h1, h2, h3, h4⟩ := hw.const; go_simp)) hS0.out ?_
      simp only [Act.put, List.setIfInBounds_toArray, List.set_cons_zero, List.set_cons_succ]
      refine wpAnyU_take (i := 6) (oi := { dst := some 36, op := _, type := _, pos := _, after := _, guard := none }) (v := .int .i64 (k : Int)) rfl (by kernel_rfl) (by kernel_rfl) (by kernel_rfl) (by kernel_rfl) (fun _ _ _ h => h) (yields_take rfl (fun w' hw => by obtain ⟨h1, h2, h3, h4⟩ := hw.const; go_simp)) hS0.out ?_
      simp only [Act.put, List.setIfInBounds_toArray, List.set_cons_zero, List.set_cons_succ]
      refine wpAnyU_take (i := 7) (oi := { dst := some 37, op := _, type := _, pos := _, after := _, guard := none }) (v := .int .i64 (q1 : Int)) rfl (by kernel_rfl) (by kernel_rfl) (by kernel_rfl) (by kernel_rfl) (fun _ _ _ h => h) (yields_take rfl (fun w' hw => by obtain ⟨h1, h2, h3, h4⟩ := hw.const; go_simp)) hS0.out ?_
      simp only [Act.put, List.setIfInBounds_toArray, List.set_cons_zero, List.set_cons_succ]
      refine wpAnyU_take (i := 8) (oi := { dst := some 38, op := _, type := _, pos := _, after := _, guard := none }) (v := .pointer (some ⟨b1, o1 + q1, none⟩)) rfl (by kernel_rfl) (by kernel_rfl) (by kernel_rfl) (by kernel_rfl) (fun _ _ _ h => h) (yields_take rfl (fun w' hw => by obtain ⟨h1, h2, h3, h4⟩ := hw.const; go_simp)) hS0.out ?_
      simp only [Act.put, List.setIfInBounds_toArray, List.set_cons_zero, List.set_cons_succ]
      refine wpAnyU_take (i := 9) (oi := { dst := some 39, op := _, type := _, pos := _, after := _, guard := none }) (v := .int .i32 x) rfl (by kernel_rfl) (by kernel_rfl) (by kernel_rfl) (by kernel_rfl) (fun _ _ _ h => h) (yields_take rfl (fun w' hw => by obtain ⟨h1, h2, h3, h4⟩ := hw.const; go_simp)) hS0.out ?_
      simp only [Act.put, List.setIfInBounds_toArray, List.set_cons_zero, List.set_cons_succ]
      refine wpAnyU_take (i := 10) (oi := { dst := some 40, op := _, type := _, pos := _, after := _, guard := none }) (v := .pointer (some ⟨w.heap.size + 1, 1, none⟩)) rfl (by kernel_rfl) (by kernel_rfl) (by kernel_rfl) (by kernel_rfl) (fun _ _ _ h => h) (yields_take rfl (fun w' hw => by obtain ⟨h1, h2, h3, h4⟩ := hw.const; go_simp)) hS0.out ?_
      simp only [Act.put, List.setIfInBounds_toArray, List.set_cons_zero, List.set_cons_succ]
      refine wpAnyU_take (i := 11) (oi := { dst := some 41, op := _, type := _, pos := _, after := _, guard := none }) (v := .slice (some ⟨b2, o2, none⟩) m' d') rfl (by kernel_rfl) (by kernel_rfl) (by kernel_rfl) (by kernel_rfl) (fun _ _ _ h => h) (yields_take rfl (fun w' hw => by obtain ⟨h1, h2, h3, h4⟩ := hw.const; go_simp)) hS0.out ?_
      simp only [Act.put, List.setIfInBounds_toArray, List.set_cons_zero, List.set_cons_succ]
      refine wpAnyU_take (i := 12) (oi := { dst := some 42, op := _, type := _, pos := _, after := _, guard := none }) (v := .int .i64 (k : Int)) rfl (by kernel_rfl) (by kernel_rfl) (by kernel_rfl) (by kernel_rfl) (fun _ _ _ h => h) (yields_take rfl (fun w' hw => by obtain ⟨h1, h2, h3, h4⟩ := hw.const; go_simp)) hS0.out ?_
      simp only [Act.put, List.setIfInBounds_toArray, List.set_cons_zero, List.set_cons_succ]
      refine wpAnyU_take (i := 13) (oi := { dst := some 43, op := _, type := _, pos := _, after := _, guard := none }) (v := .int .i64 (N : Int)) rfl (by kernel_rfl) (by kernel_rfl) (by kernel_rfl) (by kernel_rfl) (fun _ _ _ h => h) (yields_take rfl (fun w' hw => by obtain ⟨h1, h2, h3, h4⟩ := hw.const; go_simp)) hS0.out ?_
      simp only [Act.put, List.setIfInBounds_toArray, List.set_cons_zero, List.set_cons_succ]
      refine wpAnyU_take (i := 14) (oi := { dst := some 44, op := _, type := _, pos := _, after := _, guard := none }) (v := .int .i64 (u2 : Int)) rfl (by kernel_rfl) (by kernel_rfl) (by kernel_rfl) (by kernel_rfl) (fun _ _ _ h => h) (yields_take rfl (fun w' hw => by obtain ⟨h1, h2, h3, h4⟩ := hw.const; go_simp)) hS0.out ?_
      simp only [Act.put, List.setIfInBounds_toArray, List.set_cons_zero, List.set_cons_succ]
      refine wpAnyU_take (i := 15) (oi := { dst := some 45, op := _, type := _, pos := _, after := _, guard := none }) (v := .int .i64 (j : Int)) rfl (by kernel_rfl) (by kernel_rfl) (by kernel_rfl) (by kernel_rfl) (fun _ _ _ h => h) (yields_take rfl (fun w' hw => by obtain ⟨h1, h2, h3, h4⟩ := hw.const; go_simp)) hS0.out ?_
      simp only [Act.put, List.setIfInBounds_toArray, List.set_cons_zero, List.set_cons_succ]
      refine wpAnyU_take (i := 16) (oi := { dst := some 46, op := _, type := _, pos := _, after := _, guard := none }) (v := .int .i64 (q2 : Int)) rfl (by kernel_rfl) (by kernel_rfl) (by kernel_rfl) (by kernel_rfl) (fun _ _ _ h => h) (yields_take rfl (fun w' hw => by obtain ⟨h1, h2, h3, h4⟩ := hw.const; go_simp)) hS0.out ?_
      simp only [Act.put, List.setIfInBounds_toArray, List.set_cons_zero, List.set_cons_succ]
      refine wpAnyU_take (i := 17) (oi := { dst := some 47, op := _, type := _, pos := _, after := _, guard := none }) (v := .pointer (some ⟨b2, o2 + q2, none⟩)) rfl (by kernel_rfl) (by kernel_rfl) (by kernel_rfl) (by kernel_rfl) (fun _ _ _ h => h) (yields_take rfl (fun w' hw => by obtain ⟨h1, h2, h3, h4⟩ := hw.const; go_simp)) hS0.out ?_
      simp only [Act.put, List.setIfInBounds_toArray, List.set_cons_zero, List.set_cons_succ]
      refine wpAnyU_take (i := 18) (oi := { dst := some 48, op := _, type := _, pos := _, after := _, guard := none }) (v := .int .i32 y) rfl (by kernel_rfl) (by kernel_rfl) (by kernel_rfl) (by kernel_rfl) (fun _ _ _ h => h) (yields_take rfl (fun w' hw => by obtain ⟨h1, h2, h3, h4⟩ := hw.const; go_simp)) hS0.out ?_
      simp only [Act.put, List.setIfInBounds_toArray, List.set_cons_zero, List.set_cons_succ]
      refine wpAnyU_take (i := 19) (oi := { dst := some 49, op := _, type := _, pos := _, after := _, guard := none }) (v := .int .i32 z) rfl (by kernel_rfl) (by kernel_rfl) (by kernel_rfl) (by kernel_rfl) (fun _ _ _ h => h) (yields_take rfl (fun w' hw => by obtain ⟨h1, h2, h3, h4⟩ := hw.const; go_simp)) hS0.out ?_
      simp only [Act.put, List.setIfInBounds_toArray, List.set_cons_zero, List.set_cons_succ]
      refine wpAnyU_one (i := 20) (by kernel_rfl) rfl ?_
      intro K hK
      go_simp
      refine Calls.mono (sumadd_any p z s0 _ HX1.out) ?_
      rintro e w2 ⟨rfl, hw2⟩
      dsimp only
      have hg2 : w1.grownBy w2 (some p) := grown_trans hg1 (by rw [hw2]; exact setCell_self _ _ _)
      have hS1 : Hid (w2.cell? ⟨w.heap.size, 1, none⟩ = some (.slice (some ⟨b1, o1, none⟩) m d) ∧ w2.cell? ⟨w.heap.size + 1, 1, none⟩ = some (.slice (some ⟨b2, o2, none⟩) m' d') ∧ w2.cell? ⟨b1, o1 + q1, none⟩ = some (.int .i32 x) ∧ w2.cell? ⟨b2, o2 + q2, none⟩ = some (.int .i32 y)) := hide (HF2.out _ hg2)
      refine hK.out _ _ hS1.out (fun _ => ?_)
      clear hK K hS0
      refine wpAnyU_done (by kernel_rfl) ?_ _
      clear hS1
      have HNG : Hid (w1.grownBy w2 (some p)) := hide hg2
      have HNX : Hid (Box1 w2 p 21 (.int .i32 (dotN l l' K N I j (k + 1)))) := hide (by rw [← HD.out, hw2]; exact HX1.out.set _)
      clear hw2
      go_wp2
      go_roundw
      case rel => exact ⟨k + 1, by omega, by go_num, HNX, HNG⟩
      case measure => simp [intOf]; omega
    · obtain rfl : k = K := by omega
      have HBE := hide (HBW.out _ HG.out)
      go_wp2_with fail
      refine Calls.mono (sumtotal_any p _ _ HX.out) ?_
      rintro e w2 ⟨rfl, rfl⟩
      go_wp2
      go_ret
      exact ⟨rfl, HBE.out⟩

end

section
open Go.RowKit
set_option linter.unusedVariables false
set_option linter.unusedSimpArgs false
set_option maxRecDepth 100000

def shp7E (a b : List Int) : Int := if 0 < sizeI a ∧ 0 < sizeI b then (if a.length = 2 ∧ b.length = 2 ∧ a.getD 1 0 = b.getD 0 0 then 0 else 10) else 1

def shp7S (a b : List Int) : List Int := if shp7E a b = 0 then [a.getD 0 0, b.getD 1 0] else []

theorem shp7E_iff {a b : List Int} : shp7E a b = 0 ↔ (0 < sizeI a ∧ 0 < sizeI b) ∧ a.length = 2 ∧ b.length = 2 ∧ a.getD 1 0 = b.getD 0 0 := by
  unfold shp7E
  by_cases h : 0 < sizeI a ∧ 0 < sizeI b
  · rw [if_pos h]
    by_cases h3 : a.length = 2 ∧ b.length = 2 ∧ a.getD 1 0 = b.getD 0 0
    · rw [if_pos h3]; exact ⟨fun _ => ⟨h, h3⟩, fun _ => rfl⟩
    · rw [if_neg h3]; exact ⟨fun e => absurd e (by decide), fun e => absurd e.2 h3⟩
  · rw [if_neg h]; exact ⟨fun e => absurd e (by decide), fun e => absurd e.1 h⟩

theorem shp7E_arg {a b : List Int} (h : ¬ (0 < sizeI a ∧ 0 < sizeI b)) : shp7E a b = 1 := by rw [shp7E, if_neg h]

theorem shp7E_shape {a b : List Int} (h : 0 < sizeI a ∧ 0 < sizeI b) (h2 : ¬ (a.length = 2 ∧ b.length = 2 ∧ a.getD 1 0 = b.getD 0 0)) : shp7E a b = 10 := by rw [shp7E, if_pos h, if_neg h2]

theorem shp7S_bad {a b : List Int} (h : shp7E a b ≠ 0) : shp7S a b = [] := by rw [shp7S, if_neg h]

theorem shp7S_ok {a b : List Int} (h : shp7E a b = 0) : shp7S a b = [a.getD 0 0, b.getD 1 0] := by rw [shp7S, if_pos h]

theorem below_al7x {w v : World} {o : Obj} (h : Below w.heap.size w v) : Below w.heap.size w (v.alloc o) := h.alloc h.size o

set_option maxHeartbeats 2000000 in
theorem pshape_any (A A' : Option Addr) (n c n' c' : Nat) (s s' : List Int) (w : World) (hA : Lies w A n (s.map (Value.int .i64))) (hA' : Lies w A' n' (s'.map (Value.int .i64))) (hn : n ≤ 281474976710656) (hn' : n' ≤ 281474976710656) :
    Calls Tryz.prog 10 #[.slice A n c, .slice A' n' c'] w fun e w' => ∃ R k kc, e = .returned (.tuple #[.slice R k kc, .int .i64 (shp7E s s')]) ∧ w'.ownsRow w.heap.size 3 1 (.slice R k kc) k ((shp7S s s').map (Value.int .i64)) ∧ k ≤ 2 ∧ Below w.heap.size w w' := by
  have hl1 : s.length = n := by have := hA.len; simpa using this
  have hl2 : s'.length = n' := by have := hA'.len; simpa using this
  have HL1 := hide hl1
  have HL2 := hide hl2
  have HA := hide hA
  have HA' := hide hA'
  clear hA hA' hl1 hl2
  have HBAD : Hid (∀ v, shp7E s s' ≠ 0 → Below w.heap.size w v → ∃ R k kc, Ending.returned (.tuple #[.slice none 0 0, .int .i64 (shp7E s s')]) = .returned (.tuple #[.slice R k kc, .int .i64 (shp7E s s')]) ∧ v.ownsRow w.heap.size 3 1 (.slice R k kc) k ((shp7S s s').map (Value.int .i64)) ∧ k ≤ 2 ∧ Below w.heap.size w v) := hide (fun v h hb => ⟨none, 0, 0, rfl, by rw [shp7S_bad h]; exact World.ownsRow_nil _ _ _ _, by omega, hb⟩)
  go_enter Tryz.func10, Tryz.ntmps10
  go_wp2_with fail
  refine Calls.mono (check_any A n c s _ HA.out hn) ?_
  rintro e w1 ⟨rfl, hb1⟩
  by_cases h1 : 0 < sizeI s
  rotate_left
  · rw [decide_eq_false h1]
    have HE : Hid (shp7E s s' = 1) := hide (shp7E_arg fun h => h1 h.1)
    have HB := hide hb1
    clear h1 hb1
    go_wp2
    go_ret2
    have h := HBAD.out _ (by rw [HE.out]; decide) HB.out
    rw [HE.out] at h ⊢
    exact h
  rw [decide_eq_true h1]
  go_wp2_with fail
  refine Calls.mono (check_any A' n' c' s' _ (HA'.out.below hb1) hn') ?_
  rintro e w2 ⟨rfl, hb20⟩
  have hb2 : Below w.heap.size w w2 := hb1.trans (hb20.mono hb1.size)
  clear hb20 hb1
  by_cases h2 : 0 < sizeI s'
  rotate_left
  · rw [decide_eq_false h2]
    have HE : Hid (shp7E s s' = 1) := hide (shp7E_arg fun h => h2 h.2)
    have HB := hide hb2
    clear h1 h2 hb2
    go_wp2
    go_ret2
    have h := HBAD.out _ (by rw [HE.out]; decide) HB.out
    rw [HE.out] at h ⊢
    exact h
  rw [decide_eq_true h2]
  have HOK := hide (show 0 < sizeI s ∧ 0 < sizeI s' from ⟨h1, h2⟩)
  clear h1 h2
  have HBD : Hid (Below w.heap.size w (w2.drewN 1)) := hide (below_drewN hb2 1)
  by_cases h3 : n = 2
  rotate_left
  · have HE : Hid (shp7E s s' = 10) := hide (shp7E_shape HOK.out (by rw [HL1.out]; exact fun h => h3 h.1))
    have e1 : ((n : Int) == 2) = false := by simpa using (by omega : ¬ (n : Int) = 2)
    have e2 : ((n : Int) != 2) = true := by simpa using (by omega : ¬ (n : Int) = 2)
    go_wp2
    have hS0 : Hid (True) := hide (trivial)
    refine wp_region_U (fun _ v => True) 99 (by kernel_rfl) ?_
    refine wpAnyU_take (i := 0) (oi := { dst := some 14, op := _, type := _, pos := _, after := _, guard := none }) (v := .slice A n c) rfl (by kernel_rfl) (by kernel_rfl) (by kernel_rfl) (by kernel_rfl) (fun _ _ _ h => h) (yields_take rfl (fun w' hw => by go_simp)) hS0.out ?_
    simp only [Act.put, List.setIfInBounds_toArray, List.set_cons_zero, List.set_cons_succ]
    refine wpAnyU_take (i := 1) (oi := { dst := some 15, op := _, type := _, pos := _, after := _, guard := none }) (v := .int .i64 (n : Int)) rfl (by kernel_rfl) (by kernel_rfl) (by kernel_rfl) (by kernel_rfl) (fun _ _ _ h => h) (yields_take rfl (fun w' hw => by go_simp)) hS0.out ?_
    simp only [Act.put, List.setIfInBounds_toArray, List.set_cons_zero, List.set_cons_succ]
    refine wpAnyU_take (i := 2) (oi := { dst := some 16, op := _, type := _, pos := _, after := _, guard := none }) (v := .bool true) rfl (by kernel_rfl) (by kernel_rfl) (by kernel_rfl) (by kernel_rfl) (fun _ _ _ h => h) (yields_take rfl (fun w' hw => by go_simp)) hS0.out ?_
    simp only [Act.put, List.setIfInBounds_toArray, List.set_cons_zero, List.set_cons_succ]
    refine wpAnyU_take (i := 3) (oi := { dst := some 17, op := _, type := _, pos := _, after := _, guard := none }) (v := .bool true) rfl (by kernel_rfl) (by kernel_rfl) (by kernel_rfl) (by kernel_rfl) (fun _ _ _ h => h) (yields_take rfl (fun w' hw => by go_simp)) hS0.out ?_
    simp only [Act.put, List.setIfInBounds_toArray, List.set_cons_zero, List.set_cons_succ]
    refine wpAnyU_take (i := 4) (oi := { dst := some 18, op := _, type := _, pos := _, after := _, guard := some (3, false) }) (v := undef) rfl (by kernel_rfl) (by kernel_rfl) (by kernel_rfl) (by kernel_rfl) (fun _ _ _ h => h) (.inr ⟨rfl, rfl⟩) hS0.out ?_
    simp only [Act.put, List.setIfInBounds_toArray, List.set_cons_zero, List.set_cons_succ]
    refine wpAnyU_take (i := 5) (oi := { dst := some 19, op := _, type := _, pos := _, after := _, guard := some (3, false) }) (v := undef) rfl (by kernel_rfl) (by kernel_rfl) (by kernel_rfl) (by kernel_rfl) (fun _ _ _ h => h) (.inr ⟨rfl, rfl⟩) hS0.out ?_
    simp only [Act.put, List.setIfInBounds_toArray, List.set_cons_zero, List.set_cons_succ]
    refine wpAnyU_take (i := 6) (oi := { dst := some 20, op := _, type := _, pos := _, after := _, guard := some (3, false) }) (v := undef) rfl (by kernel_rfl) (by kernel_rfl) (by kernel_rfl) (by kernel_rfl) (fun _ _ _ h => h) (.inr ⟨rfl, rfl⟩) hS0.out ?_
    simp only [Act.put, List.setIfInBounds_toArray, List.set_cons_zero, List.set_cons_succ]
    refine wpAnyU_take (i := 7) (oi := { dst := some 21, op := _, type := _, pos := _, after := _, guard := none }) (v := .bool true) rfl (by kernel_rfl) (by kernel_rfl) (by kernel_rfl) (by kernel_rfl) (fun _ _ _ h => h) (yields_take rfl (fun w' hw => by go_simp)) hS0.out ?_
    simp only [Act.put, List.setIfInBounds_toArray, List.set_cons_zero, List.set_cons_succ]
    refine wpAnyU_take (i := 8) (oi := { dst := some 22, op := _, type := _, pos := _, after := _, guard := none }) (v := .bool true) rfl (by kernel_rfl) (by kernel_rfl) (by kernel_rfl) (by kernel_rfl) (fun _ _ _ h => h) (yields_take rfl (fun w' hw => by go_simp)) hS0.out ?_
    simp only [Act.put, List.setIfInBounds_toArray, List.set_cons_zero, List.set_cons_succ]
    refine wpAnyU_take (i := 9) (oi := { dst := some 23, op := _, type := _, pos := _, after := _, guard := some (8, false) }) (v := undef) rfl (by kernel_rfl) (by kernel_rfl) (by kernel_rfl) (by kernel_rfl) (fun _ _ _ h => h) (.inr ⟨rfl, rfl⟩) hS0.out ?_
    simp only [Act.put, List.setIfInBounds_toArray, List.set_cons_zero, List.set_cons_succ]
    refine wpAnyU_take (i := 10) (oi := { dst := some 24, op := _, type := _, pos := _, after := _, guard := some (8, false) }) (v := undef) rfl (by kernel_rfl) (by kernel_rfl) (by kernel_rfl) (by kernel_rfl) (fun _ _ _ h => h) (.inr ⟨rfl, rfl⟩) hS0.out ?_
    simp only [Act.put, List.setIfInBounds_toArray, List.set_cons_zero, List.set_cons_succ]
    refine wpAnyU_take (i := 11) (oi := { dst := some 25, op := _, type := _, pos := _, after := _, guard := some (8, false) }) (v := undef) rfl (by kernel_rfl) (by kernel_rfl) (by kernel_rfl) (by kernel_rfl) (fun _ _ _ h => h) (.inr ⟨rfl, rfl⟩) hS0.out ?_
    simp only [Act.put, List.setIfInBounds_toArray, List.set_cons_zero, List.set_cons_succ]
    refine wpAnyU_take (i := 12) (oi := { dst := some 26, op := _, type := _, pos := _, after := _, guard := some (8, false) }) (v := undef) rfl (by kernel_rfl) (by kernel_rfl) (by kernel_rfl) (by kernel_rfl) (fun _ _ _ h => h) (.inr ⟨rfl, rfl⟩) hS0.out ?_
    simp only [Act.put, List.setIfInBounds_toArray, List.set_cons_zero, List.set_cons_succ]
    refine wpAnyU_take (i := 13) (oi := { dst := some 27, op := _, type := _, pos := _, after := _, guard := some (8, false) }) (v := undef) rfl (by kernel_rfl) (by kernel_rfl) (by kernel_rfl) (by kernel_rfl) (fun _ _ _ h => h) (.inr ⟨rfl, rfl⟩) hS0.out ?_
    simp only [Act.put, List.setIfInBounds_toArray, List.set_cons_zero, List.set_cons_succ]
    refine wpAnyU_take (i := 14) (oi := { dst := some 28, op := _, type := _, pos := _, after := _, guard := some (8, false) }) (v := undef) rfl (by kernel_rfl) (by kernel_rfl) (by kernel_rfl) (by kernel_rfl) (fun _ _ _ h => h) (.inr ⟨rfl, rfl⟩) hS0.out ?_
    simp only [Act.put, List.setIfInBounds_toArray, List.set_cons_zero, List.set_cons_succ]
    refine wpAnyU_take (i := 15) (oi := { dst := some 29, op := _, type := _, pos := _, after := _, guard := some (8, false) }) (v := undef) rfl (by kernel_rfl) (by kernel_rfl) (by kernel_rfl) (by kernel_rfl) (fun _ _ _ h => h) (.inr ⟨rfl, rfl⟩) hS0.out ?_
    simp only [Act.put, List.setIfInBounds_toArray, List.set_cons_zero, List.set_cons_succ]
    refine wpAnyU_take (i := 16) (oi := { dst := some 30, op := _, type := _, pos := _, after := _, guard := none }) (v := .bool true) rfl (by kernel_rfl) (by kernel_rfl) (by kernel_rfl) (by kernel_rfl) (fun _ _ _ h => h) (yields_take rfl (fun w' hw => by go_simp)) hS0.out ?_
    simp only [Act.put, List.setIfInBounds_toArray, List.set_cons_zero, List.set_cons_succ]
    refine wpAnyU_done (by kernel_rfl) ?_ _
    clear hS0
    go_wp2
    go_ret2
    have h := HBAD.out _ (by rw [HE.out]; decide) HBD.out
    rw [HE.out] at h ⊢
    exact h
  subst h3
  by_cases h4 : n' = 2
  rotate_left
  · have HE : Hid (shp7E s s' = 10) := hide (shp7E_shape HOK.out (by rw [HL2.out]; exact fun h => h4 h.2.1))
    have e1 : ((n' : Int) == 2) = false := by simpa using (by omega : ¬ (n' : Int) = 2)
    have e2 : ((n' : Int) != 2) = true := by simpa using (by omega : ¬ (n' : Int) = 2)
    go_wp2
    have hS0 : Hid (True) := hide (trivial)
    refine wp_region_U (fun _ v => True) 99 (by kernel_rfl) ?_
    refine wpAnyU_take (i := 0) (oi := { dst := some 14, op := _, type := _, pos := _, after := _, guard := none }) (v := .slice A 2 c) rfl (by kernel_rfl) (by kernel_rfl) (by kernel_rfl) (by kernel_rfl) (fun _ _ _ h => h) (yields_take rfl (fun w' hw => by go_simp)) hS0.out ?_
    simp only [Act.put, List.setIfInBounds_toArray, List.set_cons_zero, List.set_cons_succ]
    refine wpAnyU_take (i := 1) (oi := { dst := some 15, op := _, type := _, pos := _, after := _, guard := none }) (v := .int .i64 2) rfl (by kernel_rfl) (by kernel_rfl) (by kernel_rfl) (by kernel_rfl) (fun _ _ _ h => h) (yields_take rfl (fun w' hw => by go_simp)) hS0.out ?_
    simp only [Act.put, List.setIfInBounds_toArray, List.set_cons_zero, List.set_cons_succ]
    refine wpAnyU_take (i := 2) (oi := { dst := some 16, op := _, type := _, pos := _, after := _, guard := none }) (v := .bool false) rfl (by kernel_rfl) (by kernel_rfl) (by kernel_rfl) (by kernel_rfl) (fun _ _ _ h => h) (yields_take rfl (fun w' hw => by go_simp)) hS0.out ?_
    simp only [Act.put, List.setIfInBounds_toArray, List.set_cons_zero, List.set_cons_succ]
    refine wpAnyU_take (i := 3) (oi := { dst := some 17, op := _, type := _, pos := _, after := _, guard := none }) (v := .bool false) rfl (by kernel_rfl) (by kernel_rfl) (by kernel_rfl) (by kernel_rfl) (fun _ _ _ h => h) (yields_take rfl (fun w' hw => by go_simp)) hS0.out ?_
    simp only [Act.put, List.setIfInBounds_toArray, List.set_cons_zero, List.set_cons_succ]
    refine wpAnyU_take (i := 4) (oi := { dst := some 18, op := _, type := _, pos := _, after := _, guard := some (3, false) }) (v := .slice A' n' c') rfl (by kernel_rfl) (by kernel_rfl) (by kernel_rfl) (by kernel_rfl) (fun _ _ _ h => h) (yields_take rfl (fun w' hw => by go_simp)) hS0.out ?_
    simp only [Act.put, List.setIfInBounds_toArray, List.set_cons_zero, List.set_cons_succ]
    refine wpAnyU_take (i := 5) (oi := { dst := some 19, op := _, type := _, pos := _, after := _, guard := some (3, false) }) (v := .int .i64 (n' : Int)) rfl (by kernel_rfl) (by kernel_rfl) (by kernel_rfl) (by kernel_rfl) (fun _ _ _ h => h) (yields_take rfl (fun w' hw => by go_simp)) hS0.out ?_
    simp only [Act.put, List.setIfInBounds_toArray, List.set_cons_zero, List.set_cons_succ]
    refine wpAnyU_take (i := 6) (oi := { dst := some 20, op := _, type := _, pos := _, after := _, guard := some (3, false) }) (v := .bool true) rfl (by kernel_rfl) (by kernel_rfl) (by kernel_rfl) (by kernel_rfl) (fun _ _ _ h => h) (yields_take rfl (fun w' hw => by go_simp)) hS0.out ?_
    simp only [Act.put, List.setIfInBounds_toArray, List.set_cons_zero, List.set_cons_succ]
    refine wpAnyU_take (i := 7) (oi := { dst := some 21, op := _, type := _, pos := _, after := _, guard := none }) (v := .bool true) rfl (by kernel_rfl) (by kernel_rfl) (by kernel_rfl) (by kernel_rfl) (fun _ _ _ h => h) (yields_take rfl (fun w' hw => by go_simp)) hS0.out ?_
    simp only [Act.put, List.setIfInBounds_toArray, List.set_cons_zero, List.set_cons_succ]
    refine wpAnyU_take (i := 8) (oi := { dst := some 22, op := _, type := _, pos := _, after := _, guard := none }) (v := .bool true) rfl (by kernel_rfl) (by kernel_rfl) (by kernel_rfl) (by kernel_rfl) (fun _ _ _ h => h) (yields_take rfl (fun w' hw => by go_simp)) hS0.out ?_
    simp only [Act.put, List.setIfInBounds_toArray, List.set_cons_zero, List.set_cons_succ]
    refine wpAnyU_take (i := 9) (oi := { dst := some 23, op := _, type := _, pos := _, after := _, guard := some (8, false) }) (v := undef) rfl (by kernel_rfl) (by kernel_rfl) (by kernel_rfl) (by kernel_rfl) (fun _ _ _ h => h) (.inr ⟨rfl, rfl⟩) hS0.out ?_
    simp only [Act.put, List.setIfInBounds_toArray, List.set_cons_zero, List.set_cons_succ]
    refine wpAnyU_take (i := 10) (oi := { dst := some 24, op := _, type := _, pos := _, after := _, guard := some (8, false) }) (v := undef) rfl (by kernel_rfl) (by kernel_rfl) (by kernel_rfl) (by kernel_rfl) (fun _ _ _ h => h) (.inr ⟨rfl, rfl⟩) hS0.out ?_
    simp only [Act.put, List.setIfInBounds_toArray, List.set_cons_zero, List.set_cons_succ]
    refine wpAnyU_take (i := 11) (oi := { dst := some 25, op := _, type := _, pos := _, after := _, guard := some (8, false) }) (v := undef) rfl (by kernel_rfl) (by kernel_rfl) (by kernel_rfl) (by kernel_rfl) (fun _ _ _ h => h) (.inr ⟨rfl, rfl⟩) hS0.out ?_
    simp only [Act.put, List.setIfInBounds_toArray, List.set_cons_zero, List.set_cons_succ]
    refine wpAnyU_take (i := 12) (oi := { dst := some 26, op := _, type := _, pos := _, after := _, guard := some (8, false) }) (v := undef) rfl (by kernel_rfl) (by kernel_rfl) (by kernel_rfl) (by kernel_rfl) (fun _ _ _ h => h) (.inr ⟨rfl, rfl⟩) hS0.out ?_
    simp only [Act.put, List.setIfInBounds_toArray, List.set_cons_zero, List.set_cons_succ]
    refine wpAnyU_take (i := 13) (oi := { dst := some 27, op := _, type := _, pos := _, after := _, guard := some (8, false) }) (v := undef) rfl (by kernel_rfl) (by kernel_rfl) (by kernel_rfl) (by kernel_rfl) (fun _ _ _ h => h) (.inr ⟨rfl, rfl⟩) hS0.out ?_
    simp only [Act.put, List.setIfInBounds_toArray, List.set_cons_zero, List.set_cons_succ]
    refine wpAnyU_take (i := 14) (oi := { dst := some 28, op := _, type := _, pos := _, after := _, guard := some (8, false) }) (v := undef) rfl (by kernel_rfl) (by kernel_rfl) (by kernel_rfl) (by kernel_rfl) (fun _ _ _ h => h) (.inr ⟨rfl, rfl⟩) hS0.out ?_
    simp only [Act.put, List.setIfInBounds_toArray, List.set_cons_zero, List.set_cons_succ]
    refine wpAnyU_take (i := 15) (oi := { dst := some 29, op := _, type := _, pos := _, after := _, guard := some (8, false) }) (v := undef) rfl (by kernel_rfl) (by kernel_rfl) (by kernel_rfl) (by kernel_rfl) (fun _ _ _ h => h) (.inr ⟨rfl, rfl⟩) hS0.out ?_
    simp only [Act.put, List.setIfInBounds_toArray, List.set_cons_zero, List.set_cons_succ]
    refine wpAnyU_take (i := 16) (oi := { dst := some 30, op := _, type := _, pos := _, after := _, guard := none }) (v := .bool true) rfl (by kernel_rfl) (by kernel_rfl) (by kernel_rfl) (by kernel_rfl) (fun _ _ _ h => h) (yields_take rfl (fun w' hw => by go_simp)) hS0.out ?_
    simp only [Act.put, List.setIfInBounds_toArray, List.set_cons_zero, List.set_cons_succ]
    refine wpAnyU_done (by kernel_rfl) ?_ _
    clear hS0
    go_wp2
    go_ret2
    have h := HBAD.out _ (by rw [HE.out]; decide) HBD.out
    rw [HE.out] at h ⊢
    exact h
  subst h4
  obtain ⟨b1, o1, rfl, hbk1, hx1⟩ := byte_at HA.out (by omega)
  obtain ⟨b2, o2, rfl, hbk2, hx2⟩ := byte_at HA'.out (by omega)
  have c10 := hx1 0 (by omega)
  have c11 := hx1 1 (by omega)
  have c20 := hx2 0 (by omega)
  have c21 := hx2 1 (by omega)
  obtain ⟨p, hp⟩ : ∃ p, p = s.getD 0 0 := ⟨_, rfl⟩
  obtain ⟨x, hx⟩ : ∃ x, x = s.getD 1 0 := ⟨_, rfl⟩
  obtain ⟨y, hy⟩ : ∃ y, y = s'.getD 0 0 := ⟨_, rfl⟩
  obtain ⟨q, hq⟩ : ∃ q, q = s'.getD 1 0 := ⟨_, rfl⟩
  rw [← hp] at c10
  rw [← hx] at c11
  rw [← hy] at c20
  rw [← hq] at c21
  have HK1 : Hid (∀ v, Below w.heap.size w v → v.cell? ⟨b1, o1 + 1, none⟩ = some (.int .i64 x) ∧ v.cell? ⟨b2, o2, none⟩ = some (.int .i64 y)) := hide (fun v hv => ⟨(hv.cell (p := ⟨b1, o1 + 1, none⟩) hbk1).trans c11, (hv.cell (p := ⟨b2, o2, none⟩) hbk2).trans c20⟩)
  have HK2 : Hid (∀ v, Below w.heap.size w v → v.cell? ⟨b1, o1, none⟩ = some (.int .i64 p) ∧ v.cell? ⟨b2, o2 + 1, none⟩ = some (.int .i64 q)) := hide (fun v hv => ⟨(hv.cell (p := ⟨b1, o1, none⟩) hbk1).trans c10, (hv.cell (p := ⟨b2, o2 + 1, none⟩) hbk2).trans c21⟩)
  have HXY := hide (And.intro hx hy)
  have HPQ := hide (And.intro hp hq)
  clear hx1 hx2 c10 c11 c20 c21 hp hq hx hy
  by_cases h5 : x = y
  rotate_left
  · have HE : Hid (shp7E s s' = 10) := hide (shp7E_shape HOK.out (by rw [← HXY.out.1, ← HXY.out.2]; exact fun h => h5 h.2.2))
    have e1 : (x == y) = false := by simpa using h5
    have e2 : (x != y) = true := by simpa using h5
    go_wp2
    have hS0 : Hid ((w2.drew).cell? ⟨b1, o1 + 1, none⟩ = some (.int .i64 x) ∧ (w2.drew).cell? ⟨b2, o2, none⟩ = some (.int .i64 y)) := hide (HK1.out _ (below_drewN hb2 1))
    refine wp_region_U (fun _ v => v.cell? ⟨b1, o1 + 1, none⟩ = some (.int .i64 x) ∧ v.cell? ⟨b2, o2, none⟩ = some (.int .i64 y)) 99 (by kernel_rfl) ?_
    refine wpAnyU_take (i := 0) (oi := { dst := some 14, op := _, type := _, pos := _, after := _, guard := none }) (v := .slice (some ⟨b1, o1, none⟩) 2 c) rfl (by kernel_rfl) (by kernel_rfl) (by kernel_rfl) (by kernel_rfl) (fun _ _ _ h => h) (yields_take rfl (fun w' hw => by obtain ⟨h1, h2⟩ := hw.const; go_simp)) hS0.out ?_
    simp only [Act.put, List.setIfInBounds_toArray, List.set_cons_zero, List.set_cons_succ]
    refine wpAnyU_take (i := 1) (oi := { dst := some 15, op := _, type := _, pos := _, after := _, guard := none }) (v := .int .i64 2) rfl (by kernel_rfl) (by kernel_rfl) (by kernel_rfl) (by kernel_rfl) (fun _ _ _ h => h) (yields_take rfl (fun w' hw => by obtain ⟨h1, h2⟩ := hw.const; go_simp)) hS0.out ?_
    simp only [Act.put, List.setIfInBounds_toArray, List.set_cons_zero, List.set_cons_succ]
    refine wpAnyU_take (i := 2) (oi := { dst := some 16, op := _, type := _, pos := _, after := _, guard := none }) (v := .bool false) rfl (by kernel_rfl) (by kernel_rfl) (by kernel_rfl) (by kernel_rfl) (fun _ _ _ h => h) (yields_take rfl (fun w' hw => by obtain ⟨h1, h2⟩ := hw.const; go_simp)) hS0.out ?_
    simp only [Act.put, List.setIfInBounds_toArray, List.set_cons_zero, List.set_cons_succ]
    refine wpAnyU_take (i := 3) (oi := { dst := some 17, op := _, type := _, pos := _, after := _, guard := none }) (v := .bool false) rfl (by kernel_rfl) (by kernel_rfl) (by kernel_rfl) (by kernel_rfl) (fun _ _ _ h => h) (yields_take rfl (fun w' hw => by obtain ⟨h1, h2⟩ := hw.const; go_simp)) hS0.out ?_
    simp only [Act.put, List.setIfInBounds_toArray, List.set_cons_zero, List.set_cons_succ]
    refine wpAnyU_take (i := 4) (oi := { dst := some 18, op := _, type := _, pos := _, after := _, guard := some (3, false) }) (v := .slice (some ⟨b2, o2, none⟩) 2 c') rfl (by kernel_rfl) (by kernel_rfl) (by kernel_rfl) (by kernel_rfl) (fun _ _ _ h => h) (yields_take rfl (fun w' hw => by obtain ⟨h1, h2⟩ := hw.const; go_simp)) hS0.out ?_
    simp only [Act.put, List.setIfInBounds_toArray, List.set_cons_zero, List.set_cons_succ]
    refine wpAnyU_take (i := 5) (oi := { dst := some 19, op := _, type := _, pos := _, after := _, guard := some (3, false) }) (v := .int .i64 2) rfl (by kernel_rfl) (by kernel_rfl) (by kernel_rfl) (by kernel_rfl) (fun _ _ _ h => h) (yields_take rfl (fun w' hw => by obtain ⟨h1, h2⟩ := hw.const; go_simp)) hS0.out ?_
    simp only [Act.put, List.setIfInBounds_toArray, List.set_cons_zero, List.set_cons_succ]
    refine wpAnyU_take (i := 6) (oi := { dst := some 20, op := _, type := _, pos := _, after := _, guard := some (3, false) }) (v := .bool false) rfl (by kernel_rfl) (by kernel_rfl) (by kernel_rfl) (by kernel_rfl) (fun _ _ _ h => h) (yields_take rfl (fun w' hw => by obtain ⟨h1, h2⟩ := hw.const; go_simp)) hS0.out ?_
    simp only [Act.put, List.setIfInBounds_toArray, List.set_cons_zero, List.set_cons_succ]
    refine wpAnyU_take (i := 7) (oi := { dst := some 21, op := _, type := _, pos := _, after := _, guard := none }) (v := .bool false) rfl (by kernel_rfl) (by kernel_rfl) (by kernel_rfl) (by kernel_rfl) (fun _ _ _ h => h) (yields_take rfl (fun w' hw => by obtain ⟨h1, h2⟩ := hw.const; go_simp)) hS0.out ?_
    simp only [Act.put, List.setIfInBounds_toArray, List.set_cons_zero, List.set_cons_succ]
    refine wpAnyU_take (i := 8) (oi := { dst := some 22, op := _, type := _, pos := _, after := _, guard := none }) (v := .bool false) rfl (by kernel_rfl) (by kernel_rfl) (by kernel_rfl) (by kernel_rfl) (fun _ _ _ h => h) (yields_take rfl (fun w' hw => by obtain ⟨h1, h2⟩ := hw.const; go_simp)) hS0.out ?_
    simp only [Act.put, List.setIfInBounds_toArray, List.set_cons_zero, List.set_cons_succ]
    refine wpAnyU_take (i := 9) (oi := { dst := some 23, op := _, type := _, pos := _, after := _, guard := some (8, false) }) (v := .slice (some ⟨b1, o1, none⟩) 2 c) rfl (by kernel_rfl) (by kernel_rfl) (by kernel_rfl) (by kernel_rfl) (fun _ _ _ h => h) (yields_take rfl (fun w' hw => by obtain ⟨h1, h2⟩ := hw.const; go_simp)) hS0.out ?_
    simp only [Act.put, List.setIfInBounds_toArray, List.set_cons_zero, List.set_cons_succ]
    refine wpAnyU_take (i := 10) (oi := { dst := some 24, op := _, type := _, pos := _, after := _, guard := some (8, false) }) (v := .pointer (some ⟨b1, o1 + 1, none⟩)) rfl (by kernel_rfl) (by kernel_rfl) (by kernel_rfl) (by kernel_rfl) (fun _ _ _ h => h) (yields_take rfl (fun w' hw => by obtain ⟨h1, h2⟩ := hw.const; go_simp)) hS0.out ?_
    simp only [Act.put, List.setIfInBounds_toArray, List.set_cons_zero, List.set_cons_succ]
    refine wpAnyU_take (i := 11) (oi := { dst := some 25, op := _, type := _, pos := _, after := _, guard := some (8, false) }) (v := .int .i64 x) rfl (by kernel_rfl) (by kernel_rfl) (by kernel_rfl) (by kernel_rfl) (fun _ _ _ h => h) (yields_take rfl (fun w' hw => by obtain ⟨h1, h2⟩ := hw.const; go_simp)) hS0.out ?_
    simp only [Act.put, List.setIfInBounds_toArray, List.set_cons_zero, List.set_cons_succ]
    refine wpAnyU_take (i := 12) (oi := { dst := some 26, op := _, type := _, pos := _, after := _, guard := some (8, false) }) (v := .slice (some ⟨b2, o2, none⟩) 2 c') rfl (by kernel_rfl) (by kernel_rfl) (by kernel_rfl) (by kernel_rfl) (fun _ _ _ h => h) (yields_take rfl (fun w' hw => by obtain ⟨h1, h2⟩ := hw.const; go_simp)) hS0.out ?_
    simp only [Act.put, List.setIfInBounds_toArray, List.set_cons_zero, List.set_cons_succ]
    refine wpAnyU_take (i := 13) (oi := { dst := some 27, op := _, type := _, pos := _, after := _, guard := some (8, false) }) (v := .pointer (some ⟨b2, o2, none⟩)) rfl (by kernel_rfl) (by kernel_rfl) (by kernel_rfl) (by kernel_rfl) (fun _ _ _ h => h) (yields_take rfl (fun w' hw => by obtain ⟨h1, h2⟩ := hw.const; go_simp)) hS0.out ?_
    simp only [Act.put, List.setIfInBounds_toArray, List.set_cons_zero, List.set_cons_succ]
    refine wpAnyU_take (i := 14) (oi := { dst := some 28, op := _, type := _, pos := _, after := _, guard := some (8, false) }) (v := .int .i64 y) rfl (by kernel_rfl) (by kernel_rfl) (by kernel_rfl) (by kernel_rfl) (fun _ _ _ h => h) (yields_take rfl (fun w' hw => by obtain ⟨h1, h2⟩ := hw.const; go_simp)) hS0.out ?_
    simp only [Act.put, List.setIfInBounds_toArray, List.set_cons_zero, List.set_cons_succ]
    refine wpAnyU_take (i := 15) (oi := { dst := some 29, op := _, type := _, pos := _, after := _, guard := some (8, false) }) (v := .bool true) rfl (by kernel_rfl) (by kernel_rfl) (by kernel_rfl) (by kernel_rfl) (fun _ _ _ h => h) (yields_take rfl (fun w' hw => by obtain ⟨h1, h2⟩ := hw.const; go_simp)) hS0.out ?_
    simp only [Act.put, List.setIfInBounds_toArray, List.set_cons_zero, List.set_cons_succ]
    refine wpAnyU_take (i := 16) (oi := { dst := some 30, op := _, type := _, pos := _, after := _, guard := none }) (v := .bool true) rfl (by kernel_rfl) (by kernel_rfl) (by kernel_rfl) (by kernel_rfl) (fun _ _ _ h => h) (yields_take rfl (fun w' hw => by obtain ⟨h1, h2⟩ := hw.const; go_simp)) hS0.out ?_
    simp only [Act.put, List.setIfInBounds_toArray, List.set_cons_zero, List.set_cons_succ]
    refine wpAnyU_done (by kernel_rfl) ?_ _
    clear hS0
    go_wp2
    go_ret2
    have h := HBAD.out _ (by rw [HE.out]; decide) HBD.out
    rw [HE.out] at h ⊢
    exact h
  have HE : Hid (shp7E s s' = 0) := hide (shp7E_iff.2 ⟨HOK.out, HL1.out, HL2.out, by rw [← HXY.out.1, ← HXY.out.2]; exact h5⟩)
  subst h5
  have hsz := hb2.size
  go_wp2
  have hS0 : Hid ((w2.drew).cell? ⟨b1, o1 + 1, none⟩ = some (.int .i64 x) ∧ (w2.drew).cell? ⟨b2, o2, none⟩ = some (.int .i64 x)) := hide (HK1.out _ (below_drewN hb2 1))
  refine wp_region_U (fun _ v => v.cell? ⟨b1, o1 + 1, none⟩ = some (.int .i64 x) ∧ v.cell? ⟨b2, o2, none⟩ = some (.int .i64 x)) 99 (by kernel_rfl) ?_
  refine wpAnyU_take (i := 0) (oi := { dst := some 14, op := _, type := _, pos := _, after := _, guard := none }) (v := .slice (some ⟨b1, o1, none⟩) 2 c) rfl (by kernel_rfl) (by kernel_rfl) (by kernel_rfl) (by kernel_rfl) (fun _ _ _ h => h) (yields_take rfl (fun w' hw => by obtain ⟨h1, h2⟩ := hw.const; go_simp)) hS0.out ?_
  simp only [Act.put, List.setIfInBounds_toArray, List.set_cons_zero, List.set_cons_succ]
  refine wpAnyU_take (i := 1) (oi := { dst := some 15, op := _, type := _, pos := _, after := _, guard := none }) (v := .int .i64 2) rfl (by kernel_rfl) (by kernel_rfl) (by kernel_rfl) (by kernel_rfl) (fun _ _ _ h => h) (yields_take rfl (fun w' hw => by obtain ⟨h1, h2⟩ := hw.const; go_simp)) hS0.out ?_
  simp only [Act.put, List.setIfInBounds_toArray, List.set_cons_zero, List.set_cons_succ]
  refine wpAnyU_take (i := 2) (oi := { dst := some 16, op := _, type := _, pos := _, after := _, guard := none }) (v := .bool false) rfl (by kernel_rfl) (by kernel_rfl) (by kernel_rfl) (by kernel_rfl) (fun _ _ _ h => h) (yields_take rfl (fun w' hw => by obtain ⟨h1, h2⟩ := hw.const; go_simp)) hS0.out ?_
  simp only [Act.put, List.setIfInBounds_toArray, List.set_cons_zero, List.set_cons_succ]
  refine wpAnyU_take (i := 3) (oi := { dst := some 17, op := _, type := _, pos := _, after := _, guard := none }) (v := .bool false) rfl (by kernel_rfl) (by kernel_rfl) (by kernel_rfl) (by kernel_rfl) (fun _ _ _ h => h) (yields_take rfl (fun w' hw => by obtain ⟨h1, h2⟩ := hw.const; go_simp)) hS0.out ?_
  simp only [Act.put, List.setIfInBounds_toArray, List.set_cons_zero, List.set_cons_succ]
  refine wpAnyU_take (i := 4) (oi := { dst := some 18, op := _, type := _, pos := _, after := _, guard := some (3, false) }) (v := .slice (some ⟨b2, o2, none⟩) 2 c') rfl (by kernel_rfl) (by kernel_rfl) (by kernel_rfl) (by kernel_rfl) (fun _ _ _ h => h) (yields_take rfl (fun w' hw => by obtain ⟨h1, h2⟩ := hw.const; go_simp)) hS0.out ?_
  simp only [Act.put, List.setIfInBounds_toArray, List.set_cons_zero, List.set_cons_succ]
  refine wpAnyU_take (i := 5) (oi := { dst := some 19, op := _, type := _, pos := _, after := _, guard := some (3, false) }) (v := .int .i64 2) rfl (by kernel_rfl) (by kernel_rfl) (by kernel_rfl) (by kernel_rfl) (fun _ _ _ h => h) (yields_take rfl (fun w' hw => by obtain ⟨h1, h2⟩ := hw.const; go_simp)) hS0.out ?_
  simp only [Act.put, List.setIfInBounds_toArray, List.set_cons_zero, List.set_cons_succ]
  refine wpAnyU_take (i := 6) (oi := { dst := some 20, op := _, type := _, pos := _, after := _, guard := some (3, false) }) (v := .bool false) rfl (by kernel_rfl) (by kernel_rfl) (by kernel_rfl) (by kernel_rfl) (fun _ _ _ h => h) (yields_take rfl (fun w' hw => by obtain ⟨h1, h2⟩ := hw.const; go_simp)) hS0.out ?_
  simp only [Act.put, List.setIfInBounds_toArray, List.set_cons_zero, List.set_cons_succ]
  refine wpAnyU_take (i := 7) (oi := { dst := some 21, op := _, type := _, pos := _, after := _, guard := none }) (v := .bool false) rfl (by kernel_rfl) (by kernel_rfl) (by kernel_rfl) (by kernel_rfl) (fun _ _ _ h => h) (yields_take rfl (fun w' hw => by obtain ⟨h1, h2⟩ := hw.const; go_simp)) hS0.out ?_
  simp only [Act.put, List.setIfInBounds_toArray, List.set_cons_zero, List.set_cons_succ]
  refine wpAnyU_take (i := 8) (oi := { dst := some 22, op := _, type := _, pos := _, after := _, guard := none }) (v := .bool false) rfl (by kernel_rfl) (by kernel_rfl) (by kernel_rfl) (by kernel_rfl) (fun _ _ _ h => h) (yields_take rfl (fun w' hw => by obtain ⟨h1, h2⟩ := hw.const; go_simp)) hS0.out ?_
  simp only [Act.put, List.setIfInBounds_toArray, List.set_cons_zero, List.set_cons_succ]
  refine wpAnyU_take (i := 9) (oi := { dst := some 23, op := _, type := _, pos := _, after := _, guard := some (8, false) }) (v := .slice (some ⟨b1, o1, none⟩) 2 c) rfl (by kernel_rfl) (by kernel_rfl) (by kernel_rfl) (by kernel_rfl) (fun _ _ _ h => h) (yields_take rfl (fun w' hw => by obtain ⟨h1, h2⟩ := hw.const; go_simp)) hS0.out ?_
  simp only [Act.put, List.setIfInBounds_toArray, List.set_cons_zero, List.set_cons_succ]
  refine wpAnyU_take (i := 10) (oi := { dst := some 24, op := _, type := _, pos := _, after := _, guard := some (8, false) }) (v := .pointer (some ⟨b1, o1 + 1, none⟩)) rfl (by kernel_rfl) (by kernel_rfl) (by kernel_rfl) (by kernel_rfl) (fun _ _ _ h => h) (yields_take rfl (fun w' hw => by obtain ⟨h1, h2⟩ := hw.const; go_simp)) hS0.out ?_
  simp only [Act.put, List.setIfInBounds_toArray, List.set_cons_zero, List.set_cons_succ]
  refine wpAnyU_take (i := 11) (oi := { dst := some 25, op := _, type := _, pos := _, after := _, guard := some (8, false) }) (v := .int .i64 x) rfl (by kernel_rfl) (by kernel_rfl) (by kernel_rfl) (by kernel_rfl) (fun _ _ _ h => h) (yields_take rfl (fun w' hw => by obtain ⟨h1, h2⟩ := hw.const; go_simp)) hS0.out ?_
  simp only [Act.put, List.setIfInBounds_toArray, List.set_cons_zero, List.set_cons_succ]
  refine wpAnyU_take (i := 12) (oi := { dst := some 26, op := _, type := _, pos := _, after := _, guard := some (8, false) }) (v := .slice (some ⟨b2, o2, none⟩) 2 c') rfl (by kernel_rfl) (by kernel_rfl) (by kernel_rfl) (by kernel_rfl) (fun _ _ _ h => h) (yields_take rfl (fun w' hw => by obtain ⟨h1, h2⟩ := hw.const; go_simp)) hS0.out ?_
  simp only [Act.put, List.setIfInBounds_toArray, List.set_cons_zero, List.set_cons_succ]
  refine wpAnyU_take (i := 13) (oi := { dst := some 27, op := _, type := _, pos := _, after := _, guard := some (8, false) }) (v := .pointer (some ⟨b2, o2, none⟩)) rfl (by kernel_rfl) (by kernel_rfl) (by kernel_rfl) (by kernel_rfl) (fun _ _ _ h => h) (yields_take rfl (fun w' hw => by obtain ⟨h1, h2⟩ := hw.const; go_simp)) hS0.out ?_
  simp only [Act.put, List.setIfInBounds_toArray, List.set_cons_zero, List.set_cons_succ]
  refine wpAnyU_take (i := 14) (oi := { dst := some 28, op := _, type := _, pos := _, after := _, guard := some (8, false) }) (v := .int .i64 x) rfl (by kernel_rfl) (by kernel_rfl) (by kernel_rfl) (by kernel_rfl) (fun _ _ _ h => h) (yields_take rfl (fun w' hw => by obtain ⟨h1, h2⟩ := hw.const; go_simp)) hS0.out ?_
  simp only [Act.put, List.setIfInBounds_toArray, List.set_cons_zero, List.set_cons_succ]
  refine wpAnyU_take (i := 15) (oi := { dst := some 29, op := _, type := _, pos := _, after := _, guard := some (8, false) }) (v := .bool false) rfl (by kernel_rfl) (by kernel_rfl) (by kernel_rfl) (by kernel_rfl) (fun _ _ _ h => h) (yields_take rfl (fun w' hw => by obtain ⟨h1, h2⟩ := hw.const; go_simp)) hS0.out ?_
  simp only [Act.put, List.setIfInBounds_toArray, List.set_cons_zero, List.set_cons_succ]
  refine wpAnyU_take (i := 16) (oi := { dst := some 30, op := _, type := _, pos := _, after := _, guard := none }) (v := .bool false) rfl (by kernel_rfl) (by kernel_rfl) (by kernel_rfl) (by kernel_rfl) (fun _ _ _ h => h) (yields_take rfl (fun w' hw => by obtain ⟨h1, h2⟩ := hw.const; go_simp)) hS0.out ?_
  simp only [Act.put, List.setIfInBounds_toArray, List.set_cons_zero, List.set_cons_succ]
  refine wpAnyU_done (by kernel_rfl) ?_ _
  clear hS0
  go_wp2
  have hS0 : Hid (((w2.drewN 1).drew).cell? ⟨b1, o1, none⟩ = some (.int .i64 p) ∧ ((w2.drewN 1).drew).cell? ⟨b2, o2 + 1, none⟩ = some (.int .i64 q)) := hide (HK2.out _ (below_drewN hb2 2))
  refine wp_region_U (fun _ v => v.cell? ⟨b1, o1, none⟩ = some (.int .i64 p) ∧ v.cell? ⟨b2, o2 + 1, none⟩ = some (.int .i64 q)) 99 (by kernel_rfl) ?_
  refine wpAnyU_take (i := 0) (oi := { dst := some 31, op := _, type := _, pos := _, after := _, guard := none }) (v := .slice (some ⟨b1, o1, none⟩) 2 c) rfl (by kernel_rfl) (by kernel_rfl) (by kernel_rfl) (by kernel_rfl) (fun _ _ _ h => h) (yields_take rfl (fun w' hw => by obtain ⟨h1, h2⟩ := hw.const; go_simp)) hS0.out ?_
  simp only [Act.put, List.setIfInBounds_toArray, List.set_cons_zero, List.set_cons_succ]
  refine wpAnyU_take (i := 1) (oi := { dst := some 32, op := _, type := _, pos := _, after := _, guard := none }) (v := .pointer (some ⟨b1, o1, none⟩)) rfl (by kernel_rfl) (by kernel_rfl) (by kernel_rfl) (by kernel_rfl) (fun _ _ _ h => h) (yields_take rfl (fun w' hw => by obtain ⟨h1, h2⟩ := hw.const; go_simp)) hS0.out ?_
  simp only [Act.put, List.setIfInBounds_toArray, List.set_cons_zero, List.set_cons_succ]
  refine wpAnyU_take (i := 2) (oi := { dst := some 33, op := _, type := _, pos := _, after := _, guard := none }) (v := .int .i64 p) rfl (by kernel_rfl) (by kernel_rfl) (by kernel_rfl) (by kernel_rfl) (fun _ _ _ h => h) (yields_take rfl (fun w' hw => by obtain ⟨h1, h2⟩ := hw.const; go_simp)) hS0.out ?_
  simp only [Act.put, List.setIfInBounds_toArray, List.set_cons_zero, List.set_cons_succ]
  refine wpAnyU_take (i := 3) (oi := { dst := some 34, op := _, type := _, pos := _, after := _, guard := none }) (v := .slice (some ⟨b2, o2, none⟩) 2 c') rfl (by kernel_rfl) (by kernel_rfl) (by kernel_rfl) (by kernel_rfl) (fun _ _ _ h => h) (yields_take rfl (fun w' hw => by obtain ⟨h1, h2⟩ := hw.const; go_simp)) hS0.out ?_
  simp only [Act.put, List.setIfInBounds_toArray, List.set_cons_zero, List.set_cons_succ]
  refine wpAnyU_take (i := 4) (oi := { dst := some 35, op := _, type := _, pos := _, after := _, guard := none }) (v := .pointer (some ⟨b2, o2 + 1, none⟩)) rfl (by kernel_rfl) (by kernel_rfl) (by kernel_rfl) (by kernel_rfl) (fun _ _ _ h => h) (yields_take rfl (fun w' hw => by obtain ⟨h1, h2⟩ := hw.const; go_simp)) hS0.out ?_
  simp only [Act.put, List.setIfInBounds_toArray, List.set_cons_zero, List.set_cons_succ]
  refine wpAnyU_take (i := 5) (oi := { dst := some 36, op := _, type := _, pos := _, after := _, guard := none }) (v := .int .i64 q) rfl (by kernel_rfl) (by kernel_rfl) (by kernel_rfl) (by kernel_rfl) (fun _ _ _ h => h) (yields_take rfl (fun w' hw => by obtain ⟨h1, h2⟩ := hw.const; go_simp)) hS0.out ?_
  simp only [Act.put, List.setIfInBounds_toArray, List.set_cons_zero, List.set_cons_succ]
  refine wpAnyU_one (i := 6) (by kernel_rfl) rfl ?_
  intro K hK
  go_simp
  have hb4 : Below w.heap.size w ((((w2.drewN 1).drew).alloc (.cells #[.int .i64 p, .int .i64 q] 3))) := below_al7x (below_drewN hb2 2)
  have hS1 : Hid ((((w2.drewN 1).drew).alloc (.cells #[.int .i64 p, .int .i64 q] 3)).cell? ⟨b1, o1, none⟩ = some (.int .i64 p) ∧ (((w2.drewN 1).drew).alloc (.cells #[.int .i64 p, .int .i64 q] 3)).cell? ⟨b2, o2 + 1, none⟩ = some (.int .i64 q)) := hide (HK2.out _ hb4)
  refine hK.out _ _ hS1.out (fun _ => ?_)
  clear hK K hS0
  refine wpAnyU_take (i := 7) (oi := { dst := some 4, op := _, type := _, pos := _, after := _, guard := none }) (v := .slice (some ⟨w2.heap.size, 0, none⟩) 2 2) rfl (by kernel_rfl) (by kernel_rfl) (by kernel_rfl) (by kernel_rfl) (fun _ _ _ h => h) (yields_take rfl (fun w' hw => by obtain ⟨h1, h2⟩ := hw.const; go_simp)) hS1.out ?_
  simp only [Act.put, List.setIfInBounds_toArray, List.set_cons_zero, List.set_cons_succ]
  refine wpAnyU_take (i := 8) (oi := { dst := some 5, op := _, type := _, pos := _, after := _, guard := none }) (v := .int .i64 0) rfl (by kernel_rfl) (by kernel_rfl) (by kernel_rfl) (by kernel_rfl) (fun _ _ _ h => h) (yields_take rfl (fun w' hw => by obtain ⟨h1, h2⟩ := hw.const; go_simp)) hS1.out ?_
  simp only [Act.put, List.setIfInBounds_toArray, List.set_cons_zero, List.set_cons_succ]
  refine wpAnyU_done (by kernel_rfl) ?_ _
  clear hS1
  have HBF := hide hb4
  go_wp2
  go_ret2
  refine ⟨some ⟨w2.heap.size, 0, none⟩, 2, 2, by rw [HE.out]; rfl, ?_, by omega, HBF.out⟩
  rw [shp7S_ok HE.out, ← HPQ.out.1, ← HPQ.out.2]
  exact own_of_block hsz (heap_alloc_new _ _) rfl (Nat.le_refl _) (by decide) rfl

end

section
open Go.RowKit
set_option linter.unusedVariables false
set_option linter.unusedSimpArgs false
set_option maxRecDepth 100000

def of7E (s : List Int) (m : Nat) (s' : List Int) (m' : Nat) : Int := if tenOk s m = true ∧ tenOk s' m' = true then shp7E s s' else 1

def of7S (s : List Int) (m : Nat) (s' : List Int) (m' : Nat) : List Int := if of7E s m s' m' = 0 then shp7S s s' else []

def of7L (s : List Int) (m : Nat) (s' : List Int) (m' : Nat) (l l' : List Int) : List Int := if of7E s m s' m' = 0 then prodL l l' (s.getD 0 0).toNat (s.getD 1 0).toNat (s'.getD 1 0).toNat else []

theorem list_two {s : List Int} (h : s.length = 2) : s = [s.getD 0 0, s.getD 1 0] := by
  match s, h with
  | [a, b], _ => rfl

theorem size_two {a b : Int} (h : 0 < sizeI [a, b]) : (1 ≤ a ∧ a ≤ 64) ∧ (1 ≤ b ∧ b ≤ 64) ∧ sizeI [a, b] = a * b := by
  have h1 := size_dims h
  have ha := h1 a (by simp)
  have hb := h1 b (by simp)
  refine ⟨⟨ha.1, ha.2.1⟩, ⟨hb.1, hb.2.1⟩, ?_⟩
  rw [(sizeI_pos h).2.2, prodZ, prodZ, prodZ, ha.2.2, hb.2.2, Int.mul_one]

theorem two_size {M N : Nat} (hM : 1 ≤ M ∧ M ≤ 64) (hN : 1 ≤ N ∧ N ≤ 64) : sizeI [(M : Int), (N : Int)] = ((M * N : Nat) : Int) ∧ 1 ≤ M * N ∧ M * N ≤ 4096 := by
  have h1 : M * N ≤ 4096 := by have := Nat.mul_le_mul hM.2 hN.2; omega
  have h2 : 1 ≤ M * N := Nat.mul_pos (by omega) (by omega)
  have e1 : dz (M : Int) = M := by unfold dz; rw [if_neg (by omega)]
  have e2 : dz (N : Int) = N := by unfold dz; rw [if_neg (by omega)]
  refine ⟨?_, h2, h1⟩
  rw [sizeI, if_neg (by simp), prodZ, prodZ, prodZ, e1, e2, Int.mul_one, ← Int.natCast_mul, if_neg (by omega)]

theorem ten_two {M K m : Nat} (h : tenOk [(M : Int), (K : Int)] m = true) : (1 ≤ M ∧ M ≤ 64) ∧ (1 ≤ K ∧ K ≤ 64) ∧ m = M * K := by
  obtain ⟨q1, q2⟩ := tenOk_iff.1 h
  obtain ⟨h1, h2, h3⟩ := size_two q1
  refine ⟨by omega, by omega, ?_⟩
  rw [h3, ← Int.natCast_mul] at q2
  omega

theorem two_ten {M K : Nat} (hM : 1 ≤ M ∧ M ≤ 64) (hK : 1 ≤ K ∧ K ≤ 64) : tenOk [(M : Int), (K : Int)] (M * K) = true := by
  obtain ⟨h1, h2, h3⟩ := two_size hM hK
  exact tenOk_iff.2 ⟨by omega, h1⟩

theorem shp7_two {M K N : Nat} (hM : 1 ≤ M ∧ M ≤ 64) (hK : 1 ≤ K ∧ K ≤ 64) (hN : 1 ≤ N ∧ N ≤ 64) : shp7E [(M : Int), (K : Int)] [(K : Int), (N : Int)] = 0 ∧ shp7S [(M : Int), (K : Int)] [(K : Int), (N : Int)] = [(M : Int), (N : Int)] := by
  obtain ⟨h1, h2, h3⟩ := two_size hM hK
  obtain ⟨h4, h5, h6⟩ := two_size hK hN
  have h : shp7E [(M : Int), (K : Int)] [(K : Int), (N : Int)] = 0 := shp7E_iff.2 ⟨⟨by omega, by omega⟩, rfl, rfl, rfl⟩
  exact ⟨h, by rw [shp7S_ok h]; rfl⟩

set_option maxHeartbeats 2000000 in
theorem pof_bad (A B A' B' : Option Addr) (n c m d n' c' m' d' : Nat) (s l s' l' : List Int) (w : World) (hA : Lies w A n (s.map (Value.int .i64))) (hB : Lies w B m (l.map (Value.int .i32))) (hA' : Lies w A' n' (s'.map (Value.int .i64))) (hB' : Lies w B' m' (l'.map (Value.int .i32))) (hn : n ≤ 281474976710656) (hn' : n' ≤ 281474976710656) (hbad : of7E s m s' m' ≠ 0) :
    Calls Tryz.prog 8 #[tenV A n c B m d, tenV A' n' c' B' m' d'] w fun e w' => e = .returned (.tuple #[tenV none 0 0 none 0 0, .int .i64 (of7E s m s' m')]) ∧ Below w.heap.size w w' := by
  obtain ⟨W0, hW0⟩ : ∃ W0, W0 = ((w.alloc (.cells #[.slice A n c, .slice B m d] 25)).alloc (.cells #[.slice A' n' c', .slice B' m' d'] 25)).alloc (.cells #[.slice none 0 0, .slice none 0 0] 25) := ⟨_, rfl⟩
  have HB0 : Hid (Below w.heap.size w W0) := hide (by rw [hW0]; exact (((Below.refl w.heap.size w).alloc (Nat.le_refl _) _).alloc (by simp only [World.size_alloc]; omega) _).alloc (by simp only [World.size_alloc]; omega) _)
  have hs0 : W0.heap.size = w.heap.size + 3 := by rw [hW0]; simp
  have HX0 : Hid (BoxT W0 w.heap.size (.slice A n c) (.slice B m d)) := hide (by rw [hW0]; exact ((BoxT.new w _ _).alloc _).alloc _)
  have HX1 : Hid (BoxT W0 (w.heap.size + 1) (.slice A' n' c') (.slice B' m' d')) := hide (by
    rw [hW0]
    have h := (BoxT.new (w.alloc (.cells #[.slice A n c, .slice B m d] 25)) (.slice A' n' c') (.slice B' m' d')).alloc (.cells #[.slice none 0 0, .slice none 0 0] 25)
    rwa [World.size_alloc] at h)
  have HXR : Hid (BoxT W0 (w.heap.size + 2) (.slice none 0 0) (.slice none 0 0)) := hide (by
    rw [hW0]
    have h := BoxT.new ((w.alloc (.cells #[.slice A n c, .slice B m d] 25)).alloc (.cells #[.slice A' n' c', .slice B' m' d'] 25)) (.slice none 0 0) (.slice none 0 0)
    rwa [World.size_alloc, World.size_alloc] at h)
  have hW0' := hW0.symm
  clear hW0
  have HS0 := hide hs0
  have HA := hide (hA.below HB0.out)
  have HB := hide (hB.below HB0.out)
  have HA' := hide (hA'.below HB0.out)
  have HB' := hide (hB'.below HB0.out)
  have HC : Hid (∀ v, Below W0.heap.size W0 v → (v.cell? ⟨w.heap.size, 0, none⟩ = some (.slice A n c) ∧ v.cell? ⟨w.heap.size, 1, none⟩ = some (.slice B m d) ∧ v.cell? ⟨w.heap.size + 1, 0, none⟩ = some (.slice A' n' c') ∧ v.cell? ⟨w.heap.size + 1, 1, none⟩ = some (.slice B' m' d')) ∧ v.cell? ⟨w.heap.size + 2, 0, none⟩ = some (.slice none 0 0) ∧ v.cell? ⟨w.heap.size + 2, 1, none⟩ = some (.slice none 0 0) ∧ v.frozen? ⟨w.heap.size + 2, 0, none⟩ = false ∧ v.frozen? ⟨w.heap.size + 2, 1, none⟩ = false) := hide (fun v hv =>
    ⟨⟨(HX0.out.kept hv).c0, (HX0.out.kept hv).c1, (HX1.out.kept hv).c0, (HX1.out.kept hv).c1⟩, (HXR.out.kept hv).c0, (HXR.out.kept hv).c1, (HXR.out.kept hv).f0 0, (HXR.out.kept hv).f0 1⟩)
  clear hA hB hA' hB' hs0
  have HBD := hide hbad
  clear hbad
  go_enter Tryz.func8, Tryz.ntmps8
  obtain ⟨⟨a0, a1, b0, b1⟩, r0, r1, rf0, rf1⟩ := HC.out _ (Below.refl _ W0)
  go_wp2_with fail
  refine Calls.mono (tcheck_any A B n c m d s _ HA.out hn) ?_
  rintro e w1 ⟨rfl, hb1⟩
  clear a0 a1 b0 b1 r0 r1 rf0 rf1
  obtain ⟨⟨a0, a1, b0, b1⟩, r0, r1, rf0, rf1⟩ := HC.out _ hb1
  by_cases h1 : tenOk s m = true
  rotate_left
  · rw [show tenOk s m = false by simpa using h1]
    have HE : Hid (of7E s m s' m' = 1) := hide (by rw [of7E, if_neg fun h => h1 h.1])
    clear h1
    have HXF := hide (HXR.out.kept hb1)
    have HBF := hide (HB0.out.trans (hb1.mono (by have := HS0.out; omega)))
    go_wp2
    (try simp only [Exit.inBlock, Exit.then])
    refine ret_ten (p := 4) (u := 5) rfl rfl (w.heap.size + 2) _ rfl (HXF.out.set2 _ _) rfl ?_
    exact ⟨by rw [HE.out]; rfl, (HBF.out.setCell (by dsimp only; omega) _).setCell (by dsimp only; omega) _⟩
  rw [h1]
  go_wp2_with fail
  refine Calls.mono (tcheck_any A' B' n' c' m' d' s' _ (HA'.out.below hb1) hn') ?_
  rintro e w2 ⟨rfl, hb20⟩
  have hb2 : Below W0.heap.size W0 w2 := hb1.trans (hb20.mono hb1.size)
  clear a0 a1 b0 b1 r0 r1 rf0 rf1 hb20
  obtain ⟨⟨a0, a1, b0, b1⟩, r0, r1, rf0, rf1⟩ := HC.out _ hb2
  by_cases h2 : tenOk s' m' = true
  rotate_left
  · rw [show tenOk s' m' = false by simpa using h2]
    have HE : Hid (of7E s m s' m' = 1) := hide (by rw [of7E, if_neg fun h => h2 h.2])
    clear h1 h2
    have HXF := hide (HXR.out.kept hb2)
    have HBF := hide (HB0.out.trans (hb2.mono (by have := HS0.out; omega)))
    go_wp2
    (try simp only [Exit.inBlock, Exit.then])
    refine ret_ten (p := 4) (u := 5) rfl rfl (w.heap.size + 2) _ rfl (HXF.out.set2 _ _) rfl ?_
    exact ⟨by rw [HE.out]; rfl, (HBF.out.setCell (by dsimp only; omega) _).setCell (by dsimp only; omega) _⟩
  rw [h2]
  have HE : Hid (of7E s m s' m' = shp7E s s') := hide (by rw [of7E, if_pos ⟨h1, h2⟩])
  clear h1 h2
  go_wp2_with fail
  refine Calls.mono (pshape_any A A' n c n' c' s s' _ (HA.out.below hb2) (HA'.out.below hb2) hn hn') ?_
  rw [← HE.out]
  obtain ⟨E, hE⟩ : ∃ E, E = of7E s m s' m' := ⟨_, rfl⟩
  rw [← hE]
  rintro e w3 ⟨R, k, kc, rfl, ho, hk2, hb30⟩
  have hb3 : Below W0.heap.size W0 w3 := hb2.trans (hb30.mono hb2.size)
  have hE0 : ¬ E = 0 := by rw [hE]; exact HBD.out
  have hE1 : (E == 0) = false := by simpa using hE0
  have hE2 : (E != 0) = true := by simpa using hE0
  have HEE := hide hE
  clear a0 a1 b0 b1 r0 r1 rf0 rf1 hb30 ho hE
  obtain ⟨⟨a0, a1, b0, b1⟩, r0, r1, rf0, rf1⟩ := HC.out _ hb3
  have HXF := hide (HXR.out.kept hb3)
  have HBF := hide (HB0.out.trans (hb3.mono (by have := HS0.out; omega)))
  go_wp2
  (try simp only [Exit.inBlock, Exit.then])
  refine ret_ten (p := 4) (u := 5) rfl rfl (w.heap.size + 2) _ rfl (HXF.out.set2 _ _) rfl ?_
  exact ⟨by rw [← HEE.out]; rfl, (HBF.out.setCell (by dsimp only; omega) _).setCell (by dsimp only; omega) _⟩

set_option maxHeartbeats 4000000 in
theorem pof_ok (A B A' B' : Option Addr) (c m d c' m' d' M K N : Nat) (l l' : List Int) (w : World) (hA : Lies w A 2 (([(M : Int), (K : Int)] : List Int).map (Value.int .i64))) (hB : Lies w B m (l.map (Value.int .i32))) (hA' : Lies w A' 2 (([(K : Int), (N : Int)] : List Int).map (Value.int .i64))) (hB' : Lies w B' m' (l'.map (Value.int .i32)))
    (hok : tenOk [(M : Int), (K : Int)] m = true) (hok' : tenOk [(K : Int), (N : Int)] m' = true) :
    Calls Tryz.prog 8 #[tenV A 2 c B m d, tenV A' 2 c' B' m' d'] w fun e w' => ∃ g1 c1 g2, e = .returned (.tuple #[tenV (some ⟨g1, 0, none⟩) 2 c1 (some ⟨g2, 0, none⟩) (M * N) (M * N), .int .i64 0]) ∧
      w'.ownsRow w.heap.size 3 1 (.slice (some ⟨g1, 0, none⟩) 2 c1) 2 (([(M : Int), (N : Int)] : List Int).map (Value.int .i64)) ∧ w'.ownsRow w.heap.size 21 1 (.slice (some ⟨g2, 0, none⟩) (M * N) (M * N)) (M * N) ((prodL l l' M K N).map (Value.int .i32)) ∧ g1 ≠ g2 ∧ Below w.heap.size w w' := by
  obtain ⟨hM, hK, hm⟩ := ten_two hok
  obtain ⟨_, hN, hm'⟩ := ten_two hok'
  obtain ⟨hz1, hz2, hz3⟩ := two_size hM hN
  obtain ⟨hz4, hz5, hz6⟩ := two_size hK hN
  obtain ⟨hz7, hz8, hz9⟩ := two_size hM hK
  obtain ⟨hE, hS⟩ := shp7_two hM hK hN
  obtain ⟨q, hq⟩ : ∃ q, q = M * N := ⟨_, rfl⟩
  rw [← hq] at hz1 hz2 hz3 ⊢
  obtain ⟨zs, hzs⟩ : ∃ zs, zs = prodL l l' M K N := ⟨_, rfl⟩
  rw [← hzs]
  have HZ := hide hzs
  have HZL : Hid (zs.length = q) := hide (by rw [hzs, prodL_len, hq])
  have HQ := hide hq
  have HE := hide hE
  have HS := hide hS
  have HSZ := hide hz1
  have HM1 := hide hm
  have HM2 := hide hm'
  clear hzs hq hE hS hz1 hz4 hz7 hm hm'
  obtain ⟨W0, hW0⟩ : ∃ W0, W0 = ((w.alloc (.cells #[.slice A 2 c, .slice B m d] 25)).alloc (.cells #[.slice A' 2 c', .slice B' m' d'] 25)).alloc (.cells #[.slice none 0 0, .slice none 0 0] 25) := ⟨_, rfl⟩
  have HB0 : Hid (Below w.heap.size w W0) := hide (by rw [hW0]; exact (((Below.refl w.heap.size w).alloc (Nat.le_refl _) _).alloc (by simp only [World.size_alloc]; omega) _).alloc (by simp only [World.size_alloc]; omega) _)
  have hs0 : W0.heap.size = w.heap.size + 3 := by rw [hW0]; simp
  have HX0 : Hid (BoxT W0 w.heap.size (.slice A 2 c) (.slice B m d)) := hide (by rw [hW0]; exact ((BoxT.new w _ _).alloc _).alloc _)
  have HX1 : Hid (BoxT W0 (w.heap.size + 1) (.slice A' 2 c') (.slice B' m' d')) := hide (by
    rw [hW0]
    have h := (BoxT.new (w.alloc (.cells #[.slice A 2 c, .slice B m d] 25)) (.slice A' 2 c') (.slice B' m' d')).alloc (.cells #[.slice none 0 0, .slice none 0 0] 25)
    rwa [World.size_alloc] at h)
  have HXR : Hid (BoxT W0 (w.heap.size + 2) (.slice none 0 0) (.slice none 0 0)) := hide (by
    rw [hW0]
    have h := BoxT.new ((w.alloc (.cells #[.slice A 2 c, .slice B m d] 25)).alloc (.cells #[.slice A' 2 c', .slice B' m' d'] 25)) (.slice none 0 0) (.slice none 0 0)
    rwa [World.size_alloc, World.size_alloc] at h)
  have hW0' := hW0.symm
  clear hW0
  have HS0 := hide hs0
  have HA := hide (hA.below HB0.out)
  have HB := hide (hB.below HB0.out)
  have HA' := hide (hA'.below HB0.out)
  have HB' := hide (hB'.below HB0.out)
  have HC : Hid (∀ v, Below W0.heap.size W0 v → (v.cell? ⟨w.heap.size, 0, none⟩ = some (.slice A 2 c) ∧ v.cell? ⟨w.heap.size, 1, none⟩ = some (.slice B m d) ∧ v.cell? ⟨w.heap.size + 1, 0, none⟩ = some (.slice A' 2 c') ∧ v.cell? ⟨w.heap.size + 1, 1, none⟩ = some (.slice B' m' d')) ∧ v.cell? ⟨w.heap.size + 2, 0, none⟩ = some (.slice none 0 0) ∧ v.cell? ⟨w.heap.size + 2, 1, none⟩ = some (.slice none 0 0) ∧ v.frozen? ⟨w.heap.size + 2, 0, none⟩ = false ∧ v.frozen? ⟨w.heap.size + 2, 1, none⟩ = false) := hide (fun v hv =>
    ⟨⟨(HX0.out.kept hv).c0, (HX0.out.kept hv).c1, (HX1.out.kept hv).c0, (HX1.out.kept hv).c1⟩, (HXR.out.kept hv).c0, (HXR.out.kept hv).c1, (HXR.out.kept hv).f0 0, (HXR.out.kept hv).f0 1⟩)
  have HLW := hide (And.intro hA' (And.intro hB hB'))
  clear hA hB hA' hB' hs0
  have HOK1 := hide hok
  have HOK2 := hide hok'
  clear hok hok'
  go_enter Tryz.func8, Tryz.ntmps8
  obtain ⟨⟨a0, a1, b0, b1⟩, r0, r1, rf0, rf1⟩ := HC.out _ (Below.refl _ W0)
  go_wp2_with fail
  refine Calls.mono (tcheck_any A B 2 c m d [(M : Int), (K : Int)] _ HA.out (by omega)) ?_
  rw [HOK1.out]
  rintro e w1 ⟨rfl, hb1⟩
  clear a0 a1 b0 b1 r0 r1 rf0 rf1
  obtain ⟨⟨a0, a1, b0, b1⟩, r0, r1, rf0, rf1⟩ := HC.out _ hb1
  go_wp2_with fail
  refine Calls.mono (tcheck_any A' B' 2 c' m' d' [(K : Int), (N : Int)] _ (HA'.out.below hb1) (by omega)) ?_
  rw [HOK2.out]
  rintro e w2 ⟨rfl, hb20⟩
  have hb2 : Below W0.heap.size W0 w2 := hb1.trans (hb20.mono hb1.size)
  clear a0 a1 b0 b1 r0 r1 rf0 rf1 hb20 hb1
  obtain ⟨⟨a0, a1, b0, b1⟩, r0, r1, rf0, rf1⟩ := HC.out _ hb2
  go_wp2_with fail
  refine Calls.mono (pshape_any A A' 2 c 2 c' [(M : Int), (K : Int)] [(K : Int), (N : Int)] _ (HA.out.below hb2) (HA'.out.below hb2) (by omega) (by omega)) ?_
  rw [HE.out, HS.out]
  rintro e w3 ⟨R, k, kc, rfl, ho, hk2, hb30⟩
  have hb3 : Below W0.heap.size W0 w3 := hb2.trans (hb30.mono hb2.size)
  obtain rfl : k = 2 := by have := ho.1; simpa using this.symm
  obtain ⟨gs, rfl⟩ := own_some ho (by omega)
  have HLS := hide (lies_of_own ho)
  clear a0 a1 b0 b1 r0 r1 rf0 rf1 hb30 hb2 ho hk2
  obtain ⟨⟨a0, a1, b0, b1⟩, r0, r1, rf0, rf1⟩ := HC.out _ hb3
  go_wp2_with fail
  refine Calls.mono (new_ok (some ⟨gs, 0, none⟩) 2 kc q [(M : Int), (N : Int)] w3 HLS.out HSZ.out (by omega)) ?_
  rintro e w4 ⟨g1, c1, g2, rfl, ho1, ho2, hne, hb40⟩
  have lt1 := ho1.lt g1 rfl
  have lt2 := ho2.lt g2 rfl
  have hb4 : Below W0.heap.size W0 w4 := hb3.trans (hb40.mono hb3.size)
  obtain ⟨W1, hW1⟩ : ∃ W1, W1 = w4.alloc (.cells #[.slice (some ⟨g1, 0, none⟩) 2 c1, .slice (some ⟨g2, 0, none⟩) q q] 25) := ⟨_, rfl⟩
  have HB1 : Hid (Below W0.heap.size W0 W1) := hide (by rw [hW1]; exact hb4.alloc hb4.size _)
  have HT1 : Hid (BoxT W1 w4.heap.size (.slice (some ⟨g1, 0, none⟩) 2 c1) (.slice (some ⟨g2, 0, none⟩) q q)) := hide (by rw [hW1]; exact BoxT.new w4 _ _)
  have HO1 : Hid (W1.ownsRow w3.heap.size 3 1 (.slice (some ⟨g1, 0, none⟩) 2 c1) 2 (([(M : Int), (N : Int)] : List Int).map (Value.int .i64))) := hide (by rw [hW1]; exact ho1.alloc _)
  have HF1 : Hid (FillAt W1 g2 q zs 0) := hide (by rw [hW1]; exact FillAt.of_own (ho2.alloc _) zs)
  have hs1 : W1.heap.size = w4.heap.size + 1 := by rw [hW1]; simp
  have HLS1 : Hid (Lies W1 (some ⟨gs, 0, none⟩) 2 (([(M : Int), (N : Int)] : List Int).map (Value.int .i64))) := hide (by rw [hW1]; exact (HLS.out.below hb40).alloc _)
  have hW1' := hW1.symm
  have hs3 := hb3.size
  clear hW1 ho1 ho2 hb40 hb4 hb3 a0 a1 b0 b1 r0 r1 rf0 rf1
  have HSZ1 := hide hs1
  have HS3 := hide hs3
  clear hs1 hs3
  have z0 : W1.cell? ⟨gs, 0, none⟩ = some (.int .i64 (M : Int)) := by
    obtain ⟨b, o, e, _, hx⟩ := byte_at HLS1.out (by omega)
    cases e
    exact hx 0 (by omega)
  have z1 : W1.cell? ⟨gs, 1, none⟩ = some (.int .i64 (N : Int)) := by
    obtain ⟨b, o, e, _, hx⟩ := byte_at HLS1.out (by omega)
    cases e
    exact hx 1 (by omega)
  have HLB : Hid (∀ v, W1.grownBy v (some g2) → Lies v A' 2 (([(K : Int), (N : Int)] : List Int).map (Value.int .i64)) ∧ Lies v B m (l.map (Value.int .i32)) ∧ Lies v B' m' (l'.map (Value.int .i32))) := hide (fun v hv => by
    have hbw := HB0.out.trans (HB1.out.mono HB0.out.size)
    have hlo : w.heap.size ≤ g2 := by have := HS0.out; have := HS3.out; omega
    exact ⟨grown_lies hv (HLW.out.1.below hbw) (lies_block HLW.out.1 (by omega) hlo), grown_lies hv (HLW.out.2.1.below hbw) (lies_block HLW.out.2.1 (by have := HM1.out; omega) hlo), grown_lies hv (HLW.out.2.2.below hbw) (lies_block HLW.out.2.2 (by have := HM2.out; omega) hlo)⟩)
  have HF : Hid (∀ v, W1.grownBy v (some g2) → v.cell? ⟨w4.heap.size, 1, none⟩ = some (.slice (some ⟨g2, 0, none⟩) q q) ∧ v.cell? ⟨w.heap.size, 0, none⟩ = some (.slice A 2 c) ∧ v.cell? ⟨w.heap.size, 1, none⟩ = some (.slice B m d) ∧ v.cell? ⟨w.heap.size + 1, 0, none⟩ = some (.slice A' 2 c') ∧ v.cell? ⟨w.heap.size + 1, 1, none⟩ = some (.slice B' m' d')) := hide (fun v hv => by
    have h01 : ∀ k, k < W0.heap.size → v.heap[k]? = W0.heap[k]? := fun k hk => (hv.block k (by have := HB1.out.size; omega) (by simp; have := HS3.out; omega)).trans (HB1.out.block k hk)
    have h8 : BoxT v w4.heap.size (.slice (some ⟨g1, 0, none⟩) 2 c1) (.slice (some ⟨g2, 0, none⟩) q q) := (hv.block _ (by have := HSZ1.out; omega) (by simp; omega)).trans HT1.out
    have hs := HS0.out
    have k0 : BoxT v w.heap.size (.slice A 2 c) (.slice B m d) := (h01 _ (by omega)).trans HX0.out
    have k1 : BoxT v (w.heap.size + 1) (.slice A' 2 c') (.slice B' m' d') := (h01 _ (by omega)).trans HX1.out
    exact ⟨h8.c1, k0.c0, k0.c1, k1.c0, k1.c1⟩)
  go_wp2
  go_quiet (fail)
  go_wp2
  clear hW1' hW0' z0 z1
  go_loopw [47] (fun i wr => ∃ k : Nat, k ≤ M ∧ i = .int .i64 k ∧ Hid (FillAt wr g2 q zs (k * N)) ∧ Hid (W1.grownBy wr (some g2))) (fun i _ => M - (intOf i).toNat)
  case atStart => exact ⟨0, Nat.zero_le _, rfl, hide (by rw [Nat.zero_mul]; exact HF1.out.below (below_drewN (Below.refl _ _) _)), hide (grown_below (below_drewN (Below.refl _ _) _) _)⟩
  case round =>
    obtain ⟨k, hk, rfl, HFF, HG⟩ := hrel
    by_cases hlt : k < M
    · have h3 : (k : Int) < (M : Int) := by omega
      go_wp2
      go_loopw [51] (fun i wr => ∃ j : Nat, j ≤ N ∧ i = .int .i64 j ∧ Hid (FillAt wr g2 q zs (k * N + j)) ∧ Hid (W1.grownBy wr (some g2))) (fun i _ => N - (intOf i).toNat)
      case atStart => exact ⟨0, Nat.zero_le _, rfl, HFF, HG⟩
      case round =>
        clear HFF HG
        obtain ⟨j, hj, rfl, HFF, HG⟩ := hrel
        by_cases hltj : j < N
        · have h4 : (j : Int) < (N : Int) := by omega
          obtain ⟨u1, hu1⟩ : ∃ q, q = k * N := ⟨_, rfl⟩
          obtain ⟨q1, hq1⟩ : ∃ q, q = k * N + j := ⟨_, rfl⟩
          have hpl := place_lt hlt hltj
          have hmk : k * K + K ≤ m := by rw [HM1.out, ← Nat.succ_mul]; exact Nat.mul_le_mul_right K hlt
          have hqm : q1 < q := by rw [HQ.out]; omega
          have m1 : IntKind.i64.wrap ((k : Int) * (N : Int)) = (u1 : Int) := by rw [hu1, Int.natCast_mul, IntKind.wrap_i64, ← Int.natCast_mul]; omega
          have m2 : IntKind.i64.wrap ((u1 : Int) + (j : Int)) = (q1 : Int) := by rw [hu1, hq1, IntKind.wrap_i64]; omega
          obtain ⟨z, hz⟩ : ∃ z, z = dotN l l' K N k j K := ⟨_, rfl⟩
          have HZD : Hid (zs.getD q1 0 = z) := hide (by rw [hz, HZ.out, hq1]; exact prodL_at hlt hltj)
          have HRC : Hid (∀ v, W1.grownBy v (some g2) → Calls Tryz.prog 24 #[tenV A 2 c B m d, tenV A' 2 c' B' m' d', .int .i64 (k : Int), .int .i64 (j : Int)] v fun e w' => e = .returned (.int .i32 z) ∧ Below v.heap.size v w') := hide (fun v hv => by
            obtain ⟨p1, p2, p3⟩ := HLB.out v hv
            rw [hz]
            exact rowcol_any A B A' B' 2 c m d c' m' d' K N k j l l' v p2 p1 p3 (by omega) (by omega) (by omega) (by omega) hltj hmk (by rw [HM2.out]; exact Nat.le_refl _))
          rw [← hq1] at HFF
          have HU := hide hq1
          clear hz hu1 hq1 hpl hmk
          have hg1 : W1.grownBy wr.drew (some g2) := grown_trans HG.out (grown_below (below_drewN (Below.refl _ wr) 1) _)
          have hi1 : (0 : Int) ≤ (q1 : Int) := by omega
          have hi2 : (q1 : Int) < (q : Int) := by omega
          have HFD : Hid (FillAt wr.drew g2 q zs q1) := hide HFF.out
          go_wp2
          have hS0 : Hid (wr.drew.cell? ⟨w4.heap.size, 1, none⟩ = some (.slice (some ⟨g2, 0, none⟩) q q) ∧ wr.drew.cell? ⟨w.heap.size, 0, none⟩ = some (.slice A 2 c) ∧ wr.drew.cell? ⟨w.heap.size, 1, none⟩ = some (.slice B m d) ∧ wr.drew.cell? ⟨w.heap.size + 1, 0, none⟩ = some (.slice A' 2 c') ∧ wr.drew.cell? ⟨w.heap.size + 1, 1, none⟩ = some (.slice B' m' d')) := hide (HF.out _ hg1)
          refine wp_region_U (fun _ v => v.cell? ⟨w4.heap.size, 1, none⟩ = some (.slice (some ⟨g2, 0, none⟩) q q) ∧ v.cell? ⟨w.heap.size, 0, none⟩ = some (.slice A 2 c) ∧ v.cell? ⟨w.heap.size, 1, none⟩ = some (.slice B m d) ∧ v.cell? ⟨w.heap.size + 1, 0, none⟩ = some (.slice A' 2 c') ∧ v.cell? ⟨w.heap.size + 1, 1, none⟩ = some (.slice B' m' d')) 99 (by kernel_rfl) ?_
          refine wpAnyU_take (i := 0) (oi := { dst := some 54, op := _, type := _, pos := _, after := _, guard := none }) (v := .pointer (some ⟨w4.heap.size, 1, none⟩)) rfl (by kernel_rfl) (by kernel_rfl) (by kernel_rfl) (by kernel_rfl) (fun _ _ _ h => h) (yields_take rfl (fun w' hw => by obtain ⟨h1, h2, h3, h4, h5⟩ := hw.const; go_simp)) hS0.out ?_
          simp only [Act.put, List.setIfInBounds_toArray, List.set_cons_zero, List.set_cons_succ]
          refine wpAnyU_take (i := 1) (oi := { dst := some 55, op := _, type := _, pos := _, after := _, guard := none }) (v := .slice (some ⟨g2, 0, none⟩) q q) rfl (by kernel_rfl) (by kernel_rfl) (by kernel_rfl) (by kernel_rfl) (fun _ _ _ h => h) (yields_take rfl (fun w' hw => by obtain ⟨h1, h2, h3, h4, h5⟩ := hw.const; go_simp)) hS0.out ?_
          simp only [Act.put, List.setIfInBounds_toArray, List.set_cons_zero, List.set_cons_succ]
          refine wpAnyU_take (i := 2) (oi := { dst := some 56, op := _, type := _, pos := _, after := _, guard := none }) (v := .int .i64 (k : Int)) rfl (by kernel_rfl) (by kernel_rfl) (by kernel_rfl) (by kernel_rfl) (fun _ _ _ h => h) (yields_take rfl (fun w' hw => by obtain ⟨h1, h2, h3, h4, h5⟩ := hw.const; go_simp)) hS0.out ?_
          simp only [Act.put, List.setIfInBounds_toArray, List.set_cons_zero, List.set_cons_succ]
          refine wpAnyU_take (i := 3) (oi := { dst := some 57, op := _, type := _, pos := _, after := _, guard := none }) (v := .int .i64 (N : Int)) rfl (by kernel_rfl) (by kernel_rfl) (by kernel_rfl) (by kernel_rfl) (fun _ _ _ h => h) (yields_take rfl (fun w' hw => by obtain ⟨h1, h2, h3, h4, h5⟩ := hw.const; go_simp)) hS0.out ?_
          simp only [Act.put, List.setIfInBounds_toArray, List.set_cons_zero, List.set_cons_succ]
          refine wpAnyU_take (i := 4) (oi := { dst := some 58, op := _, type := _, pos := _, after := _, guard := none }) (v := .int .i64 (u1 : Int)) rfl (by kernel_rfl) (by kernel_rfl) (by kernel_rfl) (by kernel_rfl) (fun _ _ _ h => h) (yields_take rfl (fun w' hw => by obtain ⟨h1, h2, h3, h4, h5⟩ := hw.const; go_simp)) hS0.out ?_
          simp only [Act.put, List.setIfInBounds_toArray, List.set_cons_zero, List.set_cons_succ]
          refine wpAnyU_take (i := 5) (oi := { dst := some 59, op := _, type := _, pos := _, after := _, guard := none }) (v := .int .i64 (j : Int)) rfl (by kernel_rfl) (by kernel_rfl) (by kernel_rfl) (by kernel_rfl) (fun _ _ _ h => h) (yields_take rfl (fun w' hw => by obtain ⟨h1, h2, h3, h4, h5⟩ := hw.const; go_simp)) hS0.out ?_
          simp only [Act.put, List.setIfInBounds_toArray, List.set_cons_zero, List.set_cons_succ]
          refine wpAnyU_take (i := 6) (oi := { dst := some 60, op := _, type := _, pos := _, after := _, guard := none }) (v := .int .i64 (q1 : Int)) rfl (by kernel_rfl) (by kernel_rfl) (by kernel_rfl) (by kernel_rfl) (fun _ _ _ h => h) (yields_take rfl (fun w' hw => by obtain ⟨h1, h2, h3, h4, h5⟩ := hw.const; go_simp)) hS0.out ?_
          simp only [Act.put, List.setIfInBounds_toArray, List.set_cons_zero, List.set_cons_succ]
          refine wpAnyU_take (i := 7) (oi := { dst := some 61, op := _, type := _, pos := _, after := _, guard := none }) (v := .agg #[.slice A 2 c, .slice B m d]) rfl (by kernel_rfl) (by kernel_rfl) (by kernel_rfl) (by kernel_rfl) (fun _ _ _ h => h) (yields_take rfl (fun w' hw => by obtain ⟨h1, h2, h3, h4, h5⟩ := hw.const; go_simp)) hS0.out ?_
          simp only [Act.put, List.setIfInBounds_toArray, List.set_cons_zero, List.set_cons_succ]
          refine wpAnyU_take (i := 8) (oi := { dst := some 62, op := _, type := _, pos := _, after := _, guard := none }) (v := .agg #[.slice A' 2 c', .slice B' m' d']) rfl (by kernel_rfl) (by kernel_rfl) (by kernel_rfl) (by kernel_rfl) (fun _ _ _ h => h) (yields_take rfl (fun w' hw => by obtain ⟨h1, h2, h3, h4, h5⟩ := hw.const; go_simp)) hS0.out ?_
          simp only [Act.put, List.setIfInBounds_toArray, List.set_cons_zero, List.set_cons_succ]
          refine wpAnyU_take (i := 9) (oi := { dst := some 63, op := _, type := _, pos := _, after := _, guard := none }) (v := .int .i64 (k : Int)) rfl (by kernel_rfl) (by kernel_rfl) (by kernel_rfl) (by kernel_rfl) (fun _ _ _ h => h) (yields_take rfl (fun w' hw => by obtain ⟨h1, h2, h3, h4, h5⟩ := hw.const; go_simp)) hS0.out ?_
          simp only [Act.put, List.setIfInBounds_toArray, List.set_cons_zero, List.set_cons_succ]
          refine wpAnyU_take (i := 10) (oi := { dst := some 64, op := _, type := _, pos := _, after := _, guard := none }) (v := .int .i64 (j : Int)) rfl (by kernel_rfl) (by kernel_rfl) (by kernel_rfl) (by kernel_rfl) (fun _ _ _ h => h) (yields_take rfl (fun w' hw => by obtain ⟨h1, h2, h3, h4, h5⟩ := hw.const; go_simp)) hS0.out ?_
          simp only [Act.put, List.setIfInBounds_toArray, List.set_cons_zero, List.set_cons_succ]
          refine wpAnyU_one (i := 11) (by kernel_rfl) rfl ?_
          intro K hK
          go_simp
          refine Calls.mono (HRC.out _ hg1) ?_
          rintro e w6 ⟨rfl, hb60⟩
          dsimp only
          have hb6 : Below wr.drew.heap.size wr.drew w6 := hb60
          have hg2 : W1.grownBy w6 (some g2) := grown_trans hg1 (grown_below hb60 _)
          have hs : w6.cell? ⟨g2, q1, none⟩ = some (.int .i32 0) := by have h := (HFD.out.below hb60).cell hqm; rwa [if_neg (by omega)] at h
          have hf : w6.frozen? ⟨g2, q1, none⟩ = false := (HFD.out.below hb60).frozen q1
          clear hb60
          have hS1 : Hid (w6.cell? ⟨w4.heap.size, 1, none⟩ = some (.slice (some ⟨g2, 0, none⟩) q q) ∧ w6.cell? ⟨w.heap.size, 0, none⟩ = some (.slice A 2 c) ∧ w6.cell? ⟨w.heap.size, 1, none⟩ = some (.slice B m d) ∧ w6.cell? ⟨w.heap.size + 1, 0, none⟩ = some (.slice A' 2 c') ∧ w6.cell? ⟨w.heap.size + 1, 1, none⟩ = some (.slice B' m' d')) := hide (HF.out _ hg2)
          refine hK.out _ _ hS1.out (fun _ => ?_)
          clear hK K hS0
          refine wpAnyU_take (i := 12) (oi := { dst := some 66, op := _, type := _, pos := _, after := _, guard := none }) (v := .pointer (some ⟨g2, q1, none⟩)) rfl (by kernel_rfl) (by kernel_rfl) (by kernel_rfl) (by kernel_rfl) (fun _ _ _ h => h) (yields_take rfl (fun w' hw => by obtain ⟨h1, h2, h3, h4, h5⟩ := hw.const; go_simp)) hS1.out ?_
          simp only [Act.put, List.setIfInBounds_toArray, List.set_cons_zero, List.set_cons_succ]
          refine wpAnyU_one (i := 13) (by kernel_rfl) rfl ?_
          intro K hK
          go_simp
          have hg3 : W1.grownBy (w6.setCell ⟨g2, q1, none⟩ (.int .i32 z)) (some g2) := grown_trans hg2 (grown_cell6 _ _ _)
          have hS2 : Hid ((w6.setCell ⟨g2, q1, none⟩ (.int .i32 z)).cell? ⟨w4.heap.size, 1, none⟩ = some (.slice (some ⟨g2, 0, none⟩) q q) ∧ (w6.setCell ⟨g2, q1, none⟩ (.int .i32 z)).cell? ⟨w.heap.size, 0, none⟩ = some (.slice A 2 c) ∧ (w6.setCell ⟨g2, q1, none⟩ (.int .i32 z)).cell? ⟨w.heap.size, 1, none⟩ = some (.slice B m d) ∧ (w6.setCell ⟨g2, q1, none⟩ (.int .i32 z)).cell? ⟨w.heap.size + 1, 0, none⟩ = some (.slice A' 2 c') ∧ (w6.setCell ⟨g2, q1, none⟩ (.int .i32 z)).cell? ⟨w.heap.size + 1, 1, none⟩ = some (.slice B' m' d')) := hide (HF.out _ hg3)
          refine hK.out _ _ hS2.out (fun _ => ?_)
          clear hK K hS1
          refine wpAnyU_done (by kernel_rfl) ?_ _
          clear hS2
          have HNG : Hid (W1.grownBy (w6.setCell ⟨g2, q1, none⟩ (.int .i32 z)) (some g2)) := hide hg3
          have HNF : Hid (FillAt (w6.setCell ⟨g2, q1, none⟩ (.int .i32 z)) g2 q zs (k * N + (j + 1))) := hide (by
            have h := (HFD.out.below hb6).set
            rw [HZD.out] at h
            rw [← Nat.add_assoc, ← HU.out]
            exact h)
          clear hg3 hg2 hs hf
          go_wp2
          go_roundw
          case rel => exact ⟨j + 1, by omega, by go_num, HNF, HNG⟩
          case measure => simp [intOf]; omega
        · obtain rfl : j = N := by omega
          have HNF : Hid (FillAt wr g2 q zs ((k + 1) * j)) := hide (by rw [Nat.succ_mul]; exact HFF.out)
          go_wp2
          go_roundw
          case rel => exact ⟨k + 1, by omega, by go_num, HNF, HG⟩
          case measure => simp [intOf]; omega
    · obtain rfl : k = M := by omega
      have HFE : Hid (FillAt wr g2 q zs q) := hide (by have h := HFF.out; rwa [← HQ.out] at h)
      have hs0 := HS0.out
      have hs1 := HSZ1.out
      have hs3 := HS3.out
      have HTr : Hid (BoxT wr w4.heap.size (.slice (some ⟨g1, 0, none⟩) 2 c1) (.slice (some ⟨g2, 0, none⟩) q q)) := hide ((HG.out.block _ (by omega) (by simp; omega)).trans HT1.out)
      have HRr : Hid (BoxT wr (w.heap.size + 2) (.slice none 0 0) (.slice none 0 0)) := hide ((HG.out.block (w.heap.size + 2) (by have := HB1.out.size; omega) (by simp; omega)).trans ((HB1.out.block _ (by omega)).trans HXR.out))
      clear hs0 hs1
      have t0 := HTr.out.c0
      have t1 := HTr.out.c1
      have r0 := HRr.out.c0
      have r1 := HRr.out.c1
      have rf0 := HRr.out.f0 0
      have rf1 := HRr.out.f0 1
      go_wp2
      (try simp only [Exit.inBlock, Exit.then])
      refine ret_ten (p := 4) (u := 5) rfl rfl (w.heap.size + 2) _ rfl (HRr.out.set2 _ _) rfl ?_
      have hs0 := HS0.out
      have hs1 := HSZ1.out
      have hB1 := HB1.out
      have hB1s := hB1.size
      refine ⟨g1, c1, g2, rfl, ?_, ?_, hne, ?_⟩
      · refine own_base (own_setCell' (own_setCell' (HO1.out.kept (row := some g2) HG.out (.inr (by simp [Value.ownBlock]; omega))) (by dsimp only; omega) _) (by dsimp only; omega) _) (by omega)
      · refine own_setCell' (own_setCell' (HFE.out.own HZL.out (by omega) (by unfold maxLen; omega)) (by dsimp only; omega) _) (by dsimp only; omega) _
      · exact (((HB0.out.trans (hB1.mono HB0.out.size)).trans (below_grown HG.out (by omega) (by omega))).setCell (by dsimp only; omega) _).setCell (by dsimp only; omega) _

/-- Both ways out: what it answers lies in memory of its own. -/
theorem pof_own (A B A' B' : Option Addr) (n c m d n' c' m' d' : Nat) (s l s' l' : List Int) (w : World) (hA : Lies w A n (s.map (Value.int .i64))) (hB : Lies w B m (l.map (Value.int .i32))) (hA' : Lies w A' n' (s'.map (Value.int .i64))) (hB' : Lies w B' m' (l'.map (Value.int .i32))) (hn : n ≤ 281474976710656) (hn' : n' ≤ 281474976710656) :
    Calls Tryz.prog 8 #[tenV A n c B m d, tenV A' n' c' B' m' d'] w fun e w' => ∃ A1 k1 c1 A2 k2 c2, e = .returned (.tuple #[tenV A1 k1 c1 A2 k2 c2, .int .i64 (of7E s m s' m')]) ∧
      w'.ownsRow w.heap.size 3 1 (.slice A1 k1 c1) k1 ((of7S s m s' m').map (Value.int .i64)) ∧ w'.ownsRow w.heap.size 21 1 (.slice A2 k2 c2) k2 ((of7L s m s' m' l l').map (Value.int .i32)) ∧ k1 ≤ 4 ∧ k2 ≤ 4096 ∧ Below w.heap.size w w' := by
  by_cases h : of7E s m s' m' = 0
  · have h0 : tenOk s m = true ∧ tenOk s' m' = true := by
      by_cases h0 : tenOk s m = true ∧ tenOk s' m' = true
      · exact h0
      · rw [of7E, if_neg h0] at h; cases h
    have hE : shp7E s s' = 0 := by rw [of7E, if_pos h0] at h; exact h
    obtain ⟨⟨p1, p2⟩, e1, e2, e3⟩ := shp7E_iff.1 hE
    have hs := list_two e1
    have hs' := list_two e2
    obtain ⟨a, ha⟩ : ∃ a, a = s.getD 0 0 := ⟨_, rfl⟩
    obtain ⟨b, hb⟩ : ∃ b, b = s.getD 1 0 := ⟨_, rfl⟩
    obtain ⟨g, hg⟩ : ∃ g, g = s'.getD 1 0 := ⟨_, rfl⟩
    rw [← ha, ← hb] at hs
    rw [← e3, ← hb, ← hg] at hs'
    subst hs hs'
    clear ha hb hg e1 e2 e3
    obtain ⟨⟨a1, a2⟩, ⟨b1, b2⟩, _⟩ := size_two p1
    obtain ⟨_, ⟨g1, g2⟩, _⟩ := size_two p2
    obtain ⟨M, rfl⟩ := Int.eq_ofNat_of_zero_le (show 0 ≤ a by omega)
    obtain ⟨K, rfl⟩ := Int.eq_ofNat_of_zero_le (show 0 ≤ b by omega)
    obtain ⟨N, rfl⟩ := Int.eq_ofNat_of_zero_le (show 0 ≤ g by omega)
    have en : n = 2 := by have := hA.len; simpa using this.symm
    have en' : n' = 2 := by have := hA'.len; simpa using this.symm
    subst en en'
    refine (pof_ok A B A' B' c m d c' m' d' M K N l l' w hA hB hA' hB' h0.1 h0.2).mono ?_
    rintro e w' ⟨g1, c1, g2, rfl, ho1, ho2, hne, hb⟩
    obtain ⟨_, _, hz⟩ := two_size (M := M) (N := N) (by omega) (by omega)
    refine ⟨_, _, _, _, _, _, by rw [h], ?_, ?_, by omega, hz, hb⟩
    · rw [of7S, if_pos h, (shp7_two (M := M) (K := K) (N := N) (by omega) (by omega) (by omega)).2]; exact ho1
    · rw [of7L, if_pos h]; simpa using ho2
  · refine (pof_bad A B A' B' n c m d n' c' m' d' s l s' l' w hA hB hA' hB' hn hn' h).mono ?_
    rintro e w' ⟨rfl, hb⟩
    exact ⟨none, 0, 0, none, 0, 0, rfl, by rw [of7S, if_neg h]; exact World.ownsRow_nil _ _ _ _, by rw [of7L, if_neg h]; exact World.ownsRow_nil _ _ _ _, by omega, by omega, hb⟩

end

section
open Go.RowKit
set_option linter.unusedVariables false
set_option linter.unusedSimpArgs false
set_option maxRecDepth 100000

theorem below_al7 {W v : World} {o : Obj} (h : Below W.heap.size W v) : Below W.heap.size W (v.alloc o) := h.alloc h.size o

theorem below_nx7 {W v w' : World} (h : Below W.heap.size W v) (k : Below v.heap.size v w') : Below W.heap.size W w' := h.trans (k.mono h.size)

theorem rcheck7_any (A : Option Addr) (n c : Nat) (xs : List Int) (w : World) (hA : Lies w A n (xs.map (Value.int .i64))) (hn : n ≤ 281474976710656) :
    Calls Tryz.prog 28 #[.slice A n c] w fun e w' => e = .returned (.bool (decide (0 < sizeI xs))) ∧ Below w.heap.size w w' :=
  (rcheck_any A n c xs w hA hn).mono fun e w' h => ⟨h.1, by rw [← h.2]; exact Below.refl _ _⟩

set_option maxHeartbeats 800000 in
theorem rnew_ok7 (A : Option Addr) (n c q : Nat) (s : List Int) (w : World) (h : Lies w A n (s.map (Value.int .i64))) (hnil : A = none → c = 0) (hq : sizeI s = (q : Int)) (hp : 0 < q) :
    Calls Tryz.prog 26 #[.slice A n c] w fun e w' => ∃ g1 c1 g2, e = .returned (.tuple #[tenV (some ⟨g1, 0, none⟩) n c1 (some ⟨g2, 0, none⟩) q q, .int .i64 0]) ∧
      w'.ownsRow w.heap.size 3 1 (.slice (some ⟨g1, 0, none⟩) n c1) n (s.map (Value.int .i64)) ∧ w'.ownsRow w.heap.size 21 1 (.slice (some ⟨g2, 0, none⟩) q q) q (List.replicate q (.int .i32 0)) ∧ g1 ≠ g2 ∧ Below w.heap.size w w' := by
  have hlen : s.length = n := by have := h.len; simpa using this
  obtain ⟨hn1, hn4, _⟩ := sizeI_pos (xs := s) (by omega)
  rw [hlen] at hn1 hn4
  have hq4 := sizeI_le s
  have HA := hide h
  have HD : Hid (decide (0 < sizeI s) = true) := hide (decide_eq_true (by omega))
  have HQ := hide hq
  have HNIL := hide hnil
  obtain ⟨i0, hi, hz0, hz1, hz2⟩ := info_parts Tryz.infoI
  have HI := hide hi
  have HZ0 := hide hz0
  have HZ1 := hide hz1
  have HZ2 := hide hz2
  clear h hq hlen hi hz0 hz1 hz2 hnil
  obtain ⟨W, hW⟩ : ∃ W, W = w.alloc (.cells #[.slice none 0 0, .slice none 0 0] 25) := ⟨_, rfl⟩
  have HBX : Hid (BoxT W w.heap.size (.slice none 0 0) (.slice none 0 0)) := hide (by rw [hW]; exact BoxT.new w _ _)
  have HBB : Hid (Below w.heap.size w W) := hide (by rw [hW]; exact (Below.refl w.heap.size w).alloc (Nat.le_refl _) _)
  have hW' := hW.symm
  clear hW
  go_enter Tryz.func26, Tryz.ntmps26
  go_wp2_with fail
  refine Calls.mono (rcheck_any A n c s _ (HA.out.below HBB.out) (by omega)) ?_
  rintro e w2 ⟨rfl, rfl⟩
  rw [HD.out]
  go_wp2_with (at_builtin; with_reducible refine wpList_append_nil rfl (.const (.slice none 0 0)) (.tmp 8) 22 rfl 3 i0 (.int .i64 0) 8 Tryz.underlying22 HI.out HZ0.out HZ1.out HZ2.out rfl rfl A n c .i64 s rfl (HA.out.below HBB.out) HNIL.out (by omega) (by unfold maxLen; omega) ?_)
  intro A1 c1 w3 ho1 hb3
  have hs23 := hb3.size
  have HBX3 := hide (HBX.out.kept hb3)
  have hlt3 := HBX.out.lt
  have HB3 := hide (HBB.out.trans (hb3.mono HBB.out.size))
  have HO1 := hide ho1
  clear ho1 hb3 HBX
  go_wp2_with fail
  refine Calls.mono (rsize_any A n c s w3 (HA.out.below HB3.out) (by omega)) ?_
  rintro e w4 ⟨rfl, rfl⟩
  have hsz := HB3.out.size
  rw [HQ.out]
  have hmk := make_nums [] (q : Int) q rfl (by have := HQ.out; omega) w3
  have HBX5 := hide (HBX3.out.alloc (.cells (part [] q 0).toArray 21))
  have hmk5 := heap_alloc_new w3 (.cells (part [] q 0).toArray 21)
  have HMK := hide hmk5
  clear HBX3 hmk5
  go_wp2_with (refine wpList_store_row rfl 25 _ _ rfl w.heap.size #[.slice A1 n c1, .slice (some ⟨w3.heap.size, 0, none⟩) q q] rfl rfl 25 _ HBX5.out sizeT rfl (by simp [Value.oneCell']) ?_)
  (try simp only [Exit.inBlock, Exit.then])
  refine ret_ten (p := 2) (u := 3) rfl rfl w.heap.size _ rfl (HBX5.out.set _ _) rfl ?_
  obtain ⟨g1, rfl⟩ := own_some HO1.out (by omega)
  refine ⟨g1, c1, w3.heap.size, rfl, ?_, ?_, ?_, below_setRow (HB3.out.alloc (by omega) _) (Nat.le_refl _) _⟩
  · exact own_base (own_setRow (HO1.out.alloc _) hlt3 _) (by omega)
  · have h0 : World.ownsRow (w3.alloc (.cells (part [] q 0).toArray 21)) w3.heap.size 21 1 (.slice (some ⟨w3.heap.size, 0, none⟩) q q) q (List.replicate q (.int .i32 0)) := own_of_block (Nat.le_refl _) HMK.out (by rw [part_none]; simp) (Nat.le_refl _) (by unfold maxLen; have := HQ.out; omega) (by rw [part_none]; simp)
    have hne : w.heap.size ≠ w3.heap.size := by omega
    exact own_base (own_setRow h0 (by omega) _) (by omega)
  · have := (HO1.out.lt g1 rfl).2
    omega

set_option maxHeartbeats 2000000 in
theorem rshape7_any (A A' : Option Addr) (n c n' c' : Nat) (s s' : List Int) (w : World) (hA : Lies w A n (s.map (Value.int .i64))) (hA' : Lies w A' n' (s'.map (Value.int .i64))) (hn : n ≤ 281474976710656) (hn' : n' ≤ 281474976710656) :
    Calls Tryz.prog 11 #[.slice A n c, .slice A' n' c'] w fun e w' => ∃ R k kc, e = .returned (.tuple #[.slice R k kc, .int .i64 (shp7E s s')]) ∧ w'.ownsRow w.heap.size 3 1 (.slice R k kc) k ((shp7S s s').map (Value.int .i64)) ∧ k ≤ 2 ∧ Below w.heap.size w w' := by
  have hl1 : s.length = n := by have := hA.len; simpa using this
  have hl2 : s'.length = n' := by have := hA'.len; simpa using this
  have HL1 := hide hl1
  have HL2 := hide hl2
  have HA := hide hA
  have HA' := hide hA'
  clear hA hA' hl1 hl2
  have HBAD : Hid (∀ v, shp7E s s' ≠ 0 → Below w.heap.size w v → ∃ R k kc, Ending.returned (.tuple #[.slice none 0 0, .int .i64 (shp7E s s')]) = .returned (.tuple #[.slice R k kc, .int .i64 (shp7E s s')]) ∧ v.ownsRow w.heap.size 3 1 (.slice R k kc) k ((shp7S s s').map (Value.int .i64)) ∧ k ≤ 2 ∧ Below w.heap.size w v) := hide (fun v h hb => ⟨none, 0, 0, rfl, by rw [shp7S_bad h]; exact World.ownsRow_nil _ _ _ _, by omega, hb⟩)
  go_enter Tryz.func11, Tryz.ntmps11
  go_wp2_with fail
  refine Calls.mono (rcheck7_any A n c s _ HA.out hn) ?_
  rintro e w1 ⟨rfl, hb1⟩
  by_cases h1 : 0 < sizeI s
  rotate_left
  · rw [decide_eq_false h1]
    have HE : Hid (shp7E s s' = 1) := hide (shp7E_arg fun h => h1 h.1)
    have HB := hide hb1
    clear h1 hb1
    go_wp2
    go_ret2
    have h := HBAD.out _ (by rw [HE.out]; decide) HB.out
    rw [HE.out] at h ⊢
    exact h
  rw [decide_eq_true h1]
  go_wp2_with fail
  refine Calls.mono (rcheck7_any A' n' c' s' _ (HA'.out.below hb1) hn') ?_
  rintro e w2 ⟨rfl, hb20⟩
  have hb2 : Below w.heap.size w w2 := hb1.trans (hb20.mono hb1.size)
  clear hb20 hb1
  by_cases h2 : 0 < sizeI s'
  rotate_left
  · rw [decide_eq_false h2]
    have HE : Hid (shp7E s s' = 1) := hide (shp7E_arg fun h => h2 h.2)
    have HB := hide hb2
    clear h1 h2 hb2
    go_wp2
    go_ret2
    have h := HBAD.out _ (by rw [HE.out]; decide) HB.out
    rw [HE.out] at h ⊢
    exact h
  rw [decide_eq_true h2]
  have HOK := hide (show 0 < sizeI s ∧ 0 < sizeI s' from ⟨h1, h2⟩)
  clear h1 h2
  have HBD : Hid (Below w.heap.size w (w2.drewN 1)) := hide (below_drewN hb2 1)
  by_cases h3 : n = 2
  rotate_left
  · have HE : Hid (shp7E s s' = 10) := hide (shp7E_shape HOK.out (by rw [HL1.out]; exact fun h => h3 h.1))
    have e1 : ((n : Int) == 2) = false := by simpa using (by omega : ¬ (n : Int) = 2)
    have e2 : ((n : Int) != 2) = true := by simpa using (by omega : ¬ (n : Int) = 2)
    go_wp2
    have hS0 : Hid (True) := hide (trivial)
    refine wp_region_U (fun _ v => True) 99 (by kernel_rfl) ?_
    refine wpAnyU_take (i := 0) (oi := { dst := some 14, op := _, type := _, pos := _, after := _, guard := none }) (v := .slice A n c) rfl (by kernel_rfl) (by kernel_rfl) (by kernel_rfl) (by kernel_rfl) (fun _ _ _ h => h) (yields_take rfl (fun w' hw => by go_simp)) hS0.out ?_
    simp only [Act.put, List.setIfInBounds_toArray, List.set_cons_zero, List.set_cons_succ]
    refine wpAnyU_take (i := 1) (oi := { dst := some 15, op := _, type := _, pos := _, after := _, guard := none }) (v := .int .i64 (n : Int)) rfl (by kernel_rfl) (by kernel_rfl) (by kernel_rfl) (by kernel_rfl) (fun _ _ _ h => h) (yields_take rfl (fun w' hw => by go_simp)) hS0.out ?_
    simp only [Act.put, List.setIfInBounds_toArray, List.set_cons_zero, List.set_cons_succ]
    refine wpAnyU_take (i := 2) (oi := { dst := some 16, op := _, type := _, pos := _, after := _, guard := none }) (v := .bool true) rfl (by kernel_rfl) (by kernel_rfl) (by kernel_rfl) (by kernel_rfl) (fun _ _ _ h => h) (yields_take rfl (fun w' hw => by go_simp)) hS0.out ?_
    simp only [Act.put, List.setIfInBounds_toArray, List.set_cons_zero, List.set_cons_succ]
    refine wpAnyU_take (i := 3) (oi := { dst := some 17, op := _, type := _, pos := _, after := _, guard := none }) (v := .bool true) rfl (by kernel_rfl) (by kernel_rfl) (by kernel_rfl) (by kernel_rfl) (fun _ _ _ h => h) (yields_take rfl (fun w' hw => by go_simp)) hS0.out ?_
    simp only [Act.put, List.setIfInBounds_toArray, List.set_cons_zero, List.set_cons_succ]
    refine wpAnyU_take (i := 4) (oi := { dst := some 18, op := _, type := _, pos := _, after := _, guard := some (3, false) }) (v := undef) rfl (by kernel_rfl) (by kernel_rfl) (by kernel_rfl) (by kernel_rfl) (fun _ _ _ h => h) (.inr ⟨rfl, rfl⟩) hS0.out ?_
    simp only [Act.put, List.setIfInBounds_toArray, List.set_cons_zero, List.set_cons_succ]
    refine wpAnyU_take (i := 5) (oi := { dst := some 19, op := _, type := _, pos := _, after := _, guard := some (3, false) }) (v := undef) rfl (by kernel_rfl) (by kernel_rfl) (by kernel_rfl) (by kernel_rfl) (fun _ _ _ h => h) (.inr ⟨rfl, rfl⟩) hS0.out ?_
    simp only [Act.put, List.setIfInBounds_toArray, List.set_cons_zero, List.set_cons_succ]
    refine wpAnyU_take (i := 6) (oi := { dst := some 20, op := _, type := _, pos := _, after := _, guard := some (3, false) }) (v := undef) rfl (by kernel_rfl) (by kernel_rfl) (by kernel_rfl) (by kernel_rfl) (fun _ _ _ h => h) (.inr ⟨rfl, rfl⟩) hS0.out ?_
    simp only [Act.put, List.setIfInBounds_toArray, List.set_cons_zero, List.set_cons_succ]
    refine wpAnyU_take (i := 7) (oi := { dst := some 21, op := _, type := _, pos := _, after := _, guard := none }) (v := .bool true) rfl (by kernel_rfl) (by kernel_rfl) (by kernel_rfl) (by kernel_rfl) (fun _ _ _ h => h) (yields_take rfl (fun w' hw => by go_simp)) hS0.out ?_
    simp only [Act.put, List.setIfInBounds_toArray, List.set_cons_zero, List.set_cons_succ]
    refine wpAnyU_take (i := 8) (oi := { dst := some 22, op := _, type := _, pos := _, after := _, guard := none }) (v := .bool true) rfl (by kernel_rfl) (by kernel_rfl) (by kernel_rfl) (by kernel_rfl) (fun _ _ _ h => h) (yields_take rfl (fun w' hw => by go_simp)) hS0.out ?_
    simp only [Act.put, List.setIfInBounds_toArray, List.set_cons_zero, List.set_cons_succ]
    refine wpAnyU_take (i := 9) (oi := { dst := some 23, op := _, type := _, pos := _, after := _, guard := some (8, false) }) (v := undef) rfl (by kernel_rfl) (by kernel_rfl) (by kernel_rfl) (by kernel_rfl) (fun _ _ _ h => h) (.inr ⟨rfl, rfl⟩) hS0.out ?_
    simp only [Act.put, List.setIfInBounds_toArray, List.set_cons_zero, List.set_cons_succ]
    refine wpAnyU_take (i := 10) (oi := { dst := some 24, op := _, type := _, pos := _, after := _, guard := some (8, false) }) (v := undef) rfl (by kernel_rfl) (by kernel_rfl) (by kernel_rfl) (by kernel_rfl) (fun _ _ _ h => h) (.inr ⟨rfl, rfl⟩) hS0.out ?_
    simp only [Act.put, List.setIfInBounds_toArray, List.set_cons_zero, List.set_cons_succ]
    refine wpAnyU_take (i := 11) (oi := { dst := some 25, op := _, type := _, pos := _, after := _, guard := some (8, false) }) (v := undef) rfl (by kernel_rfl) (by kernel_rfl) (by kernel_rfl) (by kernel_rfl) (fun _ _ _ h => h) (.inr ⟨rfl, rfl⟩) hS0.out ?_
    simp only [Act.put, List.setIfInBounds_toArray, List.set_cons_zero, List.set_cons_succ]
    refine wpAnyU_take (i := 12) (oi := { dst := some 26, op := _, type := _, pos := _, after := _, guard := some (8, false) }) (v := undef) rfl (by kernel_rfl) (by kernel_rfl) (by kernel_rfl) (by kernel_rfl) (fun _ _ _ h => h) (.inr ⟨rfl, rfl⟩) hS0.out ?_
    simp only [Act.put, List.setIfInBounds_toArray, List.set_cons_zero, List.set_cons_succ]
    refine wpAnyU_take (i := 13) (oi := { dst := some 27, op := _, type := _, pos := _, after := _, guard := some (8, false) }) (v := undef) rfl (by kernel_rfl) (by kernel_rfl) (by kernel_rfl) (by kernel_rfl) (fun _ _ _ h => h) (.inr ⟨rfl, rfl⟩) hS0.out ?_
    simp only [Act.put, List.setIfInBounds_toArray, List.set_cons_zero, List.set_cons_succ]
    refine wpAnyU_take (i := 14) (oi := { dst := some 28, op := _, type := _, pos := _, after := _, guard := some (8, false) }) (v := undef) rfl (by kernel_rfl) (by kernel_rfl) (by kernel_rfl) (by kernel_rfl) (fun _ _ _ h => h) (.inr ⟨rfl, rfl⟩) hS0.out ?_
    simp only [Act.put, List.setIfInBounds_toArray, List.set_cons_zero, List.set_cons_succ]
    refine wpAnyU_take (i := 15) (oi := { dst := some 29, op := _, type := _, pos := _, after := _, guard := some (8, false) }) (v := undef) rfl (by kernel_rfl) (by kernel_rfl) (by kernel_rfl) (by kernel_rfl) (fun _ _ _ h => h) (.inr ⟨rfl, rfl⟩) hS0.out ?_
    simp only [Act.put, List.setIfInBounds_toArray, List.set_cons_zero, List.set_cons_succ]
    refine wpAnyU_take (i := 16) (oi := { dst := some 30, op := _, type := _, pos := _, after := _, guard := none }) (v := .bool true) rfl (by kernel_rfl) (by kernel_rfl) (by kernel_rfl) (by kernel_rfl) (fun _ _ _ h => h) (yields_take rfl (fun w' hw => by go_simp)) hS0.out ?_
    simp only [Act.put, List.setIfInBounds_toArray, List.set_cons_zero, List.set_cons_succ]
    refine wpAnyU_done (by kernel_rfl) ?_ _
    clear hS0
    go_wp2
    go_ret2
    have h := HBAD.out _ (by rw [HE.out]; decide) HBD.out
    rw [HE.out] at h ⊢
    exact h
  subst h3
  by_cases h4 : n' = 2
  rotate_left
  · have HE : Hid (shp7E s s' = 10) := hide (shp7E_shape HOK.out (by rw [HL2.out]; exact fun h => h4 h.2.1))
    have e1 : ((n' : Int) == 2) = false := by simpa using (by omega : ¬ (n' : Int) = 2)
    have e2 : ((n' : Int) != 2) = true := by simpa using (by omega : ¬ (n' : Int) = 2)
    go_wp2
    have hS0 : Hid (True) := hide (trivial)
    refine wp_region_U (fun _ v => True) 99 (by kernel_rfl) ?_
    refine wpAnyU_take (i := 0) (oi := { dst := some 14, op := _, type := _, pos := _, after := _, guard := none }) (v := .slice A 2 c) rfl (by kernel_rfl) (by kernel_rfl) (by kernel_rfl) (by kernel_rfl) (fun _ _ _ h => h) (yields_take rfl (fun w' hw => by go_simp)) hS0.out ?_
    simp only [Act.put, List.setIfInBounds_toArray, List.set_cons_zero, List.set_cons_succ]
    refine wpAnyU_take (i := 1) (oi := { dst := some 15, op := _, type := _, pos := _, after := _, guard := none }) (v := .int .i64 2) rfl (by kernel_rfl) (by kernel_rfl) (by kernel_rfl) (by kernel_rfl) (fun _ _ _ h => h) (yields_take rfl (fun w' hw => by go_simp)) hS0.out ?_
    simp only [Act.put, List.setIfInBounds_toArray, List.set_cons_zero, List.set_cons_succ]
    refine wpAnyU_take (i := 2) (oi := { dst := some 16, op := _, type := _, pos := _, after := _, guard := none }) (v := .bool false) rfl (by kernel_rfl) (by kernel_rfl) (by kernel_rfl) (by kernel_rfl) (fun _ _ _ h => h) (yields_take rfl (fun w' hw => by go_simp)) hS0.out ?_
    simp only [Act.put, List.setIfInBounds_toArray, List.set_cons_zero, List.set_cons_succ]
    refine wpAnyU_take (i := 3) (oi := { dst := some 17, op := _, type := _, pos := _, after := _, guard := none }) (v := .bool false) rfl (by kernel_rfl) (by kernel_rfl) (by kernel_rfl) (by kernel_rfl) (fun _ _ _ h => h) (yields_take rfl (fun w' hw => by go_simp)) hS0.out ?_
    simp only [Act.put, List.setIfInBounds_toArray, List.set_cons_zero, List.set_cons_succ]
    refine wpAnyU_take (i := 4) (oi := { dst := some 18, op := _, type := _, pos := _, after := _, guard := some (3, false) }) (v := .slice A' n' c') rfl (by kernel_rfl) (by kernel_rfl) (by kernel_rfl) (by kernel_rfl) (fun _ _ _ h => h) (yields_take rfl (fun w' hw => by go_simp)) hS0.out ?_
    simp only [Act.put, List.setIfInBounds_toArray, List.set_cons_zero, List.set_cons_succ]
    refine wpAnyU_take (i := 5) (oi := { dst := some 19, op := _, type := _, pos := _, after := _, guard := some (3, false) }) (v := .int .i64 (n' : Int)) rfl (by kernel_rfl) (by kernel_rfl) (by kernel_rfl) (by kernel_rfl) (fun _ _ _ h => h) (yields_take rfl (fun w' hw => by go_simp)) hS0.out ?_
    simp only [Act.put, List.setIfInBounds_toArray, List.set_cons_zero, List.set_cons_succ]
    refine wpAnyU_take (i := 6) (oi := { dst := some 20, op := _, type := _, pos := _, after := _, guard := some (3, false) }) (v := .bool true) rfl (by kernel_rfl) (by kernel_rfl) (by kernel_rfl) (by kernel_rfl) (fun _ _ _ h => h) (yields_take rfl (fun w' hw => by go_simp)) hS0.out ?_
    simp only [Act.put, List.setIfInBounds_toArray, List.set_cons_zero, List.set_cons_succ]
    refine wpAnyU_take (i := 7) (oi := { dst := some 21, op := _, type := _, pos := _, after := _, guard := none }) (v := .bool true) rfl (by kernel_rfl) (by kernel_rfl) (by kernel_rfl) (by kernel_rfl) (fun _ _ _ h => h) (yields_take rfl (fun w' hw => by go_simp)) hS0.out ?_
    simp only [Act.put, List.setIfInBounds_toArray, List.set_cons_zero, List.set_cons_succ]
    refine wpAnyU_take (i := 8) (oi := { dst := some 22, op := _, type := _, pos := _, after := _, guard := none }) (v := .bool true) rfl (by kernel_rfl) (by kernel_rfl) (by kernel_rfl) (by kernel_rfl) (fun _ _ _ h => h) (yields_take rfl (fun w' hw => by go_simp)) hS0.out ?_
    simp only [Act.put, List.setIfInBounds_toArray, List.set_cons_zero, List.set_cons_succ]
    refine wpAnyU_take (i := 9) (oi := { dst := some 23, op := _, type := _, pos := _, after := _, guard := some (8, false) }) (v := undef) rfl (by kernel_rfl) (by kernel_rfl) (by kernel_rfl) (by kernel_rfl) (fun _ _ _ h => h) (.inr ⟨rfl, rfl⟩) hS0.out ?_
    simp only [Act.put, List.setIfInBounds_toArray, List.set_cons_zero, List.set_cons_succ]
    refine wpAnyU_take (i := 10) (oi := { dst := some 24, op := _, type := _, pos := _, after := _, guard := some (8, false) }) (v := undef) rfl (by kernel_rfl) (by kernel_rfl) (by kernel_rfl) (by kernel_rfl) (fun _ _ _ h => h) (.inr ⟨rfl, rfl⟩) hS0.out ?_
    simp only [Act.put, List.setIfInBounds_toArray, List.set_cons_zero, List.set_cons_succ]
    refine wpAnyU_take (i := 11) (oi := { dst := some 25, op := _, type := _, pos := _, after := _, guard := some (8, false) }) (v := undef) rfl (by kernel_rfl) (by kernel_rfl) (by kernel_rfl) (by kernel_rfl) (fun _ _ _ h => h) (.inr ⟨rfl, rfl⟩) hS0.out ?_
    simp only [Act.put, List.setIfInBounds_toArray, List.set_cons_zero, List.set_cons_succ]
    refine wpAnyU_take (i := 12) (oi := { dst := some 26, op := _, type := _, pos := _, after := _, guard := some (8, false) }) (v := undef) rfl (by kernel_rfl) (by kernel_rfl) (by kernel_rfl) (by kernel_rfl) (fun _ _ _ h => h) (.inr ⟨rfl, rfl⟩) hS0.out ?_
    simp only [Act.put, List.setIfInBounds_toArray, List.set_cons_zero, List.set_cons_succ]
    refine wpAnyU_take (i := 13) (oi := { dst := some 27, op := _, type := _, pos := _, after := _, guard := some (8, false) }) (v := undef) rfl (by kernel_rfl) (by kernel_rfl) (by kernel_rfl) (by kernel_rfl) (fun _ _ _ h => h) (.inr ⟨rfl, rfl⟩) hS0.out ?_
    simp only [Act.put, List.setIfInBounds_toArray, List.set_cons_zero, List.set_cons_succ]
    refine wpAnyU_take (i := 14) (oi := { dst := some 28, op := _, type := _, pos := _, after := _, guard := some (8, false) }) (v := undef) rfl (by kernel_rfl) (by kernel_rfl) (by kernel_rfl) (by kernel_rfl) (fun _ _ _ h => h) (.inr ⟨rfl, rfl⟩) hS0.out ?_
    simp only [Act.put, List.setIfInBounds_toArray, List.set_cons_zero, List.set_cons_succ]
    refine wpAnyU_take (i := 15) (oi := { dst := some 29, op := _, type := _, pos := _, after := _, guard := some (8, false) }) (v := undef) rfl (by kernel_rfl) (by kernel_rfl) (by kernel_rfl) (by kernel_rfl) (fun _ _ _ h => h) (.inr ⟨rfl, rfl⟩) hS0.out ?_
    simp only [Act.put, List.setIfInBounds_toArray, List.set_cons_zero, List.set_cons_succ]
    refine wpAnyU_take (i := 16) (oi := { dst := some 30, op := _, type := _, pos := _, after := _, guard := none }) (v := .bool true) rfl (by kernel_rfl) (by kernel_rfl) (by kernel_rfl) (by kernel_rfl) (fun _ _ _ h => h) (yields_take rfl (fun w' hw => by go_simp)) hS0.out ?_
    simp only [Act.put, List.setIfInBounds_toArray, List.set_cons_zero, List.set_cons_succ]
    refine wpAnyU_done (by kernel_rfl) ?_ _
    clear hS0
    go_wp2
    go_ret2
    have h := HBAD.out _ (by rw [HE.out]; decide) HBD.out
    rw [HE.out] at h ⊢
    exact h
  subst h4
  obtain ⟨b1, o1, rfl, hbk1, hx1⟩ := byte_at HA.out (by omega)
  obtain ⟨b2, o2, rfl, hbk2, hx2⟩ := byte_at HA'.out (by omega)
  have c10 := hx1 0 (by omega)
  have c11 := hx1 1 (by omega)
  have c20 := hx2 0 (by omega)
  have c21 := hx2 1 (by omega)
  obtain ⟨p, hp⟩ : ∃ p, p = s.getD 0 0 := ⟨_, rfl⟩
  obtain ⟨x, hx⟩ : ∃ x, x = s.getD 1 0 := ⟨_, rfl⟩
  obtain ⟨y, hy⟩ : ∃ y, y = s'.getD 0 0 := ⟨_, rfl⟩
  obtain ⟨q, hq⟩ : ∃ q, q = s'.getD 1 0 := ⟨_, rfl⟩
  rw [← hp] at c10
  rw [← hx] at c11
  rw [← hy] at c20
  rw [← hq] at c21
  have HK1 : Hid (∀ v, Below w.heap.size w v → v.cell? ⟨b1, o1 + 1, none⟩ = some (.int .i64 x) ∧ v.cell? ⟨b2, o2, none⟩ = some (.int .i64 y)) := hide (fun v hv => ⟨(hv.cell (p := ⟨b1, o1 + 1, none⟩) hbk1).trans c11, (hv.cell (p := ⟨b2, o2, none⟩) hbk2).trans c20⟩)
  have HK2 : Hid (∀ v, Below w.heap.size w v → v.cell? ⟨b1, o1, none⟩ = some (.int .i64 p) ∧ v.cell? ⟨b2, o2 + 1, none⟩ = some (.int .i64 q)) := hide (fun v hv => ⟨(hv.cell (p := ⟨b1, o1, none⟩) hbk1).trans c10, (hv.cell (p := ⟨b2, o2 + 1, none⟩) hbk2).trans c21⟩)
  have HXY := hide (And.intro hx hy)
  have HPQ := hide (And.intro hp hq)
  clear hx1 hx2 c10 c11 c20 c21 hp hq hx hy
  by_cases h5 : x = y
  rotate_left
  · have HE : Hid (shp7E s s' = 10) := hide (shp7E_shape HOK.out (by rw [← HXY.out.1, ← HXY.out.2]; exact fun h => h5 h.2.2))
    have e1 : (x == y) = false := by simpa using h5
    have e2 : (x != y) = true := by simpa using h5
    go_wp2
    have hS0 : Hid ((w2.drew).cell? ⟨b1, o1 + 1, none⟩ = some (.int .i64 x) ∧ (w2.drew).cell? ⟨b2, o2, none⟩ = some (.int .i64 y)) := hide (HK1.out _ (below_drewN hb2 1))
    refine wp_region_U (fun _ v => v.cell? ⟨b1, o1 + 1, none⟩ = some (.int .i64 x) ∧ v.cell? ⟨b2, o2, none⟩ = some (.int .i64 y)) 99 (by kernel_rfl) ?_
    refine wpAnyU_take (i := 0) (oi := { dst := some 14, op := _, type := _, pos := _, after := _, guard := none }) (v := .slice (some ⟨b1, o1, none⟩) 2 c) rfl (by kernel_rfl) (by kernel_rfl) (by kernel_rfl) (by kernel_rfl) (fun _ _ _ h => h) (yields_take rfl (fun w' hw => by obtain ⟨h1, h2⟩ := hw.const; go_simp)) hS0.out ?_
    simp only [Act.put, List.setIfInBounds_toArray, List.set_cons_zero, List.set_cons_succ]
    refine wpAnyU_take (i := 1) (oi := { dst := some 15, op := _, type := _, pos := _, after := _, guard := none }) (v := .int .i64 2) rfl (by kernel_rfl) (by kernel_rfl) (by kernel_rfl) (by kernel_rfl) (fun _ _ _ h => h) (yields_take rfl (fun w' hw => by obtain ⟨h1, h2⟩ := hw.const; go_simp)) hS0.out ?_
    simp only [Act.put, List.setIfInBounds_toArray, List.set_cons_zero, List.set_cons_succ]
    refine wpAnyU_take (i := 2) (oi := { dst := some 16, op := _, type := _, pos := _, after := _, guard := none }) (v := .bool false) rfl (by kernel_rfl) (by kernel_rfl) (by kernel_rfl) (by kernel_rfl) (fun _ _ _ h => h) (yields_take rfl (fun w' hw => by obtain ⟨h1, h2⟩ := hw.const; go_simp)) hS0.out ?_
    simp only [Act.put, List.setIfInBounds_toArray, List.set_cons_zero, List.set_cons_succ]
    refine wpAnyU_take (i := 3) (oi := { dst := some 17, op := _, type := _, pos := _, after := _, guard := none }) (v := .bool false) rfl (by kernel_rfl) (by kernel_rfl) (by kernel_rfl) (by kernel_rfl) (fun _ _ _ h => h) (yields_take rfl (fun w' hw => by obtain ⟨h1, h2⟩ := hw.const; go_simp)) hS0.out ?_
    simp only [Act.put, List.setIfInBounds_toArray, List.set_cons_zero, List.set_cons_succ]
    refine wpAnyU_take (i := 4) (oi := { dst := some 18, op := _, type := _, pos := _, after := _, guard := some (3, false) }) (v := .slice (some ⟨b2, o2, none⟩) 2 c') rfl (by kernel_rfl) (by kernel_rfl) (by kernel_rfl) (by kernel_rfl) (fun _ _ _ h => h) (yields_take rfl (fun w' hw => by obtain ⟨h1, h2⟩ := hw.const; go_simp)) hS0.out ?_
    simp only [Act.put, List.setIfInBounds_toArray, List.set_cons_zero, List.set_cons_succ]
    refine wpAnyU_take (i := 5) (oi := { dst := some 19, op := _, type := _, pos := _, after := _, guard := some (3, false) }) (v := .int .i64 2) rfl (by kernel_rfl) (by kernel_rfl) (by kernel_rfl) (by kernel_rfl) (fun _ _ _ h => h) (yields_take rfl (fun w' hw => by obtain ⟨h1, h2⟩ := hw.const; go_simp)) hS0.out ?_
    simp only [Act.put, List.setIfInBounds_toArray, List.set_cons_zero, List.set_cons_succ]
    refine wpAnyU_take (i := 6) (oi := { dst := some 20, op := _, type := _, pos := _, after := _, guard := some (3, false) }) (v := .bool false) rfl (by kernel_rfl) (by kernel_rfl) (by kernel_rfl) (by kernel_rfl) (fun _ _ _ h => h) (yields_take rfl (fun w' hw => by obtain ⟨h1, h2⟩ := hw.const; go_simp)) hS0.out ?_
    simp only [Act.put, List.setIfInBounds_toArray, List.set_cons_zero, List.set_cons_succ]
    refine wpAnyU_take (i := 7) (oi := { dst := some 21, op := _, type := _, pos := _, after := _, guard := none }) (v := .bool false) rfl (by kernel_rfl) (by kernel_rfl) (by kernel_rfl) (by kernel_rfl) (fun _ _ _ h => h) (yields_take rfl (fun w' hw => by obtain ⟨h1, h2⟩ := hw.const; go_simp)) hS0.out ?_
    simp only [Act.put, List.setIfInBounds_toArray, List.set_cons_zero, List.set_cons_succ]
    refine wpAnyU_take (i := 8) (oi := { dst := some 22, op := _, type := _, pos := _, after := _, guard := none }) (v := .bool false) rfl (by kernel_rfl) (by kernel_rfl) (by kernel_rfl) (by kernel_rfl) (fun _ _ _ h => h) (yields_take rfl (fun w' hw => by obtain ⟨h1, h2⟩ := hw.const; go_simp)) hS0.out ?_
    simp only [Act.put, List.setIfInBounds_toArray, List.set_cons_zero, List.set_cons_succ]
    refine wpAnyU_take (i := 9) (oi := { dst := some 23, op := _, type := _, pos := _, after := _, guard := some (8, false) }) (v := .slice (some ⟨b1, o1, none⟩) 2 c) rfl (by kernel_rfl) (by kernel_rfl) (by kernel_rfl) (by kernel_rfl) (fun _ _ _ h => h) (yields_take rfl (fun w' hw => by obtain ⟨h1, h2⟩ := hw.const; go_simp)) hS0.out ?_
    simp only [Act.put, List.setIfInBounds_toArray, List.set_cons_zero, List.set_cons_succ]
    refine wpAnyU_take (i := 10) (oi := { dst := some 24, op := _, type := _, pos := _, after := _, guard := some (8, false) }) (v := .pointer (some ⟨b1, o1 + 1, none⟩)) rfl (by kernel_rfl) (by kernel_rfl) (by kernel_rfl) (by kernel_rfl) (fun _ _ _ h => h) (yields_take rfl (fun w' hw => by obtain ⟨h1, h2⟩ := hw.const; go_simp)) hS0.out ?_
    simp only [Act.put, List.setIfInBounds_toArray, List.set_cons_zero, List.set_cons_succ]
    refine wpAnyU_take (i := 11) (oi := { dst := some 25, op := _, type := _, pos := _, after := _, guard := some (8, false) }) (v := .int .i64 x) rfl (by kernel_rfl) (by kernel_rfl) (by kernel_rfl) (by kernel_rfl) (fun _ _ _ h => h) (yields_take rfl (fun w' hw => by obtain ⟨h1, h2⟩ := hw.const; go_simp)) hS0.out ?_
    simp only [Act.put, List.setIfInBounds_toArray, List.set_cons_zero, List.set_cons_succ]
    refine wpAnyU_take (i := 12) (oi := { dst := some 26, op := _, type := _, pos := _, after := _, guard := some (8, false) }) (v := .slice (some ⟨b2, o2, none⟩) 2 c') rfl (by kernel_rfl) (by kernel_rfl) (by kernel_rfl) (by kernel_rfl) (fun _ _ _ h => h) (yields_take rfl (fun w' hw => by obtain ⟨h1, h2⟩ := hw.const; go_simp)) hS0.out ?_
    simp only [Act.put, List.setIfInBounds_toArray, List.set_cons_zero, List.set_cons_succ]
    refine wpAnyU_take (i := 13) (oi := { dst := some 27, op := _, type := _, pos := _, after := _, guard := some (8, false) }) (v := .pointer (some ⟨b2, o2, none⟩)) rfl (by kernel_rfl) (by kernel_rfl) (by kernel_rfl) (by kernel_rfl) (fun _ _ _ h => h) (yields_take rfl (fun w' hw => by obtain ⟨h1, h2⟩ := hw.const; go_simp)) hS0.out ?_
    simp only [Act.put, List.setIfInBounds_toArray, List.set_cons_zero, List.set_cons_succ]
    refine wpAnyU_take (i := 14) (oi := { dst := some 28, op := _, type := _, pos := _, after := _, guard := some (8, false) }) (v := .int .i64 y) rfl (by kernel_rfl) (by kernel_rfl) (by kernel_rfl) (by kernel_rfl) (fun _ _ _ h => h) (yields_take rfl (fun w' hw => by obtain ⟨h1, h2⟩ := hw.const; go_simp)) hS0.out ?_
    simp only [Act.put, List.setIfInBounds_toArray, List.set_cons_zero, List.set_cons_succ]
    refine wpAnyU_take (i := 15) (oi := { dst := some 29, op := _, type := _, pos := _, after := _, guard := some (8, false) }) (v := .bool true) rfl (by kernel_rfl) (by kernel_rfl) (by kernel_rfl) (by kernel_rfl) (fun _ _ _ h => h) (yields_take rfl (fun w' hw => by obtain ⟨h1, h2⟩ := hw.const; go_simp)) hS0.out ?_
    simp only [Act.put, List.setIfInBounds_toArray, List.set_cons_zero, List.set_cons_succ]
    refine wpAnyU_take (i := 16) (oi := { dst := some 30, op := _, type := _, pos := _, after := _, guard := none }) (v := .bool true) rfl (by kernel_rfl) (by kernel_rfl) (by kernel_rfl) (by kernel_rfl) (fun _ _ _ h => h) (yields_take rfl (fun w' hw => by obtain ⟨h1, h2⟩ := hw.const; go_simp)) hS0.out ?_
    simp only [Act.put, List.setIfInBounds_toArray, List.set_cons_zero, List.set_cons_succ]
    refine wpAnyU_done (by kernel_rfl) ?_ _
    clear hS0
    go_wp2
    go_ret2
    have h := HBAD.out _ (by rw [HE.out]; decide) HBD.out
    rw [HE.out] at h ⊢
    exact h
  have HE : Hid (shp7E s s' = 0) := hide (shp7E_iff.2 ⟨HOK.out, HL1.out, HL2.out, by rw [← HXY.out.1, ← HXY.out.2]; exact h5⟩)
  subst h5
  have hsz := hb2.size
  go_wp2
  have hS0 : Hid ((w2.drew).cell? ⟨b1, o1 + 1, none⟩ = some (.int .i64 x) ∧ (w2.drew).cell? ⟨b2, o2, none⟩ = some (.int .i64 x)) := hide (HK1.out _ (below_drewN hb2 1))
  refine wp_region_U (fun _ v => v.cell? ⟨b1, o1 + 1, none⟩ = some (.int .i64 x) ∧ v.cell? ⟨b2, o2, none⟩ = some (.int .i64 x)) 99 (by kernel_rfl) ?_
  refine wpAnyU_take (i := 0) (oi := { dst := some 14, op := _, type := _, pos := _, after := _, guard := none }) (v := .slice (some ⟨b1, o1, none⟩) 2 c) rfl (by kernel_rfl) (by kernel_rfl) (by kernel_rfl) (by kernel_rfl) (fun _ _ _ h => h) (yields_take rfl (fun w' hw => by obtain ⟨h1, h2⟩ := hw.const; go_simp)) hS0.out ?_
  simp only [Act.put, List.setIfInBounds_toArray, List.set_cons_zero, List.set_cons_succ]
  refine wpAnyU_take (i := 1) (oi := { dst := some 15, op := _, type := _, pos := _, after := _, guard := none }) (v := .int .i64 2) rfl (by kernel_rfl) (by kernel_rfl) (by kernel_rfl) (by kernel_rfl) (fun _ _ _ h => h) (yields_take rfl (fun w' hw => by obtain ⟨h1, h2⟩ := hw.const; go_simp)) hS0.out ?_
  simp only [Act.put, List.setIfInBounds_toArray, List.set_cons_zero, List.set_cons_succ]
  refine wpAnyU_take (i := 2) (oi := { dst := some 16, op := _, type := _, pos := _, after := _, guard := none }) (v := .bool false) rfl (by kernel_rfl) (by kernel_rfl) (by kernel_rfl) (by kernel_rfl) (fun _ _ _ h => h) (yields_take rfl (fun w' hw => by obtain ⟨h1, h2⟩ := hw.const; go_simp)) hS0.out ?_
  simp only [Act.put, List.setIfInBounds_toArray, List.set_cons_zero, List.set_cons_succ]
  refine wpAnyU_take (i := 3) (oi := { dst := some 17, op := _, type := _, pos := _, after := _, guard := none }) (v := .bool false) rfl (by kernel_rfl) (by kernel_rfl) (by kernel_rfl) (by kernel_rfl) (fun _ _ _ h => h) (yields_take rfl (fun w' hw => by obtain ⟨h1, h2⟩ := hw.const; go_simp)) hS0.out ?_
  simp only [Act.put, List.setIfInBounds_toArray, List.set_cons_zero, List.set_cons_succ]
  refine wpAnyU_take (i := 4) (oi := { dst := some 18, op := _, type := _, pos := _, after := _, guard := some (3, false) }) (v := .slice (some ⟨b2, o2, none⟩) 2 c') rfl (by kernel_rfl) (by kernel_rfl) (by kernel_rfl) (by kernel_rfl) (fun _ _ _ h => h) (yields_take rfl (fun w' hw => by obtain ⟨h1, h2⟩ := hw.const; go_simp)) hS0.out ?_
  simp only [Act.put, List.setIfInBounds_toArray, List.set_cons_zero, List.set_cons_succ]
  refine wpAnyU_take (i := 5) (oi := { dst := some 19, op := _, type := _, pos := _, after := _, guard := some (3, false) }) (v := .int .i64 2) rfl (by kernel_rfl) (by kernel_rfl) (by kernel_rfl) (by kernel_rfl) (fun _ _ _ h => h) (yields_take rfl (fun w' hw => by obtain ⟨h1, h2⟩ := hw.const; go_simp)) hS0.out ?_
  simp only [Act.put, List.setIfInBounds_toArray, List.set_cons_zero, List.set_cons_succ]
  refine wpAnyU_take (i := 6) (oi := { dst := some 20, op := _, type := _, pos := _, after := _, guard := some (3, false) }) (v := .bool false) rfl (by kernel_rfl) (by kernel_rfl) (by kernel_rfl) (by kernel_rfl) (fun _ _ _ h => h) (yields_take rfl (fun w' hw => by obtain ⟨h1, h2⟩ := hw.const; go_simp)) hS0.out ?_
  simp only [Act.put, List.setIfInBounds_toArray, List.set_cons_zero, List.set_cons_succ]
  refine wpAnyU_take (i := 7) (oi := { dst := some 21, op := _, type := _, pos := _, after := _, guard := none }) (v := .bool false) rfl (by kernel_rfl) (by kernel_rfl) (by kernel_rfl) (by kernel_rfl) (fun _ _ _ h => h) (yields_take rfl (fun w' hw => by obtain ⟨h1, h2⟩ := hw.const; go_simp)) hS0.out ?_
  simp only [Act.put, List.setIfInBounds_toArray, List.set_cons_zero, List.set_cons_succ]
  refine wpAnyU_take (i := 8) (oi := { dst := some 22, op := _, type := _, pos := _, after := _, guard := none }) (v := .bool false) rfl (by kernel_rfl) (by kernel_rfl) (by kernel_rfl) (by kernel_rfl) (fun _ _ _ h => h) (yields_take rfl (fun w' hw => by obtain ⟨h1, h2⟩ := hw.const; go_simp)) hS0.out ?_
  simp only [Act.put, List.setIfInBounds_toArray, List.set_cons_zero, List.set_cons_succ]
  refine wpAnyU_take (i := 9) (oi := { dst := some 23, op := _, type := _, pos := _, after := _, guard := some (8, false) }) (v := .slice (some ⟨b1, o1, none⟩) 2 c) rfl (by kernel_rfl) (by kernel_rfl) (by kernel_rfl) (by kernel_rfl) (fun _ _ _ h => h) (yields_take rfl (fun w' hw => by obtain ⟨h1, h2⟩ := hw.const; go_simp)) hS0.out ?_
  simp only [Act.put, List.setIfInBounds_toArray, List.set_cons_zero, List.set_cons_succ]
  refine wpAnyU_take (i := 10) (oi := { dst := some 24, op := _, type := _, pos := _, after := _, guard := some (8, false) }) (v := .pointer (some ⟨b1, o1 + 1, none⟩)) rfl (by kernel_rfl) (by kernel_rfl) (by kernel_rfl) (by kernel_rfl) (fun _ _ _ h => h) (yields_take rfl (fun w' hw => by obtain ⟨h1, h2⟩ := hw.const; go_simp)) hS0.out ?_
  simp only [Act.put, List.setIfInBounds_toArray, List.set_cons_zero, List.set_cons_succ]
  refine wpAnyU_take (i := 11) (oi := { dst := some 25, op := _, type := _, pos := _, after := _, guard := some (8, false) }) (v := .int .i64 x) rfl (by kernel_rfl) (by kernel_rfl) (by kernel_rfl) (by kernel_rfl) (fun _ _ _ h => h) (yields_take rfl (fun w' hw => by obtain ⟨h1, h2⟩ := hw.const; go_simp)) hS0.out ?_
  simp only [Act.put, List.setIfInBounds_toArray, List.set_cons_zero, List.set_cons_succ]
  refine wpAnyU_take (i := 12) (oi := { dst := some 26, op := _, type := _, pos := _, after := _, guard := some (8, false) }) (v := .slice (some ⟨b2, o2, none⟩) 2 c') rfl (by kernel_rfl) (by kernel_rfl) (by kernel_rfl) (by kernel_rfl) (fun _ _ _ h => h) (yields_take rfl (fun w' hw => by obtain ⟨h1, h2⟩ := hw.const; go_simp)) hS0.out ?_
  simp only [Act.put, List.setIfInBounds_toArray, List.set_cons_zero, List.set_cons_succ]
  refine wpAnyU_take (i := 13) (oi := { dst := some 27, op := _, type := _, pos := _, after := _, guard := some (8, false) }) (v := .pointer (some ⟨b2, o2, none⟩)) rfl (by kernel_rfl) (by kernel_rfl) (by kernel_rfl) (by kernel_rfl) (fun _ _ _ h => h) (yields_take rfl (fun w' hw => by obtain ⟨h1, h2⟩ := hw.const; go_simp)) hS0.out ?_
  simp only [Act.put, List.setIfInBounds_toArray, List.set_cons_zero, List.set_cons_succ]
  refine wpAnyU_take (i := 14) (oi := { dst := some 28, op := _, type := _, pos := _, after := _, guard := some (8, false) }) (v := .int .i64 x) rfl (by kernel_rfl) (by kernel_rfl) (by kernel_rfl) (by kernel_rfl) (fun _ _ _ h => h) (yields_take rfl (fun w' hw => by obtain ⟨h1, h2⟩ := hw.const; go_simp)) hS0.out ?_
  simp only [Act.put, List.setIfInBounds_toArray, List.set_cons_zero, List.set_cons_succ]
  refine wpAnyU_take (i := 15) (oi := { dst := some 29, op := _, type := _, pos := _, after := _, guard := some (8, false) }) (v := .bool false) rfl (by kernel_rfl) (by kernel_rfl) (by kernel_rfl) (by kernel_rfl) (fun _ _ _ h => h) (yields_take rfl (fun w' hw => by obtain ⟨h1, h2⟩ := hw.const; go_simp)) hS0.out ?_
  simp only [Act.put, List.setIfInBounds_toArray, List.set_cons_zero, List.set_cons_succ]
  refine wpAnyU_take (i := 16) (oi := { dst := some 30, op := _, type := _, pos := _, after := _, guard := none }) (v := .bool false) rfl (by kernel_rfl) (by kernel_rfl) (by kernel_rfl) (by kernel_rfl) (fun _ _ _ h => h) (yields_take rfl (fun w' hw => by obtain ⟨h1, h2⟩ := hw.const; go_simp)) hS0.out ?_
  simp only [Act.put, List.setIfInBounds_toArray, List.set_cons_zero, List.set_cons_succ]
  refine wpAnyU_done (by kernel_rfl) ?_ _
  clear hS0
  go_wp2
  have hS0 : Hid (((w2.drewN 1).drew).cell? ⟨b1, o1, none⟩ = some (.int .i64 p) ∧ ((w2.drewN 1).drew).cell? ⟨b2, o2 + 1, none⟩ = some (.int .i64 q)) := hide (HK2.out _ (below_drewN hb2 2))
  refine wp_region_U (fun _ v => v.cell? ⟨b1, o1, none⟩ = some (.int .i64 p) ∧ v.cell? ⟨b2, o2 + 1, none⟩ = some (.int .i64 q)) 99 (by kernel_rfl) ?_
  refine wpAnyU_take (i := 0) (oi := { dst := some 31, op := _, type := _, pos := _, after := _, guard := none }) (v := .slice (some ⟨b1, o1, none⟩) 2 c) rfl (by kernel_rfl) (by kernel_rfl) (by kernel_rfl) (by kernel_rfl) (fun _ _ _ h => h) (yields_take rfl (fun w' hw => by obtain ⟨h1, h2⟩ := hw.const; go_simp)) hS0.out ?_
  simp only [Act.put, List.setIfInBounds_toArray, List.set_cons_zero, List.set_cons_succ]
  refine wpAnyU_take (i := 1) (oi := { dst := some 32, op := _, type := _, pos := _, after := _, guard := none }) (v := .pointer (some ⟨b1, o1, none⟩)) rfl (by kernel_rfl) (by kernel_rfl) (by kernel_rfl) (by kernel_rfl) (fun _ _ _ h => h) (yields_take rfl (fun w' hw => by obtain ⟨h1, h2⟩ := hw.const; go_simp)) hS0.out ?_
  simp only [Act.put, List.setIfInBounds_toArray, List.set_cons_zero, List.set_cons_succ]
  refine wpAnyU_take (i := 2) (oi := { dst := some 33, op := _, type := _, pos := _, after := _, guard := none }) (v := .int .i64 p) rfl (by kernel_rfl) (by kernel_rfl) (by kernel_rfl) (by kernel_rfl) (fun _ _ _ h => h) (yields_take rfl (fun w' hw => by obtain ⟨h1, h2⟩ := hw.const; go_simp)) hS0.out ?_
  simp only [Act.put, List.setIfInBounds_toArray, List.set_cons_zero, List.set_cons_succ]
  refine wpAnyU_take (i := 3) (oi := { dst := some 34, op := _, type := _, pos := _, after := _, guard := none }) (v := .slice (some ⟨b2, o2, none⟩) 2 c') rfl (by kernel_rfl) (by kernel_rfl) (by kernel_rfl) (by kernel_rfl) (fun _ _ _ h => h) (yields_take rfl (fun w' hw => by obtain ⟨h1, h2⟩ := hw.const; go_simp)) hS0.out ?_
  simp only [Act.put, List.setIfInBounds_toArray, List.set_cons_zero, List.set_cons_succ]
  refine wpAnyU_take (i := 4) (oi := { dst := some 35, op := _, type := _, pos := _, after := _, guard := none }) (v := .pointer (some ⟨b2, o2 + 1, none⟩)) rfl (by kernel_rfl) (by kernel_rfl) (by kernel_rfl) (by kernel_rfl) (fun _ _ _ h => h) (yields_take rfl (fun w' hw => by obtain ⟨h1, h2⟩ := hw.const; go_simp)) hS0.out ?_
  simp only [Act.put, List.setIfInBounds_toArray, List.set_cons_zero, List.set_cons_succ]
  refine wpAnyU_take (i := 5) (oi := { dst := some 36, op := _, type := _, pos := _, after := _, guard := none }) (v := .int .i64 q) rfl (by kernel_rfl) (by kernel_rfl) (by kernel_rfl) (by kernel_rfl) (fun _ _ _ h => h) (yields_take rfl (fun w' hw => by obtain ⟨h1, h2⟩ := hw.const; go_simp)) hS0.out ?_
  simp only [Act.put, List.setIfInBounds_toArray, List.set_cons_zero, List.set_cons_succ]
  refine wpAnyU_one (i := 6) (by kernel_rfl) rfl ?_
  intro K hK
  go_simp
  have hb4 : Below w.heap.size w ((((w2.drewN 1).drew).alloc (.cells #[.int .i64 p, .int .i64 q] 3))) := below_al7x (below_drewN hb2 2)
  have hS1 : Hid ((((w2.drewN 1).drew).alloc (.cells #[.int .i64 p, .int .i64 q] 3)).cell? ⟨b1, o1, none⟩ = some (.int .i64 p) ∧ (((w2.drewN 1).drew).alloc (.cells #[.int .i64 p, .int .i64 q] 3)).cell? ⟨b2, o2 + 1, none⟩ = some (.int .i64 q)) := hide (HK2.out _ hb4)
  refine hK.out _ _ hS1.out (fun _ => ?_)
  clear hK K hS0
  refine wpAnyU_take (i := 7) (oi := { dst := some 4, op := _, type := _, pos := _, after := _, guard := none }) (v := .slice (some ⟨w2.heap.size, 0, none⟩) 2 2) rfl (by kernel_rfl) (by kernel_rfl) (by kernel_rfl) (by kernel_rfl) (fun _ _ _ h => h) (yields_take rfl (fun w' hw => by obtain ⟨h1, h2⟩ := hw.const; go_simp)) hS1.out ?_
  simp only [Act.put, List.setIfInBounds_toArray, List.set_cons_zero, List.set_cons_succ]
  refine wpAnyU_take (i := 8) (oi := { dst := some 5, op := _, type := _, pos := _, after := _, guard := none }) (v := .int .i64 0) rfl (by kernel_rfl) (by kernel_rfl) (by kernel_rfl) (by kernel_rfl) (fun _ _ _ h => h) (yields_take rfl (fun w' hw => by obtain ⟨h1, h2⟩ := hw.const; go_simp)) hS1.out ?_
  simp only [Act.put, List.setIfInBounds_toArray, List.set_cons_zero, List.set_cons_succ]
  refine wpAnyU_done (by kernel_rfl) ?_ _
  clear hS1
  have HBF := hide hb4
  go_wp2
  go_ret2
  refine ⟨some ⟨w2.heap.size, 0, none⟩, 2, 2, by rw [HE.out]; rfl, ?_, by omega, HBF.out⟩
  rw [shp7S_ok HE.out, ← HPQ.out.1, ← HPQ.out.2]
  exact own_of_block hsz (heap_alloc_new _ _) rfl (Nat.le_refl _) (by decide) rfl

set_option maxHeartbeats 2000000 in
theorem rof_bad (A B A' B' : Option Addr) (n c m d n' c' m' d' : Nat) (s l s' l' : List Int) (w : World) (hA : Lies w A n (s.map (Value.int .i64))) (hB : Lies w B m (l.map (Value.int .i32))) (hA' : Lies w A' n' (s'.map (Value.int .i64))) (hB' : Lies w B' m' (l'.map (Value.int .i32))) (hn : n ≤ 281474976710656) (hn' : n' ≤ 281474976710656) (hbad : of7E s m s' m' ≠ 0) :
    Calls Tryz.prog 9 #[tenV A n c B m d, tenV A' n' c' B' m' d'] w fun e w' => e = .returned (.tuple #[tenV none 0 0 none 0 0, .int .i64 (of7E s m s' m')]) ∧ Below w.heap.size w w' := by
  obtain ⟨W0, hW0⟩ : ∃ W0, W0 = ((w.alloc (.cells #[.slice A n c, .slice B m d] 25)).alloc (.cells #[.slice A' n' c', .slice B' m' d'] 25)).alloc (.cells #[.slice none 0 0, .slice none 0 0] 25) := ⟨_, rfl⟩
  have HB0 : Hid (Below w.heap.size w W0) := hide (by rw [hW0]; exact (((Below.refl w.heap.size w).alloc (Nat.le_refl _) _).alloc (by simp only [World.size_alloc]; omega) _).alloc (by simp only [World.size_alloc]; omega) _)
  have hs0 : W0.heap.size = w.heap.size + 3 := by rw [hW0]; simp
  have HX0 : Hid (BoxT W0 w.heap.size (.slice A n c) (.slice B m d)) := hide (by rw [hW0]; exact ((BoxT.new w _ _).alloc _).alloc _)
  have HX1 : Hid (BoxT W0 (w.heap.size + 1) (.slice A' n' c') (.slice B' m' d')) := hide (by
    rw [hW0]
    have h := (BoxT.new (w.alloc (.cells #[.slice A n c, .slice B m d] 25)) (.slice A' n' c') (.slice B' m' d')).alloc (.cells #[.slice none 0 0, .slice none 0 0] 25)
    rwa [World.size_alloc] at h)
  have HXR : Hid (BoxT W0 (w.heap.size + 2) (.slice none 0 0) (.slice none 0 0)) := hide (by
    rw [hW0]
    have h := BoxT.new ((w.alloc (.cells #[.slice A n c, .slice B m d] 25)).alloc (.cells #[.slice A' n' c', .slice B' m' d'] 25)) (.slice none 0 0) (.slice none 0 0)
    rwa [World.size_alloc, World.size_alloc] at h)
  have hW0' := hW0.symm
  clear hW0
  have HS0 := hide hs0
  have HA := hide (hA.below HB0.out)
  have HB := hide (hB.below HB0.out)
  have HA' := hide (hA'.below HB0.out)
  have HB' := hide (hB'.below HB0.out)
  have HC : Hid (∀ v, Below W0.heap.size W0 v → (v.cell? ⟨w.heap.size, 0, none⟩ = some (.slice A n c) ∧ v.cell? ⟨w.heap.size, 1, none⟩ = some (.slice B m d) ∧ v.cell? ⟨w.heap.size + 1, 0, none⟩ = some (.slice A' n' c') ∧ v.cell? ⟨w.heap.size + 1, 1, none⟩ = some (.slice B' m' d')) ∧ v.cell? ⟨w.heap.size + 2, 0, none⟩ = some (.slice none 0 0) ∧ v.cell? ⟨w.heap.size + 2, 1, none⟩ = some (.slice none 0 0) ∧ v.frozen? ⟨w.heap.size + 2, 0, none⟩ = false ∧ v.frozen? ⟨w.heap.size + 2, 1, none⟩ = false) := hide (fun v hv =>
    ⟨⟨(HX0.out.kept hv).c0, (HX0.out.kept hv).c1, (HX1.out.kept hv).c0, (HX1.out.kept hv).c1⟩, (HXR.out.kept hv).c0, (HXR.out.kept hv).c1, (HXR.out.kept hv).f0 0, (HXR.out.kept hv).f0 1⟩)
  clear hA hB hA' hB' hs0
  have HBD := hide hbad
  clear hbad
  go_enter Tryz.func9, Tryz.ntmps9
  obtain ⟨⟨a0, a1, b0, b1⟩, r0, r1, rf0, rf1⟩ := HC.out _ (Below.refl _ W0)
  go_wp2_with fail
  refine Calls.mono (rtcheck_any A B n c m d s _ HA.out hn) ?_
  rintro e w1 ⟨rfl, hb1⟩
  clear a0 a1 b0 b1 r0 r1 rf0 rf1
  obtain ⟨⟨a0, a1, b0, b1⟩, r0, r1, rf0, rf1⟩ := HC.out _ hb1
  by_cases h1 : tenOk s m = true
  rotate_left
  · rw [show tenOk s m = false by simpa using h1]
    have HE : Hid (of7E s m s' m' = 1) := hide (by rw [of7E, if_neg fun h => h1 h.1])
    clear h1
    have HXF := hide (HXR.out.kept hb1)
    have HBF := hide (HB0.out.trans (hb1.mono (by have := HS0.out; omega)))
    go_wp2
    (try simp only [Exit.inBlock, Exit.then])
    refine ret_ten (p := 4) (u := 5) rfl rfl (w.heap.size + 2) _ rfl (HXF.out.set2 _ _) rfl ?_
    exact ⟨by rw [HE.out]; rfl, (HBF.out.setCell (by dsimp only; omega) _).setCell (by dsimp only; omega) _⟩
  rw [h1]
  go_wp2_with fail
  refine Calls.mono (rtcheck_any A' B' n' c' m' d' s' _ (HA'.out.below hb1) hn') ?_
  rintro e w2 ⟨rfl, hb20⟩
  have hb2 : Below W0.heap.size W0 w2 := hb1.trans (hb20.mono hb1.size)
  clear a0 a1 b0 b1 r0 r1 rf0 rf1 hb20
  obtain ⟨⟨a0, a1, b0, b1⟩, r0, r1, rf0, rf1⟩ := HC.out _ hb2
  by_cases h2 : tenOk s' m' = true
  rotate_left
  · rw [show tenOk s' m' = false by simpa using h2]
    have HE : Hid (of7E s m s' m' = 1) := hide (by rw [of7E, if_neg fun h => h2 h.2])
    clear h1 h2
    have HXF := hide (HXR.out.kept hb2)
    have HBF := hide (HB0.out.trans (hb2.mono (by have := HS0.out; omega)))
    go_wp2
    (try simp only [Exit.inBlock, Exit.then])
    refine ret_ten (p := 4) (u := 5) rfl rfl (w.heap.size + 2) _ rfl (HXF.out.set2 _ _) rfl ?_
    exact ⟨by rw [HE.out]; rfl, (HBF.out.setCell (by dsimp only; omega) _).setCell (by dsimp only; omega) _⟩
  rw [h2]
  have HE : Hid (of7E s m s' m' = shp7E s s') := hide (by rw [of7E, if_pos ⟨h1, h2⟩])
  clear h1 h2
  go_wp2_with fail
  refine Calls.mono (rshape7_any A A' n c n' c' s s' _ (HA.out.below hb2) (HA'.out.below hb2) hn hn') ?_
  rw [← HE.out]
  obtain ⟨E, hE⟩ : ∃ E, E = of7E s m s' m' := ⟨_, rfl⟩
  rw [← hE]
  rintro e w3 ⟨R, k, kc, rfl, ho, hk2, hb30⟩
  have hb3 : Below W0.heap.size W0 w3 := hb2.trans (hb30.mono hb2.size)
  have hE0 : ¬ E = 0 := by rw [hE]; exact HBD.out
  have hE1 : (E == 0) = false := by simpa using hE0
  have hE2 : (E != 0) = true := by simpa using hE0
  have HEE := hide hE
  clear a0 a1 b0 b1 r0 r1 rf0 rf1 hb30 ho hE
  obtain ⟨⟨a0, a1, b0, b1⟩, r0, r1, rf0, rf1⟩ := HC.out _ hb3
  have HXF := hide (HXR.out.kept hb3)
  have HBF := hide (HB0.out.trans (hb3.mono (by have := HS0.out; omega)))
  go_wp2
  (try simp only [Exit.inBlock, Exit.then])
  refine ret_ten (p := 4) (u := 5) rfl rfl (w.heap.size + 2) _ rfl (HXF.out.set2 _ _) rfl ?_
  exact ⟨by rw [HEE.out]; rfl, (HBF.out.setCell (by dsimp only; omega) _).setCell (by dsimp only; omega) _⟩

set_option maxHeartbeats 4000000 in
theorem rof_ok (A B A' B' : Option Addr) (c m d c' m' d' M K N : Nat) (l l' : List Int) (w : World) (hA : Lies w A 2 (([(M : Int), (K : Int)] : List Int).map (Value.int .i64))) (hB : Lies w B m (l.map (Value.int .i32))) (hA' : Lies w A' 2 (([(K : Int), (N : Int)] : List Int).map (Value.int .i64))) (hB' : Lies w B' m' (l'.map (Value.int .i32)))
    (hok : tenOk [(M : Int), (K : Int)] m = true) (hok' : tenOk [(K : Int), (N : Int)] m' = true) :
    Calls Tryz.prog 9 #[tenV A 2 c B m d, tenV A' 2 c' B' m' d'] w fun e w' => ∃ g1 c1 g2, e = .returned (.tuple #[tenV (some ⟨g1, 0, none⟩) 2 c1 (some ⟨g2, 0, none⟩) (M * N) (M * N), .int .i64 0]) ∧
      w'.ownsRow w.heap.size 3 1 (.slice (some ⟨g1, 0, none⟩) 2 c1) 2 (([(M : Int), (N : Int)] : List Int).map (Value.int .i64)) ∧ w'.ownsRow w.heap.size 21 1 (.slice (some ⟨g2, 0, none⟩) (M * N) (M * N)) (M * N) ((prodL l l' M K N).map (Value.int .i32)) ∧ g1 ≠ g2 ∧ Below w.heap.size w w' := by
  obtain ⟨hM, hK, hm⟩ := ten_two hok
  obtain ⟨_, hN, hm'⟩ := ten_two hok'
  obtain ⟨hz1, hz2, hz3⟩ := two_size hM hN
  obtain ⟨hz4, hz5, hz6⟩ := two_size hK hN
  obtain ⟨hz7, hz8, hz9⟩ := two_size hM hK
  obtain ⟨hE, hS⟩ := shp7_two hM hK hN
  obtain ⟨q, hq⟩ : ∃ q, q = M * N := ⟨_, rfl⟩
  rw [← hq] at hz1 hz2 hz3 ⊢
  obtain ⟨zs, hzs⟩ : ∃ zs, zs = prodL l l' M K N := ⟨_, rfl⟩
  rw [← hzs]
  have HZ := hide hzs
  have HZL : Hid (zs.length = q) := hide (by rw [hzs, prodL_len, hq])
  have HQ := hide hq
  have HE := hide hE
  have HS := hide hS
  have HSZ := hide hz1
  have HM1 := hide hm
  have HM2 := hide hm'
  clear hzs hq hE hS hz1 hz4 hz7 hm hm'
  obtain ⟨W0, hW0⟩ : ∃ W0, W0 = ((w.alloc (.cells #[.slice A 2 c, .slice B m d] 25)).alloc (.cells #[.slice A' 2 c', .slice B' m' d'] 25)).alloc (.cells #[.slice none 0 0, .slice none 0 0] 25) := ⟨_, rfl⟩
  have HB0 : Hid (Below w.heap.size w W0) := hide (by rw [hW0]; exact (((Below.refl w.heap.size w).alloc (Nat.le_refl _) _).alloc (by simp only [World.size_alloc]; omega) _).alloc (by simp only [World.size_alloc]; omega) _)
  have hs0 : W0.heap.size = w.heap.size + 3 := by rw [hW0]; simp
  have HX0 : Hid (BoxT W0 w.heap.size (.slice A 2 c) (.slice B m d)) := hide (by rw [hW0]; exact ((BoxT.new w _ _).alloc _).alloc _)
  have HX1 : Hid (BoxT W0 (w.heap.size + 1) (.slice A' 2 c') (.slice B' m' d')) := hide (by
    rw [hW0]
    have h := (BoxT.new (w.alloc (.cells #[.slice A 2 c, .slice B m d] 25)) (.slice A' 2 c') (.slice B' m' d')).alloc (.cells #[.slice none 0 0, .slice none 0 0] 25)
    rwa [World.size_alloc] at h)
  have HXR : Hid (BoxT W0 (w.heap.size + 2) (.slice none 0 0) (.slice none 0 0)) := hide (by
    rw [hW0]
    have h := BoxT.new ((w.alloc (.cells #[.slice A 2 c, .slice B m d] 25)).alloc (.cells #[.slice A' 2 c', .slice B' m' d'] 25)) (.slice none 0 0) (.slice none 0 0)
    rwa [World.size_alloc, World.size_alloc] at h)
  have hW0' := hW0.symm
  clear hW0
  have HS0 := hide hs0
  have HA := hide (hA.below HB0.out)
  have HB := hide (hB.below HB0.out)
  have HA' := hide (hA'.below HB0.out)
  have HB' := hide (hB'.below HB0.out)
  have HC : Hid (∀ v, Below W0.heap.size W0 v → (v.cell? ⟨w.heap.size, 0, none⟩ = some (.slice A 2 c) ∧ v.cell? ⟨w.heap.size, 1, none⟩ = some (.slice B m d) ∧ v.cell? ⟨w.heap.size + 1, 0, none⟩ = some (.slice A' 2 c') ∧ v.cell? ⟨w.heap.size + 1, 1, none⟩ = some (.slice B' m' d')) ∧ v.cell? ⟨w.heap.size + 2, 0, none⟩ = some (.slice none 0 0) ∧ v.cell? ⟨w.heap.size + 2, 1, none⟩ = some (.slice none 0 0) ∧ v.frozen? ⟨w.heap.size + 2, 0, none⟩ = false ∧ v.frozen? ⟨w.heap.size + 2, 1, none⟩ = false) := hide (fun v hv =>
    ⟨⟨(HX0.out.kept hv).c0, (HX0.out.kept hv).c1, (HX1.out.kept hv).c0, (HX1.out.kept hv).c1⟩, (HXR.out.kept hv).c0, (HXR.out.kept hv).c1, (HXR.out.kept hv).f0 0, (HXR.out.kept hv).f0 1⟩)
  have HLW := hide (And.intro hA (And.intro hA' (And.intro hB hB')))
  clear hA hB hA' hB' hs0
  have HOK1 := hide hok
  have HOK2 := hide hok'
  clear hok hok'
  go_enter Tryz.func9, Tryz.ntmps9
  obtain ⟨⟨a0, a1, b0, b1⟩, r0, r1, rf0, rf1⟩ := HC.out _ (Below.refl _ W0)
  go_wp2_with fail
  refine Calls.mono (rtcheck_any A B 2 c m d [(M : Int), (K : Int)] _ HA.out (by omega)) ?_
  rw [HOK1.out]
  rintro e w1 ⟨rfl, hb1⟩
  clear a0 a1 b0 b1 r0 r1 rf0 rf1
  obtain ⟨⟨a0, a1, b0, b1⟩, r0, r1, rf0, rf1⟩ := HC.out _ hb1
  go_wp2_with fail
  refine Calls.mono (rtcheck_any A' B' 2 c' m' d' [(K : Int), (N : Int)] _ (HA'.out.below hb1) (by omega)) ?_
  rw [HOK2.out]
  rintro e w2 ⟨rfl, hb20⟩
  have hb2 : Below W0.heap.size W0 w2 := hb1.trans (hb20.mono hb1.size)
  clear a0 a1 b0 b1 r0 r1 rf0 rf1 hb20 hb1
  obtain ⟨⟨a0, a1, b0, b1⟩, r0, r1, rf0, rf1⟩ := HC.out _ hb2
  go_wp2_with fail
  refine Calls.mono (rshape7_any A A' 2 c 2 c' [(M : Int), (K : Int)] [(K : Int), (N : Int)] _ (HA.out.below hb2) (HA'.out.below hb2) (by omega) (by omega)) ?_
  rw [HE.out, HS.out]
  rintro e w3 ⟨R, k, kc, rfl, ho, hk2, hb30⟩
  have hb3 : Below W0.heap.size W0 w3 := hb2.trans (hb30.mono hb2.size)
  obtain rfl : k = 2 := by have := ho.1; simpa using this.symm
  obtain ⟨gs, rfl⟩ := own_some ho (by omega)
  have HLS := hide (lies_of_own ho)
  have hgs := (ho.lt gs rfl).2
  clear a0 a1 b0 b1 r0 r1 rf0 rf1 hb30 hb2 ho hk2
  obtain ⟨⟨a0, a1, b0, b1⟩, r0, r1, rf0, rf1⟩ := HC.out _ hb3
  go_wp2_with fail
  refine Calls.mono (rnew_ok7 (some ⟨gs, 0, none⟩) 2 kc q [(M : Int), (N : Int)] w3 HLS.out (fun h => by cases h) HSZ.out (by omega)) ?_
  rintro e w4 ⟨g1, c1, g2, rfl, ho1, ho2, hne, hb40⟩
  have lt1 := ho1.lt g1 rfl
  have lt2 := ho2.lt g2 rfl
  have hb4 : Below W0.heap.size W0 w4 := hb3.trans (hb40.mono hb3.size)
  obtain ⟨W1, hW1⟩ : ∃ W1, W1 = w4.alloc (.cells #[.slice (some ⟨g1, 0, none⟩) 2 c1, .slice (some ⟨g2, 0, none⟩) q q] 25) := ⟨_, rfl⟩
  have HB1 : Hid (Below W0.heap.size W0 W1) := hide (by rw [hW1]; exact hb4.alloc hb4.size _)
  have HT1 : Hid (BoxT W1 w4.heap.size (.slice (some ⟨g1, 0, none⟩) 2 c1) (.slice (some ⟨g2, 0, none⟩) q q)) := hide (by rw [hW1]; exact BoxT.new w4 _ _)
  have HO1 : Hid (W1.ownsRow w3.heap.size 3 1 (.slice (some ⟨g1, 0, none⟩) 2 c1) 2 (([(M : Int), (N : Int)] : List Int).map (Value.int .i64))) := hide (by rw [hW1]; exact ho1.alloc _)
  have HF1 : Hid (FillAt W1 g2 q zs 0) := hide (by rw [hW1]; exact FillAt.of_own (ho2.alloc _) zs)
  have hs1 : W1.heap.size = w4.heap.size + 1 := by rw [hW1]; simp
  have HLS1 : Hid (Lies W1 (some ⟨gs, 0, none⟩) 2 (([(M : Int), (N : Int)] : List Int).map (Value.int .i64))) := hide (by rw [hW1]; exact (HLS.out.below hb40).alloc _)
  have hW1' := hW1.symm
  have hs3 := hb3.size
  clear hW1 ho1 ho2 hb40 hb4 hb3 a0 a1 b0 b1 r0 r1 rf0 rf1
  have HSZ1 := hide hs1
  have HS3 := hide hs3
  have hgs2 : gs < g2 := by omega
  have hgs3 : gs < W1.heap.size := by omega
  clear hs1 hs3
  have HLB : Hid (∀ v, W1.grownBy v (some g2) → Lies v A 2 (([(M : Int), (K : Int)] : List Int).map (Value.int .i64)) ∧ Lies v A' 2 (([(K : Int), (N : Int)] : List Int).map (Value.int .i64)) ∧ Lies v B m (l.map (Value.int .i32)) ∧ Lies v B' m' (l'.map (Value.int .i32))) := hide (fun v hv => by
    have hbw := HB0.out.trans (HB1.out.mono HB0.out.size)
    have hlo : w.heap.size ≤ g2 := by have := HS0.out; have := HS3.out; omega
    exact ⟨grown_lies hv (HLW.out.1.below hbw) (lies_block HLW.out.1 (by omega) hlo), grown_lies hv (HLW.out.2.1.below hbw) (lies_block HLW.out.2.1 (by omega) hlo), grown_lies hv (HLW.out.2.2.1.below hbw) (lies_block HLW.out.2.2.1 (by have := HM1.out; omega) hlo), grown_lies hv (HLW.out.2.2.2.below hbw) (lies_block HLW.out.2.2.2 (by have := HM2.out; omega) hlo)⟩)
  obtain ⟨q1A, q1A', q1B, q1B'⟩ := HLB.out _ (World.grownBy.refl _ _)
  obtain ⟨bA, oA, rfl, _, _⟩ := byte_at q1A (by omega)
  obtain ⟨bA', oA', rfl, _, _⟩ := byte_at q1A' (by omega)
  obtain ⟨bB, oB, rfl, _, _⟩ := byte_at q1B (by have := HM1.out; omega)
  obtain ⟨bB', oB', rfl, _, _⟩ := byte_at q1B' (by have := HM2.out; omega)
  clear q1A q1A' q1B q1B'
  have HL1 : Hid (∀ v, W1.grownBy v (some g2) → ∀ x, x < m → v.cell? ⟨bB, oB + x, none⟩ = some (.int .i32 (l.getD x 0))) := hide (fun v hv x hx => by
    obtain ⟨_, _, h, _⟩ := HLB.out v hv
    obtain ⟨b', o', e', _, hx'⟩ := byte_at h (by omega)
    cases e'
    exact hx' x hx)
  have HL2 : Hid (∀ v, W1.grownBy v (some g2) → ∀ x, x < m' → v.cell? ⟨bB', oB' + x, none⟩ = some (.int .i32 (l'.getD x 0))) := hide (fun v hv x hx => by
    obtain ⟨_, _, _, h⟩ := HLB.out v hv
    obtain ⟨b', o', e', _, hx'⟩ := byte_at h (by omega)
    cases e'
    exact hx' x hx)
  have HF : Hid (∀ v, W1.grownBy v (some g2) → v.cell? ⟨w4.heap.size, 1, none⟩ = some (.slice (some ⟨g2, 0, none⟩) q q) ∧ v.cell? ⟨w.heap.size, 0, none⟩ = some (.slice (some ⟨bA, oA, none⟩) 2 c) ∧ v.cell? ⟨w.heap.size, 1, none⟩ = some (.slice (some ⟨bB, oB, none⟩) m d) ∧ v.cell? ⟨w.heap.size + 1, 0, none⟩ = some (.slice (some ⟨bA', oA', none⟩) 2 c') ∧ v.cell? ⟨w.heap.size + 1, 1, none⟩ = some (.slice (some ⟨bB', oB', none⟩) m' d') ∧ v.cell? ⟨gs, 0, none⟩ = some (.int .i64 (M : Int)) ∧ v.cell? ⟨gs, 1, none⟩ = some (.int .i64 (N : Int)) ∧ v.cell? ⟨bA, oA + 1, none⟩ = some (.int .i64 (K : Int)) ∧ v.cell? ⟨bA', oA', none⟩ = some (.int .i64 (K : Int))) := hide (fun v hv => by
    have h01 : ∀ k, k < W0.heap.size → v.heap[k]? = W0.heap[k]? := fun k hk => (hv.block k (by have := HB1.out.size; omega) (by simp; have := HS3.out; omega)).trans (HB1.out.block k hk)
    have h8 : BoxT v w4.heap.size (.slice (some ⟨g1, 0, none⟩) 2 c1) (.slice (some ⟨g2, 0, none⟩) q q) := (hv.block _ (by have := HSZ1.out; omega) (by simp; omega)).trans HT1.out
    have hs := HS0.out
    have k0 : BoxT v w.heap.size (.slice (some ⟨bA, oA, none⟩) 2 c) (.slice (some ⟨bB, oB, none⟩) m d) := (h01 _ (by omega)).trans HX0.out
    have k1 : BoxT v (w.heap.size + 1) (.slice (some ⟨bA', oA', none⟩) 2 c') (.slice (some ⟨bB', oB', none⟩) m' d') := (h01 _ (by omega)).trans HX1.out
    obtain ⟨p1, p2, _, _⟩ := HLB.out v hv
    obtain ⟨b', o', e', _, hx⟩ := byte_at p1 (by omega)
    cases e'
    obtain ⟨b', o', e', _, hx'⟩ := byte_at p2 (by omega)
    cases e'
    have hg : Lies v (some ⟨gs, 0, none⟩) 2 (([(M : Int), (N : Int)] : List Int).map (Value.int .i64)) := grown_lies hv HLS1.out (fun b o e => by cases e; omega)
    obtain ⟨b', o', e', _, hxg⟩ := byte_at hg (by omega)
    cases e'
    exact ⟨h8.c1, k0.c0, k0.c1, k1.c0, k1.c1, hxg 0 (by omega), hxg 1 (by omega), hx 1 (by omega), hx' 0 (by omega)⟩)
  go_wp2_with fail
  clear hW1' hW0'
  go_loopw [10] (fun i wr => ∃ k : Nat, k ≤ M ∧ i = .int .i64 k ∧ Hid (FillAt wr g2 q zs (k * N)) ∧ Hid (W1.grownBy wr (some g2))) (fun i _ => M - (intOf i).toNat)
  case atStart => exact ⟨0, Nat.zero_le _, rfl, hide (by rw [Nat.zero_mul]; exact HF1.out), hide (World.grownBy.refl _ _)⟩
  case round =>
    obtain ⟨i, hi, rfl, HFF, HG⟩ := hrel
    obtain ⟨t1, a0, a1, b0, b1, s0, s1, ak, bk⟩ := HF.out _ HG.out
    by_cases hlti : i < M
    · have h3 : (i : Int) < (M : Int) := by omega
      go_wp2_with fail
      clear t1 a0 a1 b0 b1 s0 s1 ak bk
      go_loopw [11] (fun jv wr => ∃ k : Nat, k ≤ N ∧ jv = .int .i64 k ∧ Hid (FillAt wr g2 q zs (i * N + k)) ∧ Hid (W1.grownBy wr (some g2))) (fun jv _ => N - (intOf jv).toNat)
      case atStart => exact ⟨0, Nat.zero_le _, rfl, HFF, HG⟩
      case round =>
        clear HFF HG
        obtain ⟨j, hj, rfl, HFF, HG⟩ := hrel
        obtain ⟨t1, a0, a1, b0, b1, s0, s1, ak, bk⟩ := HF.out _ HG.out
        by_cases hltj : j < N
        · have h4 : (j : Int) < (N : Int) := by omega
          go_wp2_with fail
          clear t1 a0 a1 b0 b1 s0 s1 ak bk
          obtain ⟨wm, hwm⟩ : ∃ wm : World, wm = wr := ⟨_, rfl⟩
          rw [← hwm] at HFF HG ⊢
          clear hwm
          go_loopw [12, 13] (fun nv pv wr => ∃ k : Nat, k ≤ K ∧ nv = .int .i32 (dotN l l' K N i j k) ∧ pv = .int .i64 k ∧ Hid (Below wm.heap.size wm wr)) (fun _ pv _ => K - (intOf pv).toNat)
          case atStart => exact ⟨0, Nat.zero_le _, rfl, rfl, hide (Below.refl _ _)⟩
          case round =>
            obtain ⟨p, hp, rfl, rfl, HGB⟩ := hrel
            have HGp : Hid (W1.grownBy wr (some g2)) := hide (grown_trans HG.out (grown_below HGB.out _))
            obtain ⟨t1, a0, a1, b0, b1, s0, s1, ak, bk⟩ := HF.out _ HGp.out
            by_cases hltp : p < K
            · have h5 : (p : Int) < (K : Int) := by omega
              have hmi : i * K + K ≤ m := by rw [HM1.out, ← Nat.succ_mul]; exact Nat.mul_le_mul_right K hlti
              have hmp : p * N + j < m' := by rw [HM2.out]; exact place_lt hltp hltj
              have hm4 : m ≤ 4096 := by rw [HM1.out]; exact hz9
              have hm5 : m' ≤ 4096 := by rw [HM2.out]; exact hz6
              obtain ⟨i1, hi1⟩ : ∃ v, v = i * K := ⟨_, rfl⟩
              obtain ⟨ia, hia⟩ : ∃ v, v = i * K + p := ⟨_, rfl⟩
              obtain ⟨p1, hp1⟩ : ∃ v, v = p * N := ⟨_, rfl⟩
              obtain ⟨ib, hib⟩ : ∃ v, v = p * N + j := ⟨_, rfl⟩
              have m1 : IntKind.i64.wrap ((i : Int) * (K : Int)) = (i1 : Int) := by rw [hi1, Int.natCast_mul, IntKind.wrap_i64, ← Int.natCast_mul]; omega
              have m2 : IntKind.i64.wrap ((i1 : Int) + (p : Int)) = (ia : Int) := by rw [hi1, hia, IntKind.wrap_i64]; omega
              have m3 : IntKind.i64.wrap ((p : Int) * (N : Int)) = (p1 : Int) := by rw [hp1, Int.natCast_mul, IntKind.wrap_i64, ← Int.natCast_mul]; omega
              have m4 : IntKind.i64.wrap ((p1 : Int) + (j : Int)) = (ib : Int) := by rw [hp1, hib, IntKind.wrap_i64]; omega
              have hia1 : (0 : Int) ≤ (ia : Int) := by omega
              have hia2 : (ia : Int) < (m : Int) := by omega
              have hib1 : (0 : Int) ≤ (ib : Int) := by omega
              have hib2 : (ib : Int) < (m' : Int) := by omega
              obtain ⟨x, hx⟩ : ∃ v, v = l.getD ia 0 := ⟨_, rfl⟩
              obtain ⟨y, hy⟩ : ∃ v, v = l'.getD ib 0 := ⟨_, rfl⟩
              obtain ⟨xy, hxy⟩ : ∃ v, v = mul32 x y := ⟨_, rfl⟩
              obtain ⟨s, hs⟩ : ∃ v, v = dotN l l' K N i j p := ⟨_, rfl⟩
              obtain ⟨s2, hs2⟩ : ∃ v, v = add32 s xy := ⟨_, rfl⟩
              have HS2 : Hid (s2 = dotN l l' K N i j (p + 1)) := hide (by rw [hs2, hs, hxy, hx, hy, hia, hib]; rfl)
              have m5 : IntKind.i32.wrap (x * y) = xy := by rw [hxy, mul32, wrap32, IntKind.wrap_i32]
              have m6 : IntKind.i32.wrap (s + xy) = s2 := by rw [hs2, add32, wrap32, IntKind.wrap_i32]
              have HF17 : Hid (∀ v, W1.grownBy v (some g2) → v.cell? ⟨w.heap.size, 1, none⟩ = some (.slice (some ⟨bB, oB, none⟩) m d) ∧ v.cell? ⟨w.heap.size, 0, none⟩ = some (.slice (some ⟨bA, oA, none⟩) 2 c) ∧ v.cell? ⟨bA, oA + 1, none⟩ = some (.int .i64 (K : Int)) ∧ v.cell? ⟨bB, oB + ia, none⟩ = some (.int .i32 x) ∧ v.cell? ⟨w.heap.size + 1, 1, none⟩ = some (.slice (some ⟨bB', oB', none⟩) m' d') ∧ v.cell? ⟨gs, 1, none⟩ = some (.int .i64 (N : Int)) ∧ v.cell? ⟨bB', oB' + ib, none⟩ = some (.int .i32 y)) := hide (fun v hv => by
                obtain ⟨z1, z2, z3, z4, z5, z6, z7, z8, z9⟩ := HF.out v hv
                exact ⟨z3, z2, z8, by rw [hx]; exact HL1.out v hv ia (by omega), z5, z7, by rw [hy]; exact HL2.out v hv ib (by omega)⟩)
              have hg1 : W1.grownBy wr.drew (some g2) := grown_trans HGp.out (grown_below (below_drewN (Below.refl _ wr) 1) _)
              have HBN : Hid (Below wm.heap.size wm wr.drew) := hide (below_drewN HGB.out 1)
              rw [← hs]
              clear hi1 hia hp1 hib hx hy hxy hs hs2 hmi hmp
              go_wp2
              have hS0 : Hid (wr.drew.cell? ⟨w.heap.size, 1, none⟩ = some (.slice (some ⟨bB, oB, none⟩) m d) ∧ wr.drew.cell? ⟨w.heap.size, 0, none⟩ = some (.slice (some ⟨bA, oA, none⟩) 2 c) ∧ wr.drew.cell? ⟨bA, oA + 1, none⟩ = some (.int .i64 (K : Int)) ∧ wr.drew.cell? ⟨bB, oB + ia, none⟩ = some (.int .i32 x) ∧ wr.drew.cell? ⟨w.heap.size + 1, 1, none⟩ = some (.slice (some ⟨bB', oB', none⟩) m' d') ∧ wr.drew.cell? ⟨gs, 1, none⟩ = some (.int .i64 (N : Int)) ∧ wr.drew.cell? ⟨bB', oB' + ib, none⟩ = some (.int .i32 y)) := hide (HF17.out _ hg1)
              refine wp_region_U (fun _ v => v.cell? ⟨w.heap.size, 1, none⟩ = some (.slice (some ⟨bB, oB, none⟩) m d) ∧ v.cell? ⟨w.heap.size, 0, none⟩ = some (.slice (some ⟨bA, oA, none⟩) 2 c) ∧ v.cell? ⟨bA, oA + 1, none⟩ = some (.int .i64 (K : Int)) ∧ v.cell? ⟨bB, oB + ia, none⟩ = some (.int .i32 x) ∧ v.cell? ⟨w.heap.size + 1, 1, none⟩ = some (.slice (some ⟨bB', oB', none⟩) m' d') ∧ v.cell? ⟨gs, 1, none⟩ = some (.int .i64 (N : Int)) ∧ v.cell? ⟨bB', oB' + ib, none⟩ = some (.int .i32 y)) 99 (by kernel_rfl) ?_
              refine wpAnyU_take (i := 0) (oi := { dst := some 62, op := _, type := _, pos := _, after := _, guard := none }) (v := .int .i32 s) rfl (by kernel_rfl) (by kernel_rfl) (by kernel_rfl) (by kernel_rfl) (fun _ _ _ h => h) (yields_take rfl (fun w' hw => by obtain ⟨h1, h2, h3, h4, h5, h6, h7⟩ := hw.const; go_simp)) hS0.out ?_
              simp only [Act.put, List.setIfInBounds_toArray, List.set_cons_zero, List.set_cons_succ]
              refine wpAnyU_take (i := 1) (oi := { dst := some 63, op := _, type := _, pos := _, after := _, guard := none }) (v := .pointer (some ⟨w.heap.size, 1, none⟩)) rfl (by kernel_rfl) (by kernel_rfl) (by kernel_rfl) (by kernel_rfl) (fun _ _ _ h => h) (yields_take rfl (fun w' hw => by obtain ⟨h1, h2, h3, h4, h5, h6, h7⟩ := hw.const; go_simp)) hS0.out ?_
              simp only [Act.put, List.setIfInBounds_toArray, List.set_cons_zero, List.set_cons_succ]
              refine wpAnyU_take (i := 2) (oi := { dst := some 64, op := _, type := _, pos := _, after := _, guard := none }) (v := .slice (some ⟨bB, oB, none⟩) m d) rfl (by kernel_rfl) (by kernel_rfl) (by kernel_rfl) (by kernel_rfl) (fun _ _ _ h => h) (yields_take rfl (fun w' hw => by obtain ⟨h1, h2, h3, h4, h5, h6, h7⟩ := hw.const; go_simp)) hS0.out ?_
              simp only [Act.put, List.setIfInBounds_toArray, List.set_cons_zero, List.set_cons_succ]
              refine wpAnyU_take (i := 3) (oi := { dst := some 65, op := _, type := _, pos := _, after := _, guard := none }) (v := .int .i64 (i : Int)) rfl (by kernel_rfl) (by kernel_rfl) (by kernel_rfl) (by kernel_rfl) (fun _ _ _ h => h) (yields_take rfl (fun w' hw => by obtain ⟨h1, h2, h3, h4, h5, h6, h7⟩ := hw.const; go_simp)) hS0.out ?_
              simp only [Act.put, List.setIfInBounds_toArray, List.set_cons_zero, List.set_cons_succ]
              refine wpAnyU_take (i := 4) (oi := { dst := some 66, op := _, type := _, pos := _, after := _, guard := none }) (v := .pointer (some ⟨w.heap.size, 0, none⟩)) rfl (by kernel_rfl) (by kernel_rfl) (by kernel_rfl) (by kernel_rfl) (fun _ _ _ h => h) (yields_take rfl (fun w' hw => by obtain ⟨h1, h2, h3, h4, h5, h6, h7⟩ := hw.const; go_simp)) hS0.out ?_
              simp only [Act.put, List.setIfInBounds_toArray, List.set_cons_zero, List.set_cons_succ]
              refine wpAnyU_take (i := 5) (oi := { dst := some 67, op := _, type := _, pos := _, after := _, guard := none }) (v := .slice (some ⟨bA, oA, none⟩) 2 c) rfl (by kernel_rfl) (by kernel_rfl) (by kernel_rfl) (by kernel_rfl) (fun _ _ _ h => h) (yields_take rfl (fun w' hw => by obtain ⟨h1, h2, h3, h4, h5, h6, h7⟩ := hw.const; go_simp)) hS0.out ?_
              simp only [Act.put, List.setIfInBounds_toArray, List.set_cons_zero, List.set_cons_succ]
              refine wpAnyU_take (i := 6) (oi := { dst := some 68, op := _, type := _, pos := _, after := _, guard := none }) (v := .pointer (some ⟨bA, oA + 1, none⟩)) rfl (by kernel_rfl) (by kernel_rfl) (by kernel_rfl) (by kernel_rfl) (fun _ _ _ h => h) (yields_take rfl (fun w' hw => by obtain ⟨h1, h2, h3, h4, h5, h6, h7⟩ := hw.const; go_simp)) hS0.out ?_
              simp only [Act.put, List.setIfInBounds_toArray, List.set_cons_zero, List.set_cons_succ]
              refine wpAnyU_take (i := 7) (oi := { dst := some 69, op := _, type := _, pos := _, after := _, guard := none }) (v := .int .i64 (K : Int)) rfl (by kernel_rfl) (by kernel_rfl) (by kernel_rfl) (by kernel_rfl) (fun _ _ _ h => h) (yields_take rfl (fun w' hw => by obtain ⟨h1, h2, h3, h4, h5, h6, h7⟩ := hw.const; go_simp)) hS0.out ?_
              simp only [Act.put, List.setIfInBounds_toArray, List.set_cons_zero, List.set_cons_succ]
              refine wpAnyU_take (i := 8) (oi := { dst := some 70, op := _, type := _, pos := _, after := _, guard := none }) (v := .int .i64 (i1 : Int)) rfl (by kernel_rfl) (by kernel_rfl) (by kernel_rfl) (by kernel_rfl) (fun _ _ _ h => h) (yields_take rfl (fun w' hw => by obtain ⟨h1, h2, h3, h4, h5, h6, h7⟩ := hw.const; go_simp)) hS0.out ?_
              simp only [Act.put, List.setIfInBounds_toArray, List.set_cons_zero, List.set_cons_succ]
              refine wpAnyU_take (i := 9) (oi := { dst := some 71, op := _, type := _, pos := _, after := _, guard := none }) (v := .int .i64 (p : Int)) rfl (by kernel_rfl) (by kernel_rfl) (by kernel_rfl) (by kernel_rfl) (fun _ _ _ h => h) (yields_take rfl (fun w' hw => by obtain ⟨h1, h2, h3, h4, h5, h6, h7⟩ := hw.const; go_simp)) hS0.out ?_
              simp only [Act.put, List.setIfInBounds_toArray, List.set_cons_zero, List.set_cons_succ]
              refine wpAnyU_take (i := 10) (oi := { dst := some 72, op := _, type := _, pos := _, after := _, guard := none }) (v := .int .i64 (ia : Int)) rfl (by kernel_rfl) (by kernel_rfl) (by kernel_rfl) (by kernel_rfl) (fun _ _ _ h => h) (yields_take rfl (fun w' hw => by obtain ⟨h1, h2, h3, h4, h5, h6, h7⟩ := hw.const; go_simp)) hS0.out ?_
              simp only [Act.put, List.setIfInBounds_toArray, List.set_cons_zero, List.set_cons_succ]
              refine wpAnyU_take (i := 11) (oi := { dst := some 73, op := _, type := _, pos := _, after := _, guard := none }) (v := .pointer (some ⟨bB, oB + ia, none⟩)) rfl (by kernel_rfl) (by kernel_rfl) (by kernel_rfl) (by kernel_rfl) (fun _ _ _ h => h) (yields_take rfl (fun w' hw => by obtain ⟨h1, h2, h3, h4, h5, h6, h7⟩ := hw.const; go_simp)) hS0.out ?_
              simp only [Act.put, List.setIfInBounds_toArray, List.set_cons_zero, List.set_cons_succ]
              refine wpAnyU_take (i := 12) (oi := { dst := some 74, op := _, type := _, pos := _, after := _, guard := none }) (v := .int .i32 x) rfl (by kernel_rfl) (by kernel_rfl) (by kernel_rfl) (by kernel_rfl) (fun _ _ _ h => h) (yields_take rfl (fun w' hw => by obtain ⟨h1, h2, h3, h4, h5, h6, h7⟩ := hw.const; go_simp)) hS0.out ?_
              simp only [Act.put, List.setIfInBounds_toArray, List.set_cons_zero, List.set_cons_succ]
              refine wpAnyU_take (i := 13) (oi := { dst := some 75, op := _, type := _, pos := _, after := _, guard := none }) (v := .pointer (some ⟨w.heap.size + 1, 1, none⟩)) rfl (by kernel_rfl) (by kernel_rfl) (by kernel_rfl) (by kernel_rfl) (fun _ _ _ h => h) (yields_take rfl (fun w' hw => by obtain ⟨h1, h2, h3, h4, h5, h6, h7⟩ := hw.const; go_simp)) hS0.out ?_
              simp only [Act.put, List.setIfInBounds_toArray, List.set_cons_zero, List.set_cons_succ]
              refine wpAnyU_take (i := 14) (oi := { dst := some 76, op := _, type := _, pos := _, after := _, guard := none }) (v := .slice (some ⟨bB', oB', none⟩) m' d') rfl (by kernel_rfl) (by kernel_rfl) (by kernel_rfl) (by kernel_rfl) (fun _ _ _ h => h) (yields_take rfl (fun w' hw => by obtain ⟨h1, h2, h3, h4, h5, h6, h7⟩ := hw.const; go_simp)) hS0.out ?_
              simp only [Act.put, List.setIfInBounds_toArray, List.set_cons_zero, List.set_cons_succ]
              refine wpAnyU_take (i := 15) (oi := { dst := some 77, op := _, type := _, pos := _, after := _, guard := none }) (v := .int .i64 (p : Int)) rfl (by kernel_rfl) (by kernel_rfl) (by kernel_rfl) (by kernel_rfl) (fun _ _ _ h => h) (yields_take rfl (fun w' hw => by obtain ⟨h1, h2, h3, h4, h5, h6, h7⟩ := hw.const; go_simp)) hS0.out ?_
              simp only [Act.put, List.setIfInBounds_toArray, List.set_cons_zero, List.set_cons_succ]
              refine wpAnyU_take (i := 16) (oi := { dst := some 78, op := _, type := _, pos := _, after := _, guard := none }) (v := .slice (some ⟨gs, 0, none⟩) 2 kc) rfl (by kernel_rfl) (by kernel_rfl) (by kernel_rfl) (by kernel_rfl) (fun _ _ _ h => h) (yields_take rfl (fun w' hw => by obtain ⟨h1, h2, h3, h4, h5, h6, h7⟩ := hw.const; go_simp)) hS0.out ?_
              simp only [Act.put, List.setIfInBounds_toArray, List.set_cons_zero, List.set_cons_succ]
              refine wpAnyU_take (i := 17) (oi := { dst := some 79, op := _, type := _, pos := _, after := _, guard := none }) (v := .pointer (some ⟨gs, 1, none⟩)) rfl (by kernel_rfl) (by kernel_rfl) (by kernel_rfl) (by kernel_rfl) (fun _ _ _ h => h) (yields_take rfl (fun w' hw => by obtain ⟨h1, h2, h3, h4, h5, h6, h7⟩ := hw.const; go_simp)) hS0.out ?_
              simp only [Act.put, List.setIfInBounds_toArray, List.set_cons_zero, List.set_cons_succ]
              refine wpAnyU_take (i := 18) (oi := { dst := some 80, op := _, type := _, pos := _, after := _, guard := none }) (v := .int .i64 (N : Int)) rfl (by kernel_rfl) (by kernel_rfl) (by kernel_rfl) (by kernel_rfl) (fun _ _ _ h => h) (yields_take rfl (fun w' hw => by obtain ⟨h1, h2, h3, h4, h5, h6, h7⟩ := hw.const; go_simp)) hS0.out ?_
              simp only [Act.put, List.setIfInBounds_toArray, List.set_cons_zero, List.set_cons_succ]
              refine wpAnyU_take (i := 19) (oi := { dst := some 81, op := _, type := _, pos := _, after := _, guard := none }) (v := .int .i64 (p1 : Int)) rfl (by kernel_rfl) (by kernel_rfl) (by kernel_rfl) (by kernel_rfl) (fun _ _ _ h => h) (yields_take rfl (fun w' hw => by obtain ⟨h1, h2, h3, h4, h5, h6, h7⟩ := hw.const; go_simp)) hS0.out ?_
              simp only [Act.put, List.setIfInBounds_toArray, List.set_cons_zero, List.set_cons_succ]
              refine wpAnyU_take (i := 20) (oi := { dst := some 82, op := _, type := _, pos := _, after := _, guard := none }) (v := .int .i64 (j : Int)) rfl (by kernel_rfl) (by kernel_rfl) (by kernel_rfl) (by kernel_rfl) (fun _ _ _ h => h) (yields_take rfl (fun w' hw => by obtain ⟨h1, h2, h3, h4, h5, h6, h7⟩ := hw.const; go_simp)) hS0.out ?_
              simp only [Act.put, List.setIfInBounds_toArray, List.set_cons_zero, List.set_cons_succ]
              refine wpAnyU_take (i := 21) (oi := { dst := some 83, op := _, type := _, pos := _, after := _, guard := none }) (v := .int .i64 (ib : Int)) rfl (by kernel_rfl) (by kernel_rfl) (by kernel_rfl) (by kernel_rfl) (fun _ _ _ h => h) (yields_take rfl (fun w' hw => by obtain ⟨h1, h2, h3, h4, h5, h6, h7⟩ := hw.const; go_simp)) hS0.out ?_
              simp only [Act.put, List.setIfInBounds_toArray, List.set_cons_zero, List.set_cons_succ]
              refine wpAnyU_take (i := 22) (oi := { dst := some 84, op := _, type := _, pos := _, after := _, guard := none }) (v := .pointer (some ⟨bB', oB' + ib, none⟩)) rfl (by kernel_rfl) (by kernel_rfl) (by kernel_rfl) (by kernel_rfl) (fun _ _ _ h => h) (yields_take rfl (fun w' hw => by obtain ⟨h1, h2, h3, h4, h5, h6, h7⟩ := hw.const; go_simp)) hS0.out ?_
              simp only [Act.put, List.setIfInBounds_toArray, List.set_cons_zero, List.set_cons_succ]
              refine wpAnyU_take (i := 23) (oi := { dst := some 85, op := _, type := _, pos := _, after := _, guard := none }) (v := .int .i32 y) rfl (by kernel_rfl) (by kernel_rfl) (by kernel_rfl) (by kernel_rfl) (fun _ _ _ h => h) (yields_take rfl (fun w' hw => by obtain ⟨h1, h2, h3, h4, h5, h6, h7⟩ := hw.const; go_simp)) hS0.out ?_
              simp only [Act.put, List.setIfInBounds_toArray, List.set_cons_zero, List.set_cons_succ]
              refine wpAnyU_take (i := 24) (oi := { dst := some 86, op := _, type := _, pos := _, after := _, guard := none }) (v := .int .i32 xy) rfl (by kernel_rfl) (by kernel_rfl) (by kernel_rfl) (by kernel_rfl) (fun _ _ _ h => h) (yields_take rfl (fun w' hw => by obtain ⟨h1, h2, h3, h4, h5, h6, h7⟩ := hw.const; go_simp)) hS0.out ?_
              simp only [Act.put, List.setIfInBounds_toArray, List.set_cons_zero, List.set_cons_succ]
              refine wpAnyU_take (i := 25) (oi := { dst := some 87, op := _, type := _, pos := _, after := _, guard := none }) (v := .int .i32 s2) rfl (by kernel_rfl) (by kernel_rfl) (by kernel_rfl) (by kernel_rfl) (fun _ _ _ h => h) (yields_take rfl (fun w' hw => by obtain ⟨h1, h2, h3, h4, h5, h6, h7⟩ := hw.const; go_simp)) hS0.out ?_
              simp only [Act.put, List.setIfInBounds_toArray, List.set_cons_zero, List.set_cons_succ]
              refine wpAnyU_take (i := 26) (oi := { dst := some 12, op := _, type := _, pos := _, after := _, guard := none }) (v := .int .i32 s2) rfl (by kernel_rfl) (by kernel_rfl) (by kernel_rfl) (by kernel_rfl) (fun _ _ _ h => h) (yields_take rfl (fun w' hw => by obtain ⟨h1, h2, h3, h4, h5, h6, h7⟩ := hw.const; go_simp)) hS0.out ?_
              simp only [Act.put, List.setIfInBounds_toArray, List.set_cons_zero, List.set_cons_succ]
              refine wpAnyU_done (by kernel_rfl) ?_ _
              clear hS0
              clear hg1 t1 a0 a1 b0 b1 s0 s1 ak bk
              go_wp2
              go_roundw
              case rel => exact ⟨p + 1, by omega, by rw [HS2.out], by go_num, HBN⟩
              case measure => simp [intOf]; omega
            · obtain rfl : p = K := by omega
              have h5 : ¬ (p : Int) < (p : Int) := by omega
              obtain ⟨u1, hu1⟩ : ∃ q, q = i * N := ⟨_, rfl⟩
              obtain ⟨q1, hq1⟩ : ∃ q, q = i * N + j := ⟨_, rfl⟩
              have hpl := place_lt hlti hltj
              have hqm : q1 < q := by rw [HQ.out]; omega
              have m1 : IntKind.i64.wrap ((i : Int) * (N : Int)) = (u1 : Int) := by rw [hu1, Int.natCast_mul, IntKind.wrap_i64, ← Int.natCast_mul]; omega
              have m2 : IntKind.i64.wrap ((u1 : Int) + (j : Int)) = (q1 : Int) := by rw [hu1, hq1, IntKind.wrap_i64]; omega
              obtain ⟨z, hz⟩ : ∃ z, z = dotN l l' p N i j p := ⟨_, rfl⟩
              have HZD : Hid (zs.getD q1 0 = z) := hide (by rw [hz, HZ.out, hq1]; exact prodL_at hlti hltj)
              have HFD : Hid (FillAt wr.drew g2 q zs q1) := hide (by rw [hq1]; exact HFF.out.below (below_drewN HGB.out 1))
              have HU := hide hq1
              rw [← hz]
              clear hz hu1 hq1 hpl
              have hi1 : (0 : Int) ≤ (q1 : Int) := by omega
              have hi2 : (q1 : Int) < (q : Int) := by omega
              have hg1 : W1.grownBy wr.drew (some g2) := grown_trans HGp.out (grown_below (below_drewN (Below.refl _ wr) 1) _)
              have HF18 : Hid (∀ v, W1.grownBy v (some g2) → v.cell? ⟨w4.heap.size, 1, none⟩ = some (.slice (some ⟨g2, 0, none⟩) q q) ∧ v.cell? ⟨gs, 1, none⟩ = some (.int .i64 (N : Int))) := hide (fun v hv => by
                obtain ⟨z1, z2, z3, z4, z5, z6, z7, z8, z9⟩ := HF.out v hv
                exact ⟨z1, z7⟩)
              have hs : wr.drew.cell? ⟨g2, q1, none⟩ = some (.int .i32 0) := by have h := HFD.out.cell hqm; rwa [if_neg (by omega)] at h
              have hf : wr.drew.frozen? ⟨g2, q1, none⟩ = false := HFD.out.frozen q1
              go_wp2
              have hS0 : Hid (wr.drew.cell? ⟨w4.heap.size, 1, none⟩ = some (.slice (some ⟨g2, 0, none⟩) q q) ∧ wr.drew.cell? ⟨gs, 1, none⟩ = some (.int .i64 (N : Int))) := hide (HF18.out _ hg1)
              refine wp_region_U (fun _ v => v.cell? ⟨w4.heap.size, 1, none⟩ = some (.slice (some ⟨g2, 0, none⟩) q q) ∧ v.cell? ⟨gs, 1, none⟩ = some (.int .i64 (N : Int))) 99 (by kernel_rfl) ?_
              refine wpAnyU_take (i := 0) (oi := { dst := some 88, op := _, type := _, pos := _, after := _, guard := none }) (v := .pointer (some ⟨w4.heap.size, 1, none⟩)) rfl (by kernel_rfl) (by kernel_rfl) (by kernel_rfl) (by kernel_rfl) (fun _ _ _ h => h) (yields_take rfl (fun w' hw => by obtain ⟨h1, h2⟩ := hw.const; go_simp)) hS0.out ?_
              simp only [Act.put, List.setIfInBounds_toArray, List.set_cons_zero, List.set_cons_succ]
              refine wpAnyU_take (i := 1) (oi := { dst := some 89, op := _, type := _, pos := _, after := _, guard := none }) (v := .slice (some ⟨g2, 0, none⟩) q q) rfl (by kernel_rfl) (by kernel_rfl) (by kernel_rfl) (by kernel_rfl) (fun _ _ _ h => h) (yields_take rfl (fun w' hw => by obtain ⟨h1, h2⟩ := hw.const; go_simp)) hS0.out ?_
              simp only [Act.put, List.setIfInBounds_toArray, List.set_cons_zero, List.set_cons_succ]
              refine wpAnyU_take (i := 2) (oi := { dst := some 90, op := _, type := _, pos := _, after := _, guard := none }) (v := .int .i64 (i : Int)) rfl (by kernel_rfl) (by kernel_rfl) (by kernel_rfl) (by kernel_rfl) (fun _ _ _ h => h) (yields_take rfl (fun w' hw => by obtain ⟨h1, h2⟩ := hw.const; go_simp)) hS0.out ?_
              simp only [Act.put, List.setIfInBounds_toArray, List.set_cons_zero, List.set_cons_succ]
              refine wpAnyU_take (i := 3) (oi := { dst := some 91, op := _, type := _, pos := _, after := _, guard := none }) (v := .slice (some ⟨gs, 0, none⟩) 2 kc) rfl (by kernel_rfl) (by kernel_rfl) (by kernel_rfl) (by kernel_rfl) (fun _ _ _ h => h) (yields_take rfl (fun w' hw => by obtain ⟨h1, h2⟩ := hw.const; go_simp)) hS0.out ?_
              simp only [Act.put, List.setIfInBounds_toArray, List.set_cons_zero, List.set_cons_succ]
              refine wpAnyU_take (i := 4) (oi := { dst := some 92, op := _, type := _, pos := _, after := _, guard := none }) (v := .pointer (some ⟨gs, 1, none⟩)) rfl (by kernel_rfl) (by kernel_rfl) (by kernel_rfl) (by kernel_rfl) (fun _ _ _ h => h) (yields_take rfl (fun w' hw => by obtain ⟨h1, h2⟩ := hw.const; go_simp)) hS0.out ?_
              simp only [Act.put, List.setIfInBounds_toArray, List.set_cons_zero, List.set_cons_succ]
              refine wpAnyU_take (i := 5) (oi := { dst := some 93, op := _, type := _, pos := _, after := _, guard := none }) (v := .int .i64 (N : Int)) rfl (by kernel_rfl) (by kernel_rfl) (by kernel_rfl) (by kernel_rfl) (fun _ _ _ h => h) (yields_take rfl (fun w' hw => by obtain ⟨h1, h2⟩ := hw.const; go_simp)) hS0.out ?_
              simp only [Act.put, List.setIfInBounds_toArray, List.set_cons_zero, List.set_cons_succ]
              refine wpAnyU_take (i := 6) (oi := { dst := some 94, op := _, type := _, pos := _, after := _, guard := none }) (v := .int .i64 (u1 : Int)) rfl (by kernel_rfl) (by kernel_rfl) (by kernel_rfl) (by kernel_rfl) (fun _ _ _ h => h) (yields_take rfl (fun w' hw => by obtain ⟨h1, h2⟩ := hw.const; go_simp)) hS0.out ?_
              simp only [Act.put, List.setIfInBounds_toArray, List.set_cons_zero, List.set_cons_succ]
              refine wpAnyU_take (i := 7) (oi := { dst := some 95, op := _, type := _, pos := _, after := _, guard := none }) (v := .int .i64 (j : Int)) rfl (by kernel_rfl) (by kernel_rfl) (by kernel_rfl) (by kernel_rfl) (fun _ _ _ h => h) (yields_take rfl (fun w' hw => by obtain ⟨h1, h2⟩ := hw.const; go_simp)) hS0.out ?_
              simp only [Act.put, List.setIfInBounds_toArray, List.set_cons_zero, List.set_cons_succ]
              refine wpAnyU_take (i := 8) (oi := { dst := some 96, op := _, type := _, pos := _, after := _, guard := none }) (v := .int .i64 (q1 : Int)) rfl (by kernel_rfl) (by kernel_rfl) (by kernel_rfl) (by kernel_rfl) (fun _ _ _ h => h) (yields_take rfl (fun w' hw => by obtain ⟨h1, h2⟩ := hw.const; go_simp)) hS0.out ?_
              simp only [Act.put, List.setIfInBounds_toArray, List.set_cons_zero, List.set_cons_succ]
              refine wpAnyU_take (i := 9) (oi := { dst := some 97, op := _, type := _, pos := _, after := _, guard := none }) (v := .int .i32 z) rfl (by kernel_rfl) (by kernel_rfl) (by kernel_rfl) (by kernel_rfl) (fun _ _ _ h => h) (yields_take rfl (fun w' hw => by obtain ⟨h1, h2⟩ := hw.const; go_simp)) hS0.out ?_
              simp only [Act.put, List.setIfInBounds_toArray, List.set_cons_zero, List.set_cons_succ]
              refine wpAnyU_take (i := 10) (oi := { dst := some 98, op := _, type := _, pos := _, after := _, guard := none }) (v := .pointer (some ⟨g2, q1, none⟩)) rfl (by kernel_rfl) (by kernel_rfl) (by kernel_rfl) (by kernel_rfl) (fun _ _ _ h => h) (yields_take rfl (fun w' hw => by obtain ⟨h1, h2⟩ := hw.const; go_simp)) hS0.out ?_
              simp only [Act.put, List.setIfInBounds_toArray, List.set_cons_zero, List.set_cons_succ]
              refine wpAnyU_one (i := 11) (by kernel_rfl) rfl ?_
              intro K hK
              go_simp
              have hg3 : W1.grownBy (wr.drew.setCell ⟨g2, q1, none⟩ (.int .i32 z)) (some g2) := grown_trans hg1 (grown_cell6 _ _ _)
              have hS1 : Hid ((wr.drew.setCell ⟨g2, q1, none⟩ (.int .i32 z)).cell? ⟨w4.heap.size, 1, none⟩ = some (.slice (some ⟨g2, 0, none⟩) q q) ∧ (wr.drew.setCell ⟨g2, q1, none⟩ (.int .i32 z)).cell? ⟨gs, 1, none⟩ = some (.int .i64 (N : Int))) := hide (HF18.out _ hg3)
              refine hK.out _ _ hS1.out (fun _ => ?_)
              clear hK K hS0
              refine wpAnyU_done (by kernel_rfl) ?_ _
              clear hS1
              have HNG : Hid (W1.grownBy (wr.drew.setCell ⟨g2, q1, none⟩ (.int .i32 z)) (some g2)) := hide hg3
              have HNF : Hid (FillAt (wr.drew.setCell ⟨g2, q1, none⟩ (.int .i32 z)) g2 q zs (i * N + (j + 1))) := hide (by
                have h := HFD.out.set
                rw [HZD.out] at h
                rw [← Nat.add_assoc, ← HU.out]
                exact h)
              clear hg3 hg1 hs hf t1 a0 a1 b0 b1 s0 s1 ak bk
              go_wp2
              go_roundw
              case rel => exact ⟨j + 1, by omega, by go_num, HNF, HNG⟩
              case measure => simp [intOf]; omega
        · obtain rfl : j = N := by omega
          have h4 : ¬ (j : Int) < (j : Int) := by omega
          have HNF : Hid (FillAt wr g2 q zs ((i + 1) * j)) := hide (by rw [Nat.succ_mul]; exact HFF.out)
          go_wp2
          go_roundw
          case rel => exact ⟨i + 1, by omega, by go_num, HNF, HG⟩
          case measure => simp [intOf]; omega
    · obtain rfl : i = M := by omega
      have h3 : ¬ (i : Int) < (i : Int) := by omega
      have HFE : Hid (FillAt wr g2 q zs q) := hide (by have h := HFF.out; rwa [← HQ.out] at h)
      have hs0 := HS0.out
      have hs1 := HSZ1.out
      have hs3 := HS3.out
      have HTr : Hid (BoxT wr w4.heap.size (.slice (some ⟨g1, 0, none⟩) 2 c1) (.slice (some ⟨g2, 0, none⟩) q q)) := hide ((HG.out.block _ (by omega) (by simp; omega)).trans HT1.out)
      have HRr : Hid (BoxT wr (w.heap.size + 2) (.slice none 0 0) (.slice none 0 0)) := hide ((HG.out.block (w.heap.size + 2) (by have := HB1.out.size; omega) (by simp; omega)).trans ((HB1.out.block _ (by omega)).trans HXR.out))
      clear hs0 hs1
      have t0 := HTr.out.c0
      have r0 := HRr.out.c0
      have r1 := HRr.out.c1
      have rf0 := HRr.out.f0 0
      have rf1 := HRr.out.f0 1
      go_wp2
      (try simp only [Exit.inBlock, Exit.then])
      refine ret_ten (p := 4) (u := 5) rfl rfl (w.heap.size + 2) _ rfl (HRr.out.set2 _ _) rfl ?_
      have hs0 := HS0.out
      have hs1 := HSZ1.out
      have hB1 := HB1.out
      have hB1s := hB1.size
      refine ⟨g1, c1, g2, rfl, ?_, ?_, hne, ?_⟩
      · refine own_base (own_setCell' (own_setCell' (HO1.out.kept (row := some g2) HG.out (.inr (by simp [Value.ownBlock]; omega))) (by dsimp only; omega) _) (by dsimp only; omega) _) (by omega)
      · refine own_setCell' (own_setCell' (HFE.out.own HZL.out (by omega) (by unfold maxLen; omega)) (by dsimp only; omega) _) (by dsimp only; omega) _
      · exact (((HB0.out.trans (hB1.mono HB0.out.size)).trans (below_grown HG.out (by omega) (by omega))).setCell (by dsimp only; omega) _).setCell (by dsimp only; omega) _

/-- Both ways out: what it answers lies in memory of its own. -/
theorem rof_any (A B A' B' : Option Addr) (n c m d n' c' m' d' : Nat) (s l s' l' : List Int) (w : World) (hA : Lies w A n (s.map (Value.int .i64))) (hB : Lies w B m (l.map (Value.int .i32))) (hA' : Lies w A' n' (s'.map (Value.int .i64))) (hB' : Lies w B' m' (l'.map (Value.int .i32))) (hn : n ≤ 281474976710656) (hn' : n' ≤ 281474976710656) :
    Calls Tryz.prog 9 #[tenV A n c B m d, tenV A' n' c' B' m' d'] w fun e w' => ∃ A1 k1 c1 A2 k2 c2, e = .returned (.tuple #[tenV A1 k1 c1 A2 k2 c2, .int .i64 (of7E s m s' m')]) ∧
      w'.ownsRow w.heap.size 3 1 (.slice A1 k1 c1) k1 ((of7S s m s' m').map (Value.int .i64)) ∧ w'.ownsRow w.heap.size 21 1 (.slice A2 k2 c2) k2 ((of7L s m s' m' l l').map (Value.int .i32)) ∧ k1 ≤ 4 ∧ k2 ≤ 4096 ∧ Below w.heap.size w w' := by
  by_cases h : of7E s m s' m' = 0
  · have h0 : tenOk s m = true ∧ tenOk s' m' = true := by
      by_cases h0 : tenOk s m = true ∧ tenOk s' m' = true
      · exact h0
      · rw [of7E, if_neg h0] at h; cases h
    have hE : shp7E s s' = 0 := by rw [of7E, if_pos h0] at h; exact h
    obtain ⟨⟨p1, p2⟩, e1, e2, e3⟩ := shp7E_iff.1 hE
    have hs := list_two e1
    have hs' := list_two e2
    obtain ⟨a, ha⟩ : ∃ a, a = s.getD 0 0 := ⟨_, rfl⟩
    obtain ⟨b, hb⟩ : ∃ b, b = s.getD 1 0 := ⟨_, rfl⟩
    obtain ⟨g, hg⟩ : ∃ g, g = s'.getD 1 0 := ⟨_, rfl⟩
    rw [← ha, ← hb] at hs
    rw [← e3, ← hb, ← hg] at hs'
    subst hs hs'
    clear ha hb hg e1 e2 e3
    obtain ⟨⟨a1, a2⟩, ⟨b1, b2⟩, _⟩ := size_two p1
    obtain ⟨_, ⟨g1, g2⟩, _⟩ := size_two p2
    obtain ⟨M, rfl⟩ := Int.eq_ofNat_of_zero_le (show 0 ≤ a by omega)
    obtain ⟨K, rfl⟩ := Int.eq_ofNat_of_zero_le (show 0 ≤ b by omega)
    obtain ⟨N, rfl⟩ := Int.eq_ofNat_of_zero_le (show 0 ≤ g by omega)
    have en : n = 2 := by have := hA.len; simpa using this.symm
    have en' : n' = 2 := by have := hA'.len; simpa using this.symm
    subst en en'
    refine (rof_ok A B A' B' c m d c' m' d' M K N l l' w hA hB hA' hB' h0.1 h0.2).mono ?_
    rintro e w' ⟨g1, c1, g2, rfl, ho1, ho2, hne, hb⟩
    obtain ⟨_, _, hz⟩ := two_size (M := M) (N := N) (by omega) (by omega)
    refine ⟨_, _, _, _, _, _, by rw [h], ?_, ?_, by omega, hz, hb⟩
    · rw [of7S, if_pos h, (shp7_two (M := M) (K := K) (N := N) (by omega) (by omega) (by omega)).2]; exact ho1
    · rw [of7L, if_pos h]; simpa using ho2
  · refine (rof_bad A B A' B' n c m d n' c' m' d' s l s' l' w hA hB hA' hB' hn hn' h).mono ?_
    rintro e w' ⟨rfl, hb⟩
    exact ⟨none, 0, 0, none, 0, 0, rfl, by rw [of7S, if_neg h]; exact World.ownsRow_nil _ _ _ _, by rw [of7L, if_neg h]; exact World.ownsRow_nil _ _ _ _, by omega, by omega, hb⟩

end

section
open Go.RowKit
set_option linter.unusedVariables false
set_option linter.unusedSimpArgs false
set_option maxRecDepth 100000

theorem book_new6 (w : World) {base : Nat} (hb : base ≤ w.heap.size) : BkAt (w.alloc (.cells #[Value.int .i64 0, Value.slice none 0 0, Value.slice none 0 0, Value.slice none 0 0, Value.slice none 0 0, Value.slice none 0 0, Value.slice none 0 0, Value.slice none 0 0, Value.slice none 0 0, Value.slice none 0 0, Value.slice none 0 0, Value.slice none 0 0, Value.slice none 0 0, Value.slice none 0 0, Value.slice none 0 0, Value.slice none 0 0] 54)) w.heap.size base 0 none 0 [] none 0 [] none 0 [] :=
  ⟨heap_alloc_new w _, World.ownsRow_nil _ _ _ _, ⟨fun i t ht => by simp at ht, fun i j t u _ ht => by simp at ht⟩, Nat.le_refl _, fun i t ht => by simp at ht,
    World.ownsRow_nil _ _ _ _, ⟨fun i t ht => by simp at ht, fun i j t u _ ht => by simp at ht⟩, Nat.le_refl _, fun i t ht => by simp at ht,
    World.ownsRow_nil _ _ _ _, ⟨fun i t ht => by simp at ht, fun i j t u _ ht => by simp at ht⟩, Nat.le_refl _, fun i t ht => by simp at ht, by simp; omega, hb, by omega⟩

theorem tsz_nn7 (n m : Nat) : 0 ≤ (tsz n m : Int) := by omega

theorem tsz_hi7 {n m N : Nat} (hn : n ≤ N) (hm : m ≤ N) : (tsz n m : Int) ≤ 1 + 2 * N := by unfold tsz; split <;> omega

theorem tsz_lo7 {n m : Nat} (h : tsz n m ≤ 1048576) : n ≤ 1048576 ∧ m ≤ 1048576 := by unfold tsz at h; split at h <;> omega

/-- Its block is made ahead of N; behind N. -/
def Bef (v : Value) (N : Nat) : Prop := ∀ g, v.ownBlock = some g → g < N

def Aft (v : Value) (N : Nat) : Prop := ∀ g, v.ownBlock = some g → N ≤ g

theorem Bef.le {v : Value} {N M : Nat} (h : Bef v N) (hN : N ≤ M) : Bef v M := fun g hg => Nat.lt_of_lt_of_le (h g hg) hN

theorem bef_of {w : World} {base : Nat} {e : TypeId} {v : Value} {n : Nat} {xs : List Value} (h : w.ownsRow base e 1 v n xs) : Bef v w.heap.size := fun g hg => (h.lt g hg).2

theorem aft_of {w : World} {base : Nat} {e : TypeId} {v : Value} {n : Nat} {xs : List Value} (h : w.ownsRow base e 1 v n xs) : Aft v base := fun g hg => (h.lt g hg).1

theorem apart_ba {x : It} {v : Value} {N : Nat} (h1 : Bef x.l N) (h2 : Aft v N) : (x.l.ownBlock = none ∨ x.l.ownBlock ≠ v.ownBlock) ∧ (v.ownBlock = none ∨ v.ownBlock ≠ x.l.ownBlock) := by
  cases hx : x.l.ownBlock with
  | none => exact ⟨.inl rfl, by cases hv : v.ownBlock with
      | none => exact .inl rfl
      | some g => exact .inr (by simp)⟩
  | some a => cases hv : v.ownBlock with
    | none => exact ⟨.inr (by simp), .inl rfl⟩
    | some b =>
      have := h1 a hx
      have := h2 b hv
      exact ⟨.inr (by simp; omega), .inr (by simp; omega)⟩

theorem apart_ab {x : It} {v : Value} {N : Nat} (h1 : Aft x.l N) (h2 : Bef v N) : (x.l.ownBlock = none ∨ x.l.ownBlock ≠ v.ownBlock) ∧ (v.ownBlock = none ∨ v.ownBlock ≠ x.l.ownBlock) := by
  cases hx : x.l.ownBlock with
  | none => exact ⟨.inl rfl, by cases hv : v.ownBlock with
      | none => exact .inl rfl
      | some g => exact .inr (by simp)⟩
  | some a => cases hv : v.ownBlock with
    | none => exact ⟨.inr (by simp), .inl rfl⟩
    | some b =>
      have := h1 a hx
      have := h2 b hv
      exact ⟨.inr (by simp; omega), .inr (by simp; omega)⟩

/-- A tensor in a box, seen by what is there. -/
def TenB (w : World) (p : Nat) (A B : Option Addr) (n c m d : Nat) (s l : List Int) : Prop := BoxT w p (.slice A n c) (.slice B m d) ∧ Lies w A n (s.map (Value.int .i64)) ∧ Lies w B m (l.map (Value.int .i32))

theorem TenB.kept {w : World} {p : Nat} {A B : Option Addr} {n c m d : Nat} {s l : List Int} (h : TenB w p A B n c m d s l) {w' : World} (hb : Below w.heap.size w w') : TenB w' p A B n c m d s l := ⟨h.1.kept hb, h.2.1.below hb, h.2.2.below hb⟩

theorem book_ints (w : World) (B base N : Nat) (HByte : Option Addr) (cByte : Nat) (iByte : List It) (HInt : Option Addr) (cInt : Nat) (iInt : List It) (HNumber : Option Addr) (cNumber : Nat) (iNumber : List It)
    (A : Option Addr) (n c : Nat) (xs : List Value) (h : BkAt w B base N HByte cByte iByte HInt cInt iInt HNumber cNumber iNumber)
    (ho : w.ownsRow base 3 1 (.slice A n c) n xs) (hn : n ≤ 1073741824) (hN : N + 1 ≤ 1048000) (ha : ApartOf iInt (.slice A n c)) :
    Calls Tryz.prog 17 #[.pointer (some ⟨B, 0, none⟩), .slice A n c] w fun e w' => e = .returned (.tuple #[]) ∧
      (∃ H1 c1, BkAt w' B base (N + 1) HByte cByte iByte H1 c1 (iInt ++ [⟨A, n, c, none, 0, 0, N + 1⟩]) HNumber cNumber iNumber) ∧
      KeepT [54, 74] w w' ∧ Below base w w' := by
  have hf := h.few
  have hi := h.manyInt
  refine Calls.mono (add_Int B base N cInt n c HInt A _ iInt w h.blk rfl rfl h.rowInt h.baseW h.baseB (by omega) (by omega)) ?_
  rintro r w1 ⟨rfl, H1, c1, hk⟩
  exact ⟨rfl, ⟨H1, c1, h.addInt hk ho hn (by omega) ha⟩, hk.keep, hk.below⟩

theorem twinI_ex (A : Option Addr) (n c : Nat) (zs : List Int) (w : World) (h : Lies w A n (zs.map (Value.int .i64))) (hn : n ≤ 1073741824) :
    Calls Tryz.prog 7 #[.slice A n c] w fun e w' => ∃ g, e = .returned (.slice (some ⟨g, 0, none⟩) n (n + 1)) ∧
      w'.ownsRow w.heap.size 3 1 (.slice (some ⟨g, 0, none⟩) (n + 1) (n + 1)) (n + 1) (zs.map (Value.int .i64) ++ [.int .i64 77]) ∧ Below w.heap.size w w' :=
  (twin_Ints A n c zs w h hn).mono fun e w' h => ⟨_, h.1, h.2.1, h.2.2⟩

set_option maxHeartbeats 8000000 in
theorem pof7_far (A B A' B' P P' : Option Addr) (n c m d n' c' m' d' e f e' f' : Nat) (s l s' l' xs xs' : List Int) (w : World) (hA : Lies w A n (s.map (Value.int .i64))) (hB : Lies w B m (l.map (Value.int .i32))) (hA' : Lies w A' n' (s'.map (Value.int .i64))) (hB' : Lies w B' m' (l'.map (Value.int .i32))) (hP : Lies w P e (xs.map (Value.int .i64))) (hP' : Lies w P' e' (xs'.map (Value.int .i64)))
    (hn : n ≤ 70368744177664) (hm : m ≤ 70368744177664) (hn' : n' ≤ 70368744177664) (hm' : m' ≤ 70368744177664) (he : e ≤ 70368744177664) (he' : e' ≤ 70368744177664) (hfar : 1048576 < tsz n m + tsz n' m' + e + e') :
    Calls Tryz.prog 3 #[tenV A n c B m d, tenV A' n' c' B' m' d', .agg #[.slice P e f, .slice P' e' f']] w fun r w' => r = .returned (.bool true) ∧ Below w.heap.size w w' := by
  obtain ⟨W0, hW0⟩ : ∃ W0, W0 = ((w.alloc (.cells #[.slice A n c, .slice B m d] 25)).alloc (.cells #[.slice A' n' c', .slice B' m' d'] 25)).alloc (.cells #[.slice P e f, .slice P' e' f'] 26) := ⟨_, rfl⟩
  have HBW : Hid (Below w.heap.size w W0) := hide (by rw [hW0]; exact (((Below.refl w.heap.size w).alloc (Nat.le_refl _) _).alloc (by simp only [World.size_alloc]; omega) _).alloc (by simp only [World.size_alloc]; omega) _)
  have HT_a : Hid (TenB W0 w.heap.size A B n c m d s l) := hide (by rw [hW0]; exact ⟨((BoxT.new w _ _).alloc _).alloc _, ((hA.alloc _).alloc _).alloc _, ((hB.alloc _).alloc _).alloc _⟩)
  have HT_b : Hid (TenB W0 (w.heap.size + 1) A' B' n' c' m' d' s' l') := hide (by
    rw [hW0]
    refine ⟨?_, ((hA'.alloc _).alloc _).alloc _, ((hB'.alloc _).alloc _).alloc _⟩
    have h := (BoxT.new (w.alloc (.cells #[.slice A n c, .slice B m d] 25)) (.slice A' n' c') (.slice B' m' d')).alloc (.cells #[.slice P e f, .slice P' e' f'] 26)
    rwa [World.size_alloc] at h)
  have HARR : Hid (W0.heap[w.heap.size + 2]? = some (.cells #[.slice P e f, .slice P' e' f'] 26 (0, 0))) := hide (by
    rw [hW0]
    have h := heap_alloc_new ((w.alloc (.cells #[.slice A n c, .slice B m d] 25)).alloc (.cells #[.slice A' n' c', .slice B' m' d'] 25)) (.cells #[.slice P e f, .slice P' e' f'] 26)
    rwa [World.size_alloc, World.size_alloc] at h)
  have HL_e : Hid (Lies W0 P e (xs.map (Value.int .i64))) := hide (hP.below HBW.out)
  have HL_f : Hid (Lies W0 P' e' (xs'.map (Value.int .i64))) := hide (hP'.below HBW.out)
  have HL : Hid (l.length = m) := hide (by have := hB.len; simpa using this)
  have HSL : Hid (s.length = n) := hide (by have := hA.len; simpa using this)
  have HL' : Hid (l'.length = m') := hide (by have := hB'.len; simpa using this)
  have HSL' : Hid (s'.length = n') := hide (by have := hA'.len; simpa using this)
  have HXL : Hid (xs.length = e) := hide (by have := hP.len; simpa using this)
  have HXL' : Hid (xs'.length = e') := hide (by have := hP'.len; simpa using this)
  have hW0' := hW0.symm
  clear hW0 hA hB hA' hB' hP hP'
  have hsW := HBW.out.size
  have HBA : Hid (Below W0.heap.size W0 W0) := hide (Below.refl _ _)
  have HK : Hid (∀ v, Below W0.heap.size W0 v → v.cell? ⟨w.heap.size, 0, none⟩ = some (.slice A n c) ∧ v.cell? ⟨w.heap.size, 1, none⟩ = some (.slice B m d) ∧ v.cell? ⟨w.heap.size + 1, 0, none⟩ = some (.slice A' n' c') ∧ v.cell? ⟨w.heap.size + 1, 1, none⟩ = some (.slice B' m' d') ∧ v.cell? ⟨w.heap.size + 2, 0, none⟩ = some (.slice P e f) ∧ v.cell? ⟨w.heap.size + 2, 1, none⟩ = some (.slice P' e' f')) := hide (fun v hv =>
    ⟨(HT_a.out.kept hv).1.c0, (HT_a.out.kept hv).1.c1, (HT_b.out.kept hv).1.c0, (HT_b.out.kept hv).1.c1, cell_of_row _ _ 0 _ _ (0, 0) ((hv.block _ (lt_of_heap HARR.out)).trans HARR.out), cell_of_row _ _ 1 _ _ (0, 0) ((hv.block _ (lt_of_heap HARR.out)).trans HARR.out)⟩)
  have ht0 := tsz_nn7 n m
  have ht0' := tsz_nn7 n' m'
  have ht1 := tsz_hi7 hn hm
  have ht1' := tsz_hi7 hn' hm'
  go_enter Tryz.func3, Tryz.ntmps3
  go_wp2
  have hd0 : Below W0.heap.size W0 W0.drew := below_drewN (Below.refl _ W0) 1
  have hS0 : Hid (W0.drew.cell? ⟨w.heap.size, 0, none⟩ = some (.slice A n c) ∧ W0.drew.cell? ⟨w.heap.size, 1, none⟩ = some (.slice B m d) ∧ W0.drew.cell? ⟨w.heap.size + 1, 0, none⟩ = some (.slice A' n' c') ∧ W0.drew.cell? ⟨w.heap.size + 1, 1, none⟩ = some (.slice B' m' d') ∧ W0.drew.cell? ⟨w.heap.size + 2, 0, none⟩ = some (.slice P e f) ∧ W0.drew.cell? ⟨w.heap.size + 2, 1, none⟩ = some (.slice P' e' f')) := hide (HK.out _ hd0)
  refine wp_region_U (fun _ v => v.cell? ⟨w.heap.size, 0, none⟩ = some (.slice A n c) ∧ v.cell? ⟨w.heap.size, 1, none⟩ = some (.slice B m d) ∧ v.cell? ⟨w.heap.size + 1, 0, none⟩ = some (.slice A' n' c') ∧ v.cell? ⟨w.heap.size + 1, 1, none⟩ = some (.slice B' m' d') ∧ v.cell? ⟨w.heap.size + 2, 0, none⟩ = some (.slice P e f) ∧ v.cell? ⟨w.heap.size + 2, 1, none⟩ = some (.slice P' e' f')) 99 (by kernel_rfl) ?_
  refine wpAnyU_take (i := 0) (oi := { dst := some 20, op := _, type := _, pos := _, after := _, guard := none }) (v := .agg #[.slice A n c, .slice B m d]) rfl (by kernel_rfl) (by kernel_rfl) (by kernel_rfl) (by kernel_rfl) (fun _ _ _ h => h) (yields_take rfl (fun w' hw => by obtain ⟨h1, h2, h3, h4, h5, h6⟩ := hw.const; go_simp)) hS0.out ?_
  simp only [Act.put, List.setIfInBounds_toArray, List.set_cons_zero, List.set_cons_succ]
  refine wpAnyU_take (i := 2) (oi := { dst := some 22, op := _, type := _, pos := _, after := _, guard := none }) (v := .agg #[.slice A' n' c', .slice B' m' d']) rfl (by kernel_rfl) (by kernel_rfl) (by kernel_rfl) (by kernel_rfl) (fun _ _ _ h => h) (yields_take rfl (fun w' hw => by obtain ⟨h1, h2, h3, h4, h5, h6⟩ := hw.const; go_simp)) hS0.out ?_
  simp only [Act.put, List.setIfInBounds_toArray, List.set_cons_zero, List.set_cons_succ]
  refine wpAnyU_take (i := 4) (oi := { dst := some 24, op := _, type := _, pos := _, after := _, guard := none }) (v := .pointer (some ⟨w.heap.size + 2, 0, none⟩)) rfl (by kernel_rfl) (by kernel_rfl) (by kernel_rfl) (by kernel_rfl) (fun _ _ _ h => h) (yields_take rfl (fun w' hw => by obtain ⟨h1, h2, h3, h4, h5, h6⟩ := hw.const; go_simp)) hS0.out ?_
  simp only [Act.put, List.setIfInBounds_toArray, List.set_cons_zero, List.set_cons_succ]
  refine wpAnyU_take (i := 5) (oi := { dst := some 25, op := _, type := _, pos := _, after := _, guard := none }) (v := .slice P e f) rfl (by kernel_rfl) (by kernel_rfl) (by kernel_rfl) (by kernel_rfl) (fun _ _ _ h => h) (yields_take rfl (fun w' hw => by obtain ⟨h1, h2, h3, h4, h5, h6⟩ := hw.const; go_simp)) hS0.out ?_
  simp only [Act.put, List.setIfInBounds_toArray, List.set_cons_zero, List.set_cons_succ]
  refine wpAnyU_take (i := 6) (oi := { dst := some 26, op := _, type := _, pos := _, after := _, guard := none }) (v := .int .i64 (e : Int)) rfl (by kernel_rfl) (by kernel_rfl) (by kernel_rfl) (by kernel_rfl) (fun _ _ _ h => h) (yields_take rfl (fun w' hw => by obtain ⟨h1, h2, h3, h4, h5, h6⟩ := hw.const; go_simp)) hS0.out ?_
  simp only [Act.put, List.setIfInBounds_toArray, List.set_cons_zero, List.set_cons_succ]
  refine wpAnyU_take (i := 7) (oi := { dst := some 27, op := _, type := _, pos := _, after := _, guard := none }) (v := .pointer (some ⟨w.heap.size + 2, 1, none⟩)) rfl (by kernel_rfl) (by kernel_rfl) (by kernel_rfl) (by kernel_rfl) (fun _ _ _ h => h) (yields_take rfl (fun w' hw => by obtain ⟨h1, h2, h3, h4, h5, h6⟩ := hw.const; go_simp)) hS0.out ?_
  simp only [Act.put, List.setIfInBounds_toArray, List.set_cons_zero, List.set_cons_succ]
  refine wpAnyU_take (i := 8) (oi := { dst := some 28, op := _, type := _, pos := _, after := _, guard := none }) (v := .slice P' e' f') rfl (by kernel_rfl) (by kernel_rfl) (by kernel_rfl) (by kernel_rfl) (fun _ _ _ h => h) (yields_take rfl (fun w' hw => by obtain ⟨h1, h2, h3, h4, h5, h6⟩ := hw.const; go_simp)) hS0.out ?_
  simp only [Act.put, List.setIfInBounds_toArray, List.set_cons_zero, List.set_cons_succ]
  refine wpAnyU_take (i := 9) (oi := { dst := some 29, op := _, type := _, pos := _, after := _, guard := none }) (v := .int .i64 (e' : Int)) rfl (by kernel_rfl) (by kernel_rfl) (by kernel_rfl) (by kernel_rfl) (fun _ _ _ h => h) (yields_take rfl (fun w' hw => by obtain ⟨h1, h2, h3, h4, h5, h6⟩ := hw.const; go_simp)) hS0.out ?_
  simp only [Act.put, List.setIfInBounds_toArray, List.set_cons_zero, List.set_cons_succ]
  refine wpAnyU_one (i := 1) (by kernel_rfl) rfl ?_
  intro K hK
  go_simp
  refine Calls.mono (tsize_any A B n c m d _ (by omega) (by omega)) ?_
  rintro r u1 ⟨rfl, hb⟩
  dsimp only
  have hd1 : Below W0.heap.size W0 u1 := below_nx7 hd0 hb
  clear hb
  have hS1 : Hid (u1.cell? ⟨w.heap.size, 0, none⟩ = some (.slice A n c) ∧ u1.cell? ⟨w.heap.size, 1, none⟩ = some (.slice B m d) ∧ u1.cell? ⟨w.heap.size + 1, 0, none⟩ = some (.slice A' n' c') ∧ u1.cell? ⟨w.heap.size + 1, 1, none⟩ = some (.slice B' m' d') ∧ u1.cell? ⟨w.heap.size + 2, 0, none⟩ = some (.slice P e f) ∧ u1.cell? ⟨w.heap.size + 2, 1, none⟩ = some (.slice P' e' f')) := hide (HK.out _ hd1)
  refine hK.out _ _ hS1.out (fun _ => ?_)
  clear hK K hS0
  refine wpAnyU_one (i := 3) (by kernel_rfl) rfl ?_
  intro K hK
  go_simp
  refine Calls.mono (tsize_any A' B' n' c' m' d' _ (by omega) (by omega)) ?_
  rintro r u2 ⟨rfl, hb⟩
  dsimp only
  have hd2 : Below W0.heap.size W0 u2 := below_nx7 hd1 hb
  clear hb
  have hS2 : Hid (u2.cell? ⟨w.heap.size, 0, none⟩ = some (.slice A n c) ∧ u2.cell? ⟨w.heap.size, 1, none⟩ = some (.slice B m d) ∧ u2.cell? ⟨w.heap.size + 1, 0, none⟩ = some (.slice A' n' c') ∧ u2.cell? ⟨w.heap.size + 1, 1, none⟩ = some (.slice B' m' d') ∧ u2.cell? ⟨w.heap.size + 2, 0, none⟩ = some (.slice P e f) ∧ u2.cell? ⟨w.heap.size + 2, 1, none⟩ = some (.slice P' e' f')) := hide (HK.out _ hd2)
  refine hK.out _ _ hS2.out (fun _ => ?_)
  clear hK K hS1
  refine wpAnyU_one (i := 10) (by kernel_rfl) rfl ?_
  intro K hK
  go_simp
  have hd3 : Below W0.heap.size W0 (u2.alloc (.cells #[.int .i64 (tsz n m : Int), .int .i64 (tsz n' m' : Int), .int .i64 (e : Int), .int .i64 (e' : Int)] 3)) := below_al7 hd2
  have hS3 : Hid ((u2.alloc (.cells #[.int .i64 (tsz n m : Int), .int .i64 (tsz n' m' : Int), .int .i64 (e : Int), .int .i64 (e' : Int)] 3)).cell? ⟨w.heap.size, 0, none⟩ = some (.slice A n c) ∧ (u2.alloc (.cells #[.int .i64 (tsz n m : Int), .int .i64 (tsz n' m' : Int), .int .i64 (e : Int), .int .i64 (e' : Int)] 3)).cell? ⟨w.heap.size, 1, none⟩ = some (.slice B m d) ∧ (u2.alloc (.cells #[.int .i64 (tsz n m : Int), .int .i64 (tsz n' m' : Int), .int .i64 (e : Int), .int .i64 (e' : Int)] 3)).cell? ⟨w.heap.size + 1, 0, none⟩ = some (.slice A' n' c') ∧ (u2.alloc (.cells #[.int .i64 (tsz n m : Int), .int .i64 (tsz n' m' : Int), .int .i64 (e : Int), .int .i64 (e' : Int)] 3)).cell? ⟨w.heap.size + 1, 1, none⟩ = some (.slice B' m' d') ∧ (u2.alloc (.cells #[.int .i64 (tsz n m : Int), .int .i64 (tsz n' m' : Int), .int .i64 (e : Int), .int .i64 (e' : Int)] 3)).cell? ⟨w.heap.size + 2, 0, none⟩ = some (.slice P e f) ∧ (u2.alloc (.cells #[.int .i64 (tsz n m : Int), .int .i64 (tsz n' m' : Int), .int .i64 (e : Int), .int .i64 (e' : Int)] 3)).cell? ⟨w.heap.size + 2, 1, none⟩ = some (.slice P' e' f')) := hide (HK.out _ hd3)
  refine hK.out _ _ hS3.out (fun _ => ?_)
  clear hK K hS2
  refine wpAnyU_one (i := 11) (by kernel_rfl) rfl ?_
  intro K hK
  go_simp
  refine Calls.mono (beyond_yes (some ⟨u2.heap.size, 0, none⟩) 4 4 [(tsz n m : Int), (tsz n' m' : Int), (e : Int), (e' : Int)] _ (lit_lies u2 .i64 [(tsz n m : Int), (tsz n' m' : Int), (e : Int), (e' : Int)] 3) (by intro z hz; simp at hz; omega) (by simp; omega) (by omega)) ?_
  rintro r u3 ⟨rfl, hw3⟩
  dsimp only
  have hd4 : Below W0.heap.size W0 u3 := by rw [← hw3]; exact hd3
  clear hw3
  have hS4 : Hid (u3.cell? ⟨w.heap.size, 0, none⟩ = some (.slice A n c) ∧ u3.cell? ⟨w.heap.size, 1, none⟩ = some (.slice B m d) ∧ u3.cell? ⟨w.heap.size + 1, 0, none⟩ = some (.slice A' n' c') ∧ u3.cell? ⟨w.heap.size + 1, 1, none⟩ = some (.slice B' m' d') ∧ u3.cell? ⟨w.heap.size + 2, 0, none⟩ = some (.slice P e f) ∧ u3.cell? ⟨w.heap.size + 2, 1, none⟩ = some (.slice P' e' f')) := hide (HK.out _ hd4)
  refine hK.out _ _ hS4.out (fun _ => ?_)
  clear hK K hS3
  refine wpAnyU_done (by kernel_rfl) ?_ _
  clear hS4
  clear ht0 ht1 ht0' ht1'
  have hb := hd4
  replace HT_a := hide (HT_a.out.kept hb)
  replace HT_b := hide (HT_b.out.kept hb)
  replace HL_e := hide (HL_e.out.below hb)
  replace HL_f := hide (HL_f.out.below hb)
  replace HBW := hide (HBW.out.trans (hb.mono HBW.out.size))
  replace HBA := hide (below_nx7 HBA.out hb)
  have HZ0 := hide hb.size
  have HWS : Hid (W0.heap.size ≤ u3.heap.size) := hide hd4.size
  clear hb hd0 hd1 hd2 hd3 hd4
  go_wp2
  go_ret
  exact ⟨rfl, HBW.out⟩

set_option maxHeartbeats 8000000 in
theorem pof7_near (A B A' B' P P' : Option Addr) (n c m d n' c' m' d' e f e' f' : Nat) (s l s' l' xs xs' : List Int) (w : World) (hA : Lies w A n (s.map (Value.int .i64))) (hB : Lies w B m (l.map (Value.int .i32))) (hA' : Lies w A' n' (s'.map (Value.int .i64))) (hB' : Lies w B' m' (l'.map (Value.int .i32))) (hP : Lies w P e (xs.map (Value.int .i64))) (hP' : Lies w P' e' (xs'.map (Value.int .i64)))
    (hn : n ≤ 70368744177664) (hm : m ≤ 70368744177664) (hn' : n' ≤ 70368744177664) (hm' : m' ≤ 70368744177664) (he : e ≤ 70368744177664) (he' : e' ≤ 70368744177664) (hfar : tsz n m + tsz n' m' + e + e' ≤ 1048576) :
    Calls Tryz.prog 3 #[tenV A n c B m d, tenV A' n' c' B' m' d', .agg #[.slice P e f, .slice P' e' f']] w fun r w' => r = .returned (.bool true) ∧ Below w.heap.size w w' := by
  obtain ⟨W0, hW0⟩ : ∃ W0, W0 = ((w.alloc (.cells #[.slice A n c, .slice B m d] 25)).alloc (.cells #[.slice A' n' c', .slice B' m' d'] 25)).alloc (.cells #[.slice P e f, .slice P' e' f'] 26) := ⟨_, rfl⟩
  have HBW : Hid (Below w.heap.size w W0) := hide (by rw [hW0]; exact (((Below.refl w.heap.size w).alloc (Nat.le_refl _) _).alloc (by simp only [World.size_alloc]; omega) _).alloc (by simp only [World.size_alloc]; omega) _)
  have HT_a : Hid (TenB W0 w.heap.size A B n c m d s l) := hide (by rw [hW0]; exact ⟨((BoxT.new w _ _).alloc _).alloc _, ((hA.alloc _).alloc _).alloc _, ((hB.alloc _).alloc _).alloc _⟩)
  have HT_b : Hid (TenB W0 (w.heap.size + 1) A' B' n' c' m' d' s' l') := hide (by
    rw [hW0]
    refine ⟨?_, ((hA'.alloc _).alloc _).alloc _, ((hB'.alloc _).alloc _).alloc _⟩
    have h := (BoxT.new (w.alloc (.cells #[.slice A n c, .slice B m d] 25)) (.slice A' n' c') (.slice B' m' d')).alloc (.cells #[.slice P e f, .slice P' e' f'] 26)
    rwa [World.size_alloc] at h)
  have HARR : Hid (W0.heap[w.heap.size + 2]? = some (.cells #[.slice P e f, .slice P' e' f'] 26 (0, 0))) := hide (by
    rw [hW0]
    have h := heap_alloc_new ((w.alloc (.cells #[.slice A n c, .slice B m d] 25)).alloc (.cells #[.slice A' n' c', .slice B' m' d'] 25)) (.cells #[.slice P e f, .slice P' e' f'] 26)
    rwa [World.size_alloc, World.size_alloc] at h)
  have HL_e : Hid (Lies W0 P e (xs.map (Value.int .i64))) := hide (hP.below HBW.out)
  have HL_f : Hid (Lies W0 P' e' (xs'.map (Value.int .i64))) := hide (hP'.below HBW.out)
  have HL : Hid (l.length = m) := hide (by have := hB.len; simpa using this)
  have HSL : Hid (s.length = n) := hide (by have := hA.len; simpa using this)
  have HL' : Hid (l'.length = m') := hide (by have := hB'.len; simpa using this)
  have HSL' : Hid (s'.length = n') := hide (by have := hA'.len; simpa using this)
  have HXL : Hid (xs.length = e) := hide (by have := hP.len; simpa using this)
  have HXL' : Hid (xs'.length = e') := hide (by have := hP'.len; simpa using this)
  have hW0' := hW0.symm
  clear hW0 hA hB hA' hB' hP hP'
  have hsW := HBW.out.size
  have HBA : Hid (Below W0.heap.size W0 W0) := hide (Below.refl _ _)
  have HK : Hid (∀ v, Below W0.heap.size W0 v → v.cell? ⟨w.heap.size, 0, none⟩ = some (.slice A n c) ∧ v.cell? ⟨w.heap.size, 1, none⟩ = some (.slice B m d) ∧ v.cell? ⟨w.heap.size + 1, 0, none⟩ = some (.slice A' n' c') ∧ v.cell? ⟨w.heap.size + 1, 1, none⟩ = some (.slice B' m' d') ∧ v.cell? ⟨w.heap.size + 2, 0, none⟩ = some (.slice P e f) ∧ v.cell? ⟨w.heap.size + 2, 1, none⟩ = some (.slice P' e' f')) := hide (fun v hv =>
    ⟨(HT_a.out.kept hv).1.c0, (HT_a.out.kept hv).1.c1, (HT_b.out.kept hv).1.c0, (HT_b.out.kept hv).1.c1, cell_of_row _ _ 0 _ _ (0, 0) ((hv.block _ (lt_of_heap HARR.out)).trans HARR.out), cell_of_row _ _ 1 _ _ (0, 0) ((hv.block _ (lt_of_heap HARR.out)).trans HARR.out)⟩)
  have ht0 := tsz_nn7 n m
  have ht0' := tsz_nn7 n' m'
  have ht1 := tsz_hi7 hn hm
  have ht1' := tsz_hi7 hn' hm'
  go_enter Tryz.func3, Tryz.ntmps3
  go_wp2
  have hd0 : Below W0.heap.size W0 W0.drew := below_drewN (Below.refl _ W0) 1
  have hS0 : Hid (W0.drew.cell? ⟨w.heap.size, 0, none⟩ = some (.slice A n c) ∧ W0.drew.cell? ⟨w.heap.size, 1, none⟩ = some (.slice B m d) ∧ W0.drew.cell? ⟨w.heap.size + 1, 0, none⟩ = some (.slice A' n' c') ∧ W0.drew.cell? ⟨w.heap.size + 1, 1, none⟩ = some (.slice B' m' d') ∧ W0.drew.cell? ⟨w.heap.size + 2, 0, none⟩ = some (.slice P e f) ∧ W0.drew.cell? ⟨w.heap.size + 2, 1, none⟩ = some (.slice P' e' f')) := hide (HK.out _ hd0)
  refine wp_region_U (fun _ v => v.cell? ⟨w.heap.size, 0, none⟩ = some (.slice A n c) ∧ v.cell? ⟨w.heap.size, 1, none⟩ = some (.slice B m d) ∧ v.cell? ⟨w.heap.size + 1, 0, none⟩ = some (.slice A' n' c') ∧ v.cell? ⟨w.heap.size + 1, 1, none⟩ = some (.slice B' m' d') ∧ v.cell? ⟨w.heap.size + 2, 0, none⟩ = some (.slice P e f) ∧ v.cell? ⟨w.heap.size + 2, 1, none⟩ = some (.slice P' e' f')) 99 (by kernel_rfl) ?_
  refine wpAnyU_take (i := 0) (oi := { dst := some 20, op := _, type := _, pos := _, after := _, guard := none }) (v := .agg #[.slice A n c, .slice B m d]) rfl (by kernel_rfl) (by kernel_rfl) (by kernel_rfl) (by kernel_rfl) (fun _ _ _ h => h) (yields_take rfl (fun w' hw => by obtain ⟨h1, h2, h3, h4, h5, h6⟩ := hw.const; go_simp)) hS0.out ?_
  simp only [Act.put, List.setIfInBounds_toArray, List.set_cons_zero, List.set_cons_succ]
  refine wpAnyU_take (i := 2) (oi := { dst := some 22, op := _, type := _, pos := _, after := _, guard := none }) (v := .agg #[.slice A' n' c', .slice B' m' d']) rfl (by kernel_rfl) (by kernel_rfl) (by kernel_rfl) (by kernel_rfl) (fun _ _ _ h => h) (yields_take rfl (fun w' hw => by obtain ⟨h1, h2, h3, h4, h5, h6⟩ := hw.const; go_simp)) hS0.out ?_
  simp only [Act.put, List.setIfInBounds_toArray, List.set_cons_zero, List.set_cons_succ]
  refine wpAnyU_take (i := 4) (oi := { dst := some 24, op := _, type := _, pos := _, after := _, guard := none }) (v := .pointer (some ⟨w.heap.size + 2, 0, none⟩)) rfl (by kernel_rfl) (by kernel_rfl) (by kernel_rfl) (by kernel_rfl) (fun _ _ _ h => h) (yields_take rfl (fun w' hw => by obtain ⟨h1, h2, h3, h4, h5, h6⟩ := hw.const; go_simp)) hS0.out ?_
  simp only [Act.put, List.setIfInBounds_toArray, List.set_cons_zero, List.set_cons_succ]
  refine wpAnyU_take (i := 5) (oi := { dst := some 25, op := _, type := _, pos := _, after := _, guard := none }) (v := .slice P e f) rfl (by kernel_rfl) (by kernel_rfl) (by kernel_rfl) (by kernel_rfl) (fun _ _ _ h => h) (yields_take rfl (fun w' hw => by obtain ⟨h1, h2, h3, h4, h5, h6⟩ := hw.const; go_simp)) hS0.out ?_
  simp only [Act.put, List.setIfInBounds_toArray, List.set_cons_zero, List.set_cons_succ]
  refine wpAnyU_take (i := 6) (oi := { dst := some 26, op := _, type := _, pos := _, after := _, guard := none }) (v := .int .i64 (e : Int)) rfl (by kernel_rfl) (by kernel_rfl) (by kernel_rfl) (by kernel_rfl) (fun _ _ _ h => h) (yields_take rfl (fun w' hw => by obtain ⟨h1, h2, h3, h4, h5, h6⟩ := hw.const; go_simp)) hS0.out ?_
  simp only [Act.put, List.setIfInBounds_toArray, List.set_cons_zero, List.set_cons_succ]
  refine wpAnyU_take (i := 7) (oi := { dst := some 27, op := _, type := _, pos := _, after := _, guard := none }) (v := .pointer (some ⟨w.heap.size + 2, 1, none⟩)) rfl (by kernel_rfl) (by kernel_rfl) (by kernel_rfl) (by kernel_rfl) (fun _ _ _ h => h) (yields_take rfl (fun w' hw => by obtain ⟨h1, h2, h3, h4, h5, h6⟩ := hw.const; go_simp)) hS0.out ?_
  simp only [Act.put, List.setIfInBounds_toArray, List.set_cons_zero, List.set_cons_succ]
  refine wpAnyU_take (i := 8) (oi := { dst := some 28, op := _, type := _, pos := _, after := _, guard := none }) (v := .slice P' e' f') rfl (by kernel_rfl) (by kernel_rfl) (by kernel_rfl) (by kernel_rfl) (fun _ _ _ h => h) (yields_take rfl (fun w' hw => by obtain ⟨h1, h2, h3, h4, h5, h6⟩ := hw.const; go_simp)) hS0.out ?_
  simp only [Act.put, List.setIfInBounds_toArray, List.set_cons_zero, List.set_cons_succ]
  refine wpAnyU_take (i := 9) (oi := { dst := some 29, op := _, type := _, pos := _, after := _, guard := none }) (v := .int .i64 (e' : Int)) rfl (by kernel_rfl) (by kernel_rfl) (by kernel_rfl) (by kernel_rfl) (fun _ _ _ h => h) (yields_take rfl (fun w' hw => by obtain ⟨h1, h2, h3, h4, h5, h6⟩ := hw.const; go_simp)) hS0.out ?_
  simp only [Act.put, List.setIfInBounds_toArray, List.set_cons_zero, List.set_cons_succ]
  refine wpAnyU_one (i := 1) (by kernel_rfl) rfl ?_
  intro K hK
  go_simp
  refine Calls.mono (tsize_any A B n c m d _ (by omega) (by omega)) ?_
  rintro r u1 ⟨rfl, hb⟩
  dsimp only
  have hd1 : Below W0.heap.size W0 u1 := below_nx7 hd0 hb
  clear hb
  have hS1 : Hid (u1.cell? ⟨w.heap.size, 0, none⟩ = some (.slice A n c) ∧ u1.cell? ⟨w.heap.size, 1, none⟩ = some (.slice B m d) ∧ u1.cell? ⟨w.heap.size + 1, 0, none⟩ = some (.slice A' n' c') ∧ u1.cell? ⟨w.heap.size + 1, 1, none⟩ = some (.slice B' m' d') ∧ u1.cell? ⟨w.heap.size + 2, 0, none⟩ = some (.slice P e f) ∧ u1.cell? ⟨w.heap.size + 2, 1, none⟩ = some (.slice P' e' f')) := hide (HK.out _ hd1)
  refine hK.out _ _ hS1.out (fun _ => ?_)
  clear hK K hS0
  refine wpAnyU_one (i := 3) (by kernel_rfl) rfl ?_
  intro K hK
  go_simp
  refine Calls.mono (tsize_any A' B' n' c' m' d' _ (by omega) (by omega)) ?_
  rintro r u2 ⟨rfl, hb⟩
  dsimp only
  have hd2 : Below W0.heap.size W0 u2 := below_nx7 hd1 hb
  clear hb
  have hS2 : Hid (u2.cell? ⟨w.heap.size, 0, none⟩ = some (.slice A n c) ∧ u2.cell? ⟨w.heap.size, 1, none⟩ = some (.slice B m d) ∧ u2.cell? ⟨w.heap.size + 1, 0, none⟩ = some (.slice A' n' c') ∧ u2.cell? ⟨w.heap.size + 1, 1, none⟩ = some (.slice B' m' d') ∧ u2.cell? ⟨w.heap.size + 2, 0, none⟩ = some (.slice P e f) ∧ u2.cell? ⟨w.heap.size + 2, 1, none⟩ = some (.slice P' e' f')) := hide (HK.out _ hd2)
  refine hK.out _ _ hS2.out (fun _ => ?_)
  clear hK K hS1
  refine wpAnyU_one (i := 10) (by kernel_rfl) rfl ?_
  intro K hK
  go_simp
  have hd3 : Below W0.heap.size W0 (u2.alloc (.cells #[.int .i64 (tsz n m : Int), .int .i64 (tsz n' m' : Int), .int .i64 (e : Int), .int .i64 (e' : Int)] 3)) := below_al7 hd2
  have hS3 : Hid ((u2.alloc (.cells #[.int .i64 (tsz n m : Int), .int .i64 (tsz n' m' : Int), .int .i64 (e : Int), .int .i64 (e' : Int)] 3)).cell? ⟨w.heap.size, 0, none⟩ = some (.slice A n c) ∧ (u2.alloc (.cells #[.int .i64 (tsz n m : Int), .int .i64 (tsz n' m' : Int), .int .i64 (e : Int), .int .i64 (e' : Int)] 3)).cell? ⟨w.heap.size, 1, none⟩ = some (.slice B m d) ∧ (u2.alloc (.cells #[.int .i64 (tsz n m : Int), .int .i64 (tsz n' m' : Int), .int .i64 (e : Int), .int .i64 (e' : Int)] 3)).cell? ⟨w.heap.size + 1, 0, none⟩ = some (.slice A' n' c') ∧ (u2.alloc (.cells #[.int .i64 (tsz n m : Int), .int .i64 (tsz n' m' : Int), .int .i64 (e : Int), .int .i64 (e' : Int)] 3)).cell? ⟨w.heap.size + 1, 1, none⟩ = some (.slice B' m' d') ∧ (u2.alloc (.cells #[.int .i64 (tsz n m : Int), .int .i64 (tsz n' m' : Int), .int .i64 (e : Int), .int .i64 (e' : Int)] 3)).cell? ⟨w.heap.size + 2, 0, none⟩ = some (.slice P e f) ∧ (u2.alloc (.cells #[.int .i64 (tsz n m : Int), .int .i64 (tsz n' m' : Int), .int .i64 (e : Int), .int .i64 (e' : Int)] 3)).cell? ⟨w.heap.size + 2, 1, none⟩ = some (.slice P' e' f')) := hide (HK.out _ hd3)
  refine hK.out _ _ hS3.out (fun _ => ?_)
  clear hK K hS2
  refine wpAnyU_one (i := 11) (by kernel_rfl) rfl ?_
  intro K hK
  go_simp
  refine Calls.mono (beyond_no (some ⟨u2.heap.size, 0, none⟩) 4 4 [(tsz n m : Int), (tsz n' m' : Int), (e : Int), (e' : Int)] _ (lit_lies u2 .i64 [(tsz n m : Int), (tsz n' m' : Int), (e : Int), (e' : Int)] 3) (by intro z hz; simp at hz; omega) (by simp; omega) (by omega)) ?_
  rintro r u3 ⟨rfl, hw3⟩
  dsimp only
  have hd4 : Below W0.heap.size W0 u3 := by rw [← hw3]; exact hd3
  clear hw3
  have hS4 : Hid (u3.cell? ⟨w.heap.size, 0, none⟩ = some (.slice A n c) ∧ u3.cell? ⟨w.heap.size, 1, none⟩ = some (.slice B m d) ∧ u3.cell? ⟨w.heap.size + 1, 0, none⟩ = some (.slice A' n' c') ∧ u3.cell? ⟨w.heap.size + 1, 1, none⟩ = some (.slice B' m' d') ∧ u3.cell? ⟨w.heap.size + 2, 0, none⟩ = some (.slice P e f) ∧ u3.cell? ⟨w.heap.size + 2, 1, none⟩ = some (.slice P' e' f')) := hide (HK.out _ hd4)
  refine hK.out _ _ hS4.out (fun _ => ?_)
  clear hK K hS3
  refine wpAnyU_done (by kernel_rfl) ?_ _
  clear hS4
  clear ht0 ht1 ht0' ht1'
  have hb := hd4
  replace HT_a := hide (HT_a.out.kept hb)
  replace HT_b := hide (HT_b.out.kept hb)
  replace HL_e := hide (HL_e.out.below hb)
  replace HL_f := hide (HL_f.out.below hb)
  replace HBW := hide (HBW.out.trans (hb.mono HBW.out.size))
  replace HBA := hide (below_nx7 HBA.out hb)
  have HZ0 := hide hb.size
  have HWS : Hid (W0.heap.size ≤ u3.heap.size) := hide hd4.size
  clear hb hd0 hd1 hd2 hd3 hd4
  obtain ⟨hn2, hm2⟩ := tsz_lo7 (n := n) (m := m) (by omega)
  obtain ⟨hn2', hm2'⟩ := tsz_lo7 (n := n') (m := m') (by omega)
  have he2 : e ≤ 1048576 := by omega
  have he2' : e' ≤ 1048576 := by omega
  clear hfar
  obtain ⟨E, hE⟩ : ∃ E, E = of7E s m s' m' := ⟨_, rfl⟩
  have HE := hide hE
  obtain ⟨E2, hE2⟩ : ∃ E, E = shp7E xs xs' := ⟨_, rfl⟩
  have HE2 := hide hE2
  clear hE hE2
  have cxa0 := HT_a.out.1.c0
  have cxa1 := HT_a.out.1.c1
  go_wp2_with fail
  refine Calls.mono (twinT_any A B n c m d s l _ HT_a.out.2.1 HT_a.out.2.2 (by omega) (by omega)) ?_
  rintro r u4 ⟨g1t, g2t, rfl, ho1, ho2, hnet, hb0⟩
  obtain ⟨V5, hV5⟩ : ∃ W, W = u4.alloc (.cells #[.slice (some ⟨g1t, 0, none⟩) n (n + 1), .slice (some ⟨g2t, 0, none⟩) m (m + 1)] 25) := ⟨_, rfl⟩
  have hb : Below u3.heap.size u3 V5 := by rw [hV5]; exact below_al7 hb0
  have hsvV5 : V5.heap.size = u4.heap.size + 1 := by rw [hV5]; simp
  have HSVV5 := hide hsvV5
  clear hsvV5
  have hw0 := HBW.out.size
  have hq1 := own_part ho1 (n := n) (by simp [HSL.out]) (by omega)
  have hq2 := own_part ho2 (n := m) (by simp [HL.out]) (by omega)
  have HT_t : Hid (TenB V5 u4.heap.size (some ⟨g1t, 0, none⟩) (some ⟨g2t, 0, none⟩) n (n + 1) m (m + 1) s l) := hide (by rw [hV5]; exact ⟨BoxT.new _ _ _, (lies_of_own hq1).alloc _, (lies_of_own hq2).alloc _⟩)
  have HOS_t : Hid (V5.ownsRow W0.heap.size 3 1 (.slice (some ⟨g1t, 0, none⟩) (n + 1) (n + 1)) (n + 1) (s.map (Value.int .i64) ++ [.int .i64 77])) := hide (by rw [hV5]; exact own_base (ho1.alloc _) HWS.out)
  have HON_t : Hid (V5.ownsRow W0.heap.size 21 1 (.slice (some ⟨g2t, 0, none⟩) (m + 1) (m + 1)) (m + 1) (l.map (Value.int .i32) ++ [.int .i32 77])) := hide (by rw [hV5]; exact own_base (ho2.alloc _) HWS.out)
  have HBS_t : Hid (Bef (.slice (some ⟨g1t, 0, none⟩) n (n + 1)) u4.heap.size) := hide (bef_of hq1)
  have HBN_t : Hid (Bef (.slice (some ⟨g2t, 0, none⟩) m (m + 1)) u4.heap.size) := hide (bef_of hq2)
  have HAS_t : Hid (Aft (.slice (some ⟨g1t, 0, none⟩) n (n + 1)) u3.heap.size) := hide (aft_of hq1)
  have HAN_t : Hid (Aft (.slice (some ⟨g2t, 0, none⟩) m (m + 1)) u3.heap.size) := hide (aft_of hq2)
  replace HT_a := hide (HT_a.out.kept hb)
  replace HT_b := hide (HT_b.out.kept hb)
  replace HL_e := hide (HL_e.out.below hb)
  replace HL_f := hide (HL_f.out.below hb)
  replace HBW := hide (HBW.out.trans (hb.mono HBW.out.size))
  replace HBA := hide (below_nx7 HBA.out hb)
  have HZ2 := hide hb.size
  have hV5' := hV5.symm
  clear cxa0 cxa1 hV5 hb hb0 ho1 ho2 hq1 hq2 hw0
  replace HWS : Hid (W0.heap.size ≤ V5.heap.size) := hide (by have h1 := HWS.out; have h2 := HZ2.out; omega)
  have cxb0 := HT_b.out.1.c0
  have cxb1 := HT_b.out.1.c1
  go_wp2_with fail
  refine Calls.mono (twinT_any A' B' n' c' m' d' s' l' _ HT_b.out.2.1 HT_b.out.2.2 (by omega) (by omega)) ?_
  rintro r u6 ⟨g1u, g2u, rfl, ho1, ho2, hneu, hb0⟩
  obtain ⟨V7, hV7⟩ : ∃ W, W = u6.alloc (.cells #[.slice (some ⟨g1u, 0, none⟩) n' (n' + 1), .slice (some ⟨g2u, 0, none⟩) m' (m' + 1)] 25) := ⟨_, rfl⟩
  have hb : Below V5.heap.size V5 V7 := by rw [hV7]; exact below_al7 hb0
  have hsvV7 : V7.heap.size = u6.heap.size + 1 := by rw [hV7]; simp
  have HSVV7 := hide hsvV7
  clear hsvV7
  have hw0 := HBW.out.size
  have hq1 := own_part ho1 (n := n') (by simp [HSL'.out]) (by omega)
  have hq2 := own_part ho2 (n := m') (by simp [HL'.out]) (by omega)
  have HT_u : Hid (TenB V7 u6.heap.size (some ⟨g1u, 0, none⟩) (some ⟨g2u, 0, none⟩) n' (n' + 1) m' (m' + 1) s' l') := hide (by rw [hV7]; exact ⟨BoxT.new _ _ _, (lies_of_own hq1).alloc _, (lies_of_own hq2).alloc _⟩)
  have HOS_u : Hid (V7.ownsRow W0.heap.size 3 1 (.slice (some ⟨g1u, 0, none⟩) (n' + 1) (n' + 1)) (n' + 1) (s'.map (Value.int .i64) ++ [.int .i64 77])) := hide (by rw [hV7]; exact own_base (ho1.alloc _) HWS.out)
  have HON_u : Hid (V7.ownsRow W0.heap.size 21 1 (.slice (some ⟨g2u, 0, none⟩) (m' + 1) (m' + 1)) (m' + 1) (l'.map (Value.int .i32) ++ [.int .i32 77])) := hide (by rw [hV7]; exact own_base (ho2.alloc _) HWS.out)
  have HBS_u : Hid (Bef (.slice (some ⟨g1u, 0, none⟩) n' (n' + 1)) u6.heap.size) := hide (bef_of hq1)
  have HBN_u : Hid (Bef (.slice (some ⟨g2u, 0, none⟩) m' (m' + 1)) u6.heap.size) := hide (bef_of hq2)
  have HAS_u : Hid (Aft (.slice (some ⟨g1u, 0, none⟩) n' (n' + 1)) V5.heap.size) := hide (aft_of hq1)
  have HAN_u : Hid (Aft (.slice (some ⟨g2u, 0, none⟩) m' (m' + 1)) V5.heap.size) := hide (aft_of hq2)
  replace HT_a := hide (HT_a.out.kept hb)
  replace HT_b := hide (HT_b.out.kept hb)
  replace HT_t := hide (HT_t.out.kept hb)
  replace HOS_t := hide (own_below HOS_t.out hb)
  replace HON_t := hide (own_below HON_t.out hb)
  replace HL_e := hide (HL_e.out.below hb)
  replace HL_f := hide (HL_f.out.below hb)
  replace HBW := hide (HBW.out.trans (hb.mono HBW.out.size))
  replace HBA := hide (below_nx7 HBA.out hb)
  have HZ4 := hide hb.size
  have hV7' := hV7.symm
  clear cxb0 cxb1 hV7 hb hb0 ho1 ho2 hq1 hq2 hw0
  replace HWS : Hid (W0.heap.size ≤ V7.heap.size) := hide (by have h1 := HWS.out; have h2 := HZ4.out; omega)
  obtain ⟨_, _, _, _, ce0, ce1⟩ := HK.out _ HBA.out
  go_wp2_with fail
  refine Calls.mono (twinI_ex P e f xs _ HL_e.out (by omega)) ?_
  rintro r u8 ⟨gip, rfl, ho1, hb⟩
  have hw0 := HBW.out.size
  have hq1 := own_part ho1 (n := e) (by simp [HXL.out]) (by omega)
  have HL_p : Hid (Lies u8 (some ⟨gip, 0, none⟩) e (xs.map (Value.int .i64))) := hide (lies_of_own hq1)
  have HOI_p : Hid (u8.ownsRow W0.heap.size 3 1 (.slice (some ⟨gip, 0, none⟩) (e + 1) (e + 1)) (e + 1) (xs.map (Value.int .i64) ++ [.int .i64 77])) := hide (own_base ho1 HWS.out)
  have HBI_p : Hid (Bef (.slice (some ⟨gip, 0, none⟩) e (e + 1)) u8.heap.size) := hide (bef_of hq1)
  have HAI_p : Hid (Aft (.slice (some ⟨gip, 0, none⟩) e (e + 1)) V7.heap.size) := hide (aft_of hq1)
  replace HT_a := hide (HT_a.out.kept hb)
  replace HT_b := hide (HT_b.out.kept hb)
  replace HT_t := hide (HT_t.out.kept hb)
  replace HT_u := hide (HT_u.out.kept hb)
  replace HOS_t := hide (own_below HOS_t.out hb)
  replace HON_t := hide (own_below HON_t.out hb)
  replace HOS_u := hide (own_below HOS_u.out hb)
  replace HON_u := hide (own_below HON_u.out hb)
  replace HL_e := hide (HL_e.out.below hb)
  replace HL_f := hide (HL_f.out.below hb)
  replace HBW := hide (HBW.out.trans (hb.mono HBW.out.size))
  replace HBA := hide (below_nx7 HBA.out hb)
  have HZ5 := hide hb.size
  clear ce0 ce1 hb ho1 hq1 hw0
  replace HWS : Hid (W0.heap.size ≤ u8.heap.size) := hide (by have h1 := HWS.out; have h2 := HZ5.out; omega)
  obtain ⟨_, _, _, _, ce0, ce1⟩ := HK.out _ HBA.out
  go_wp2_with fail
  refine Calls.mono (twinI_ex P' e' f' xs' _ HL_f.out (by omega)) ?_
  rintro r u9 ⟨giq, rfl, ho1, hb⟩
  have hw0 := HBW.out.size
  have hq1 := own_part ho1 (n := e') (by simp [HXL'.out]) (by omega)
  have HL_q : Hid (Lies u9 (some ⟨giq, 0, none⟩) e' (xs'.map (Value.int .i64))) := hide (lies_of_own hq1)
  have HOI_q : Hid (u9.ownsRow W0.heap.size 3 1 (.slice (some ⟨giq, 0, none⟩) (e' + 1) (e' + 1)) (e' + 1) (xs'.map (Value.int .i64) ++ [.int .i64 77])) := hide (own_base ho1 HWS.out)
  have HBI_q : Hid (Bef (.slice (some ⟨giq, 0, none⟩) e' (e' + 1)) u9.heap.size) := hide (bef_of hq1)
  have HAI_q : Hid (Aft (.slice (some ⟨giq, 0, none⟩) e' (e' + 1)) u8.heap.size) := hide (aft_of hq1)
  replace HT_a := hide (HT_a.out.kept hb)
  replace HT_b := hide (HT_b.out.kept hb)
  replace HT_t := hide (HT_t.out.kept hb)
  replace HT_u := hide (HT_u.out.kept hb)
  replace HOS_t := hide (own_below HOS_t.out hb)
  replace HON_t := hide (own_below HON_t.out hb)
  replace HOS_u := hide (own_below HOS_u.out hb)
  replace HON_u := hide (own_below HON_u.out hb)
  replace HL_e := hide (HL_e.out.below hb)
  replace HL_f := hide (HL_f.out.below hb)
  replace HL_p := hide (HL_p.out.below hb)
  replace HOI_p := hide (own_below HOI_p.out hb)
  replace HBW := hide (HBW.out.trans (hb.mono HBW.out.size))
  replace HBA := hide (below_nx7 HBA.out hb)
  have HZ6 := hide hb.size
  clear ce0 ce1 hb ho1 hq1 hw0
  replace HWS : Hid (W0.heap.size ≤ u9.heap.size) := hide (by have h1 := HWS.out; have h2 := HZ6.out; omega)
  have cxt0 := HT_t.out.1.c0
  have cxt1 := HT_t.out.1.c1
  have cxu0 := HT_u.out.1.c0
  have cxu1 := HT_u.out.1.c1
  go_wp2_with fail
  refine Calls.mono (pof_own (some ⟨g1t, 0, none⟩) (some ⟨g2t, 0, none⟩) (some ⟨g1u, 0, none⟩) (some ⟨g2u, 0, none⟩) n (n + 1) m (m + 1) n' (n' + 1) m' (m' + 1) s l s' l' _ HT_t.out.2.1 HT_t.out.2.2 HT_u.out.2.1 HT_u.out.2.2 (by omega) (by omega)) ?_
  rw [← HE.out]
  rintro r u10 ⟨A1x, k1x, c1x, A2x, k2x, c2x, rfl, ho1, ho2, hk1x, hk2x, hb0⟩
  obtain ⟨V11, hV11⟩ : ∃ W, W = u10.alloc (.cells #[.slice A1x k1x c1x, .slice A2x k2x c2x] 25) := ⟨_, rfl⟩
  have hb : Below u9.heap.size u9 V11 := by rw [hV11]; exact below_al7 hb0
  have hsvV11 : V11.heap.size = u10.heap.size + 1 := by rw [hV11]; simp
  have HSVV11 := hide hsvV11
  clear hsvV11
  have HT_x : Hid (TenB V11 u10.heap.size A1x A2x k1x c1x k2x c2x (of7S s m s' m') (of7L s m s' m' l l')) := hide (by rw [hV11]; exact ⟨BoxT.new _ _ _, (lies_of_own ho1).alloc _, (lies_of_own ho2).alloc _⟩)
  have hl1x : (of7S s m s' m').length = k1x := by have := ho1.1; simpa using this
  have hl2x : (of7L s m s' m' l l').length = k2x := by have := ho2.1; simpa using this
  have HOS_x : Hid (V11.ownsRow W0.heap.size 3 1 (.slice A1x k1x c1x) k1x ((of7S s m s' m').map (Value.int .i64))) := hide (by rw [hV11]; exact own_base (ho1.alloc _) HWS.out)
  have HON_x : Hid (V11.ownsRow W0.heap.size 21 1 (.slice A2x k2x c2x) k2x ((of7L s m s' m' l l').map (Value.int .i32))) := hide (by rw [hV11]; exact own_base (ho2.alloc _) HWS.out)
  have HBS_x := hide (bef_of ho1)
  have HBN_x := hide (bef_of ho2)
  have HAS_x := hide (aft_of ho1)
  have HAN_x := hide (aft_of ho2)
  replace HT_a := hide (HT_a.out.kept hb)
  replace HT_b := hide (HT_b.out.kept hb)
  replace HT_t := hide (HT_t.out.kept hb)
  replace HT_u := hide (HT_u.out.kept hb)
  replace HOS_t := hide (own_below HOS_t.out hb)
  replace HON_t := hide (own_below HON_t.out hb)
  replace HOS_u := hide (own_below HOS_u.out hb)
  replace HON_u := hide (own_below HON_u.out hb)
  replace HL_e := hide (HL_e.out.below hb)
  replace HL_f := hide (HL_f.out.below hb)
  replace HL_p := hide (HL_p.out.below hb)
  replace HOI_p := hide (own_below HOI_p.out hb)
  replace HL_q := hide (HL_q.out.below hb)
  replace HOI_q := hide (own_below HOI_q.out hb)
  replace HBW := hide (HBW.out.trans (hb.mono HBW.out.size))
  replace HBA := hide (below_nx7 HBA.out hb)
  have HZ8 := hide hb.size
  have hV11' := hV11.symm
  clear cxt0 cxt1 cxu0 cxu1 hV11 hb hb0 ho1 ho2
  replace HWS : Hid (W0.heap.size ≤ V11.heap.size) := hide (by have h1 := HWS.out; have h2 := HZ8.out; omega)
  have cxa0 := HT_a.out.1.c0
  have cxa1 := HT_a.out.1.c1
  have cxb0 := HT_b.out.1.c0
  have cxb1 := HT_b.out.1.c1
  go_wp2_with fail
  refine Calls.mono (rof_any A B A' B' n c m d n' c' m' d' s l s' l' _ HT_a.out.2.1 HT_a.out.2.2 HT_b.out.2.1 HT_b.out.2.2 (by omega) (by omega)) ?_
  rw [← HE.out]
  rintro r u12 ⟨A1y, k1y, c1y, A2y, k2y, c2y, rfl, h1, h2, _, _, hb0⟩
  replace h1 := lies_of_own h1
  replace h2 := lies_of_own h2
  obtain rfl : k1y = k1x := by have := h1.len; simp only [List.length_map] at this; omega
  obtain rfl : k2y = k2x := by have := h2.len; simp only [List.length_map] at this; omega
  obtain ⟨V13, hV13⟩ : ∃ W, W = u12.alloc (.cells #[.slice A1y k1y c1y, .slice A2y k2y c2y] 25) := ⟨_, rfl⟩
  have hb : Below V11.heap.size V11 V13 := by rw [hV13]; exact below_al7 hb0
  have hsvV13 : V13.heap.size = u12.heap.size + 1 := by rw [hV13]; simp
  have HSVV13 := hide hsvV13
  clear hsvV13
  have HT_y : Hid (TenB V13 u12.heap.size A1y A2y k1y c1y k2y c2y (of7S s m s' m') (of7L s m s' m' l l')) := hide (by rw [hV13]; exact ⟨BoxT.new _ _ _, h1.alloc _, h2.alloc _⟩)
  replace HT_a := hide (HT_a.out.kept hb)
  replace HT_b := hide (HT_b.out.kept hb)
  replace HT_t := hide (HT_t.out.kept hb)
  replace HT_u := hide (HT_u.out.kept hb)
  replace HT_x := hide (HT_x.out.kept hb)
  replace HOS_t := hide (own_below HOS_t.out hb)
  replace HON_t := hide (own_below HON_t.out hb)
  replace HOS_u := hide (own_below HOS_u.out hb)
  replace HON_u := hide (own_below HON_u.out hb)
  replace HOS_x := hide (own_below HOS_x.out hb)
  replace HON_x := hide (own_below HON_x.out hb)
  replace HL_e := hide (HL_e.out.below hb)
  replace HL_f := hide (HL_f.out.below hb)
  replace HL_p := hide (HL_p.out.below hb)
  replace HOI_p := hide (own_below HOI_p.out hb)
  replace HL_q := hide (HL_q.out.below hb)
  replace HOI_q := hide (own_below HOI_q.out hb)
  replace HBW := hide (HBW.out.trans (hb.mono HBW.out.size))
  replace HBA := hide (below_nx7 HBA.out hb)
  have HZ10 := hide hb.size
  have hV13' := hV13.symm
  clear cxa0 cxa1 cxb0 cxb1 hV13 hb hb0 h1 h2
  replace HWS : Hid (W0.heap.size ≤ V13.heap.size) := hide (by have h1 := HWS.out; have h2 := HZ10.out; omega)
  go_wp2_with fail
  refine Calls.mono (pshape_any (some ⟨gip, 0, none⟩) (some ⟨giq, 0, none⟩) e (e + 1) e' (e' + 1) xs xs' _ HL_p.out HL_q.out (by omega) (by omega)) ?_
  rw [← HE2.out]
  rintro r u14 ⟨Az, kz, cz, rfl, ho1, hkz, hb⟩
  have hlz : (shp7S xs xs').length = kz := by have := ho1.1; simpa using this
  have HL_z : Hid (Lies u14 Az kz ((shp7S xs xs').map (Value.int .i64))) := hide (lies_of_own ho1)
  have HOI_z : Hid (u14.ownsRow W0.heap.size 3 1 (.slice Az kz cz) kz ((shp7S xs xs').map (Value.int .i64))) := hide (own_base ho1 HWS.out)
  have HBI_z := hide (bef_of ho1)
  have HAI_z := hide (aft_of ho1)
  replace HT_a := hide (HT_a.out.kept hb)
  replace HT_b := hide (HT_b.out.kept hb)
  replace HT_t := hide (HT_t.out.kept hb)
  replace HT_u := hide (HT_u.out.kept hb)
  replace HT_x := hide (HT_x.out.kept hb)
  replace HT_y := hide (HT_y.out.kept hb)
  replace HOS_t := hide (own_below HOS_t.out hb)
  replace HON_t := hide (own_below HON_t.out hb)
  replace HOS_u := hide (own_below HOS_u.out hb)
  replace HON_u := hide (own_below HON_u.out hb)
  replace HOS_x := hide (own_below HOS_x.out hb)
  replace HON_x := hide (own_below HON_x.out hb)
  replace HL_e := hide (HL_e.out.below hb)
  replace HL_f := hide (HL_f.out.below hb)
  replace HL_p := hide (HL_p.out.below hb)
  replace HOI_p := hide (own_below HOI_p.out hb)
  replace HL_q := hide (HL_q.out.below hb)
  replace HOI_q := hide (own_below HOI_q.out hb)
  replace HBW := hide (HBW.out.trans (hb.mono HBW.out.size))
  replace HBA := hide (below_nx7 HBA.out hb)
  have HZ11 := hide hb.size
  clear hb ho1
  replace HWS : Hid (W0.heap.size ≤ u14.heap.size) := hide (by have h1 := HWS.out; have h2 := HZ11.out; omega)
  obtain ⟨_, _, _, _, ce0, ce1⟩ := HK.out _ HBA.out
  go_wp2_with fail
  refine Calls.mono (rshape7_any P P' e f e' f' xs xs' _ HL_e.out HL_f.out (by omega) (by omega)) ?_
  rw [← HE2.out]
  rintro r u15 ⟨Ao, ko, co, rfl, ho1, _, hb⟩
  obtain rfl : ko = kz := by have := ho1.1; simp only [List.length_map] at this; omega
  have HL_o : Hid (Lies u15 Ao ko ((shp7S xs xs').map (Value.int .i64))) := hide (lies_of_own ho1)
  replace HT_a := hide (HT_a.out.kept hb)
  replace HT_b := hide (HT_b.out.kept hb)
  replace HT_t := hide (HT_t.out.kept hb)
  replace HT_u := hide (HT_u.out.kept hb)
  replace HT_x := hide (HT_x.out.kept hb)
  replace HT_y := hide (HT_y.out.kept hb)
  replace HOS_t := hide (own_below HOS_t.out hb)
  replace HON_t := hide (own_below HON_t.out hb)
  replace HOS_u := hide (own_below HOS_u.out hb)
  replace HON_u := hide (own_below HON_u.out hb)
  replace HOS_x := hide (own_below HOS_x.out hb)
  replace HON_x := hide (own_below HON_x.out hb)
  replace HL_e := hide (HL_e.out.below hb)
  replace HL_f := hide (HL_f.out.below hb)
  replace HL_p := hide (HL_p.out.below hb)
  replace HOI_p := hide (own_below HOI_p.out hb)
  replace HL_q := hide (HL_q.out.below hb)
  replace HOI_q := hide (own_below HOI_q.out hb)
  replace HL_z := hide (HL_z.out.below hb)
  replace HOI_z := hide (own_below HOI_z.out hb)
  replace HBW := hide (HBW.out.trans (hb.mono HBW.out.size))
  replace HBA := hide (below_nx7 HBA.out hb)
  have HZ12 := hide hb.size
  clear ce0 ce1 hb ho1
  replace HWS : Hid (W0.heap.size ≤ u15.heap.size) := hide (by have h1 := HWS.out; have h2 := HZ12.out; omega)
  have cxx0 := HT_x.out.1.c0
  have cxx1 := HT_x.out.1.c1
  have cxy0 := HT_y.out.1.c0
  have cxy1 := HT_y.out.1.c1
  go_wp2_with fail
  refine Calls.mono (sameT_yes A1x A2x A1y A2y k1y c1x k2y c2x c1y c2y (of7S s m s' m') (of7L s m s' m' l l') _ HT_x.out.2.1 HT_x.out.2.2 HT_y.out.2.1 HT_y.out.2.2 (by omega) (by omega)) ?_
  rintro r u16 ⟨rfl, hb⟩
  replace HT_a := hide (HT_a.out.kept hb)
  replace HT_b := hide (HT_b.out.kept hb)
  replace HT_t := hide (HT_t.out.kept hb)
  replace HT_u := hide (HT_u.out.kept hb)
  replace HT_x := hide (HT_x.out.kept hb)
  replace HT_y := hide (HT_y.out.kept hb)
  replace HOS_t := hide (own_below HOS_t.out hb)
  replace HON_t := hide (own_below HON_t.out hb)
  replace HOS_u := hide (own_below HOS_u.out hb)
  replace HON_u := hide (own_below HON_u.out hb)
  replace HOS_x := hide (own_below HOS_x.out hb)
  replace HON_x := hide (own_below HON_x.out hb)
  replace HL_e := hide (HL_e.out.below hb)
  replace HL_f := hide (HL_f.out.below hb)
  replace HL_p := hide (HL_p.out.below hb)
  replace HOI_p := hide (own_below HOI_p.out hb)
  replace HL_q := hide (HL_q.out.below hb)
  replace HOI_q := hide (own_below HOI_q.out hb)
  replace HL_z := hide (HL_z.out.below hb)
  replace HOI_z := hide (own_below HOI_z.out hb)
  replace HL_o := hide (HL_o.out.below hb)
  replace HBW := hide (HBW.out.trans (hb.mono HBW.out.size))
  replace HBA := hide (below_nx7 HBA.out hb)
  have HZ13 := hide hb.size
  clear cxx0 cxx1 cxy0 cxy1 hb
  go_wp2_with fail
  refine Calls.mono (sameG_Ints Az Ao ko cz ko co (shp7S xs xs') (shp7S xs xs') _ HL_z.out HL_o.out (by omega)) ?_
  rw [show decide (shp7S xs xs' = shp7S xs xs') = true from decide_eq_true rfl]
  rintro r u17 ⟨rfl, jz, hjz⟩
  have hb : Below u16.heap.size u16 u17 := by rw [hjz]; exact below_drewN (Below.refl _ _) jz
  replace HT_a := hide (HT_a.out.kept hb)
  replace HT_b := hide (HT_b.out.kept hb)
  replace HT_t := hide (HT_t.out.kept hb)
  replace HT_u := hide (HT_u.out.kept hb)
  replace HT_x := hide (HT_x.out.kept hb)
  replace HT_y := hide (HT_y.out.kept hb)
  replace HOS_t := hide (own_below HOS_t.out hb)
  replace HON_t := hide (own_below HON_t.out hb)
  replace HOS_u := hide (own_below HOS_u.out hb)
  replace HON_u := hide (own_below HON_u.out hb)
  replace HOS_x := hide (own_below HOS_x.out hb)
  replace HON_x := hide (own_below HON_x.out hb)
  replace HL_e := hide (HL_e.out.below hb)
  replace HL_f := hide (HL_f.out.below hb)
  replace HL_p := hide (HL_p.out.below hb)
  replace HOI_p := hide (own_below HOI_p.out hb)
  replace HL_q := hide (HL_q.out.below hb)
  replace HOI_q := hide (own_below HOI_q.out hb)
  replace HL_z := hide (HL_z.out.below hb)
  replace HOI_z := hide (own_below HOI_z.out hb)
  replace HL_o := hide (HL_o.out.below hb)
  replace HBW := hide (HBW.out.trans (hb.mono HBW.out.size))
  replace HBA := hide (below_nx7 HBA.out hb)
  have HZ14 := hide hb.size
  clear hb hjz
  have cxt0 := HT_t.out.1.c0
  have cxt1 := HT_t.out.1.c1
  have cxa0 := HT_a.out.1.c0
  have cxa1 := HT_a.out.1.c1
  go_wp2_with fail
  refine Calls.mono (leftT_yes g1t g2t A B n m c d s l _ (lies_of_own HOS_t.out) (lies_of_own HON_t.out) HT_a.out.2.1 HT_a.out.2.2 (by omega) (by omega)) ?_
  rintro r u18 ⟨rfl, hb⟩
  replace HT_a := hide (HT_a.out.kept hb)
  replace HT_b := hide (HT_b.out.kept hb)
  replace HT_t := hide (HT_t.out.kept hb)
  replace HT_u := hide (HT_u.out.kept hb)
  replace HT_x := hide (HT_x.out.kept hb)
  replace HT_y := hide (HT_y.out.kept hb)
  replace HOS_t := hide (own_below HOS_t.out hb)
  replace HON_t := hide (own_below HON_t.out hb)
  replace HOS_u := hide (own_below HOS_u.out hb)
  replace HON_u := hide (own_below HON_u.out hb)
  replace HOS_x := hide (own_below HOS_x.out hb)
  replace HON_x := hide (own_below HON_x.out hb)
  replace HL_e := hide (HL_e.out.below hb)
  replace HL_f := hide (HL_f.out.below hb)
  replace HL_p := hide (HL_p.out.below hb)
  replace HOI_p := hide (own_below HOI_p.out hb)
  replace HL_q := hide (HL_q.out.below hb)
  replace HOI_q := hide (own_below HOI_q.out hb)
  replace HL_z := hide (HL_z.out.below hb)
  replace HOI_z := hide (own_below HOI_z.out hb)
  replace HL_o := hide (HL_o.out.below hb)
  replace HBW := hide (HBW.out.trans (hb.mono HBW.out.size))
  replace HBA := hide (below_nx7 HBA.out hb)
  have HZ15 := hide hb.size
  clear cxt0 cxt1 cxa0 cxa1 hb
  have cxu0 := HT_u.out.1.c0
  have cxu1 := HT_u.out.1.c1
  have cxb0 := HT_b.out.1.c0
  have cxb1 := HT_b.out.1.c1
  go_wp2_with fail
  refine Calls.mono (leftT_yes g1u g2u A' B' n' m' c' d' s' l' _ (lies_of_own HOS_u.out) (lies_of_own HON_u.out) HT_b.out.2.1 HT_b.out.2.2 (by omega) (by omega)) ?_
  rintro r u19 ⟨rfl, hb⟩
  replace HT_a := hide (HT_a.out.kept hb)
  replace HT_b := hide (HT_b.out.kept hb)
  replace HT_t := hide (HT_t.out.kept hb)
  replace HT_u := hide (HT_u.out.kept hb)
  replace HT_x := hide (HT_x.out.kept hb)
  replace HT_y := hide (HT_y.out.kept hb)
  replace HOS_t := hide (own_below HOS_t.out hb)
  replace HON_t := hide (own_below HON_t.out hb)
  replace HOS_u := hide (own_below HOS_u.out hb)
  replace HON_u := hide (own_below HON_u.out hb)
  replace HOS_x := hide (own_below HOS_x.out hb)
  replace HON_x := hide (own_below HON_x.out hb)
  replace HL_e := hide (HL_e.out.below hb)
  replace HL_f := hide (HL_f.out.below hb)
  replace HL_p := hide (HL_p.out.below hb)
  replace HOI_p := hide (own_below HOI_p.out hb)
  replace HL_q := hide (HL_q.out.below hb)
  replace HOI_q := hide (own_below HOI_q.out hb)
  replace HL_z := hide (HL_z.out.below hb)
  replace HOI_z := hide (own_below HOI_z.out hb)
  replace HL_o := hide (HL_o.out.below hb)
  replace HBW := hide (HBW.out.trans (hb.mono HBW.out.size))
  replace HBA := hide (below_nx7 HBA.out hb)
  have HZ16 := hide hb.size
  clear cxu0 cxu1 cxb0 cxb1 hb
  obtain ⟨_, _, _, _, ce0, ce1⟩ := HK.out _ HBA.out
  go_wp2_with fail
  refine Calls.mono (left_Ints gip e (e + 1) f P xs _ (lies_of_own HOI_p.out) HL_e.out (Nat.le_refl _) (by omega)) ?_
  rintro r u20 ⟨rfl, jz, hjz⟩
  have hb : Below u19.heap.size u19 u20 := by rw [hjz]; exact below_drewN (Below.refl _ _) jz
  replace HT_a := hide (HT_a.out.kept hb)
  replace HT_b := hide (HT_b.out.kept hb)
  replace HT_t := hide (HT_t.out.kept hb)
  replace HT_u := hide (HT_u.out.kept hb)
  replace HT_x := hide (HT_x.out.kept hb)
  replace HT_y := hide (HT_y.out.kept hb)
  replace HOS_t := hide (own_below HOS_t.out hb)
  replace HON_t := hide (own_below HON_t.out hb)
  replace HOS_u := hide (own_below HOS_u.out hb)
  replace HON_u := hide (own_below HON_u.out hb)
  replace HOS_x := hide (own_below HOS_x.out hb)
  replace HON_x := hide (own_below HON_x.out hb)
  replace HL_e := hide (HL_e.out.below hb)
  replace HL_f := hide (HL_f.out.below hb)
  replace HL_p := hide (HL_p.out.below hb)
  replace HOI_p := hide (own_below HOI_p.out hb)
  replace HL_q := hide (HL_q.out.below hb)
  replace HOI_q := hide (own_below HOI_q.out hb)
  replace HL_z := hide (HL_z.out.below hb)
  replace HOI_z := hide (own_below HOI_z.out hb)
  replace HL_o := hide (HL_o.out.below hb)
  replace HBW := hide (HBW.out.trans (hb.mono HBW.out.size))
  replace HBA := hide (below_nx7 HBA.out hb)
  have HZ17 := hide hb.size
  clear ce0 ce1 hb hjz
  obtain ⟨_, _, _, _, ce0, ce1⟩ := HK.out _ HBA.out
  go_wp2_with fail
  refine Calls.mono (left_Ints giq e' (e' + 1) f' P' xs' _ (lies_of_own HOI_q.out) HL_f.out (Nat.le_refl _) (by omega)) ?_
  rintro r u21 ⟨rfl, jz, hjz⟩
  have hb : Below u20.heap.size u20 u21 := by rw [hjz]; exact below_drewN (Below.refl _ _) jz
  replace HT_a := hide (HT_a.out.kept hb)
  replace HT_b := hide (HT_b.out.kept hb)
  replace HT_t := hide (HT_t.out.kept hb)
  replace HT_u := hide (HT_u.out.kept hb)
  replace HT_x := hide (HT_x.out.kept hb)
  replace HT_y := hide (HT_y.out.kept hb)
  replace HOS_t := hide (own_below HOS_t.out hb)
  replace HON_t := hide (own_below HON_t.out hb)
  replace HOS_u := hide (own_below HOS_u.out hb)
  replace HON_u := hide (own_below HON_u.out hb)
  replace HOS_x := hide (own_below HOS_x.out hb)
  replace HON_x := hide (own_below HON_x.out hb)
  replace HL_e := hide (HL_e.out.below hb)
  replace HL_f := hide (HL_f.out.below hb)
  replace HL_p := hide (HL_p.out.below hb)
  replace HOI_p := hide (own_below HOI_p.out hb)
  replace HL_q := hide (HL_q.out.below hb)
  replace HOI_q := hide (own_below HOI_q.out hb)
  replace HL_z := hide (HL_z.out.below hb)
  replace HOI_z := hide (own_below HOI_z.out hb)
  replace HL_o := hide (HL_o.out.below hb)
  replace HBW := hide (HBW.out.trans (hb.mono HBW.out.size))
  replace HBA := hide (below_nx7 HBA.out hb)
  have HZ18 := hide hb.size
  clear ce0 ce1 hb hjz
  have hbk : Below u21.heap.size u21 (u21.alloc (.cells #[Value.int .i64 0, Value.slice none 0 0, Value.slice none 0 0, Value.slice none 0 0, Value.slice none 0 0, Value.slice none 0 0, Value.slice none 0 0, Value.slice none 0 0, Value.slice none 0 0, Value.slice none 0 0, Value.slice none 0 0, Value.slice none 0 0, Value.slice none 0 0, Value.slice none 0 0, Value.slice none 0 0, Value.slice none 0 0] 54)) := below_al7 (Below.refl _ _)
  have HWF : Hid (W0.heap.size ≤ u21.heap.size) := hide (by have h0 := HWS.out; have h1 := HZ10.out; have h2 := HZ11.out; have h3 := HZ12.out; have h4 := HZ13.out; have h5 := HZ14.out; have h6 := HZ15.out; have h7 := HZ16.out; have h8 := HZ17.out; have h9 := HZ18.out; omega)
  have HBOOK := hide (book_new6 u21 HWF.out)
  have HRS_t := hide (own_below (own_part HOS_t.out (n := n) (by simp [HSL.out]) (by omega)) hbk)
  have HRN_t := hide (own_below (own_part HON_t.out (n := m) (by simp [HL.out]) (by omega)) hbk)
  have HXB_t := hide (HT_t.out.1.kept hbk)
  have HRS_u := hide (own_below (own_part HOS_u.out (n := n') (by simp [HSL'.out]) (by omega)) hbk)
  have HRN_u := hide (own_below (own_part HON_u.out (n := m') (by simp [HL'.out]) (by omega)) hbk)
  have HXB_u := hide (HT_u.out.1.kept hbk)
  have HRS_x := hide (own_below HOS_x.out hbk)
  have HRN_x := hide (own_below HON_x.out hbk)
  have HXB_x := hide (HT_x.out.1.kept hbk)
  have HRI_p := hide (own_below (own_part HOI_p.out (n := e) (by simp [HXL.out]) (by omega)) hbk)
  have HRI_q := hide (own_below (own_part HOI_q.out (n := e') (by simp [HXL'.out]) (by omega)) hbk)
  have HRI_z := hide (own_below HOI_z.out hbk)
  have HWW := hide (HBW.out.trans (hbk.mono (by have := HBW.out.size; omega)))
  clear hbk HBA HK HARR HT_a HT_b HT_t HT_u HT_x HT_y HOS_t HON_t HOS_u HON_u HOS_x HON_x HL_e HL_f HL_p HL_q HL_z HL_o HOI_p HOI_q HOI_z
  have hz0 := HZ0.out
  have hz1 := HSVV5.out
  have hz2 := HZ2.out
  have hz3 := HSVV7.out
  have hz4 := HZ4.out
  have hz5 := HZ5.out
  have hz6 := HZ6.out
  have hz7 := HSVV11.out
  have hz8 := HZ8.out
  have hz9 := HSVV13.out
  have hz10 := HZ10.out
  have hz11 := HZ11.out
  have hz12 := HZ12.out
  have hz13 := HZ13.out
  have hz14 := HZ14.out
  have hz15 := HZ15.out
  have hz16 := HZ16.out
  have hz17 := HZ17.out
  have hz18 := HZ18.out
  clear HZ0 HSVV5 HZ2 HSVV7 HZ4 HZ5 HZ6 HSVV11 HZ8 HSVV13 HZ10 HZ11 HZ12 HZ13 HZ14 HZ15 HZ16 HZ17 HZ18
  have t0 := BoxT.c0 HXB_t.out
  have t1 := BoxT.c1 HXB_t.out
  go_wp2_with fail
  refine Calls.mono (book_tensor _ u21.heap.size W0.heap.size 0 none 0 [] none 0 [] none 0 [] (some ⟨g1t, 0, none⟩) (some ⟨g2t, 0, none⟩) n (n + 1) m (m + 1) _ _ HBOOK.out HRS_t.out HRN_t.out (by omega) (by omega) (by omega) (fun i t ht => by simp at ht) (fun i t ht => by simp at ht)) ?_
  rintro r b0 ⟨rfl, ⟨Hi0, ci0, Hn0, cn0, hk⟩, hT, hb⟩
  have HK0 := hide hk
  replace HWW := hide (HWW.out.trans (hb.mono hsW))
  replace HRS_u := hide (hT.own HRS_u.out (by decide))
  replace HRN_u := hide (hT.own HRN_u.out (by decide))
  replace HXB_u := hide (hT.blk HXB_u.out (by decide))
  replace HRS_x := hide (hT.own HRS_x.out (by decide))
  replace HRN_x := hide (hT.own HRN_x.out (by decide))
  replace HXB_x := hide (hT.blk HXB_x.out (by decide))
  replace HRI_p := hide (hT.own HRI_p.out (by decide))
  replace HRI_q := hide (hT.own HRI_q.out (by decide))
  replace HRI_z := hide (hT.own HRI_z.out (by decide))
  clear hk hT hb HBOOK t0 t1 HRS_t HRN_t HXB_t
  have t0 := BoxT.c0 HXB_u.out
  have t1 := BoxT.c1 HXB_u.out
  go_wp2_with fail
  refine Calls.mono (book_tensor _ u21.heap.size W0.heap.size 2 none 0 [] Hi0 ci0 _ Hn0 cn0 _ (some ⟨g1u, 0, none⟩) (some ⟨g2u, 0, none⟩) n' (n' + 1) m' (m' + 1) _ _ HK0.out HRS_u.out HRN_u.out (by omega) (by omega) (by omega) (fun i t ht => by have hm := List.mem_of_getElem? ht; simp at hm; subst hm; exact apart_ba (HBS_t.out.le (by omega)) HAS_u.out) (fun i t ht => by have hm := List.mem_of_getElem? ht; simp at hm; subst hm; exact apart_ba (HBN_t.out.le (by omega)) HAN_u.out)) ?_
  rintro r b1 ⟨rfl, ⟨Hi1, ci1, Hn1, cn1, hk⟩, hT, hb⟩
  have HK1 := hide hk
  replace HWW := hide (HWW.out.trans (hb.mono hsW))
  replace HRS_x := hide (hT.own HRS_x.out (by decide))
  replace HRN_x := hide (hT.own HRN_x.out (by decide))
  replace HXB_x := hide (hT.blk HXB_x.out (by decide))
  replace HRI_p := hide (hT.own HRI_p.out (by decide))
  replace HRI_q := hide (hT.own HRI_q.out (by decide))
  replace HRI_z := hide (hT.own HRI_z.out (by decide))
  clear hk hT hb HK0 t0 t1 HRS_u HRN_u HXB_u
  have t0 := BoxT.c0 HXB_x.out
  have t1 := BoxT.c1 HXB_x.out
  go_wp2_with fail
  refine Calls.mono (book_tensor _ u21.heap.size W0.heap.size 4 none 0 [] Hi1 ci1 _ Hn1 cn1 _ A1x A2x k1y c1x k2y c2x _ _ HK1.out HRS_x.out HRN_x.out (by omega) (by omega) (by omega) (fun i t ht => by
        have hm := List.mem_of_getElem? ht
        simp at hm
        rcases hm with hm | hm
        · subst hm; exact apart_ba (HBS_t.out.le (by omega)) HAS_x.out
        · subst hm; exact apart_ba (HBS_u.out.le (by omega)) HAS_x.out) (fun i t ht => by
        have hm := List.mem_of_getElem? ht
        simp at hm
        rcases hm with hm | hm
        · subst hm; exact apart_ba (HBN_t.out.le (by omega)) HAN_x.out
        · subst hm; exact apart_ba (HBN_u.out.le (by omega)) HAN_x.out)) ?_
  rintro r b2 ⟨rfl, ⟨Hi2, ci2, Hn2, cn2, hk⟩, hT, hb⟩
  have HK2 := hide hk
  replace HWW := hide (HWW.out.trans (hb.mono hsW))
  replace HRI_p := hide (hT.own HRI_p.out (by decide))
  replace HRI_q := hide (hT.own HRI_q.out (by decide))
  replace HRI_z := hide (hT.own HRI_z.out (by decide))
  clear hk hT hb HK1 t0 t1 HRS_x HRN_x HXB_x
  go_wp2_with fail
  refine Calls.mono (book_ints _ u21.heap.size W0.heap.size 6 none 0 [] Hi2 ci2 _ Hn2 cn2 _ (some ⟨gip, 0, none⟩) e (e + 1) _ HK2.out HRI_p.out (by omega) (by omega) (fun i t ht => by
        have hm := List.mem_of_getElem? ht
        simp at hm
        rcases hm with hm | hm | hm
        · subst hm; exact apart_ba (HBS_t.out.le (by omega)) HAI_p.out
        · subst hm; exact apart_ba (HBS_u.out.le (by omega)) HAI_p.out
        · subst hm; exact apart_ab HAS_x.out (HBI_p.out.le (by omega)))) ?_
  rintro r b3 ⟨rfl, ⟨Hi3, ci3, hk⟩, hT, hb⟩
  have HK3 := hide hk
  replace HWW := hide (HWW.out.trans (hb.mono hsW))
  replace HRI_q := hide (hT.own HRI_q.out (by decide))
  replace HRI_z := hide (hT.own HRI_z.out (by decide))
  clear hk hT hb HK2 HRI_p
  go_wp2_with fail
  refine Calls.mono (book_ints _ u21.heap.size W0.heap.size 7 none 0 [] Hi3 ci3 _ Hn2 cn2 _ (some ⟨giq, 0, none⟩) e' (e' + 1) _ HK3.out HRI_q.out (by omega) (by omega) (fun i t ht => by
        have hm := List.mem_of_getElem? ht
        simp at hm
        rcases hm with hm | hm | hm | hm
        · subst hm; exact apart_ba (HBS_t.out.le (by omega)) HAI_q.out
        · subst hm; exact apart_ba (HBS_u.out.le (by omega)) HAI_q.out
        · subst hm; exact apart_ab HAS_x.out (HBI_q.out.le (by omega))
        · subst hm; exact apart_ba (HBI_p.out.le (by omega)) HAI_q.out)) ?_
  rintro r b4 ⟨rfl, ⟨Hi4, ci4, hk⟩, hT, hb⟩
  have HK4 := hide hk
  replace HWW := hide (HWW.out.trans (hb.mono hsW))
  replace HRI_z := hide (hT.own HRI_z.out (by decide))
  clear hk hT hb HK3 HRI_q
  go_wp2_with fail
  refine Calls.mono (book_ints _ u21.heap.size W0.heap.size 8 none 0 [] Hi4 ci4 _ Hn2 cn2 _ Az ko cz _ HK4.out HRI_z.out (by omega) (by omega) (fun i t ht => by
        have hm := List.mem_of_getElem? ht
        simp at hm
        rcases hm with hm | hm | hm | hm | hm
        · subst hm; exact apart_ba (HBS_t.out.le (by omega)) HAI_z.out
        · subst hm; exact apart_ba (HBS_u.out.le (by omega)) HAI_z.out
        · subst hm; exact apart_ba (HBS_x.out.le (by omega)) HAI_z.out
        · subst hm; exact apart_ba (HBI_p.out.le (by omega)) HAI_z.out
        · subst hm; exact apart_ba (HBI_q.out.le (by omega)) HAI_z.out)) ?_
  rintro r b5 ⟨rfl, ⟨Hi5, ci5, hk⟩, hT, hb⟩
  have HK5 := hide hk
  replace HWW := hide (HWW.out.trans (hb.mono hsW))
  clear hk hT hb HK4 HRI_z
  go_wp2_with fail
  refine Calls.mono (apart_any _ _ _ _ _ _ _ _ _ _ _ _ _ HK5.out) ?_
  rintro r bz ⟨rfl, hb⟩
  have HBz := hide (HWW.out.trans (hb.mono hsW))
  clear hb
  go_wp2
  go_ret
  exact ⟨rfl, HBz.out⟩

theorem pof7_any (A B A' B' P P' : Option Addr) (n c m d n' c' m' d' e f e' f' : Nat) (s l s' l' xs xs' : List Int) (w : World) (hA : Lies w A n (s.map (Value.int .i64))) (hB : Lies w B m (l.map (Value.int .i32))) (hA' : Lies w A' n' (s'.map (Value.int .i64))) (hB' : Lies w B' m' (l'.map (Value.int .i32))) (hP : Lies w P e (xs.map (Value.int .i64))) (hP' : Lies w P' e' (xs'.map (Value.int .i64)))
    (hn : n ≤ 70368744177664) (hm : m ≤ 70368744177664) (hn' : n' ≤ 70368744177664) (hm' : m' ≤ 70368744177664) (he : e ≤ 70368744177664) (he' : e' ≤ 70368744177664) :
    Calls Tryz.prog 3 #[tenV A n c B m d, tenV A' n' c' B' m' d', .agg #[.slice P e f, .slice P' e' f']] w fun r w' => r = .returned (.bool true) ∧ Below w.heap.size w w' := by
  by_cases h : tsz n m + tsz n' m' + e + e' ≤ 1048576
  · exact pof7_near A B A' B' P P' n c m d n' c' m' d' e f e' f' s l s' l' xs xs' w hA hB hA' hB' hP hP' hn hm hn' hm' he he' h
  · exact pof7_far A B A' B' P P' n c m d n' c' m' d' e f e' f' s l s' l' xs xs' w hA hB hA' hB' hP hP' hn hm hn' hm' he he' (by omega)

end

end Go.Proofs.YtlalfjlcgabnnaaGreatDoor
