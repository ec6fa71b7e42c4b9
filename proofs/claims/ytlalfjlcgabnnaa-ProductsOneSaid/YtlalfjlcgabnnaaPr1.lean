/- Contracts of package products: a sum that two closures know; a row with a column. -/
import Derived.Test.YtlalfjlcgabnnaaPm7
import Derived.Test.YtlalfjlcgabnnaaRegU
import Derived.Deep.QuietTactic
import Derived.BigQuiet
namespace Go.Proofs.Ytlalfjlcgabnnaa
open Go.RowKit
set_option linter.unusedVariables false
set_option linter.unusedSimpArgs false
set_option maxRecDepth 100000

theorem setCell_self (w : World) (a : Addr) (u : Value) : w.grownBy (w.setCell a u) (some a.block) := grown_cell6 w a u

set_option maxHeartbeats 400000 in
theorem sumadd_any (p : Nat) (x s : Int) (w : World) (h : Box1 w p 21 (.int .i32 s)) :
    Calls Try.prog 33 #[.int .i32 x, .pointer (some ⟨p, 0, none⟩)] w fun e w' => e = .returned voidV ∧ w' = w.setCell ⟨p, 0, none⟩ (.int .i32 (add32 s x)) := by
  have hc := h.cell
  have hf := h.frozen
  clear h
  go_enter Try.func33, Try.ntmps33
  go_wp2
  go_end0
  exact ⟨rfl, rfl⟩

set_option maxHeartbeats 400000 in
theorem sumtotal_any (p : Nat) (s : Int) (w : World) (h : Box1 w p 21 (.int .i32 s)) :
    Calls Try.prog 34 #[.pointer (some ⟨p, 0, none⟩)] w fun e w' => e = .returned (.int .i32 s) ∧ w = w' := by
  have hc := h.cell
  clear h
  go_enter Try.func34, Try.ntmps34
  go_wp2
  go_ret
  exact ⟨rfl, rfl⟩

set_option maxHeartbeats 400000 in
theorem newsum_any (w : World) :
    Calls Try.prog 27 #[] w fun e w' => e = .returned (.tuple #[.func (.func 33) #[] #[.pointer (some ⟨w.heap.size, 0, none⟩)], .func (.func 34) #[] #[.pointer (some ⟨w.heap.size, 0, none⟩)]]) ∧ w' = w.alloc (.cells #[.int .i32 0] 21) := by
  go_enter Try.func27, Try.ntmps27
  go_wp2
  go_ret2
  exact ⟨rfl, rfl⟩

set_option maxHeartbeats 2000000 in
theorem rowcol_any (A B A' B' : Option Addr) (n c m d c' m' d' K N I j : Nat) (l l' : List Int) (w : World) (hB : Lies w B m (l.map (Value.int .i32))) (hA' : Lies w A' 2 (([(K : Int), (N : Int)] : List Int).map (Value.int .i64))) (hB' : Lies w B' m' (l'.map (Value.int .i32)))
    (hK1 : 1 ≤ K) (hK : K ≤ 64) (hN : N ≤ 64) (hi : I ≤ 64) (hj : j < N) (hm : I * K + K ≤ m) (hm' : K * N ≤ m') :
    Calls Try.prog 19 #[tenV A n c B m d, tenV A' 2 c' B' m' d', .int .i64 (I : Int), .int .i64 (j : Int)] w fun e w' => e = .returned (.int .i32 (dotN l l' K N I j K)) ∧ Below w.heap.size w w' := by
  have hKN : K * N ≤ 4096 := by have := Nat.mul_le_mul hK hN; omega
  have hkn1 : 1 ≤ K * N := Nat.mul_pos (by omega) (by omega)
  obtain ⟨b1, o1, rfl, hb1, hx1⟩ := byte_at hB (by omega)
  obtain ⟨b2, o2, rfl, hb2, hx2⟩ := byte_at hB' (by omega)
  obtain ⟨b3, o3, rfl, hb3, hx3⟩ := byte_at hA' (by omega)
  have HX1 : Hid (∀ q, q < m → w.cell? ⟨b1, o1 + q, none⟩ = some (.int .i32 (l.getD q 0))) := hide (fun q hq => hx1 q hq)
  have HX2 : Hid (∀ q, q < m' → w.cell? ⟨b2, o2 + q, none⟩ = some (.int .i32 (l'.getD q 0))) := hide (fun q hq => hx2 q hq)
  have hk0 := hx3 0 (by omega)
  have hk1 := hx3 1 (by omega)
  simp only [List.getD_cons_zero, List.getD_cons_succ] at hk0 hk1
  clear hx1 hx2 hx3 hB hA' hB'
  obtain ⟨W0, hW0⟩ : ∃ W0, W0 = (w.alloc (.cells #[.slice A n c, .slice (some ⟨b1, o1, none⟩) m d] 28)).alloc (.cells #[.slice (some ⟨b3, o3, none⟩) 2 c', .slice (some ⟨b2, o2, none⟩) m' d'] 28) := ⟨_, rfl⟩
  have HB0 : Hid (Below w.heap.size w W0) := hide (by rw [hW0]; exact ((Below.refl w.heap.size w).alloc (Nat.le_refl _) _).alloc (by simp only [World.size_alloc]; omega) _)
  have hs0 : W0.heap.size = w.heap.size + 2 := by rw [hW0]; simp
  have HT0 : Hid (BoxT W0 w.heap.size (.slice A n c) (.slice (some ⟨b1, o1, none⟩) m d)) := hide (by rw [hW0]; exact (BoxT.new w _ _).alloc _)
  have HT1 : Hid (BoxT W0 (w.heap.size + 1) (.slice (some ⟨b3, o3, none⟩) 2 c') (.slice (some ⟨b2, o2, none⟩) m' d')) := hide (by
    rw [hW0]
    have h := BoxT.new (w.alloc (.cells #[.slice A n c, .slice (some ⟨b1, o1, none⟩) m d] 28)) (.slice (some ⟨b3, o3, none⟩) 2 c') (.slice (some ⟨b2, o2, none⟩) m' d')
    rwa [World.size_alloc] at h)
  have hW0' := hW0.symm
  clear hW0
  have hk0' : W0.cell? ⟨b3, o3, none⟩ = some (.int .i64 (K : Int)) := (HB0.out.cell (p := ⟨b3, o3, none⟩) hb3).trans hk0
  have hk1' : W0.cell? ⟨b3, o3 + 1, none⟩ = some (.int .i64 (N : Int)) := (HB0.out.cell (p := ⟨b3, o3 + 1, none⟩) hb3).trans hk1
  have t0 := HT1.out.c0
  go_enter Try.func19, Try.ntmps19
  go_wp2
  go_quiet (fail)
  obtain ⟨p, hp⟩ : ∃ p, p = W0.heap.size := ⟨_, rfl⟩
  have hns := newsum_any (W0.drewN nq)
  rw [show (W0.drewN nq).heap.size = p from hp.symm] at hns
  have HNS := hide hns
  have HPP := hide hp
  clear hns hp
  go_wp2_with fail
  refine Calls.mono HNS.out ?_
  rintro e w1 ⟨rfl, hw1⟩
  have hp := HPP.out
  have HB1 : Hid (Below W0.heap.size W0 w1) := hide (by rw [hw1]; exact (below_drewN (Below.refl _ W0) nq).alloc (Nat.le_refl _) _)
  have HX : Hid (Box1 w1 p 21 (.int .i32 0)) := hide (by rw [hw1, hp]; exact Box1.new (W0.drewN nq) _ _)
  have HF : Hid (∀ v, w1.grownBy v (some p) → v.cell? ⟨w.heap.size, 1, none⟩ = some (.slice (some ⟨b1, o1, none⟩) m d) ∧ v.cell? ⟨w.heap.size + 1, 1, none⟩ = some (.slice (some ⟨b2, o2, none⟩) m' d') ∧ (∀ q, q < m → v.cell? ⟨b1, o1 + q, none⟩ = some (.int .i32 (l.getD q 0))) ∧ (∀ q, q < m' → v.cell? ⟨b2, o2 + q, none⟩ = some (.int .i32 (l'.getD q 0)))) := hide (fun v hv => by
    have h01 : ∀ k, k < W0.heap.size → v.heap[k]? = W0.heap[k]? := fun k hk => (hv.block k (by have := HB1.out.size; omega) (by simp; omega)).trans (HB1.out.block k hk)
    have h02 : ∀ k, k < w.heap.size → v.heap[k]? = w.heap[k]? := fun k hk => (h01 k (by omega)).trans (HB0.out.block k hk)
    exact ⟨BoxT.c1 ((h01 _ (by omega)).trans HT0.out), BoxT.c1 ((h01 _ (by omega)).trans HT1.out), fun q hq => (World.cell?_of_block (h02 b1 hb1)).trans (HX1.out q hq), fun q hq => (World.cell?_of_block (h02 b2 hb2)).trans (HX2.out q hq)⟩)
  have HBW : Hid (∀ v, w1.grownBy v (some p) → Below w.heap.size w v) := hide (fun v hv => (HB0.out.trans (HB1.out.mono HB0.out.size)).trans (below_grown hv (by have := HB0.out.size; have := HB1.out.size; omega) (by have := HB0.out.size; omega)))
  clear hw1 HX1 HX2 hk0 hk1 hk0' hk1' t0 HNS hp
  go_wp2
  go_loopw [27] (fun i wr => ∃ k : Nat, k ≤ K ∧ i = .int .i64 k ∧ Hid (Box1 wr p 21 (.int .i32 (dotN l l' K N I j k))) ∧ Hid (w1.grownBy wr (some p))) (fun i _ => K - (intOf i).toNat)
  case atStart => exact ⟨0, Nat.zero_le _, rfl, HX, hide (World.grownBy.refl w1 (some p))⟩
  case round =>
    obtain ⟨k, hk, rfl, HX, HG⟩ := hrel
    by_cases hlt : k < K
    · have h3 : (k : Int) < (K : Int) := by omega
      obtain ⟨a1, a2, a3, a4⟩ := HF.out wr HG.out
      obtain ⟨u1, hu1⟩ : ∃ q, q = I * K := ⟨_, rfl⟩
      obtain ⟨u2, hu2⟩ : ∃ q, q = k * N := ⟨_, rfl⟩
      have hmu2 : k * N + N ≤ K * N := by rw [← Nat.succ_mul]; exact Nat.mul_le_mul_right N hlt
      obtain ⟨q1, hq1⟩ : ∃ q, q = I * K + k := ⟨_, rfl⟩
      obtain ⟨q2, hq2⟩ : ∃ q, q = k * N + j := ⟨_, rfl⟩
      have hIK : I * K ≤ 4096 := by have := Nat.mul_le_mul hi hK; omega
      have m1 : IntKind.i64.wrap ((I : Int) * (K : Int)) = (u1 : Int) := by rw [hu1, Int.natCast_mul, IntKind.wrap_i64, ← Int.natCast_mul]; omega
      have m2 : IntKind.i64.wrap ((u1 : Int) + (k : Int)) = (q1 : Int) := by rw [hu1, hq1, IntKind.wrap_i64]; omega
      have m3 : IntKind.i64.wrap ((k : Int) * (N : Int)) = (u2 : Int) := by rw [hu2, Int.natCast_mul, IntKind.wrap_i64, ← Int.natCast_mul]; omega
      have m4 : IntKind.i64.wrap ((u2 : Int) + (j : Int)) = (q2 : Int) := by rw [hu2, hq2, IntKind.wrap_i64]; omega
      have hl1 : q1 < m := by omega
      have hl2 : q2 < m' := by omega
      obtain ⟨x, hx⟩ : ∃ x, x = l.getD q1 0 := ⟨_, rfl⟩
      obtain ⟨y, hy⟩ : ∃ y, y = l'.getD q2 0 := ⟨_, rfl⟩
      obtain ⟨s0, hs⟩ : ∃ s0, s0 = dotN l l' K N I j k := ⟨_, rfl⟩
      obtain ⟨z, hz⟩ : ∃ z, z = mul32 x y := ⟨_, rfl⟩
      have m5 : IntKind.i32.wrap (x * y) = z := by rw [hz, mul32, wrap32, IntKind.wrap_i32]
      have HD : Hid (add32 s0 z = dotN l l' K N I j (k + 1)) := hide (by rw [hz, hx, hy, hs, hq1, hq2]; rfl)
      have HF2 : Hid (∀ v, w1.grownBy v (some p) → v.cell? ⟨w.heap.size, 1, none⟩ = some (.slice (some ⟨b1, o1, none⟩) m d) ∧ v.cell? ⟨w.heap.size + 1, 1, none⟩ = some (.slice (some ⟨b2, o2, none⟩) m' d') ∧ v.cell? ⟨b1, o1 + q1, none⟩ = some (.int .i32 x) ∧ v.cell? ⟨b2, o2 + q2, none⟩ = some (.int .i32 y)) := hide (fun v hv => by
        obtain ⟨a1, a2, a3, a4⟩ := HF.out v hv
        exact ⟨a1, a2, by rw [hx]; exact a3 q1 hl1, by rw [hy]; exact a4 q2 hl2⟩)
      rw [← hs] at HX
      clear hs hx hy hz hq1 hq2 hu1 hu2 hmu2 a1 a2 a3 a4
      have hg1 : w1.grownBy wr.drew (some p) := grown_trans HG.out (grown_below (below_drewN (Below.refl _ wr) 1) _)
      have HX1 : Hid (Box1 wr.drew p 21 (.int .i32 s0)) := hide HX.out
      have hq1 : (0 : Int) ≤ (q1 : Int) := by omega
      have hq1' : (q1 : Int) < (m : Int) := by omega
      have hq2 : (0 : Int) ≤ (q2 : Int) := by omega
      have hq2' : (q2 : Int) < (m' : Int) := by omega
      go_wp2
      have hS0 : Hid (wr.drew.cell? ⟨w.heap.size, 1, none⟩ = some (.slice (some ⟨b1, o1, none⟩) m d) ∧ wr.drew.cell? ⟨w.heap.size + 1, 1, none⟩ = some (.slice (some ⟨b2, o2, none⟩) m' d') ∧ wr.drew.cell? ⟨b1, o1 + q1, none⟩ = some (.int .i32 x) ∧ wr.drew.cell? ⟨b2, o2 + q2, none⟩ = some (.int .i32 y)) := hide (HF2.out _ hg1)
      refine wp_region_U (fun _ v => v.cell? ⟨w.heap.size, 1, none⟩ = some (.slice (some ⟨b1, o1, none⟩) m d) ∧ v.cell? ⟨w.heap.size + 1, 1, none⟩ = some (.slice (some ⟨b2, o2, none⟩) m' d') ∧ v.cell? ⟨b1, o1 + q1, none⟩ = some (.int .i32 x) ∧ v.cell? ⟨b2, o2 + q2, none⟩ = some (.int .i32 y)) 99 (by kernel_rfl) ?_
      refine wpAnyU_take (i := 0) (oi := { dst := some 30, op := _, type := _, pos := _, after := _, guard := none }) (v := .func (.func 33) #[] #[.pointer (some ⟨p, 0, none⟩)]) rfl (by kernel_rfl) (by kernel_rfl) (by kernel_rfl) (by kernel_rfl) (fun _ _ _ h => h) (yields_take rfl (fun w' hw => by obtain ⟨h1, h2, h3, h4⟩ := hw.const; go_simp)) hS0.out ?_
      simp only [Act.put, List.setIfInBounds_toArray, List.set_cons_zero, List.set_cons_succ]
      refine wpAnyU_take (i := 1) (oi := { dst := some 31, op := _, type := _, pos := _, after := _, guard := none }) (v := .pointer (some ⟨w.heap.size, 1, none⟩)) rfl (by kernel_rfl) (by kernel_rfl) (by kernel_rfl) (by kernel_rfl) (fun _ _ _ h => h) (yields_take rfl (fun w' hw => by obtain ⟨h1, h2, h3, h4⟩ := hw.const; go_simp)) hS0.out ?_
      simp only [Act.put, List.setIfInBounds_toArray, List.set_cons_zero, List.set_cons_succ]
      refine wpAnyU_take (i := 2) (oi := { dst := some 32, op := _, type := _, pos := _, after := _, guard := none }) (v := .slice (some ⟨b1, o1, none⟩) m d) rfl (by kernel_rfl) (by kernel_rfl) (by kernel_rfl) (by kernel_rfl) (fun _ _ _ h => h) (yields_take rfl (fun w' hw => by obtain ⟨h1, h2, h3, h4⟩ := hw.const; go_simp)) hS0.out ?_
      simp only [Act.put, List.setIfInBounds_toArray, List.set_cons_zero, List.set_cons_succ]
      refine wpAnyU_take (i := 3) (oi := { dst := some 33, op := _, type := _, pos := _, after := _, guard := none }) (v := .int .i64 (I : Int)) rfl (by kernel_rfl) (by kernel_rfl) (by kernel_rfl) (by kernel_rfl) (fun _ _ _ h => h) (yields_take rfl (fun w' hw => by obtain ⟨h1, h2, h3, h4⟩ := hw.const; go_simp)) hS0.out ?_
      simp only [Act.put, List.setIfInBounds_toArray, List.set_cons_zero, List.set_cons_succ]
      refine wpAnyU_take (i := 4) (oi := { dst := some 34, op := _, type := _, pos := _, after := _, guard := none }) (v := .int .i64 (K : Int)) rfl (by kernel_rfl) (by kernel_rfl) (by kernel_rfl) (by kernel_rfl) (fun _ _ _ h => h) (yields_take rfl (fun w' hw => by obtain ⟨h1, h2, h3, h4⟩ := hw.const; go_simp)) hS0.out ?_
      simp only [Act.put, List.setIfInBounds_toArray, List.set_cons_zero, List.set_cons_succ]
      refine wpAnyU_take (i := 5) (oi := { dst := some 35, op := _, type := _, pos := _, after := _, guard := none }) (v := .int .i64 (u1 : Int)) rfl (by kernel_rfl) (by kernel_rfl) (by kernel_rfl) (by kernel_rfl) (fun _ _ _ h => h) (yields_take rfl (fun w' hw => by obtain ⟨h1, h2, h3, h4⟩ := hw.const; go_simp)) hS0.out ?_
      simp only [Act.put, List.setIfInBounds_toArray, List.set_cons_zero, List.set_cons_succ]
      refine wpAnyU_take (i := 6) (oi := { dst := some 36, op := _, type := _, pos := _, after := _, guard := none }) (v := .int .i64 (k : Int)) rfl (by kernel_rfl) (by kernel_rfl) (by kernel_rfl) (by kernel_rfl) (fun _ _ _ h => h) (yields_take rfl (fun w' hw => by obtain ⟨h1, h2, h3, h4⟩ := hw.const; go_simp)) hS0.out ?_
      simp only [Act.put, List.setIfInBounds_toArray, List.set_cons_zero, List.set_cons_succ]
      refine wpAnyU_take (i := 7) (oi := { dst := some 37, op := _, type := _, pos := _, after := _, guard := none }) (v := .int .i64 (q1 : Int)) rfl (by kernel_rfl) (by kernel_rfl) (by kernel_rfl) (by kernel_rfl) (fun _ _ _ h => h) (yields_take rfl (fun w' hw => by obtain ⟨h1, h2, h3, h4⟩ := hw.const; go_simp)) hS0.out ?_
      simp only [Act.put, List.setIfInBounds_toArray, List.set_cons_zero, List.set_cons_succ]
      refine wpAnyU_take (i := 8) (oi := { dst := some 38, op := _, type := _, pos := _, after := _, guard := none }) (v := .pointer (some ⟨b1, o1 + q1, none⟩)) rfl (by kernel_rfl) (by kernel_rfl) (by kernel_rfl) (by kernel_rfl) (fun _ _ _ h => h) (yields_take rfl (fun w' hw => by obtain ⟨h1, h2, h3, h4⟩ := hw.const; go_simp)) hS0.out ?_
      simp only [Act.put, List.setIfInBounds_toArray, List.set_cons_zero, List.set_cons_succ]
      refine wpAnyU_take (i := 9) (oi := { dst := some 39, op := _, type := _, pos := _, after := _, guard := none }) (v := .int .i32 x) rfl (by kernel_rfl) (by kernel_rfl) (by kernel_rfl) (by kernel_rfl) (fun _ _ _ h => h) (yields_take rfl (fun w' hw => by obtain ⟨h1, h2, h3, h4⟩ := hw.const; go_simp)) hS0.out ?_
      simp only [Act.put, List.setIfInBounds_toArray, List.set_cons_zero, List.set_cons_succ]
      refine wpAnyU_take (i := 10) (oi := { dst := some 40, op := _, type := _, pos := _, after := _, guard := none }) (v := .pointer (some ⟨w.heap.size + 1, 1, none⟩)) rfl (by kernel_rfl) (by kernel_rfl) (by kernel_rfl) (by kernel_rfl) (fun _ _ _ h => h) (yields_take rfl (fun w' hw => by obtain ⟨h1, h2, h3, h4⟩ := hw.const; go_simp)) hS0.out ?_
      simp only [Act.put, List.setIfInBounds_toArray, List.set_cons_zero, List.set_cons_succ]
      refine wpAnyU_take (i := 11) (oi := { dst := some 41, op := _, type := _, pos := _, after := _, guard := none }) (v := .slice (some ⟨b2, o2, none⟩) m' d') rfl (by kernel_rfl) (by kernel_rfl) (by kernel_rfl) (by kernel_rfl) (fun _ _ _ h => h) (yields_take rfl (fun w' hw => by obtain ⟨h1, h2, h3, h4⟩ := hw.const; go_simp)) hS0.out ?_
      simp only [Act.put, List.setIfInBounds_toArray, List.set_cons_zero, List.set_cons_succ]
      refine wpAnyU_take (i := 12) (oi := { dst := some 42, op := _, type := _, pos := _, after := _, guard := none }) (v := .int .i64 (k : Int)) rfl (by kernel_rfl) (by kernel_rfl) (by kernel_rfl) (by kernel_rfl) (fun _ _ _ h => h) (yields_take rfl (fun w' hw => by obtain ⟨h1, h2, h3, h4⟩ := hw.const; go_simp)) hS0.out ?_
      simp only [Act.put, List.setIfInBounds_toArray, List.set_cons_zero, List.set_cons_succ]
      refine wpAnyU_take (i := 13) (oi := { dst := some 43, op := _, type := _, pos := _, after := _, guard := none }) (v := .int .i64 (N : Int)) rfl (by kernel_rfl) (by kernel_rfl) (by kernel_rfl) (by kernel_rfl) (fun _ _ _ h => h) (yields_take rfl (fun w' hw => by obtain ⟨h1, h2, h3, h4⟩ := hw.const; go_simp)) hS0.out ?_
      simp only [Act.put, List.setIfInBounds_toArray, List.set_cons_zero, List.set_cons_succ]
      refine wpAnyU_take (i := 14) (oi := { dst := some 44, op := _, type := _, pos := _, after := _, guard := none }) (v := .int .i64 (u2 : Int)) rfl (by kernel_rfl) (by kernel_rfl) (by kernel_rfl) (by kernel_rfl) (fun _ _ _ h => h) (yields_take rfl (fun w' hw => by obtain ⟨h1, h2, h3, h4⟩ := hw.const; go_simp)) hS0.out ?_
      simp only [Act.put, List.setIfInBounds_toArray, List.set_cons_zero, List.set_cons_succ]
      refine wpAnyU_take (i := 15) (oi := { dst := some 45, op := _, type := _, pos := _, after := _, guard := none }) (v := .int .i64 (j : Int)) rfl (by kernel_rfl) (by kernel_rfl) (by kernel_rfl) (by kernel_rfl) (fun _ _ _ h => h) (yields_take rfl (fun w' hw => by obtain ⟨h1, h2, h3, h4⟩ := hw.const; go_simp)) hS0.out ?_
      simp only [Act.put, List.setIfInBounds_toArray, List.set_cons_zero, List.set_cons_succ]
      refine wpAnyU_take (i := 16) (oi := { dst := some 46, op := _, type := _, pos := _, after := _, guard := none }) (v := .int .i64 (q2 : Int)) rfl (by kernel_rfl) (by kernel_rfl) (by kernel_rfl) (by kernel_rfl) (fun _ _ _ h => h) (yields_take rfl (fun w' hw => by obtain ⟨h1, h2, h3, h4⟩ := hw.const; go_simp)) hS0.out ?_
      simp only [Act.put, List.setIfInBounds_toArray, List.set_cons_zero, List.set_cons_succ]
      refine wpAnyU_take (i := 17) (oi := { dst := some 47, op := _, type := _, pos := _, after := _, guard := none }) (v := .pointer (some ⟨b2, o2 + q2, none⟩)) rfl (by kernel_rfl) (by kernel_rfl) (by kernel_rfl) (by kernel_rfl) (fun _ _ _ h => h) (yields_take rfl (fun w' hw => by obtain ⟨h1, h2, h3, h4⟩ := hw.const; go_simp)) hS0.out ?_
      simp only [Act.put, List.setIfInBounds_toArray, List.set_cons_zero, List.set_cons_succ]
      refine wpAnyU_take (i := 18) (oi := { dst := some 48, op := _, type := _, pos := _, after := _, guard := none }) (v := .int .i32 y) rfl (by kernel_rfl) (by kernel_rfl) (by kernel_rfl) (by kernel_rfl) (fun _ _ _ h => h) (yields_take rfl (fun w' hw => by obtain ⟨h1, h2, h3, h4⟩ := hw.const; go_simp)) hS0.out ?_
      simp only [Act.put, List.setIfInBounds_toArray, List.set_cons_zero, List.set_cons_succ]
      refine wpAnyU_take (i := 19) (oi := { dst := some 49, op := _, type := _, pos := _, after := _, guard := none }) (v := .int .i32 z) rfl (by kernel_rfl) (by kernel_rfl) (by kernel_rfl) (by kernel_rfl) (fun _ _ _ h => h) (yields_take rfl (fun w' hw => by obtain ⟨h1, h2, h3, h4⟩ := hw.const; go_simp)) hS0.out ?_
      simp only [Act.put, List.setIfInBounds_toArray, List.set_cons_zero, List.set_cons_succ]
      refine wpAnyU_one (i := 20) (by kernel_rfl) rfl ?_
      intro K hK
      go_simp
      refine Calls.mono (sumadd_any p z s0 _ HX1.out) ?_
      rintro e w2 ⟨rfl, hw2⟩
      dsimp only
      have hg2 : w1.grownBy w2 (some p) := grown_trans hg1 (by rw [hw2]; exact setCell_self _ _ _)
      have hS1 : Hid (w2.cell? ⟨w.heap.size, 1, none⟩ = some (.slice (some ⟨b1, o1, none⟩) m d) ∧ w2.cell? ⟨w.heap.size + 1, 1, none⟩ = some (.slice (some ⟨b2, o2, none⟩) m' d') ∧ w2.cell? ⟨b1, o1 + q1, none⟩ = some (.int .i32 x) ∧ w2.cell? ⟨b2, o2 + q2, none⟩ = some (.int .i32 y)) := hide (HF2.out _ hg2)
      refine hK.out _ _ hS1.out (fun _ => ?_)
      clear hK K hS0
      refine wpAnyU_done (by kernel_rfl) ?_ _
      clear hS1
      have HNG : Hid (w1.grownBy w2 (some p)) := hide hg2
      have HNX : Hid (Box1 w2 p 21 (.int .i32 (dotN l l' K N I j (k + 1)))) := hide (by rw [← HD.out, hw2]; exact HX1.out.set _)
      clear hw2
      go_wp2
      go_roundw
      case rel => exact ⟨k + 1, by omega, by go_num, HNX, HNG⟩
      case measure => simp [intOf]; omega
    · obtain rfl : k = K := by omega
      have HBE := hide (HBW.out _ HG.out)
      go_wp2_with fail
      refine Calls.mono (sumtotal_any p _ _ HX.out) ?_
      rintro e w2 ⟨rfl, rfl⟩
      go_wp2
      go_ret
      exact ⟨rfl, HBE.out⟩

end Go.Proofs.Ytlalfjlcgabnnaa
