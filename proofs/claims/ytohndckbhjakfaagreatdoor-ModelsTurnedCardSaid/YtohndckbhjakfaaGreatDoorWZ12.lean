/- Merged: Mv6, Gr5, Beyond, Ml6. -/
import Derived.Test.YtohndckbhjakfaaGreatDoorWZ11
import Derived.Test.YtohndckbhjakfaaGreatDoorWZ00
import Derived.Test.YtohndckbhjakfaaGreatDoorWZ09
namespace Go.Proofs.YtohndckbhjakfaaGreatDoor

section
open Go.RowKit
set_option linter.unusedVariables false
set_option linter.unusedSimpArgs false
set_option maxRecDepth 100000

/-- A shape without one of its directions; of none 1. -/
def woL (s : List Int) (a : Nat) : List Int := if s.length = 1 then [1] else s.take a ++ s.drop (a + 1)

theorem woL_one {s : List Int} {a : Nat} (h : s.length = 1) : woL s a = [1] := by rw [woL, if_pos h]

theorem woL_more {s : List Int} {a : Nat} (h : ¬ s.length = 1) : woL s a = s.take a ++ s.drop (a + 1) := by rw [woL, if_neg h]

end

section
open Go.RowKit
set_option linter.unusedVariables false
set_option linter.unusedSimpArgs false
set_option maxRecDepth 100000

set_option maxHeartbeats 1000000 in
theorem grow5_any (k : Nat) (w : World) (hk : k ≤ 4096) :
    Calls Tryz.prog 148 #[.slice none 0 0, .int .i64 (k : Int)] w fun e w' => ∃ G c', e = .returned (.slice G 0 c') ∧ w'.ownsRow w.heap.size 3 1 (.slice G 0 c') 0 [] ∧ Below w.heap.size w w' := by
  by_cases h1 : 1 ≤ k
  · refine Calls.mono (grow_nil k w ⟨h1, hk⟩) ?_
    rintro e w1 ⟨g, c', rfl, ho, hb⟩
    exact ⟨_, _, rfl, ho, hb⟩
  · obtain rfl : k = 0 := by omega
    go_enter Tryz.func148, Tryz.ntmps148
    go_wp2
    go_ret
    exact ⟨none, 0, rfl, World.ownsRow_nil _ _ _ _, Below.refl _ _⟩

set_option maxHeartbeats 4000000 in
theorem concat_any (q : Nat) (A1 A2 : Option Addr) (n1 c1 n2 c2 : Nat) (xs ys : List Int) (w : World) (hq : w.heap[q]? = some (.cells #[.slice A1 n1 c1, .slice A2 n2 c2] 35 (0, 0))) (h1 : Lies w A1 n1 (xs.map (Value.int .i64))) (h2 : Lies w A2 n2 (ys.map (Value.int .i64))) (hn1 : A1 = none → c1 = 0) (hn2 : A2 = none → c2 = 0) (hhi : n1 + n2 ≤ 4096) :
    Calls Tryz.prog 136 #[.slice (some ⟨q, 0, none⟩) 2 2] w fun e w' => ∃ A' c', e = .returned (.slice A' (n1 + n2) c') ∧ w'.ownsRow w.heap.size 3 1 (.slice A' (n1 + n2) c') (n1 + n2) ((xs ++ ys).map (Value.int .i64)) ∧ Below w.heap.size w w' := by
  obtain ⟨i, hi, hz0, hz1, hz2⟩ := info_parts Tryz.infoI
  have HI := hide hi
  have HZ0 := hide hz0
  have HZ1 := hide hz1
  have HZ2 := hide hz2
  clear hi hz0 hz1 hz2
  have HC : Hid (∀ v, Below w.heap.size w v → v.cell? ⟨q, 0, none⟩ = some (.slice A1 n1 c1) ∧ v.cell? ⟨q, 1, none⟩ = some (.slice A2 n2 c2)) := hide (fun v hv => ⟨cell_of_row _ _ 0 _ _ (0, 0) ((hv.block _ (lt_of_heap hq)).trans hq), cell_of_row _ _ 1 _ _ (0, 0) ((hv.block _ (lt_of_heap hq)).trans hq)⟩)
  have H1 := hide h1
  have H2 := hide h2
  have HN1 := hide hn1
  have HN2 := hide hn2
  clear hq h1 h2 hn1 hn2
  go_enter Tryz.func136, Tryz.ntmps136
  go_wp2
  go_loopw [3, 11] (fun sv iv wr => ∃ (k z : Nat), iv = .int .i64 (k : Int) ∧ sv = .int .i64 (z : Int) ∧ (k = 0 ∧ z = 0 ∨ k = 1 ∧ n1 = z ∨ k = 2 ∧ n1 + n2 = z) ∧ Hid (wr = w)) (fun _ iv _ => 2 - (intOf iv).toNat)
  case atStart => exact ⟨0, 0, rfl, rfl, .inl ⟨rfl, rfl⟩, hide rfl⟩
  case round =>
    obtain ⟨k, z, rfl, rfl, hkz, HW⟩ := hrel
    obtain rfl : w = wr := HW.out.symm
    obtain ⟨a0, a1⟩ := HC.out _ (Below.refl _ _)
    rcases hkz with ⟨rfl, rfl⟩ | ⟨rfl, rfl⟩ | ⟨rfl, rfl⟩
    · have f1 : ¬ ((n1 : Int) < 0) := by omega
      go_wp2
      go_roundw
      case rel => exact ⟨1, n1, by go_num, by go_num, .inr (.inl ⟨rfl, rfl⟩), by first | exact hide rfl | exact hide trivial⟩
      case measure => simp [intOf]
    · have f1 : ¬ ((n1 : Int) + (n2 : Int) < 0) := by omega
      go_wp2
      go_roundw
      case rel => exact ⟨2, n1 + n2, by go_num, by go_num, .inr (.inr ⟨rfl, rfl⟩), by first | exact hide rfl | exact hide trivial⟩
      case measure => simp [intOf]
    · obtain ⟨N, hN⟩ : ∃ z, z = n1 + n2 := ⟨_, rfl⟩
      rw [← hN] at hhi ⊢
      have HN := hide hN
      clear hN
      go_wp2_with fail
      refine Calls.mono (grow5_any N _ hhi) ?_
      rintro e w1 ⟨G0, k0, rfl, ho0, hb0⟩
      have HO0 := hide ho0
      have HB0 := hide hb0
      clear ho0 hb0 a0 a1
      go_wp2
      go_loopw [6, 27] (fun sv iv wv => ∃ (k m c' : Nat) (A' : Option Addr) (zs : List Int), iv = .int .i64 (k : Int) ∧ sv = .slice A' m c' ∧ (k = 0 ∧ m = 0 ∧ zs = [] ∨ k = 1 ∧ n1 = m ∧ xs = zs ∨ k = 2 ∧ N = m ∧ xs ++ ys = zs) ∧ Hid (wv.ownsRow w.heap.size 3 1 (.slice A' m c') m (zs.map (Value.int .i64))) ∧ Hid (Below w.heap.size w wv)) (fun _ iv _ => 2 - (intOf iv).toNat)
      case atStart => exact ⟨0, 0, k0, G0, [], rfl, rfl, .inl ⟨rfl, rfl, rfl⟩, HO0, HB0⟩
      case round =>
        obtain ⟨k, m, c', A', zs, rfl, rfl, hkz, HO, HB⟩ := hrel
        have hbs := HB.out.size
        rcases hkz with ⟨rfl, rfl, rfl⟩ | ⟨rfl, rfl, rfl⟩ | ⟨rfl, rfl, rfl⟩
        · obtain ⟨a0, a1⟩ := HC.out _ HB.out
          go_wp2_with (at_builtin; refine wpList_append_src rfl _ _ 35 rfl 3 i (.int .i64 0) 8 Tryz.underlying35 HI.out HZ0.out HZ1.out HZ2.out rfl w.heap.size (.slice A' 0 c') 0 _ rfl HO.out hbs A1 n1 c1 (xs.map (Value.int .i64)) rfl (H1.out.below HB.out) HN1.out (ints_one _ _) (by have := HN.out; omega) (by have := HN.out; unfold maxLen; omega) ?_)
          intro A4 c4 w9 HO4 hg4
          have hb9 := hide (below_own9 HB.out hbs HO.out hg4 (Nat.le_refl _))
          have HO9 := hide HO4
          clear a0 a1 HO4 hg4
          go_wp2
          go_roundw
          case rel => exact ⟨1, n1, c4, A4, xs, by go_num, by simp, .inr (.inl ⟨rfl, rfl, rfl⟩), by simpa using HO9, hb9⟩
          case measure => simp [intOf]
        · obtain ⟨a0, a1⟩ := HC.out _ HB.out
          go_wp2_with (at_builtin; refine wpList_append_src rfl _ _ 35 rfl 3 i (.int .i64 0) 8 Tryz.underlying35 HI.out HZ0.out HZ1.out HZ2.out rfl w.heap.size (.slice A' n1 c') n1 _ rfl HO.out hbs A2 n2 c2 (ys.map (Value.int .i64)) rfl (H2.out.below HB.out) HN2.out (ints_one _ _) (by have := HN.out; omega) (by have := HN.out; unfold maxLen; omega) ?_)
          intro A4 c4 w9 HO4 hg4
          have hb9 := hide (below_own9 HB.out hbs HO.out hg4 (Nat.le_refl _))
          rw [← HN.out, ← List.map_append] at HO4
          have HO9 := hide HO4
          clear a0 a1 HO4 hg4
          go_wp2
          go_roundw
          case rel => exact ⟨2, N, c4, A4, xs ++ ys, by go_num, by rw [HN.out], .inr (.inr ⟨rfl, rfl, rfl⟩), HO9, hb9⟩
          case measure => simp [intOf]
        · go_wp2
          go_ret
          exact ⟨A', c', by rw [← HN.out]; rfl, by rw [← HN.out]; exact HO.out, HB.out⟩

/-- A list without one of its numbers. -/
def outL (s : List Int) (a : Nat) : List Int := s.take a ++ s.drop (a + 1)

set_option maxHeartbeats 4000000 in
theorem gwithout_any (A : Option Addr) (n c a : Nat) (s : List Int) (w : World) (hA : Lies w A n (s.map (Value.int .i64))) (ha : a < n) (hc : n ≤ c) (hn : n ≤ 4096) :
    Calls Tryz.prog 123 #[.slice A n c, .int .i64 (a : Int)] w fun e w' => ∃ G k c', e = .returned (.slice G k c') ∧ k = n - 1 ∧ w'.ownsRow w.heap.size 3 1 (.slice G k c') k ((outL s a).map (Value.int .i64)) ∧ Below w.heap.size w w' := by
  have hlen : s.length = n := by have := hA.len; simpa using this
  have HA := hide hA
  have HLEN := hide hlen
  obtain ⟨b, o, rfl, _, _⟩ := byte_at hA (by omega)
  clear hA hlen
  obtain ⟨a2, ha2⟩ : ∃ z, z = a + 1 := ⟨_, rfl⟩
  obtain ⟨r, hr⟩ : ∃ z, z = n - a2 := ⟨_, rfl⟩
  obtain ⟨rc, hrc⟩ : ∃ z, z = c - a2 := ⟨_, rfl⟩
  have m1 : IntKind.i64.wrap ((a : Int) + 1) = (a2 : Int) := by rw [IntKind.wrap_i64]; omega
  have k1 : (0 : Int) ≤ (a : Int) := by omega
  have k2 : (a : Int) ≤ (c : Int) := by omega
  have k3 : (0 : Int) ≤ (a2 : Int) := by omega
  have k4 : (a2 : Int) ≤ (n : Int) := by omega
  have k5 : (n : Int) ≤ (c : Int) := by omega
  have k6 : a ≤ c := by omega
  have k7 : a2 ≤ n := by omega
  have k8 : n ≤ c := hc
  have k9 : n - a2 = r := hr.symm
  have k10 : c - a2 = rc := hrc.symm
  have HA2 := hide ha2
  have hra : a + r ≤ 4096 := by omega
  have HRA : Hid (a + r = n - 1) := hide (by omega)
  clear ha2 hr hrc
  obtain ⟨A2, hA2⟩ : ∃ z : Option Addr, z = (if c = a2 then some ⟨b, o, none⟩ else some ⟨b, o + a2, none⟩) := ⟨_, rfl⟩
  have HD : Hid (∀ v, Below w.heap.size w v → Lies v A2 r ((s.drop a2).map (Value.int .i64))) := hide (fun v hv => by
    have h := (HA.out.below hv).drop (k := a2) (cap := c) k7 hc
    rw [← List.map_drop, k9] at h
    rw [hA2]
    by_cases e : c = a2
    · rw [if_pos e] at h ⊢; exact h
    · rw [if_neg e] at h ⊢; simpa [Addr.add_lit] using h)
  have HT : Hid (∀ v, Below w.heap.size w v → Lies v (some ⟨b, o, none⟩) a ((s.take a).map (Value.int .i64))) := hide (fun v hv => by
    have h := (HA.out.below hv).take (k := a) (by omega)
    rwa [← List.map_take] at h)
  have HNN : Hid (A2 = none → rc = 0) := hide (fun e => by rw [hA2] at e; split at e <;> cases e)
  have hd0 : Below w.heap.size w w.drew := below_drewN (Below.refl _ _) 1
  go_enter Tryz.func123, Tryz.ntmps123
  go_wp2
  by_cases e : c = a2
  · rw [if_pos e] at hA2
    subst hA2
    obtain rfl : a2 = c := e.symm
    obtain rfl : 0 = rc := by omega
    have hS0 : Hid (True) := hide (trivial)
    refine wp_region_U (fun _ v => True) 99 (by kernel_rfl) ?_
    refine wpAnyU_take (i := 0) (oi := { dst := some 5, op := _, type := _, pos := _, after := _, guard := none }) (v := .slice (some ⟨b, o, none⟩) n a2) rfl (by kernel_rfl) (by kernel_rfl) (by kernel_rfl) (by kernel_rfl) (fun _ _ _ h => h) (yields_take rfl (fun w' hw => by go_simp)) hS0.out ?_
    simp only [Act.put, List.setIfInBounds_toArray, List.set_cons_zero, List.set_cons_succ]
    refine wpAnyU_take (i := 1) (oi := { dst := some 6, op := _, type := _, pos := _, after := _, guard := none }) (v := .int .i64 (a : Int)) rfl (by kernel_rfl) (by kernel_rfl) (by kernel_rfl) (by kernel_rfl) (fun _ _ _ h => h) (yields_take rfl (fun w' hw => by go_simp)) hS0.out ?_
    simp only [Act.put, List.setIfInBounds_toArray, List.set_cons_zero, List.set_cons_succ]
    refine wpAnyU_take (i := 2) (oi := { dst := some 7, op := _, type := _, pos := _, after := _, guard := none }) (v := .slice (some ⟨b, o, none⟩) a a2) rfl (by kernel_rfl) (by kernel_rfl) (by kernel_rfl) (by kernel_rfl) (fun _ _ _ h => h) (yields_take rfl (fun w' hw => by go_simp)) hS0.out ?_
    simp only [Act.put, List.setIfInBounds_toArray, List.set_cons_zero, List.set_cons_succ]
    refine wpAnyU_take (i := 3) (oi := { dst := some 8, op := _, type := _, pos := _, after := _, guard := none }) (v := .slice (some ⟨b, o, none⟩) n a2) rfl (by kernel_rfl) (by kernel_rfl) (by kernel_rfl) (by kernel_rfl) (fun _ _ _ h => h) (yields_take rfl (fun w' hw => by go_simp)) hS0.out ?_
    simp only [Act.put, List.setIfInBounds_toArray, List.set_cons_zero, List.set_cons_succ]
    refine wpAnyU_take (i := 4) (oi := { dst := some 9, op := _, type := _, pos := _, after := _, guard := none }) (v := .int .i64 (a : Int)) rfl (by kernel_rfl) (by kernel_rfl) (by kernel_rfl) (by kernel_rfl) (fun _ _ _ h => h) (yields_take rfl (fun w' hw => by go_simp)) hS0.out ?_
    simp only [Act.put, List.setIfInBounds_toArray, List.set_cons_zero, List.set_cons_succ]
    refine wpAnyU_take (i := 5) (oi := { dst := some 10, op := _, type := _, pos := _, after := _, guard := none }) (v := .int .i64 (a2 : Int)) rfl (by kernel_rfl) (by kernel_rfl) (by kernel_rfl) (by kernel_rfl) (fun _ _ _ h => h) (yields_take rfl (fun w' hw => by go_simp)) hS0.out ?_
    simp only [Act.put, List.setIfInBounds_toArray, List.set_cons_zero, List.set_cons_succ]
    refine wpAnyU_take (i := 6) (oi := { dst := some 11, op := _, type := _, pos := _, after := _, guard := none }) (v := .slice (some ⟨b, o, none⟩) r 0) rfl (by kernel_rfl) (by kernel_rfl) (by kernel_rfl) (by kernel_rfl) (fun _ _ _ h => h) (yields_take rfl (fun w' hw => by go_simp)) hS0.out ?_
    simp only [Act.put, List.setIfInBounds_toArray, List.set_cons_zero, List.set_cons_succ]
    generalize hU0 : w.drew = U0
    have he : Below w.heap.size w U0 := by rw [← hU0]; exact hd0
    clear hU0
    refine wpAnyU_one (i := 7) (by kernel_rfl) rfl ?_
    intro K hK
    go_simp
    have hd1 : Below w.heap.size w (U0.alloc (.cells #[.slice (some ⟨b, o, none⟩) a a2, .slice (some ⟨b, o, none⟩) r 0] 35)) := below_al6 he
    have hS1 : Hid (True) := hide (trivial)
    refine hK.out _ _ hS1.out (fun _ => ?_)
    clear hK K hS0
    refine wpAnyU_one (i := 8) (by kernel_rfl) rfl ?_
    intro K hK
    go_simp
    refine Calls.mono (concat_any U0.heap.size (some ⟨b, o, none⟩) (some ⟨b, o, none⟩) a a2 r 0 (s.take a) (s.drop a2) _ (heap_alloc_new U0 _) (HT.out _ hd1) (HD.out _ hd1) (fun e => by cases e) HNN.out (by omega)) ?_
    rintro e w2 ⟨G, c9, rfl, ho, hb⟩
    dsimp only
    have hd2 : Below w.heap.size w w2 := below_nx6 hd1 hb
    have hS2 : Hid (True) := hide (trivial)
    refine hK.out _ _ hS2.out (fun _ => ?_)
    clear hK K hS1
    refine wpAnyU_take (i := 9) (oi := { dst := some 4, op := _, type := _, pos := _, after := _, guard := none }) (v := .slice G (a + r) c9) rfl (by kernel_rfl) (by kernel_rfl) (by kernel_rfl) (by kernel_rfl) (fun _ _ _ h => h) (yields_take rfl (fun w' hw => by go_simp)) hS2.out ?_
    simp only [Act.put, List.setIfInBounds_toArray, List.set_cons_zero, List.set_cons_succ]
    refine wpAnyU_done (by kernel_rfl) ?_ _
    clear hS2
    have HO := hide (own_base (base' := w.heap.size) ho (by have := hd1.size; omega))
    have HBE := hide hd2
    clear hd0 hd1 hd2 ho hb
    go_wp2
    go_ret
    exact ⟨G, a + r, c9, rfl, HRA.out, by rw [outL, ← HA2.out]; exact HO.out, HBE.out⟩
  · rw [if_neg e] at hA2
    subst hA2
    have hS0 : Hid (True) := hide (trivial)
    refine wp_region_U (fun _ v => True) 99 (by kernel_rfl) ?_
    refine wpAnyU_take (i := 0) (oi := { dst := some 5, op := _, type := _, pos := _, after := _, guard := none }) (v := .slice (some ⟨b, o, none⟩) n c) rfl (by kernel_rfl) (by kernel_rfl) (by kernel_rfl) (by kernel_rfl) (fun _ _ _ h => h) (yields_take rfl (fun w' hw => by go_simp)) hS0.out ?_
    simp only [Act.put, List.setIfInBounds_toArray, List.set_cons_zero, List.set_cons_succ]
    refine wpAnyU_take (i := 1) (oi := { dst := some 6, op := _, type := _, pos := _, after := _, guard := none }) (v := .int .i64 (a : Int)) rfl (by kernel_rfl) (by kernel_rfl) (by kernel_rfl) (by kernel_rfl) (fun _ _ _ h => h) (yields_take rfl (fun w' hw => by go_simp)) hS0.out ?_
    simp only [Act.put, List.setIfInBounds_toArray, List.set_cons_zero, List.set_cons_succ]
    refine wpAnyU_take (i := 2) (oi := { dst := some 7, op := _, type := _, pos := _, after := _, guard := none }) (v := .slice (some ⟨b, o, none⟩) a c) rfl (by kernel_rfl) (by kernel_rfl) (by kernel_rfl) (by kernel_rfl) (fun _ _ _ h => h) (yields_take rfl (fun w' hw => by go_simp)) hS0.out ?_
    simp only [Act.put, List.setIfInBounds_toArray, List.set_cons_zero, List.set_cons_succ]
    refine wpAnyU_take (i := 3) (oi := { dst := some 8, op := _, type := _, pos := _, after := _, guard := none }) (v := .slice (some ⟨b, o, none⟩) n c) rfl (by kernel_rfl) (by kernel_rfl) (by kernel_rfl) (by kernel_rfl) (fun _ _ _ h => h) (yields_take rfl (fun w' hw => by go_simp)) hS0.out ?_
    simp only [Act.put, List.setIfInBounds_toArray, List.set_cons_zero, List.set_cons_succ]
    refine wpAnyU_take (i := 4) (oi := { dst := some 9, op := _, type := _, pos := _, after := _, guard := none }) (v := .int .i64 (a : Int)) rfl (by kernel_rfl) (by kernel_rfl) (by kernel_rfl) (by kernel_rfl) (fun _ _ _ h => h) (yields_take rfl (fun w' hw => by go_simp)) hS0.out ?_
    simp only [Act.put, List.setIfInBounds_toArray, List.set_cons_zero, List.set_cons_succ]
    refine wpAnyU_take (i := 5) (oi := { dst := some 10, op := _, type := _, pos := _, after := _, guard := none }) (v := .int .i64 (a2 : Int)) rfl (by kernel_rfl) (by kernel_rfl) (by kernel_rfl) (by kernel_rfl) (fun _ _ _ h => h) (yields_take rfl (fun w' hw => by go_simp)) hS0.out ?_
    simp only [Act.put, List.setIfInBounds_toArray, List.set_cons_zero, List.set_cons_succ]
    refine wpAnyU_take (i := 6) (oi := { dst := some 11, op := _, type := _, pos := _, after := _, guard := none }) (v := .slice (some ⟨b, o + a2, none⟩) r rc) rfl (by kernel_rfl) (by kernel_rfl) (by kernel_rfl) (by kernel_rfl) (fun _ _ _ h => h) (yields_take rfl (fun w' hw => by go_simp)) hS0.out ?_
    simp only [Act.put, List.setIfInBounds_toArray, List.set_cons_zero, List.set_cons_succ]
    generalize hU0 : w.drew = U0
    have he : Below w.heap.size w U0 := by rw [← hU0]; exact hd0
    clear hU0
    refine wpAnyU_one (i := 7) (by kernel_rfl) rfl ?_
    intro K hK
    go_simp
    have hd1 : Below w.heap.size w (U0.alloc (.cells #[.slice (some ⟨b, o, none⟩) a c, .slice (some ⟨b, o + a2, none⟩) r rc] 35)) := below_al6 he
    have hS1 : Hid (True) := hide (trivial)
    refine hK.out _ _ hS1.out (fun _ => ?_)
    clear hK K hS0
    refine wpAnyU_one (i := 8) (by kernel_rfl) rfl ?_
    intro K hK
    go_simp
    refine Calls.mono (concat_any U0.heap.size (some ⟨b, o, none⟩) (some ⟨b, o + a2, none⟩) a c r rc (s.take a) (s.drop a2) _ (heap_alloc_new U0 _) (HT.out _ hd1) (HD.out _ hd1) (fun e => by cases e) HNN.out (by omega)) ?_
    rintro e w2 ⟨G, c9, rfl, ho, hb⟩
    dsimp only
    have hd2 : Below w.heap.size w w2 := below_nx6 hd1 hb
    have hS2 : Hid (True) := hide (trivial)
    refine hK.out _ _ hS2.out (fun _ => ?_)
    clear hK K hS1
    refine wpAnyU_take (i := 9) (oi := { dst := some 4, op := _, type := _, pos := _, after := _, guard := none }) (v := .slice G (a + r) c9) rfl (by kernel_rfl) (by kernel_rfl) (by kernel_rfl) (by kernel_rfl) (fun _ _ _ h => h) (yields_take rfl (fun w' hw => by go_simp)) hS2.out ?_
    simp only [Act.put, List.setIfInBounds_toArray, List.set_cons_zero, List.set_cons_succ]
    refine wpAnyU_done (by kernel_rfl) ?_ _
    clear hS2
    have HO := hide (own_base (base' := w.heap.size) ho (by have := hd1.size; omega))
    have HBE := hide hd2
    clear hd0 hd1 hd2 ho hb
    go_wp2
    go_ret
    exact ⟨G, a + r, c9, rfl, HRA.out, by rw [outL, ← HA2.out]; exact HO.out, HBE.out⟩

end

section
open Go.RowKit

def sumTo (zs : List Int) (k : Nat) : Int := (zs.take k).sum

end

section
open Go.RowKit
set_option linter.unusedVariables false
set_option linter.unusedSimpArgs false
set_option maxRecDepth 20000

theorem wrap32_range (a : Int) : -2147483648 ≤ wrap32 a ∧ wrap32 a < 2147483648 := by unfold wrap32; omega

theorem wrap32_id {a : Int} (h : -2147483648 ≤ a ∧ a < 2147483648) : wrap32 a = a := by unfold wrap32; omega

theorem add32_comm (x y : Int) : add32 x y = add32 y x := by unfold add32; rw [Int.add_comm]

theorem add32_assoc (x y z : Int) : add32 (add32 x y) z = add32 x (add32 y z) := by unfold add32 wrap32; omega

/-- m numbers and a mark behind, of which the first k are those of zs, the others those of xs. -/
def mixN (zs xs : List Int) (k : Nat) : List Value := (zs.take k ++ xs.drop k).map (Value.int .i32) ++ [.int .i32 77]

section
variable {zs xs : List Int} {m k : Nat}

theorem mixN_len (h1 : zs.length = m) (h2 : xs.length = m) (hk : k ≤ m) : (mixN zs xs k).length = m + 1 := by simp [mixN]; omega

theorem mixN_at (h1 : zs.length = m) (h2 : xs.length = m) (hk : k < m) : (mixN zs xs k)[k]? = some (.int .i32 (xs.getD k 0)) := by
  unfold mixN
  rw [List.getElem?_append_left (by simp; omega), List.getElem?_map, List.getElem?_append_right (by simp; omega)]
  simp [List.getD, List.getElem?_drop, show min k zs.length = k by omega, show k < xs.length by omega]

theorem mixN_none : mixN zs xs 0 = xs.map (Value.int .i32) ++ [.int .i32 77] := by simp [mixN]

theorem mixN_all (h1 : zs.length = m) (h2 : xs.length = m) : mixN zs xs m = zs.map (Value.int .i32) ++ [.int .i32 77] := by
  unfold mixN
  rw [List.take_of_length_le (by omega), List.drop_of_length_le (by omega), List.append_nil]

theorem mixN_set (h1 : zs.length = m) (h2 : xs.length = m) (hk : k < m) : (mixN zs xs k).set k (.int .i32 (zs.getD k 0)) = mixN zs xs (k + 1) := by
  apply List.ext_getElem?
  intro j
  rw [List.getElem?_set]
  have hl := mixN_len h1 h2 (Nat.le_of_lt hk)
  by_cases e : k = j
  · subst e
    rw [if_pos rfl, if_pos (by omega)]
    unfold mixN
    rw [List.getElem?_append_left (by simp; omega), List.getElem?_map, List.getElem?_append_left (by simp; omega), List.getElem?_take, if_pos (by omega)]
    simp [List.getD, show k < zs.length by omega]
  · rw [if_neg e]
    unfold mixN
    by_cases hj : j < m
    · rw [List.getElem?_append_left (by simp; omega), List.getElem?_append_left (by simp; omega), List.getElem?_map, List.getElem?_map]
      by_cases h : j < k
      · rw [List.getElem?_append_left (by simp; omega), List.getElem?_append_left (by simp; omega), List.getElem?_take, List.getElem?_take, if_pos h, if_pos (by omega)]
      · rw [List.getElem?_append_right (by simp; omega), List.getElem?_append_right (by simp; omega), List.getElem?_drop, List.getElem?_drop]
        simp only [List.length_take]
        congr 2
        omega
    · rw [List.getElem?_append_right (by simp; omega), List.getElem?_append_right (by simp; omega)]
      simp only [List.length_map, List.length_append, List.length_take, List.length_drop]
      congr 1
      omega

end

def MixAt (w : World) (g : Nat) (zs xs : List Int) (k : Nat) : Prop := w.heap[g]? = some (.cells (mixN zs xs k).toArray 21 (0, 0))

section
variable {w : World} {g m k : Nat} {zs xs : List Int}

theorem MixAt.cell (h : MixAt w g zs xs k) (h1 : zs.length = m) (h2 : xs.length = m) (hk : k < m) : w.cell? ⟨g, k, none⟩ = some (.int .i32 (xs.getD k 0)) := by
  rw [cell_of_row _ _ k _ _ (0, 0) h, List.getElem?_toArray, mixN_at h1 h2 hk]

theorem MixAt.frozen (h : MixAt w g zs xs k) (j : Nat) : w.frozen? ⟨g, j, none⟩ = false := frozen_of_row w g j _ _ h

theorem MixAt.lt (h : MixAt w g zs xs k) : g < w.heap.size := lt_of_heap h

theorem MixAt.set (h : MixAt w g zs xs k) (h1 : zs.length = m) (h2 : xs.length = m) (hk : k < m) : MixAt (w.setCell ⟨g, k, none⟩ (.int .i32 (zs.getD k 0))) g zs xs (k + 1) := by
  have e1 := setCell_eq_setRow w g k _ _ (0, 0) (.int .i32 (zs.getD k 0)) h
  have h3 := setRow_heap w g _ ((mixN zs xs k).toArray.setIfInBounds k (.int .i32 (zs.getD k 0))) _ _ h
  rw [e1]
  unfold MixAt
  rw [h3, ← mixN_set h1 h2 hk]
  simp

theorem MixAt.other (h : MixAt w g zs xs k) {a : Addr} (ha : g ≠ a.block) (v : Value) : MixAt (w.setCell a v) g zs xs k := (Below.heap_setCell w a v g ha).trans h

theorem MixAt.keep (h : MixAt w g zs xs k) {w' : World} {B : Nat} (hb : Below B w w') (hB : g < B) : MixAt w' g zs xs k := (hb.block g hB).trans h

theorem MixAt.of_own {base : Nat} (h : w.ownsRow base 21 1 (.slice (some ⟨g, 0, none⟩) (m + 1) (m + 1)) (m + 1) (xs.map (Value.int .i32) ++ [.int .i32 77])) (zs : List Int) : MixAt w g zs xs 0 := by
  obtain ⟨cur, hh, _, _, _, hs, ht⟩ := own_heap h
  unfold MixAt
  rw [hh, mixN_none, ← ht, Nat.mul_one, List.take_of_length_le (by simp; omega)]

theorem MixAt.lies (h : MixAt w g zs xs m) (h1 : zs.length = m) (h2 : xs.length = m) : Lies w (some ⟨g, 0, none⟩) m (zs.map (Value.int .i32)) :=
  ⟨by simp [h1], fun hm => ⟨g, 0, rfl, h.lt, fun j hj => by
    rw [Nat.zero_add, cell_of_row _ _ j _ _ (0, 0) h, List.getElem?_toArray, mixN_all h1 h2, List.getElem?_append_left (by simp; omega)]⟩⟩

end

/-- A tensor in a box. -/
def TenAt (w : World) (p : Nat) (A B : Option Addr) (n c m d : Nat) (s l : List Int) : Prop := BoxT w p (.slice A n c) (.slice B m d) ∧ Lies w A n (s.map (Value.int .i64)) ∧ Lies w B m (l.map (Value.int .i32))

section
variable {w : World} {p : Nat} {A B : Option Addr} {n c m d : Nat} {s l : List Int}

theorem TenAt.kept (h : TenAt w p A B n c m d s l) {w' : World} (hb : Below w.heap.size w w') : TenAt w' p A B n c m d s l := ⟨h.1.kept hb, h.2.1.below hb, h.2.2.below hb⟩

theorem TenAt.c0 (h : TenAt w p A B n c m d s l) : w.cell? ⟨p, 0, none⟩ = some (.slice A n c) := h.1.c0

theorem TenAt.c1 (h : TenAt w p A B n c m d s l) : w.cell? ⟨p, 1, none⟩ = some (.slice B m d) := h.1.c1

theorem TenAt.S (h : TenAt w p A B n c m d s l) : Lies w A n (s.map (Value.int .i64)) := h.2.1

theorem TenAt.L (h : TenAt w p A B n c m d s l) : Lies w B m (l.map (Value.int .i32)) := h.2.2

end

end

end Go.Proofs.YtohndckbhjakfaaGreatDoor

