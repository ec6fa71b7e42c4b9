/- Contracts of the statements' own helpers of layer 4: ints, SameInts, rises, and alive (the document's own examples come out as it says). -/
import Derived.Test.YtlkldodkoeaedaaShapeAt2
namespace Go.Proofs.Ytlkldodkoeaedaa
open Go.RowKit
set_option linter.unusedVariables false
set_option linter.unusedSimpArgs false

theorem ints_any (A : Option Addr) (n c : Nat) (w : World) : Calls Try.prog 13 #[.slice A n c] w fun e w' => e = .returned (.slice A n c) ∧ w' = w := by
  go_enter Try.func13, Try.ntmps13
  go_wp2
  go_ret
  exact ⟨rfl, rfl⟩
theorem lies_lit (w : World) (cs : List Int) (t : TypeId) : Lies (w.alloc (.cells (cs.map (Value.int .i64)).toArray t)) (some ⟨w.heap.size, 0, none⟩) cs.length (cs.map (Value.int .i64)) := by
  refine ⟨by simp, fun _ => ⟨w.heap.size, 0, rfl, by simp, fun j hj => ?_⟩⟩
  rw [cell_of_row _ _ _ _ _ _ (heap_alloc_new w _)]
  simp
theorem lies_row {w : World} {g : Nat} {zs : List Int} {t : TypeId} (h : w.heap[g]? = some (.cells (zs.map (Value.int .i64)).toArray t (0, 0))) : Lies w (some ⟨g, 0, none⟩) zs.length (zs.map (Value.int .i64)) := by
  refine ⟨by simp, fun _ => ⟨g, 0, rfl, lt_of_heap h, fun j hj => ?_⟩⟩
  rw [cell_of_row _ _ _ _ _ _ h]
  simp

set_option maxHeartbeats 400000 in
theorem same_ints (A B : Option Addr) (n c d : Nat) (zs : List Int) (w : World) (h : Lies w A n (zs.map (Value.int .i64))) (k : Lies w B n (zs.map (Value.int .i64))) (hm : n ≤ 281474976710656) :
    Calls Try.prog 14 #[.slice A n c, .slice B n d] w fun e w' => e = .returned (.bool true) ∧ ∃ k, w' = w.drewN k := by
  have HA := hide h
  have HB := hide k
  clear h k
  go_enter Try.func14, Try.ntmps14
  go_wp2
  go_loopw [5] (fun i wr => ∃ k : Nat, k ≤ n ∧ i = .int .i64 k ∧ ∃ j, wr = w.drewN j) (fun i _ => n - (intOf i).toNat)
  case atStart => exact ⟨0, Nat.zero_le _, rfl, 0, rfl⟩
  case round =>
    obtain ⟨k, hk, rfl, j, rfl⟩ := hrel
    by_cases hlt : k < n
    · obtain ⟨b, o, rfl, _, hx⟩ := byte_at HA.out (by omega)
      obtain ⟨b', o', rfl, _, hy⟩ := byte_at HB.out (by omega)
      obtain ⟨z, hz⟩ : ∃ z, z = zs.getD k 0 := ⟨_, rfl⟩
      have h1 : w.cell? ⟨b, o + k, none⟩ = some (.int .i64 z) := by rw [hz]; exact hx k hlt
      have h2 : w.cell? ⟨b', o' + k, none⟩ = some (.int .i64 z) := by rw [hz]; exact hy k hlt
      have h0 : (0 : Int) ≤ (k : Int) := by omega
      have h3 : (k : Int) < (n : Int) := by omega
      clear hx hy hz
      go_wp2
      go_quiet (fail)
      go_wp2
      go_roundw
      case rel => exact ⟨k + 1, by omega, by go_num, _, rfl⟩
      case measure => simp [intOf]; omega
    · go_wp2
      go_ret
      exact ⟨rfl, _, rfl⟩

/-- rises: where the first place in which two lists part is greater in the second one, true. -/
theorem rises_any (A B : Option Addr) (n c d m : Nat) (xs ys : List Int) (w : World) (h : Lies w A n (xs.map (Value.int .i64))) (k : Lies w B n (ys.map (Value.int .i64))) (hm : n ≤ 281474976710656)
    (hmn : m < n) (hpre : ∀ j, j < m → xs.getD j 0 = ys.getD j 0) (hlt : xs.getD m 0 < ys.getD m 0) :
    Calls Try.prog 12 #[.slice A n c, .slice B n d] w fun e w' => e = .returned (.bool true) ∧ Below w.heap.size w w' := by
  have HA := hide h
  have HB := hide k
  have HP := hide hpre
  have HT := hide hlt
  clear h k hpre hlt
  go_enter Try.func12, Try.ntmps12
  go_wp2
  go_loopw [5] (fun i wr => ∃ k : Nat, k ≤ m ∧ i = .int .i64 k ∧ ∃ j, wr = w.drewN j) (fun i _ => n - (intOf i).toNat)
  case atStart => exact ⟨0, Nat.zero_le _, rfl, 0, rfl⟩
  case round =>
    obtain ⟨k, hk, rfl, j, rfl⟩ := hrel
    obtain ⟨b, o, rfl, _, hx⟩ := byte_at HA.out (by omega)
    obtain ⟨b', o', rfl, _, hy⟩ := byte_at HB.out (by omega)
    have h0 : (0 : Int) ≤ (k : Int) := by omega
    have h3 : (k : Int) < (n : Int) := by omega
    by_cases hlt : k < m
    · obtain ⟨z, hz⟩ : ∃ z, z = xs.getD k 0 := ⟨_, rfl⟩
      have h1 : w.cell? ⟨b, o + k, none⟩ = some (.int .i64 z) := by rw [hz]; exact hx k (by omega)
      have h2 : w.cell? ⟨b', o' + k, none⟩ = some (.int .i64 z) := by rw [hz, HP.out k hlt]; exact hy k (by omega)
      clear hx hy hz
      go_wp2
      go_quiet (fail)
      go_wp2
      go_roundw
      case rel => exact ⟨k + 1, by omega, by go_num, _, rfl⟩
      case measure => simp [intOf]; omega
    · obtain rfl : k = m := by omega
      obtain ⟨z, hz⟩ : ∃ z, z = xs.getD k 0 := ⟨_, rfl⟩
      obtain ⟨y, hyy⟩ : ∃ y, y = ys.getD k 0 := ⟨_, rfl⟩
      have h1 : w.cell? ⟨b, o + k, none⟩ = some (.int .i64 z) := by rw [hz]; exact hx k (by omega)
      have h2 : w.cell? ⟨b', o' + k, none⟩ = some (.int .i64 y) := by rw [hyy]; exact hy k (by omega)
      have hzy : z < y := by rw [hz, hyy]; exact HT.out
      have hne : ¬ z = y := by omega
      clear hx hy hz hyy
      go_wp2
      go_quiet (fail)
      go_wp2
      go_quiet (fail)
      go_wp2
      go_ret
      exact ⟨rfl, by repeat (first | exact Below.refl _ _ | refine below_drewN ?_ _)⟩


set_option maxRecDepth 100000 in
set_option maxHeartbeats 4000000 in
theorem alive4_any (w : World) : Calls Try.prog 7 #[] w fun e w' => e = .returned (.bool true) ∧ Below w.heap.size w w' := by
  have HB0 := hide (Below.refl w.heap.size w)
  have hs0 : w.heap.size ≤ w.heap.size := Nat.le_refl _
  go_enter Try.func7, Try.ntmps7
  go_wp2_with fail
  refine Calls.mono (ints_any (some ⟨w.heap.size, 0, none⟩) 2 2 _) ?_
  rintro e _ ⟨rfl, rfl⟩
  have HL0 : Hid (Lies (w.alloc (.cells #[.int .i64 2, .int .i64 3] 3)) (some ⟨w.heap.size, 0, none⟩) 2 (([2, 3] : List Int).map (Value.int .i64))) := hide (by have h := lies_lit w [2, 3] 3; rw [show w.heap.size = w.heap.size by first | rfl | simp] at h; exact h)
  have HBa0 := hide (HB0.out.alloc hs0 (.cells #[.int .i64 2, .int .i64 3] 3))
  have hsa0 := HBa0.out.size
  clear HB0 hs0
  have HB1 := HBa0
  have hs1 := hsa0
  clear HBa0 hsa0
  go_wp2_with fail
  refine Calls.mono (ints_any (some ⟨w.heap.size + 1, 0, none⟩) 2 2 _) ?_
  rintro e _ ⟨rfl, rfl⟩
  have HL1 : Hid (Lies ((w.alloc (.cells #[.int .i64 2, .int .i64 3] 3)).alloc (.cells #[.int .i64 1, .int .i64 2] 3)) (some ⟨w.heap.size + 1, 0, none⟩) 2 (([1, 2] : List Int).map (Value.int .i64))) := hide (by have h := lies_lit (w.alloc (.cells #[.int .i64 2, .int .i64 3] 3)) [1, 2] 3; rw [show (w.alloc (.cells #[.int .i64 2, .int .i64 3] 3)).heap.size = w.heap.size + 1 by first | rfl | simp] at h; exact h)
  have HL0x := hide (HL0.out.alloc (.cells #[.int .i64 1, .int .i64 2] 3))
  clear HL0
  have HL0 := HL0x
  clear HL0x
  have HBa1 := hide (HB1.out.alloc hs1 (.cells #[.int .i64 1, .int .i64 2] 3))
  have hsa1 := HBa1.out.size
  clear HB1 hs1
  have HB2 := HBa1
  have hs2 := hsa1
  clear HBa1 hsa1
  go_wp2_with fail
  refine Calls.mono (index_ok (some ⟨w.heap.size, 0, none⟩) (some ⟨w.heap.size + 1, 0, none⟩) 2 2 2 2 [2, 3] [1, 2] _ HL0.out HL1.out (by omega) (by omega) (by decide)) ?_
  rintro e w2 ⟨rfl, hb⟩
  rw [show valI [2, 3] [1, 2] = 5 by decide]
  have HBb2 := hide (HB2.out.trans (hb.mono hs2))
  have hsb2 := HBb2.out.size
  clear HL0
  clear HL1
  clear hb
  clear HB2 hs2
  have HB3 := HBb2
  have hs3 := hsb2
  clear HBb2 hsb2
  go_wp2_with fail
  refine Calls.mono (ints_any (some ⟨w2.heap.size, 0, none⟩) 2 2 _) ?_
  rintro e _ ⟨rfl, rfl⟩
  have HL3 : Hid (Lies (w2.alloc (.cells #[.int .i64 2, .int .i64 3] 3)) (some ⟨w2.heap.size, 0, none⟩) 2 (([2, 3] : List Int).map (Value.int .i64))) := hide (by have h := lies_lit w2 [2, 3] 3; rw [show w2.heap.size = w2.heap.size by first | rfl | simp] at h; exact h)
  have HBa3 := hide (HB3.out.alloc hs3 (.cells #[.int .i64 2, .int .i64 3] 3))
  have hsa3 := HBa3.out.size
  clear HB3 hs3
  have HB4 := HBa3
  have hs4 := hsa3
  clear HBa3 hsa3
  go_wp2_with fail
  refine Calls.mono (at_ok (some ⟨w2.heap.size, 0, none⟩) 2 2 4 [2, 3] _ HL3.out (by omega) (by omega) (by decide)) ?_
  rintro e w4 ⟨g, hg, rfl, hrow, hb⟩
  rw [show digs [2, 3] 4 = [1, 1] by decide] at hrow
  have HROW := hide (lies_row hrow)
  have HBb4 := hide (HB4.out.trans (hb.mono hs4))
  have hsb4 := HBb4.out.size
  clear HL3
  clear hb
  clear HB4 hs4
  have HB5 := HBb4
  have hs5 := hsb4
  clear HBb4 hsb4
  go_wp2_with fail
  refine Calls.mono (ints_any (some ⟨w4.heap.size, 0, none⟩) 2 2 _) ?_
  rintro e _ ⟨rfl, rfl⟩
  have HL5 : Hid (Lies (w4.alloc (.cells #[.int .i64 2, .int .i64 3] 3)) (some ⟨w4.heap.size, 0, none⟩) 2 (([2, 3] : List Int).map (Value.int .i64))) := hide (by have h := lies_lit w4 [2, 3] 3; rw [show w4.heap.size = w4.heap.size by first | rfl | simp] at h; exact h)
  have HROWx := hide (HROW.out.alloc (.cells #[.int .i64 2, .int .i64 3] 3))
  clear HROW
  have HROW := HROWx
  clear HROWx
  have HBa5 := hide (HB5.out.alloc hs5 (.cells #[.int .i64 2, .int .i64 3] 3))
  have hsa5 := HBa5.out.size
  clear HB5 hs5
  have HB6 := HBa5
  have hs6 := hsa5
  clear HBa5 hsa5
  go_wp2_with fail
  refine Calls.mono (at_err (some ⟨w4.heap.size, 0, none⟩) 2 2 6 [2, 3] _ HL5.out (by omega) (by decide)) ?_
  rintro e w6 ⟨rfl, hb⟩
  have HBb6 := hide (HB6.out.trans (hb.mono hs6))
  have hsb6 := HBb6.out.size
  have HROWx := hide (HROW.out.below hb)
  clear HROW
  have HROW := HROWx
  clear HROWx
  clear HL5
  clear hb
  clear HB6 hs6
  have HB7 := HBb6
  have hs7 := hsb6
  clear HBb6 hsb6
  go_wp2_with fail
  refine Calls.mono (ints_any (some ⟨w6.heap.size, 0, none⟩) 2 2 _) ?_
  rintro e _ ⟨rfl, rfl⟩
  have HL7 : Hid (Lies (w6.alloc (.cells #[.int .i64 2, .int .i64 3] 3)) (some ⟨w6.heap.size, 0, none⟩) 2 (([2, 3] : List Int).map (Value.int .i64))) := hide (by have h := lies_lit w6 [2, 3] 3; rw [show w6.heap.size = w6.heap.size by first | rfl | simp] at h; exact h)
  have HROWx := hide (HROW.out.alloc (.cells #[.int .i64 2, .int .i64 3] 3))
  clear HROW
  have HROW := HROWx
  clear HROWx
  have HBa7 := hide (HB7.out.alloc hs7 (.cells #[.int .i64 2, .int .i64 3] 3))
  have hsa7 := HBa7.out.size
  clear HB7 hs7
  have HB8 := HBa7
  have hs8 := hsa7
  clear HBa7 hsa7
  go_wp2_with fail
  refine Calls.mono (size_any (some ⟨w6.heap.size, 0, none⟩) 2 2 [2, 3] _ HL7.out (by omega)) ?_
  rintro e w8 ⟨rfl, hb⟩
  rw [show sizeI [2, 3] = 6 by decide]
  have HBb8 := hide (HB8.out.trans (hb.mono hs8))
  have hsb8 := HBb8.out.size
  have HROWx := hide (HROW.out.below hb)
  clear HROW
  have HROW := HROWx
  clear HROWx
  clear HL7
  clear hb
  clear HB8 hs8
  have HB9 := HBb8
  have hs9 := hsb8
  clear HBb8 hsb8
  go_wp2_with fail
  refine Calls.mono (ints_any (some ⟨w8.heap.size, 0, none⟩) 2 2 _) ?_
  rintro e _ ⟨rfl, rfl⟩
  have HL9 : Hid (Lies (w8.alloc (.cells #[.int .i64 1, .int .i64 1] 3)) (some ⟨w8.heap.size, 0, none⟩) 2 (([1, 1] : List Int).map (Value.int .i64))) := hide (by have h := lies_lit w8 [1, 1] 3; rw [show w8.heap.size = w8.heap.size by first | rfl | simp] at h; exact h)
  have HROWx := hide (HROW.out.alloc (.cells #[.int .i64 1, .int .i64 1] 3))
  clear HROW
  have HROW := HROWx
  clear HROWx
  have HBa9 := hide (HB9.out.alloc hs9 (.cells #[.int .i64 1, .int .i64 1] 3))
  have hsa9 := HBa9.out.size
  clear HB9 hs9
  have HB10 := HBa9
  have hs10 := hsa9
  clear HBa9 hsa9
  go_wp2_with fail
  refine Calls.mono (same_ints (some ⟨g, 0, none⟩) (some ⟨w8.heap.size, 0, none⟩) 2 2 2 [1, 1] _ HROW.out HL9.out (by omega)) ?_
  rintro e w10 ⟨rfl, q, hq⟩
  have hb : Below (w8.alloc (.cells #[.int .i64 1, .int .i64 1] 3)).heap.size (w8.alloc (.cells #[.int .i64 1, .int .i64 1] 3)) w10 := by rw [hq]; exact below_drewN (Below.refl _ _) q
  clear hq
  have HBb10 := hide (HB10.out.trans (hb.mono hs10))
  have hsb10 := HBb10.out.size
  clear HROW
  clear HL9
  clear hb
  clear HB10 hs10
  have HB11 := HBb10
  have hs11 := hsb10
  clear HBb10 hsb10
  go_wp2_with fail
  refine Calls.mono (check_any none 0 0 [] _ Lies.nothing (by omega)) ?_
  rintro e w11 ⟨rfl, hb⟩
  rw [show decide (0 < sizeI []) = false by decide]
  have HBb11 := hide (HB11.out.trans (hb.mono hs11))
  have hsb11 := HBb11.out.size
  clear hb
  clear HB11 hs11
  have HB12 := HBb11
  have hs12 := hsb11
  clear HBb11 hsb11
  go_wp2_with fail
  refine Calls.mono (ints_any (some ⟨w11.heap.size, 0, none⟩) 2 2 _) ?_
  rintro e _ ⟨rfl, rfl⟩
  have HL12 : Hid (Lies (w11.alloc (.cells #[.int .i64 64, .int .i64 64] 3)) (some ⟨w11.heap.size, 0, none⟩) 2 (([64, 64] : List Int).map (Value.int .i64))) := hide (by have h := lies_lit w11 [64, 64] 3; rw [show w11.heap.size = w11.heap.size by first | rfl | simp] at h; exact h)
  have HBa12 := hide (HB12.out.alloc hs12 (.cells #[.int .i64 64, .int .i64 64] 3))
  have hsa12 := HBa12.out.size
  clear HB12 hs12
  have HB13 := HBa12
  have hs13 := hsa12
  clear HBa12 hsa12
  go_wp2_with fail
  refine Calls.mono (check_any (some ⟨w11.heap.size, 0, none⟩) 2 2 [64, 64] _ HL12.out (by omega)) ?_
  rintro e w13 ⟨rfl, hb⟩
  rw [show decide (0 < sizeI [64, 64]) = true by decide]
  have HBb13 := hide (HB13.out.trans (hb.mono hs13))
  have hsb13 := HBb13.out.size
  clear HL12
  clear hb
  clear HB13 hs13
  have HB14 := HBb13
  have hs14 := hsb13
  clear HBb13 hsb13
  go_wp2_with fail
  refine Calls.mono (ints_any (some ⟨w13.heap.size, 0, none⟩) 3 3 _) ?_
  rintro e _ ⟨rfl, rfl⟩
  have HL14 : Hid (Lies (w13.alloc (.cells #[.int .i64 64, .int .i64 64, .int .i64 2] 3)) (some ⟨w13.heap.size, 0, none⟩) 3 (([64, 64, 2] : List Int).map (Value.int .i64))) := hide (by have h := lies_lit w13 [64, 64, 2] 3; rw [show w13.heap.size = w13.heap.size by first | rfl | simp] at h; exact h)
  have HBa14 := hide (HB14.out.alloc hs14 (.cells #[.int .i64 64, .int .i64 64, .int .i64 2] 3))
  have hsa14 := HBa14.out.size
  clear HB14 hs14
  have HB15 := HBa14
  have hs15 := hsa14
  clear HBa14 hsa14
  go_wp2_with fail
  refine Calls.mono (check_any (some ⟨w13.heap.size, 0, none⟩) 3 3 [64, 64, 2] _ HL14.out (by omega)) ?_
  rintro e w15 ⟨rfl, hb⟩
  rw [show decide (0 < sizeI [64, 64, 2]) = false by decide]
  have HBb15 := hide (HB15.out.trans (hb.mono hs15))
  have hsb15 := HBb15.out.size
  clear HL14
  clear hb
  clear HB15 hs15
  have HB16 := HBb15
  have hs16 := hsb15
  clear HBb15 hsb15
  go_wp2_with fail
  refine Calls.mono (ints_any (some ⟨w15.heap.size, 0, none⟩) 1 1 _) ?_
  rintro e _ ⟨rfl, rfl⟩
  have HL16 : Hid (Lies (w15.alloc (.cells #[.int .i64 0] 3)) (some ⟨w15.heap.size, 0, none⟩) 1 (([0] : List Int).map (Value.int .i64))) := hide (by have h := lies_lit w15 [0] 3; rw [show w15.heap.size = w15.heap.size by first | rfl | simp] at h; exact h)
  have HBa16 := hide (HB16.out.alloc hs16 (.cells #[.int .i64 0] 3))
  have hsa16 := HBa16.out.size
  clear HB16 hs16
  have HB17 := HBa16
  have hs17 := hsa16
  clear HBa16 hsa16
  go_wp2_with fail
  refine Calls.mono (check_any (some ⟨w15.heap.size, 0, none⟩) 1 1 [0] _ HL16.out (by omega)) ?_
  rintro e w17 ⟨rfl, hb⟩
  rw [show decide (0 < sizeI [0]) = false by decide]
  have HBb17 := hide (HB17.out.trans (hb.mono hs17))
  have hsb17 := HBb17.out.size
  clear HL16
  clear hb
  clear HB17 hs17
  have HB18 := HBb17
  have hs18 := hsb17
  clear HBb17 hsb17
  go_wp2_with fail
  refine Calls.mono (ints_any (some ⟨w17.heap.size, 0, none⟩) 5 5 _) ?_
  rintro e _ ⟨rfl, rfl⟩
  have HL18 : Hid (Lies (w17.alloc (.cells #[.int .i64 1, .int .i64 1, .int .i64 1, .int .i64 1, .int .i64 1] 3)) (some ⟨w17.heap.size, 0, none⟩) 5 (([1, 1, 1, 1, 1] : List Int).map (Value.int .i64))) := hide (by have h := lies_lit w17 [1, 1, 1, 1, 1] 3; rw [show w17.heap.size = w17.heap.size by first | rfl | simp] at h; exact h)
  have HBa18 := hide (HB18.out.alloc hs18 (.cells #[.int .i64 1, .int .i64 1, .int .i64 1, .int .i64 1, .int .i64 1] 3))
  have hsa18 := HBa18.out.size
  clear HB18 hs18
  have HB19 := HBa18
  have hs19 := hsa18
  clear HBa18 hsa18
  go_wp2_with fail
  refine Calls.mono (check_any (some ⟨w17.heap.size, 0, none⟩) 5 5 [1, 1, 1, 1, 1] _ HL18.out (by omega)) ?_
  rintro e w19 ⟨rfl, hb⟩
  rw [show decide (0 < sizeI [1, 1, 1, 1, 1]) = false by decide]
  have HBb19 := hide (HB19.out.trans (hb.mono hs19))
  have hsb19 := HBb19.out.size
  clear HL18
  clear hb
  clear HB19 hs19
  have HB20 := HBb19
  have hs20 := hsb19
  clear HBb19 hsb19
  go_wp2_with fail
  refine Calls.mono (ints_any (some ⟨w19.heap.size, 0, none⟩) 1 1 _) ?_
  rintro e _ ⟨rfl, rfl⟩
  have HL20 : Hid (Lies (w19.alloc (.cells #[.int .i64 65] 3)) (some ⟨w19.heap.size, 0, none⟩) 1 (([65] : List Int).map (Value.int .i64))) := hide (by have h := lies_lit w19 [65] 3; rw [show w19.heap.size = w19.heap.size by first | rfl | simp] at h; exact h)
  have HBa20 := hide (HB20.out.alloc hs20 (.cells #[.int .i64 65] 3))
  have hsa20 := HBa20.out.size
  clear HB20 hs20
  have HB21 := HBa20
  have hs21 := hsa20
  clear HBa20 hsa20
  go_wp2_with fail
  refine Calls.mono (check_any (some ⟨w19.heap.size, 0, none⟩) 1 1 [65] _ HL20.out (by omega)) ?_
  rintro e w21 ⟨rfl, hb⟩
  rw [show decide (0 < sizeI [65]) = false by decide]
  have HBb21 := hide (HB21.out.trans (hb.mono hs21))
  have hsb21 := HBb21.out.size
  clear HL20
  clear hb
  clear HB21 hs21
  have HB22 := HBb21
  have hs22 := hsb21
  clear HBb21 hsb21
  go_wp2
  go_ret
  exact ⟨rfl, HB22.out⟩
end Go.Proofs.Ytlkldodkoeaedaa
