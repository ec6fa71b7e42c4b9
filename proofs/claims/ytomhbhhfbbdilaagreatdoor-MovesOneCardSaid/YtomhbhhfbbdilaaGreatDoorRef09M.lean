/- Contracts of the document's answers of layer 9: Order, Turned, Without. -/
import Derived.Test.YtomhbhhfbbdilaaGreatDoorWR
import Derived.Test.YtomhbhhfbbdilaaGreatDoorRef04mM
import Derived.Test.YtomhbhhfbbdilaaGreatDoorMv11M
import Derived.Test.YtomhbhhfbbdilaaGreatDoorPm22M
namespace Go.Proofs.YtomhbhhfbbdilaaGreatDoor
open Go.RowKit
set_option linter.unusedVariables false
set_option linter.unusedSimpArgs false
set_option maxRecDepth 100000

theorem take_one9 {xs : List Int} {k : Nat} (h : k < xs.length) : xs.take (k + 1) = xs.take k ++ [xs.getD k 0] := by rw [List.take_succ_eq_append_getElem h]; simp [List.getD, h]

set_option maxHeartbeats 2000000 in
theorem rorder9_any (A : Option Addr) (k e n : Nat) (u : List Int) (w : World) (hA : Lies w A k (u.map (Value.int .i64))) (hn : n ≤ 4) (hk : k ≤ 281474976710656) :
    Calls Tryz.prog 120 #[.slice A k e, .int .i64 (n : Int)] w fun r w' => r = .returned (.bool (ordOk u n)) ∧ w' = w := by
  have HLEN : Hid (u.length = k) := hide (lies_len9 hA)
  have HA := hide hA
  obtain ⟨R, hR⟩ : ∃ z, z = ordOk u n := ⟨_, rfl⟩
  rw [← hR]
  have HR := hide hR
  clear hA hR
  go_enter Tryz.func120, Tryz.ntmps120
  by_cases hkn : k = n
  rotate_left
  · obtain rfl : R = false := by
      rw [HR.out]
      cases h : ordOk u n with
      | false => rfl
      | true => exact absurd (ordOk_iff.1 h).1 (by have := HLEN.out; omega)
    have f1 : ¬ (k : Int) = (n : Int) := by omega
    have f2 : ((k : Int) == (n : Int)) = false := by simpa using f1
    have f3 : ((k : Int) != (n : Int)) = true := by simpa using f1
    go_wp2
    go_ret
    exact ⟨rfl, rfl⟩
  subst hkn
  have f2 : ((k : Int) == (k : Int)) = true := by simp
  have f3 : ((k : Int) != (k : Int)) = false := by simp
  go_wp2
  clear f2 f3
  go_loop [5] (fun i => ∃ d : Nat, d ≤ k ∧ i = .int .i64 d ∧ Hid (∀ j, j < d → u.count (j : Int) = 1)) (fun i => k - (intOf i).toNat)
  case atStart => exact ⟨0, Nat.zero_le _, rfl, hide (fun j hj => absurd hj (by omega))⟩
  case round =>
    obtain ⟨d, hd, rfl, HN⟩ := hrel
    by_cases hlt : d < k
    · have h3 : (d : Int) < (k : Int) := by omega
      go_wp2
      go_loop [6, 7] (fun m j => ∃ q : Nat, q ≤ k ∧ j = .int .i64 q ∧ m = .int .i64 (((u.take q).count (d : Int) : Nat) : Int)) (fun _ j => k - (intOf j).toNat)
      case atStart => exact ⟨0, Nat.zero_le _, rfl, by simp⟩
      case round =>
        obtain ⟨q, hq, rfl, rfl⟩ := hrel
        have hc9 := List.count_le_length (a := (d : Int)) (l := u.take q)
        rw [List.length_take] at hc9
        by_cases hql : q < k
        · obtain ⟨b, o, rfl, _, hx⟩ := byte_at HA.out (by omega)
          have hc := hx q hql
          have ht := take_one9 (xs := u) (k := q) (by rw [HLEN.out]; exact hql)
          obtain ⟨x, hxe⟩ : ∃ x, x = u.getD q 0 := ⟨_, rfl⟩
          rw [← hxe] at hc ht
          obtain ⟨cnt, hcnt⟩ : ∃ z, z = (u.take q).count (d : Int) := ⟨_, rfl⟩
          rw [← hcnt] at hc9 ⊢
          have h4 : (q : Int) < (k : Int) := by omega
          have h0 : (0 : Int) ≤ (q : Int) := by omega
          by_cases hxd : x = (d : Int)
          · have HC2 : Hid ((u.take (q + 1)).count (d : Int) = cnt + 1) := hide (by rw [ht, List.count_append, ← hcnt, hxd, List.count_singleton_self])
            subst hxd
            clear hx ht hcnt hxe
            have g1 : ((d : Int) == (d : Int)) = true := by simp
            go_wp2
            go_round
            case rel => exact ⟨q + 1, by omega, by go_num, by rw [HC2.out]; go_num⟩
            case measure => simp [intOf] <;> omega
          · have HC2 : Hid ((u.take (q + 1)).count (d : Int) = cnt) := hide (by rw [ht, List.count_append, ← hcnt, List.count_singleton, if_neg (by simpa using hxd), Nat.add_zero])
            have g1 : (x == (d : Int)) = false := by simpa using hxd
            clear hx ht hcnt hxe
            go_wp2
            go_round
            case rel => exact ⟨q + 1, by omega, by go_num, by rw [HC2.out]⟩
            case measure => simp [intOf] <;> omega
        · obtain rfl : q = k := by omega
          have hall : u.take q = u := List.take_of_length_le (by rw [HLEN.out]; exact Nat.le_refl _)
          rw [hall] at hc9 ⊢
          obtain ⟨cnt, hcnt⟩ : ∃ z, z = u.count (d : Int) := ⟨_, rfl⟩
          rw [← hcnt] at hc9 ⊢
          by_cases h1 : cnt = 1
          · have HN2 : Hid (∀ j, j < d + 1 → u.count (j : Int) = 1) := hide (fun j hj => by
              by_cases e : j = d
              · rw [e, ← hcnt, h1]
              · exact HN.out j (by omega))
            subst h1
            clear hcnt hall
            go_wp2
            go_round
            case rel => exact ⟨d + 1, by omega, by go_num, HN2⟩
            case measure => simp [intOf] <;> omega
          · obtain rfl : R = false := by
              rw [HR.out]
              cases h : ordOk u q with
              | false => rfl
              | true => exact absurd ((ord_count hn HLEN.out).1 h d hlt) (by rw [← hcnt]; exact h1)
            have f1 : ¬ (cnt : Int) = 1 := by omega
            have f2 : ((cnt : Int) == 1) = false := by simpa using f1
            have f3 : ((cnt : Int) != 1) = true := by simpa using f1
            clear hcnt hall
            go_wp2
            go_ret
            exact ⟨rfl, rfl⟩
    · obtain rfl : d = k := by omega
      obtain rfl : R = true := by rw [HR.out]; exact (ord_count hn HLEN.out).2 HN.out
      have h3 : ¬ ((d : Int) < (d : Int)) := by omega
      go_wp2
      go_ret
      exact ⟨rfl, rfl⟩

set_option maxHeartbeats 2000000 in
theorem rturned9_any (A B : Option Addr) (n c k e : Nat) (s u : List Int) (w : World) (hA : Lies w A n (s.map (Value.int .i64))) (hB : Lies w B k (u.map (Value.int .i64))) (hk : k ≤ 4) (hu : ∀ j, j < k → 0 ≤ u.getD j 0 ∧ u.getD j 0 < (n : Int)) :
    Calls Tryz.prog 122 #[.slice A n c, .slice B k e] w fun r w' => ∃ A' c', r = .returned (.slice A' k c') ∧ w'.ownsRow w.heap.size 3 1 (.slice A' k c') k ((pickL s u).map (Value.int .i64)) ∧ Below w.heap.size w w' := by
  have HLS : Hid (s.length = n) := hide (lies_len9 hA)
  have HLU : Hid (u.length = k) := hide (lies_len9 hB)
  have HA := hide hA
  have HB := hide hB
  have HU := hide hu
  clear hA hB hu
  obtain ⟨i0, hi, hz0, hz1, hz2⟩ := info_parts Tryz.infoI
  have HI := hide hi
  have HZ0 := hide hz0
  have HZ1 := hide hz1
  have HZ2 := hide hz2
  clear hi hz0 hz1 hz2
  go_enter Tryz.func122, Tryz.ntmps122
  go_wp2
  go_loopw [5, 6] (fun v i wr => ∃ (q : Nat) (A2 : Option Addr) (c2 : Nat), q ≤ k ∧ i = .int .i64 q ∧ v = .slice A2 q c2 ∧ Hid (wr.ownsRow w.heap.size 3 1 (.slice A2 q c2) q (((pickL s u).take q).map (Value.int .i64))) ∧ Hid (Below w.heap.size w wr)) (fun _ i _ => k - (intOf i).toNat)
  case atStart => exact ⟨0, none, 0, Nat.zero_le _, rfl, rfl, hide (World.ownsRow_nil _ _ _ _), hide (Below.refl _ _)⟩
  case round =>
    obtain ⟨q, A2, c2, hq, rfl, rfl, HR, HBr⟩ := hrel
    have hsr := HBr.out.size
    by_cases hlt : q < k
    · obtain ⟨hu0, hu1⟩ := HU.out q hlt
      obtain ⟨bB, oB, rfl, _, hxB⟩ := byte_at (HB.out.below HBr.out) (by omega)
      obtain ⟨bA, oA, rfl, _, hxA⟩ := byte_at (HA.out.below HBr.out) (by omega)
      have hcB := hxB q hlt
      obtain ⟨ui, hui⟩ : ∃ z : Int, z = u.getD q 0 := ⟨_, rfl⟩
      rw [← hui] at hcB hu0 hu1
      obtain ⟨un, hun⟩ := Int.eq_ofNat_of_zero_le hu0
      subst hun
      have hcA := hxA un (by omega)
      obtain ⟨x, hxe⟩ : ∃ z, z = s.getD un 0 := ⟨_, rfl⟩
      rw [← hxe] at hcA
      have HT : Hid ((pickL s u).take (q + 1) = (pickL s u).take q ++ [x]) := hide (by rw [take_one9 (by rw [pickL_len, HLU.out]; exact hlt), pickL_at (by rw [HLU.out]; exact hlt), ← hui, Int.toNat_natCast, hxe])
      clear hui hxe hxB hxA
      have h0 : (0 : Int) ≤ (q : Int) := by omega
      have h3 : (q : Int) < (k : Int) := by omega
      have HX3 : Hid ((wr.alloc (.cells #[.int .i64 x] 3)).cell? ⟨wr.heap.size, 0, none⟩ = some (.int .i64 x)) := hide (by have h := cells_new wr [.int .i64 x] 3 0 _ rfl; rwa [Addr.add_lit] at h)
      go_wp2_with (at_builtin; with_reducible refine wpList_append_one rfl (.tmp 13) (.tmp 21) 31 rfl 3 i0 (.int .i64 0) 8 Tryz.underlying31 HI.out HZ0.out HZ1.out HZ2.out rfl w.heap.size A2 q c2 (((pickL s u).take q).map (Value.int .i64)) rfl (HR.out.alloc _) (Nat.le_trans hsr (by simp)) ⟨wr.heap.size, 0, none⟩ (.int .i64 x) rfl HX3.out rfl (by omega) (by unfold maxLen; omega) ?_)
      intro A3 c3 w3 ho3 hm3
      have HR3 : Hid (w3.ownsRow w.heap.size 3 1 (.slice A3 (q + 1) c3) (q + 1) (((pickL s u).take (q + 1)).map (Value.int .i64))) := hide (by
        rw [HT.out, List.map_append, List.map_take]
        exact ho3)
      have HB3 := hide (below_moved (HBr.out.alloc hsr (.cells #[.int .i64 x] 3)) (Nat.le_trans hsr (by simp)) (HR.out.alloc _) hm3)
      clear ho3 hm3 HR HBr HX3 hcA hcB HT
      go_wp2
      go_roundw
      case rel => exact ⟨q + 1, A3, c3, by omega, by go_num, rfl, HR3, HB3⟩
      case measure => simp [intOf] <;> omega
    · obtain rfl : q = k := by omega
      have hall : (pickL s u).take q = pickL s u := List.take_of_length_le (by rw [pickL_len, HLU.out]; exact Nat.le_refl _)
      have HR0 := HR.out
      rw [hall] at HR0
      have HRF := hide HR0
      have h3 : ¬ ((q : Int) < (q : Int)) := by omega
      clear HR0 HR hall
      go_wp2
      go_ret
      exact ⟨A2, c2, rfl, HRF.out, HBr.out⟩

theorem withoutL_len {xs : List Int} {a : Nat} (ha : a < xs.length) : (withoutL xs a).length = xs.length - 1 := by
  rw [withoutL, List.length_append, List.length_take, List.length_drop]; omega

theorem withoutL_step {xs : List Int} {a k : Nat} (hk : k < xs.length) : withoutL (xs.take (k + 1)) a = if k = a then withoutL (xs.take k) a else withoutL (xs.take k) a ++ [xs.getD k 0] := by
  rw [take_one9 hk, withoutL, withoutL]
  have hl : (xs.take k).length = k := by rw [List.length_take]; omega
  have hl2 : (xs.take k ++ [xs.getD k 0]).length = k + 1 := by rw [List.length_append, hl, List.length_singleton]
  by_cases h1 : k < a
  · have e1 : (xs.take k).take a = xs.take k := List.take_of_length_le (by omega)
    have e2 : (xs.take k).drop (a + 1) = [] := List.drop_eq_nil_of_le (by omega)
    have e3 : (xs.take k ++ [xs.getD k 0]).take a = xs.take k ++ [xs.getD k 0] := List.take_of_length_le (by omega)
    have e4 : (xs.take k ++ [xs.getD k 0]).drop (a + 1) = [] := List.drop_eq_nil_of_le (by omega)
    rw [if_neg (by omega), e1, e2, e3, e4, List.append_nil, List.append_nil]
  · have e3 : (xs.take k ++ [xs.getD k 0]).take a = (xs.take k).take a := List.take_append_of_le_length (by omega)
    by_cases h2 : k = a
    · have e2 : (xs.take k).drop (a + 1) = [] := List.drop_eq_nil_of_le (by omega)
      have e4 : (xs.take k ++ [xs.getD k 0]).drop (a + 1) = [] := List.drop_eq_nil_of_le (by omega)
      rw [if_pos h2, e2, e3, e4]
    · have e4 : (xs.take k ++ [xs.getD k 0]).drop (a + 1) = (xs.take k).drop (a + 1) ++ [xs.getD k 0] := List.drop_append_of_le_length (by omega)
      rw [if_neg h2, e3, e4, List.append_assoc]

set_option maxHeartbeats 2000000 in
theorem rwithout9_any (A : Option Addr) (n c a : Nat) (xs : List Int) (w : World) (hA : Lies w A n (xs.map (Value.int .i64))) (ha : a < n) (hn : n ≤ 4) :
    Calls Tryz.prog 125 #[.slice A n c, .int .i64 (a : Int)] w fun r w' => ∃ A' k' c', r = .returned (.slice A' k' c') ∧ w'.ownsRow w.heap.size 3 1 (.slice A' k' c') k' ((woL xs a).map (Value.int .i64)) ∧ Below w.heap.size w w' := by
  have HLS : Hid (xs.length = n) := hide (lies_len9 hA)
  have HA := hide hA
  clear hA
  obtain ⟨i0, hi, hz0, hz1, hz2⟩ := info_parts Tryz.infoI
  have HI := hide hi
  have HZ0 := hide hz0
  have HZ1 := hide hz1
  have HZ2 := hide hz2
  clear hi hz0 hz1 hz2
  go_enter Tryz.func125, Tryz.ntmps125
  go_wp2
  go_loopw [5, 6] (fun v i wr => ∃ (q m : Nat) (A2 : Option Addr) (c2 : Nat), q ≤ n ∧ m ≤ q ∧ i = .int .i64 q ∧ v = .slice A2 m c2 ∧ Hid (wr.ownsRow w.heap.size 3 1 (.slice A2 m c2) m ((withoutL (xs.take q) a).map (Value.int .i64))) ∧ Hid (Below w.heap.size w wr)) (fun _ i _ => n - (intOf i).toNat)
  case atStart => exact ⟨0, 0, none, 0, Nat.zero_le _, Nat.le_refl _, rfl, rfl, hide (by simpa [withoutL] using World.ownsRow_nil _ _ _ _), hide (Below.refl _ _)⟩
  case round =>
    obtain ⟨q, m, A2, c2, hq, hmq, rfl, rfl, HR, HBr⟩ := hrel
    have hsr := HBr.out.size
    by_cases hlt : q < n
    · have h0 : (0 : Int) ≤ (q : Int) := by omega
      have h3 : (q : Int) < (n : Int) := by omega
      by_cases hqa : q = a
      · have HT : Hid (withoutL (xs.take (q + 1)) a = withoutL (xs.take q) a) := hide (by rw [withoutL_step (by rw [HLS.out]; exact hlt), if_pos hqa])
        subst hqa
        have g1 : ((q : Int) == (q : Int)) = true := by simp
        have g2 : ((q : Int) != (q : Int)) = false := by simp
        go_wp2
        go_roundw
        case rel => exact ⟨q + 1, m, A2, c2, by omega, by omega, by go_num, rfl, by rw [HT.out]; exact HR, HBr⟩
        case measure => simp [intOf] <;> omega
      · have g0 : ¬ (q : Int) = (a : Int) := by omega
        have g1 : ((q : Int) == (a : Int)) = false := by simpa using g0
        have g2 : ((q : Int) != (a : Int)) = true := by simpa using g0
        obtain ⟨bA, oA, rfl, _, hxA⟩ := byte_at (HA.out.below HBr.out) (by omega)
        have hcA := hxA q hlt
        obtain ⟨x, hxe⟩ : ∃ z, z = xs.getD q 0 := ⟨_, rfl⟩
        rw [← hxe] at hcA
        have HT : Hid (withoutL (xs.take (q + 1)) a = withoutL (xs.take q) a ++ [x]) := hide (by rw [withoutL_step (by rw [HLS.out]; exact hlt), if_neg hqa, hxe])
        clear hxe hxA
        have HX3 : Hid ((wr.alloc (.cells #[.int .i64 x] 3)).cell? ⟨wr.heap.size, 0, none⟩ = some (.int .i64 x)) := hide (by have h := cells_new wr [.int .i64 x] 3 0 _ rfl; rwa [Addr.add_lit] at h)
        go_wp2_with (at_builtin; with_reducible refine wpList_append_one rfl (.tmp 16) (.tmp 21) 31 rfl 3 i0 (.int .i64 0) 8 Tryz.underlying31 HI.out HZ0.out HZ1.out HZ2.out rfl w.heap.size A2 m c2 ((withoutL (xs.take q) a).map (Value.int .i64)) rfl (HR.out.alloc _) (Nat.le_trans hsr (by simp)) ⟨wr.heap.size, 0, none⟩ (.int .i64 x) rfl HX3.out rfl (by omega) (by unfold maxLen; omega) ?_)
        intro A3 c3 w3 ho3 hm3
        have HR3 : Hid (w3.ownsRow w.heap.size 3 1 (.slice A3 (m + 1) c3) (m + 1) ((withoutL (xs.take (q + 1)) a).map (Value.int .i64))) := hide (by
          rw [HT.out, List.map_append]
          exact ho3)
        have HB3 := hide (below_moved (HBr.out.alloc hsr (.cells #[.int .i64 x] 3)) (Nat.le_trans hsr (by simp)) (HR.out.alloc _) hm3)
        clear ho3 hm3 HR HBr HX3 hcA HT
        go_wp2
        go_roundw
        case rel => exact ⟨q + 1, m + 1, A3, c3, by omega, by omega, by go_num, rfl, HR3, HB3⟩
        case measure => simp [intOf] <;> omega
    · obtain rfl : q = n := by omega
      have hall : xs.take q = xs := List.take_of_length_le (by rw [HLS.out]; exact Nat.le_refl _)
      have HR0 := HR.out
      rw [hall] at HR0
      have hm : m = q - 1 := by
        have h := HR0.1
        rw [List.length_map, withoutL_len (by rw [HLS.out]; exact ha), HLS.out] at h
        omega
      have h3 : ¬ ((q : Int) < (q : Int)) := by omega
      by_cases hq1 : q = 1
      · have HW : Hid (woL xs a = [1]) := hide (woL_one (by rw [HLS.out, hq1]))
        obtain rfl : m = 0 := by omega
        obtain ⟨W2, hW2⟩ : ∃ W, W = wr.alloc (.cells #[.int .i64 1] 3) := ⟨_, rfl⟩
        have HO2 : Hid (W2.ownsRow w.heap.size 3 1 (.slice (some ⟨wr.heap.size, 0, none⟩) 1 1) 1 (([1] : List Int).map (Value.int .i64))) := hide (by
          rw [hW2]
          exact own_base (own_of_block (Nat.le_refl _) (heap_alloc_new wr _) (by simp) (Nat.le_refl _) (by unfold maxLen; omega) (by simp)) hsr)
        have HB2 : Hid (Below w.heap.size w W2) := hide (by rw [hW2]; exact HBr.out.alloc hsr _)
        have hW2' := hW2.symm
        clear HR HR0 hall hW2 hm
        go_wp2
        go_ret
        exact ⟨some ⟨wr.heap.size, 0, none⟩, 1, 1, rfl, by rw [HW.out]; exact HO2.out, HB2.out⟩
      · have HW : Hid (woL xs a = withoutL xs a) := hide (woL_more (by rw [HLS.out]; exact hq1))
        have g0 : ¬ (m : Int) = 0 := by omega
        have g1 : ((m : Int) == 0) = false := by simpa using g0
        have HRF := hide HR0
        clear HR HR0 hall hm
        go_wp2
        go_ret
        exact ⟨A2, m, c2, rfl, by rw [HW.out]; exact HRF.out, HBr.out⟩

end Go.Proofs.YtomhbhhfbbdilaaGreatDoor
