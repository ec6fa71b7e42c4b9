/- Contracts of the document's answers of layer 4 (At of the reference package). -/
import Derived.Test.YtomhbhhfbbdilaaGreatDoorWR
import Derived.Test.YtomhbhhfbbdilaaGreatDoorShapeAt2M
namespace Go.Proofs.YtomhbhhfbbdilaaGreatDoor
open Go.RowKit
set_option linter.unusedVariables false
set_option linter.unusedSimpArgs false

set_option maxRecDepth 100000 in
set_option maxHeartbeats 1000000 in
theorem rat_err (A : Option Addr) (n c : Nat) (i : Int) (xs : List Int) (w : World) (hA : Lies w A n (xs.map (Value.int .i64))) (hn : n ≤ 281474976710656) (h : i < 0 ∨ sizeI xs ≤ i) :
    Calls Tryz.prog 123 #[.slice A n c, .int .i64 i] w fun e w' => e = .returned (.tuple #[.slice none 0 0, .int .i64 1]) ∧ Below w.heap.size w w' := by
  have HA := hide hA
  clear hA
  by_cases hs : 0 < sizeI xs
  · have HSZ := hide hs
    by_cases h0 : i < 0
    · clear h hs
      go_enter Tryz.func123, Tryz.ntmps123
      go_wp2_with fail
      refine Calls.mono (rcheck_any A n c xs w HA.out hn) ?_
      rintro e _ ⟨rfl, rfl⟩
      rw [decide_eq_true HSZ.out]
      go_wp2
      go_ret2
      exact ⟨rfl, Below.refl _ _⟩
    · have h1 : sizeI xs ≤ i := by omega
      have h2 : 0 ≤ i := by omega
      have HS := hide (rsize_any A n c xs w HA.out hn)
      have HC := hide (rcheck_any A n c xs w HA.out hn)
      rw [decide_eq_true hs] at HC
      obtain ⟨y, hy⟩ : ∃ y, y = sizeI xs := ⟨_, rfl⟩
      rw [← hy] at h1 HS
      clear h hs hy h0
      go_enter Tryz.func123, Tryz.ntmps123
      go_wp2_with fail
      refine Calls.mono HC.out ?_
      rintro e _ ⟨rfl, rfl⟩
      go_wp2_with fail
      refine Calls.mono HS.out ?_
      rintro e _ ⟨rfl, rfl⟩
      go_wp2
      go_ret2
      exact ⟨rfl, Below.refl _ _⟩
  · have HC := hide (rcheck_any A n c xs w HA.out hn)
    rw [decide_eq_false hs] at HC
    clear h hs
    go_enter Tryz.func123, Tryz.ntmps123
    go_wp2_with fail
    refine Calls.mono HC.out ?_
    rintro e _ ⟨rfl, rfl⟩
    go_wp2
    go_ret2
    exact ⟨rfl, Below.refl _ _⟩

set_option maxRecDepth 100000 in
set_option maxHeartbeats 2000000 in
theorem rat_ok (A : Option Addr) (n c : Nat) (i : Int) (xs : List Int) (w : World) (hA : Lies w A n (xs.map (Value.int .i64))) (hn : n ≤ 281474976710656) (h0 : 0 ≤ i) (h1 : i < sizeI xs) :
    Calls Tryz.prog 123 #[.slice A n c, .int .i64 i] w fun e w' => ∃ g, w.heap.size ≤ g ∧ e = .returned (.tuple #[.slice (some ⟨g, 0, none⟩) n n, .int .i64 0]) ∧ w'.heap[g]? = some (.cells ((digs xs i).map (Value.int .i64)).toArray 3 (0, 0)) ∧ Below w.heap.size w w' := by
  have hlen : xs.length = n := by have := hA.len; simpa using this
  have hs : 0 < sizeI xs := by omega
  obtain ⟨hn1, hn4, hsp⟩ := sizeI_pos hs
  have hi4 : i ≤ 4096 := by have := sizeI_le xs; omega
  have HS := hide (rsize_any A n c xs w hA hn)
  have HC := hide (rcheck_any A n c xs w hA hn)
  rw [decide_eq_true hs] at HC
  have HA := hide hA
  have HDIM := hide (size_dims hs)
  have HLEN : Hid (xs.length = n ∧ 1 ≤ n ∧ n ≤ 4) := hide (by omega)
  have hnn : (1 : Int) ≤ (n : Int) := by omega
  have hnn4 : (n : Int) ≤ 4 := by omega
  have hmk := make_ints w n (by omega)
  have earr : ((List.replicate n (0 : Int)).map (Value.int .i64)).toArray = (rowK xs i n).toArray := by
    unfold rowK
    rw [List.drop_eq_nil_of_le (by omega)]
    simp [digs]
  rw [earr] at hmk
  have HROW0 := hide (heap_alloc_new w (.cells (rowK xs i n).toArray 3))
  have HB0 := hide ((Below.refl w.heap.size w).alloc (Nat.le_refl _) (.cells (rowK xs i n).toArray 3))
  obtain ⟨W1, hW1⟩ : ∃ W1, W1 = w.alloc (.cells (rowK xs i n).toArray 3) := ⟨_, rfl⟩
  rw [← hW1] at hmk HROW0 HB0
  obtain ⟨y, hy⟩ : ∃ y, y = sizeI xs := ⟨_, rfl⟩
  rw [← hy] at h1 HS
  clear hA hs hn1 hn4 hsp hy hlen earr hW1
  go_enter Tryz.func123, Tryz.ntmps123
  go_wp2_with fail
  refine Calls.mono HC.out ?_
  rintro e _ ⟨rfl, rfl⟩
  go_wp2_with fail
  refine Calls.mono HS.out ?_
  rintro e _ ⟨rfl, rfl⟩
  go_wp2
  go_loopw [1, 7] (fun v p wr => ∃ k : Nat, k ≤ n ∧ p = .int .i64 ((k : Int) - 1) ∧ v = .int .i64 (i / prodZ (xs.drop k)) ∧ Hid (wr.heap[w.heap.size]? = some (.cells (rowK xs i k).toArray 3 (0, 0))) ∧ Hid (Below w.heap.size w wr)) (fun _ p _ => (intOf p + 1).toNat)
  case atStart => exact ⟨n, Nat.le_refl _, rfl, by rw [List.drop_eq_nil_of_le (by have := HLEN.out; omega)]; simp [prodZ], HROW0, HB0⟩
  case round =>
    obtain ⟨k, hk, rfl, rfl, HR, HW⟩ := hrel
    cases k with
    | zero =>
      go_wp2
      go_ret2
      refine ⟨w.heap.size, Nat.le_refl _, rfl, ?_, HW.out⟩
      have h := HR.out
      rw [rowK, List.drop_zero, List.replicate_zero, List.nil_append] at h
      exact h
    | succ m =>
      obtain ⟨b, o, rfl, hblt, hx⟩ := byte_at HA.out (by omega)
      have hcw := hx m (by omega)
      have hc := (HW.out.cell hblt).trans hcw
      clear hx
      have hmm : (((m + 1 : Nat) : Int) - 1) = (m : Int) := by omega
      rw [hmm]
      clear hmm
      have hd := HDIM.out.at (k := m) (by have := HLEN.out; omega)
      have hP := (HDIM.out.drop (m + 1)).pos
      obtain ⟨q, hqe⟩ : ∃ q, q = i / prodZ (xs.drop (m + 1)) := ⟨_, rfl⟩
      rw [← hqe]
      have hq0 : 0 ≤ q := by rw [hqe]; exact Int.ediv_nonneg h0 (by omega)
      have hq1 : q ≤ 4096 := by rw [hqe]; exact Int.le_trans (Int.ediv_le_self _ h0) hi4
      obtain ⟨x, hxe⟩ : ∃ x, x = xs.getD m 0 := ⟨_, rfl⟩
      rw [← hxe] at hc hd hcw
      have t1 : q.tmod x = q % x := Int.tmod_eq_emod_of_nonneg hq0
      have t2 : q.tdiv x = q / x := Int.tdiv_eq_ediv_of_nonneg hq0
      have e0 : 0 ≤ q / x := Int.ediv_nonneg hq0 (by omega)
      have e1 : q / x ≤ q := Int.ediv_le_self _ hq0
      have e2 : 0 ≤ q % x := Int.emod_nonneg _ (by omega)
      have e3 : q % x < x := Int.emod_lt_of_pos _ (by omega)
      have w1 : IntKind.i64.wrap (q % x) = q % x := IntWalk.i64_in _ (by omega)
      have w2 : IntKind.i64.wrap (q / x) = q / x := IntWalk.i64_in _ (by omega)
      have hnz : ¬ x = 0 := by omega
      have f0 : (0 : Int) ≤ (m : Int) := by omega
      have f1 : (m : Int) < (n : Int) := by omega
      have hrl := rowK_len (xs := xs) (i := i) (k := m + 1) (by have := HLEN.out; omega)
      have hcg : ∃ u, wr.cell? ⟨w.heap.size, m, none⟩ = some u := ⟨(rowK xs i (m + 1))[m]'(by rw [hrl]; have := HLEN.out; omega), by rw [cell_of_row _ _ m _ _ _ HR.out]; simp [hrl]⟩
      obtain ⟨u, hcg⟩ := hcg
      have hfg : wr.frozen? ⟨w.heap.size, m, none⟩ = false := by have h := HR.out; simp [World.frozen?, h]
      have hne : b ≠ w.heap.size := Nat.ne_of_lt hblt
      have hc2 : (wr.setCell ⟨w.heap.size, m, none⟩ (.int .i64 (q % x))).cell? ⟨b, o + m, none⟩ = some (.int .i64 x) := (World.cell?_of_block (Below.heap_setCell wr ⟨w.heap.size, m, none⟩ _ b hne)).trans hc
      have HR2 : Hid ((wr.setCell ⟨w.heap.size, m, none⟩ (.int .i64 (q % x))).heap[w.heap.size]? = some (.cells (rowK xs i m).toArray 3 (0, 0))) := hide (by
        have s1 := heap_setCell_same wr w.heap.size m (rowK xs i (m + 1)).toArray 3 (.int .i64 (q % x)) HR.out
        rw [hqe, hxe, rowK_set (by have := HLEN.out; omega)] at s1
        rw [hqe, hxe]
        exact s1)
      have HW2 : Hid (Below w.heap.size w (wr.setCell ⟨w.heap.size, m, none⟩ (.int .i64 (q % x)))) := hide (HW.out.setCell (Nat.le_refl _) _)
      have HQ : Hid (q / x = i / prodZ (xs.drop m)) := hide (by
        have e3 := prodZ_drop (xs := xs) (k := m) (by have := HLEN.out; omega)
        rw [← hxe, hd.2.2] at e3
        rw [← e3, hqe, Int.ediv_ediv_of_nonneg (by omega)])
      obtain ⟨W2, hW2⟩ : ∃ W2, wr.setCell ⟨w.heap.size, m, none⟩ (.int .i64 (q % x)) = W2 := ⟨_, rfl⟩
      rw [hW2] at hc2 HR2 HW2
      have HQE := hide hqe
      clear hqe hxe hd hP e0 e1 e2 e3 hrl HR HW hne hcw
      go_wp2
      go_roundw
      case rel => exact ⟨m, by omega, by go_num, by rw [← HQ.out], HR2, HW2⟩
      case measure => simp [intOf]

end Go.Proofs.YtomhbhhfbbdilaaGreatDoor
