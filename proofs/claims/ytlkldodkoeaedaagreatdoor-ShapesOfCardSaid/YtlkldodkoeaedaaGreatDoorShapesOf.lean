/- ShapesOf: for every two lists of numbers and every number the walk of its Go text ends in true. -/
import Derived.Test.YtlkldodkoeaedaaGreatDoorApart
import Derived.Test.YtlkldodkoeaedaaGreatDoorTwin
import Derived.Test.YtlkldodkoeaedaaGreatDoorBeyond
import Derived.Test.YtlkldodkoeaedaaGreatDoorRef04b
import Derived.Test.YtlkldodkoeaedaaGreatDoorRef04c
import Derived.Test.YtlkldodkoeaedaaGreatDoorFrame
namespace Go.Proofs.YtlkldodkoeaedaaGreatDoor
open Go.RowKit
set_option linter.unusedVariables false
set_option linter.unusedSimpArgs false

theorem quiet_below {f : FuncId} {args : Array Value} {w : World} {E : Ending} (h : Calls Tryz.prog f args w fun e w' => e = E ∧ ∃ k, w' = w.drewN k) :
    Calls Tryz.prog f args w fun e w' => e = E ∧ Below w.heap.size w w' :=
  h.mono fun _ _ ⟨he, k, hk⟩ => ⟨he, by subst hk; exact below_drewN (Below.refl _ _) k⟩
theorem still_below {f : FuncId} {args : Array Value} {w : World} {E : Ending} (h : Calls Tryz.prog f args w fun e w' => e = E ∧ w = w') :
    Calls Tryz.prog f args w fun e w' => e = E ∧ Below w.heap.size w w' :=
  h.mono fun _ _ ⟨he, hk⟩ => ⟨he, by subst hk; exact Below.refl _ _⟩
theorem lies_lit (w : World) (cs : List Int) (t : TypeId) : Lies (w.alloc (.cells (cs.map (Value.int .i64)).toArray t)) (some ⟨w.heap.size, 0, none⟩) cs.length (cs.map (Value.int .i64)) := by
  refine ⟨by simp, fun _ => ⟨w.heap.size, 0, rfl, by simp, fun j hj => ?_⟩⟩
  rw [cell_of_row _ _ _ _ _ _ (heap_alloc_new w _)]
  simp
theorem below_lit {B : Nat} {a w w' : World} {o : Obj} (h : Below B a w) (hB : B ≤ w.heap.size) (hb : Below (w.alloc o).heap.size (w.alloc o) w') : Below B a w' :=
  (h.alloc hB o).trans (hb.mono (by simp; omega))
theorem book_new (w : World) {base : Nat} (hb : base ≤ w.heap.size) : BkAt (w.alloc (.cells #[Value.int .i64 0, Value.slice none 0 0, Value.slice none 0 0, Value.slice none 0 0, Value.slice none 0 0, Value.slice none 0 0, Value.slice none 0 0, Value.slice none 0 0, Value.slice none 0 0, Value.slice none 0 0, Value.slice none 0 0, Value.slice none 0 0, Value.slice none 0 0, Value.slice none 0 0, Value.slice none 0 0, Value.slice none 0 0] 49)) w.heap.size base 0 none 0 [] :=
  ⟨heap_alloc_new w _, World.ownsRow_nil _ _ _ _, ⟨fun i t ht => by simp at ht, fun i j t u _ ht => by simp at ht⟩, Nat.le_refl _, fun i t ht => by simp at ht, by simp; omega, hb, by omega⟩
theorem own_row {w : World} {base g n : Nat} {zs : List Int} (hb : base ≤ g) (h : w.heap[g]? = some (.cells (zs.map (Value.int .i64)).toArray 3 (0, 0))) (hl : zs.length = n) (hn : n ≤ 1048576) :
    w.ownsRow base 3 1 (.slice (some ⟨g, 0, none⟩) n n) n (zs.map (Value.int .i64)) :=
  own_of_block hb h (by simpa using hl) (Nat.le_refl _) (by unfold maxLen; omega) (List.take_of_length_le (by simp; omega))

set_option maxHeartbeats 400000 in
theorem same_ints (A B : Option Addr) (n c d : Nat) (zs : List Int) (w : World) (h : Lies w A n (zs.map (Value.int .i64))) (k : Lies w B n (zs.map (Value.int .i64))) (hm : n ≤ 281474976710656) :
    Calls Tryz.prog 14 #[.slice A n c, .slice B n d] w fun e w' => e = .returned (.bool true) ∧ ∃ k, w' = w.drewN k := by
  have HA := hide h
  have HB := hide k
  clear h k
  go_enter Tryz.func14, Tryz.ntmps14
  go_wp2
  go_loopw [5] (fun i wr => ∃ k : Nat, k ≤ n ∧ i = .int .i64 k ∧ ∃ j, wr = w.drewN j) (fun i _ => n - (intOf i).toNat)
  case atStart => exact ⟨0, Nat.zero_le _, rfl, 0, rfl⟩
  case round =>
    obtain ⟨k, hk, rfl, j, rfl⟩ := hrel
    by_cases hlt : k < n
    · obtain ⟨b, o, rfl, _, hx⟩ := byte_at HA.out (by omega)
      obtain ⟨b', o', rfl, _, hy⟩ := byte_at HB.out (by omega)
      obtain ⟨z, hz⟩ : ∃ z, z = zs.getD k 0 := ⟨_, rfl⟩
      have h1 : w.cell? ⟨b, o + k, none⟩ = some (.int .i64 z) := by rw [hz]; exact hx k hlt
      have h2 : w.cell? ⟨b', o' + k, none⟩ = some (.int .i64 z) := by rw [hz]; exact hy k hlt
      have h0 : (0 : Int) ≤ (k : Int) := by omega
      have h3 : (k : Int) < (n : Int) := by omega
      clear hx hy hz
      go_wp2
      go_quiet (fail)
      go_wp2
      go_roundw
      case rel => exact ⟨k + 1, by omega, by go_num, _, rfl⟩
      case measure => simp [intOf]; omega
    · go_wp2
      go_ret
      exact ⟨rfl, _, rfl⟩

set_option maxRecDepth 100000 in
set_option maxHeartbeats 1000000 in
theorem of_long (A B : Option Addr) (n c m cB : Nat) (i : Int) (w : World) (hn : n ≤ 281474976710656) (hm : m ≤ 281474976710656) (h : 1048576 < n + m) :
    Calls Tryz.prog 3 #[.slice A n c, .slice B m cB, .int .i64 i] w fun e w' => e = .returned (.bool true) ∧ Below w.heap.size w w' := by
  go_enter Tryz.func3, Tryz.ntmps3
  go_wp2_with fail
  refine Calls.mono (still_below (beyond_yes _ 2 2 [(n : Int), (m : Int)] _ (lies_lit w [(n : Int), (m : Int)] 3) (by simp; omega) (by simp; omega) (by omega))) ?_
  rintro e w1 ⟨rfl, hb⟩
  have HB1 := hide (below_lit (Below.refl w.heap.size w) (Nat.le_refl _) hb)
  clear hb
  go_wp2
  go_ret
  exact ⟨rfl, HB1.out⟩


set_option maxRecDepth 100000 in
set_option maxHeartbeats 8000000 in
theorem of_ok (A B : Option Addr) (n c m cB : Nat) (i : Int) (xs ys : List Int) (w : World) (ha : Lies w A n (xs.map (Value.int .i64))) (hy : Lies w B m (ys.map (Value.int .i64))) (h : n + m ≤ 1048576) (h0 : 0 ≤ i) (h1 : i < sizeI xs) :
    Calls Tryz.prog 3 #[.slice A n c, .slice B m cB, .int .i64 i] w fun e w' => e = .returned (.bool true) ∧ Below w.heap.size w w' := by
  have HA0 := hide ha
  have HY0 := hide hy
  have HLA := hide ha.len
  have HLB := hide hy.len
  have HLX : Hid (xs.length = n) := hide (by have := ha.len; simpa using this)
  have HB0 := hide (Below.refl w.heap.size w)
  have hs0 : w.heap.size ≤ w.heap.size := Nat.le_refl _
  obtain ⟨I, hI⟩ : ∃ I, I = idxV xs ys := ⟨_, rfl⟩
  obtain ⟨E, hE⟩ : ∃ E, E = idxE xs ys := ⟨_, rfl⟩
  obtain ⟨N, hN⟩ : ∃ N, N = sizeI xs := ⟨_, rfl⟩
  obtain ⟨cb, hcb⟩ : ∃ cb, cb = decide (0 < sizeI xs) := ⟨_, rfl⟩
  rw [← hN] at h1
  have HIx := hide hI
  have HE := hide hE
  have HN := hide hN
  have HCB := hide hcb
  clear ha hy hI hE hN hcb
  go_enter Tryz.func3, Tryz.ntmps3
  go_wp2_with fail
  refine Calls.mono (still_below (beyond_no _ 2 2 [(n : Int), (m : Int)] _ (lies_lit w [(n : Int), (m : Int)] 3) (by simp) (by simp; omega) (by omega))) ?_
  rintro e w1 ⟨rfl, hb⟩
  have hbl : Below w.heap.size w w1 := below_lit (Below.refl _ _) (Nat.le_refl _) hb
  have hz1 : w.heap.size ≤ w1.heap.size := hbl.size
  have hs1 := Nat.le_trans hs0 hbl.size
  have HB1 := hide (HB0.out.trans (hbl.mono hs0))
  have HA1 := hide (HA0.out.below hbl)
  have HY1 := hide (HY0.out.below hbl)
  clear hb hbl HB0 HA0 HY0
  go_wp2_with fail
  refine Calls.mono (twin_Ints A n c xs w1 HA1.out (by omega)) ?_
  rintro e w2 ⟨rfl, ho, hb⟩
  have hz2 : w1.heap.size ≤ w2.heap.size := hb.size
  have hs2 := Nat.le_trans hs1 hb.size
  have HB2 := hide (HB1.out.trans (hb.mono hs1))
  have HA2 := hide (HA1.out.below hb)
  have HY2 := hide (HY1.out.below hb)
  have HT2 := hide (own_base ho hs1)
  clear hb HB1 HA1 HY1
  have lt1 := (own_lt ho (g := w1.heap.size) rfl).2
  clear ho
  go_wp2_with fail
  refine Calls.mono (twin_Ints B m cB ys w2 HY2.out (by omega)) ?_
  rintro e w3 ⟨rfl, ho, hb⟩
  have hz3 : w2.heap.size ≤ w3.heap.size := hb.size
  have hs3 := Nat.le_trans hs2 hb.size
  have HB3 := hide (HB2.out.trans (hb.mono hs2))
  have HA3 := hide (HA2.out.below hb)
  have HY3 := hide (HY2.out.below hb)
  have HT3 := hide (own_below HT2.out hb)
  have HU3 := hide (own_base ho hs2)
  clear hb HB2 HA2 HY2 HT2
  have lt2 := (own_lt ho (g := w2.heap.size) rfl).2
  clear ho
  go_wp2_with fail
  refine Calls.mono (index_any _ _ n (n + 1) m (m + 1) xs ys w3 (lies_of_own (own_part HT3.out (by rw [HLA.out]) (by omega))) (lies_of_own (own_part HU3.out (by rw [HLB.out]) (by omega))) (by omega) (by omega)) ?_
  rintro e w4 ⟨rfl, hb⟩
  rw [← HIx.out, ← HE.out]
  have hz4 : w3.heap.size ≤ w4.heap.size := hb.size
  have hs4 := Nat.le_trans hs3 hb.size
  have HB4 := hide (HB3.out.trans (hb.mono hs3))
  have HA4 := hide (HA3.out.below hb)
  have HY4 := hide (HY3.out.below hb)
  have HT4 := hide (own_below HT3.out hb)
  have HU4 := hide (own_below HU3.out hb)
  clear hb HB3 HA3 HY3 HT3 HU3
  go_wp2_with fail
  refine Calls.mono (rindex_any A B n c m cB xs ys w4 HA4.out HY4.out (by omega) (by omega)) ?_
  rintro e w5 ⟨rfl, hb⟩
  rw [← HIx.out, ← HE.out]
  have hz5 : w4.heap.size ≤ w5.heap.size := hb.size
  have hs5 := Nat.le_trans hs4 hb.size
  have HB5 := hide (HB4.out.trans (hb.mono hs4))
  have HA5 := hide (HA4.out.below hb)
  have HY5 := hide (HY4.out.below hb)
  have HT5 := hide (own_below HT4.out hb)
  have HU5 := hide (own_below HU4.out hb)
  clear hb HB4 HA4 HY4 HT4 HU4
  go_wp2_with fail
  refine Calls.mono (at_ok _ n (n + 1) i xs w5 (lies_of_own (own_part HT5.out (by rw [HLA.out]) (by omega))) (by omega) h0 (by rw [← HN.out]; exact h1)) ?_
  rintro e w6 ⟨gx, hggx, rfl, hrow, hb⟩
  have hz6 : w5.heap.size ≤ w6.heap.size := hb.size
  have hs6 := Nat.le_trans hs5 hb.size
  have HB6 := hide (HB5.out.trans (hb.mono hs5))
  have HA6 := hide (HA5.out.below hb)
  have HY6 := hide (HY5.out.below hb)
  have HT6 := hide (own_below HT5.out hb)
  have HU6 := hide (own_below HU5.out hb)
  have HX6 := hide (own_row (Nat.le_trans hs5 hggx) hrow ((digs_len xs i).trans HLX.out) (by omega))
  clear hb HB5 HA5 HY5 HT5 HU5
  have ltgx := lt_of_heap hrow
  clear hrow
  go_wp2_with fail
  refine Calls.mono (at_ok _ n (n + 1) i xs w6 (lies_of_own (own_part HT6.out (by rw [HLA.out]) (by omega))) (by omega) h0 (by rw [← HN.out]; exact h1)) ?_
  rintro e w7 ⟨gy, hggy, rfl, hrow, hb⟩
  have hz7 : w6.heap.size ≤ w7.heap.size := hb.size
  have hs7 := Nat.le_trans hs6 hb.size
  have HB7 := hide (HB6.out.trans (hb.mono hs6))
  have HA7 := hide (HA6.out.below hb)
  have HY7 := hide (HY6.out.below hb)
  have HT7 := hide (own_below HT6.out hb)
  have HU7 := hide (own_below HU6.out hb)
  have HX7 := hide (own_below HX6.out hb)
  have HW7 := hide (own_row (Nat.le_trans hs6 hggy) hrow ((digs_len xs i).trans HLX.out) (by omega))
  clear hb HB6 HA6 HY6 HT6 HU6 HX6
  have ltgy := lt_of_heap hrow
  clear hrow
  go_wp2_with fail
  refine Calls.mono (rat_ok A n c i xs w7 HA7.out (by omega) h0 (by rw [← HN.out]; exact h1)) ?_
  rintro e w8 ⟨gp, hgp, rfl, hrow, hb⟩
  have hz8 : w7.heap.size ≤ w8.heap.size := hb.size
  have hs8 := Nat.le_trans hs7 hb.size
  have HB8 := hide (HB7.out.trans (hb.mono hs7))
  have HA8 := hide (HA7.out.below hb)
  have HY8 := hide (HY7.out.below hb)
  have HT8 := hide (own_below HT7.out hb)
  have HU8 := hide (own_below HU7.out hb)
  have HX8 := hide (own_below HX7.out hb)
  have HW8 := hide (own_below HW7.out hb)
  have HP8 := hide (own_row (Nat.le_trans hs7 hgp) hrow ((digs_len xs i).trans HLX.out) (by omega))
  clear hb HB7 HA7 HY7 HT7 HU7 HX7 HW7
  clear hrow hgp
  go_wp2_with fail
  refine Calls.mono (check_any _ n (n + 1) xs w8 (lies_of_own (own_part HT8.out (by rw [HLA.out]) (by omega))) (by omega)) ?_
  rintro e w9 ⟨rfl, hb⟩
  rw [← HCB.out]
  have hz9 : w8.heap.size ≤ w9.heap.size := hb.size
  have hs9 := Nat.le_trans hs8 hb.size
  have HB9 := hide (HB8.out.trans (hb.mono hs8))
  have HA9 := hide (HA8.out.below hb)
  have HY9 := hide (HY8.out.below hb)
  have HT9 := hide (own_below HT8.out hb)
  have HU9 := hide (own_below HU8.out hb)
  have HX9 := hide (own_below HX8.out hb)
  have HW9 := hide (own_below HW8.out hb)
  have HP9 := hide (own_below HP8.out hb)
  clear hb HB8 HA8 HY8 HT8 HU8 HX8 HW8 HP8
  go_wp2_with fail
  refine Calls.mono (still_below (rcheck_any A n c xs w9 HA9.out (by omega))) ?_
  rintro e w10 ⟨rfl, hb⟩
  rw [← HCB.out]
  have hz10 : w9.heap.size ≤ w10.heap.size := hb.size
  have hs10 := Nat.le_trans hs9 hb.size
  have HB10 := hide (HB9.out.trans (hb.mono hs9))
  have HA10 := hide (HA9.out.below hb)
  have HY10 := hide (HY9.out.below hb)
  have HT10 := hide (own_below HT9.out hb)
  have HU10 := hide (own_below HU9.out hb)
  have HX10 := hide (own_below HX9.out hb)
  have HW10 := hide (own_below HW9.out hb)
  have HP10 := hide (own_below HP9.out hb)
  clear hb HB9 HA9 HY9 HT9 HU9 HX9 HW9 HP9
  go_wp2_with fail
  refine Calls.mono (size_any _ n (n + 1) xs w10 (lies_of_own (own_part HT10.out (by rw [HLA.out]) (by omega))) (by omega)) ?_
  rintro e w11 ⟨rfl, hb⟩
  rw [← HN.out]
  have hz11 : w10.heap.size ≤ w11.heap.size := hb.size
  have hs11 := Nat.le_trans hs10 hb.size
  have HB11 := hide (HB10.out.trans (hb.mono hs10))
  have HA11 := hide (HA10.out.below hb)
  have HY11 := hide (HY10.out.below hb)
  have HT11 := hide (own_below HT10.out hb)
  have HU11 := hide (own_below HU10.out hb)
  have HX11 := hide (own_below HX10.out hb)
  have HW11 := hide (own_below HW10.out hb)
  have HP11 := hide (own_below HP10.out hb)
  clear hb HB10 HA10 HY10 HT10 HU10 HX10 HW10 HP10
  go_wp2_with fail
  refine Calls.mono (still_below (rsize_any A n c xs w11 HA11.out (by omega))) ?_
  rintro e w12 ⟨rfl, hb⟩
  rw [← HN.out]
  have hz12 : w11.heap.size ≤ w12.heap.size := hb.size
  have hs12 := Nat.le_trans hs11 hb.size
  have HB12 := hide (HB11.out.trans (hb.mono hs11))
  have HA12 := hide (HA11.out.below hb)
  have HY12 := hide (HY11.out.below hb)
  have HT12 := hide (own_below HT11.out hb)
  have HU12 := hide (own_below HU11.out hb)
  have HX12 := hide (own_below HX11.out hb)
  have HW12 := hide (own_below HW11.out hb)
  have HP12 := hide (own_below HP11.out hb)
  clear hb HB11 HA11 HY11 HT11 HU11 HX11 HW11 HP11
  go_wp2_with fail
  refine Calls.mono (quiet_below (same_ints _ _ n n n (digs xs i) w12 (lies_of_own HX12.out) (lies_of_own HP12.out) (by omega))) ?_
  rintro e w13 ⟨rfl, hb⟩
  have hz13 : w12.heap.size ≤ w13.heap.size := hb.size
  have hs13 := Nat.le_trans hs12 hb.size
  have HB13 := hide (HB12.out.trans (hb.mono hs12))
  have HA13 := hide (HA12.out.below hb)
  have HY13 := hide (HY12.out.below hb)
  have HT13 := hide (own_below HT12.out hb)
  have HU13 := hide (own_below HU12.out hb)
  have HX13 := hide (own_below HX12.out hb)
  have HW13 := hide (own_below HW12.out hb)
  have HP13 := hide (own_below HP12.out hb)
  clear hb HB12 HA12 HY12 HT12 HU12 HX12 HW12 HP12
  go_wp2_with fail
  refine Calls.mono (quiet_below (same_ints _ _ n n n (digs xs i) w13 (lies_of_own HW13.out) (lies_of_own HP13.out) (by omega))) ?_
  rintro e w14 ⟨rfl, hb⟩
  have hz14 : w13.heap.size ≤ w14.heap.size := hb.size
  have hs14 := Nat.le_trans hs13 hb.size
  have HB14 := hide (HB13.out.trans (hb.mono hs13))
  have HA14 := hide (HA13.out.below hb)
  have HY14 := hide (HY13.out.below hb)
  have HT14 := hide (own_below HT13.out hb)
  have HU14 := hide (own_below HU13.out hb)
  have HX14 := hide (own_below HX13.out hb)
  have HW14 := hide (own_below HW13.out hb)
  clear hb HB13 HA13 HY13 HT13 HU13 HX13 HW13 HP13
  go_wp2_with fail
  refine Calls.mono (quiet_below (left_Ints _ n (n + 1) c _ xs w14 (lies_of_own HT14.out) HA14.out (Nat.le_refl _) (by omega))) ?_
  rintro e w15 ⟨rfl, hb⟩
  have hz15 : w14.heap.size ≤ w15.heap.size := hb.size
  have hs15 := Nat.le_trans hs14 hb.size
  have HB15 := hide (HB14.out.trans (hb.mono hs14))
  have HA15 := hide (HA14.out.below hb)
  have HY15 := hide (HY14.out.below hb)
  have HT15 := hide (own_below HT14.out hb)
  have HU15 := hide (own_below HU14.out hb)
  have HX15 := hide (own_below HX14.out hb)
  have HW15 := hide (own_below HW14.out hb)
  clear hb HB14 HA14 HY14 HT14 HU14 HX14 HW14
  go_wp2_with fail
  refine Calls.mono (quiet_below (left_Ints _ m (m + 1) cB _ ys w15 (lies_of_own HU15.out) HY15.out (Nat.le_refl _) (by omega))) ?_
  rintro e w16 ⟨rfl, hb⟩
  have hz16 : w15.heap.size ≤ w16.heap.size := hb.size
  have hs16 := Nat.le_trans hs15 hb.size
  have HB16 := hide (HB15.out.trans (hb.mono hs15))
  have HA16 := hide (HA15.out.below hb)
  have HY16 := hide (HY15.out.below hb)
  have HT16 := hide (own_below HT15.out hb)
  have HU16 := hide (own_below HU15.out hb)
  have HX16 := hide (own_below HX15.out hb)
  have HW16 := hide (own_below HW15.out hb)
  clear hb HB15 HA15 HY15 HT15 HU15 HX15 HW15
  go_wp2_with fail
  have HK16 : Hid (BkAt (w16.alloc (.cells #[Value.int .i64 0, Value.slice none 0 0, Value.slice none 0 0, Value.slice none 0 0, Value.slice none 0 0, Value.slice none 0 0, Value.slice none 0 0, Value.slice none 0 0, Value.slice none 0 0, Value.slice none 0 0, Value.slice none 0 0, Value.slice none 0 0, Value.slice none 0 0, Value.slice none 0 0, Value.slice none 0 0, Value.slice none 0 0] 49)) w16.heap.size w.heap.size 0 none 0 []) := hide (book_new w16 hs16)
  have HTk := hide (HT16.out.alloc (.cells #[Value.int .i64 0, Value.slice none 0 0, Value.slice none 0 0, Value.slice none 0 0, Value.slice none 0 0, Value.slice none 0 0, Value.slice none 0 0, Value.slice none 0 0, Value.slice none 0 0, Value.slice none 0 0, Value.slice none 0 0, Value.slice none 0 0, Value.slice none 0 0, Value.slice none 0 0, Value.slice none 0 0, Value.slice none 0 0] 49))
  have HUk := hide (HU16.out.alloc (.cells #[Value.int .i64 0, Value.slice none 0 0, Value.slice none 0 0, Value.slice none 0 0, Value.slice none 0 0, Value.slice none 0 0, Value.slice none 0 0, Value.slice none 0 0, Value.slice none 0 0, Value.slice none 0 0, Value.slice none 0 0, Value.slice none 0 0, Value.slice none 0 0, Value.slice none 0 0, Value.slice none 0 0, Value.slice none 0 0] 49))
  have HXk := hide (HX16.out.alloc (.cells #[Value.int .i64 0, Value.slice none 0 0, Value.slice none 0 0, Value.slice none 0 0, Value.slice none 0 0, Value.slice none 0 0, Value.slice none 0 0, Value.slice none 0 0, Value.slice none 0 0, Value.slice none 0 0, Value.slice none 0 0, Value.slice none 0 0, Value.slice none 0 0, Value.slice none 0 0, Value.slice none 0 0, Value.slice none 0 0] 49))
  have HWk := hide (HW16.out.alloc (.cells #[Value.int .i64 0, Value.slice none 0 0, Value.slice none 0 0, Value.slice none 0 0, Value.slice none 0 0, Value.slice none 0 0, Value.slice none 0 0, Value.slice none 0 0, Value.slice none 0 0, Value.slice none 0 0, Value.slice none 0 0, Value.slice none 0 0, Value.slice none 0 0, Value.slice none 0 0, Value.slice none 0 0, Value.slice none 0 0] 49))
  have HBk := hide (HB16.out.alloc hs16 (.cells #[Value.int .i64 0, Value.slice none 0 0, Value.slice none 0 0, Value.slice none 0 0, Value.slice none 0 0, Value.slice none 0 0, Value.slice none 0 0, Value.slice none 0 0, Value.slice none 0 0, Value.slice none 0 0, Value.slice none 0 0, Value.slice none 0 0, Value.slice none 0 0, Value.slice none 0 0, Value.slice none 0 0, Value.slice none 0 0] 49))
  clear HT16 HU16 HX16 HW16 HA16 HY16 HB16
  have HT16 := HTk
  have HU16 := HUk
  have HX16 := HXk
  have HW16 := HWk
  have HB16 := HBk
  clear HBk HTk HUk HXk HWk
  refine Calls.mono (add_Int _ w.heap.size 0 _ n (n + 1) _ _ _ _ _ HK16.out.blk rfl rfl HK16.out.rowInt HK16.out.baseW HK16.out.baseB (by omega) (by simp)) ?_
  rintro e w17 ⟨rfl, H', c', hk⟩
  have HK17 := hide (HK16.out.addInt hk (own_part HT16.out (by rw [HLA.out]) (by omega)) (by omega) (by omega) (fun i t ht => by simp at ht))
  have HT17 := hide (hk.keep.own HT16.out (by decide))
  have HU17 := hide (hk.keep.own HU16.out (by decide))
  have HX17 := hide (hk.keep.own HX16.out (by decide))
  have HW17 := hide (hk.keep.own HW16.out (by decide))
  have HB17 := hide (HB16.out.trans hk.below)
  clear hk HK16 HB16 HT16 HU16 HX16 HW16
  go_wp2_with fail
  refine Calls.mono (add_Int _ w.heap.size 1 _ m (m + 1) _ _ _ _ _ HK17.out.blk rfl rfl HK17.out.rowInt HK17.out.baseW HK17.out.baseB (by omega) (by simp)) ?_
  rintro e w18 ⟨rfl, H', c', hk⟩
  have HK18 := hide (HK17.out.addInt hk (own_part HU17.out (by rw [HLB.out]) (by omega)) (by omega) (by omega) (fun i t ht => by have hm := List.mem_of_getElem? ht; simp at hm; rcases hm with rfl <;> simp [It.l, Value.ownBlock] <;> omega))
  have HT18 := hide (hk.keep.own HT17.out (by decide))
  have HU18 := hide (hk.keep.own HU17.out (by decide))
  have HX18 := hide (hk.keep.own HX17.out (by decide))
  have HW18 := hide (hk.keep.own HW17.out (by decide))
  have HB18 := hide (HB17.out.trans hk.below)
  clear hk HK17 HB17 HT17 HU17 HX17 HW17
  go_wp2_with fail
  refine Calls.mono (add_Int _ w.heap.size 2 _ n n _ _ _ _ _ HK18.out.blk rfl rfl HK18.out.rowInt HK18.out.baseW HK18.out.baseB (by omega) (by simp)) ?_
  rintro e w19 ⟨rfl, H', c', hk⟩
  have HK19 := hide (HK18.out.addInt hk HX18.out (by omega) (by omega) (fun i t ht => by have hm := List.mem_of_getElem? ht; simp at hm; rcases hm with rfl | rfl <;> simp [It.l, Value.ownBlock] <;> omega))
  have HT19 := hide (hk.keep.own HT18.out (by decide))
  have HU19 := hide (hk.keep.own HU18.out (by decide))
  have HX19 := hide (hk.keep.own HX18.out (by decide))
  have HW19 := hide (hk.keep.own HW18.out (by decide))
  have HB19 := hide (HB18.out.trans hk.below)
  clear hk HK18 HB18 HT18 HU18 HX18 HW18
  go_wp2_with fail
  refine Calls.mono (add_Int _ w.heap.size 3 _ n n _ _ _ _ _ HK19.out.blk rfl rfl HK19.out.rowInt HK19.out.baseW HK19.out.baseB (by omega) (by simp)) ?_
  rintro e w20 ⟨rfl, H', c', hk⟩
  have HK20 := hide (HK19.out.addInt hk HW19.out (by omega) (by omega) (fun i t ht => by have hm := List.mem_of_getElem? ht; simp at hm; rcases hm with rfl | rfl | rfl <;> simp [It.l, Value.ownBlock] <;> omega))
  have HT20 := hide (hk.keep.own HT19.out (by decide))
  have HU20 := hide (hk.keep.own HU19.out (by decide))
  have HX20 := hide (hk.keep.own HX19.out (by decide))
  have HW20 := hide (hk.keep.own HW19.out (by decide))
  have HB20 := hide (HB19.out.trans hk.below)
  clear hk HK19 HB19 HT19 HU19 HX19 HW19
  go_wp2_with fail
  refine Calls.mono (apart_any _ _ _ _ _ _ _ HK20.out) ?_
  rintro e wz ⟨rfl, hb⟩
  have HBz := hide (HB20.out.trans hb)
  clear hb
  go_wp2
  go_ret
  exact ⟨rfl, HBz.out⟩

set_option maxRecDepth 100000 in
set_option maxHeartbeats 8000000 in
theorem of_err (A B : Option Addr) (n c m cB : Nat) (i : Int) (xs ys : List Int) (w : World) (ha : Lies w A n (xs.map (Value.int .i64))) (hy : Lies w B m (ys.map (Value.int .i64))) (h : n + m ≤ 1048576) (h1 : i < 0 ∨ sizeI xs ≤ i) :
    Calls Tryz.prog 3 #[.slice A n c, .slice B m cB, .int .i64 i] w fun e w' => e = .returned (.bool true) ∧ Below w.heap.size w w' := by
  have HA0 := hide ha
  have HY0 := hide hy
  have HLA := hide ha.len
  have HLB := hide hy.len
  have HLX : Hid (xs.length = n) := hide (by have := ha.len; simpa using this)
  have HB0 := hide (Below.refl w.heap.size w)
  have hs0 : w.heap.size ≤ w.heap.size := Nat.le_refl _
  obtain ⟨I, hI⟩ : ∃ I, I = idxV xs ys := ⟨_, rfl⟩
  obtain ⟨E, hE⟩ : ∃ E, E = idxE xs ys := ⟨_, rfl⟩
  obtain ⟨N, hN⟩ : ∃ N, N = sizeI xs := ⟨_, rfl⟩
  obtain ⟨cb, hcb⟩ : ∃ cb, cb = decide (0 < sizeI xs) := ⟨_, rfl⟩
  rw [← hN] at h1
  have HIx := hide hI
  have HE := hide hE
  have HN := hide hN
  have HCB := hide hcb
  clear ha hy hI hE hN hcb
  go_enter Tryz.func3, Tryz.ntmps3
  go_wp2_with fail
  refine Calls.mono (still_below (beyond_no _ 2 2 [(n : Int), (m : Int)] _ (lies_lit w [(n : Int), (m : Int)] 3) (by simp) (by simp; omega) (by omega))) ?_
  rintro e w1 ⟨rfl, hb⟩
  have hbl : Below w.heap.size w w1 := below_lit (Below.refl _ _) (Nat.le_refl _) hb
  have hz1 : w.heap.size ≤ w1.heap.size := hbl.size
  have hs1 := Nat.le_trans hs0 hbl.size
  have HB1 := hide (HB0.out.trans (hbl.mono hs0))
  have HA1 := hide (HA0.out.below hbl)
  have HY1 := hide (HY0.out.below hbl)
  clear hb hbl HB0 HA0 HY0
  go_wp2_with fail
  refine Calls.mono (twin_Ints A n c xs w1 HA1.out (by omega)) ?_
  rintro e w2 ⟨rfl, ho, hb⟩
  have hz2 : w1.heap.size ≤ w2.heap.size := hb.size
  have hs2 := Nat.le_trans hs1 hb.size
  have HB2 := hide (HB1.out.trans (hb.mono hs1))
  have HA2 := hide (HA1.out.below hb)
  have HY2 := hide (HY1.out.below hb)
  have HT2 := hide (own_base ho hs1)
  clear hb HB1 HA1 HY1
  have lt1 := (own_lt ho (g := w1.heap.size) rfl).2
  clear ho
  go_wp2_with fail
  refine Calls.mono (twin_Ints B m cB ys w2 HY2.out (by omega)) ?_
  rintro e w3 ⟨rfl, ho, hb⟩
  have hz3 : w2.heap.size ≤ w3.heap.size := hb.size
  have hs3 := Nat.le_trans hs2 hb.size
  have HB3 := hide (HB2.out.trans (hb.mono hs2))
  have HA3 := hide (HA2.out.below hb)
  have HY3 := hide (HY2.out.below hb)
  have HT3 := hide (own_below HT2.out hb)
  have HU3 := hide (own_base ho hs2)
  clear hb HB2 HA2 HY2 HT2
  have lt2 := (own_lt ho (g := w2.heap.size) rfl).2
  clear ho
  go_wp2_with fail
  refine Calls.mono (index_any _ _ n (n + 1) m (m + 1) xs ys w3 (lies_of_own (own_part HT3.out (by rw [HLA.out]) (by omega))) (lies_of_own (own_part HU3.out (by rw [HLB.out]) (by omega))) (by omega) (by omega)) ?_
  rintro e w4 ⟨rfl, hb⟩
  rw [← HIx.out, ← HE.out]
  have hz4 : w3.heap.size ≤ w4.heap.size := hb.size
  have hs4 := Nat.le_trans hs3 hb.size
  have HB4 := hide (HB3.out.trans (hb.mono hs3))
  have HA4 := hide (HA3.out.below hb)
  have HY4 := hide (HY3.out.below hb)
  have HT4 := hide (own_below HT3.out hb)
  have HU4 := hide (own_below HU3.out hb)
  clear hb HB3 HA3 HY3 HT3 HU3
  go_wp2_with fail
  refine Calls.mono (rindex_any A B n c m cB xs ys w4 HA4.out HY4.out (by omega) (by omega)) ?_
  rintro e w5 ⟨rfl, hb⟩
  rw [← HIx.out, ← HE.out]
  have hz5 : w4.heap.size ≤ w5.heap.size := hb.size
  have hs5 := Nat.le_trans hs4 hb.size
  have HB5 := hide (HB4.out.trans (hb.mono hs4))
  have HA5 := hide (HA4.out.below hb)
  have HY5 := hide (HY4.out.below hb)
  have HT5 := hide (own_below HT4.out hb)
  have HU5 := hide (own_below HU4.out hb)
  clear hb HB4 HA4 HY4 HT4 HU4
  go_wp2_with fail
  refine Calls.mono (at_err _ n (n + 1) i xs w5 (lies_of_own (own_part HT5.out (by rw [HLA.out]) (by omega))) (by omega) (by rw [← HN.out]; exact h1)) ?_
  rintro e w6 ⟨rfl, hb⟩
  have hz6 : w5.heap.size ≤ w6.heap.size := hb.size
  have hs6 := Nat.le_trans hs5 hb.size
  have HB6 := hide (HB5.out.trans (hb.mono hs5))
  have HA6 := hide (HA5.out.below hb)
  have HY6 := hide (HY5.out.below hb)
  have HT6 := hide (own_below HT5.out hb)
  have HU6 := hide (own_below HU5.out hb)
  clear hb HB5 HA5 HY5 HT5 HU5
  go_wp2_with fail
  refine Calls.mono (at_err _ n (n + 1) i xs w6 (lies_of_own (own_part HT6.out (by rw [HLA.out]) (by omega))) (by omega) (by rw [← HN.out]; exact h1)) ?_
  rintro e w7 ⟨rfl, hb⟩
  have hz7 : w6.heap.size ≤ w7.heap.size := hb.size
  have hs7 := Nat.le_trans hs6 hb.size
  have HB7 := hide (HB6.out.trans (hb.mono hs6))
  have HA7 := hide (HA6.out.below hb)
  have HY7 := hide (HY6.out.below hb)
  have HT7 := hide (own_below HT6.out hb)
  have HU7 := hide (own_below HU6.out hb)
  clear hb HB6 HA6 HY6 HT6 HU6
  go_wp2_with fail
  refine Calls.mono (rat_err A n c i xs w7 HA7.out (by omega) (by rw [← HN.out]; exact h1)) ?_
  rintro e w8 ⟨rfl, hb⟩
  have hz8 : w7.heap.size ≤ w8.heap.size := hb.size
  have hs8 := Nat.le_trans hs7 hb.size
  have HB8 := hide (HB7.out.trans (hb.mono hs7))
  have HA8 := hide (HA7.out.below hb)
  have HY8 := hide (HY7.out.below hb)
  have HT8 := hide (own_below HT7.out hb)
  have HU8 := hide (own_below HU7.out hb)
  clear hb HB7 HA7 HY7 HT7 HU7
  go_wp2_with fail
  refine Calls.mono (check_any _ n (n + 1) xs w8 (lies_of_own (own_part HT8.out (by rw [HLA.out]) (by omega))) (by omega)) ?_
  rintro e w9 ⟨rfl, hb⟩
  rw [← HCB.out]
  have hz9 : w8.heap.size ≤ w9.heap.size := hb.size
  have hs9 := Nat.le_trans hs8 hb.size
  have HB9 := hide (HB8.out.trans (hb.mono hs8))
  have HA9 := hide (HA8.out.below hb)
  have HY9 := hide (HY8.out.below hb)
  have HT9 := hide (own_below HT8.out hb)
  have HU9 := hide (own_below HU8.out hb)
  clear hb HB8 HA8 HY8 HT8 HU8
  go_wp2_with fail
  refine Calls.mono (still_below (rcheck_any A n c xs w9 HA9.out (by omega))) ?_
  rintro e w10 ⟨rfl, hb⟩
  rw [← HCB.out]
  have hz10 : w9.heap.size ≤ w10.heap.size := hb.size
  have hs10 := Nat.le_trans hs9 hb.size
  have HB10 := hide (HB9.out.trans (hb.mono hs9))
  have HA10 := hide (HA9.out.below hb)
  have HY10 := hide (HY9.out.below hb)
  have HT10 := hide (own_below HT9.out hb)
  have HU10 := hide (own_below HU9.out hb)
  clear hb HB9 HA9 HY9 HT9 HU9
  go_wp2_with fail
  refine Calls.mono (size_any _ n (n + 1) xs w10 (lies_of_own (own_part HT10.out (by rw [HLA.out]) (by omega))) (by omega)) ?_
  rintro e w11 ⟨rfl, hb⟩
  rw [← HN.out]
  have hz11 : w10.heap.size ≤ w11.heap.size := hb.size
  have hs11 := Nat.le_trans hs10 hb.size
  have HB11 := hide (HB10.out.trans (hb.mono hs10))
  have HA11 := hide (HA10.out.below hb)
  have HY11 := hide (HY10.out.below hb)
  have HT11 := hide (own_below HT10.out hb)
  have HU11 := hide (own_below HU10.out hb)
  clear hb HB10 HA10 HY10 HT10 HU10
  go_wp2_with fail
  refine Calls.mono (still_below (rsize_any A n c xs w11 HA11.out (by omega))) ?_
  rintro e w12 ⟨rfl, hb⟩
  rw [← HN.out]
  have hz12 : w11.heap.size ≤ w12.heap.size := hb.size
  have hs12 := Nat.le_trans hs11 hb.size
  have HB12 := hide (HB11.out.trans (hb.mono hs11))
  have HA12 := hide (HA11.out.below hb)
  have HY12 := hide (HY11.out.below hb)
  have HT12 := hide (own_below HT11.out hb)
  have HU12 := hide (own_below HU11.out hb)
  clear hb HB11 HA11 HY11 HT11 HU11
  go_wp2_with fail
  refine Calls.mono (quiet_below (same_ints none none 0 0 0 [] w12 Lies.nothing Lies.nothing (by omega))) ?_
  rintro e w13 ⟨rfl, hb⟩
  have hz13 : w12.heap.size ≤ w13.heap.size := hb.size
  have hs13 := Nat.le_trans hs12 hb.size
  have HB13 := hide (HB12.out.trans (hb.mono hs12))
  have HA13 := hide (HA12.out.below hb)
  have HY13 := hide (HY12.out.below hb)
  have HT13 := hide (own_below HT12.out hb)
  have HU13 := hide (own_below HU12.out hb)
  clear hb HB12 HA12 HY12 HT12 HU12
  go_wp2_with fail
  refine Calls.mono (quiet_below (same_ints none none 0 0 0 [] w13 Lies.nothing Lies.nothing (by omega))) ?_
  rintro e w14 ⟨rfl, hb⟩
  have hz14 : w13.heap.size ≤ w14.heap.size := hb.size
  have hs14 := Nat.le_trans hs13 hb.size
  have HB14 := hide (HB13.out.trans (hb.mono hs13))
  have HA14 := hide (HA13.out.below hb)
  have HY14 := hide (HY13.out.below hb)
  have HT14 := hide (own_below HT13.out hb)
  have HU14 := hide (own_below HU13.out hb)
  clear hb HB13 HA13 HY13 HT13 HU13
  go_wp2_with fail
  refine Calls.mono (quiet_below (left_Ints _ n (n + 1) c _ xs w14 (lies_of_own HT14.out) HA14.out (Nat.le_refl _) (by omega))) ?_
  rintro e w15 ⟨rfl, hb⟩
  have hz15 : w14.heap.size ≤ w15.heap.size := hb.size
  have hs15 := Nat.le_trans hs14 hb.size
  have HB15 := hide (HB14.out.trans (hb.mono hs14))
  have HA15 := hide (HA14.out.below hb)
  have HY15 := hide (HY14.out.below hb)
  have HT15 := hide (own_below HT14.out hb)
  have HU15 := hide (own_below HU14.out hb)
  clear hb HB14 HA14 HY14 HT14 HU14
  go_wp2_with fail
  refine Calls.mono (quiet_below (left_Ints _ m (m + 1) cB _ ys w15 (lies_of_own HU15.out) HY15.out (Nat.le_refl _) (by omega))) ?_
  rintro e w16 ⟨rfl, hb⟩
  have hz16 : w15.heap.size ≤ w16.heap.size := hb.size
  have hs16 := Nat.le_trans hs15 hb.size
  have HB16 := hide (HB15.out.trans (hb.mono hs15))
  have HA16 := hide (HA15.out.below hb)
  have HY16 := hide (HY15.out.below hb)
  have HT16 := hide (own_below HT15.out hb)
  have HU16 := hide (own_below HU15.out hb)
  clear hb HB15 HA15 HY15 HT15 HU15
  go_wp2_with fail
  have HK16 : Hid (BkAt (w16.alloc (.cells #[Value.int .i64 0, Value.slice none 0 0, Value.slice none 0 0, Value.slice none 0 0, Value.slice none 0 0, Value.slice none 0 0, Value.slice none 0 0, Value.slice none 0 0, Value.slice none 0 0, Value.slice none 0 0, Value.slice none 0 0, Value.slice none 0 0, Value.slice none 0 0, Value.slice none 0 0, Value.slice none 0 0, Value.slice none 0 0] 49)) w16.heap.size w.heap.size 0 none 0 []) := hide (book_new w16 hs16)
  have HTk := hide (HT16.out.alloc (.cells #[Value.int .i64 0, Value.slice none 0 0, Value.slice none 0 0, Value.slice none 0 0, Value.slice none 0 0, Value.slice none 0 0, Value.slice none 0 0, Value.slice none 0 0, Value.slice none 0 0, Value.slice none 0 0, Value.slice none 0 0, Value.slice none 0 0, Value.slice none 0 0, Value.slice none 0 0, Value.slice none 0 0, Value.slice none 0 0] 49))
  have HUk := hide (HU16.out.alloc (.cells #[Value.int .i64 0, Value.slice none 0 0, Value.slice none 0 0, Value.slice none 0 0, Value.slice none 0 0, Value.slice none 0 0, Value.slice none 0 0, Value.slice none 0 0, Value.slice none 0 0, Value.slice none 0 0, Value.slice none 0 0, Value.slice none 0 0, Value.slice none 0 0, Value.slice none 0 0, Value.slice none 0 0, Value.slice none 0 0] 49))
  have HBk := hide (HB16.out.alloc hs16 (.cells #[Value.int .i64 0, Value.slice none 0 0, Value.slice none 0 0, Value.slice none 0 0, Value.slice none 0 0, Value.slice none 0 0, Value.slice none 0 0, Value.slice none 0 0, Value.slice none 0 0, Value.slice none 0 0, Value.slice none 0 0, Value.slice none 0 0, Value.slice none 0 0, Value.slice none 0 0, Value.slice none 0 0, Value.slice none 0 0] 49))
  clear HT16 HU16 HA16 HY16 HB16
  have HT16 := HTk
  have HU16 := HUk
  have HB16 := HBk
  clear HBk HTk HUk
  refine Calls.mono (add_Int _ w.heap.size 0 _ n (n + 1) _ _ _ _ _ HK16.out.blk rfl rfl HK16.out.rowInt HK16.out.baseW HK16.out.baseB (by omega) (by simp)) ?_
  rintro e w17 ⟨rfl, H', c', hk⟩
  have HK17 := hide (HK16.out.addInt hk (own_part HT16.out (by rw [HLA.out]) (by omega)) (by omega) (by omega) (fun i t ht => by simp at ht))
  have HT17 := hide (hk.keep.own HT16.out (by decide))
  have HU17 := hide (hk.keep.own HU16.out (by decide))
  have HB17 := hide (HB16.out.trans hk.below)
  clear hk HK16 HB16 HT16 HU16
  go_wp2_with fail
  refine Calls.mono (add_Int _ w.heap.size 1 _ m (m + 1) _ _ _ _ _ HK17.out.blk rfl rfl HK17.out.rowInt HK17.out.baseW HK17.out.baseB (by omega) (by simp)) ?_
  rintro e w18 ⟨rfl, H', c', hk⟩
  have HK18 := hide (HK17.out.addInt hk (own_part HU17.out (by rw [HLB.out]) (by omega)) (by omega) (by omega) (fun i t ht => by have hm := List.mem_of_getElem? ht; simp at hm; rcases hm with rfl <;> simp [It.l, Value.ownBlock] <;> omega))
  have HT18 := hide (hk.keep.own HT17.out (by decide))
  have HU18 := hide (hk.keep.own HU17.out (by decide))
  have HB18 := hide (HB17.out.trans hk.below)
  clear hk HK17 HB17 HT17 HU17
  go_wp2_with fail
  refine Calls.mono (add_Int _ w.heap.size 2 _ 0 0 _ _ _ _ _ HK18.out.blk rfl rfl HK18.out.rowInt HK18.out.baseW HK18.out.baseB (by omega) (by simp)) ?_
  rintro e w19 ⟨rfl, H', c', hk⟩
  have HK19 := hide (HK18.out.addInt hk (World.ownsRow_nil _ _ _ _) (by omega) (by omega) (fun i t ht => by have hm := List.mem_of_getElem? ht; simp at hm; rcases hm with rfl | rfl <;> simp [It.l, Value.ownBlock]))
  have HT19 := hide (hk.keep.own HT18.out (by decide))
  have HU19 := hide (hk.keep.own HU18.out (by decide))
  have HB19 := hide (HB18.out.trans hk.below)
  clear hk HK18 HB18 HT18 HU18
  go_wp2_with fail
  refine Calls.mono (add_Int _ w.heap.size 3 _ 0 0 _ _ _ _ _ HK19.out.blk rfl rfl HK19.out.rowInt HK19.out.baseW HK19.out.baseB (by omega) (by simp)) ?_
  rintro e w20 ⟨rfl, H', c', hk⟩
  have HK20 := hide (HK19.out.addInt hk (World.ownsRow_nil _ _ _ _) (by omega) (by omega) (fun i t ht => by have hm := List.mem_of_getElem? ht; simp at hm; rcases hm with rfl | rfl | rfl <;> simp [It.l, Value.ownBlock]))
  have HT20 := hide (hk.keep.own HT19.out (by decide))
  have HU20 := hide (hk.keep.own HU19.out (by decide))
  have HB20 := hide (HB19.out.trans hk.below)
  clear hk HK19 HB19 HT19 HU19
  go_wp2_with fail
  refine Calls.mono (apart_any _ _ _ _ _ _ _ HK20.out) ?_
  rintro e wz ⟨rfl, hb⟩
  have HBz := hide (HB20.out.trans hb)
  clear hb
  go_wp2
  go_ret
  exact ⟨rfl, HBz.out⟩

theorem of_any (A B : Option Addr) (n c m cB : Nat) (i : Int) (xs ys : List Int) (w : World) (ha : Lies w A n (xs.map (Value.int .i64))) (hy : Lies w B m (ys.map (Value.int .i64))) (hn : n * 8 ≤ 140737488351232) (hm : m * 8 ≤ 140737488351232) :
    Calls Tryz.prog 3 #[.slice A n c, .slice B m cB, .int .i64 i] w fun e w' => e = .returned (.bool true) ∧ Below w.heap.size w w' := by
  by_cases h : 1048576 < n + m
  · exact of_long A B n c m cB i w (by omega) (by omega) h
  · by_cases h0 : i < 0 ∨ sizeI xs ≤ i
    · exact of_err A B n c m cB i xs ys w ha hy (by omega) h0
    · exact of_ok A B n c m cB i xs ys w ha hy (by omega) (by omega) (by omega)
end Go.Proofs.YtlkldodkoeaedaaGreatDoor
