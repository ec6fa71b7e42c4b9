/- NumsGet: for every bytes the walk of its Go text ends in true. -/
import Derived.Test.YtkmkhjhdgickfaaGreatDoorNumsPut
import Derived.Test.YtkmkhjhdgickfaaGreatDoorGet
namespace Go.Proofs.YtkmkhjhdgickfaaGreatDoor
open Go.RowKit
set_option linter.unusedVariables false

set_option maxRecDepth 100000 in
set_option maxHeartbeats 1000000 in
theorem get_long (A : Option Addr) (n c : Nat) (w : World) (hn : n ≤ 281474976710656) (h : 1048576 < n) :
    Calls Tryz.prog 4 #[.slice A n c] w fun e w' => e = .returned (.bool true) ∧ Below w.heap.size w w' := by
  go_enter Tryz.func4, Tryz.ntmps4
  go_wp2_with fail
  refine Calls.mono (still_below (beyond_yes _ 1 1 [(n : Int)] _ (lies_lit w .i64 [(n : Int)] 3) (by simp; omega) (by simp; omega) (by omega))) ?_
  rintro e w1 ⟨rfl, hb⟩
  have HB1 := hide (below_lit (Below.refl w.heap.size w) (Nat.le_refl _) hb)
  clear hb
  go_wp2
  go_ret
  exact ⟨rfl, HB1.out⟩


set_option maxRecDepth 100000 in
set_option maxHeartbeats 4000000 in
theorem get_none (A : Option Addr) (n c q : Nat) (bs : List Int) (w : World) (ha : Lies w A n (bs.map (Value.int .u8))) (hnc : n ≤ c) (hby : Bytes bs) (h : n ≤ 1048576) (hn : n < 4) :
    Calls Tryz.prog 4 #[.slice A n c] w fun e w' => e = .returned (.bool true) ∧ Below w.heap.size w w' := by
  have HA0 := hide ha
  have HLB := hide ha.len
  have HBY := hide hby
  have HB0 := hide (Below.refl w.heap.size w)
  have hs0 : w.heap.size ≤ w.heap.size := Nat.le_refl _
  clear ha hby
  go_enter Tryz.func4, Tryz.ntmps4
  go_wp2_with fail
  refine Calls.mono (still_below (beyond_no _ 1 1 [(n : Int)] _ (lies_lit w .i64 [(n : Int)] 3) (by simp) (by simp; omega) (by omega))) ?_
  rintro e w1 ⟨rfl, hb⟩
  have hbl : Below w.heap.size w w1 := below_lit (Below.refl _ _) (Nat.le_refl _) hb
  have hs1 := Nat.le_trans hs0 hbl.size
  have HB1 := hide (HB0.out.trans (hbl.mono hs0))
  have HA1 := hide (HA0.out.below hbl)
  clear hb hbl HB0 HA0
  go_wp2_with fail
  refine Calls.mono (twin_Bytes A n c bs w1 HA1.out (by omega)) ?_
  rintro e w2 ⟨rfl, ho, hb⟩
  have hs2 := Nat.le_trans hs1 hb.size
  have HB2 := hide (HB1.out.trans (hb.mono hs1))
  have HA2 := hide (HA1.out.below hb)
  have HT2 := hide (own_base ho hs1)
  clear hb HB1 HA1
  have lt1 := (own_lt ho (g := w1.heap.size) rfl).2
  clear ho
  go_wp2_with fail
  refine Calls.mono (still_below (get4_short _ n (n + 1) w2 hn)) ?_
  rintro e w3 ⟨rfl, hb⟩
  have hs3 := Nat.le_trans hs2 hb.size
  have HB3 := hide (HB2.out.trans (hb.mono hs2))
  have HA3 := hide (HA2.out.below hb)
  have HT3 := hide (own_below HT2.out hb)
  clear hb HB2 HA2 HT2
  go_wp2_with fail
  refine Calls.mono (still_below (ref_get4_short A n c w3 hn)) ?_
  rintro e w4 ⟨rfl, hb⟩
  have hs4 := Nat.le_trans hs3 hb.size
  have HB4 := hide (HB3.out.trans (hb.mono hs3))
  have HA4 := hide (HA3.out.below hb)
  have HT4 := hide (own_below HT3.out hb)
  clear hb HB3 HA3 HT3
  go_wp2_with fail
  refine Calls.mono (still_below (getList_none _ n (n + 1) w4 hn)) ?_
  rintro e w5 ⟨rfl, hb⟩
  have hs5 := Nat.le_trans hs4 hb.size
  have HB5 := hide (HB4.out.trans (hb.mono hs4))
  have HA5 := hide (HA4.out.below hb)
  have HT5 := hide (own_below HT4.out hb)
  clear hb HB4 HA4 HT4
  go_wp2_with fail
  refine Calls.mono (still_below (getList_none _ n (n + 1) w5 hn)) ?_
  rintro e w6 ⟨rfl, hb⟩
  have hs6 := Nat.le_trans hs5 hb.size
  have HB6 := hide (HB5.out.trans (hb.mono hs5))
  have HA6 := hide (HA5.out.below hb)
  have HT6 := hide (own_below HT5.out hb)
  clear hb HB5 HA5 HT5
  go_wp2_with fail
  refine Calls.mono (still_below (ref_getList_none A n c w6 hn)) ?_
  rintro e w7 ⟨rfl, hb⟩
  have hs7 := Nat.le_trans hs6 hb.size
  have HB7 := hide (HB6.out.trans (hb.mono hs6))
  have HA7 := hide (HA6.out.below hb)
  have HT7 := hide (own_below HT6.out hb)
  clear hb HB6 HA6 HT6
  go_wp2_with fail
  refine Calls.mono (quiet_below (same_i32 none none 0 0 0 [] w7 Lies.nothing Lies.nothing (by omega))) ?_
  rintro e w8 ⟨rfl, hb⟩
  have hs8 := Nat.le_trans hs7 hb.size
  have HB8 := hide (HB7.out.trans (hb.mono hs7))
  have HA8 := hide (HA7.out.below hb)
  have HT8 := hide (own_below HT7.out hb)
  clear hb HB7 HA7 HT7
  go_wp2_with fail
  refine Calls.mono (quiet_below (same_i32 none none 0 0 0 [] w8 Lies.nothing Lies.nothing (by omega))) ?_
  rintro e w9 ⟨rfl, hb⟩
  have hs9 := Nat.le_trans hs8 hb.size
  have HB9 := hide (HB8.out.trans (hb.mono hs8))
  have HA9 := hide (HA8.out.below hb)
  have HT9 := hide (own_below HT8.out hb)
  clear hb HB8 HA8 HT8
  go_wp2_with fail
  refine Calls.mono (quiet_below (left_Bytes _ n (n + 1) c _ bs w9 (lies_of_own HT9.out) HA9.out (Nat.le_refl _) (by omega))) ?_
  rintro e w10 ⟨rfl, hb⟩
  have hs10 := Nat.le_trans hs9 hb.size
  have HB10 := hide (HB9.out.trans (hb.mono hs9))
  have HA10 := hide (HA9.out.below hb)
  have HT10 := hide (own_below HT9.out hb)
  clear hb HB9 HA9 HT9
  go_wp2_with fail
  have HK10 : Hid (BkAt (w10.alloc (.cells #[Value.int .i64 0, Value.slice none 0 0, Value.slice none 0 0, Value.slice none 0 0, Value.slice none 0 0, Value.slice none 0 0, Value.slice none 0 0, Value.slice none 0 0, Value.slice none 0 0, Value.slice none 0 0, Value.slice none 0 0, Value.slice none 0 0, Value.slice none 0 0, Value.slice none 0 0, Value.slice none 0 0, Value.slice none 0 0] 48)) w10.heap.size w.heap.size 0 none 0 [] none 0 []) := hide (book_new w10 hs10)
  have HTk := hide (HT10.out.alloc (.cells #[Value.int .i64 0, Value.slice none 0 0, Value.slice none 0 0, Value.slice none 0 0, Value.slice none 0 0, Value.slice none 0 0, Value.slice none 0 0, Value.slice none 0 0, Value.slice none 0 0, Value.slice none 0 0, Value.slice none 0 0, Value.slice none 0 0, Value.slice none 0 0, Value.slice none 0 0, Value.slice none 0 0, Value.slice none 0 0] 48))
  have HBk := hide (HB10.out.alloc hs10 (.cells #[Value.int .i64 0, Value.slice none 0 0, Value.slice none 0 0, Value.slice none 0 0, Value.slice none 0 0, Value.slice none 0 0, Value.slice none 0 0, Value.slice none 0 0, Value.slice none 0 0, Value.slice none 0 0, Value.slice none 0 0, Value.slice none 0 0, Value.slice none 0 0, Value.slice none 0 0, Value.slice none 0 0, Value.slice none 0 0] 48))
  clear HT10 HA10 HB10
  have HT10 := HTk
  have HB10 := HBk
  clear HBk HTk
  refine Calls.mono (add_Byte _ w.heap.size 0 _ n (n + 1) _ _ _ _ _ HK10.out.blk rfl rfl HK10.out.rowByte HK10.out.baseW HK10.out.baseB (by omega) (by simp)) ?_
  rintro e w11 ⟨rfl, H', c', hk⟩
  have HK11 := hide (HK10.out.addByte hk (own_part HT10.out (by rw [HLB.out]) (by omega)) (by omega) (by omega) (fun i t ht => by simp at ht))
  have HT11 := hide (hk.keep.own HT10.out (by decide))
  have HB11 := hide (HB10.out.trans hk.below)
  clear hk HK10 HB10 HT10
  go_wp2_with fail
  refine Calls.mono (add_Number _ w.heap.size 1 _ 0 0 _ _ _ _ _ HK11.out.blk rfl rfl HK11.out.rowNumber HK11.out.baseW HK11.out.baseB (by omega) (by simp)) ?_
  rintro e w12 ⟨rfl, H', c', hk⟩
  have HK12 := hide (HK11.out.addNumber hk (World.ownsRow_nil _ _ _ _) (by omega) (by omega) (fun i t ht => by simp at ht))
  have HT12 := hide (hk.keep.own HT11.out (by decide))
  have HB12 := hide (HB11.out.trans hk.below)
  clear hk HK11 HB11 HT11
  go_wp2_with fail
  refine Calls.mono (add_Number _ w.heap.size 2 _ 0 0 _ _ _ _ _ HK12.out.blk rfl rfl HK12.out.rowNumber HK12.out.baseW HK12.out.baseB (by omega) (by simp)) ?_
  rintro e w13 ⟨rfl, H', c', hk⟩
  have HK13 := hide (HK12.out.addNumber hk (World.ownsRow_nil _ _ _ _) (by omega) (by omega) (fun i t ht => ⟨.inl (by have hm := List.mem_of_getElem? ht; simp at hm; subst hm; rfl), .inl rfl⟩))
  have HT13 := hide (hk.keep.own HT12.out (by decide))
  have HB13 := hide (HB12.out.trans hk.below)
  clear hk HK12 HB12 HT12
  go_wp2_with fail
  refine Calls.mono (apart_any _ _ _ _ _ _ _ _ _ _ HK13.out) ?_
  rintro e wz ⟨rfl, hb⟩
  have HBz := hide (HB13.out.trans hb)
  clear hb
  go_wp2
  go_ret
  exact ⟨rfl, HBz.out⟩

set_option maxRecDepth 100000 in
set_option maxHeartbeats 4000000 in
theorem get_limit (A : Option Addr) (n c q : Nat) (bs : List Int) (w : World) (ha : Lies w A n (bs.map (Value.int .u8))) (hnc : n ≤ c) (hby : Bytes bs) (h : n ≤ 1048576) (hn : 4 ≤ n) (hq : head4 bs = (q : Int)) (hl : 4096 < q) :
    Calls Tryz.prog 4 #[.slice A n c] w fun e w' => e = .returned (.bool true) ∧ Below w.heap.size w w' := by
  have HA0 := hide ha
  have HLB := hide ha.len
  have HBY := hide hby
  have HB0 := hide (Below.refl w.heap.size w)
  have hs0 : w.heap.size ≤ w.heap.size := Nat.le_refl _
  clear ha hby
  have HQ := hide hq
  clear hq
  go_enter Tryz.func4, Tryz.ntmps4
  go_wp2_with fail
  refine Calls.mono (still_below (beyond_no _ 1 1 [(n : Int)] _ (lies_lit w .i64 [(n : Int)] 3) (by simp) (by simp; omega) (by omega))) ?_
  rintro e w1 ⟨rfl, hb⟩
  have hbl : Below w.heap.size w w1 := below_lit (Below.refl _ _) (Nat.le_refl _) hb
  have hs1 := Nat.le_trans hs0 hbl.size
  have HB1 := hide (HB0.out.trans (hbl.mono hs0))
  have HA1 := hide (HA0.out.below hbl)
  clear hb hbl HB0 HA0
  go_wp2_with fail
  refine Calls.mono (twin_Bytes A n c bs w1 HA1.out (by omega)) ?_
  rintro e w2 ⟨rfl, ho, hb⟩
  have hs2 := Nat.le_trans hs1 hb.size
  have HB2 := hide (HB1.out.trans (hb.mono hs1))
  have HA2 := hide (HA1.out.below hb)
  have HT2 := hide (own_base ho hs1)
  clear hb HB1 HA1
  have lt1 := (own_lt ho (g := w1.heap.size) rfl).2
  clear ho
  go_wp2_with fail
  refine Calls.mono (quiet_below (get4_long _ n (n + 1) bs w2 hn (lies_of_own (own_part HT2.out (by rw [HLB.out]) (by omega))) HBY.out)) ?_
  rintro e w3 ⟨rfl, hb⟩
  have hs3 := Nat.le_trans hs2 hb.size
  have HB3 := hide (HB2.out.trans (hb.mono hs2))
  have HA3 := hide (HA2.out.below hb)
  have HT3 := hide (own_below HT2.out hb)
  clear hb HB2 HA2 HT2
  go_wp2_with fail
  refine Calls.mono (still_below (ref_get4_long A n c bs w3 hn HA3.out HBY.out)) ?_
  rintro e w4 ⟨rfl, hb⟩
  have hs4 := Nat.le_trans hs3 hb.size
  have HB4 := hide (HB3.out.trans (hb.mono hs3))
  have HA4 := hide (HA3.out.below hb)
  have HT4 := hide (own_below HT3.out hb)
  clear hb HB3 HA3 HT3
  go_wp2_with fail
  refine Calls.mono (quiet_below (getList_limit _ n (n + 1) q bs w4 hn (lies_of_own (own_part HT4.out (by rw [HLB.out]) (by omega))) HBY.out HQ.out hl)) ?_
  rintro e w5 ⟨rfl, hb⟩
  have hs5 := Nat.le_trans hs4 hb.size
  have HB5 := hide (HB4.out.trans (hb.mono hs4))
  have HA5 := hide (HA4.out.below hb)
  have HT5 := hide (own_below HT4.out hb)
  clear hb HB4 HA4 HT4
  go_wp2_with fail
  refine Calls.mono (quiet_below (getList_limit _ n (n + 1) q bs w5 hn (lies_of_own (own_part HT5.out (by rw [HLB.out]) (by omega))) HBY.out HQ.out hl)) ?_
  rintro e w6 ⟨rfl, hb⟩
  have hs6 := Nat.le_trans hs5 hb.size
  have HB6 := hide (HB5.out.trans (hb.mono hs5))
  have HA6 := hide (HA5.out.below hb)
  have HT6 := hide (own_below HT5.out hb)
  clear hb HB5 HA5 HT5
  go_wp2_with fail
  refine Calls.mono (still_below (ref_getList_limit A n c q bs w6 hn HA6.out HBY.out HQ.out hl)) ?_
  rintro e w7 ⟨rfl, hb⟩
  have hs7 := Nat.le_trans hs6 hb.size
  have HB7 := hide (HB6.out.trans (hb.mono hs6))
  have HA7 := hide (HA6.out.below hb)
  have HT7 := hide (own_below HT6.out hb)
  clear hb HB6 HA6 HT6
  go_wp2_with fail
  refine Calls.mono (quiet_below (same_i32 none none 0 0 0 [] w7 Lies.nothing Lies.nothing (by omega))) ?_
  rintro e w8 ⟨rfl, hb⟩
  have hs8 := Nat.le_trans hs7 hb.size
  have HB8 := hide (HB7.out.trans (hb.mono hs7))
  have HA8 := hide (HA7.out.below hb)
  have HT8 := hide (own_below HT7.out hb)
  clear hb HB7 HA7 HT7
  go_wp2_with fail
  refine Calls.mono (quiet_below (same_i32 none none 0 0 0 [] w8 Lies.nothing Lies.nothing (by omega))) ?_
  rintro e w9 ⟨rfl, hb⟩
  have hs9 := Nat.le_trans hs8 hb.size
  have HB9 := hide (HB8.out.trans (hb.mono hs8))
  have HA9 := hide (HA8.out.below hb)
  have HT9 := hide (own_below HT8.out hb)
  clear hb HB8 HA8 HT8
  go_wp2_with fail
  refine Calls.mono (quiet_below (left_Bytes _ n (n + 1) c _ bs w9 (lies_of_own HT9.out) HA9.out (Nat.le_refl _) (by omega))) ?_
  rintro e w10 ⟨rfl, hb⟩
  have hs10 := Nat.le_trans hs9 hb.size
  have HB10 := hide (HB9.out.trans (hb.mono hs9))
  have HA10 := hide (HA9.out.below hb)
  have HT10 := hide (own_below HT9.out hb)
  clear hb HB9 HA9 HT9
  go_wp2_with fail
  have HK10 : Hid (BkAt (w10.alloc (.cells #[Value.int .i64 0, Value.slice none 0 0, Value.slice none 0 0, Value.slice none 0 0, Value.slice none 0 0, Value.slice none 0 0, Value.slice none 0 0, Value.slice none 0 0, Value.slice none 0 0, Value.slice none 0 0, Value.slice none 0 0, Value.slice none 0 0, Value.slice none 0 0, Value.slice none 0 0, Value.slice none 0 0, Value.slice none 0 0] 48)) w10.heap.size w.heap.size 0 none 0 [] none 0 []) := hide (book_new w10 hs10)
  have HTk := hide (HT10.out.alloc (.cells #[Value.int .i64 0, Value.slice none 0 0, Value.slice none 0 0, Value.slice none 0 0, Value.slice none 0 0, Value.slice none 0 0, Value.slice none 0 0, Value.slice none 0 0, Value.slice none 0 0, Value.slice none 0 0, Value.slice none 0 0, Value.slice none 0 0, Value.slice none 0 0, Value.slice none 0 0, Value.slice none 0 0, Value.slice none 0 0] 48))
  have HBk := hide (HB10.out.alloc hs10 (.cells #[Value.int .i64 0, Value.slice none 0 0, Value.slice none 0 0, Value.slice none 0 0, Value.slice none 0 0, Value.slice none 0 0, Value.slice none 0 0, Value.slice none 0 0, Value.slice none 0 0, Value.slice none 0 0, Value.slice none 0 0, Value.slice none 0 0, Value.slice none 0 0, Value.slice none 0 0, Value.slice none 0 0, Value.slice none 0 0] 48))
  clear HT10 HA10 HB10
  have HT10 := HTk
  have HB10 := HBk
  clear HBk HTk
  refine Calls.mono (add_Byte _ w.heap.size 0 _ n (n + 1) _ _ _ _ _ HK10.out.blk rfl rfl HK10.out.rowByte HK10.out.baseW HK10.out.baseB (by omega) (by simp)) ?_
  rintro e w11 ⟨rfl, H', c', hk⟩
  have HK11 := hide (HK10.out.addByte hk (own_part HT10.out (by rw [HLB.out]) (by omega)) (by omega) (by omega) (fun i t ht => by simp at ht))
  have HT11 := hide (hk.keep.own HT10.out (by decide))
  have HB11 := hide (HB10.out.trans hk.below)
  clear hk HK10 HB10 HT10
  go_wp2_with fail
  refine Calls.mono (add_Number _ w.heap.size 1 _ 0 0 _ _ _ _ _ HK11.out.blk rfl rfl HK11.out.rowNumber HK11.out.baseW HK11.out.baseB (by omega) (by simp)) ?_
  rintro e w12 ⟨rfl, H', c', hk⟩
  have HK12 := hide (HK11.out.addNumber hk (World.ownsRow_nil _ _ _ _) (by omega) (by omega) (fun i t ht => by simp at ht))
  have HT12 := hide (hk.keep.own HT11.out (by decide))
  have HB12 := hide (HB11.out.trans hk.below)
  clear hk HK11 HB11 HT11
  go_wp2_with fail
  refine Calls.mono (add_Number _ w.heap.size 2 _ 0 0 _ _ _ _ _ HK12.out.blk rfl rfl HK12.out.rowNumber HK12.out.baseW HK12.out.baseB (by omega) (by simp)) ?_
  rintro e w13 ⟨rfl, H', c', hk⟩
  have HK13 := hide (HK12.out.addNumber hk (World.ownsRow_nil _ _ _ _) (by omega) (by omega) (fun i t ht => ⟨.inl (by have hm := List.mem_of_getElem? ht; simp at hm; subst hm; rfl), .inl rfl⟩))
  have HT13 := hide (hk.keep.own HT12.out (by decide))
  have HB13 := hide (HB12.out.trans hk.below)
  clear hk HK12 HB12 HT12
  go_wp2_with fail
  refine Calls.mono (apart_any _ _ _ _ _ _ _ _ _ _ HK13.out) ?_
  rintro e wz ⟨rfl, hb⟩
  have HBz := hide (HB13.out.trans hb)
  clear hb
  go_wp2
  go_ret
  exact ⟨rfl, HBz.out⟩

set_option maxRecDepth 100000 in
set_option maxHeartbeats 4000000 in
theorem get_short (A : Option Addr) (n c q : Nat) (bs : List Int) (w : World) (ha : Lies w A n (bs.map (Value.int .u8))) (hnc : n ≤ c) (hby : Bytes bs) (h : n ≤ 1048576) (hn : 4 ≤ n) (hq : head4 bs = (q : Int)) (hl : q ≤ 4096) (hs : n < 4 * (1 + q)) :
    Calls Tryz.prog 4 #[.slice A n c] w fun e w' => e = .returned (.bool true) ∧ Below w.heap.size w w' := by
  have HA0 := hide ha
  have HLB := hide ha.len
  have HBY := hide hby
  have HB0 := hide (Below.refl w.heap.size w)
  have hs0 : w.heap.size ≤ w.heap.size := Nat.le_refl _
  clear ha hby
  have HQ := hide hq
  clear hq
  go_enter Tryz.func4, Tryz.ntmps4
  go_wp2_with fail
  refine Calls.mono (still_below (beyond_no _ 1 1 [(n : Int)] _ (lies_lit w .i64 [(n : Int)] 3) (by simp) (by simp; omega) (by omega))) ?_
  rintro e w1 ⟨rfl, hb⟩
  have hbl : Below w.heap.size w w1 := below_lit (Below.refl _ _) (Nat.le_refl _) hb
  have hs1 := Nat.le_trans hs0 hbl.size
  have HB1 := hide (HB0.out.trans (hbl.mono hs0))
  have HA1 := hide (HA0.out.below hbl)
  clear hb hbl HB0 HA0
  go_wp2_with fail
  refine Calls.mono (twin_Bytes A n c bs w1 HA1.out (by omega)) ?_
  rintro e w2 ⟨rfl, ho, hb⟩
  have hs2 := Nat.le_trans hs1 hb.size
  have HB2 := hide (HB1.out.trans (hb.mono hs1))
  have HA2 := hide (HA1.out.below hb)
  have HT2 := hide (own_base ho hs1)
  clear hb HB1 HA1
  have lt1 := (own_lt ho (g := w1.heap.size) rfl).2
  clear ho
  go_wp2_with fail
  refine Calls.mono (quiet_below (get4_long _ n (n + 1) bs w2 hn (lies_of_own (own_part HT2.out (by rw [HLB.out]) (by omega))) HBY.out)) ?_
  rintro e w3 ⟨rfl, hb⟩
  have hs3 := Nat.le_trans hs2 hb.size
  have HB3 := hide (HB2.out.trans (hb.mono hs2))
  have HA3 := hide (HA2.out.below hb)
  have HT3 := hide (own_below HT2.out hb)
  clear hb HB2 HA2 HT2
  go_wp2_with fail
  refine Calls.mono (still_below (ref_get4_long A n c bs w3 hn HA3.out HBY.out)) ?_
  rintro e w4 ⟨rfl, hb⟩
  have hs4 := Nat.le_trans hs3 hb.size
  have HB4 := hide (HB3.out.trans (hb.mono hs3))
  have HA4 := hide (HA3.out.below hb)
  have HT4 := hide (own_below HT3.out hb)
  clear hb HB3 HA3 HT3
  go_wp2_with fail
  refine Calls.mono (quiet_below (getList_short _ n (n + 1) q bs w4 hn (lies_of_own (own_part HT4.out (by rw [HLB.out]) (by omega))) HBY.out HQ.out hl hs)) ?_
  rintro e w5 ⟨rfl, hb⟩
  have hs5 := Nat.le_trans hs4 hb.size
  have HB5 := hide (HB4.out.trans (hb.mono hs4))
  have HA5 := hide (HA4.out.below hb)
  have HT5 := hide (own_below HT4.out hb)
  clear hb HB4 HA4 HT4
  go_wp2_with fail
  refine Calls.mono (quiet_below (getList_short _ n (n + 1) q bs w5 hn (lies_of_own (own_part HT5.out (by rw [HLB.out]) (by omega))) HBY.out HQ.out hl hs)) ?_
  rintro e w6 ⟨rfl, hb⟩
  have hs6 := Nat.le_trans hs5 hb.size
  have HB6 := hide (HB5.out.trans (hb.mono hs5))
  have HA6 := hide (HA5.out.below hb)
  have HT6 := hide (own_below HT5.out hb)
  clear hb HB5 HA5 HT5
  go_wp2_with fail
  refine Calls.mono (still_below (ref_getList_short A n c q bs w6 hn HA6.out HBY.out HQ.out hl hs)) ?_
  rintro e w7 ⟨rfl, hb⟩
  have hs7 := Nat.le_trans hs6 hb.size
  have HB7 := hide (HB6.out.trans (hb.mono hs6))
  have HA7 := hide (HA6.out.below hb)
  have HT7 := hide (own_below HT6.out hb)
  clear hb HB6 HA6 HT6
  go_wp2_with fail
  refine Calls.mono (quiet_below (same_i32 none none 0 0 0 [] w7 Lies.nothing Lies.nothing (by omega))) ?_
  rintro e w8 ⟨rfl, hb⟩
  have hs8 := Nat.le_trans hs7 hb.size
  have HB8 := hide (HB7.out.trans (hb.mono hs7))
  have HA8 := hide (HA7.out.below hb)
  have HT8 := hide (own_below HT7.out hb)
  clear hb HB7 HA7 HT7
  go_wp2_with fail
  refine Calls.mono (quiet_below (same_i32 none none 0 0 0 [] w8 Lies.nothing Lies.nothing (by omega))) ?_
  rintro e w9 ⟨rfl, hb⟩
  have hs9 := Nat.le_trans hs8 hb.size
  have HB9 := hide (HB8.out.trans (hb.mono hs8))
  have HA9 := hide (HA8.out.below hb)
  have HT9 := hide (own_below HT8.out hb)
  clear hb HB8 HA8 HT8
  go_wp2_with fail
  refine Calls.mono (quiet_below (left_Bytes _ n (n + 1) c _ bs w9 (lies_of_own HT9.out) HA9.out (Nat.le_refl _) (by omega))) ?_
  rintro e w10 ⟨rfl, hb⟩
  have hs10 := Nat.le_trans hs9 hb.size
  have HB10 := hide (HB9.out.trans (hb.mono hs9))
  have HA10 := hide (HA9.out.below hb)
  have HT10 := hide (own_below HT9.out hb)
  clear hb HB9 HA9 HT9
  go_wp2_with fail
  have HK10 : Hid (BkAt (w10.alloc (.cells #[Value.int .i64 0, Value.slice none 0 0, Value.slice none 0 0, Value.slice none 0 0, Value.slice none 0 0, Value.slice none 0 0, Value.slice none 0 0, Value.slice none 0 0, Value.slice none 0 0, Value.slice none 0 0, Value.slice none 0 0, Value.slice none 0 0, Value.slice none 0 0, Value.slice none 0 0, Value.slice none 0 0, Value.slice none 0 0] 48)) w10.heap.size w.heap.size 0 none 0 [] none 0 []) := hide (book_new w10 hs10)
  have HTk := hide (HT10.out.alloc (.cells #[Value.int .i64 0, Value.slice none 0 0, Value.slice none 0 0, Value.slice none 0 0, Value.slice none 0 0, Value.slice none 0 0, Value.slice none 0 0, Value.slice none 0 0, Value.slice none 0 0, Value.slice none 0 0, Value.slice none 0 0, Value.slice none 0 0, Value.slice none 0 0, Value.slice none 0 0, Value.slice none 0 0, Value.slice none 0 0] 48))
  have HBk := hide (HB10.out.alloc hs10 (.cells #[Value.int .i64 0, Value.slice none 0 0, Value.slice none 0 0, Value.slice none 0 0, Value.slice none 0 0, Value.slice none 0 0, Value.slice none 0 0, Value.slice none 0 0, Value.slice none 0 0, Value.slice none 0 0, Value.slice none 0 0, Value.slice none 0 0, Value.slice none 0 0, Value.slice none 0 0, Value.slice none 0 0, Value.slice none 0 0] 48))
  clear HT10 HA10 HB10
  have HT10 := HTk
  have HB10 := HBk
  clear HBk HTk
  refine Calls.mono (add_Byte _ w.heap.size 0 _ n (n + 1) _ _ _ _ _ HK10.out.blk rfl rfl HK10.out.rowByte HK10.out.baseW HK10.out.baseB (by omega) (by simp)) ?_
  rintro e w11 ⟨rfl, H', c', hk⟩
  have HK11 := hide (HK10.out.addByte hk (own_part HT10.out (by rw [HLB.out]) (by omega)) (by omega) (by omega) (fun i t ht => by simp at ht))
  have HT11 := hide (hk.keep.own HT10.out (by decide))
  have HB11 := hide (HB10.out.trans hk.below)
  clear hk HK10 HB10 HT10
  go_wp2_with fail
  refine Calls.mono (add_Number _ w.heap.size 1 _ 0 0 _ _ _ _ _ HK11.out.blk rfl rfl HK11.out.rowNumber HK11.out.baseW HK11.out.baseB (by omega) (by simp)) ?_
  rintro e w12 ⟨rfl, H', c', hk⟩
  have HK12 := hide (HK11.out.addNumber hk (World.ownsRow_nil _ _ _ _) (by omega) (by omega) (fun i t ht => by simp at ht))
  have HT12 := hide (hk.keep.own HT11.out (by decide))
  have HB12 := hide (HB11.out.trans hk.below)
  clear hk HK11 HB11 HT11
  go_wp2_with fail
  refine Calls.mono (add_Number _ w.heap.size 2 _ 0 0 _ _ _ _ _ HK12.out.blk rfl rfl HK12.out.rowNumber HK12.out.baseW HK12.out.baseB (by omega) (by simp)) ?_
  rintro e w13 ⟨rfl, H', c', hk⟩
  have HK13 := hide (HK12.out.addNumber hk (World.ownsRow_nil _ _ _ _) (by omega) (by omega) (fun i t ht => ⟨.inl (by have hm := List.mem_of_getElem? ht; simp at hm; subst hm; rfl), .inl rfl⟩))
  have HT13 := hide (hk.keep.own HT12.out (by decide))
  have HB13 := hide (HB12.out.trans hk.below)
  clear hk HK12 HB12 HT12
  go_wp2_with fail
  refine Calls.mono (apart_any _ _ _ _ _ _ _ _ _ _ HK13.out) ?_
  rintro e wz ⟨rfl, hb⟩
  have HBz := hide (HB13.out.trans hb)
  clear hb
  go_wp2
  go_ret
  exact ⟨rfl, HBz.out⟩

set_option maxRecDepth 100000 in
set_option maxHeartbeats 4000000 in
theorem get_ok (A : Option Addr) (n c q : Nat) (bs : List Int) (w : World) (ha : Lies w A n (bs.map (Value.int .u8))) (hnc : n ≤ c) (hby : Bytes bs) (h : n ≤ 1048576) (hn : 4 ≤ n) (hq : head4 bs = (q : Int)) (hl : q ≤ 4096) (hs : 4 * (1 + q) ≤ n) :
    Calls Tryz.prog 4 #[.slice A n c] w fun e w' => e = .returned (.bool true) ∧ Below w.heap.size w w' := by
  have HA0 := hide ha
  have HLB := hide ha.len
  have HBY := hide hby
  have HB0 := hide (Below.refl w.heap.size w)
  have hs0 : w.heap.size ≤ w.heap.size := Nat.le_refl _
  clear ha hby
  have HQ := hide hq
  clear hq
  go_enter Tryz.func4, Tryz.ntmps4
  go_wp2_with fail
  refine Calls.mono (still_below (beyond_no _ 1 1 [(n : Int)] _ (lies_lit w .i64 [(n : Int)] 3) (by simp) (by simp; omega) (by omega))) ?_
  rintro e w1 ⟨rfl, hb⟩
  have hbl : Below w.heap.size w w1 := below_lit (Below.refl _ _) (Nat.le_refl _) hb
  have hs1 := Nat.le_trans hs0 hbl.size
  have HB1 := hide (HB0.out.trans (hbl.mono hs0))
  have HA1 := hide (HA0.out.below hbl)
  clear hb hbl HB0 HA0
  go_wp2_with fail
  refine Calls.mono (twin_Bytes A n c bs w1 HA1.out (by omega)) ?_
  rintro e w2 ⟨rfl, ho, hb⟩
  have hs2 := Nat.le_trans hs1 hb.size
  have HB2 := hide (HB1.out.trans (hb.mono hs1))
  have HA2 := hide (HA1.out.below hb)
  have HT2 := hide (own_base ho hs1)
  clear hb HB1 HA1
  have lt1 := (own_lt ho (g := w1.heap.size) rfl).2
  clear ho
  go_wp2_with fail
  refine Calls.mono (quiet_below (get4_long _ n (n + 1) bs w2 hn (lies_of_own (own_part HT2.out (by rw [HLB.out]) (by omega))) HBY.out)) ?_
  rintro e w3 ⟨rfl, hb⟩
  have hs3 := Nat.le_trans hs2 hb.size
  have HB3 := hide (HB2.out.trans (hb.mono hs2))
  have HA3 := hide (HA2.out.below hb)
  have HT3 := hide (own_below HT2.out hb)
  clear hb HB2 HA2 HT2
  go_wp2_with fail
  refine Calls.mono (still_below (ref_get4_long A n c bs w3 hn HA3.out HBY.out)) ?_
  rintro e w4 ⟨rfl, hb⟩
  have hs4 := Nat.le_trans hs3 hb.size
  have HB4 := hide (HB3.out.trans (hb.mono hs3))
  have HA4 := hide (HA3.out.below hb)
  have HT4 := hide (own_below HT3.out hb)
  clear hb HB3 HA3 HT3
  go_wp2_with fail
  refine Calls.mono (getList_ok _ n (n + 1) q bs w4 (by omega) (lies_of_own (own_part HT4.out (by rw [HLB.out]) (by omega))) HBY.out HQ.out hl hs (by omega)) ?_
  rintro e w5 ⟨rfl, ho, hb⟩
  have hs5 := Nat.le_trans hs4 hb.size
  have HB5 := hide (HB4.out.trans (hb.mono hs4))
  have HA5 := hide (HA4.out.below hb)
  have HT5 := hide (own_below HT4.out hb)
  have HX5 := hide (own_base ho hs4)
  clear hb HB4 HA4 HT4
  have ltHX := (own_lt ho (g := w4.heap.size) rfl).2
  clear ho
  go_wp2_with fail
  refine Calls.mono (getList_ok _ n (n + 1) q bs w5 (by omega) (lies_of_own (own_part HT5.out (by rw [HLB.out]) (by omega))) HBY.out HQ.out hl hs (by omega)) ?_
  rintro e w6 ⟨rfl, ho, hb⟩
  have hs6 := Nat.le_trans hs5 hb.size
  have HB6 := hide (HB5.out.trans (hb.mono hs5))
  have HA6 := hide (HA5.out.below hb)
  have HT6 := hide (own_below HT5.out hb)
  have HX6 := hide (own_below HX5.out hb)
  have HY6 := hide (own_base ho hs5)
  clear hb HB5 HA5 HT5 HX5
  have ltHY := (own_lt ho (g := w5.heap.size) rfl).2
  clear ho
  go_wp2_with fail
  refine Calls.mono (ref_getList_ok A n c q bs w6 hnc HA6.out HBY.out HQ.out hl hs (by omega)) ?_
  rintro e w7 ⟨A1, c1, rfl, ho, hb⟩
  have hs7 := Nat.le_trans hs6 hb.size
  have HB7 := hide (HB6.out.trans (hb.mono hs6))
  have HA7 := hide (HA6.out.below hb)
  have HT7 := hide (own_below HT6.out hb)
  have HX7 := hide (own_below HX6.out hb)
  have HY7 := hide (own_below HY6.out hb)
  have HP7 := hide (own_base ho hs6)
  clear hb HB6 HA6 HT6 HX6 HY6
  clear ho
  have tk : (4 * (1 + (q : Int)) != 4 + 4 * (q : Int)) = false := by simp; omega
  go_wp2_with fail
  refine Calls.mono (quiet_below (same_i32 _ _ q _ _ (dec (bs.drop 4) q) w7 (lies_of_own HX7.out) (lies_of_own HP7.out) (by omega))) ?_
  rintro e w8 ⟨rfl, hb⟩
  have hs8 := Nat.le_trans hs7 hb.size
  have HB8 := hide (HB7.out.trans (hb.mono hs7))
  have HA8 := hide (HA7.out.below hb)
  have HT8 := hide (own_below HT7.out hb)
  have HX8 := hide (own_below HX7.out hb)
  have HY8 := hide (own_below HY7.out hb)
  have HP8 := hide (own_below HP7.out hb)
  clear hb HB7 HA7 HT7 HX7 HY7 HP7
  go_wp2_with fail
  refine Calls.mono (quiet_below (same_i32 _ _ q _ _ (dec (bs.drop 4) q) w8 (lies_of_own HY8.out) (lies_of_own HP8.out) (by omega))) ?_
  rintro e w9 ⟨rfl, hb⟩
  have hs9 := Nat.le_trans hs8 hb.size
  have HB9 := hide (HB8.out.trans (hb.mono hs8))
  have HA9 := hide (HA8.out.below hb)
  have HT9 := hide (own_below HT8.out hb)
  have HX9 := hide (own_below HX8.out hb)
  have HY9 := hide (own_below HY8.out hb)
  clear hb HB8 HA8 HT8 HX8 HY8 HP8
  go_wp2_with fail
  refine Calls.mono (quiet_below (left_Bytes _ n (n + 1) c _ bs w9 (lies_of_own HT9.out) HA9.out (Nat.le_refl _) (by omega))) ?_
  rintro e w10 ⟨rfl, hb⟩
  have hs10 := Nat.le_trans hs9 hb.size
  have HB10 := hide (HB9.out.trans (hb.mono hs9))
  have HA10 := hide (HA9.out.below hb)
  have HT10 := hide (own_below HT9.out hb)
  have HX10 := hide (own_below HX9.out hb)
  have HY10 := hide (own_below HY9.out hb)
  clear hb HB9 HA9 HT9 HX9 HY9
  go_wp2_with fail
  have HK10 : Hid (BkAt (w10.alloc (.cells #[Value.int .i64 0, Value.slice none 0 0, Value.slice none 0 0, Value.slice none 0 0, Value.slice none 0 0, Value.slice none 0 0, Value.slice none 0 0, Value.slice none 0 0, Value.slice none 0 0, Value.slice none 0 0, Value.slice none 0 0, Value.slice none 0 0, Value.slice none 0 0, Value.slice none 0 0, Value.slice none 0 0, Value.slice none 0 0] 48)) w10.heap.size w.heap.size 0 none 0 [] none 0 []) := hide (book_new w10 hs10)
  have HTk := hide (HT10.out.alloc (.cells #[Value.int .i64 0, Value.slice none 0 0, Value.slice none 0 0, Value.slice none 0 0, Value.slice none 0 0, Value.slice none 0 0, Value.slice none 0 0, Value.slice none 0 0, Value.slice none 0 0, Value.slice none 0 0, Value.slice none 0 0, Value.slice none 0 0, Value.slice none 0 0, Value.slice none 0 0, Value.slice none 0 0, Value.slice none 0 0] 48))
  have HXk := hide (HX10.out.alloc (.cells #[Value.int .i64 0, Value.slice none 0 0, Value.slice none 0 0, Value.slice none 0 0, Value.slice none 0 0, Value.slice none 0 0, Value.slice none 0 0, Value.slice none 0 0, Value.slice none 0 0, Value.slice none 0 0, Value.slice none 0 0, Value.slice none 0 0, Value.slice none 0 0, Value.slice none 0 0, Value.slice none 0 0, Value.slice none 0 0] 48))
  have HYk := hide (HY10.out.alloc (.cells #[Value.int .i64 0, Value.slice none 0 0, Value.slice none 0 0, Value.slice none 0 0, Value.slice none 0 0, Value.slice none 0 0, Value.slice none 0 0, Value.slice none 0 0, Value.slice none 0 0, Value.slice none 0 0, Value.slice none 0 0, Value.slice none 0 0, Value.slice none 0 0, Value.slice none 0 0, Value.slice none 0 0, Value.slice none 0 0] 48))
  have HBk := hide (HB10.out.alloc hs10 (.cells #[Value.int .i64 0, Value.slice none 0 0, Value.slice none 0 0, Value.slice none 0 0, Value.slice none 0 0, Value.slice none 0 0, Value.slice none 0 0, Value.slice none 0 0, Value.slice none 0 0, Value.slice none 0 0, Value.slice none 0 0, Value.slice none 0 0, Value.slice none 0 0, Value.slice none 0 0, Value.slice none 0 0, Value.slice none 0 0] 48))
  clear HT10 HX10 HY10 HA10 HB10
  have HT10 := HTk
  have HX10 := HXk
  have HY10 := HYk
  have HB10 := HBk
  clear HBk HTk HXk HYk
  refine Calls.mono (add_Byte _ w.heap.size 0 _ n (n + 1) _ _ _ _ _ HK10.out.blk rfl rfl HK10.out.rowByte HK10.out.baseW HK10.out.baseB (by omega) (by simp)) ?_
  rintro e w11 ⟨rfl, H', c', hk⟩
  have HK11 := hide (HK10.out.addByte hk (own_part HT10.out (by rw [HLB.out]) (by omega)) (by omega) (by omega) (fun i t ht => by simp at ht))
  have HT11 := hide (hk.keep.own HT10.out (by decide))
  have HX11 := hide (hk.keep.own HX10.out (by decide))
  have HY11 := hide (hk.keep.own HY10.out (by decide))
  have HB11 := hide (HB10.out.trans hk.below)
  clear hk HK10 HB10 HT10 HX10 HY10
  go_wp2_with fail
  refine Calls.mono (add_Number _ w.heap.size 1 _ q q _ _ _ _ _ HK11.out.blk rfl rfl HK11.out.rowNumber HK11.out.baseW HK11.out.baseB (by omega) (by simp)) ?_
  rintro e w12 ⟨rfl, H', c', hk⟩
  have HK12 := hide (HK11.out.addNumber hk HX11.out (by omega) (by omega) (fun i t ht => by simp at ht))
  have HT12 := hide (hk.keep.own HT11.out (by decide))
  have HX12 := hide (hk.keep.own HX11.out (by decide))
  have HY12 := hide (hk.keep.own HY11.out (by decide))
  have HB12 := hide (HB11.out.trans hk.below)
  clear hk HK11 HB11 HT11 HX11 HY11
  go_wp2_with fail
  refine Calls.mono (add_Number _ w.heap.size 2 _ q q _ _ _ _ _ HK12.out.blk rfl rfl HK12.out.rowNumber HK12.out.baseW HK12.out.baseB (by omega) (by simp)) ?_
  rintro e w13 ⟨rfl, H', c', hk⟩
  have HK13 := hide (HK12.out.addNumber hk HY12.out (by omega) (by omega) (fun i t ht => by have hm := List.mem_of_getElem? ht; simp at hm; rcases hm with rfl <;> simp [It.l, Value.ownBlock] <;> omega))
  have HT13 := hide (hk.keep.own HT12.out (by decide))
  have HX13 := hide (hk.keep.own HX12.out (by decide))
  have HY13 := hide (hk.keep.own HY12.out (by decide))
  have HB13 := hide (HB12.out.trans hk.below)
  clear hk HK12 HB12 HT12 HX12 HY12
  go_wp2_with fail
  refine Calls.mono (apart_any _ _ _ _ _ _ _ _ _ _ HK13.out) ?_
  rintro e wz ⟨rfl, hb⟩
  have HBz := hide (HB13.out.trans hb)
  clear hb
  go_wp2
  go_ret
  exact ⟨rfl, HBz.out⟩

theorem get_any (A : Option Addr) (n c : Nat) (bs : List Int) (w : World) (ha : Lies w A n (bs.map (Value.int .u8))) (hnc : n ≤ c) (hf : ∀ z ∈ bs, (Lit.int .u8 z).wf = true) (hn : n ≤ 281474976710656) :
    Calls Tryz.prog 4 #[.slice A n c] w fun e w' => e = .returned (.bool true) ∧ Below w.heap.size w w' := by
  have hby : Bytes bs := fun z hz => fits_u8 (hf z hz)
  by_cases h : 1048576 < n
  · exact get_long A n c w hn h
  · by_cases h4 : n < 4
    · exact get_none A n c 0 bs w ha hnc hby (by omega) h4
    · have hb := word_bounds (bytes_getD hby 0) (bytes_getD hby 1) (bytes_getD hby 2) (bytes_getD hby 3)
      have hq : head4 bs = ((head4 bs).toNat : Int) := (Int.toNat_of_nonneg hb.1).symm
      by_cases hl : 4096 < (head4 bs).toNat
      · exact get_limit A n c _ bs w ha hnc hby (by omega) (by omega) hq hl
      · by_cases hs : n < 4 * (1 + (head4 bs).toNat)
        · exact get_short A n c _ bs w ha hnc hby (by omega) (by omega) hq (by omega) hs
        · exact get_ok A n c _ bs w ha hnc hby (by omega) (by omega) hq (by omega) (by omega)
end Go.Proofs.YtkmkhjhdgickfaaGreatDoor
