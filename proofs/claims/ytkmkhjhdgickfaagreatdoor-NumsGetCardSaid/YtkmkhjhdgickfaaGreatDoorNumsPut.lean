/- NumsPut: for every bytes, number and numbers the walk of its Go text ends in true. -/
import Derived.Test.YtkmkhjhdgickfaaGreatDoorApart
import Derived.Test.YtkmkhjhdgickfaaGreatDoorRef01Get
import Derived.Test.YtkmkhjhdgickfaaGreatDoorPut
import Derived.Test.YtkmkhjhdgickfaaGreatDoorSame
import Derived.Test.YtkmkhjhdgickfaaGreatDoorBeyond
import Derived.Test.YtkmkhjhdgickfaaGreatDoorFrame
namespace Go.Proofs.YtkmkhjhdgickfaaGreatDoor
open Go.RowKit

theorem quiet_below {f : FuncId} {args : Array Value} {w : World} {E : Ending} (h : Calls Tryz.prog f args w fun e w' => e = E ∧ ∃ k, w' = w.drewN k) :
    Calls Tryz.prog f args w fun e w' => e = E ∧ Below w.heap.size w w' :=
  h.mono fun _ _ ⟨he, k, hk⟩ => ⟨he, by subst hk; exact below_drewN (Below.refl _ _) k⟩
theorem still_below {f : FuncId} {args : Array Value} {w : World} {E : Ending} (h : Calls Tryz.prog f args w fun e w' => e = E ∧ w = w') :
    Calls Tryz.prog f args w fun e w' => e = E ∧ Below w.heap.size w w' :=
  h.mono fun _ _ ⟨he, hk⟩ => ⟨he, by subst hk; exact Below.refl _ _⟩
theorem lies_lit (w : World) (k : IntKind) (zs : List Int) (t : TypeId) : Lies (w.alloc (.cells (zs.map (Value.int k)).toArray t)) (some ⟨w.heap.size, 0, none⟩) zs.length (zs.map (Value.int k)) := by
  have h := lies_new w (zs.map (Value.int k)) t
  rwa [List.length_map] at h
theorem below_lit {B : Nat} {a w w' : World} {o : Obj} (h : Below B a w) (hB : B ≤ w.heap.size) (hb : Below (w.alloc o).heap.size (w.alloc o) w') : Below B a w' :=
  (h.alloc hB o).trans (hb.mono (by simp; omega))
theorem book_new (w : World) {base : Nat} (hb : base ≤ w.heap.size) : BkAt (w.alloc (.cells #[Value.int .i64 0, Value.slice none 0 0, Value.slice none 0 0, Value.slice none 0 0, Value.slice none 0 0, Value.slice none 0 0, Value.slice none 0 0, Value.slice none 0 0, Value.slice none 0 0, Value.slice none 0 0, Value.slice none 0 0, Value.slice none 0 0, Value.slice none 0 0, Value.slice none 0 0, Value.slice none 0 0, Value.slice none 0 0] 48)) w.heap.size base 0 none 0 [] none 0 [] :=
  ⟨heap_alloc_new w _, World.ownsRow_nil _ _ _ _, ⟨fun i t ht => by simp at ht, fun i j t u _ ht => by simp at ht⟩, Nat.le_refl _, fun i t ht => by simp at ht, World.ownsRow_nil _ _ _ _, ⟨fun i t ht => by simp at ht, fun i j t u _ ht => by simp at ht⟩, Nat.le_refl _, fun i t ht => by simp at ht, Nat.le_trans hb (by simp), hb, by omega⟩
theorem lies_bytes {w : World} {A : Option Addr} {n : Nat} (bs zs : List Int) (h : Lies w A n (bs.map (Value.int .u8) ++ encV zs)) : Lies w A n ((bs ++ enc zs).map (Value.int .u8)) := by
  rw [List.map_append]
  exact h

set_option maxRecDepth 100000 in
set_option maxHeartbeats 1000000 in
theorem put_long (x : Int) (A L : Option Addr) (n c m d : Nat) (w : World) (hn : n ≤ 281474976710656) (hm : m ≤ 281474976710656) (h : 1048576 < n + m) :
    Calls Tryz.prog 3 #[.slice A n c, .int .u32 x, .slice L m d] w fun e w' => e = .returned (.bool true) ∧ Below w.heap.size w w' := by
  go_enter Tryz.func3, Tryz.ntmps3
  go_wp2_with fail
  refine Calls.mono (still_below (beyond_yes _ 2 2 [(n : Int), (m : Int)] _ (lies_lit w .i64 [(n : Int), (m : Int)] 3) (by simp; omega) (by simp; omega) (by omega))) ?_
  rintro e w1 ⟨rfl, hb⟩
  have HB1 := hide (below_lit (Below.refl w.heap.size w) (Nat.le_refl _) hb)
  clear hb
  go_wp2
  go_ret
  exact ⟨rfl, HB1.out⟩

set_option maxRecDepth 100000 in
set_option maxHeartbeats 4000000 in
theorem put_main (x : Int) (A L : Option Addr) (n c m d : Nat) (bs ns : List Int) (w : World) (hx : 0 ≤ x ∧ x < 4294967296) (ha : Lies w A n (bs.map (Value.int .u8))) (hnA : A = none → c = 0)
    (hl : Lies w L m (ns.map (Value.int .i32))) (h : n + m ≤ 1048576) :
    Calls Tryz.prog 3 #[.slice A n c, .int .u32 x, .slice L m d] w fun e w' => e = .returned (.bool true) ∧ Below w.heap.size w w' := by
  have HA0 := hide ha
  have HL0 := hide hl
  have HNA := hide hnA
  have HLB := hide ha.len
  have HLN := hide hl.len
  have HB0 := hide (Below.refl w.heap.size w)
  have hs0 : w.heap.size ≤ w.heap.size := Nat.le_refl _
  clear ha hl hnA
  go_enter Tryz.func3, Tryz.ntmps3
  go_wp2_with fail
  refine Calls.mono (still_below (beyond_no _ 2 2 [(n : Int), (m : Int)] _ (lies_lit w .i64 [(n : Int), (m : Int)] 3) (by simp) (by simp; omega) (by omega))) ?_
  rintro e w1 ⟨rfl, hb⟩
  have hbl : Below w.heap.size w w1 := below_lit (Below.refl _ _) (Nat.le_refl _) hb
  have hs1 := Nat.le_trans hs0 hbl.size
  have HB1 := hide (HB0.out.trans (hbl.mono hs0))
  have HA1 := hide (HA0.out.below hbl)
  have HL1 := hide (HL0.out.below hbl)
  clear hb hbl HB0 HA0 HL0
  go_wp2_with fail
  refine Calls.mono (twin_Bytes A n c bs w1 HA1.out (by omega)) ?_
  rintro e w2 ⟨rfl, ho, hb⟩
  have hs2 := Nat.le_trans hs1 hb.size
  have HB2 := hide (HB1.out.trans (hb.mono hs1))
  have HA2 := hide (HA1.out.below hb)
  have HL2 := hide (HL1.out.below hb)
  have HT2 := hide (own_base ho hs1)
  clear hb HB1 HA1 HL1
  have lt1 := (own_lt ho (g := w1.heap.size) rfl).2
  clear ho
  go_wp2_with fail
  refine Calls.mono (twin_Numbers L m d ns w2 HL2.out (by omega)) ?_
  rintro e w3 ⟨rfl, ho, hb⟩
  have hs3 := Nat.le_trans hs2 hb.size
  have HB3 := hide (HB2.out.trans (hb.mono hs2))
  have HA3 := hide (HA2.out.below hb)
  have HL3 := hide (HL2.out.below hb)
  have HT3 := hide (own_below HT2.out hb)
  have HU3 := hide (own_base ho hs2)
  clear hb HB2 HA2 HL2 HT2
  have lt2 := (own_lt ho (g := w2.heap.size) rfl).2
  clear ho
  go_wp2_with fail
  refine Calls.mono (put4 _ n (n + 1) x _ w3 (lies_of_own (own_part HT3.out (by rw [HA3.out.len]) (by omega))) (ints_oneCell _ _) (by omega)) ?_
  rintro e w4 ⟨rfl, ho, hb⟩
  have hs4 := Nat.le_trans hs3 hb.size
  have HB4 := hide (HB3.out.trans (hb.mono hs3))
  have HA4 := hide (HA3.out.below hb)
  have HL4 := hide (HL3.out.below hb)
  have HT4 := hide (own_below HT3.out hb)
  have HU4 := hide (own_below HU3.out hb)
  have HX4 := hide (own_base ho hs3)
  clear hb HB3 HA3 HL3 HT3 HU3
  have lt3 := (own_lt ho (g := w3.heap.size) rfl).2
  clear ho
  go_wp2_with fail
  refine Calls.mono (put4 _ n (n + 1) x _ w4 (lies_of_own (own_part HT4.out (by rw [HA4.out.len]) (by omega))) (ints_oneCell _ _) (by omega)) ?_
  rintro e w5 ⟨rfl, ho, hb⟩
  have hs5 := Nat.le_trans hs4 hb.size
  have HB5 := hide (HB4.out.trans (hb.mono hs4))
  have HA5 := hide (HA4.out.below hb)
  have HL5 := hide (HL4.out.below hb)
  have HT5 := hide (own_below HT4.out hb)
  have HU5 := hide (own_below HU4.out hb)
  have HX5 := hide (own_below HX4.out hb)
  have HY5 := hide (own_base ho hs4)
  clear hb HB4 HA4 HL4 HT4 HU4 HX4
  have lt4 := (own_lt ho (g := w4.heap.size) rfl).2
  clear ho
  go_wp2_with fail
  refine Calls.mono (putList _ _ n (n + 1) m (m + 1) _ ns w5 (lies_of_own (own_part HT5.out (by rw [HA5.out.len]) (by omega))) (ints_oneCell _ _) (lies_of_own (own_part HU5.out (by rw [HL5.out.len]) (by omega))) (by omega) (by omega)) ?_
  rintro e w6 ⟨rfl, ho, hb⟩
  have hs6 := Nat.le_trans hs5 hb.size
  have HB6 := hide (HB5.out.trans (hb.mono hs5))
  have HA6 := hide (HA5.out.below hb)
  have HL6 := hide (HL5.out.below hb)
  have HT6 := hide (own_below HT5.out hb)
  have HU6 := hide (own_below HU5.out hb)
  have HX6 := hide (own_below HX5.out hb)
  have HY6 := hide (own_below HY5.out hb)
  have HZ6 := hide (own_base ho hs5)
  clear hb HB5 HA5 HL5 HT5 HU5 HX5 HY5
  have lt5 := (own_lt ho (g := w5.heap.size) rfl).2
  clear ho
  go_wp2_with fail
  refine Calls.mono (putList _ _ n (n + 1) m (m + 1) _ ns w6 (lies_of_own (own_part HT6.out (by rw [HA6.out.len]) (by omega))) (ints_oneCell _ _) (lies_of_own (own_part HU6.out (by rw [HL6.out.len]) (by omega))) (by omega) (by omega)) ?_
  rintro e w7 ⟨rfl, ho, hb⟩
  have hs7 := Nat.le_trans hs6 hb.size
  have HB7 := hide (HB6.out.trans (hb.mono hs6))
  have HA7 := hide (HA6.out.below hb)
  have HL7 := hide (HL6.out.below hb)
  have HT7 := hide (own_below HT6.out hb)
  have HU7 := hide (own_below HU6.out hb)
  have HX7 := hide (own_below HX6.out hb)
  have HY7 := hide (own_below HY6.out hb)
  have HZ7 := hide (own_below HZ6.out hb)
  have HW7 := hide (own_base ho hs6)
  clear hb HB6 HA6 HL6 HT6 HU6 HX6 HY6 HZ6
  have lt6 := (own_lt ho (g := w6.heap.size) rfl).2
  clear ho
  go_wp2_with fail
  refine Calls.mono (ref_put4 A n c x _ w7 HA7.out HNA.out (ints_oneCell _ _) (by omega) hx) ?_
  rintro e w8 ⟨A1, c1, rfl, ho, hb⟩
  have hs8 := Nat.le_trans hs7 hb.size
  have HB8 := hide (HB7.out.trans (hb.mono hs7))
  have HA8 := hide (HA7.out.below hb)
  have HL8 := hide (HL7.out.below hb)
  have HT8 := hide (own_below HT7.out hb)
  have HU8 := hide (own_below HU7.out hb)
  have HX8 := hide (own_below HX7.out hb)
  have HY8 := hide (own_below HY7.out hb)
  have HZ8 := hide (own_below HZ7.out hb)
  have HW8 := hide (own_below HW7.out hb)
  have HP8 := hide (own_base ho hs7)
  clear hb HB7 HA7 HL7 HT7 HU7 HX7 HY7 HZ7 HW7
  clear ho
  go_wp2_with fail
  refine Calls.mono (quiet_below (same_u8 _ _ (n + 4) _ _ (bs ++ enc [x]) w8 (lies_bytes bs _ (lies_of_own HX8.out)) (lies_bytes bs _ (lies_of_own HP8.out)) (by omega))) ?_
  rintro e w9 ⟨rfl, hb⟩
  have hs9 := Nat.le_trans hs8 hb.size
  have HB9 := hide (HB8.out.trans (hb.mono hs8))
  have HA9 := hide (HA8.out.below hb)
  have HL9 := hide (HL8.out.below hb)
  have HT9 := hide (own_below HT8.out hb)
  have HU9 := hide (own_below HU8.out hb)
  have HX9 := hide (own_below HX8.out hb)
  have HY9 := hide (own_below HY8.out hb)
  have HZ9 := hide (own_below HZ8.out hb)
  have HW9 := hide (own_below HW8.out hb)
  clear hb HB8 HA8 HL8 HT8 HU8 HX8 HY8 HZ8 HW8 HP8
  go_wp2_with fail
  refine Calls.mono (quiet_below (same_u8 _ _ (n + 4) _ _ (bs ++ enc [x]) w9 (lies_bytes bs _ (lies_of_own HY9.out)) (lies_bytes bs _ (lies_of_own HX9.out)) (by omega))) ?_
  rintro e w10 ⟨rfl, hb⟩
  have hs10 := Nat.le_trans hs9 hb.size
  have HB10 := hide (HB9.out.trans (hb.mono hs9))
  have HA10 := hide (HA9.out.below hb)
  have HL10 := hide (HL9.out.below hb)
  have HT10 := hide (own_below HT9.out hb)
  have HU10 := hide (own_below HU9.out hb)
  have HX10 := hide (own_below HX9.out hb)
  have HY10 := hide (own_below HY9.out hb)
  have HZ10 := hide (own_below HZ9.out hb)
  have HW10 := hide (own_below HW9.out hb)
  clear hb HB9 HA9 HL9 HT9 HU9 HX9 HY9 HZ9 HW9
  go_wp2_with fail
  refine Calls.mono (ref_putList A L n c m d _ ns w10 HA10.out HNA.out (ints_oneCell _ _) HL10.out (by omega) (by omega)) ?_
  rintro e w11 ⟨A2, c2, rfl, ho, hb⟩
  have hs11 := Nat.le_trans hs10 hb.size
  have HB11 := hide (HB10.out.trans (hb.mono hs10))
  have HA11 := hide (HA10.out.below hb)
  have HL11 := hide (HL10.out.below hb)
  have HT11 := hide (own_below HT10.out hb)
  have HU11 := hide (own_below HU10.out hb)
  have HX11 := hide (own_below HX10.out hb)
  have HY11 := hide (own_below HY10.out hb)
  have HZ11 := hide (own_below HZ10.out hb)
  have HW11 := hide (own_below HW10.out hb)
  have HP11 := hide (own_base ho hs10)
  clear hb HB10 HA10 HL10 HT10 HU10 HX10 HY10 HZ10 HW10
  clear ho
  go_wp2_with fail
  refine Calls.mono (quiet_below (same_u8 _ _ (n + 4 * (1 + m)) _ _ (bs ++ enc ((m : Int) :: ns)) w11 (lies_bytes bs _ (lies_of_own HZ11.out)) (lies_bytes bs _ (lies_of_own HP11.out)) (by omega))) ?_
  rintro e w12 ⟨rfl, hb⟩
  have hs12 := Nat.le_trans hs11 hb.size
  have HB12 := hide (HB11.out.trans (hb.mono hs11))
  have HA12 := hide (HA11.out.below hb)
  have HL12 := hide (HL11.out.below hb)
  have HT12 := hide (own_below HT11.out hb)
  have HU12 := hide (own_below HU11.out hb)
  have HX12 := hide (own_below HX11.out hb)
  have HY12 := hide (own_below HY11.out hb)
  have HZ12 := hide (own_below HZ11.out hb)
  have HW12 := hide (own_below HW11.out hb)
  clear hb HB11 HA11 HL11 HT11 HU11 HX11 HY11 HZ11 HW11 HP11
  go_wp2_with fail
  refine Calls.mono (quiet_below (same_u8 _ _ (n + 4 * (1 + m)) _ _ (bs ++ enc ((m : Int) :: ns)) w12 (lies_bytes bs _ (lies_of_own HW12.out)) (lies_bytes bs _ (lies_of_own HZ12.out)) (by omega))) ?_
  rintro e w13 ⟨rfl, hb⟩
  have hs13 := Nat.le_trans hs12 hb.size
  have HB13 := hide (HB12.out.trans (hb.mono hs12))
  have HA13 := hide (HA12.out.below hb)
  have HL13 := hide (HL12.out.below hb)
  have HT13 := hide (own_below HT12.out hb)
  have HU13 := hide (own_below HU12.out hb)
  have HX13 := hide (own_below HX12.out hb)
  have HY13 := hide (own_below HY12.out hb)
  have HZ13 := hide (own_below HZ12.out hb)
  have HW13 := hide (own_below HW12.out hb)
  clear hb HB12 HA12 HL12 HT12 HU12 HX12 HY12 HZ12 HW12
  go_wp2_with fail
  refine Calls.mono (quiet_below (left_Bytes _ n (n + 1) c _ bs w13 (lies_of_own HT13.out) HA13.out (Nat.le_refl _) (by omega))) ?_
  rintro e w14 ⟨rfl, hb⟩
  have hs14 := Nat.le_trans hs13 hb.size
  have HB14 := hide (HB13.out.trans (hb.mono hs13))
  have HA14 := hide (HA13.out.below hb)
  have HL14 := hide (HL13.out.below hb)
  have HT14 := hide (own_below HT13.out hb)
  have HU14 := hide (own_below HU13.out hb)
  have HX14 := hide (own_below HX13.out hb)
  have HY14 := hide (own_below HY13.out hb)
  have HZ14 := hide (own_below HZ13.out hb)
  have HW14 := hide (own_below HW13.out hb)
  clear hb HB13 HA13 HL13 HT13 HU13 HX13 HY13 HZ13 HW13
  go_wp2_with fail
  refine Calls.mono (quiet_below (left_Numbers _ m (m + 1) d _ ns w14 (lies_of_own HU14.out) HL14.out (Nat.le_refl _) (by omega))) ?_
  rintro e w15 ⟨rfl, hb⟩
  have hs15 := Nat.le_trans hs14 hb.size
  have HB15 := hide (HB14.out.trans (hb.mono hs14))
  have HA15 := hide (HA14.out.below hb)
  have HL15 := hide (HL14.out.below hb)
  have HT15 := hide (own_below HT14.out hb)
  have HU15 := hide (own_below HU14.out hb)
  have HX15 := hide (own_below HX14.out hb)
  have HY15 := hide (own_below HY14.out hb)
  have HZ15 := hide (own_below HZ14.out hb)
  have HW15 := hide (own_below HW14.out hb)
  clear hb HB14 HA14 HL14 HT14 HU14 HX14 HY14 HZ14 HW14
  go_wp2_with fail
  have HK15 : Hid (BkAt (w15.alloc (.cells #[Value.int .i64 0, Value.slice none 0 0, Value.slice none 0 0, Value.slice none 0 0, Value.slice none 0 0, Value.slice none 0 0, Value.slice none 0 0, Value.slice none 0 0, Value.slice none 0 0, Value.slice none 0 0, Value.slice none 0 0, Value.slice none 0 0, Value.slice none 0 0, Value.slice none 0 0, Value.slice none 0 0, Value.slice none 0 0] 48)) w15.heap.size w.heap.size 0 none 0 [] none 0 []) := hide (book_new w15 hs15)
  have HTk := hide (HT15.out.alloc (.cells #[Value.int .i64 0, Value.slice none 0 0, Value.slice none 0 0, Value.slice none 0 0, Value.slice none 0 0, Value.slice none 0 0, Value.slice none 0 0, Value.slice none 0 0, Value.slice none 0 0, Value.slice none 0 0, Value.slice none 0 0, Value.slice none 0 0, Value.slice none 0 0, Value.slice none 0 0, Value.slice none 0 0, Value.slice none 0 0] 48))
  have HUk := hide (HU15.out.alloc (.cells #[Value.int .i64 0, Value.slice none 0 0, Value.slice none 0 0, Value.slice none 0 0, Value.slice none 0 0, Value.slice none 0 0, Value.slice none 0 0, Value.slice none 0 0, Value.slice none 0 0, Value.slice none 0 0, Value.slice none 0 0, Value.slice none 0 0, Value.slice none 0 0, Value.slice none 0 0, Value.slice none 0 0, Value.slice none 0 0] 48))
  have HXk := hide (HX15.out.alloc (.cells #[Value.int .i64 0, Value.slice none 0 0, Value.slice none 0 0, Value.slice none 0 0, Value.slice none 0 0, Value.slice none 0 0, Value.slice none 0 0, Value.slice none 0 0, Value.slice none 0 0, Value.slice none 0 0, Value.slice none 0 0, Value.slice none 0 0, Value.slice none 0 0, Value.slice none 0 0, Value.slice none 0 0, Value.slice none 0 0] 48))
  have HYk := hide (HY15.out.alloc (.cells #[Value.int .i64 0, Value.slice none 0 0, Value.slice none 0 0, Value.slice none 0 0, Value.slice none 0 0, Value.slice none 0 0, Value.slice none 0 0, Value.slice none 0 0, Value.slice none 0 0, Value.slice none 0 0, Value.slice none 0 0, Value.slice none 0 0, Value.slice none 0 0, Value.slice none 0 0, Value.slice none 0 0, Value.slice none 0 0] 48))
  have HZk := hide (HZ15.out.alloc (.cells #[Value.int .i64 0, Value.slice none 0 0, Value.slice none 0 0, Value.slice none 0 0, Value.slice none 0 0, Value.slice none 0 0, Value.slice none 0 0, Value.slice none 0 0, Value.slice none 0 0, Value.slice none 0 0, Value.slice none 0 0, Value.slice none 0 0, Value.slice none 0 0, Value.slice none 0 0, Value.slice none 0 0, Value.slice none 0 0] 48))
  have HWk := hide (HW15.out.alloc (.cells #[Value.int .i64 0, Value.slice none 0 0, Value.slice none 0 0, Value.slice none 0 0, Value.slice none 0 0, Value.slice none 0 0, Value.slice none 0 0, Value.slice none 0 0, Value.slice none 0 0, Value.slice none 0 0, Value.slice none 0 0, Value.slice none 0 0, Value.slice none 0 0, Value.slice none 0 0, Value.slice none 0 0, Value.slice none 0 0] 48))
  have HBk := hide (HB15.out.alloc hs15 (.cells #[Value.int .i64 0, Value.slice none 0 0, Value.slice none 0 0, Value.slice none 0 0, Value.slice none 0 0, Value.slice none 0 0, Value.slice none 0 0, Value.slice none 0 0, Value.slice none 0 0, Value.slice none 0 0, Value.slice none 0 0, Value.slice none 0 0, Value.slice none 0 0, Value.slice none 0 0, Value.slice none 0 0, Value.slice none 0 0] 48))
  clear HT15 HU15 HX15 HY15 HZ15 HW15 HA15 HL15 HB15
  have HT15 := HTk
  have HU15 := HUk
  have HX15 := HXk
  have HY15 := HYk
  have HZ15 := HZk
  have HW15 := HWk
  have HB15 := HBk
  clear HBk HTk HUk HXk HYk HZk HWk
  have hs15k : w.heap.size ≤ w15.heap.size := hs15
  have g1 := lt1
  refine Calls.mono (add_Byte _ w.heap.size 0 _ n (n + 1) _ _ _ _ _ HK15.out.blk rfl rfl HK15.out.rowByte HK15.out.baseW HK15.out.baseB (by omega) (by simp)) ?_
  rintro e w16 ⟨rfl, H', c', hk⟩
  have HK16 := hide (HK15.out.addByte hk (own_part HT15.out (by rw [HLB.out]) (by omega)) (by omega) (by omega) (fun i t ht => by simp at ht))
  have HT16 := hide (hk.keep.own HT15.out (by decide))
  have HU16 := hide (hk.keep.own HU15.out (by decide))
  have HX16 := hide (hk.keep.own HX15.out (by decide))
  have HY16 := hide (hk.keep.own HY15.out (by decide))
  have HZ16 := hide (hk.keep.own HZ15.out (by decide))
  have HW16 := hide (hk.keep.own HW15.out (by decide))
  have HB16 := hide (HB15.out.trans hk.below)
  clear hk HK15 HB15 HT15 HU15 HX15 HY15 HZ15 HW15
  go_wp2_with fail
  refine Calls.mono (add_Number _ w.heap.size 1 _ m (m + 1) _ _ _ _ _ HK16.out.blk rfl rfl HK16.out.rowNumber HK16.out.baseW HK16.out.baseB (by omega) (by simp)) ?_
  rintro e w17 ⟨rfl, H', c', hk⟩
  have HK17 := hide (HK16.out.addNumber hk (own_part HU16.out (by rw [HLN.out]) (by omega)) (by omega) (by omega) (fun i t ht => by simp at ht))
  have HT17 := hide (hk.keep.own HT16.out (by decide))
  have HU17 := hide (hk.keep.own HU16.out (by decide))
  have HX17 := hide (hk.keep.own HX16.out (by decide))
  have HY17 := hide (hk.keep.own HY16.out (by decide))
  have HZ17 := hide (hk.keep.own HZ16.out (by decide))
  have HW17 := hide (hk.keep.own HW16.out (by decide))
  have HB17 := hide (HB16.out.trans hk.below)
  clear hk HK16 HB16 HT16 HU16 HX16 HY16 HZ16 HW16
  go_wp2_with fail
  refine Calls.mono (add_Byte _ w.heap.size 2 _ (n + 4) (n + 4) _ _ _ _ _ HK17.out.blk rfl rfl HK17.out.rowByte HK17.out.baseW HK17.out.baseB (by omega) (by simp)) ?_
  rintro e w18 ⟨rfl, H', c', hk⟩
  have HK18 := hide (HK17.out.addByte hk HX17.out (by omega) (by omega) (fun i t ht => by have hm := List.mem_of_getElem? ht; simp at hm; rcases hm with rfl <;> simp [It.l, Value.ownBlock] <;> omega))
  have HT18 := hide (hk.keep.own HT17.out (by decide))
  have HU18 := hide (hk.keep.own HU17.out (by decide))
  have HX18 := hide (hk.keep.own HX17.out (by decide))
  have HY18 := hide (hk.keep.own HY17.out (by decide))
  have HZ18 := hide (hk.keep.own HZ17.out (by decide))
  have HW18 := hide (hk.keep.own HW17.out (by decide))
  have HB18 := hide (HB17.out.trans hk.below)
  clear hk HK17 HB17 HT17 HU17 HX17 HY17 HZ17 HW17
  go_wp2_with fail
  refine Calls.mono (add_Byte _ w.heap.size 3 _ (n + 4) (n + 4) _ _ _ _ _ HK18.out.blk rfl rfl HK18.out.rowByte HK18.out.baseW HK18.out.baseB (by omega) (by simp)) ?_
  rintro e w19 ⟨rfl, H', c', hk⟩
  have HK19 := hide (HK18.out.addByte hk HY18.out (by omega) (by omega) (fun i t ht => by have hm := List.mem_of_getElem? ht; simp at hm; rcases hm with rfl | rfl <;> simp [It.l, Value.ownBlock] <;> omega))
  have HT19 := hide (hk.keep.own HT18.out (by decide))
  have HU19 := hide (hk.keep.own HU18.out (by decide))
  have HX19 := hide (hk.keep.own HX18.out (by decide))
  have HY19 := hide (hk.keep.own HY18.out (by decide))
  have HZ19 := hide (hk.keep.own HZ18.out (by decide))
  have HW19 := hide (hk.keep.own HW18.out (by decide))
  have HB19 := hide (HB18.out.trans hk.below)
  clear hk HK18 HB18 HT18 HU18 HX18 HY18 HZ18 HW18
  go_wp2_with fail
  refine Calls.mono (add_Byte _ w.heap.size 4 _ (n + 4 * (1 + m)) (n + 4 * (1 + m)) _ _ _ _ _ HK19.out.blk rfl rfl HK19.out.rowByte HK19.out.baseW HK19.out.baseB (by omega) (by simp)) ?_
  rintro e w20 ⟨rfl, H', c', hk⟩
  have HK20 := hide (HK19.out.addByte hk HZ19.out (by omega) (by omega) (fun i t ht => by have hm := List.mem_of_getElem? ht; simp at hm; rcases hm with rfl | rfl | rfl <;> simp [It.l, Value.ownBlock] <;> omega))
  have HT20 := hide (hk.keep.own HT19.out (by decide))
  have HU20 := hide (hk.keep.own HU19.out (by decide))
  have HX20 := hide (hk.keep.own HX19.out (by decide))
  have HY20 := hide (hk.keep.own HY19.out (by decide))
  have HZ20 := hide (hk.keep.own HZ19.out (by decide))
  have HW20 := hide (hk.keep.own HW19.out (by decide))
  have HB20 := hide (HB19.out.trans hk.below)
  clear hk HK19 HB19 HT19 HU19 HX19 HY19 HZ19 HW19
  go_wp2_with fail
  refine Calls.mono (add_Byte _ w.heap.size 5 _ (n + 4 * (1 + m)) (n + 4 * (1 + m)) _ _ _ _ _ HK20.out.blk rfl rfl HK20.out.rowByte HK20.out.baseW HK20.out.baseB (by omega) (by simp)) ?_
  rintro e w21 ⟨rfl, H', c', hk⟩
  have HK21 := hide (HK20.out.addByte hk HW20.out (by omega) (by omega) (fun i t ht => by have hm := List.mem_of_getElem? ht; simp at hm; rcases hm with rfl | rfl | rfl | rfl <;> simp [It.l, Value.ownBlock] <;> omega))
  have HT21 := hide (hk.keep.own HT20.out (by decide))
  have HU21 := hide (hk.keep.own HU20.out (by decide))
  have HX21 := hide (hk.keep.own HX20.out (by decide))
  have HY21 := hide (hk.keep.own HY20.out (by decide))
  have HZ21 := hide (hk.keep.own HZ20.out (by decide))
  have HW21 := hide (hk.keep.own HW20.out (by decide))
  have HB21 := hide (HB20.out.trans hk.below)
  clear hk HK20 HB20 HT20 HU20 HX20 HY20 HZ20 HW20
  go_wp2_with fail
  refine Calls.mono (apart_any _ _ _ _ _ _ _ _ _ _ HK21.out) ?_
  rintro e wz ⟨rfl, hb⟩
  have HBz := hide (HB21.out.trans hb)
  clear hb
  go_wp2
  go_ret
  exact ⟨rfl, HBz.out⟩

theorem put_any (x : Int) (A L : Option Addr) (n c m d : Nat) (bs ns : List Int) (w : World) (hx : (Lit.int .u32 x).wf = true) (ha : Lies w A n (bs.map (Value.int .u8))) (hnA : A = none → c = 0)
    (hl : Lies w L m (ns.map (Value.int .i32))) (hn : n ≤ 281474976710656) (hm : m ≤ 281474976710656) :
    Calls Tryz.prog 3 #[.slice A n c, .int .u32 x, .slice L m d] w fun e w' => e = .returned (.bool true) ∧ Below w.heap.size w w' := by
  by_cases h : 1048576 < n + m
  · exact put_long x A L n c m d w hn hm h
  · exact put_main x A L n c m d bs ns w (fits_u32 hx) ha hnA hl (by omega)
end Go.Proofs.YtkmkhjhdgickfaaGreatDoor
