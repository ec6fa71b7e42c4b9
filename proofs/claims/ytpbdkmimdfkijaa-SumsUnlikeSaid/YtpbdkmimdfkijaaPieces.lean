/- SumsPieces holds for every bytes, others, and sum ahead: the walk of its Go text. -/
import Derived.Test.YtpbdkmimdfkijaaAlive2
import Derived.Test.YtpbdkmimdfkijaaCrc2
import Derived.Test.YtpbdkmimdfkijaaOwn
namespace Go.Proofs.Ytpbdkmimdfkijaa
open Go.RowKit

theorem below_own {B : Nat} {a w w' : World} {base : Nat} {e : TypeId} {v : Value} {n : Nat} {xs : List Value} (hb : Below B a w) (hB : B ≤ w.heap.size) (ho : w.ownsRow base e 1 v n xs) (hg : w.grownBy w' v.ownBlock) (hbb : B ≤ base) : Below B a w' :=
  hb.grown hg hB (fun g hgg => Nat.le_trans hbb (ho.lt g hgg).1)
theorem ints_one (κ : IntKind) (zs : List Int) : ∀ u ∈ zs.map (Value.int κ), u.oneCell' = true := by
  intro u hu
  obtain ⟨z, _, rfl⟩ := List.mem_map.1 hu
  rfl
theorem lies_join {w : World} {A : Option Addr} {n : Nat} {xs ys : List Int} (h : Lies w A n (xs.map (Value.int .u8) ++ ys.map (Value.int .u8))) : Lies w A n ((xs ++ ys).map (Value.int .u8)) := by
  rw [List.map_append]
  exact h

set_option maxRecDepth 100000 in
set_option maxHeartbeats 1000000 in
theorem pieces_long (A B : Option Addr) (n c m d : Nat) (s : Int) (w : World) (hn : n ≤ 140737488355328) (hm : m ≤ 140737488355328) (h : 100000 < n + m) :
    Calls Try.prog 4 #[.slice A n c, .slice B m d, .int .u32 s] w fun e w' => e = .returned (.bool true) ∧ Below w.heap.size w w' := by
  go_enter Try.func4, Try.ntmps4
  go_wp2_with fail
  refine Calls.mono (alive2_any _) ?_
  rintro e w1 ⟨rfl, hb1⟩
  have HB1 := hide hb1
  have hs1 := hb1.size
  clear hb1
  go_wp2_with fail
  refine Calls.mono (alive2_any w1) ?_
  rintro e w2 ⟨rfl, hb2⟩
  have HB2 := hide (HB1.out.trans (hb2.mono hs1))
  clear hb2
  go_wp2
  go_ret
  exact ⟨rfl, HB2.out⟩

set_option maxRecDepth 100000 in
set_option maxHeartbeats 2000000 in
theorem pieces_walk (A B : Option Addr) (n c m d s : Nat) (xs ys : List Int) (w : World) (hs : s < 4294967296) (ha : Lies w A n (xs.map (Value.int .u8))) (hb : Lies w B m (ys.map (Value.int .u8))) (hnA : A = none → c = 0) (hnB : B = none → d = 0)
    (hx : ByteL xs) (hy : ByteL ys) (h : n + m ≤ 100000) :
    Calls Try.prog 4 #[.slice A n c, .slice B m d, .int .u32 (s : Int)] w fun e w' => e = .returned (.bool true) ∧ Below w.heap.size w w' := by
  obtain ⟨i0, hi, hz0, hz1, hz2⟩ := info_parts Try.infoB
  have HI := hide hi
  have HZ0 := hide hz0
  have HZ1 := hide hz1
  have HZ2 := hide hz2
  have HA := hide ha
  have HB := hide hb
  have HNA := hide hnA
  have HNB := hide hnB
  have HX := hide hx
  have HY := hide hy
  clear hi hz0 hz1 hz2 ha hb hnA hnB hx hy
  go_enter Try.func4, Try.ntmps4
  go_wp2_with fail
  refine Calls.mono (alive2_any _) ?_
  rintro e w1 ⟨rfl, hb1⟩
  have HB1 := hide hb1
  have hs1 := hb1.size
  clear hb1
  go_wp2_with (at_builtin; refine wpList_append_src rfl _ _ 22 rfl 5 i0 (.int .u8 0) 1 Try.underlying22 HI.out HZ0.out HZ1.out HZ2.out rfl w.heap.size (.slice none 0 0) 0 [] rfl (World.ownsRow_nil _ _ _ _) hs1 A n c (xs.map (Value.int .u8)) rfl (HA.out.below HB1.out) HNA.out (ints_one _ _) (by omega) (by unfold maxLen; omega) ?_)
  intro A2 c2 w2 ho2 hg2
  have HO2 : Hid (w2.ownsRow w.heap.size 5 1 (.slice A2 n c2) n (xs.map (Value.int .u8))) := hide ho2
  have HB2 := hide (below_own HB1.out hs1 (World.ownsRow_nil _ w.heap.size 5 1) hg2 (Nat.le_refl _))
  have hs2 := HB2.out.size
  clear ho2 hg2 HB1 hs1
  go_wp2_with (at_builtin; refine wpList_append_src rfl _ _ 22 rfl 5 i0 (.int .u8 0) 1 Try.underlying22 HI.out HZ0.out HZ1.out HZ2.out rfl w.heap.size (.slice A2 n c2) n (xs.map (Value.int .u8)) rfl HO2.out hs2 B m d (ys.map (Value.int .u8)) rfl (HB.out.below HB2.out) HNB.out (ints_one _ _) (by omega) (by unfold maxLen; omega) ?_)
  intro A3 c3 w3 ho3 hg3
  have HL3 : Hid (Lies w3 A3 (n + m) ((xs ++ ys).map (Value.int .u8))) := hide (lies_join (lies_of_own ho3))
  have HB3 := hide (below_own HB2.out hs2 HO2.out hg3 (Nat.le_refl _))
  have hs3 := HB3.out.size
  clear ho3 hg3 HB2 hs2 HO2
  have hall := byteL_append HX.out HY.out
  have HALL := hide hall
  clear hall
  go_wp2_with fail
  refine Calls.mono (of_any A3 (n + m) c3 (xs ++ ys) w3 HL3.out HALL.out (by omega)) ?_
  rw [show sumOf (xs ++ ys) = sumOn (sumOf xs) ys from sumOn_append 0 xs ys]
  rintro e w4 ⟨rfl, hb4⟩
  have HL4 := hide (HL3.out.below hb4)
  have HB4 := hide (HB3.out.trans (hb4.mono hs3))
  have hs4 := HB4.out.size
  clear hb4 HL3 HB3 hs3
  go_wp2_with fail
  refine Calls.mono (of_any A n c xs w4 (HA.out.below HB4.out) HX.out (by omega)) ?_
  rintro e w5 ⟨rfl, hb5⟩
  have HL5 := hide (HL4.out.below hb5)
  have HB5 := hide (HB4.out.trans (hb5.mono hs4))
  have hs5 := HB5.out.size
  clear hb5 HL4 HB4 hs4
  go_wp2_with fail
  refine Calls.mono (on_any (sumOf xs) B m d ys w5 (sumOf_lt HX.out) (HB.out.below HB5.out) HY.out (by omega)) ?_
  rintro e w6 ⟨rfl, hb6⟩
  have HL6 := hide (HL5.out.below hb6)
  have HB6 := hide (HB5.out.trans (hb6.mono hs5))
  have hs6 := HB6.out.size
  clear hb6 HL5 HB5 hs5
  go_wp2_with fail
  refine Calls.mono (on_any s A3 (n + m) c3 (xs ++ ys) w6 hs HL6.out HALL.out (by omega)) ?_
  rw [show sumOn s (xs ++ ys) = sumOn (sumOn s xs) ys from sumOn_append s xs ys]
  rintro e w7 ⟨rfl, hb7⟩
  have HB7 := hide (HB6.out.trans (hb7.mono hs6))
  have hs7 := HB7.out.size
  clear hb7 HL6 HB6 hs6
  go_wp2_with fail
  refine Calls.mono (on_any s A n c xs w7 hs (HA.out.below HB7.out) HX.out (by omega)) ?_
  rintro e w8 ⟨rfl, hb8⟩
  have HB8 := hide (HB7.out.trans (hb8.mono hs7))
  have hs8 := HB8.out.size
  clear hb8 HB7 hs7
  go_wp2_with fail
  refine Calls.mono (on_any (sumOn s xs) B m d ys w8 (sumOn_lt hs HX.out) (HB.out.below HB8.out) HY.out (by omega)) ?_
  rintro e w9 ⟨rfl, hb9⟩
  have HB9 := hide (HB8.out.trans (hb9.mono hs8))
  have hs9 := HB9.out.size
  clear hb9 HB8 hs8
  go_wp2_with fail
  refine Calls.mono (on_any s none 0 0 [] w9 hs Lies.nothing (by unfold ByteL; simp) (by omega)) ?_
  rw [sumOn_nil]
  rintro e w10 ⟨rfl, hb10⟩
  have HB10 := hide (HB9.out.trans (hb10.mono hs9))
  clear hb10 HB9 hs9
  go_wp2
  go_ret
  exact ⟨rfl, HB10.out⟩
theorem pieces_law (A B : Option Addr) (n c m d : Nat) (s : Int) (xs ys : List Int) (w : World) (hs : 0 ≤ s ∧ s < 4294967296) (ha : Lies w A n (xs.map (Value.int .u8))) (hb : Lies w B m (ys.map (Value.int .u8))) (hnA : A = none → c = 0) (hnB : B = none → d = 0)
    (hx : ByteL xs) (hy : ByteL ys) (hn : n ≤ 140737488355328) (hm : m ≤ 140737488355328) :
    Calls Try.prog 4 #[.slice A n c, .slice B m d, .int .u32 s] w fun e w' => e = .returned (.bool true) ∧ Below w.heap.size w w' := by
  obtain ⟨k, rfl⟩ := Int.eq_ofNat_of_zero_le hs.1
  by_cases h : n + m ≤ 100000
  · exact pieces_walk A B n c m d k xs ys w (by omega) ha hb hnA hnB hx hy h
  · exact pieces_long A B n c m d _ w hn hm (by omega)
end Go.Proofs.Ytpbdkmimdfkijaa
