/- SumsEnd holds for every bytes, and by whatever their sum turns: the walk of its Go text. -/
import Derived.Test.YtpbdkmimdfkijaaPieces
namespace Go.Proofs.Ytpbdkmimdfkijaa
open Go.RowKit

set_option maxRecDepth 100000 in
set_option maxHeartbeats 1000000 in
theorem end_long (A : Option Addr) (n c : Nat) (b : Int) (w : World) (hn : n ≤ 140737488355328) (h : 100000 < n) :
    Calls Try.prog 7 #[.slice A n c, .int .u32 b] w fun e w' => e = .returned (.bool true) ∧ Below w.heap.size w w' := by
  go_enter Try.func7, Try.ntmps7
  go_wp2_with fail
  refine Calls.mono (alive2_any _) ?_
  rintro e w1 ⟨rfl, hb1⟩
  have HB1 := hide hb1
  have hs1 := hb1.size
  clear hb1
  go_wp2_with fail
  refine Calls.mono (alive2_any w1) ?_
  rintro e w2 ⟨rfl, hb2⟩
  have HB2 := hide (HB1.out.trans (hb2.mono hs1))
  clear hb2
  go_wp2
  go_ret
  exact ⟨rfl, HB2.out⟩

theorem beq_of_iff {a b c d : Int} (h : a = b ↔ c = d) : (a == b) = (c == d) := by
  by_cases e : a = b
  · rw [beq_iff_eq.2 e, beq_iff_eq.2 (h.1 e)]
  · rw [beq_eq_false_iff_ne.2 e, beq_eq_false_iff_ne.2 (fun k => e (h.2 k))]

set_option maxRecDepth 100000 in
set_option maxHeartbeats 2000000 in
theorem end_walk (A : Option Addr) (n c b : Nat) (xs : List Int) (w : World) (hb : b < 4294967296) (ha : Lies w A n (xs.map (Value.int .u8))) (hnA : A = none → c = 0) (hx : ByteL xs) (h : n ≤ 100000) :
    Calls Try.prog 7 #[.slice A n c, .int .u32 (b : Int)] w fun e w' => e = .returned (.bool true) ∧ Below w.heap.size w w' := by
  obtain ⟨i0, hi, hz0, hz1, hz2⟩ := info_parts Try.infoB
  have HI := hide hi
  have HZ0 := hide hz0
  have HZ1 := hide hz1
  have HZ2 := hide hz2
  have HA := hide ha
  have HNA := hide hnA
  have HX := hide hx
  have hlt := sumOf_lt hx
  have hxor := u32_xor_nat (sumOf xs) b hlt hb
  have hxl := xor_lt hlt hb
  have hend := end_iff xs b hx hb
  obtain ⟨p, hp⟩ : ∃ p : Nat, p = sumOf xs := ⟨_, rfl⟩
  rw [← hp] at hlt hxor hxl hend
  obtain ⟨x, hxx⟩ : ∃ x : Nat, x = p ^^^ b := ⟨_, rfl⟩
  rw [← hxx] at hxor hxl hend
  have hall := byteL_append hx (four_byteL (x : Int))
  obtain ⟨P, hP⟩ : ∃ P : Int, P = ((sumOf (xs ++ four (x : Int)) : Nat) : Int) := ⟨_, rfl⟩
  obtain ⟨Q, hQ⟩ : ∃ Q : Int, Q = ((sumOf [0, 0, 0, 0] : Nat) : Int) := ⟨_, rfl⟩
  have hPQ : (P == Q) = ((b : Int) == 0) := beq_of_iff (by
    rw [hP, hQ]
    exact ⟨fun hh => by have := hend.1 (by omega); omega, fun hh => by have := hend.2 (by omega); omega⟩)
  have HALL := hide hall
  have HP := hide hp
  have HPP := hide hP
  have HQQ := hide hQ
  have HPQ := hide hPQ
  clear hi hz0 hz1 hz2 ha hnA hx hend hp hxx hall hP hQ hPQ
  go_enter Try.func7, Try.ntmps7
  go_wp2_with fail
  refine Calls.mono (alive2_any _) ?_
  rintro e w1 ⟨rfl, hb1⟩
  have HB1 := hide hb1
  have hs1 := hb1.size
  clear hb1
  go_wp2_with fail
  refine Calls.mono (of_any A n c xs w1 (HA.out.below HB1.out) HX.out (by omega)) ?_
  rw [← HP.out]
  rintro e w2 ⟨rfl, hb2⟩
  have HB2 := hide (HB1.out.trans (hb2.mono hs1))
  have hs2 := HB2.out.size
  clear hb2 HB1 hs1
  go_wp2_with (at_builtin; refine wpList_append_src rfl _ _ 22 rfl 5 i0 (.int .u8 0) 1 Try.underlying22 HI.out HZ0.out HZ1.out HZ2.out rfl w.heap.size (.slice none 0 0) 0 [] rfl (World.ownsRow_nil _ _ _ _) hs2 A n c (xs.map (Value.int .u8)) rfl (HA.out.below HB2.out) HNA.out (ints_one _ _) (by omega) (by unfold maxLen; omega) ?_)
  intro A3 c3 w3 ho3 hg3
  have HO3 : Hid (w3.ownsRow w.heap.size 5 1 (.slice A3 n c3) n (xs.map (Value.int .u8))) := hide ho3
  have HB3 := hide (below_own HB2.out hs2 (World.ownsRow_nil _ w.heap.size 5 1) hg3 (Nat.le_refl _))
  have hs3 := HB3.out.size
  clear ho3 hg3 HB2 hs2
  go_wp2_with fail
  refine Calls.mono (four2_any (x : Int) (by omega) w3) ?_
  rintro e w4 ⟨rfl, rfl⟩
  have HF4 := hide (four_lies (x : Int) w3 5)
  have HB4 := hide (HB3.out.alloc hs3 (.cells (fourV (x : Int)).toArray 5))
  have HO4 := hide (HO3.out.alloc (.cells (fourV (x : Int)).toArray 5))
  generalize w3.alloc (.cells (fourV (x : Int)).toArray 5) = w4 at HF4 HB4 HO4 ⊢
  have hs4 := HB4.out.size
  clear HB3 HO3
  go_wp2_with (at_builtin; refine wpList_append_src rfl _ _ 22 rfl 5 i0 (.int .u8 0) 1 Try.underlying22 HI.out HZ0.out HZ1.out HZ2.out rfl w.heap.size (.slice A3 n c3) n (xs.map (Value.int .u8)) rfl HO4.out hs4 (some ⟨w3.heap.size, 0, none⟩) 4 4 (fourV (x : Int)) rfl HF4.out (by simp) (ints_one _ _) (by omega) (by unfold maxLen; omega) ?_)
  intro A5 c5 w5 ho5 hg5
  have HL5 : Hid (Lies w5 A5 (n + 4) ((xs ++ four (x : Int)).map (Value.int .u8))) := hide (lies_join (lies_of_own ho5))
  have HB5 := hide (below_own HB4.out hs4 HO4.out hg5 (Nat.le_refl _))
  have hs5 := HB5.out.size
  clear ho5 hg5 HB4 HO4 HF4 hs4
  go_wp2_with fail
  refine Calls.mono (of_any A5 (n + 4) c5 (xs ++ four (x : Int)) w5 HL5.out HALL.out (by omega)) ?_
  rw [← HPP.out]
  rintro e w6 ⟨rfl, hb6⟩
  have HB6 := hide (HB5.out.trans (hb6.mono hs5))
  have hs6 := HB6.out.size
  clear hb6 HL5 HB5 hs5
  go_wp2_with fail
  refine Calls.mono (of_any (some ⟨w6.heap.size, 0, none⟩) 4 4 [0, 0, 0, 0] _ (lies_lit2 w6 [0, 0, 0, 0] 5) (by unfold ByteL; decide) (by omega)) ?_
  rw [← HQQ.out]
  rintro e w7 ⟨rfl, hb7⟩
  have HB7 := hide ((HB6.out.alloc hs6 _).trans (hb7.mono (Nat.le_trans hs6 (by simp))))
  clear hb7 HB6 hs6
  have hPQ := HPQ.out
  go_wp2
  go_ret
  exact ⟨by simp, HB7.out⟩
theorem end_law (A : Option Addr) (n c : Nat) (b : Int) (xs : List Int) (w : World) (hb : 0 ≤ b ∧ b < 4294967296) (ha : Lies w A n (xs.map (Value.int .u8))) (hnA : A = none → c = 0) (hx : ByteL xs) (hn : n ≤ 140737488355328) :
    Calls Try.prog 7 #[.slice A n c, .int .u32 b] w fun e w' => e = .returned (.bool true) ∧ Below w.heap.size w w' := by
  obtain ⟨k, rfl⟩ := Int.eq_ofNat_of_zero_le hb.1
  by_cases h : n ≤ 100000
  · exact end_walk A n c k xs w (by omega) ha hnA hx h
  · exact end_long A n c _ w hn (by omega)
end Go.Proofs.Ytpbdkmimdfkijaa
