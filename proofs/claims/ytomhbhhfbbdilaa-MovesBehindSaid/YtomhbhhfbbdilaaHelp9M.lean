/- Contracts of the helpers of the statements on moves: of, is, small. -/
import Derived.Test.YtomhbhhfbbdilaaMv18M
import Derived.Test.YtomhbhhfbbdilaaWB
import Derived.Test.YtomhbhhfbbdilaaWA
namespace Go.Proofs.Ytomhbhhfbbdilaa
open Go.RowKit
set_option linter.unusedVariables false
set_option linter.unusedSimpArgs false
set_option maxRecDepth 100000

set_option maxHeartbeats 1000000 in
theorem of9_any (A B : Option Addr) (n c m d : Nat) (w : World) : Calls Try.prog 27 #[.slice A n c, .slice B m d] w fun e w' => e = .returned (tenV A n c B m d) ∧ Below w.heap.size w w' := by
  obtain ⟨W0, hW0⟩ : ∃ W0, W0 = w.alloc (.cells #[.slice none 0 0, .slice none 0 0] 49) := ⟨_, rfl⟩
  have HB0 : Hid (Below w.heap.size w W0) := hide (by rw [hW0]; exact (Below.refl w.heap.size w).alloc (Nat.le_refl _) _)
  have HXR : Hid (BoxT W0 w.heap.size (.slice none 0 0) (.slice none 0 0)) := hide (by rw [hW0]; exact BoxT.new w _ _)
  have hW0' := hW0.symm
  clear hW0
  have r0 := HXR.out.c0
  have r1 := HXR.out.c1
  have rf0 := HXR.out.f0 0
  have rf1 := HXR.out.f0 1
  go_enter Try.func27, Try.ntmps27
  go_wp2
  (try simp only [Exit.inBlock, Exit.then])
  refine ret_ten1 (p := 4) rfl rfl w.heap.size _ rfl (HXR.out.set2 _ _) rfl ?_
  exact ⟨rfl, (HB0.out.setCell (by dsimp only; omega) _).setCell (by dsimp only; omega) _⟩

set_option maxHeartbeats 1000000 in
theorem is9_any (A B A' B' : Option Addr) (n c m d n' c' m' d' : Nat) (s l s' l' : List Int) (e1 : Int) (w : World) (hA : Lies w A n (s.map (Value.int .i64))) (hB : Lies w B m (l.map (Value.int .i32))) (hA' : Lies w A' n' (s'.map (Value.int .i64))) (hB' : Lies w B' m' (l'.map (Value.int .i32))) (hn : n ≤ 281474976710656) (hm : m ≤ 281474976710656) (he : e1 = 0) :
    Calls Try.prog 26 #[tenV A n c B m d, .int .i64 e1, tenV A' n' c' B' m' d'] w fun e w' => e = .returned (.bool (decide (s = s' ∧ l = l'))) ∧ Below w.heap.size w w' := by
  subst he
  obtain ⟨R, hR⟩ : ∃ R, R = decide (s = s' ∧ l = l') := ⟨_, rfl⟩
  rw [← hR]
  have HR := hide hR
  clear hR
  obtain ⟨W0, hW0⟩ : ∃ W0, W0 = (w.alloc (.cells #[.slice A n c, .slice B m d] 49)).alloc (.cells #[.slice A' n' c', .slice B' m' d'] 49) := ⟨_, rfl⟩
  have HB0 : Hid (Below w.heap.size w W0) := hide (by rw [hW0]; exact ((Below.refl w.heap.size w).alloc (Nat.le_refl _) _).alloc (by simp only [World.size_alloc]; omega) _)
  have HX0 : Hid (BoxT W0 w.heap.size (.slice A n c) (.slice B m d)) := hide (by rw [hW0]; exact (BoxT.new w _ _).alloc _)
  have HX1 : Hid (BoxT W0 (w.heap.size + 1) (.slice A' n' c') (.slice B' m' d')) := hide (by
    rw [hW0]
    have h := BoxT.new (w.alloc (.cells #[.slice A n c, .slice B m d] 49)) (.slice A' n' c') (.slice B' m' d')
    rwa [World.size_alloc] at h)
  have hW0' := hW0.symm
  clear hW0
  have HA := hide (hA.below HB0.out)
  have HB := hide (hB.below HB0.out)
  have HA' := hide (hA'.below HB0.out)
  have HB' := hide (hB'.below HB0.out)
  clear hA hB hA' hB'
  have a0 := HX0.out.c0
  have a1 := HX0.out.c1
  have b0 := HX1.out.c0
  have b1 := HX1.out.c1
  go_enter Try.func26, Try.ntmps26
  go_wp2_with fail
  refine Calls.mono (tsame_any A B A' B' n c m d n' c' m' d' s l s' l' _ HA.out HB.out HA'.out HB'.out hn hm) ?_
  rw [← HR.out]
  rintro e w2 ⟨rfl, hb⟩
  have HBB := hide (HB0.out.trans (hb.mono HB0.out.size))
  clear hb
  cases R
  · go_wp2
    go_ret
    exact ⟨rfl, HBB.out⟩
  · go_wp2
    go_ret
    exact ⟨rfl, HBB.out⟩

set_option maxHeartbeats 1000000 in
theorem isno9_any (A B A' B' : Option Addr) (n c m d n' c' m' d' : Nat) (e1 : Int) (w : World) (he : ¬ e1 = 0) :
    Calls Try.prog 26 #[tenV A n c B m d, .int .i64 e1, tenV A' n' c' B' m' d'] w fun e w' => e = .returned (.bool false) ∧ Below w.heap.size w w' := by
  obtain ⟨W0, hW0⟩ : ∃ W0, W0 = (w.alloc (.cells #[.slice A n c, .slice B m d] 49)).alloc (.cells #[.slice A' n' c', .slice B' m' d'] 49) := ⟨_, rfl⟩
  have HB0 : Hid (Below w.heap.size w W0) := hide (by rw [hW0]; exact ((Below.refl w.heap.size w).alloc (Nat.le_refl _) _).alloc (by simp only [World.size_alloc]; omega) _)
  have hW0' := hW0.symm
  have h1 : (e1 == 0) = false := by simpa using he
  clear hW0
  go_enter Try.func26, Try.ntmps26
  go_wp2
  go_ret
  exact ⟨rfl, HB0.out⟩

theorem TenAt.own9 {w : World} {b1 b2 n c m d : Nat} {A B : Option Addr} {s l : List Int} (h1 : w.ownsRow b1 3 1 (.slice A n c) n (s.map (Value.int .i64))) (h2 : w.ownsRow b2 21 1 (.slice B m d) m (l.map (Value.int .i32))) :
    TenAt (w.alloc (.cells #[.slice A n c, .slice B m d] 49)) w.heap.size A B n c m d s l :=
  ⟨BoxT.new w _ _, (lies_of_own h1).alloc _, (lies_of_own h2).alloc _⟩

def small9 (n m : Nat) (s : List Int) : Bool := decide (tsz n m ≤ 1048576) && tenOk s m

set_option maxHeartbeats 2000000 in
theorem small9_any (A B : Option Addr) (n c m d : Nat) (s : List Int) (w : World) (hA : Lies w A n (s.map (Value.int .i64))) (hn : n ≤ 70368744177664) (hm : m ≤ 70368744177664) :
    Calls Try.prog 23 #[tenV A n c B m d] w fun e w' => e = .returned (.bool (small9 n m s)) ∧ Below w.heap.size w w' := by
  have ht1 := tsz_hi6 hn hm
  have ht0 := tsz_nn6 n m
  obtain ⟨W0, hW0⟩ : ∃ W0, W0 = w.alloc (.cells #[.slice A n c, .slice B m d] 49) := ⟨_, rfl⟩
  have HB0 : Hid (Below w.heap.size w W0) := hide (by rw [hW0]; exact below_al6 (Below.refl _ _))
  have HX : Hid (BoxT W0 w.heap.size (.slice A n c) (.slice B m d)) := hide (by rw [hW0]; exact BoxT.new w _ _)
  have HA := hide (hA.below HB0.out)
  have hW0' := hW0.symm
  clear hW0 hA
  have a0 := HX.out.c0
  have a1 := HX.out.c1
  go_enter Try.func23, Try.ntmps23
  go_wp2_with fail
  refine Calls.mono (tsize_any A B n c m d _ (by omega) (by omega)) ?_
  rintro e w1 ⟨rfl, hb1⟩
  have HB1 := hide hb1
  clear hb1 a0 a1
  by_cases hf : tsz n m ≤ 1048576
  · go_wp2_with fail
    refine Calls.mono (beyond_no (some ⟨w1.heap.size, 0, none⟩) 1 1 [(tsz n m : Int)] _ (lies_lit w1 .i64 [(tsz n m : Int)] 3) (by intro z hz; simp at hz; omega) (by simp; omega) (by omega)) ?_
    rintro e w2 ⟨rfl, hw2⟩
    have HB2 : Hid (Below W0.heap.size W0 w2) := hide (by rw [← hw2]; exact below_al6 HB1.out)
    have a0 := (HX.out.kept HB2.out).c0
    have a1 := (HX.out.kept HB2.out).c1
    clear hw2
    go_wp2_with fail
    refine Calls.mono (tcheck_any A B n c m d s _ (HA.out.below HB2.out) (by omega)) ?_
    rintro e w3 ⟨rfl, hb3⟩
    have HB3 := hide (HB0.out.trans ((below_nx6 HB2.out hb3).mono HB0.out.size))
    clear hb3 a0 a1
    have HR : Hid (small9 n m s = tenOk s m) := hide (by rw [small9, decide_eq_true hf, Bool.true_and])
    obtain ⟨r, hr⟩ : ∃ z, z = tenOk s m := ⟨_, rfl⟩
    rw [← hr]
    have HRR := hide hr
    clear hr
    cases r
    · go_wp2
      go_ret
      exact ⟨by rw [HR.out, ← HRR.out]; rfl, HB3.out⟩
    · go_wp2
      go_ret
      exact ⟨by rw [HR.out, ← HRR.out]; rfl, HB3.out⟩
  · go_wp2_with fail
    refine Calls.mono (beyond_yes (some ⟨w1.heap.size, 0, none⟩) 1 1 [(tsz n m : Int)] _ (lies_lit w1 .i64 [(tsz n m : Int)] 3) (by intro z hz; simp at hz; omega) (by simp; omega) (by omega)) ?_
    rintro e w2 ⟨rfl, hw2⟩
    have HB2 : Hid (Below w.heap.size w w2) := hide (by rw [← hw2]; exact HB0.out.trans ((below_al6 HB1.out).mono HB0.out.size))
    have HR : Hid (small9 n m s = false) := hide (by rw [small9, decide_eq_false hf, Bool.false_and])
    clear hw2
    go_wp2
    go_ret
    exact ⟨by rw [HR.out]; rfl, HB2.out⟩

end Go.Proofs.Ytomhbhhfbbdilaa
