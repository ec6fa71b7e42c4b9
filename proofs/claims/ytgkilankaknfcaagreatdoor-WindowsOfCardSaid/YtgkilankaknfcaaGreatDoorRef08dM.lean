/- The document's Pool and Of, both ways out. -/
import Derived.Test.YtgkilankaknfcaaGreatDoorRef08cM
import Derived.Test.YtgkilankaknfcaaGreatDoorWC
namespace Go.Proofs.YtgkilankaknfcaaGreatDoor
open Go.RowKit
set_option linter.unusedVariables false
set_option linter.unusedSimpArgs false

theorem rpool8_any (A B : Option Addr) (n c m d : Nat) (s l : List Int) (wide : Int) (w : World) (hA : Lies w A n (s.map (Value.int .i64))) (hB : Lies w B m (l.map (Value.int .i32))) (hn : n ≤ 281474976710656) :
    Calls Tryz.prog 18 #[tenV A n c B m d, .int .i64 wide] w fun e w' => ∃ A1 k1 c1 A2 k2 c2, e = .returned (.tuple #[tenV A1 k1 c1 A2 k2 c2, .int .i64 (pl8E s m wide)]) ∧
      Lies w' A1 k1 ((pl8S s m wide).map (Value.int .i64)) ∧ Lies w' A2 k2 ((pl8L s m l wide).map (Value.int .i32)) ∧ Below w.heap.size w w' := by
  by_cases h : pl8E s m wide = 0
  · obtain ⟨C, H, V, Y, X, wd, rfl, rfl, hk, hE, hL⟩ := pl8_nat h
    have en : n = 3 := by have := hA.len; simpa using this.symm
    subst en
    refine (rpool8_ok A B c m d C H V Y X wd l w hA hB hk hE hL).mono ?_
    rintro e w' ⟨gs, kc, A2, c2, rfl, h1, h2, hb⟩
    refine ⟨_, _, _, _, _, _, by rw [h], ?_, ?_, hb⟩
    · rw [pl8S, if_pos h, hL]; exact h1
    · rw [pl8L, if_pos h, hL]; simpa using h2
  · refine (rpool8_bad A B n c m d s l wide w hA hB hn h).mono ?_
    rintro e w' ⟨rfl, hb⟩
    exact ⟨none, 0, 0, none, 0, 0, rfl, by rw [pl8S, if_neg h]; exact Lies.nothing, by rw [pl8L, if_neg h]; exact Lies.nothing, hb⟩

theorem rof8_any (A B A' B' : Option Addr) (n c m d n' c' m' d' : Nat) (s l s' l' : List Int) (step pad : Int) (w : World) (hA : Lies w A n (s.map (Value.int .i64))) (hB : Lies w B m (l.map (Value.int .i32))) (hA' : Lies w A' n' (s'.map (Value.int .i64))) (hB' : Lies w B' m' (l'.map (Value.int .i32))) (hn : n ≤ 281474976710656) (hn' : n' ≤ 281474976710656) :
    Calls Tryz.prog 8 #[tenV A n c B m d, tenV A' n' c' B' m' d', .int .i64 step, .int .i64 pad] w fun e w' => ∃ A1 k1 c1 A2 k2 c2, e = .returned (.tuple #[tenV A1 k1 c1 A2 k2 c2, .int .i64 (of8E s m s' m' step pad)]) ∧
      Lies w' A1 k1 ((of8S s m s' m' step pad).map (Value.int .i64)) ∧ Lies w' A2 k2 ((of8L s m s' m' l l' step pad).map (Value.int .i32)) ∧ Below w.heap.size w w' := by
  by_cases h : of8E s m s' m' step pad = 0
  · obtain ⟨C, H, V, O, a, b, Y, X, st, pd, rfl, rfl, rfl, rfl, hk, hk', hE, hL⟩ := of8_nat h
    have en : n = 3 := by have := hA.len; simpa using this.symm
    have en' : n' = 4 := by have := hA'.len; simpa using this.symm
    subst en en'
    refine (rof8_ok A B A' B' c m d c' m' d' C H V O a b Y X st pd l l' w hA hB hA' hB' hk hk' hE hL).mono ?_
    rintro e w' ⟨gs, kc, A2, c2, rfl, h1, h2, hb⟩
    refine ⟨_, _, _, _, _, _, by rw [h], ?_, ?_, hb⟩
    · rw [of8S, if_pos h, hL]; exact h1
    · rw [of8L, if_pos h, hL]; simpa using h2
  · refine (rof8_bad A B A' B' n c m d n' c' m' d' s l s' l' step pad w hA hB hA' hB' hn hn' h).mono ?_
    rintro e w' ⟨rfl, hb⟩
    exact ⟨none, 0, 0, none, 0, 0, rfl, by rw [of8S, if_neg h]; exact Lies.nothing, by rw [of8L, if_neg h]; exact Lies.nothing, hb⟩

end Go.Proofs.YtgkilankaknfcaaGreatDoor
