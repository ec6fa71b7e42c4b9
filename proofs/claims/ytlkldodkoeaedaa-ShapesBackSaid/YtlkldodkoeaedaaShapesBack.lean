/- ShapesBack holds for every list of numbers: the walk of its Go text. -/
import Derived.Test.YtlkldodkoeaedaaAlive4
import Derived.Test.YtlkldodkoeaedaaShapeMath
namespace Go.Proofs.Ytlkldodkoeaedaa
open Go.RowKit
set_option linter.unusedVariables false
set_option linter.unusedSimpArgs false

theorem back_long (A : Option Addr) (n c : Nat) (w : World) (h : 10000 < n) (hn : n ≤ 281474976710656) :
    Calls Try.prog 3 #[.slice A n c] w fun e w' => e = .returned (.bool true) ∧ Below w.heap.size w w' := by
  go_enter Try.func3, Try.ntmps3
  go_wp2_with fail
  refine Calls.mono (alive4_any _) ?_
  rintro e w1 ⟨rfl, hb1⟩
  have HB1 := hide hb1
  have hs1 := hb1.size
  clear hb1
  go_wp2_with fail
  refine Calls.mono (alive4_any w1) ?_
  rintro e w2 ⟨rfl, hb2⟩
  have HB2 := hide (HB1.out.trans (hb2.mono hs1))
  clear hb2
  go_wp2
  go_ret
  exact ⟨rfl, HB2.out⟩

set_option maxRecDepth 100000 in
set_option maxHeartbeats 4000000 in
theorem back_walk (A : Option Addr) (n c : Nat) (xs : List Int) (w : World) (hA : Lies w A n (xs.map (Value.int .i64))) (hn : n ≤ 10000) :
    Calls Try.prog 3 #[.slice A n c] w fun e w' => e = .returned (.bool true) ∧ Below w.heap.size w w' := by
  have hlen : xs.length = n := by have := hA.len; simpa using this
  have HLEN := hide hlen
  have HA := hide hA
  clear hA hlen
  go_enter Try.func3, Try.ntmps3
  go_wp2_with fail
  refine Calls.mono (alive4_any _) ?_
  rintro e w1 ⟨rfl, hb1⟩
  have HB1 := hide hb1
  have hs1 := hb1.size
  clear hb1
  go_wp2_with fail
  refine Calls.mono (size_any A n c xs w1 (HA.out.below HB1.out) (by omega)) ?_
  rintro e w2 ⟨rfl, hb2⟩
  have HB2 := hide (HB1.out.trans (hb2.mono hs1))
  have hs2 := HB2.out.size
  clear hb2 HB1 hs1
  obtain ⟨N, hN⟩ : ∃ N : Nat, sizeI xs = (N : Int) := ⟨(sizeI xs).toNat, by have := sizeI_nonneg xs; omega⟩
  have hN4 : N ≤ 4096 := by have := sizeI_le xs; omega
  rw [hN]
  have HN := hide hN
  clear hN
  go_wp2_with fail
  refine Calls.mono (check_any A n c xs w2 (HA.out.below HB2.out) (by omega)) ?_
  rintro e w3 ⟨rfl, hb3⟩
  rw [HN.out]
  have HB3 := hide (HB2.out.trans (hb3.mono hs2))
  have hs3 := HB3.out.size
  clear hb3 HB2 hs2
  go_wp2
  go_loopw [4, 5] (fun v i wr => ∃ k : Nat, k ≤ N ∧ i = .int .i64 k ∧ Hid (Below w.heap.size w wr) ∧ ((k = 0 ∧ v = .slice none 0 0) ∨ (0 < k ∧ ∃ g, v = .slice (some ⟨g, 0, none⟩) n n ∧ Hid (Lies wr (some ⟨g, 0, none⟩) n ((digs xs ((k : Int) - 1)).map (Value.int .i64)))))) (fun _ i _ => N - (intOf i).toNat)
  case atStart => exact ⟨0, Nat.zero_le _, rfl, HB3, .inl ⟨rfl, rfl⟩⟩
  case round =>
    obtain ⟨k, hk, rfl, HB, hv⟩ := hrel
    have hs := HB.out.size
    by_cases hlt : k < N
    · have HOK : Hid (okAt xs (digs xs (k : Int)) = true) := hide (by
        have hd := size_dims (xs := xs) (by rw [HN.out]; omega)
        simp [okAt, HN.out, digs_len, digs_in hd]
        omega)
      have HVAL : Hid (valI xs (digs xs (k : Int)) = (k : Int)) := hide (by
        have hp : 0 < sizeI xs := by rw [HN.out]; omega
        have hd := size_dims hp
        obtain ⟨_, _, h3⟩ := sizeI_pos hp
        rw [valI_digs hd _ (by omega), ← h3, HN.out]
        exact Int.emod_eq_of_lt (by omega) (by omega))
      have hc1 : (k : Int) < (N : Int) := by omega
      go_wp2_with fail
      refine Calls.mono (at_ok A n c (k : Int) xs wr (HA.out.below HB.out) (by omega) (by omega) (by rw [HN.out]; omega)) ?_
      rintro e w4 ⟨g, hg, rfl, hrow, hb4⟩
      have HB4 := hide (HB.out.trans (hb4.mono hs))
      have hs4 := HB4.out.size
      have hl := lies_row hrow
      rw [digs_len, HLEN.out] at hl
      have HL4 := hide hl
      have HB4w := hide hb4
      clear hrow hl hb4
      go_wp2_with fail
      refine Calls.mono (index_ok A (some ⟨g, 0, none⟩) n c n n xs (digs xs (k : Int)) w4 (HA.out.below HB4.out) HL4.out (by omega) (by omega) HOK.out) ?_
      rintro e w5 ⟨rfl, hb5⟩
      rw [HVAL.out]
      have HB5 := hide (HB4.out.trans (hb5.mono hs4))
      have hs5 := HB5.out.size
      have HL5 := hide (HL4.out.below hb5)
      have HB5w := hide (HB4w.out.trans (hb5.mono HB4w.out.size))
      clear hb5 HB4 hs4 HL4 HB4w HB hs
      rcases hv with ⟨hk0, rfl⟩ | ⟨hk0, g0, rfl, HG⟩
      · have hk1 : ¬ (0 : Int) < (k : Int) := by omega
        have HL6 : Hid (Lies w5 (some ⟨g, 0, none⟩) n ((digs xs (((k + 1 : Nat) : Int) - 1)).map (Value.int .i64))) := hide (by
          rw [show (((k + 1 : Nat) : Int) - 1) = (k : Int) by omega]
          exact HL5.out)
        clear hk0
        go_wp2
        go_roundw
        case rel => exact ⟨k + 1, by omega, by go_num, HB5, .inr ⟨by omega, g, rfl, HL6⟩⟩
        case measure => simp [intOf]; omega
      · have HG5 := hide (HG.out.below HB5w.out)
        have hrise := digs_rise (xs := xs) (size_dims (xs := xs) (by rw [HN.out]; omega)) (k : Int) (by omega) (by
          have hp : 0 < sizeI xs := by rw [HN.out]; omega
          obtain ⟨_, _, h3⟩ := sizeI_pos hp
          rw [← h3, HN.out, Int.emod_eq_of_lt (by omega) (by omega)]
          omega)
        obtain ⟨m, hm, hpre, hmlt⟩ := hrise
        rw [HLEN.out] at hm
        have HPRE := hide hpre
        have HMLT := hide hmlt
        clear hpre hmlt HG
        have hk1 : (0 : Int) < (k : Int) := by omega
        go_wp2_with fail
        refine Calls.mono (rises_any (some ⟨g0, 0, none⟩) (some ⟨g, 0, none⟩) n n n m _ _ w5 HG5.out HL5.out (by omega) hm HPRE.out HMLT.out) ?_
        rintro e w6 ⟨rfl, hb6⟩
        have HB6 := hide (HB5.out.trans (hb6.mono hs5))
        have HL6 : Hid (Lies w6 (some ⟨g, 0, none⟩) n ((digs xs (((k + 1 : Nat) : Int) - 1)).map (Value.int .i64))) := hide (by
          rw [show (((k + 1 : Nat) : Int) - 1) = (k : Int) by omega]
          exact HL5.out.below hb6)
        clear hb6 HB5 hs5 HL5 HG5 HB5w
        go_wp2
        go_roundw
        case rel => exact ⟨k + 1, by omega, by go_num, HB6, .inr ⟨by omega, g, rfl, HL6⟩⟩
        case measure => simp [intOf]; omega
    · obtain rfl : k = N := by omega
      clear hv
      go_wp2_with fail
      refine Calls.mono (at_err A n c (k : Int) xs wr (HA.out.below HB.out) (by omega) (.inr (by rw [HN.out]; exact Int.le_refl _))) ?_
      rintro e w4 ⟨rfl, hb4⟩
      have HB4 := hide (HB.out.trans (hb4.mono hs))
      have hs4 := HB4.out.size
      clear hb4 HB hs
      go_wp2_with fail
      refine Calls.mono (at_err A n c (-1) xs w4 (HA.out.below HB4.out) (by omega) (.inl (by omega))) ?_
      rintro e w5 ⟨rfl, hb5⟩
      have HB5 := hide (HB4.out.trans (hb5.mono hs4))
      clear hb5 HB4 hs4
      go_wp2
      go_ret
      exact ⟨rfl, HB5.out⟩

theorem back_any (A : Option Addr) (n c : Nat) (xs : List Int) (w : World) (hA : Lies w A n (xs.map (Value.int .i64))) (hn : n * 8 ≤ 140737488351232) :
    Calls Try.prog 3 #[.slice A n c] w fun e w' => e = .returned (.bool true) ∧ Below w.heap.size w w' := by
  by_cases h : n ≤ 10000
  · exact back_walk A n c xs w hA h
  · exact back_long A n c w (by omega) (by omega)
end Go.Proofs.Ytlkldodkoeaedaa
