/- Contracts of the document's answers of layer 4 (Index, At of the reference package). -/
import Derived.Test.YtaoobdnbjagpnaaGreatDoorRef04
namespace Go.Proofs.YtaoobdnbjagpnaaGreatDoor
open Go.RowKit
set_option linter.unusedVariables false
set_option linter.unusedSimpArgs false

set_option maxRecDepth 100000 in
set_option maxHeartbeats 2000000 in
theorem rindex_any (A B : Option Addr) (n c m cB : Nat) (xs ys : List Int) (w : World) (hA : Lies w A n (xs.map (Value.int .i64))) (hB : Lies w B m (ys.map (Value.int .i64))) (hn : n ≤ 281474976710656) (hm : m ≤ 281474976710656) :
    Calls Tryz.prog 33 #[.slice A n c, .slice B m cB] w fun e w' => e = .returned (.tuple #[.int .i64 (idxV xs ys), .int .i64 (idxE xs ys)]) ∧ Below w.heap.size w w' := by
  have hl1 : xs.length = n := by have := hA.len; simpa using this
  have hl2 : ys.length = m := by have := hB.len; simpa using this
  have HA := hide hA
  have HY := hide hB
  have HLEN : Hid (xs.length = n ∧ ys.length = m) := hide ⟨hl1, hl2⟩
  by_cases hs : 0 < sizeI xs
  · by_cases hmn : m = n
    · subst hmn
      have HSZ := hide hs
      have hnn : m ≤ 4 := by have := (sizeI_pos hs).2.1; omega
      have HBAD : Hid (∀ k, k < m → (ys.getD k 0 < 0 ∨ xs.getD k 0 ≤ ys.getD k 0) → idxV xs ys = 0 ∧ idxE xs ys = 1) := hide (fun k hk hb => by
        have : ¬ okAt xs ys = true := by
          intro ho
          unfold okAt at ho
          simp at ho
          have := allIn_at k ho.2.2 (by omega) (by omega)
          omega
        exact ⟨by rw [idxV, if_neg this], by rw [idxE, if_neg this]⟩)
      clear hA hB hl1 hl2 hs
      go_enter Tryz.func33, Tryz.ntmps33
      go_wp2_with fail
      refine Calls.mono (rcheck_any A m c xs w HA.out hn) ?_
      rintro e _ ⟨rfl, rfl⟩
      rw [decide_eq_true HSZ.out]
      go_wp2
      go_loopw [6, 7] (fun v i wr => ∃ k : Nat, k ≤ m ∧ i = .int .i64 k ∧ v = .int .i64 (valI (xs.take k) (ys.take k)) ∧ Hid (allIn (xs.take k) (ys.take k) = true) ∧ Hid (Below w.heap.size w wr)) (fun _ i _ => m - (intOf i).toNat)
      case atStart => exact ⟨0, Nat.zero_le _, rfl, rfl, hide rfl, hide (Below.refl _ _)⟩
      case round =>
        obtain ⟨k, hk, rfl, rfl, HIN, HW⟩ := hrel
        have hbd := valI_bound ((size_dims HSZ.out).take k) HIN.out
        have hp := prodZ_small (l := xs.take k) (by rw [List.length_take]; omega)
        obtain ⟨p, hpe⟩ : ∃ p, p = valI (xs.take k) (ys.take k) := ⟨_, rfl⟩
        rw [← hpe] at hbd ⊢
        have hpb : 0 ≤ p ∧ p ≤ 16777216 := by omega
        have HP := hide hpe
        clear hpe hbd hp
        by_cases hlt : k < m
        · obtain ⟨b, o, rfl, _, hx⟩ := byte_at (HA.out.below HW.out) (by omega)
          obtain ⟨b', o', rfl, _, hy⟩ := byte_at (HY.out.below HW.out) (by omega)
          have hc := hx k hlt
          have hcy := hy k hlt
          clear hx hy
          have hd := (size_dims HSZ.out).at (k := k) (by rw [HLEN.out.1]; exact hlt)
          obtain ⟨x, hxe⟩ : ∃ x, x = xs.getD k 0 := ⟨_, rfl⟩
          obtain ⟨y, hye⟩ : ∃ y, y = ys.getD k 0 := ⟨_, rfl⟩
          rw [← hxe] at hc hd
          rw [← hye] at hcy
          have HX := hide hxe
          have HYE := hide hye
          have f0 : (0 : Int) ≤ (k : Int) := by omega
          have f1 : (k : Int) < (m : Int) := by omega
          clear hxe hye
          by_cases hy0 : y < 0
          · have hd1 : decide (y < 0) = true := decide_eq_true hy0
            have HR := hide (HBAD.out k hlt (.inl (by rw [← HYE.out]; exact hy0)))
            clear hd hlt
            go_wp2
            go_quiet (fail)
            go_wp2
            go_ret2
            exact ⟨by rw [HR.out.1, HR.out.2]; rfl, by repeat (first | exact HW.out | refine below_drewN ?_ _)⟩
          · have hd1 : decide (y < 0) = false := decide_eq_false hy0
            have hy1 : 0 ≤ y := by omega
            by_cases hyx : x ≤ y
            · have hd2 : decide (x ≤ y) = true := decide_eq_true hyx
              have HR := hide (HBAD.out k hlt (.inr (by rw [← HYE.out, ← HX.out]; exact hyx)))
              clear hd hlt hy0
              go_wp2
              go_quiet (fail)
              go_wp2
              go_ret2
              exact ⟨by rw [HR.out.1, HR.out.2]; rfl, by repeat (first | exact HW.out | refine below_drewN ?_ _)⟩
            · have hd2 : decide (x ≤ y) = false := decide_eq_false hyx
              have hyx2 : y < x := by omega
              have hz := hd.2.2
              have hm0 : 0 ≤ p * x := Int.mul_nonneg hpb.1 (by omega)
              have hm1 : p * x ≤ 16777216 * 64 := Int.mul_le_mul hpb.2 (by omega) (by omega) (by omega)
              have hw1 : IntKind.i64.wrap (p * x) = p * x := IntWalk.i64_in _ (by omega)
              have hw2 : IntKind.i64.wrap (p * x + y) = p * x + y := IntWalk.i64_in _ (by omega)
              have HN : Hid (valI (xs.take (k + 1)) (ys.take (k + 1)) = p * x + y) := hide (by
                rw [take_snoc (by rw [HLEN.out.1]; exact hlt), take_snoc (by rw [HLEN.out.2]; exact hlt), valI_snoc _ _ (by simp [HLEN.out.1, HLEN.out.2]), ← HP.out, ← HX.out, ← HYE.out, hz])
              have HI2 : Hid (allIn (xs.take (k + 1)) (ys.take (k + 1)) = true) := hide (by
                rw [take_snoc (by rw [HLEN.out.1]; exact hlt), take_snoc (by rw [HLEN.out.2]; exact hlt), allIn_snoc _ _ (by simp [HLEN.out.1, HLEN.out.2]), HIN.out, ← HX.out, ← HYE.out, decide_eq_true hy1, decide_eq_true hyx2]
                rfl)
              clear hm0 hm1 hz hd hy0 hyx HIN
              go_wp2
              go_quiet (fail)
              go_wp2
              go_quiet (fail)
              go_wp2
              go_roundw
              case rel => exact ⟨k + 1, by omega, by go_num, by rw [HN.out], HI2, hide (by repeat (first | exact HW.out | refine below_drewN ?_ _))⟩
              case measure => simp [intOf]; omega
        · obtain rfl : k = m := by omega
          have HR : Hid (idxV xs ys = p ∧ idxE xs ys = 0) := hide (by
            have h1 := HP.out
            have h2 := HIN.out
            rw [List.take_of_length_le (by rw [HLEN.out.1]; exact Nat.le_refl _), List.take_of_length_le (by rw [HLEN.out.2]; exact Nat.le_refl _)] at h1 h2
            have ho : okAt xs ys = true := by
              unfold okAt
              rw [decide_eq_true HSZ.out, h2, HLEN.out.1, HLEN.out.2]
              simp
            exact ⟨by rw [idxV, if_pos ho, h1], by rw [idxE, if_pos ho]⟩)
          go_wp2
          go_ret2
          exact ⟨by rw [HR.out.1, HR.out.2]; rfl, HW.out⟩
    · have HR : Hid (idxV xs ys = 0 ∧ idxE xs ys = 1) := hide (by
        have : ¬ okAt xs ys = true := by
          unfold okAt
          rw [hl1, hl2]
          simp [hmn]
        exact ⟨by rw [idxV, if_neg this], by rw [idxE, if_neg this]⟩)
      have HSZ := hide hs
      have hne : ¬ (m : Int) = (n : Int) := by omega
      clear hA hB hl1 hl2 hs
      go_enter Tryz.func33, Tryz.ntmps33
      go_wp2_with fail
      refine Calls.mono (rcheck_any A n c xs w HA.out hn) ?_
      rintro e _ ⟨rfl, rfl⟩
      rw [decide_eq_true HSZ.out]
      go_wp2
      go_ret2
      exact ⟨by rw [HR.out.1, HR.out.2]; rfl, Below.refl _ _⟩
  · have HR : Hid (idxV xs ys = 0 ∧ idxE xs ys = 1) := hide (by
      have : ¬ okAt xs ys = true := by
        unfold okAt
        rw [decide_eq_false hs]
        simp
      exact ⟨by rw [idxV, if_neg this], by rw [idxE, if_neg this]⟩)
    have HSZ := hide (decide_eq_false hs)
    clear hA hB hl1 hl2 hs
    go_enter Tryz.func33, Tryz.ntmps33
    go_wp2_with fail
    refine Calls.mono (rcheck_any A n c xs w HA.out hn) ?_
    rintro e _ ⟨rfl, rfl⟩
    rw [HSZ.out]
    go_wp2
    go_ret2
    exact ⟨by rw [HR.out.1, HR.out.2]; rfl, Below.refl _ _⟩
end Go.Proofs.YtaoobdnbjagpnaaGreatDoor
