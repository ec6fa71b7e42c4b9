/- Contracts of the document's answers of layer 4 (Check, Size, Index, At of the reference package). -/
import Derived.Test.YtlalfjlcgabnnaaGreatDoorShapeIdx
import Derived.Deep.QuietTactic
import Derived.BigQuiet
namespace Go.Proofs.YtlalfjlcgabnnaaGreatDoor
open Go.RowKit
set_option linter.unusedVariables false
set_option linter.unusedSimpArgs false

set_option maxRecDepth 100000 in
set_option maxHeartbeats 1000000 in
theorem rcheck_any (A : Option Addr) (n c : Nat) (xs : List Int) (w : World) (hA : Lies w A n (xs.map (Value.int .i64))) (hn : n ≤ 281474976710656) :
    Calls Tryz.prog 28 #[.slice A n c] w fun e w' => e = .returned (.bool (decide (0 < sizeI xs))) ∧ w = w' := by
  have hlen : xs.length = n := by have := hA.len; simpa using this
  have HA := hide hA
  have HLEN := hide hlen
  clear hA
  by_cases h1 : n < 1
  · have HS : Hid (decide (0 < sizeI xs) = false) := hide (by rw [sizeI, if_pos (by omega)]; rfl)
    clear hlen
    go_enter Tryz.func28, Tryz.ntmps28
    go_wp2
    go_ret
    exact ⟨by rw [HS.out]; rfl, rfl⟩
  · by_cases h4 : 4 < n
    · have HS : Hid (decide (0 < sizeI xs) = false) := hide (by rw [sizeI, if_pos (by omega)]; rfl)
      clear hlen
      go_enter Tryz.func28, Tryz.ntmps28
      go_wp2
      go_ret
      exact ⟨by rw [HS.out]; rfl, rfl⟩
    · have hn1 : (1 : Int) ≤ (n : Int) := by omega
      have hn4 : (n : Int) ≤ 4 := by omega
      clear hlen
      go_enter Tryz.func28, Tryz.ntmps28
      go_wp2
      go_loop [3, 4] (fun v i => ∃ k : Nat, k ≤ n ∧ i = .int .i64 k ∧ v = .int .i64 (prodZ (xs.take k)) ∧ Hid (AllDim (xs.take k))) (fun _ i => n - (intOf i).toNat)
      case atStart => exact ⟨0, Nat.zero_le _, rfl, rfl, hide (fun d hd => by cases hd)⟩
      case round =>
        obtain ⟨k, hk, rfl, rfl, HD⟩ := hrel
        have hp := prodZ_small (l := xs.take k) (by rw [List.length_take]; omega)
        have hp0 := prodZ_nonneg (xs.take k)
        obtain ⟨p, hpe⟩ : ∃ p, p = prodZ (xs.take k) := ⟨_, rfl⟩
        rw [← hpe] at hp hp0 ⊢
        have HP := hide hpe
        clear hpe
        by_cases hlt : k < n
        · obtain ⟨b, o, rfl, _, hx⟩ := byte_at HA.out (by omega)
          have hc := hx k hlt
          clear hx
          obtain ⟨x, hxe⟩ : ∃ x, x = xs.getD k 0 := ⟨_, rfl⟩
          rw [← hxe] at hc
          have HX := hide hxe
          clear hxe
          have f0 : (0 : Int) ≤ (k : Int) := by omega
          have f1 : (k : Int) < (n : Int) := by omega
          by_cases hx1 : x < 1
          · have HS : Hid (decide (0 < sizeI xs) = false) := hide (decide_eq_false (size_bad (k := k) (by rw [HLEN.out]; exact hlt) (by rw [← HX.out]; exact .inl hx1)))
            go_wp2
            go_ret
            exact ⟨by rw [HS.out]; rfl, rfl⟩
          · by_cases hx64 : 64 < x
            · have HS : Hid (decide (0 < sizeI xs) = false) := hide (decide_eq_false (size_bad (k := k) (by rw [HLEN.out]; exact hlt) (by rw [← HX.out]; exact .inr hx64)))
              go_wp2
              go_ret
              exact ⟨by rw [HS.out]; rfl, rfl⟩
            · have hz : dz x = x := by unfold dz; rw [if_neg (by omega)]
              have hm0 : 0 ≤ p * x := Int.mul_nonneg hp0 (by omega)
              have hm1 : p * x ≤ 16777216 * 64 := Int.mul_le_mul hp (by omega) (by omega) (by omega)
              have hw : IntKind.i64.wrap (p * x) = p * x := IntWalk.i64_in _ (by omega)
              have HN : Hid (prodZ (xs.take (k + 1)) = p * x) := hide (by rw [prodZ_take (by rw [HLEN.out]; exact hlt), ← HP.out, ← HX.out, hz])
              have HD2 : Hid (AllDim (xs.take (k + 1))) := hide (fun d hd => by
                rw [take_snoc (by rw [HLEN.out]; exact hlt)] at hd
                rcases List.mem_append.1 hd with hd | hd
                · exact HD.out d hd
                · simp at hd
                  have : d = x := by rw [HX.out]; simpa [List.getD] using hd
                  subst this
                  exact ⟨by omega, by omega, hz⟩)
              clear hm0 hm1 hz HD
              go_wp2
              go_round
              case rel => exact ⟨k + 1, by omega, by go_num, by rw [HN.out], HD2⟩
              case measure => simp [intOf]; omega
        · obtain rfl : k = n := by omega
          have hall : xs.take k = xs := List.take_of_length_le (by rw [HLEN.out]; exact Nat.le_refl _)
          have HS : Hid (decide (0 < sizeI xs) = decide (p ≤ 4096)) := hide (by
            have hd := HD.out
            have h2 := HP.out
            rw [hall] at hd h2
            have hpos := hd.pos
            rw [sizeI_all hd (by have := HLEN.out; omega) (by have := HLEN.out; omega), ← h2]
            by_cases hb : 4096 < p
            · rw [if_pos hb]
              simp
              omega
            · rw [if_neg hb]
              simp
              omega)
          clear hall
          go_wp2
          go_ret
          exact ⟨by rw [HS.out]; rfl, rfl⟩

set_option maxRecDepth 100000 in
set_option maxHeartbeats 1000000 in
theorem rsize_any (A : Option Addr) (n c : Nat) (xs : List Int) (w : World) (hA : Lies w A n (xs.map (Value.int .i64))) (hn : n ≤ 281474976710656) :
    Calls Tryz.prog 81 #[.slice A n c] w fun e w' => e = .returned (.int .i64 (sizeI xs)) ∧ w = w' := by
  have hlen : xs.length = n := by have := hA.len; simpa using this
  have HA := hide hA
  have HLEN := hide hlen
  clear hA hlen
  by_cases hs : 0 < sizeI xs
  · have HSZ := hide hs
    have hnn : n ≤ 4 := by have := (sizeI_pos hs).2.1; have := HLEN.out; omega
    clear hs
    go_enter Tryz.func81, Tryz.ntmps81
    go_wp2_with fail
    refine Calls.mono (rcheck_any A n c xs w HA.out hn) ?_
    rintro e _ ⟨rfl, rfl⟩
    rw [decide_eq_true HSZ.out]
    go_wp2
    go_loop [3, 4] (fun v i => ∃ k : Nat, k ≤ n ∧ i = .int .i64 k ∧ v = .int .i64 (prodZ (xs.take k))) (fun _ i => n - (intOf i).toNat)
    case atStart => exact ⟨0, Nat.zero_le _, rfl, rfl⟩
    case round =>
      obtain ⟨k, hk, rfl, rfl⟩ := hrel
      have hp := prodZ_small (l := xs.take k) (by rw [List.length_take]; omega)
      have hp0 := prodZ_nonneg (xs.take k)
      obtain ⟨p, hpe⟩ : ∃ p, p = prodZ (xs.take k) := ⟨_, rfl⟩
      rw [← hpe] at hp hp0 ⊢
      have HP := hide hpe
      clear hpe
      by_cases hlt : k < n
      · obtain ⟨b, o, rfl, _, hx⟩ := byte_at HA.out (by omega)
        have hc := hx k hlt
        clear hx
        have hd := (size_dims HSZ.out).at (k := k) (by rw [HLEN.out]; exact hlt)
        obtain ⟨x, hxe⟩ : ∃ x, x = xs.getD k 0 := ⟨_, rfl⟩
        rw [← hxe] at hc hd
        have HX := hide hxe
        have hz := hd.2.2
        have f0 : (0 : Int) ≤ (k : Int) := by omega
        have f1 : (k : Int) < (n : Int) := by omega
        have hm0 : 0 ≤ p * x := Int.mul_nonneg hp0 (by omega)
        have hm1 : p * x ≤ 16777216 * 64 := Int.mul_le_mul hp (by omega) (by omega) (by omega)
        have hw : IntKind.i64.wrap (p * x) = p * x := IntWalk.i64_in _ (by omega)
        have HN : Hid (prodZ (xs.take (k + 1)) = p * x) := hide (by rw [prodZ_take (by rw [HLEN.out]; exact hlt), ← HP.out, ← HX.out, hz])
        clear hm0 hm1 hz hd hxe
        go_wp2
        go_round
        case rel => exact ⟨k + 1, by omega, by go_num, by rw [HN.out]⟩
        case measure => simp [intOf]; omega
      · obtain rfl : k = n := by omega
        have HS : Hid (sizeI xs = p) := hide (by
          have h2 := HP.out
          rw [List.take_of_length_le (by rw [HLEN.out]; exact Nat.le_refl _)] at h2
          rw [(sizeI_pos HSZ.out).2.2, h2])
        go_wp2
        go_ret
        exact ⟨by rw [HS.out]; rfl, rfl⟩
  · have HSZ := hide hs
    have HZ : Hid (sizeI xs = 0) := hide (by have := sizeI_nonneg xs; omega)
    clear hs
    go_enter Tryz.func81, Tryz.ntmps81
    go_wp2_with fail
    refine Calls.mono (rcheck_any A n c xs w HA.out hn) ?_
    rintro e _ ⟨rfl, rfl⟩
    rw [show decide (0 < sizeI xs) = false by rw [HZ.out]; rfl]
    go_wp2
    go_ret
    exact ⟨by rw [HZ.out]; rfl, rfl⟩

end Go.Proofs.YtlalfjlcgabnnaaGreatDoor
