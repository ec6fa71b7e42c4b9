/- Merged: ShapeIdx, Ref04, Ref04b, Ref05. -/
import Derived.Test.YtomhbhhfbbdilaaGreatDoorWA
import Derived.Deep.QuietTactic
import Derived.BigQuiet
import Derived.Test.YtomhbhhfbbdilaaGreatDoorWB
namespace Go.Proofs.YtomhbhhfbbdilaaGreatDoor

section
open Go.RowKit
set_option linter.unusedVariables false
set_option linter.unusedSimpArgs false

/-- Index's two answers. -/
def idxV (xs ys : List Int) : Int := if okAt xs ys = true then valI xs ys else 0

def idxE (xs ys : List Int) : Int := if okAt xs ys = true then 0 else 1

theorem take_snoc {xs : List Int} {k : Nat} (h : k < xs.length) : xs.take (k + 1) = xs.take k ++ [xs.getD k 0] := by
  have e : xs.getD k 0 = xs[k] := by simp [List.getD, h]
  rw [List.take_succ_eq_append_getElem h, ← e]

theorem prodZ_take {xs : List Int} {k : Nat} (h : k < xs.length) : prodZ (xs.take (k + 1)) = prodZ (xs.take k) * dz (xs.getD k 0) := by
  rw [take_snoc h, prodZ_append, show prodZ [xs.getD k 0] = dz (xs.getD k 0) by simp [prodZ]]

theorem allIn_snoc : ∀ {a b : List Int} (x y : Int), a.length = b.length → allIn (a ++ [x]) (b ++ [y]) = (allIn a b && (decide (0 ≤ y) && decide (y < x)))
  | [], [], x, y, _ => by simp [allIn]
  | [], _ :: _, _, _, h => by simp at h
  | _ :: _, [], _, _, h => by simp at h
  | p :: a, q :: b, x, y, h => by
    simp only [List.cons_append, allIn]
    rw [allIn_snoc x y (by simpa using h)]
    cases allIn a b <;> cases decide (0 ≤ y) <;> cases decide (y < x) <;> cases decide (0 ≤ q) <;> cases decide (q < p) <;> rfl

theorem valI_snoc : ∀ {a b : List Int} (x y : Int), a.length = b.length → valI (a ++ [x]) (b ++ [y]) = valI a b * dz x + y
  | [], [], x, y, _ => by simp [valI, prodZ]
  | [], _ :: _, _, _, h => by simp at h
  | _ :: _, [], _, _, h => by simp at h
  | p :: a, q :: b, x, y, h => by
    simp only [List.cons_append, valI]
    rw [valI_snoc x y (by simpa using h), prodZ_append, show prodZ [x] = dz x by simp [prodZ], Int.add_mul, Int.mul_right_comm (prodZ a) q]
    omega

theorem size_bad {xs : List Int} {k : Nat} (h : k < xs.length) (hx : xs.getD k 0 < 1 ∨ 64 < xs.getD k 0) : ¬ 0 < sizeI xs := by
  intro hs
  have := (size_dims hs).at h
  omega

theorem AllDim.take {xs : List Int} (h : AllDim xs) (k : Nat) : AllDim (xs.take k) := fun d hd => h d (List.mem_of_mem_take hd)

theorem sizeI_all {xs : List Int} (h : AllDim xs) (h1 : 1 ≤ xs.length) (h4 : xs.length ≤ 4) : sizeI xs = if 4096 < prodZ xs then 0 else prodZ xs := by
  rw [sizeI, if_neg (by omega)]

end

section
open Go.RowKit
set_option linter.unusedVariables false
set_option linter.unusedSimpArgs false

set_option maxRecDepth 100000 in
set_option maxHeartbeats 1000000 in
theorem rcheck_any (A : Option Addr) (n c : Nat) (xs : List Int) (w : World) (hA : Lies w A n (xs.map (Value.int .i64))) (hn : n ≤ 281474976710656) :
    Calls Tryz.prog 118 #[.slice A n c] w fun e w' => e = .returned (.bool (decide (0 < sizeI xs))) ∧ w = w' := by
  have hlen : xs.length = n := by have := hA.len; simpa using this
  have HA := hide hA
  have HLEN := hide hlen
  clear hA
  by_cases h1 : n < 1
  · have HS : Hid (decide (0 < sizeI xs) = false) := hide (by rw [sizeI, if_pos (by omega)]; rfl)
    clear hlen
    go_enter Tryz.func118, Tryz.ntmps118
    go_wp2
    go_ret
    exact ⟨by rw [HS.out]; rfl, rfl⟩
  · by_cases h4 : 4 < n
    · have HS : Hid (decide (0 < sizeI xs) = false) := hide (by rw [sizeI, if_pos (by omega)]; rfl)
      clear hlen
      go_enter Tryz.func118, Tryz.ntmps118
      go_wp2
      go_ret
      exact ⟨by rw [HS.out]; rfl, rfl⟩
    · have hn1 : (1 : Int) ≤ (n : Int) := by omega
      have hn4 : (n : Int) ≤ 4 := by omega
      clear hlen
      go_enter Tryz.func118, Tryz.ntmps118
      go_wp2
      go_loop [3, 4] (fun v i => ∃ k : Nat, k ≤ n ∧ i = .int .i64 k ∧ v = .int .i64 (prodZ (xs.take k)) ∧ Hid (AllDim (xs.take k))) (fun _ i => n - (intOf i).toNat)
      case atStart => exact ⟨0, Nat.zero_le _, rfl, rfl, hide (fun d hd => by cases hd)⟩
      case round =>
        obtain ⟨k, hk, rfl, rfl, HD⟩ := hrel
        have hp := prodZ_small (l := xs.take k) (by rw [List.length_take]; omega)
        have hp0 := prodZ_nonneg (xs.take k)
        obtain ⟨p, hpe⟩ : ∃ p, p = prodZ (xs.take k) := ⟨_, rfl⟩
        rw [← hpe] at hp hp0 ⊢
        have HP := hide hpe
        clear hpe
        by_cases hlt : k < n
        · obtain ⟨b, o, rfl, _, hx⟩ := byte_at HA.out (by omega)
          have hc := hx k hlt
          clear hx
          obtain ⟨x, hxe⟩ : ∃ x, x = xs.getD k 0 := ⟨_, rfl⟩
          rw [← hxe] at hc
          have HX := hide hxe
          clear hxe
          have f0 : (0 : Int) ≤ (k : Int) := by omega
          have f1 : (k : Int) < (n : Int) := by omega
          by_cases hx1 : x < 1
          · have HS : Hid (decide (0 < sizeI xs) = false) := hide (decide_eq_false (size_bad (k := k) (by rw [HLEN.out]; exact hlt) (by rw [← HX.out]; exact .inl hx1)))
            go_wp2
            go_ret
            exact ⟨by rw [HS.out]; rfl, rfl⟩
          · by_cases hx64 : 64 < x
            · have HS : Hid (decide (0 < sizeI xs) = false) := hide (decide_eq_false (size_bad (k := k) (by rw [HLEN.out]; exact hlt) (by rw [← HX.out]; exact .inr hx64)))
              go_wp2
              go_ret
              exact ⟨by rw [HS.out]; rfl, rfl⟩
            · have hz : dz x = x := by unfold dz; rw [if_neg (by omega)]
              have hm0 : 0 ≤ p * x := Int.mul_nonneg hp0 (by omega)
              have hm1 : p * x ≤ 16777216 * 64 := Int.mul_le_mul hp (by omega) (by omega) (by omega)
              have hw : IntKind.i64.wrap (p * x) = p * x := IntWalk.i64_in _ (by omega)
              have HN : Hid (prodZ (xs.take (k + 1)) = p * x) := hide (by rw [prodZ_take (by rw [HLEN.out]; exact hlt), ← HP.out, ← HX.out, hz])
              have HD2 : Hid (AllDim (xs.take (k + 1))) := hide (fun d hd => by
                rw [take_snoc (by rw [HLEN.out]; exact hlt)] at hd
                rcases List.mem_append.1 hd with hd | hd
                · exact HD.out d hd
                · simp at hd
                  have : d = x := by rw [HX.out]; simpa [List.getD] using hd
                  subst this
                  exact ⟨by omega, by omega, hz⟩)
              clear hm0 hm1 hz HD
              go_wp2
              go_round
              case rel => exact ⟨k + 1, by omega, by go_num, by rw [HN.out], HD2⟩
              case measure => simp [intOf]; omega
        · obtain rfl : k = n := by omega
          have hall : xs.take k = xs := List.take_of_length_le (by rw [HLEN.out]; exact Nat.le_refl _)
          have HS : Hid (decide (0 < sizeI xs) = decide (p ≤ 4096)) := hide (by
            have hd := HD.out
            have h2 := HP.out
            rw [hall] at hd h2
            have hpos := hd.pos
            rw [sizeI_all hd (by have := HLEN.out; omega) (by have := HLEN.out; omega), ← h2]
            by_cases hb : 4096 < p
            · rw [if_pos hb]
              simp
              omega
            · rw [if_neg hb]
              simp
              omega)
          clear hall
          go_wp2
          go_ret
          exact ⟨by rw [HS.out]; rfl, rfl⟩

set_option maxRecDepth 100000 in
set_option maxHeartbeats 1000000 in
theorem rsize_any (A : Option Addr) (n c : Nat) (xs : List Int) (w : World) (hA : Lies w A n (xs.map (Value.int .i64))) (hn : n ≤ 281474976710656) :
    Calls Tryz.prog 119 #[.slice A n c] w fun e w' => e = .returned (.int .i64 (sizeI xs)) ∧ w = w' := by
  have hlen : xs.length = n := by have := hA.len; simpa using this
  have HA := hide hA
  have HLEN := hide hlen
  clear hA hlen
  by_cases hs : 0 < sizeI xs
  · have HSZ := hide hs
    have hnn : n ≤ 4 := by have := (sizeI_pos hs).2.1; have := HLEN.out; omega
    clear hs
    go_enter Tryz.func119, Tryz.ntmps119
    go_wp2_with fail
    refine Calls.mono (rcheck_any A n c xs w HA.out hn) ?_
    rintro e _ ⟨rfl, rfl⟩
    rw [decide_eq_true HSZ.out]
    go_wp2
    go_loop [3, 4] (fun v i => ∃ k : Nat, k ≤ n ∧ i = .int .i64 k ∧ v = .int .i64 (prodZ (xs.take k))) (fun _ i => n - (intOf i).toNat)
    case atStart => exact ⟨0, Nat.zero_le _, rfl, rfl⟩
    case round =>
      obtain ⟨k, hk, rfl, rfl⟩ := hrel
      have hp := prodZ_small (l := xs.take k) (by rw [List.length_take]; omega)
      have hp0 := prodZ_nonneg (xs.take k)
      obtain ⟨p, hpe⟩ : ∃ p, p = prodZ (xs.take k) := ⟨_, rfl⟩
      rw [← hpe] at hp hp0 ⊢
      have HP := hide hpe
      clear hpe
      by_cases hlt : k < n
      · obtain ⟨b, o, rfl, _, hx⟩ := byte_at HA.out (by omega)
        have hc := hx k hlt
        clear hx
        have hd := (size_dims HSZ.out).at (k := k) (by rw [HLEN.out]; exact hlt)
        obtain ⟨x, hxe⟩ : ∃ x, x = xs.getD k 0 := ⟨_, rfl⟩
        rw [← hxe] at hc hd
        have HX := hide hxe
        have hz := hd.2.2
        have f0 : (0 : Int) ≤ (k : Int) := by omega
        have f1 : (k : Int) < (n : Int) := by omega
        have hm0 : 0 ≤ p * x := Int.mul_nonneg hp0 (by omega)
        have hm1 : p * x ≤ 16777216 * 64 := Int.mul_le_mul hp (by omega) (by omega) (by omega)
        have hw : IntKind.i64.wrap (p * x) = p * x := IntWalk.i64_in _ (by omega)
        have HN : Hid (prodZ (xs.take (k + 1)) = p * x) := hide (by rw [prodZ_take (by rw [HLEN.out]; exact hlt), ← HP.out, ← HX.out, hz])
        clear hm0 hm1 hz hd hxe
        go_wp2
        go_round
        case rel => exact ⟨k + 1, by omega, by go_num, by rw [HN.out]⟩
        case measure => simp [intOf]; omega
      · obtain rfl : k = n := by omega
        have HS : Hid (sizeI xs = p) := hide (by
          have h2 := HP.out
          rw [List.take_of_length_le (by rw [HLEN.out]; exact Nat.le_refl _)] at h2
          rw [(sizeI_pos HSZ.out).2.2, h2])
        go_wp2
        go_ret
        exact ⟨by rw [HS.out]; rfl, rfl⟩
  · have HSZ := hide hs
    have HZ : Hid (sizeI xs = 0) := hide (by have := sizeI_nonneg xs; omega)
    clear hs
    go_enter Tryz.func119, Tryz.ntmps119
    go_wp2_with fail
    refine Calls.mono (rcheck_any A n c xs w HA.out hn) ?_
    rintro e _ ⟨rfl, rfl⟩
    rw [show decide (0 < sizeI xs) = false by rw [HZ.out]; rfl]
    go_wp2
    go_ret
    exact ⟨by rw [HZ.out]; rfl, rfl⟩

end

section
open Go.RowKit
set_option linter.unusedVariables false
set_option linter.unusedSimpArgs false

set_option maxRecDepth 100000 in
set_option maxHeartbeats 2000000 in
theorem rindex_any (A B : Option Addr) (n c m cB : Nat) (xs ys : List Int) (w : World) (hA : Lies w A n (xs.map (Value.int .i64))) (hB : Lies w B m (ys.map (Value.int .i64))) (hn : n ≤ 281474976710656) (hm : m ≤ 281474976710656) :
    Calls Tryz.prog 124 #[.slice A n c, .slice B m cB] w fun e w' => e = .returned (.tuple #[.int .i64 (idxV xs ys), .int .i64 (idxE xs ys)]) ∧ Below w.heap.size w w' := by
  have hl1 : xs.length = n := by have := hA.len; simpa using this
  have hl2 : ys.length = m := by have := hB.len; simpa using this
  have HA := hide hA
  have HY := hide hB
  have HLEN : Hid (xs.length = n ∧ ys.length = m) := hide ⟨hl1, hl2⟩
  by_cases hs : 0 < sizeI xs
  · by_cases hmn : m = n
    · subst hmn
      have HSZ := hide hs
      have hnn : m ≤ 4 := by have := (sizeI_pos hs).2.1; omega
      have HBAD : Hid (∀ k, k < m → (ys.getD k 0 < 0 ∨ xs.getD k 0 ≤ ys.getD k 0) → idxV xs ys = 0 ∧ idxE xs ys = 1) := hide (fun k hk hb => by
        have : ¬ okAt xs ys = true := by
          intro ho
          unfold okAt at ho
          simp at ho
          have := allIn_at k ho.2.2 (by omega) (by omega)
          omega
        exact ⟨by rw [idxV, if_neg this], by rw [idxE, if_neg this]⟩)
      clear hA hB hl1 hl2 hs
      go_enter Tryz.func124, Tryz.ntmps124
      go_wp2_with fail
      refine Calls.mono (rcheck_any A m c xs w HA.out hn) ?_
      rintro e _ ⟨rfl, rfl⟩
      rw [decide_eq_true HSZ.out]
      go_wp2
      go_loopw [6, 7] (fun v i wr => ∃ k : Nat, k ≤ m ∧ i = .int .i64 k ∧ v = .int .i64 (valI (xs.take k) (ys.take k)) ∧ Hid (allIn (xs.take k) (ys.take k) = true) ∧ Hid (Below w.heap.size w wr)) (fun _ i _ => m - (intOf i).toNat)
      case atStart => exact ⟨0, Nat.zero_le _, rfl, rfl, hide rfl, hide (Below.refl _ _)⟩
      case round =>
        obtain ⟨k, hk, rfl, rfl, HIN, HW⟩ := hrel
        have hbd := valI_bound ((size_dims HSZ.out).take k) HIN.out
        have hp := prodZ_small (l := xs.take k) (by rw [List.length_take]; omega)
        obtain ⟨p, hpe⟩ : ∃ p, p = valI (xs.take k) (ys.take k) := ⟨_, rfl⟩
        rw [← hpe] at hbd ⊢
        have hpb : 0 ≤ p ∧ p ≤ 16777216 := by omega
        have HP := hide hpe
        clear hpe hbd hp
        by_cases hlt : k < m
        · obtain ⟨b, o, rfl, _, hx⟩ := byte_at (HA.out.below HW.out) (by omega)
          obtain ⟨b', o', rfl, _, hy⟩ := byte_at (HY.out.below HW.out) (by omega)
          have hc := hx k hlt
          have hcy := hy k hlt
          clear hx hy
          have hd := (size_dims HSZ.out).at (k := k) (by rw [HLEN.out.1]; exact hlt)
          obtain ⟨x, hxe⟩ : ∃ x, x = xs.getD k 0 := ⟨_, rfl⟩
          obtain ⟨y, hye⟩ : ∃ y, y = ys.getD k 0 := ⟨_, rfl⟩
          rw [← hxe] at hc hd
          rw [← hye] at hcy
          have HX := hide hxe
          have HYE := hide hye
          have f0 : (0 : Int) ≤ (k : Int) := by omega
          have f1 : (k : Int) < (m : Int) := by omega
          clear hxe hye
          by_cases hy0 : y < 0
          · have hd1 : decide (y < 0) = true := decide_eq_true hy0
            have HR := hide (HBAD.out k hlt (.inl (by rw [← HYE.out]; exact hy0)))
            clear hd hlt
            go_wp2
            go_quiet (fail)
            go_wp2
            go_ret2
            exact ⟨by rw [HR.out.1, HR.out.2]; rfl, by repeat (first | exact HW.out | refine below_drewN ?_ _)⟩
          · have hd1 : decide (y < 0) = false := decide_eq_false hy0
            have hy1 : 0 ≤ y := by omega
            by_cases hyx : x ≤ y
            · have hd2 : decide (x ≤ y) = true := decide_eq_true hyx
              have HR := hide (HBAD.out k hlt (.inr (by rw [← HYE.out, ← HX.out]; exact hyx)))
              clear hd hlt hy0
              go_wp2
              go_quiet (fail)
              go_wp2
              go_ret2
              exact ⟨by rw [HR.out.1, HR.out.2]; rfl, by repeat (first | exact HW.out | refine below_drewN ?_ _)⟩
            · have hd2 : decide (x ≤ y) = false := decide_eq_false hyx
              have hyx2 : y < x := by omega
              have hz := hd.2.2
              have hm0 : 0 ≤ p * x := Int.mul_nonneg hpb.1 (by omega)
              have hm1 : p * x ≤ 16777216 * 64 := Int.mul_le_mul hpb.2 (by omega) (by omega) (by omega)
              have hw1 : IntKind.i64.wrap (p * x) = p * x := IntWalk.i64_in _ (by omega)
              have hw2 : IntKind.i64.wrap (p * x + y) = p * x + y := IntWalk.i64_in _ (by omega)
              have HN : Hid (valI (xs.take (k + 1)) (ys.take (k + 1)) = p * x + y) := hide (by
                rw [take_snoc (by rw [HLEN.out.1]; exact hlt), take_snoc (by rw [HLEN.out.2]; exact hlt), valI_snoc _ _ (by simp [HLEN.out.1, HLEN.out.2]), ← HP.out, ← HX.out, ← HYE.out, hz])
              have HI2 : Hid (allIn (xs.take (k + 1)) (ys.take (k + 1)) = true) := hide (by
                rw [take_snoc (by rw [HLEN.out.1]; exact hlt), take_snoc (by rw [HLEN.out.2]; exact hlt), allIn_snoc _ _ (by simp [HLEN.out.1, HLEN.out.2]), HIN.out, ← HX.out, ← HYE.out, decide_eq_true hy1, decide_eq_true hyx2]
                rfl)
              clear hm0 hm1 hz hd hy0 hyx HIN
              go_wp2
              go_quiet (fail)
              go_wp2
              go_quiet (fail)
              go_wp2
              go_roundw
              case rel => exact ⟨k + 1, by omega, by go_num, by rw [HN.out], HI2, hide (by repeat (first | exact HW.out | refine below_drewN ?_ _))⟩
              case measure => simp [intOf]; omega
        · obtain rfl : k = m := by omega
          have HR : Hid (idxV xs ys = p ∧ idxE xs ys = 0) := hide (by
            have h1 := HP.out
            have h2 := HIN.out
            rw [List.take_of_length_le (by rw [HLEN.out.1]; exact Nat.le_refl _), List.take_of_length_le (by rw [HLEN.out.2]; exact Nat.le_refl _)] at h1 h2
            have ho : okAt xs ys = true := by
              unfold okAt
              rw [decide_eq_true HSZ.out, h2, HLEN.out.1, HLEN.out.2]
              simp
            exact ⟨by rw [idxV, if_pos ho, h1], by rw [idxE, if_pos ho]⟩)
          go_wp2
          go_ret2
          exact ⟨by rw [HR.out.1, HR.out.2]; rfl, HW.out⟩
    · have HR : Hid (idxV xs ys = 0 ∧ idxE xs ys = 1) := hide (by
        have : ¬ okAt xs ys = true := by
          unfold okAt
          rw [hl1, hl2]
          simp [hmn]
        exact ⟨by rw [idxV, if_neg this], by rw [idxE, if_neg this]⟩)
      have HSZ := hide hs
      have hne : ¬ (m : Int) = (n : Int) := by omega
      clear hA hB hl1 hl2 hs
      go_enter Tryz.func124, Tryz.ntmps124
      go_wp2_with fail
      refine Calls.mono (rcheck_any A n c xs w HA.out hn) ?_
      rintro e _ ⟨rfl, rfl⟩
      rw [decide_eq_true HSZ.out]
      go_wp2
      go_ret2
      exact ⟨by rw [HR.out.1, HR.out.2]; rfl, Below.refl _ _⟩
  · have HR : Hid (idxV xs ys = 0 ∧ idxE xs ys = 1) := hide (by
      have : ¬ okAt xs ys = true := by
        unfold okAt
        rw [decide_eq_false hs]
        simp
      exact ⟨by rw [idxV, if_neg this], by rw [idxE, if_neg this]⟩)
    have HSZ := hide (decide_eq_false hs)
    clear hA hB hl1 hl2 hs
    go_enter Tryz.func124, Tryz.ntmps124
    go_wp2_with fail
    refine Calls.mono (rcheck_any A n c xs w HA.out hn) ?_
    rintro e _ ⟨rfl, rfl⟩
    rw [HSZ.out]
    go_wp2
    go_ret2
    exact ⟨by rw [HR.out.1, HR.out.2]; rfl, Below.refl _ _⟩

end

section
open Go.RowKit
set_option linter.unusedVariables false
set_option linter.unusedSimpArgs false

set_option maxRecDepth 100000 in
set_option maxHeartbeats 400000 in
theorem rsame_ints (A B : Option Addr) (n c m d : Nat) (xs ys : List Int) (w : World) (h : Lies w A n (xs.map (Value.int .i64))) (k : Lies w B m (ys.map (Value.int .i64))) (hm : n ≤ 281474976710656) :
    Calls Tryz.prog 206 #[.slice A n c, .slice B m d] w fun e w' => e = .returned (.bool (decide (xs = ys))) ∧ ∃ j, w' = w.drewN j := by
  have hl1 : xs.length = n := by have := h.len; simpa using this
  have hl2 : ys.length = m := by have := k.len; simpa using this
  have HA := hide h
  have HB := hide k
  have HL1 := hide hl1
  have HL2 := hide hl2
  clear h k
  by_cases hnm : n = m
  · subst hnm
    clear hl1 hl2
    go_enter Tryz.func206, Tryz.ntmps206
    go_wp2
    go_loopw [5] (fun i wr => ∃ k : Nat, k ≤ n ∧ i = .int .i64 k ∧ Hid (xs.take k = ys.take k) ∧ ∃ j, wr = w.drewN j) (fun i _ => n - (intOf i).toNat)
    case atStart => exact ⟨0, Nat.zero_le _, rfl, hide rfl, 0, rfl⟩
    case round =>
      obtain ⟨k, hk, rfl, HT, j, rfl⟩ := hrel
      by_cases hlt : k < n
      · obtain ⟨b, o, rfl, _, hx⟩ := byte_at HA.out (by omega)
        obtain ⟨b', o', rfl, _, hy⟩ := byte_at HB.out (by omega)
        obtain ⟨z, hz⟩ : ∃ z, z = xs.getD k 0 := ⟨_, rfl⟩
        obtain ⟨u, hu⟩ : ∃ u, u = ys.getD k 0 := ⟨_, rfl⟩
        have h1 : w.cell? ⟨b, o + k, none⟩ = some (.int .i64 z) := by rw [hz]; exact hx k hlt
        have h2 : w.cell? ⟨b', o' + k, none⟩ = some (.int .i64 u) := by rw [hu]; exact hy k hlt
        have h0 : (0 : Int) ≤ (k : Int) := by omega
        have h3 : (k : Int) < (n : Int) := by omega
        have HZ := hide hz
        have HU := hide hu
        clear hx hy hz hu
        by_cases he : z = u
        · subst he
          have HN : Hid (xs.take (k + 1) = ys.take (k + 1)) := hide (take_more (by rw [HL1.out]; exact hlt) (by rw [HL2.out]; exact hlt) HT.out (by rw [← HZ.out, ← HU.out]))
          go_wp2
          go_quiet (fail)
          go_wp2
          go_roundw
          case rel => exact ⟨k + 1, by omega, by go_num, HN, _, rfl⟩
          case measure => simp [intOf]; omega
        · have HN : Hid (¬ xs = ys) := hide (by intro e; rw [HZ.out, HU.out, e] at he; exact he rfl)
          have hb1 : (z == u) = false := beq_eq_false_iff_ne.2 he
          go_wp2
          go_quiet (fail)
          go_wp2
          go_ret
          exact ⟨by rw [decide_eq_false HN.out]; rfl, _, World.drewN_drewN _ _ _⟩
      · obtain rfl : k = n := by omega
        have HE := hide (take_end HL1.out HL2.out HT.out)
        go_wp2
        go_ret
        exact ⟨by rw [decide_eq_true HE.out]; rfl, _, rfl⟩
  · have HN : Hid (¬ xs = ys) := hide (by intro e; rw [e] at hl1; omega)
    have hb1 : ((n : Int) == (m : Int)) = false := beq_eq_false_iff_ne.2 (by omega)
    clear hl1 hl2
    go_enter Tryz.func206, Tryz.ntmps206
    go_wp2
    go_ret
    exact ⟨by rw [decide_eq_false HN.out]; rfl, 0, rfl⟩

theorem quiet_of_still {f : FuncId} {args : Array Value} {w : World} {E : Ending} (h : Calls Tryz.prog f args w fun e w' => e = E ∧ w = w') :
    Calls Tryz.prog f args w fun e w' => e = E ∧ w' = w := h.mono fun _ _ ⟨a, b⟩ => ⟨a, b.symm⟩

theorem pick_decide {a b : Bool} : (a && b) = (if a = true then b else false) := by cases a <;> rfl

set_option maxHeartbeats 1000000 in
theorem rtcheck_any (A B : Option Addr) (n c m d : Nat) (s : List Int) (w : World) (hA : Lies w A n (s.map (Value.int .i64))) (hn : n ≤ 281474976710656) :
    Calls Tryz.prog 117 #[tenV A n c B m d] w fun e w' => e = .returned (.bool (tenOk s m)) ∧ Below w.heap.size w w' := by
  obtain ⟨W, hW⟩ : ∃ W, W = w.alloc (.cells #[.slice A n c, .slice B m d] 60) := ⟨_, rfl⟩
  have HX : Hid (BoxT W w.heap.size (.slice A n c) (.slice B m d)) := hide (by rw [hW]; exact BoxT.new w _ _)
  have HB : Hid (Below w.heap.size w W) := hide (by rw [hW]; exact (Below.refl w.heap.size w).alloc (Nat.le_refl _) _)
  have HA := hide (hA.below HB.out)
  have hW' := hW.symm
  clear hW hA
  have a0 := HX.out.c0
  have a1 := HX.out.c1
  by_cases h0 : 0 < sizeI s
  · have HD : Hid (decide (0 < sizeI s) = true) := hide (decide_eq_true h0)
    by_cases h1 : (m : Int) = sizeI s
    · have HT : Hid (tenOk s m = true) := hide (tenOk_iff.2 ⟨h0, h1.symm⟩)
      have HQ : Hid (sizeI s = (m : Int)) := hide h1.symm
      have HC1 : Hid (∀ k, Calls Tryz.prog 118 #[.slice A n c] (W.drewN k) fun e w' => e = .returned (.bool true) ∧ w' = W.drewN k) := hide (fun k => by have h := quiet_of_still (rcheck_any A n c s (W.drewN k) (HA.out.drewN k) hn); rw [HD.out] at h; exact h)
      have HC2 : Hid (∀ k, Calls Tryz.prog 119 #[.slice A n c] (W.drewN k) fun e w' => e = .returned (.int .i64 (m : Int)) ∧ w' = W.drewN k) := hide (fun k => by have h := quiet_of_still (rsize_any A n c s (W.drewN k) (HA.out.drewN k) hn); rw [HQ.out] at h; exact h)
      clear h0 h1
      go_enter Tryz.func117, Tryz.ntmps117
      go_wp2
      go_quiet ((first
        | (go_at_call 118; exact Calls.quiet_of_same (HC1.out _))
        | (go_at_call 119; exact Calls.quiet_of_same (HC2.out _))))
      go_wp2
      go_ret
      exact ⟨by rw [HT.out]; rfl, below_drewN HB.out _⟩
    · have HT : Hid (tenOk s m = false) := hide (by simp [tenOk, h0]; omega)
      have hq : ((m : Int) == sizeI s) = false := beq_eq_false_iff_ne.2 h1
      obtain ⟨z, hz⟩ : ∃ z, z = sizeI s := ⟨_, rfl⟩
      rw [← hz] at hq
      have HZ : Hid (sizeI s = z) := hide hz.symm
      have HC1 : Hid (∀ k, Calls Tryz.prog 118 #[.slice A n c] (W.drewN k) fun e w' => e = .returned (.bool true) ∧ w' = W.drewN k) := hide (fun k => by have h := quiet_of_still (rcheck_any A n c s (W.drewN k) (HA.out.drewN k) hn); rw [HD.out] at h; exact h)
      have HC2 : Hid (∀ k, Calls Tryz.prog 119 #[.slice A n c] (W.drewN k) fun e w' => e = .returned (.int .i64 z) ∧ w' = W.drewN k) := hide (fun k => by have h := quiet_of_still (rsize_any A n c s (W.drewN k) (HA.out.drewN k) hn); rw [HZ.out] at h; exact h)
      clear h0 h1 hz
      go_enter Tryz.func117, Tryz.ntmps117
      go_wp2
      go_quiet ((first
        | (go_at_call 118; exact Calls.quiet_of_same (HC1.out _))
        | (go_at_call 119; exact Calls.quiet_of_same (HC2.out _))))
      go_wp2
      go_ret
      exact ⟨by rw [HT.out]; rfl, below_drewN HB.out _⟩
  · have HD : Hid (decide (0 < sizeI s) = false) := hide (decide_eq_false h0)
    have HT : Hid (tenOk s m = false) := hide (by simp [tenOk, h0])
    have HC1 : Hid (∀ k, Calls Tryz.prog 118 #[.slice A n c] (W.drewN k) fun e w' => e = .returned (.bool false) ∧ w' = W.drewN k) := hide (fun k => by have h := quiet_of_still (rcheck_any A n c s (W.drewN k) (HA.out.drewN k) hn); rw [HD.out] at h; exact h)
    clear h0
    go_enter Tryz.func117, Tryz.ntmps117
    go_wp2
    go_quiet ((first
      | (go_at_call 118; exact Calls.quiet_of_same (HC1.out _))))
    go_wp2
    go_ret
    exact ⟨by rw [HT.out]; rfl, below_drewN HB.out _⟩

set_option maxHeartbeats 800000 in
theorem rtnew_err (A : Option Addr) (n c : Nat) (s : List Int) (w : World) (h : Lies w A n (s.map (Value.int .i64))) (hn : n ≤ 281474976710656) (hs : ¬ 0 < sizeI s) :
    Calls Tryz.prog 121 #[.slice A n c] w fun e w' => e = .returned (.tuple #[tenV none 0 0 none 0 0, .int .i64 1]) ∧ Below w.heap.size w w' := by
  have HA := hide h
  have HD : Hid (decide (0 < sizeI s) = false) := hide (decide_eq_false hs)
  have HBX := hide (BoxT.new w (.slice none 0 0) (.slice none 0 0))
  have HBB := hide ((((Below.refl w.heap.size w).alloc (Nat.le_refl _) (.cells #[.slice none 0 0, .slice none 0 0] 60))))
  clear h hs
  go_enter Tryz.func121, Tryz.ntmps121
  go_wp2_with fail
  refine Calls.mono (rcheck_any A n c s _ (HA.out.alloc _) hn) ?_
  rintro e w2 ⟨rfl, rfl⟩
  rw [HD.out]
  go_wp2_with (refine wpList_store_row rfl 60 _ _ rfl w.heap.size #[.slice none 0 0, .slice none 0 0] rfl rfl 60 _ HBX.out sizeT rfl (by simp [Value.oneCell']) ?_)
  (try simp only [Exit.inBlock, Exit.then])
  refine ret_ten (p := 2) (u := 3) rfl rfl w.heap.size _ rfl (HBX.out.set _ _) rfl ?_
  exact ⟨rfl, below_setRow HBB.out (Nat.le_refl _) _⟩

set_option maxHeartbeats 800000 in
theorem rtnew_ok (A : Option Addr) (n c q : Nat) (s : List Int) (w : World) (h : Lies w A n (s.map (Value.int .i64))) (hnil : A = none → c = 0) (hq : sizeI s = (q : Int)) (hp : 0 < q) :
    Calls Tryz.prog 121 #[.slice A n c] w fun e w' => ∃ A1 c1 g2, e = .returned (.tuple #[tenV A1 n c1 (some ⟨g2, 0, none⟩) q q, .int .i64 0]) ∧
      Lies w' A1 n (s.map (Value.int .i64)) ∧ Lies w' (some ⟨g2, 0, none⟩) q ((List.replicate q (0 : Int)).map (Value.int .i32)) ∧ Below w.heap.size w w' := by
  have hlen : s.length = n := by have := h.len; simpa using this
  obtain ⟨hn1, hn4, _⟩ := sizeI_pos (xs := s) (by omega)
  rw [hlen] at hn1 hn4
  have hq4 := sizeI_le s
  have HA := hide h
  have HD : Hid (decide (0 < sizeI s) = true) := hide (decide_eq_true (by omega))
  have HQ := hide hq
  have HNIL := hide hnil
  obtain ⟨i0, hi, hz0, hz1, hz2⟩ := info_parts Tryz.infoI
  have HI := hide hi
  have HZ0 := hide hz0
  have HZ1 := hide hz1
  have HZ2 := hide hz2
  clear h hq hlen hi hz0 hz1 hz2 hnil
  obtain ⟨W, hW⟩ : ∃ W, W = w.alloc (.cells #[.slice none 0 0, .slice none 0 0] 60) := ⟨_, rfl⟩
  have HBX : Hid (BoxT W w.heap.size (.slice none 0 0) (.slice none 0 0)) := hide (by rw [hW]; exact BoxT.new w _ _)
  have HBB : Hid (Below w.heap.size w W) := hide (by rw [hW]; exact (Below.refl w.heap.size w).alloc (Nat.le_refl _) _)
  have hW' := hW.symm
  clear hW
  go_enter Tryz.func121, Tryz.ntmps121
  go_wp2_with fail
  refine Calls.mono (rcheck_any A n c s _ (HA.out.below HBB.out) (by omega)) ?_
  rintro e w2 ⟨rfl, rfl⟩
  rw [HD.out]
  go_wp2_with (at_builtin; with_reducible refine wpList_append_nil rfl (.const (.slice none 0 0)) (.tmp 8) 31 rfl 3 i0 (.int .i64 0) 8 Tryz.underlying31 HI.out HZ0.out HZ1.out HZ2.out rfl rfl A n c .i64 s rfl (HA.out.below HBB.out) HNIL.out (by omega) (by unfold maxLen; omega) ?_)
  intro A1 c1 w3 ho1 hb3
  have hs23 := hb3.size
  have HBX3 := hide (HBX.out.kept hb3)
  have hlt3 := HBX.out.lt
  have HB3 := hide (HBB.out.trans (hb3.mono HBB.out.size))
  have HO1 := hide ho1
  clear ho1 hb3 HBX
  go_wp2_with fail
  refine Calls.mono (rsize_any A n c s w3 (HA.out.below HB3.out) (by omega)) ?_
  rintro e w4 ⟨rfl, rfl⟩
  have hsz := HB3.out.size
  rw [HQ.out]
  have hmk := make_nums [] (q : Int) q rfl (by have := HQ.out; omega) w3
  have HBX5 := hide (HBX3.out.alloc (.cells (part [] q 0).toArray 21))
  have hmk5 := heap_alloc_new w3 (.cells (part [] q 0).toArray 21)
  have HMK := hide hmk5
  clear HBX3 hmk5
  go_wp2_with (refine wpList_store_row rfl 60 _ _ rfl w.heap.size #[.slice A1 n c1, .slice (some ⟨w3.heap.size, 0, none⟩) q q] rfl rfl 60 _ HBX5.out sizeT rfl (by simp [Value.oneCell']) ?_)
  (try simp only [Exit.inBlock, Exit.then])
  refine ret_ten (p := 2) (u := 3) rfl rfl w.heap.size _ rfl (HBX5.out.set _ _) rfl ?_
  refine ⟨A1, c1, w3.heap.size, rfl, ?_, ?_, below_setRow (HB3.out.alloc (by omega) _) (Nat.le_refl _) _⟩
  · exact lies_of_own (own_setRow (HO1.out.alloc _) hlt3 _)
  · have h0 : World.ownsRow (w3.alloc (.cells (part [] q 0).toArray 21)) w3.heap.size 21 1 (.slice (some ⟨w3.heap.size, 0, none⟩) q q) q (List.replicate q (.int .i32 0)) := own_of_block (Nat.le_refl _) HMK.out (by rw [part_none]; simp) (Nat.le_refl _) (by unfold maxLen; have := HQ.out; omega) (by rw [part_none]; simp)
    have hne : w.heap.size ≠ w3.heap.size := by omega
    rw [List.map_replicate]
    exact lies_of_own (own_setRow h0 (by omega) _)

/-- What At answers: a number and an error. -/
def atV (s l ys : List Int) (m : Nat) : Int := if tenOk s m = true ∧ okAt s ys = true then l.getD (valI s ys).toNat 0 else 0

def atE (s ys : List Int) (m : Nat) : Int := if tenOk s m = true ∧ okAt s ys = true then 0 else 1

end

end Go.Proofs.YtomhbhhfbbdilaaGreatDoor
