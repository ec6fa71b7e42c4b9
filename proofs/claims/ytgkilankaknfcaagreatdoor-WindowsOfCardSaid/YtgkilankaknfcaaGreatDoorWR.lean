/- Merged: ShapeIdx, Ref04, Ref04b, Ref05, Ref08, Ref08b. -/
import Derived.Test.YtgkilankaknfcaaGreatDoorWA
import Derived.Deep.QuietTactic
import Derived.BigQuiet
import Derived.Test.YtgkilankaknfcaaGreatDoorWB
import Derived.Test.YtgkilankaknfcaaGreatDoorWC
namespace Go.Proofs.YtgkilankaknfcaaGreatDoor

section
open Go.RowKit
set_option linter.unusedVariables false
set_option linter.unusedSimpArgs false

/-- Index's two answers. -/
def idxV (xs ys : List Int) : Int := if okAt xs ys = true then valI xs ys else 0

def idxE (xs ys : List Int) : Int := if okAt xs ys = true then 0 else 1

theorem take_snoc {xs : List Int} {k : Nat} (h : k < xs.length) : xs.take (k + 1) = xs.take k ++ [xs.getD k 0] := by
  have e : xs.getD k 0 = xs[k] := by simp [List.getD, h]
  rw [List.take_succ_eq_append_getElem h, ← e]

theorem prodZ_take {xs : List Int} {k : Nat} (h : k < xs.length) : prodZ (xs.take (k + 1)) = prodZ (xs.take k) * dz (xs.getD k 0) := by
  rw [take_snoc h, prodZ_append, show prodZ [xs.getD k 0] = dz (xs.getD k 0) by simp [prodZ]]

theorem allIn_snoc : ∀ {a b : List Int} (x y : Int), a.length = b.length → allIn (a ++ [x]) (b ++ [y]) = (allIn a b && (decide (0 ≤ y) && decide (y < x)))
  | [], [], x, y, _ => by simp [allIn]
  | [], _ :: _, _, _, h => by simp at h
  | _ :: _, [], _, _, h => by simp at h
  | p :: a, q :: b, x, y, h => by
    simp only [List.cons_append, allIn]
    rw [allIn_snoc x y (by simpa using h)]
    cases allIn a b <;> cases decide (0 ≤ y) <;> cases decide (y < x) <;> cases decide (0 ≤ q) <;> cases decide (q < p) <;> rfl

theorem valI_snoc : ∀ {a b : List Int} (x y : Int), a.length = b.length → valI (a ++ [x]) (b ++ [y]) = valI a b * dz x + y
  | [], [], x, y, _ => by simp [valI, prodZ]
  | [], _ :: _, _, _, h => by simp at h
  | _ :: _, [], _, _, h => by simp at h
  | p :: a, q :: b, x, y, h => by
    simp only [List.cons_append, valI]
    rw [valI_snoc x y (by simpa using h), prodZ_append, show prodZ [x] = dz x by simp [prodZ], Int.add_mul, Int.mul_right_comm (prodZ a) q]
    omega

theorem size_bad {xs : List Int} {k : Nat} (h : k < xs.length) (hx : xs.getD k 0 < 1 ∨ 64 < xs.getD k 0) : ¬ 0 < sizeI xs := by
  intro hs
  have := (size_dims hs).at h
  omega

theorem AllDim.take {xs : List Int} (h : AllDim xs) (k : Nat) : AllDim (xs.take k) := fun d hd => h d (List.mem_of_mem_take hd)

theorem sizeI_all {xs : List Int} (h : AllDim xs) (h1 : 1 ≤ xs.length) (h4 : xs.length ≤ 4) : sizeI xs = if 4096 < prodZ xs then 0 else prodZ xs := by
  rw [sizeI, if_neg (by omega)]

end

section
open Go.RowKit
set_option linter.unusedVariables false
set_option linter.unusedSimpArgs false

set_option maxRecDepth 100000 in
set_option maxHeartbeats 1000000 in
theorem rcheck_any (A : Option Addr) (n c : Nat) (xs : List Int) (w : World) (hA : Lies w A n (xs.map (Value.int .i64))) (hn : n ≤ 281474976710656) :
    Calls Tryz.prog 34 #[.slice A n c] w fun e w' => e = .returned (.bool (decide (0 < sizeI xs))) ∧ w = w' := by
  have hlen : xs.length = n := by have := hA.len; simpa using this
  have HA := hide hA
  have HLEN := hide hlen
  clear hA
  by_cases h1 : n < 1
  · have HS : Hid (decide (0 < sizeI xs) = false) := hide (by rw [sizeI, if_pos (by omega)]; rfl)
    clear hlen
    go_enter Tryz.func34, Tryz.ntmps34
    go_wp2
    go_ret
    exact ⟨by rw [HS.out]; rfl, rfl⟩
  · by_cases h4 : 4 < n
    · have HS : Hid (decide (0 < sizeI xs) = false) := hide (by rw [sizeI, if_pos (by omega)]; rfl)
      clear hlen
      go_enter Tryz.func34, Tryz.ntmps34
      go_wp2
      go_ret
      exact ⟨by rw [HS.out]; rfl, rfl⟩
    · have hn1 : (1 : Int) ≤ (n : Int) := by omega
      have hn4 : (n : Int) ≤ 4 := by omega
      clear hlen
      go_enter Tryz.func34, Tryz.ntmps34
      go_wp2
      go_loop [3, 4] (fun v i => ∃ k : Nat, k ≤ n ∧ i = .int .i64 k ∧ v = .int .i64 (prodZ (xs.take k)) ∧ Hid (AllDim (xs.take k))) (fun _ i => n - (intOf i).toNat)
      case atStart => exact ⟨0, Nat.zero_le _, rfl, rfl, hide (fun d hd => by cases hd)⟩
      case round =>
        obtain ⟨k, hk, rfl, rfl, HD⟩ := hrel
        have hp := prodZ_small (l := xs.take k) (by rw [List.length_take]; omega)
        have hp0 := prodZ_nonneg (xs.take k)
        obtain ⟨p, hpe⟩ : ∃ p, p = prodZ (xs.take k) := ⟨_, rfl⟩
        rw [← hpe] at hp hp0 ⊢
        have HP := hide hpe
        clear hpe
        by_cases hlt : k < n
        · obtain ⟨b, o, rfl, _, hx⟩ := byte_at HA.out (by omega)
          have hc := hx k hlt
          clear hx
          obtain ⟨x, hxe⟩ : ∃ x, x = xs.getD k 0 := ⟨_, rfl⟩
          rw [← hxe] at hc
          have HX := hide hxe
          clear hxe
          have f0 : (0 : Int) ≤ (k : Int) := by omega
          have f1 : (k : Int) < (n : Int) := by omega
          by_cases hx1 : x < 1
          · have HS : Hid (decide (0 < sizeI xs) = false) := hide (decide_eq_false (size_bad (k := k) (by rw [HLEN.out]; exact hlt) (by rw [← HX.out]; exact .inl hx1)))
            go_wp2
            go_ret
            exact ⟨by rw [HS.out]; rfl, rfl⟩
          · by_cases hx64 : 64 < x
            · have HS : Hid (decide (0 < sizeI xs) = false) := hide (decide_eq_false (size_bad (k := k) (by rw [HLEN.out]; exact hlt) (by rw [← HX.out]; exact .inr hx64)))
              go_wp2
              go_ret
              exact ⟨by rw [HS.out]; rfl, rfl⟩
            · have hz : dz x = x := by unfold dz; rw [if_neg (by omega)]
              have hm0 : 0 ≤ p * x := Int.mul_nonneg hp0 (by omega)
              have hm1 : p * x ≤ 16777216 * 64 := Int.mul_le_mul hp (by omega) (by omega) (by omega)
              have hw : IntKind.i64.wrap (p * x) = p * x := IntWalk.i64_in _ (by omega)
              have HN : Hid (prodZ (xs.take (k + 1)) = p * x) := hide (by rw [prodZ_take (by rw [HLEN.out]; exact hlt), ← HP.out, ← HX.out, hz])
              have HD2 : Hid (AllDim (xs.take (k + 1))) := hide (fun d hd => by
                rw [take_snoc (by rw [HLEN.out]; exact hlt)] at hd
                rcases List.mem_append.1 hd with hd | hd
                · exact HD.out d hd
                · simp at hd
                  have : d = x := by rw [HX.out]; simpa [List.getD] using hd
                  subst this
                  exact ⟨by omega, by omega, hz⟩)
              clear hm0 hm1 hz HD
              go_wp2
              go_round
              case rel => exact ⟨k + 1, by omega, by go_num, by rw [HN.out], HD2⟩
              case measure => simp [intOf]; omega
        · obtain rfl : k = n := by omega
          have hall : xs.take k = xs := List.take_of_length_le (by rw [HLEN.out]; exact Nat.le_refl _)
          have HS : Hid (decide (0 < sizeI xs) = decide (p ≤ 4096)) := hide (by
            have hd := HD.out
            have h2 := HP.out
            rw [hall] at hd h2
            have hpos := hd.pos
            rw [sizeI_all hd (by have := HLEN.out; omega) (by have := HLEN.out; omega), ← h2]
            by_cases hb : 4096 < p
            · rw [if_pos hb]
              simp
              omega
            · rw [if_neg hb]
              simp
              omega)
          clear hall
          go_wp2
          go_ret
          exact ⟨by rw [HS.out]; rfl, rfl⟩

set_option maxRecDepth 100000 in
set_option maxHeartbeats 1000000 in
theorem rsize_any (A : Option Addr) (n c : Nat) (xs : List Int) (w : World) (hA : Lies w A n (xs.map (Value.int .i64))) (hn : n ≤ 281474976710656) :
    Calls Tryz.prog 91 #[.slice A n c] w fun e w' => e = .returned (.int .i64 (sizeI xs)) ∧ w = w' := by
  have hlen : xs.length = n := by have := hA.len; simpa using this
  have HA := hide hA
  have HLEN := hide hlen
  clear hA hlen
  by_cases hs : 0 < sizeI xs
  · have HSZ := hide hs
    have hnn : n ≤ 4 := by have := (sizeI_pos hs).2.1; have := HLEN.out; omega
    clear hs
    go_enter Tryz.func91, Tryz.ntmps91
    go_wp2_with fail
    refine Calls.mono (rcheck_any A n c xs w HA.out hn) ?_
    rintro e _ ⟨rfl, rfl⟩
    rw [decide_eq_true HSZ.out]
    go_wp2
    go_loop [3, 4] (fun v i => ∃ k : Nat, k ≤ n ∧ i = .int .i64 k ∧ v = .int .i64 (prodZ (xs.take k))) (fun _ i => n - (intOf i).toNat)
    case atStart => exact ⟨0, Nat.zero_le _, rfl, rfl⟩
    case round =>
      obtain ⟨k, hk, rfl, rfl⟩ := hrel
      have hp := prodZ_small (l := xs.take k) (by rw [List.length_take]; omega)
      have hp0 := prodZ_nonneg (xs.take k)
      obtain ⟨p, hpe⟩ : ∃ p, p = prodZ (xs.take k) := ⟨_, rfl⟩
      rw [← hpe] at hp hp0 ⊢
      have HP := hide hpe
      clear hpe
      by_cases hlt : k < n
      · obtain ⟨b, o, rfl, _, hx⟩ := byte_at HA.out (by omega)
        have hc := hx k hlt
        clear hx
        have hd := (size_dims HSZ.out).at (k := k) (by rw [HLEN.out]; exact hlt)
        obtain ⟨x, hxe⟩ : ∃ x, x = xs.getD k 0 := ⟨_, rfl⟩
        rw [← hxe] at hc hd
        have HX := hide hxe
        have hz := hd.2.2
        have f0 : (0 : Int) ≤ (k : Int) := by omega
        have f1 : (k : Int) < (n : Int) := by omega
        have hm0 : 0 ≤ p * x := Int.mul_nonneg hp0 (by omega)
        have hm1 : p * x ≤ 16777216 * 64 := Int.mul_le_mul hp (by omega) (by omega) (by omega)
        have hw : IntKind.i64.wrap (p * x) = p * x := IntWalk.i64_in _ (by omega)
        have HN : Hid (prodZ (xs.take (k + 1)) = p * x) := hide (by rw [prodZ_take (by rw [HLEN.out]; exact hlt), ← HP.out, ← HX.out, hz])
        clear hm0 hm1 hz hd hxe
        go_wp2
        go_round
        case rel => exact ⟨k + 1, by omega, by go_num, by rw [HN.out]⟩
        case measure => simp [intOf]; omega
      · obtain rfl : k = n := by omega
        have HS : Hid (sizeI xs = p) := hide (by
          have h2 := HP.out
          rw [List.take_of_length_le (by rw [HLEN.out]; exact Nat.le_refl _)] at h2
          rw [(sizeI_pos HSZ.out).2.2, h2])
        go_wp2
        go_ret
        exact ⟨by rw [HS.out]; rfl, rfl⟩
  · have HSZ := hide hs
    have HZ : Hid (sizeI xs = 0) := hide (by have := sizeI_nonneg xs; omega)
    clear hs
    go_enter Tryz.func91, Tryz.ntmps91
    go_wp2_with fail
    refine Calls.mono (rcheck_any A n c xs w HA.out hn) ?_
    rintro e _ ⟨rfl, rfl⟩
    rw [show decide (0 < sizeI xs) = false by rw [HZ.out]; rfl]
    go_wp2
    go_ret
    exact ⟨by rw [HZ.out]; rfl, rfl⟩

end

section
open Go.RowKit
set_option linter.unusedVariables false
set_option linter.unusedSimpArgs false

end

section
open Go.RowKit
set_option linter.unusedVariables false
set_option linter.unusedSimpArgs false

theorem quiet_of_still {f : FuncId} {args : Array Value} {w : World} {E : Ending} (h : Calls Tryz.prog f args w fun e w' => e = E ∧ w = w') :
    Calls Tryz.prog f args w fun e w' => e = E ∧ w' = w := h.mono fun _ _ ⟨a, b⟩ => ⟨a, b.symm⟩

theorem pick_decide {a b : Bool} : (a && b) = (if a = true then b else false) := by cases a <;> rfl

set_option maxHeartbeats 1000000 in
theorem rtcheck_any (A B : Option Addr) (n c m d : Nat) (s : List Int) (w : World) (hA : Lies w A n (s.map (Value.int .i64))) (hn : n ≤ 281474976710656) :
    Calls Tryz.prog 30 #[tenV A n c B m d] w fun e w' => e = .returned (.bool (tenOk s m)) ∧ Below w.heap.size w w' := by
  obtain ⟨W, hW⟩ : ∃ W, W = w.alloc (.cells #[.slice A n c, .slice B m d] 25) := ⟨_, rfl⟩
  have HX : Hid (BoxT W w.heap.size (.slice A n c) (.slice B m d)) := hide (by rw [hW]; exact BoxT.new w _ _)
  have HB : Hid (Below w.heap.size w W) := hide (by rw [hW]; exact (Below.refl w.heap.size w).alloc (Nat.le_refl _) _)
  have HA := hide (hA.below HB.out)
  have hW' := hW.symm
  clear hW hA
  have a0 := HX.out.c0
  have a1 := HX.out.c1
  by_cases h0 : 0 < sizeI s
  · have HD : Hid (decide (0 < sizeI s) = true) := hide (decide_eq_true h0)
    by_cases h1 : (m : Int) = sizeI s
    · have HT : Hid (tenOk s m = true) := hide (tenOk_iff.2 ⟨h0, h1.symm⟩)
      have HQ : Hid (sizeI s = (m : Int)) := hide h1.symm
      have HC1 : Hid (∀ k, Calls Tryz.prog 34 #[.slice A n c] (W.drewN k) fun e w' => e = .returned (.bool true) ∧ w' = W.drewN k) := hide (fun k => by have h := quiet_of_still (rcheck_any A n c s (W.drewN k) (HA.out.drewN k) hn); rw [HD.out] at h; exact h)
      have HC2 : Hid (∀ k, Calls Tryz.prog 91 #[.slice A n c] (W.drewN k) fun e w' => e = .returned (.int .i64 (m : Int)) ∧ w' = W.drewN k) := hide (fun k => by have h := quiet_of_still (rsize_any A n c s (W.drewN k) (HA.out.drewN k) hn); rw [HQ.out] at h; exact h)
      clear h0 h1
      go_enter Tryz.func30, Tryz.ntmps30
      go_wp2
      go_quiet ((first
        | (go_at_call 34; exact Calls.quiet_of_same (HC1.out _))
        | (go_at_call 91; exact Calls.quiet_of_same (HC2.out _))))
      go_wp2
      go_ret
      exact ⟨by rw [HT.out]; rfl, below_drewN HB.out _⟩
    · have HT : Hid (tenOk s m = false) := hide (by simp [tenOk, h0]; omega)
      have hq : ((m : Int) == sizeI s) = false := beq_eq_false_iff_ne.2 h1
      obtain ⟨z, hz⟩ : ∃ z, z = sizeI s := ⟨_, rfl⟩
      rw [← hz] at hq
      have HZ : Hid (sizeI s = z) := hide hz.symm
      have HC1 : Hid (∀ k, Calls Tryz.prog 34 #[.slice A n c] (W.drewN k) fun e w' => e = .returned (.bool true) ∧ w' = W.drewN k) := hide (fun k => by have h := quiet_of_still (rcheck_any A n c s (W.drewN k) (HA.out.drewN k) hn); rw [HD.out] at h; exact h)
      have HC2 : Hid (∀ k, Calls Tryz.prog 91 #[.slice A n c] (W.drewN k) fun e w' => e = .returned (.int .i64 z) ∧ w' = W.drewN k) := hide (fun k => by have h := quiet_of_still (rsize_any A n c s (W.drewN k) (HA.out.drewN k) hn); rw [HZ.out] at h; exact h)
      clear h0 h1 hz
      go_enter Tryz.func30, Tryz.ntmps30
      go_wp2
      go_quiet ((first
        | (go_at_call 34; exact Calls.quiet_of_same (HC1.out _))
        | (go_at_call 91; exact Calls.quiet_of_same (HC2.out _))))
      go_wp2
      go_ret
      exact ⟨by rw [HT.out]; rfl, below_drewN HB.out _⟩
  · have HD : Hid (decide (0 < sizeI s) = false) := hide (decide_eq_false h0)
    have HT : Hid (tenOk s m = false) := hide (by simp [tenOk, h0])
    have HC1 : Hid (∀ k, Calls Tryz.prog 34 #[.slice A n c] (W.drewN k) fun e w' => e = .returned (.bool false) ∧ w' = W.drewN k) := hide (fun k => by have h := quiet_of_still (rcheck_any A n c s (W.drewN k) (HA.out.drewN k) hn); rw [HD.out] at h; exact h)
    clear h0
    go_enter Tryz.func30, Tryz.ntmps30
    go_wp2
    go_quiet ((first
      | (go_at_call 34; exact Calls.quiet_of_same (HC1.out _))))
    go_wp2
    go_ret
    exact ⟨by rw [HT.out]; rfl, below_drewN HB.out _⟩

/-- What At answers: a number and an error. -/
def atV (s l ys : List Int) (m : Nat) : Int := if tenOk s m = true ∧ okAt s ys = true then l.getD (valI s ys).toNat 0 else 0

def atE (s ys : List Int) (m : Nat) : Int := if tenOk s m = true ∧ okAt s ys = true then 0 else 1

end

section
open Go.RowKit
set_option linter.unusedVariables false
set_option linter.unusedSimpArgs false
set_option maxRecDepth 100000

theorem rcheck8_any (A : Option Addr) (n c : Nat) (xs : List Int) (w : World) (hA : Lies w A n (xs.map (Value.int .i64))) (hn : n ≤ 281474976710656) :
    Calls Tryz.prog 34 #[.slice A n c] w fun e w' => e = .returned (.bool (decide (0 < sizeI xs))) ∧ Below w.heap.size w w' :=
  (rcheck_any A n c xs w hA hn).mono fun e w' h => ⟨h.1, by rw [← h.2]; exact Below.refl _ _⟩

set_option maxHeartbeats 1000000 in
theorem rat8_any (A B : Option Addr) (c m d k C H V : Nat) (l : List Int) (r s : Int) (w : World) (hA : Lies w A 3 (([(C : Int), (H : Int), (V : Int)] : List Int).map (Value.int .i64))) (hB : Lies w B m (l.map (Value.int .i32)))
    (hC : C ≤ 64) (hH : H ≤ 64) (hV : V ≤ 64) (hm : C * H * V ≤ m) (hk : k < C) (hr1 : -200000 ≤ r ∧ r ≤ 200000) (hs1 : -200000 ≤ s ∧ s ≤ 200000) :
    Calls Tryz.prog 31 #[tenV A 3 c B m d, .int .i64 (k : Int), .int .i64 r, .int .i64 s] w fun e w' => e = .returned (.int .i32 (numAt l H V k r s)) ∧ Below w.heap.size w w' := by
  obtain ⟨b1, o1, rfl, hb1, hx1⟩ := byte_at hA (by omega)
  have hk1 := hx1 1 (by omega)
  have hk2 := hx1 2 (by omega)
  simp only [List.getD_cons_zero, List.getD_cons_succ] at hk1 hk2
  clear hx1 hA
  obtain ⟨W0, hW0⟩ : ∃ W0, W0 = w.alloc (.cells #[.slice (some ⟨b1, o1, none⟩) 3 c, .slice B m d] 25) := ⟨_, rfl⟩
  have HB0 : Hid (Below w.heap.size w W0) := hide (by rw [hW0]; exact (Below.refl w.heap.size w).alloc (Nat.le_refl _) _)
  have HX : Hid (BoxT W0 w.heap.size (.slice (some ⟨b1, o1, none⟩) 3 c) (.slice B m d)) := hide (by rw [hW0]; exact BoxT.new w _ _)
  have c0 := HX.out.c0
  have c1 := HX.out.c1
  have hk1' : W0.cell? ⟨b1, o1 + 1, none⟩ = some (.int .i64 (H : Int)) := (HB0.out.cell (p := ⟨b1, o1 + 1, none⟩) hb1).trans hk1
  have hk2' : W0.cell? ⟨b1, o1 + 2, none⟩ = some (.int .i64 (V : Int)) := (HB0.out.cell (p := ⟨b1, o1 + 2, none⟩) hb1).trans hk2
  clear hk1 hk2
  have hW0' := hW0.symm
  clear hW0
  by_cases hin : 0 ≤ r ∧ r < (H : Int) ∧ 0 ≤ s ∧ s < (V : Int)
  · rw [numAt_in hin]
    obtain ⟨i1, i2, i3, i4⟩ := hin
    obtain ⟨R, rfl⟩ := Int.eq_ofNat_of_zero_le i1
    obtain ⟨S, rfl⟩ := Int.eq_ofNat_of_zero_le i3
    simp only [Int.toNat_natCast]
    obtain ⟨q, hq⟩ : ∃ q, q = (k * H + R) * V + S := ⟨_, rfl⟩
    have hpl := place3_lt hk (show R < H by omega) (show S < V by omega)
    rw [← hq] at hpl ⊢
    have hqm : q < m := by omega
    obtain ⟨b2, o2, rfl, hb2, hx2⟩ := byte_at hB (by omega)
    obtain ⟨z, hz⟩ : ∃ z, z = l.getD q 0 := ⟨_, rfl⟩
    rw [← hz]
    have hc2 : W0.cell? ⟨b2, o2 + q, none⟩ = some (.int .i32 z) := (HB0.out.cell (p := ⟨b2, o2 + q, none⟩) hb2).trans (by rw [hz]; exact hx2 q hqm)
    obtain ⟨u1, hu1⟩ : ∃ u, u = k * H := ⟨_, rfl⟩
    obtain ⟨u2, hu2⟩ : ∃ u, u = u1 + R := ⟨_, rfl⟩
    obtain ⟨u3, hu3⟩ : ∃ u, u = u2 * V := ⟨_, rfl⟩
    have hKH : k * H ≤ 4096 := by have := Nat.mul_le_mul (show k ≤ 64 by omega) hH; omega
    have hu3' : u2 * V ≤ 4160 * 64 := Nat.mul_le_mul (by omega) hV
    have n1 : IntKind.i64.wrap ((k : Int) * (H : Int)) = (u1 : Int) := by rw [hu1, Int.natCast_mul, IntKind.wrap_i64, ← Int.natCast_mul]; omega
    have n2 : IntKind.i64.wrap ((u1 : Int) + (R : Int)) = (u2 : Int) := by rw [hu2, IntKind.wrap_i64]; omega
    have n3 : IntKind.i64.wrap ((u2 : Int) * (V : Int)) = (u3 : Int) := by rw [hu3, Int.natCast_mul, IntKind.wrap_i64, ← Int.natCast_mul]; omega
    have n4 : IntKind.i64.wrap ((u3 : Int) + (S : Int)) = (q : Int) := by rw [hq, hu3, hu2, hu1, IntKind.wrap_i64]; rw [hu2, hu1] at hu3'; omega
    have g1 : ¬ ((R : Int) < 0) := by omega
    have g3 : ¬ ((S : Int) < 0) := by omega
    have g2 : ¬ ((H : Int) ≤ (R : Int)) := by omega
    have g4 : ¬ ((V : Int) ≤ (S : Int)) := by omega
    have h1 : (0 : Int) ≤ (q : Int) := by omega
    have h2 : (q : Int) < (m : Int) := by omega
    clear hu1 hu2 hu3 hu3' hKH hq hpl hz hx2 hB hqm hm
    go_enter Tryz.func31, Tryz.ntmps31
    go_wp2
    go_quiet (fail)
    go_wp2
    go_ret
    exact ⟨rfl, below_drewN HB0.out _⟩
  · rw [numAt_out hin]
    have HIN := hide hin
    clear hin
    by_cases g1 : r < 0
    · go_enter Tryz.func31, Tryz.ntmps31
      go_wp2
      go_ret
      exact ⟨rfl, HB0.out⟩
    · by_cases g2 : (H : Int) ≤ r
      · go_enter Tryz.func31, Tryz.ntmps31
        go_wp2
        go_ret
        exact ⟨rfl, HB0.out⟩
      · by_cases g3 : s < 0
        · go_enter Tryz.func31, Tryz.ntmps31
          go_wp2
          go_ret
          exact ⟨rfl, HB0.out⟩
        · by_cases g4 : (V : Int) ≤ s
          · go_enter Tryz.func31, Tryz.ntmps31
            go_wp2
            go_ret
            exact ⟨rfl, HB0.out⟩
          · exact absurd ⟨by omega, by omega, by omega, by omega⟩ HIN.out

set_option maxHeartbeats 2000000 in
theorem rpoolshape_any (A : Option Addr) (n c : Nat) (s : List Int) (wide : Int) (w : World) (hA : Lies w A n (s.map (Value.int .i64))) (hn : n ≤ 281474976710656) :
    Calls Tryz.prog 20 #[.slice A n c, .int .i64 wide] w fun e w' => ∃ R k kc, e = .returned (.tuple #[.slice R k kc, .int .i64 (pp8E s wide)]) ∧ w'.ownsRow w.heap.size 3 1 (.slice R k kc) k ((pp8S s wide).map (Value.int .i64)) ∧ k ≤ 3 ∧ Below w.heap.size w w' := by
  have hl1 : s.length = n := by have := hA.len; simpa using this
  have HL1 := hide hl1
  have HA := hide hA
  clear hA hl1
  have HBAD : Hid (∀ v, pp8E s wide ≠ 0 → Below w.heap.size w v → ∃ R k kc, Ending.returned (.tuple #[.slice none 0 0, .int .i64 (pp8E s wide)]) = .returned (.tuple #[.slice R k kc, .int .i64 (pp8E s wide)]) ∧ v.ownsRow w.heap.size 3 1 (.slice R k kc) k ((pp8S s wide).map (Value.int .i64)) ∧ k ≤ 3 ∧ Below w.heap.size w v) := hide (fun v h hb => ⟨none, 0, 0, rfl, by rw [pp8S_bad h]; exact World.ownsRow_nil _ _ _ _, by omega, hb⟩)
  go_enter Tryz.func20, Tryz.ntmps20
  go_wp2_with fail
  refine Calls.mono (rcheck8_any A n c s _ HA.out hn) ?_
  rintro e w1 ⟨rfl, hb1⟩
  by_cases h1 : 0 < sizeI s
  rotate_left
  · rw [decide_eq_false h1]
    have HE : Hid (pp8E s wide = 1) := hide (pp8E_arg fun h => h1 h.1)
    have HB := hide hb1
    clear h1 hb1
    go_wp2
    go_ret2
    have h := HBAD.out _ (by rw [HE.out]; decide) HB.out
    rw [HE.out] at h ⊢
    exact h
  rw [decide_eq_true h1]
  by_cases g1 : wide < 1
  · have HE : Hid (pp8E s wide = 1) := hide (pp8E_arg fun h => absurd h.2.1 (by omega))
    have HB := hide hb1
    clear h1 hb1
    go_wp2
    go_ret2
    have h := HBAD.out _ (by rw [HE.out]; decide) HB.out
    rw [HE.out] at h ⊢
    exact h
  by_cases g2 : 64 < wide
  · have HE : Hid (pp8E s wide = 1) := hide (pp8E_arg fun h => absurd h.2.2 (by omega))
    have HB := hide hb1
    clear h1 hb1
    go_wp2
    go_ret2
    have h := HBAD.out _ (by rw [HE.out]; decide) HB.out
    rw [HE.out] at h ⊢
    exact h
  have HOK : Hid (0 < sizeI s ∧ 1 ≤ wide ∧ wide ≤ 64) := hide ⟨h1, by omega, by omega⟩
  clear h1
  by_cases h3 : n = 3
  rotate_left
  · have HE : Hid (pp8E s wide = 10) := hide (pp8E_shape HOK.out (by rw [HL1.out]; exact fun h => h3 h.1))
    have e1 : ((n : Int) == 3) = false := by simpa using (by omega : ¬ (n : Int) = 3)
    have e2 : ((n : Int) != 3) = true := by simpa using (by omega : ¬ (n : Int) = 3)
    have HB := hide hb1
    clear hb1
    go_wp2
    go_ret2
    have h := HBAD.out _ (by rw [HE.out]; decide) HB.out
    rw [HE.out] at h ⊢
    exact h
  subst h3
  obtain ⟨b1, o1, rfl, hbk1, hx1⟩ := byte_at HA.out (by omega)
  have hd1 := size_dims HOK.out.1
  have q11 := hd1.at (k := 1) (by rw [HL1.out]; omega)
  have q12 := hd1.at (k := 2) (by rw [HL1.out]; omega)
  obtain ⟨x, hx⟩ : ∃ z, z = s.getD 0 0 := ⟨_, rfl⟩
  obtain ⟨h, hh⟩ : ∃ z, z = s.getD 1 0 := ⟨_, rfl⟩
  obtain ⟨z, hz⟩ : ∃ z, z = s.getD 2 0 := ⟨_, rfl⟩
  have c10 := hx1 0 (by omega)
  have c11 := hx1 1 (by omega)
  have c12 := hx1 2 (by omega)
  rw [← hx] at c10
  rw [← hh] at c11 q11
  rw [← hz] at c12 q12
  have d0 := (hb1.cell (p := ⟨b1, o1, none⟩) hbk1).trans c10
  have d1 := (hb1.cell (p := ⟨b1, o1 + 1, none⟩) hbk1).trans c11
  have d2 := (hb1.cell (p := ⟨b1, o1 + 2, none⟩) hbk1).trans c12
  have HK : Hid (∀ v, Below w.heap.size w v → v.cell? ⟨b1, o1, none⟩ = some (.int .i64 x) ∧ v.cell? ⟨b1, o1 + 1, none⟩ = some (.int .i64 h) ∧ v.cell? ⟨b1, o1 + 2, none⟩ = some (.int .i64 z)) := hide (fun v hv => ⟨(hv.cell (p := ⟨b1, o1, none⟩) hbk1).trans c10, (hv.cell (p := ⟨b1, o1 + 1, none⟩) hbk1).trans c11, (hv.cell (p := ⟨b1, o1 + 2, none⟩) hbk1).trans c12⟩)
  have HXY := hide (And.intro hx (And.intro hh hz))
  clear hx1 c10 c11 c12 hx hh hz hd1
  by_cases g3 : h < wide
  · have HE : Hid (pp8E s wide = 10) := hide (pp8E_shape HOK.out (by rw [← HXY.out.2.1]; exact fun h => absurd h.2.1 (by omega)))
    have HB := hide hb1
    clear hb1
    go_wp2
    go_ret2
    have h := HBAD.out _ (by rw [HE.out]; decide) HB.out
    rw [HE.out] at h ⊢
    exact h
  by_cases g4 : z < wide
  · have HE : Hid (pp8E s wide = 10) := hide (pp8E_shape HOK.out (by rw [← HXY.out.2.2]; exact fun h => absurd h.2.2 (by omega)))
    have HB := hide hb1
    clear hb1
    go_wp2
    go_ret2
    have h := HBAD.out _ (by rw [HE.out]; decide) HB.out
    rw [HE.out] at h ⊢
    exact h
  have HE : Hid (pp8E s wide = 0) := hide (pp8E_iff.2 ⟨HOK.out, HL1.out, by rw [← HXY.out.2.1]; omega, by rw [← HXY.out.2.2]; omega⟩)
  have hq1a := Int.ediv_nonneg (show 0 ≤ h by omega) (show 0 ≤ wide by omega)
  have hq1b : h / wide ≤ h := Int.ediv_le_self _ (by omega)
  have hq2a := Int.ediv_nonneg (show 0 ≤ z by omega) (show 0 ≤ wide by omega)
  have hq2b : z / wide ≤ z := Int.ediv_le_self _ (by omega)
  obtain ⟨q1, hq1⟩ : ∃ q, q = h / wide := ⟨_, rfl⟩
  obtain ⟨q2, hq2⟩ : ∃ q, q = z / wide := ⟨_, rfl⟩
  rw [← hq1] at hq1a hq1b
  rw [← hq2] at hq2a hq2b
  have m1 : h.tdiv wide = q1 := by rw [hq1, Int.tdiv_eq_ediv_of_nonneg (by omega)]
  have m2 : z.tdiv wide = q2 := by rw [hq2, Int.tdiv_eq_ediv_of_nonneg (by omega)]
  have m3 : IntKind.i64.wrap q1 = q1 := by rw [IntKind.wrap_i64]; omega
  have m4 : IntKind.i64.wrap q2 = q2 := by rw [IntKind.wrap_i64]; omega
  have hs0 : ¬ wide = 0 := by omega
  have hsz := hb1.size
  have HQ := hide (And.intro hq1 hq2)
  clear hq1 hq2
  go_wp2
  have hS0 : Hid (w1.drew.cell? ⟨b1, o1, none⟩ = some (.int .i64 x) ∧ w1.drew.cell? ⟨b1, o1 + 1, none⟩ = some (.int .i64 h) ∧ w1.drew.cell? ⟨b1, o1 + 2, none⟩ = some (.int .i64 z)) := hide (HK.out _ (below_drewN hb1 1))
  refine wp_region_U (fun _ v => v.cell? ⟨b1, o1, none⟩ = some (.int .i64 x) ∧ v.cell? ⟨b1, o1 + 1, none⟩ = some (.int .i64 h) ∧ v.cell? ⟨b1, o1 + 2, none⟩ = some (.int .i64 z)) 99 (by kernel_rfl) ?_
  refine wpAnyU_take (i := 0) (oi := { dst := some 34, op := _, type := _, pos := _, after := _, guard := none }) (v := .slice (some ⟨b1, o1, none⟩) 3 c) rfl (by kernel_rfl) (by kernel_rfl) (by kernel_rfl) (by kernel_rfl) (fun _ _ _ h => h) (yields_take rfl (fun w' hw => by obtain ⟨h1, h2, h3⟩ := hw.const; go_simp)) hS0.out ?_
  simp only [Act.put, List.setIfInBounds_toArray, List.set_cons_zero, List.set_cons_succ]
  refine wpAnyU_take (i := 1) (oi := { dst := some 35, op := _, type := _, pos := _, after := _, guard := none }) (v := .pointer (some ⟨b1, o1, none⟩)) rfl (by kernel_rfl) (by kernel_rfl) (by kernel_rfl) (by kernel_rfl) (fun _ _ _ h => h) (yields_take rfl (fun w' hw => by obtain ⟨h1, h2, h3⟩ := hw.const; go_simp)) hS0.out ?_
  simp only [Act.put, List.setIfInBounds_toArray, List.set_cons_zero, List.set_cons_succ]
  refine wpAnyU_take (i := 2) (oi := { dst := some 36, op := _, type := _, pos := _, after := _, guard := none }) (v := .int .i64 x) rfl (by kernel_rfl) (by kernel_rfl) (by kernel_rfl) (by kernel_rfl) (fun _ _ _ h => h) (yields_take rfl (fun w' hw => by obtain ⟨h1, h2, h3⟩ := hw.const; go_simp)) hS0.out ?_
  simp only [Act.put, List.setIfInBounds_toArray, List.set_cons_zero, List.set_cons_succ]
  refine wpAnyU_take (i := 3) (oi := { dst := some 37, op := _, type := _, pos := _, after := _, guard := none }) (v := .slice (some ⟨b1, o1, none⟩) 3 c) rfl (by kernel_rfl) (by kernel_rfl) (by kernel_rfl) (by kernel_rfl) (fun _ _ _ h => h) (yields_take rfl (fun w' hw => by obtain ⟨h1, h2, h3⟩ := hw.const; go_simp)) hS0.out ?_
  simp only [Act.put, List.setIfInBounds_toArray, List.set_cons_zero, List.set_cons_succ]
  refine wpAnyU_take (i := 4) (oi := { dst := some 38, op := _, type := _, pos := _, after := _, guard := none }) (v := .pointer (some ⟨b1, o1 + 1, none⟩)) rfl (by kernel_rfl) (by kernel_rfl) (by kernel_rfl) (by kernel_rfl) (fun _ _ _ h => h) (yields_take rfl (fun w' hw => by obtain ⟨h1, h2, h3⟩ := hw.const; go_simp)) hS0.out ?_
  simp only [Act.put, List.setIfInBounds_toArray, List.set_cons_zero, List.set_cons_succ]
  refine wpAnyU_take (i := 5) (oi := { dst := some 39, op := _, type := _, pos := _, after := _, guard := none }) (v := .int .i64 h) rfl (by kernel_rfl) (by kernel_rfl) (by kernel_rfl) (by kernel_rfl) (fun _ _ _ h => h) (yields_take rfl (fun w' hw => by obtain ⟨h1, h2, h3⟩ := hw.const; go_simp)) hS0.out ?_
  simp only [Act.put, List.setIfInBounds_toArray, List.set_cons_zero, List.set_cons_succ]
  refine wpAnyU_take (i := 6) (oi := { dst := some 40, op := _, type := _, pos := _, after := _, guard := none }) (v := .int .i64 wide) rfl (by kernel_rfl) (by kernel_rfl) (by kernel_rfl) (by kernel_rfl) (fun _ _ _ h => h) (yields_take rfl (fun w' hw => by obtain ⟨h1, h2, h3⟩ := hw.const; go_simp)) hS0.out ?_
  simp only [Act.put, List.setIfInBounds_toArray, List.set_cons_zero, List.set_cons_succ]
  refine wpAnyU_take (i := 7) (oi := { dst := some 41, op := _, type := _, pos := _, after := _, guard := none }) (v := .int .i64 q1) rfl (by kernel_rfl) (by kernel_rfl) (by kernel_rfl) (by kernel_rfl) (fun _ _ _ h => h) (yields_take rfl (fun w' hw => by obtain ⟨h1, h2, h3⟩ := hw.const; go_simp)) hS0.out ?_
  simp only [Act.put, List.setIfInBounds_toArray, List.set_cons_zero, List.set_cons_succ]
  refine wpAnyU_take (i := 8) (oi := { dst := some 42, op := _, type := _, pos := _, after := _, guard := none }) (v := .slice (some ⟨b1, o1, none⟩) 3 c) rfl (by kernel_rfl) (by kernel_rfl) (by kernel_rfl) (by kernel_rfl) (fun _ _ _ h => h) (yields_take rfl (fun w' hw => by obtain ⟨h1, h2, h3⟩ := hw.const; go_simp)) hS0.out ?_
  simp only [Act.put, List.setIfInBounds_toArray, List.set_cons_zero, List.set_cons_succ]
  refine wpAnyU_take (i := 9) (oi := { dst := some 43, op := _, type := _, pos := _, after := _, guard := none }) (v := .pointer (some ⟨b1, o1 + 2, none⟩)) rfl (by kernel_rfl) (by kernel_rfl) (by kernel_rfl) (by kernel_rfl) (fun _ _ _ h => h) (yields_take rfl (fun w' hw => by obtain ⟨h1, h2, h3⟩ := hw.const; go_simp)) hS0.out ?_
  simp only [Act.put, List.setIfInBounds_toArray, List.set_cons_zero, List.set_cons_succ]
  refine wpAnyU_take (i := 10) (oi := { dst := some 44, op := _, type := _, pos := _, after := _, guard := none }) (v := .int .i64 z) rfl (by kernel_rfl) (by kernel_rfl) (by kernel_rfl) (by kernel_rfl) (fun _ _ _ h => h) (yields_take rfl (fun w' hw => by obtain ⟨h1, h2, h3⟩ := hw.const; go_simp)) hS0.out ?_
  simp only [Act.put, List.setIfInBounds_toArray, List.set_cons_zero, List.set_cons_succ]
  refine wpAnyU_take (i := 11) (oi := { dst := some 45, op := _, type := _, pos := _, after := _, guard := none }) (v := .int .i64 wide) rfl (by kernel_rfl) (by kernel_rfl) (by kernel_rfl) (by kernel_rfl) (fun _ _ _ h => h) (yields_take rfl (fun w' hw => by obtain ⟨h1, h2, h3⟩ := hw.const; go_simp)) hS0.out ?_
  simp only [Act.put, List.setIfInBounds_toArray, List.set_cons_zero, List.set_cons_succ]
  refine wpAnyU_take (i := 12) (oi := { dst := some 46, op := _, type := _, pos := _, after := _, guard := none }) (v := .int .i64 q2) rfl (by kernel_rfl) (by kernel_rfl) (by kernel_rfl) (by kernel_rfl) (fun _ _ _ h => h) (yields_take rfl (fun w' hw => by obtain ⟨h1, h2, h3⟩ := hw.const; go_simp)) hS0.out ?_
  simp only [Act.put, List.setIfInBounds_toArray, List.set_cons_zero, List.set_cons_succ]
  refine wpAnyU_one (i := 13) (by kernel_rfl) rfl ?_
  intro K hK
  go_simp
  have hb4 : Below w.heap.size w ((w1.drew).alloc (.cells #[.int .i64 x, .int .i64 q1, .int .i64 q2] 3)) := below_al7x (below_drewN hb1 1)
  have hS1 : Hid (((w1.drew).alloc (.cells #[.int .i64 x, .int .i64 q1, .int .i64 q2] 3)).cell? ⟨b1, o1, none⟩ = some (.int .i64 x) ∧ ((w1.drew).alloc (.cells #[.int .i64 x, .int .i64 q1, .int .i64 q2] 3)).cell? ⟨b1, o1 + 1, none⟩ = some (.int .i64 h) ∧ ((w1.drew).alloc (.cells #[.int .i64 x, .int .i64 q1, .int .i64 q2] 3)).cell? ⟨b1, o1 + 2, none⟩ = some (.int .i64 z)) := hide (HK.out _ hb4)
  refine hK.out _ _ hS1.out (fun _ => ?_)
  clear hK K hS0
  refine wpAnyU_take (i := 14) (oi := { dst := some 4, op := _, type := _, pos := _, after := _, guard := none }) (v := .slice (some ⟨w1.heap.size, 0, none⟩) 3 3) rfl (by kernel_rfl) (by kernel_rfl) (by kernel_rfl) (by kernel_rfl) (fun _ _ _ h => h) (yields_take rfl (fun w' hw => by obtain ⟨h1, h2, h3⟩ := hw.const; go_simp)) hS1.out ?_
  simp only [Act.put, List.setIfInBounds_toArray, List.set_cons_zero, List.set_cons_succ]
  refine wpAnyU_take (i := 15) (oi := { dst := some 5, op := _, type := _, pos := _, after := _, guard := none }) (v := .int .i64 0) rfl (by kernel_rfl) (by kernel_rfl) (by kernel_rfl) (by kernel_rfl) (fun _ _ _ h => h) (yields_take rfl (fun w' hw => by obtain ⟨h1, h2, h3⟩ := hw.const; go_simp)) hS1.out ?_
  simp only [Act.put, List.setIfInBounds_toArray, List.set_cons_zero, List.set_cons_succ]
  refine wpAnyU_done (by kernel_rfl) ?_ _
  clear hS1
  have HBF := hide hb4
  go_wp2
  go_ret2
  refine ⟨some ⟨w1.heap.size, 0, none⟩, 3, 3, by rw [HE.out]; rfl, ?_, by omega, HBF.out⟩
  rw [pp8S, if_pos HE.out, ← HXY.out.1, ← HXY.out.2.1, ← HXY.out.2.2, ← HQ.out.1, ← HQ.out.2]
  exact own_of_block hsz (heap_alloc_new _ _) rfl (Nat.le_refl _) (by decide) rfl

theorem size_nought (p z : Int) : ¬ 0 < sizeI [p, 0, z] := by
  intro h
  have := (size_dims h) 0 (by simp)
  omega

theorem size_nought2 (p z : Int) : ¬ 0 < sizeI [p, z, 0] := by
  intro h
  have := (size_dims h) 0 (by simp)
  omega

set_option maxHeartbeats 4000000 in
theorem rshape8_any (A A' : Option Addr) (n c n' c' : Nat) (s s' : List Int) (step pad : Int) (w : World) (hA : Lies w A n (s.map (Value.int .i64))) (hA' : Lies w A' n' (s'.map (Value.int .i64))) (hn : n ≤ 281474976710656) (hn' : n' ≤ 281474976710656) :
    Calls Tryz.prog 10 #[.slice A n c, .slice A' n' c', .int .i64 step, .int .i64 pad] w fun e w' => ∃ R k kc, e = .returned (.tuple #[.slice R k kc, .int .i64 (shp8E s s' step pad)]) ∧ w'.ownsRow w.heap.size 3 1 (.slice R k kc) k ((shp8S s s' step pad).map (Value.int .i64)) ∧ k ≤ 3 ∧ Below w.heap.size w w' := by
  have hl1 : s.length = n := by have := hA.len; simpa using this
  have hl2 : s'.length = n' := by have := hA'.len; simpa using this
  have HL1 := hide hl1
  have HL2 := hide hl2
  have HA := hide hA
  have HA' := hide hA'
  clear hA hA' hl1 hl2
  have HBAD : Hid (∀ v, shp8E s s' step pad ≠ 0 → Below w.heap.size w v → ∃ R k kc, Ending.returned (.tuple #[.slice none 0 0, .int .i64 (shp8E s s' step pad)]) = .returned (.tuple #[.slice R k kc, .int .i64 (shp8E s s' step pad)]) ∧ v.ownsRow w.heap.size 3 1 (.slice R k kc) k ((shp8S s s' step pad).map (Value.int .i64)) ∧ k ≤ 3 ∧ Below w.heap.size w v) := hide (fun v h hb => ⟨none, 0, 0, rfl, by rw [shp8S_bad h]; exact World.ownsRow_nil _ _ _ _, by omega, hb⟩)
  go_enter Tryz.func10, Tryz.ntmps10
  go_wp2_with fail
  refine Calls.mono (rcheck8_any A n c s _ HA.out hn) ?_
  rintro e w1 ⟨rfl, hb1⟩
  by_cases h1 : 0 < sizeI s
  rotate_left
  · rw [decide_eq_false h1]
    have HE : Hid (shp8E s s' step pad = 1) := hide (shp8E_arg fun h => h1 h.1)
    have HB := hide hb1
    clear h1 hb1
    go_wp2
    go_ret2
    have h := HBAD.out _ (by rw [HE.out]; decide) HB.out
    rw [HE.out] at h ⊢
    exact h
  rw [decide_eq_true h1]
  go_wp2_with fail
  refine Calls.mono (rcheck8_any A' n' c' s' _ (HA'.out.below hb1) hn') ?_
  rintro e w2 ⟨rfl, hb20⟩
  have hb2 : Below w.heap.size w w2 := hb1.trans (hb20.mono hb1.size)
  clear hb20 hb1
  by_cases h2 : 0 < sizeI s'
  rotate_left
  · rw [decide_eq_false h2]
    have HE : Hid (shp8E s s' step pad = 1) := hide (shp8E_arg fun h => h2 h.2.1)
    have HB := hide hb2
    clear h1 h2 hb2
    go_wp2
    go_ret2
    have h := HBAD.out _ (by rw [HE.out]; decide) HB.out
    rw [HE.out] at h ⊢
    exact h
  rw [decide_eq_true h2]
  by_cases g1 : step < 1
  · have HB0 := hide h1
    have HB0' := hide h2
    clear h1 h2
    have HE : Hid (shp8E s s' step pad = 1) := hide (shp8E_arg fun h => absurd h.2.2.1 (by omega))
    have HB := hide hb2
    clear hb2
    go_wp2
    go_ret2
    have h := HBAD.out _ (by rw [HE.out]; decide) HB.out
    rw [HE.out] at h ⊢
    exact h
  by_cases g2 : 8 < step
  · have HB0 := hide h1
    have HB0' := hide h2
    clear h1 h2
    have HE : Hid (shp8E s s' step pad = 1) := hide (shp8E_arg fun h => absurd h.2.2.2.1 (by omega))
    have HB := hide hb2
    clear hb2
    go_wp2
    go_ret2
    have h := HBAD.out _ (by rw [HE.out]; decide) HB.out
    rw [HE.out] at h ⊢
    exact h
  by_cases g3 : pad < 0
  · have HB0 := hide h1
    have HB0' := hide h2
    clear h1 h2
    have HE : Hid (shp8E s s' step pad = 1) := hide (shp8E_arg fun h => absurd h.2.2.2.2.1 (by omega))
    have HB := hide hb2
    clear hb2
    go_wp2
    go_ret2
    have h := HBAD.out _ (by rw [HE.out]; decide) HB.out
    rw [HE.out] at h ⊢
    exact h
  by_cases g4 : 8 < pad
  · have HB0 := hide h1
    have HB0' := hide h2
    clear h1 h2
    have HE : Hid (shp8E s s' step pad = 1) := hide (shp8E_arg fun h => absurd h.2.2.2.2.2 (by omega))
    have HB := hide hb2
    clear hb2
    go_wp2
    go_ret2
    have h := HBAD.out _ (by rw [HE.out]; decide) HB.out
    rw [HE.out] at h ⊢
    exact h
  have HOK : Hid (0 < sizeI s ∧ 0 < sizeI s' ∧ 1 ≤ step ∧ step ≤ 8 ∧ 0 ≤ pad ∧ pad ≤ 8) := hide ⟨h1, h2, by omega, by omega, by omega, by omega⟩
  clear h1 h2
  have HBD : Hid (Below w.heap.size w (w2.drewN 1)) := hide (below_drewN hb2 1)
  by_cases h3 : n = 3
  rotate_left
  · have HE : Hid (shp8E s s' step pad = 10) := hide (shp8E_shape HOK.out (by rw [HL1.out]; exact fun h => h3 h.1))
    have e1 : ((n : Int) == 3) = false := by simpa using (by omega : ¬ (n : Int) = 3)
    have e2 : ((n : Int) != 3) = true := by simpa using (by omega : ¬ (n : Int) = 3)
    go_wp2
    have hS0 : Hid (True) := hide (trivial)
    refine wp_region_U (fun _ v => True) 99 (by kernel_rfl) ?_
    refine wpAnyU_take (i := 0) (oi := { dst := some 35, op := _, type := _, pos := _, after := _, guard := none }) (v := .slice A n c) rfl (by kernel_rfl) (by kernel_rfl) (by kernel_rfl) (by kernel_rfl) (fun _ _ _ h => h) (yields_take rfl (fun w' hw => by go_simp)) hS0.out ?_
    simp only [Act.put, List.setIfInBounds_toArray, List.set_cons_zero, List.set_cons_succ]
    refine wpAnyU_take (i := 1) (oi := { dst := some 36, op := _, type := _, pos := _, after := _, guard := none }) (v := .int .i64 (n : Int)) rfl (by kernel_rfl) (by kernel_rfl) (by kernel_rfl) (by kernel_rfl) (fun _ _ _ h => h) (yields_take rfl (fun w' hw => by go_simp)) hS0.out ?_
    simp only [Act.put, List.setIfInBounds_toArray, List.set_cons_zero, List.set_cons_succ]
    refine wpAnyU_take (i := 2) (oi := { dst := some 37, op := _, type := _, pos := _, after := _, guard := none }) (v := .bool true) rfl (by kernel_rfl) (by kernel_rfl) (by kernel_rfl) (by kernel_rfl) (fun _ _ _ h => h) (yields_take rfl (fun w' hw => by go_simp)) hS0.out ?_
    simp only [Act.put, List.setIfInBounds_toArray, List.set_cons_zero, List.set_cons_succ]
    refine wpAnyU_take (i := 3) (oi := { dst := some 38, op := _, type := _, pos := _, after := _, guard := none }) (v := .bool true) rfl (by kernel_rfl) (by kernel_rfl) (by kernel_rfl) (by kernel_rfl) (fun _ _ _ h => h) (yields_take rfl (fun w' hw => by go_simp)) hS0.out ?_
    simp only [Act.put, List.setIfInBounds_toArray, List.set_cons_zero, List.set_cons_succ]
    refine wpAnyU_take (i := 4) (oi := { dst := some 39, op := _, type := _, pos := _, after := _, guard := some (3, false) }) (v := undef) rfl (by kernel_rfl) (by kernel_rfl) (by kernel_rfl) (by kernel_rfl) (fun _ _ _ h => h) (.inr ⟨rfl, rfl⟩) hS0.out ?_
    simp only [Act.put, List.setIfInBounds_toArray, List.set_cons_zero, List.set_cons_succ]
    refine wpAnyU_take (i := 5) (oi := { dst := some 40, op := _, type := _, pos := _, after := _, guard := some (3, false) }) (v := undef) rfl (by kernel_rfl) (by kernel_rfl) (by kernel_rfl) (by kernel_rfl) (fun _ _ _ h => h) (.inr ⟨rfl, rfl⟩) hS0.out ?_
    simp only [Act.put, List.setIfInBounds_toArray, List.set_cons_zero, List.set_cons_succ]
    refine wpAnyU_take (i := 6) (oi := { dst := some 41, op := _, type := _, pos := _, after := _, guard := some (3, false) }) (v := undef) rfl (by kernel_rfl) (by kernel_rfl) (by kernel_rfl) (by kernel_rfl) (fun _ _ _ h => h) (.inr ⟨rfl, rfl⟩) hS0.out ?_
    simp only [Act.put, List.setIfInBounds_toArray, List.set_cons_zero, List.set_cons_succ]
    refine wpAnyU_take (i := 7) (oi := { dst := some 42, op := _, type := _, pos := _, after := _, guard := none }) (v := .bool true) rfl (by kernel_rfl) (by kernel_rfl) (by kernel_rfl) (by kernel_rfl) (fun _ _ _ h => h) (yields_take rfl (fun w' hw => by go_simp)) hS0.out ?_
    simp only [Act.put, List.setIfInBounds_toArray, List.set_cons_zero, List.set_cons_succ]
    refine wpAnyU_take (i := 8) (oi := { dst := some 43, op := _, type := _, pos := _, after := _, guard := none }) (v := .bool true) rfl (by kernel_rfl) (by kernel_rfl) (by kernel_rfl) (by kernel_rfl) (fun _ _ _ h => h) (yields_take rfl (fun w' hw => by go_simp)) hS0.out ?_
    simp only [Act.put, List.setIfInBounds_toArray, List.set_cons_zero, List.set_cons_succ]
    refine wpAnyU_take (i := 9) (oi := { dst := some 44, op := _, type := _, pos := _, after := _, guard := some (8, false) }) (v := undef) rfl (by kernel_rfl) (by kernel_rfl) (by kernel_rfl) (by kernel_rfl) (fun _ _ _ h => h) (.inr ⟨rfl, rfl⟩) hS0.out ?_
    simp only [Act.put, List.setIfInBounds_toArray, List.set_cons_zero, List.set_cons_succ]
    refine wpAnyU_take (i := 10) (oi := { dst := some 45, op := _, type := _, pos := _, after := _, guard := some (8, false) }) (v := undef) rfl (by kernel_rfl) (by kernel_rfl) (by kernel_rfl) (by kernel_rfl) (fun _ _ _ h => h) (.inr ⟨rfl, rfl⟩) hS0.out ?_
    simp only [Act.put, List.setIfInBounds_toArray, List.set_cons_zero, List.set_cons_succ]
    refine wpAnyU_take (i := 11) (oi := { dst := some 46, op := _, type := _, pos := _, after := _, guard := some (8, false) }) (v := undef) rfl (by kernel_rfl) (by kernel_rfl) (by kernel_rfl) (by kernel_rfl) (fun _ _ _ h => h) (.inr ⟨rfl, rfl⟩) hS0.out ?_
    simp only [Act.put, List.setIfInBounds_toArray, List.set_cons_zero, List.set_cons_succ]
    refine wpAnyU_take (i := 12) (oi := { dst := some 47, op := _, type := _, pos := _, after := _, guard := some (8, false) }) (v := undef) rfl (by kernel_rfl) (by kernel_rfl) (by kernel_rfl) (by kernel_rfl) (fun _ _ _ h => h) (.inr ⟨rfl, rfl⟩) hS0.out ?_
    simp only [Act.put, List.setIfInBounds_toArray, List.set_cons_zero, List.set_cons_succ]
    refine wpAnyU_take (i := 13) (oi := { dst := some 48, op := _, type := _, pos := _, after := _, guard := some (8, false) }) (v := undef) rfl (by kernel_rfl) (by kernel_rfl) (by kernel_rfl) (by kernel_rfl) (fun _ _ _ h => h) (.inr ⟨rfl, rfl⟩) hS0.out ?_
    simp only [Act.put, List.setIfInBounds_toArray, List.set_cons_zero, List.set_cons_succ]
    refine wpAnyU_take (i := 14) (oi := { dst := some 49, op := _, type := _, pos := _, after := _, guard := some (8, false) }) (v := undef) rfl (by kernel_rfl) (by kernel_rfl) (by kernel_rfl) (by kernel_rfl) (fun _ _ _ h => h) (.inr ⟨rfl, rfl⟩) hS0.out ?_
    simp only [Act.put, List.setIfInBounds_toArray, List.set_cons_zero, List.set_cons_succ]
    refine wpAnyU_take (i := 15) (oi := { dst := some 50, op := _, type := _, pos := _, after := _, guard := some (8, false) }) (v := undef) rfl (by kernel_rfl) (by kernel_rfl) (by kernel_rfl) (by kernel_rfl) (fun _ _ _ h => h) (.inr ⟨rfl, rfl⟩) hS0.out ?_
    simp only [Act.put, List.setIfInBounds_toArray, List.set_cons_zero, List.set_cons_succ]
    refine wpAnyU_take (i := 16) (oi := { dst := some 51, op := _, type := _, pos := _, after := _, guard := none }) (v := .bool true) rfl (by kernel_rfl) (by kernel_rfl) (by kernel_rfl) (by kernel_rfl) (fun _ _ _ h => h) (yields_take rfl (fun w' hw => by go_simp)) hS0.out ?_
    simp only [Act.put, List.setIfInBounds_toArray, List.set_cons_zero, List.set_cons_succ]
    refine wpAnyU_take (i := 17) (oi := { dst := some 52, op := _, type := _, pos := _, after := _, guard := none }) (v := .bool true) rfl (by kernel_rfl) (by kernel_rfl) (by kernel_rfl) (by kernel_rfl) (fun _ _ _ h => h) (yields_take rfl (fun w' hw => by go_simp)) hS0.out ?_
    simp only [Act.put, List.setIfInBounds_toArray, List.set_cons_zero, List.set_cons_succ]
    refine wpAnyU_take (i := 18) (oi := { dst := some 53, op := _, type := _, pos := _, after := _, guard := some (17, false) }) (v := undef) rfl (by kernel_rfl) (by kernel_rfl) (by kernel_rfl) (by kernel_rfl) (fun _ _ _ h => h) (.inr ⟨rfl, rfl⟩) hS0.out ?_
    simp only [Act.put, List.setIfInBounds_toArray, List.set_cons_zero, List.set_cons_succ]
    refine wpAnyU_take (i := 19) (oi := { dst := some 54, op := _, type := _, pos := _, after := _, guard := some (17, false) }) (v := undef) rfl (by kernel_rfl) (by kernel_rfl) (by kernel_rfl) (by kernel_rfl) (fun _ _ _ h => h) (.inr ⟨rfl, rfl⟩) hS0.out ?_
    simp only [Act.put, List.setIfInBounds_toArray, List.set_cons_zero, List.set_cons_succ]
    refine wpAnyU_take (i := 20) (oi := { dst := some 55, op := _, type := _, pos := _, after := _, guard := some (17, false) }) (v := undef) rfl (by kernel_rfl) (by kernel_rfl) (by kernel_rfl) (by kernel_rfl) (fun _ _ _ h => h) (.inr ⟨rfl, rfl⟩) hS0.out ?_
    simp only [Act.put, List.setIfInBounds_toArray, List.set_cons_zero, List.set_cons_succ]
    refine wpAnyU_take (i := 21) (oi := { dst := some 56, op := _, type := _, pos := _, after := _, guard := some (17, false) }) (v := undef) rfl (by kernel_rfl) (by kernel_rfl) (by kernel_rfl) (by kernel_rfl) (fun _ _ _ h => h) (.inr ⟨rfl, rfl⟩) hS0.out ?_
    simp only [Act.put, List.setIfInBounds_toArray, List.set_cons_zero, List.set_cons_succ]
    refine wpAnyU_take (i := 22) (oi := { dst := some 57, op := _, type := _, pos := _, after := _, guard := some (17, false) }) (v := undef) rfl (by kernel_rfl) (by kernel_rfl) (by kernel_rfl) (by kernel_rfl) (fun _ _ _ h => h) (.inr ⟨rfl, rfl⟩) hS0.out ?_
    simp only [Act.put, List.setIfInBounds_toArray, List.set_cons_zero, List.set_cons_succ]
    refine wpAnyU_take (i := 23) (oi := { dst := some 58, op := _, type := _, pos := _, after := _, guard := some (17, false) }) (v := undef) rfl (by kernel_rfl) (by kernel_rfl) (by kernel_rfl) (by kernel_rfl) (fun _ _ _ h => h) (.inr ⟨rfl, rfl⟩) hS0.out ?_
    simp only [Act.put, List.setIfInBounds_toArray, List.set_cons_zero, List.set_cons_succ]
    refine wpAnyU_take (i := 24) (oi := { dst := some 59, op := _, type := _, pos := _, after := _, guard := some (17, false) }) (v := undef) rfl (by kernel_rfl) (by kernel_rfl) (by kernel_rfl) (by kernel_rfl) (fun _ _ _ h => h) (.inr ⟨rfl, rfl⟩) hS0.out ?_
    simp only [Act.put, List.setIfInBounds_toArray, List.set_cons_zero, List.set_cons_succ]
    refine wpAnyU_take (i := 25) (oi := { dst := some 60, op := _, type := _, pos := _, after := _, guard := some (17, false) }) (v := undef) rfl (by kernel_rfl) (by kernel_rfl) (by kernel_rfl) (by kernel_rfl) (fun _ _ _ h => h) (.inr ⟨rfl, rfl⟩) hS0.out ?_
    simp only [Act.put, List.setIfInBounds_toArray, List.set_cons_zero, List.set_cons_succ]
    refine wpAnyU_take (i := 26) (oi := { dst := some 61, op := _, type := _, pos := _, after := _, guard := some (17, false) }) (v := undef) rfl (by kernel_rfl) (by kernel_rfl) (by kernel_rfl) (by kernel_rfl) (fun _ _ _ h => h) (.inr ⟨rfl, rfl⟩) hS0.out ?_
    simp only [Act.put, List.setIfInBounds_toArray, List.set_cons_zero, List.set_cons_succ]
    refine wpAnyU_take (i := 27) (oi := { dst := some 62, op := _, type := _, pos := _, after := _, guard := some (17, false) }) (v := undef) rfl (by kernel_rfl) (by kernel_rfl) (by kernel_rfl) (by kernel_rfl) (fun _ _ _ h => h) (.inr ⟨rfl, rfl⟩) hS0.out ?_
    simp only [Act.put, List.setIfInBounds_toArray, List.set_cons_zero, List.set_cons_succ]
    refine wpAnyU_take (i := 28) (oi := { dst := some 63, op := _, type := _, pos := _, after := _, guard := none }) (v := .bool true) rfl (by kernel_rfl) (by kernel_rfl) (by kernel_rfl) (by kernel_rfl) (fun _ _ _ h => h) (yields_take rfl (fun w' hw => by go_simp)) hS0.out ?_
    simp only [Act.put, List.setIfInBounds_toArray, List.set_cons_zero, List.set_cons_succ]
    refine wpAnyU_take (i := 29) (oi := { dst := some 64, op := _, type := _, pos := _, after := _, guard := none }) (v := .bool true) rfl (by kernel_rfl) (by kernel_rfl) (by kernel_rfl) (by kernel_rfl) (fun _ _ _ h => h) (yields_take rfl (fun w' hw => by go_simp)) hS0.out ?_
    simp only [Act.put, List.setIfInBounds_toArray, List.set_cons_zero, List.set_cons_succ]
    refine wpAnyU_take (i := 30) (oi := { dst := some 65, op := _, type := _, pos := _, after := _, guard := some (29, false) }) (v := undef) rfl (by kernel_rfl) (by kernel_rfl) (by kernel_rfl) (by kernel_rfl) (fun _ _ _ h => h) (.inr ⟨rfl, rfl⟩) hS0.out ?_
    simp only [Act.put, List.setIfInBounds_toArray, List.set_cons_zero, List.set_cons_succ]
    refine wpAnyU_take (i := 31) (oi := { dst := some 66, op := _, type := _, pos := _, after := _, guard := some (29, false) }) (v := undef) rfl (by kernel_rfl) (by kernel_rfl) (by kernel_rfl) (by kernel_rfl) (fun _ _ _ h => h) (.inr ⟨rfl, rfl⟩) hS0.out ?_
    simp only [Act.put, List.setIfInBounds_toArray, List.set_cons_zero, List.set_cons_succ]
    refine wpAnyU_take (i := 32) (oi := { dst := some 67, op := _, type := _, pos := _, after := _, guard := some (29, false) }) (v := undef) rfl (by kernel_rfl) (by kernel_rfl) (by kernel_rfl) (by kernel_rfl) (fun _ _ _ h => h) (.inr ⟨rfl, rfl⟩) hS0.out ?_
    simp only [Act.put, List.setIfInBounds_toArray, List.set_cons_zero, List.set_cons_succ]
    refine wpAnyU_take (i := 33) (oi := { dst := some 68, op := _, type := _, pos := _, after := _, guard := some (29, false) }) (v := undef) rfl (by kernel_rfl) (by kernel_rfl) (by kernel_rfl) (by kernel_rfl) (fun _ _ _ h => h) (.inr ⟨rfl, rfl⟩) hS0.out ?_
    simp only [Act.put, List.setIfInBounds_toArray, List.set_cons_zero, List.set_cons_succ]
    refine wpAnyU_take (i := 34) (oi := { dst := some 69, op := _, type := _, pos := _, after := _, guard := some (29, false) }) (v := undef) rfl (by kernel_rfl) (by kernel_rfl) (by kernel_rfl) (by kernel_rfl) (fun _ _ _ h => h) (.inr ⟨rfl, rfl⟩) hS0.out ?_
    simp only [Act.put, List.setIfInBounds_toArray, List.set_cons_zero, List.set_cons_succ]
    refine wpAnyU_take (i := 35) (oi := { dst := some 70, op := _, type := _, pos := _, after := _, guard := some (29, false) }) (v := undef) rfl (by kernel_rfl) (by kernel_rfl) (by kernel_rfl) (by kernel_rfl) (fun _ _ _ h => h) (.inr ⟨rfl, rfl⟩) hS0.out ?_
    simp only [Act.put, List.setIfInBounds_toArray, List.set_cons_zero, List.set_cons_succ]
    refine wpAnyU_take (i := 36) (oi := { dst := some 71, op := _, type := _, pos := _, after := _, guard := some (29, false) }) (v := undef) rfl (by kernel_rfl) (by kernel_rfl) (by kernel_rfl) (by kernel_rfl) (fun _ _ _ h => h) (.inr ⟨rfl, rfl⟩) hS0.out ?_
    simp only [Act.put, List.setIfInBounds_toArray, List.set_cons_zero, List.set_cons_succ]
    refine wpAnyU_take (i := 37) (oi := { dst := some 72, op := _, type := _, pos := _, after := _, guard := some (29, false) }) (v := undef) rfl (by kernel_rfl) (by kernel_rfl) (by kernel_rfl) (by kernel_rfl) (fun _ _ _ h => h) (.inr ⟨rfl, rfl⟩) hS0.out ?_
    simp only [Act.put, List.setIfInBounds_toArray, List.set_cons_zero, List.set_cons_succ]
    refine wpAnyU_take (i := 38) (oi := { dst := some 73, op := _, type := _, pos := _, after := _, guard := some (29, false) }) (v := undef) rfl (by kernel_rfl) (by kernel_rfl) (by kernel_rfl) (by kernel_rfl) (fun _ _ _ h => h) (.inr ⟨rfl, rfl⟩) hS0.out ?_
    simp only [Act.put, List.setIfInBounds_toArray, List.set_cons_zero, List.set_cons_succ]
    refine wpAnyU_take (i := 39) (oi := { dst := some 74, op := _, type := _, pos := _, after := _, guard := some (29, false) }) (v := undef) rfl (by kernel_rfl) (by kernel_rfl) (by kernel_rfl) (by kernel_rfl) (fun _ _ _ h => h) (.inr ⟨rfl, rfl⟩) hS0.out ?_
    simp only [Act.put, List.setIfInBounds_toArray, List.set_cons_zero, List.set_cons_succ]
    refine wpAnyU_take (i := 40) (oi := { dst := some 75, op := _, type := _, pos := _, after := _, guard := none }) (v := .bool true) rfl (by kernel_rfl) (by kernel_rfl) (by kernel_rfl) (by kernel_rfl) (fun _ _ _ h => h) (yields_take rfl (fun w' hw => by go_simp)) hS0.out ?_
    simp only [Act.put, List.setIfInBounds_toArray, List.set_cons_zero, List.set_cons_succ]
    refine wpAnyU_done (by kernel_rfl) ?_ _
    clear hS0
    go_wp2
    go_ret2
    have h := HBAD.out _ (by rw [HE.out]; decide) HBD.out
    rw [HE.out] at h ⊢
    exact h
  subst h3
  by_cases h4 : n' = 4
  rotate_left
  · have HE : Hid (shp8E s s' step pad = 10) := hide (shp8E_shape HOK.out (by rw [HL2.out]; exact fun h => h4 h.2.1))
    have e1 : ((n' : Int) == 4) = false := by simpa using (by omega : ¬ (n' : Int) = 4)
    have e2 : ((n' : Int) != 4) = true := by simpa using (by omega : ¬ (n' : Int) = 4)
    go_wp2
    have hS0 : Hid (True) := hide (trivial)
    refine wp_region_U (fun _ v => True) 99 (by kernel_rfl) ?_
    refine wpAnyU_take (i := 0) (oi := { dst := some 35, op := _, type := _, pos := _, after := _, guard := none }) (v := .slice A 3 c) rfl (by kernel_rfl) (by kernel_rfl) (by kernel_rfl) (by kernel_rfl) (fun _ _ _ h => h) (yields_take rfl (fun w' hw => by go_simp)) hS0.out ?_
    simp only [Act.put, List.setIfInBounds_toArray, List.set_cons_zero, List.set_cons_succ]
    refine wpAnyU_take (i := 1) (oi := { dst := some 36, op := _, type := _, pos := _, after := _, guard := none }) (v := .int .i64 3) rfl (by kernel_rfl) (by kernel_rfl) (by kernel_rfl) (by kernel_rfl) (fun _ _ _ h => h) (yields_take rfl (fun w' hw => by go_simp)) hS0.out ?_
    simp only [Act.put, List.setIfInBounds_toArray, List.set_cons_zero, List.set_cons_succ]
    refine wpAnyU_take (i := 2) (oi := { dst := some 37, op := _, type := _, pos := _, after := _, guard := none }) (v := .bool false) rfl (by kernel_rfl) (by kernel_rfl) (by kernel_rfl) (by kernel_rfl) (fun _ _ _ h => h) (yields_take rfl (fun w' hw => by go_simp)) hS0.out ?_
    simp only [Act.put, List.setIfInBounds_toArray, List.set_cons_zero, List.set_cons_succ]
    refine wpAnyU_take (i := 3) (oi := { dst := some 38, op := _, type := _, pos := _, after := _, guard := none }) (v := .bool false) rfl (by kernel_rfl) (by kernel_rfl) (by kernel_rfl) (by kernel_rfl) (fun _ _ _ h => h) (yields_take rfl (fun w' hw => by go_simp)) hS0.out ?_
    simp only [Act.put, List.setIfInBounds_toArray, List.set_cons_zero, List.set_cons_succ]
    refine wpAnyU_take (i := 4) (oi := { dst := some 39, op := _, type := _, pos := _, after := _, guard := some (3, false) }) (v := .slice A' n' c') rfl (by kernel_rfl) (by kernel_rfl) (by kernel_rfl) (by kernel_rfl) (fun _ _ _ h => h) (yields_take rfl (fun w' hw => by go_simp)) hS0.out ?_
    simp only [Act.put, List.setIfInBounds_toArray, List.set_cons_zero, List.set_cons_succ]
    refine wpAnyU_take (i := 5) (oi := { dst := some 40, op := _, type := _, pos := _, after := _, guard := some (3, false) }) (v := .int .i64 (n' : Int)) rfl (by kernel_rfl) (by kernel_rfl) (by kernel_rfl) (by kernel_rfl) (fun _ _ _ h => h) (yields_take rfl (fun w' hw => by go_simp)) hS0.out ?_
    simp only [Act.put, List.setIfInBounds_toArray, List.set_cons_zero, List.set_cons_succ]
    refine wpAnyU_take (i := 6) (oi := { dst := some 41, op := _, type := _, pos := _, after := _, guard := some (3, false) }) (v := .bool true) rfl (by kernel_rfl) (by kernel_rfl) (by kernel_rfl) (by kernel_rfl) (fun _ _ _ h => h) (yields_take rfl (fun w' hw => by go_simp)) hS0.out ?_
    simp only [Act.put, List.setIfInBounds_toArray, List.set_cons_zero, List.set_cons_succ]
    refine wpAnyU_take (i := 7) (oi := { dst := some 42, op := _, type := _, pos := _, after := _, guard := none }) (v := .bool true) rfl (by kernel_rfl) (by kernel_rfl) (by kernel_rfl) (by kernel_rfl) (fun _ _ _ h => h) (yields_take rfl (fun w' hw => by go_simp)) hS0.out ?_
    simp only [Act.put, List.setIfInBounds_toArray, List.set_cons_zero, List.set_cons_succ]
    refine wpAnyU_take (i := 8) (oi := { dst := some 43, op := _, type := _, pos := _, after := _, guard := none }) (v := .bool true) rfl (by kernel_rfl) (by kernel_rfl) (by kernel_rfl) (by kernel_rfl) (fun _ _ _ h => h) (yields_take rfl (fun w' hw => by go_simp)) hS0.out ?_
    simp only [Act.put, List.setIfInBounds_toArray, List.set_cons_zero, List.set_cons_succ]
    refine wpAnyU_take (i := 9) (oi := { dst := some 44, op := _, type := _, pos := _, after := _, guard := some (8, false) }) (v := undef) rfl (by kernel_rfl) (by kernel_rfl) (by kernel_rfl) (by kernel_rfl) (fun _ _ _ h => h) (.inr ⟨rfl, rfl⟩) hS0.out ?_
    simp only [Act.put, List.setIfInBounds_toArray, List.set_cons_zero, List.set_cons_succ]
    refine wpAnyU_take (i := 10) (oi := { dst := some 45, op := _, type := _, pos := _, after := _, guard := some (8, false) }) (v := undef) rfl (by kernel_rfl) (by kernel_rfl) (by kernel_rfl) (by kernel_rfl) (fun _ _ _ h => h) (.inr ⟨rfl, rfl⟩) hS0.out ?_
    simp only [Act.put, List.setIfInBounds_toArray, List.set_cons_zero, List.set_cons_succ]
    refine wpAnyU_take (i := 11) (oi := { dst := some 46, op := _, type := _, pos := _, after := _, guard := some (8, false) }) (v := undef) rfl (by kernel_rfl) (by kernel_rfl) (by kernel_rfl) (by kernel_rfl) (fun _ _ _ h => h) (.inr ⟨rfl, rfl⟩) hS0.out ?_
    simp only [Act.put, List.setIfInBounds_toArray, List.set_cons_zero, List.set_cons_succ]
    refine wpAnyU_take (i := 12) (oi := { dst := some 47, op := _, type := _, pos := _, after := _, guard := some (8, false) }) (v := undef) rfl (by kernel_rfl) (by kernel_rfl) (by kernel_rfl) (by kernel_rfl) (fun _ _ _ h => h) (.inr ⟨rfl, rfl⟩) hS0.out ?_
    simp only [Act.put, List.setIfInBounds_toArray, List.set_cons_zero, List.set_cons_succ]
    refine wpAnyU_take (i := 13) (oi := { dst := some 48, op := _, type := _, pos := _, after := _, guard := some (8, false) }) (v := undef) rfl (by kernel_rfl) (by kernel_rfl) (by kernel_rfl) (by kernel_rfl) (fun _ _ _ h => h) (.inr ⟨rfl, rfl⟩) hS0.out ?_
    simp only [Act.put, List.setIfInBounds_toArray, List.set_cons_zero, List.set_cons_succ]
    refine wpAnyU_take (i := 14) (oi := { dst := some 49, op := _, type := _, pos := _, after := _, guard := some (8, false) }) (v := undef) rfl (by kernel_rfl) (by kernel_rfl) (by kernel_rfl) (by kernel_rfl) (fun _ _ _ h => h) (.inr ⟨rfl, rfl⟩) hS0.out ?_
    simp only [Act.put, List.setIfInBounds_toArray, List.set_cons_zero, List.set_cons_succ]
    refine wpAnyU_take (i := 15) (oi := { dst := some 50, op := _, type := _, pos := _, after := _, guard := some (8, false) }) (v := undef) rfl (by kernel_rfl) (by kernel_rfl) (by kernel_rfl) (by kernel_rfl) (fun _ _ _ h => h) (.inr ⟨rfl, rfl⟩) hS0.out ?_
    simp only [Act.put, List.setIfInBounds_toArray, List.set_cons_zero, List.set_cons_succ]
    refine wpAnyU_take (i := 16) (oi := { dst := some 51, op := _, type := _, pos := _, after := _, guard := none }) (v := .bool true) rfl (by kernel_rfl) (by kernel_rfl) (by kernel_rfl) (by kernel_rfl) (fun _ _ _ h => h) (yields_take rfl (fun w' hw => by go_simp)) hS0.out ?_
    simp only [Act.put, List.setIfInBounds_toArray, List.set_cons_zero, List.set_cons_succ]
    refine wpAnyU_take (i := 17) (oi := { dst := some 52, op := _, type := _, pos := _, after := _, guard := none }) (v := .bool true) rfl (by kernel_rfl) (by kernel_rfl) (by kernel_rfl) (by kernel_rfl) (fun _ _ _ h => h) (yields_take rfl (fun w' hw => by go_simp)) hS0.out ?_
    simp only [Act.put, List.setIfInBounds_toArray, List.set_cons_zero, List.set_cons_succ]
    refine wpAnyU_take (i := 18) (oi := { dst := some 53, op := _, type := _, pos := _, after := _, guard := some (17, false) }) (v := undef) rfl (by kernel_rfl) (by kernel_rfl) (by kernel_rfl) (by kernel_rfl) (fun _ _ _ h => h) (.inr ⟨rfl, rfl⟩) hS0.out ?_
    simp only [Act.put, List.setIfInBounds_toArray, List.set_cons_zero, List.set_cons_succ]
    refine wpAnyU_take (i := 19) (oi := { dst := some 54, op := _, type := _, pos := _, after := _, guard := some (17, false) }) (v := undef) rfl (by kernel_rfl) (by kernel_rfl) (by kernel_rfl) (by kernel_rfl) (fun _ _ _ h => h) (.inr ⟨rfl, rfl⟩) hS0.out ?_
    simp only [Act.put, List.setIfInBounds_toArray, List.set_cons_zero, List.set_cons_succ]
    refine wpAnyU_take (i := 20) (oi := { dst := some 55, op := _, type := _, pos := _, after := _, guard := some (17, false) }) (v := undef) rfl (by kernel_rfl) (by kernel_rfl) (by kernel_rfl) (by kernel_rfl) (fun _ _ _ h => h) (.inr ⟨rfl, rfl⟩) hS0.out ?_
    simp only [Act.put, List.setIfInBounds_toArray, List.set_cons_zero, List.set_cons_succ]
    refine wpAnyU_take (i := 21) (oi := { dst := some 56, op := _, type := _, pos := _, after := _, guard := some (17, false) }) (v := undef) rfl (by kernel_rfl) (by kernel_rfl) (by kernel_rfl) (by kernel_rfl) (fun _ _ _ h => h) (.inr ⟨rfl, rfl⟩) hS0.out ?_
    simp only [Act.put, List.setIfInBounds_toArray, List.set_cons_zero, List.set_cons_succ]
    refine wpAnyU_take (i := 22) (oi := { dst := some 57, op := _, type := _, pos := _, after := _, guard := some (17, false) }) (v := undef) rfl (by kernel_rfl) (by kernel_rfl) (by kernel_rfl) (by kernel_rfl) (fun _ _ _ h => h) (.inr ⟨rfl, rfl⟩) hS0.out ?_
    simp only [Act.put, List.setIfInBounds_toArray, List.set_cons_zero, List.set_cons_succ]
    refine wpAnyU_take (i := 23) (oi := { dst := some 58, op := _, type := _, pos := _, after := _, guard := some (17, false) }) (v := undef) rfl (by kernel_rfl) (by kernel_rfl) (by kernel_rfl) (by kernel_rfl) (fun _ _ _ h => h) (.inr ⟨rfl, rfl⟩) hS0.out ?_
    simp only [Act.put, List.setIfInBounds_toArray, List.set_cons_zero, List.set_cons_succ]
    refine wpAnyU_take (i := 24) (oi := { dst := some 59, op := _, type := _, pos := _, after := _, guard := some (17, false) }) (v := undef) rfl (by kernel_rfl) (by kernel_rfl) (by kernel_rfl) (by kernel_rfl) (fun _ _ _ h => h) (.inr ⟨rfl, rfl⟩) hS0.out ?_
    simp only [Act.put, List.setIfInBounds_toArray, List.set_cons_zero, List.set_cons_succ]
    refine wpAnyU_take (i := 25) (oi := { dst := some 60, op := _, type := _, pos := _, after := _, guard := some (17, false) }) (v := undef) rfl (by kernel_rfl) (by kernel_rfl) (by kernel_rfl) (by kernel_rfl) (fun _ _ _ h => h) (.inr ⟨rfl, rfl⟩) hS0.out ?_
    simp only [Act.put, List.setIfInBounds_toArray, List.set_cons_zero, List.set_cons_succ]
    refine wpAnyU_take (i := 26) (oi := { dst := some 61, op := _, type := _, pos := _, after := _, guard := some (17, false) }) (v := undef) rfl (by kernel_rfl) (by kernel_rfl) (by kernel_rfl) (by kernel_rfl) (fun _ _ _ h => h) (.inr ⟨rfl, rfl⟩) hS0.out ?_
    simp only [Act.put, List.setIfInBounds_toArray, List.set_cons_zero, List.set_cons_succ]
    refine wpAnyU_take (i := 27) (oi := { dst := some 62, op := _, type := _, pos := _, after := _, guard := some (17, false) }) (v := undef) rfl (by kernel_rfl) (by kernel_rfl) (by kernel_rfl) (by kernel_rfl) (fun _ _ _ h => h) (.inr ⟨rfl, rfl⟩) hS0.out ?_
    simp only [Act.put, List.setIfInBounds_toArray, List.set_cons_zero, List.set_cons_succ]
    refine wpAnyU_take (i := 28) (oi := { dst := some 63, op := _, type := _, pos := _, after := _, guard := none }) (v := .bool true) rfl (by kernel_rfl) (by kernel_rfl) (by kernel_rfl) (by kernel_rfl) (fun _ _ _ h => h) (yields_take rfl (fun w' hw => by go_simp)) hS0.out ?_
    simp only [Act.put, List.setIfInBounds_toArray, List.set_cons_zero, List.set_cons_succ]
    refine wpAnyU_take (i := 29) (oi := { dst := some 64, op := _, type := _, pos := _, after := _, guard := none }) (v := .bool true) rfl (by kernel_rfl) (by kernel_rfl) (by kernel_rfl) (by kernel_rfl) (fun _ _ _ h => h) (yields_take rfl (fun w' hw => by go_simp)) hS0.out ?_
    simp only [Act.put, List.setIfInBounds_toArray, List.set_cons_zero, List.set_cons_succ]
    refine wpAnyU_take (i := 30) (oi := { dst := some 65, op := _, type := _, pos := _, after := _, guard := some (29, false) }) (v := undef) rfl (by kernel_rfl) (by kernel_rfl) (by kernel_rfl) (by kernel_rfl) (fun _ _ _ h => h) (.inr ⟨rfl, rfl⟩) hS0.out ?_
    simp only [Act.put, List.setIfInBounds_toArray, List.set_cons_zero, List.set_cons_succ]
    refine wpAnyU_take (i := 31) (oi := { dst := some 66, op := _, type := _, pos := _, after := _, guard := some (29, false) }) (v := undef) rfl (by kernel_rfl) (by kernel_rfl) (by kernel_rfl) (by kernel_rfl) (fun _ _ _ h => h) (.inr ⟨rfl, rfl⟩) hS0.out ?_
    simp only [Act.put, List.setIfInBounds_toArray, List.set_cons_zero, List.set_cons_succ]
    refine wpAnyU_take (i := 32) (oi := { dst := some 67, op := _, type := _, pos := _, after := _, guard := some (29, false) }) (v := undef) rfl (by kernel_rfl) (by kernel_rfl) (by kernel_rfl) (by kernel_rfl) (fun _ _ _ h => h) (.inr ⟨rfl, rfl⟩) hS0.out ?_
    simp only [Act.put, List.setIfInBounds_toArray, List.set_cons_zero, List.set_cons_succ]
    refine wpAnyU_take (i := 33) (oi := { dst := some 68, op := _, type := _, pos := _, after := _, guard := some (29, false) }) (v := undef) rfl (by kernel_rfl) (by kernel_rfl) (by kernel_rfl) (by kernel_rfl) (fun _ _ _ h => h) (.inr ⟨rfl, rfl⟩) hS0.out ?_
    simp only [Act.put, List.setIfInBounds_toArray, List.set_cons_zero, List.set_cons_succ]
    refine wpAnyU_take (i := 34) (oi := { dst := some 69, op := _, type := _, pos := _, after := _, guard := some (29, false) }) (v := undef) rfl (by kernel_rfl) (by kernel_rfl) (by kernel_rfl) (by kernel_rfl) (fun _ _ _ h => h) (.inr ⟨rfl, rfl⟩) hS0.out ?_
    simp only [Act.put, List.setIfInBounds_toArray, List.set_cons_zero, List.set_cons_succ]
    refine wpAnyU_take (i := 35) (oi := { dst := some 70, op := _, type := _, pos := _, after := _, guard := some (29, false) }) (v := undef) rfl (by kernel_rfl) (by kernel_rfl) (by kernel_rfl) (by kernel_rfl) (fun _ _ _ h => h) (.inr ⟨rfl, rfl⟩) hS0.out ?_
    simp only [Act.put, List.setIfInBounds_toArray, List.set_cons_zero, List.set_cons_succ]
    refine wpAnyU_take (i := 36) (oi := { dst := some 71, op := _, type := _, pos := _, after := _, guard := some (29, false) }) (v := undef) rfl (by kernel_rfl) (by kernel_rfl) (by kernel_rfl) (by kernel_rfl) (fun _ _ _ h => h) (.inr ⟨rfl, rfl⟩) hS0.out ?_
    simp only [Act.put, List.setIfInBounds_toArray, List.set_cons_zero, List.set_cons_succ]
    refine wpAnyU_take (i := 37) (oi := { dst := some 72, op := _, type := _, pos := _, after := _, guard := some (29, false) }) (v := undef) rfl (by kernel_rfl) (by kernel_rfl) (by kernel_rfl) (by kernel_rfl) (fun _ _ _ h => h) (.inr ⟨rfl, rfl⟩) hS0.out ?_
    simp only [Act.put, List.setIfInBounds_toArray, List.set_cons_zero, List.set_cons_succ]
    refine wpAnyU_take (i := 38) (oi := { dst := some 73, op := _, type := _, pos := _, after := _, guard := some (29, false) }) (v := undef) rfl (by kernel_rfl) (by kernel_rfl) (by kernel_rfl) (by kernel_rfl) (fun _ _ _ h => h) (.inr ⟨rfl, rfl⟩) hS0.out ?_
    simp only [Act.put, List.setIfInBounds_toArray, List.set_cons_zero, List.set_cons_succ]
    refine wpAnyU_take (i := 39) (oi := { dst := some 74, op := _, type := _, pos := _, after := _, guard := some (29, false) }) (v := undef) rfl (by kernel_rfl) (by kernel_rfl) (by kernel_rfl) (by kernel_rfl) (fun _ _ _ h => h) (.inr ⟨rfl, rfl⟩) hS0.out ?_
    simp only [Act.put, List.setIfInBounds_toArray, List.set_cons_zero, List.set_cons_succ]
    refine wpAnyU_take (i := 40) (oi := { dst := some 75, op := _, type := _, pos := _, after := _, guard := none }) (v := .bool true) rfl (by kernel_rfl) (by kernel_rfl) (by kernel_rfl) (by kernel_rfl) (fun _ _ _ h => h) (yields_take rfl (fun w' hw => by go_simp)) hS0.out ?_
    simp only [Act.put, List.setIfInBounds_toArray, List.set_cons_zero, List.set_cons_succ]
    refine wpAnyU_done (by kernel_rfl) ?_ _
    clear hS0
    go_wp2
    go_ret2
    have h := HBAD.out _ (by rw [HE.out]; decide) HBD.out
    rw [HE.out] at h ⊢
    exact h
  subst h4
  obtain ⟨b1, o1, rfl, hbk1, hx1⟩ := byte_at HA.out (by omega)
  obtain ⟨b2, o2, rfl, hbk2, hx2⟩ := byte_at HA'.out (by omega)
  have hd1 := size_dims HOK.out.1
  have hd2 := size_dims HOK.out.2.1
  have q11 := hd1.at (k := 1) (by rw [HL1.out]; omega)
  have q12 := hd1.at (k := 2) (by rw [HL1.out]; omega)
  have q22 := hd2.at (k := 2) (by rw [HL2.out]; omega)
  have q23 := hd2.at (k := 3) (by rw [HL2.out]; omega)
  obtain ⟨x, hx⟩ : ∃ z, z = s.getD 0 0 := ⟨_, rfl⟩
  obtain ⟨h, hh⟩ : ∃ z, z = s.getD 1 0 := ⟨_, rfl⟩
  obtain ⟨vv, hv⟩ : ∃ z, z = s.getD 2 0 := ⟨_, rfl⟩
  obtain ⟨p, hp0⟩ : ∃ z, z = s'.getD 0 0 := ⟨_, rfl⟩
  obtain ⟨y, hy⟩ : ∃ z, z = s'.getD 1 0 := ⟨_, rfl⟩
  obtain ⟨e, he⟩ : ∃ z, z = s'.getD 2 0 := ⟨_, rfl⟩
  obtain ⟨g, hg⟩ : ∃ z, z = s'.getD 3 0 := ⟨_, rfl⟩
  have c10 := hx1 0 (by omega)
  have c11 := hx1 1 (by omega)
  have c12 := hx1 2 (by omega)
  have c20 := hx2 0 (by omega)
  have c21 := hx2 1 (by omega)
  have c22 := hx2 2 (by omega)
  have c23 := hx2 3 (by omega)
  rw [← hx] at c10
  rw [← hh] at c11 q11
  rw [← hv] at c12 q12
  rw [← hp0] at c20
  rw [← hy] at c21
  rw [← he] at c22 q22
  rw [← hg] at c23 q23
  have HK : Hid (∀ u, Below w.heap.size w u → u.cell? ⟨b1, o1, none⟩ = some (.int .i64 x) ∧ u.cell? ⟨b1, o1 + 1, none⟩ = some (.int .i64 h) ∧ u.cell? ⟨b1, o1 + 2, none⟩ = some (.int .i64 vv) ∧ u.cell? ⟨b2, o2, none⟩ = some (.int .i64 p) ∧ u.cell? ⟨b2, o2 + 1, none⟩ = some (.int .i64 y) ∧ u.cell? ⟨b2, o2 + 2, none⟩ = some (.int .i64 e) ∧ u.cell? ⟨b2, o2 + 3, none⟩ = some (.int .i64 g)) := hide (fun u hu => ⟨(hu.cell (p := ⟨b1, o1, none⟩) hbk1).trans c10, (hu.cell (p := ⟨b1, o1 + 1, none⟩) hbk1).trans c11, (hu.cell (p := ⟨b1, o1 + 2, none⟩) hbk1).trans c12, (hu.cell (p := ⟨b2, o2, none⟩) hbk2).trans c20, (hu.cell (p := ⟨b2, o2 + 1, none⟩) hbk2).trans c21, (hu.cell (p := ⟨b2, o2 + 2, none⟩) hbk2).trans c22, (hu.cell (p := ⟨b2, o2 + 3, none⟩) hbk2).trans c23⟩)
  have HXY := hide (And.intro hx hy)
  obtain ⟨pp, hpp⟩ : ∃ z, z = 2 * pad := ⟨_, rfl⟩
  obtain ⟨hp, hhp⟩ : ∃ z, z = h + pp := ⟨_, rfl⟩
  obtain ⟨vp, hvp⟩ : ∃ z, z = vv + pp := ⟨_, rfl⟩
  have m1 : IntKind.i64.wrap (2 * pad) = pp := by rw [hpp, IntKind.wrap_i64]; omega
  have m2 : IntKind.i64.wrap (h + pp) = hp := by rw [hhp, IntKind.wrap_i64]; omega
  have m3 : IntKind.i64.wrap (vv + pp) = vp := by rw [hvp, IntKind.wrap_i64]; omega
  have HLL0 : Hid (shp8L s s' step pad = [p, hm8 hp e step, hm8 vp g step]) := hide (by rw [shp8L, ← hh, ← hv, ← hp0, ← he, ← hg, ← hpp, ← hhp, ← hvp])
  have HRG : Hid (-1000 ≤ hp ∧ hp ≤ 1000 ∧ -1000 ≤ vp ∧ vp ≤ 1000) := hide (by omega)
  clear hx1 hx2 c10 c11 c12 c20 c21 c22 c23 hp0 hx hy hh hv he hg hpp hhp hvp hd1 hd2
  by_cases h5 : x = y
  rotate_left
  · have HE : Hid (shp8E s s' step pad = 10) := hide (shp8E_shape HOK.out (by rw [← HXY.out.1, ← HXY.out.2]; exact fun h => h5 h.2.2))
    have e1 : (x == y) = false := by simpa using h5
    have e2 : (x != y) = true := by simpa using h5
    go_wp2
    have hS0 : Hid ((w2.drew).cell? ⟨b1, o1, none⟩ = some (.int .i64 x) ∧ (w2.drew).cell? ⟨b1, o1 + 1, none⟩ = some (.int .i64 h) ∧ (w2.drew).cell? ⟨b1, o1 + 2, none⟩ = some (.int .i64 vv) ∧ (w2.drew).cell? ⟨b2, o2, none⟩ = some (.int .i64 p) ∧ (w2.drew).cell? ⟨b2, o2 + 1, none⟩ = some (.int .i64 y) ∧ (w2.drew).cell? ⟨b2, o2 + 2, none⟩ = some (.int .i64 e) ∧ (w2.drew).cell? ⟨b2, o2 + 3, none⟩ = some (.int .i64 g)) := hide (HK.out _ (below_drewN hb2 1))
    refine wp_region_U (fun _ v => v.cell? ⟨b1, o1, none⟩ = some (.int .i64 x) ∧ v.cell? ⟨b1, o1 + 1, none⟩ = some (.int .i64 h) ∧ v.cell? ⟨b1, o1 + 2, none⟩ = some (.int .i64 vv) ∧ v.cell? ⟨b2, o2, none⟩ = some (.int .i64 p) ∧ v.cell? ⟨b2, o2 + 1, none⟩ = some (.int .i64 y) ∧ v.cell? ⟨b2, o2 + 2, none⟩ = some (.int .i64 e) ∧ v.cell? ⟨b2, o2 + 3, none⟩ = some (.int .i64 g)) 99 (by kernel_rfl) ?_
    refine wpAnyU_take (i := 0) (oi := { dst := some 35, op := _, type := _, pos := _, after := _, guard := none }) (v := .slice (some ⟨b1, o1, none⟩) 3 c) rfl (by kernel_rfl) (by kernel_rfl) (by kernel_rfl) (by kernel_rfl) (fun _ _ _ h => h) (yields_take rfl (fun w' hw => by obtain ⟨h1, h2, h3, h4, h5, h6, h7⟩ := hw.const; go_simp)) hS0.out ?_
    simp only [Act.put, List.setIfInBounds_toArray, List.set_cons_zero, List.set_cons_succ]
    refine wpAnyU_take (i := 1) (oi := { dst := some 36, op := _, type := _, pos := _, after := _, guard := none }) (v := .int .i64 3) rfl (by kernel_rfl) (by kernel_rfl) (by kernel_rfl) (by kernel_rfl) (fun _ _ _ h => h) (yields_take rfl (fun w' hw => by obtain ⟨h1, h2, h3, h4, h5, h6, h7⟩ := hw.const; go_simp)) hS0.out ?_
    simp only [Act.put, List.setIfInBounds_toArray, List.set_cons_zero, List.set_cons_succ]
    refine wpAnyU_take (i := 2) (oi := { dst := some 37, op := _, type := _, pos := _, after := _, guard := none }) (v := .bool false) rfl (by kernel_rfl) (by kernel_rfl) (by kernel_rfl) (by kernel_rfl) (fun _ _ _ h => h) (yields_take rfl (fun w' hw => by obtain ⟨h1, h2, h3, h4, h5, h6, h7⟩ := hw.const; go_simp)) hS0.out ?_
    simp only [Act.put, List.setIfInBounds_toArray, List.set_cons_zero, List.set_cons_succ]
    refine wpAnyU_take (i := 3) (oi := { dst := some 38, op := _, type := _, pos := _, after := _, guard := none }) (v := .bool false) rfl (by kernel_rfl) (by kernel_rfl) (by kernel_rfl) (by kernel_rfl) (fun _ _ _ h => h) (yields_take rfl (fun w' hw => by obtain ⟨h1, h2, h3, h4, h5, h6, h7⟩ := hw.const; go_simp)) hS0.out ?_
    simp only [Act.put, List.setIfInBounds_toArray, List.set_cons_zero, List.set_cons_succ]
    refine wpAnyU_take (i := 4) (oi := { dst := some 39, op := _, type := _, pos := _, after := _, guard := some (3, false) }) (v := .slice (some ⟨b2, o2, none⟩) 4 c') rfl (by kernel_rfl) (by kernel_rfl) (by kernel_rfl) (by kernel_rfl) (fun _ _ _ h => h) (yields_take rfl (fun w' hw => by obtain ⟨h1, h2, h3, h4, h5, h6, h7⟩ := hw.const; go_simp)) hS0.out ?_
    simp only [Act.put, List.setIfInBounds_toArray, List.set_cons_zero, List.set_cons_succ]
    refine wpAnyU_take (i := 5) (oi := { dst := some 40, op := _, type := _, pos := _, after := _, guard := some (3, false) }) (v := .int .i64 4) rfl (by kernel_rfl) (by kernel_rfl) (by kernel_rfl) (by kernel_rfl) (fun _ _ _ h => h) (yields_take rfl (fun w' hw => by obtain ⟨h1, h2, h3, h4, h5, h6, h7⟩ := hw.const; go_simp)) hS0.out ?_
    simp only [Act.put, List.setIfInBounds_toArray, List.set_cons_zero, List.set_cons_succ]
    refine wpAnyU_take (i := 6) (oi := { dst := some 41, op := _, type := _, pos := _, after := _, guard := some (3, false) }) (v := .bool false) rfl (by kernel_rfl) (by kernel_rfl) (by kernel_rfl) (by kernel_rfl) (fun _ _ _ h => h) (yields_take rfl (fun w' hw => by obtain ⟨h1, h2, h3, h4, h5, h6, h7⟩ := hw.const; go_simp)) hS0.out ?_
    simp only [Act.put, List.setIfInBounds_toArray, List.set_cons_zero, List.set_cons_succ]
    refine wpAnyU_take (i := 7) (oi := { dst := some 42, op := _, type := _, pos := _, after := _, guard := none }) (v := .bool false) rfl (by kernel_rfl) (by kernel_rfl) (by kernel_rfl) (by kernel_rfl) (fun _ _ _ h => h) (yields_take rfl (fun w' hw => by obtain ⟨h1, h2, h3, h4, h5, h6, h7⟩ := hw.const; go_simp)) hS0.out ?_
    simp only [Act.put, List.setIfInBounds_toArray, List.set_cons_zero, List.set_cons_succ]
    refine wpAnyU_take (i := 8) (oi := { dst := some 43, op := _, type := _, pos := _, after := _, guard := none }) (v := .bool false) rfl (by kernel_rfl) (by kernel_rfl) (by kernel_rfl) (by kernel_rfl) (fun _ _ _ h => h) (yields_take rfl (fun w' hw => by obtain ⟨h1, h2, h3, h4, h5, h6, h7⟩ := hw.const; go_simp)) hS0.out ?_
    simp only [Act.put, List.setIfInBounds_toArray, List.set_cons_zero, List.set_cons_succ]
    refine wpAnyU_take (i := 9) (oi := { dst := some 44, op := _, type := _, pos := _, after := _, guard := some (8, false) }) (v := .slice (some ⟨b1, o1, none⟩) 3 c) rfl (by kernel_rfl) (by kernel_rfl) (by kernel_rfl) (by kernel_rfl) (fun _ _ _ h => h) (yields_take rfl (fun w' hw => by obtain ⟨h1, h2, h3, h4, h5, h6, h7⟩ := hw.const; go_simp)) hS0.out ?_
    simp only [Act.put, List.setIfInBounds_toArray, List.set_cons_zero, List.set_cons_succ]
    refine wpAnyU_take (i := 10) (oi := { dst := some 45, op := _, type := _, pos := _, after := _, guard := some (8, false) }) (v := .pointer (some ⟨b1, o1, none⟩)) rfl (by kernel_rfl) (by kernel_rfl) (by kernel_rfl) (by kernel_rfl) (fun _ _ _ h => h) (yields_take rfl (fun w' hw => by obtain ⟨h1, h2, h3, h4, h5, h6, h7⟩ := hw.const; go_simp)) hS0.out ?_
    simp only [Act.put, List.setIfInBounds_toArray, List.set_cons_zero, List.set_cons_succ]
    refine wpAnyU_take (i := 11) (oi := { dst := some 46, op := _, type := _, pos := _, after := _, guard := some (8, false) }) (v := .int .i64 x) rfl (by kernel_rfl) (by kernel_rfl) (by kernel_rfl) (by kernel_rfl) (fun _ _ _ h => h) (yields_take rfl (fun w' hw => by obtain ⟨h1, h2, h3, h4, h5, h6, h7⟩ := hw.const; go_simp)) hS0.out ?_
    simp only [Act.put, List.setIfInBounds_toArray, List.set_cons_zero, List.set_cons_succ]
    refine wpAnyU_take (i := 12) (oi := { dst := some 47, op := _, type := _, pos := _, after := _, guard := some (8, false) }) (v := .slice (some ⟨b2, o2, none⟩) 4 c') rfl (by kernel_rfl) (by kernel_rfl) (by kernel_rfl) (by kernel_rfl) (fun _ _ _ h => h) (yields_take rfl (fun w' hw => by obtain ⟨h1, h2, h3, h4, h5, h6, h7⟩ := hw.const; go_simp)) hS0.out ?_
    simp only [Act.put, List.setIfInBounds_toArray, List.set_cons_zero, List.set_cons_succ]
    refine wpAnyU_take (i := 13) (oi := { dst := some 48, op := _, type := _, pos := _, after := _, guard := some (8, false) }) (v := .pointer (some ⟨b2, o2 + 1, none⟩)) rfl (by kernel_rfl) (by kernel_rfl) (by kernel_rfl) (by kernel_rfl) (fun _ _ _ h => h) (yields_take rfl (fun w' hw => by obtain ⟨h1, h2, h3, h4, h5, h6, h7⟩ := hw.const; go_simp)) hS0.out ?_
    simp only [Act.put, List.setIfInBounds_toArray, List.set_cons_zero, List.set_cons_succ]
    refine wpAnyU_take (i := 14) (oi := { dst := some 49, op := _, type := _, pos := _, after := _, guard := some (8, false) }) (v := .int .i64 y) rfl (by kernel_rfl) (by kernel_rfl) (by kernel_rfl) (by kernel_rfl) (fun _ _ _ h => h) (yields_take rfl (fun w' hw => by obtain ⟨h1, h2, h3, h4, h5, h6, h7⟩ := hw.const; go_simp)) hS0.out ?_
    simp only [Act.put, List.setIfInBounds_toArray, List.set_cons_zero, List.set_cons_succ]
    refine wpAnyU_take (i := 15) (oi := { dst := some 50, op := _, type := _, pos := _, after := _, guard := some (8, false) }) (v := .bool true) rfl (by kernel_rfl) (by kernel_rfl) (by kernel_rfl) (by kernel_rfl) (fun _ _ _ h => h) (yields_take rfl (fun w' hw => by obtain ⟨h1, h2, h3, h4, h5, h6, h7⟩ := hw.const; go_simp)) hS0.out ?_
    simp only [Act.put, List.setIfInBounds_toArray, List.set_cons_zero, List.set_cons_succ]
    refine wpAnyU_take (i := 16) (oi := { dst := some 51, op := _, type := _, pos := _, after := _, guard := none }) (v := .bool true) rfl (by kernel_rfl) (by kernel_rfl) (by kernel_rfl) (by kernel_rfl) (fun _ _ _ h => h) (yields_take rfl (fun w' hw => by obtain ⟨h1, h2, h3, h4, h5, h6, h7⟩ := hw.const; go_simp)) hS0.out ?_
    simp only [Act.put, List.setIfInBounds_toArray, List.set_cons_zero, List.set_cons_succ]
    refine wpAnyU_take (i := 17) (oi := { dst := some 52, op := _, type := _, pos := _, after := _, guard := none }) (v := .bool true) rfl (by kernel_rfl) (by kernel_rfl) (by kernel_rfl) (by kernel_rfl) (fun _ _ _ h => h) (yields_take rfl (fun w' hw => by obtain ⟨h1, h2, h3, h4, h5, h6, h7⟩ := hw.const; go_simp)) hS0.out ?_
    simp only [Act.put, List.setIfInBounds_toArray, List.set_cons_zero, List.set_cons_succ]
    refine wpAnyU_take (i := 18) (oi := { dst := some 53, op := _, type := _, pos := _, after := _, guard := some (17, false) }) (v := undef) rfl (by kernel_rfl) (by kernel_rfl) (by kernel_rfl) (by kernel_rfl) (fun _ _ _ h => h) (.inr ⟨rfl, rfl⟩) hS0.out ?_
    simp only [Act.put, List.setIfInBounds_toArray, List.set_cons_zero, List.set_cons_succ]
    refine wpAnyU_take (i := 19) (oi := { dst := some 54, op := _, type := _, pos := _, after := _, guard := some (17, false) }) (v := undef) rfl (by kernel_rfl) (by kernel_rfl) (by kernel_rfl) (by kernel_rfl) (fun _ _ _ h => h) (.inr ⟨rfl, rfl⟩) hS0.out ?_
    simp only [Act.put, List.setIfInBounds_toArray, List.set_cons_zero, List.set_cons_succ]
    refine wpAnyU_take (i := 20) (oi := { dst := some 55, op := _, type := _, pos := _, after := _, guard := some (17, false) }) (v := undef) rfl (by kernel_rfl) (by kernel_rfl) (by kernel_rfl) (by kernel_rfl) (fun _ _ _ h => h) (.inr ⟨rfl, rfl⟩) hS0.out ?_
    simp only [Act.put, List.setIfInBounds_toArray, List.set_cons_zero, List.set_cons_succ]
    refine wpAnyU_take (i := 21) (oi := { dst := some 56, op := _, type := _, pos := _, after := _, guard := some (17, false) }) (v := undef) rfl (by kernel_rfl) (by kernel_rfl) (by kernel_rfl) (by kernel_rfl) (fun _ _ _ h => h) (.inr ⟨rfl, rfl⟩) hS0.out ?_
    simp only [Act.put, List.setIfInBounds_toArray, List.set_cons_zero, List.set_cons_succ]
    refine wpAnyU_take (i := 22) (oi := { dst := some 57, op := _, type := _, pos := _, after := _, guard := some (17, false) }) (v := undef) rfl (by kernel_rfl) (by kernel_rfl) (by kernel_rfl) (by kernel_rfl) (fun _ _ _ h => h) (.inr ⟨rfl, rfl⟩) hS0.out ?_
    simp only [Act.put, List.setIfInBounds_toArray, List.set_cons_zero, List.set_cons_succ]
    refine wpAnyU_take (i := 23) (oi := { dst := some 58, op := _, type := _, pos := _, after := _, guard := some (17, false) }) (v := undef) rfl (by kernel_rfl) (by kernel_rfl) (by kernel_rfl) (by kernel_rfl) (fun _ _ _ h => h) (.inr ⟨rfl, rfl⟩) hS0.out ?_
    simp only [Act.put, List.setIfInBounds_toArray, List.set_cons_zero, List.set_cons_succ]
    refine wpAnyU_take (i := 24) (oi := { dst := some 59, op := _, type := _, pos := _, after := _, guard := some (17, false) }) (v := undef) rfl (by kernel_rfl) (by kernel_rfl) (by kernel_rfl) (by kernel_rfl) (fun _ _ _ h => h) (.inr ⟨rfl, rfl⟩) hS0.out ?_
    simp only [Act.put, List.setIfInBounds_toArray, List.set_cons_zero, List.set_cons_succ]
    refine wpAnyU_take (i := 25) (oi := { dst := some 60, op := _, type := _, pos := _, after := _, guard := some (17, false) }) (v := undef) rfl (by kernel_rfl) (by kernel_rfl) (by kernel_rfl) (by kernel_rfl) (fun _ _ _ h => h) (.inr ⟨rfl, rfl⟩) hS0.out ?_
    simp only [Act.put, List.setIfInBounds_toArray, List.set_cons_zero, List.set_cons_succ]
    refine wpAnyU_take (i := 26) (oi := { dst := some 61, op := _, type := _, pos := _, after := _, guard := some (17, false) }) (v := undef) rfl (by kernel_rfl) (by kernel_rfl) (by kernel_rfl) (by kernel_rfl) (fun _ _ _ h => h) (.inr ⟨rfl, rfl⟩) hS0.out ?_
    simp only [Act.put, List.setIfInBounds_toArray, List.set_cons_zero, List.set_cons_succ]
    refine wpAnyU_take (i := 27) (oi := { dst := some 62, op := _, type := _, pos := _, after := _, guard := some (17, false) }) (v := undef) rfl (by kernel_rfl) (by kernel_rfl) (by kernel_rfl) (by kernel_rfl) (fun _ _ _ h => h) (.inr ⟨rfl, rfl⟩) hS0.out ?_
    simp only [Act.put, List.setIfInBounds_toArray, List.set_cons_zero, List.set_cons_succ]
    refine wpAnyU_take (i := 28) (oi := { dst := some 63, op := _, type := _, pos := _, after := _, guard := none }) (v := .bool true) rfl (by kernel_rfl) (by kernel_rfl) (by kernel_rfl) (by kernel_rfl) (fun _ _ _ h => h) (yields_take rfl (fun w' hw => by obtain ⟨h1, h2, h3, h4, h5, h6, h7⟩ := hw.const; go_simp)) hS0.out ?_
    simp only [Act.put, List.setIfInBounds_toArray, List.set_cons_zero, List.set_cons_succ]
    refine wpAnyU_take (i := 29) (oi := { dst := some 64, op := _, type := _, pos := _, after := _, guard := none }) (v := .bool true) rfl (by kernel_rfl) (by kernel_rfl) (by kernel_rfl) (by kernel_rfl) (fun _ _ _ h => h) (yields_take rfl (fun w' hw => by obtain ⟨h1, h2, h3, h4, h5, h6, h7⟩ := hw.const; go_simp)) hS0.out ?_
    simp only [Act.put, List.setIfInBounds_toArray, List.set_cons_zero, List.set_cons_succ]
    refine wpAnyU_take (i := 30) (oi := { dst := some 65, op := _, type := _, pos := _, after := _, guard := some (29, false) }) (v := undef) rfl (by kernel_rfl) (by kernel_rfl) (by kernel_rfl) (by kernel_rfl) (fun _ _ _ h => h) (.inr ⟨rfl, rfl⟩) hS0.out ?_
    simp only [Act.put, List.setIfInBounds_toArray, List.set_cons_zero, List.set_cons_succ]
    refine wpAnyU_take (i := 31) (oi := { dst := some 66, op := _, type := _, pos := _, after := _, guard := some (29, false) }) (v := undef) rfl (by kernel_rfl) (by kernel_rfl) (by kernel_rfl) (by kernel_rfl) (fun _ _ _ h => h) (.inr ⟨rfl, rfl⟩) hS0.out ?_
    simp only [Act.put, List.setIfInBounds_toArray, List.set_cons_zero, List.set_cons_succ]
    refine wpAnyU_take (i := 32) (oi := { dst := some 67, op := _, type := _, pos := _, after := _, guard := some (29, false) }) (v := undef) rfl (by kernel_rfl) (by kernel_rfl) (by kernel_rfl) (by kernel_rfl) (fun _ _ _ h => h) (.inr ⟨rfl, rfl⟩) hS0.out ?_
    simp only [Act.put, List.setIfInBounds_toArray, List.set_cons_zero, List.set_cons_succ]
    refine wpAnyU_take (i := 33) (oi := { dst := some 68, op := _, type := _, pos := _, after := _, guard := some (29, false) }) (v := undef) rfl (by kernel_rfl) (by kernel_rfl) (by kernel_rfl) (by kernel_rfl) (fun _ _ _ h => h) (.inr ⟨rfl, rfl⟩) hS0.out ?_
    simp only [Act.put, List.setIfInBounds_toArray, List.set_cons_zero, List.set_cons_succ]
    refine wpAnyU_take (i := 34) (oi := { dst := some 69, op := _, type := _, pos := _, after := _, guard := some (29, false) }) (v := undef) rfl (by kernel_rfl) (by kernel_rfl) (by kernel_rfl) (by kernel_rfl) (fun _ _ _ h => h) (.inr ⟨rfl, rfl⟩) hS0.out ?_
    simp only [Act.put, List.setIfInBounds_toArray, List.set_cons_zero, List.set_cons_succ]
    refine wpAnyU_take (i := 35) (oi := { dst := some 70, op := _, type := _, pos := _, after := _, guard := some (29, false) }) (v := undef) rfl (by kernel_rfl) (by kernel_rfl) (by kernel_rfl) (by kernel_rfl) (fun _ _ _ h => h) (.inr ⟨rfl, rfl⟩) hS0.out ?_
    simp only [Act.put, List.setIfInBounds_toArray, List.set_cons_zero, List.set_cons_succ]
    refine wpAnyU_take (i := 36) (oi := { dst := some 71, op := _, type := _, pos := _, after := _, guard := some (29, false) }) (v := undef) rfl (by kernel_rfl) (by kernel_rfl) (by kernel_rfl) (by kernel_rfl) (fun _ _ _ h => h) (.inr ⟨rfl, rfl⟩) hS0.out ?_
    simp only [Act.put, List.setIfInBounds_toArray, List.set_cons_zero, List.set_cons_succ]
    refine wpAnyU_take (i := 37) (oi := { dst := some 72, op := _, type := _, pos := _, after := _, guard := some (29, false) }) (v := undef) rfl (by kernel_rfl) (by kernel_rfl) (by kernel_rfl) (by kernel_rfl) (fun _ _ _ h => h) (.inr ⟨rfl, rfl⟩) hS0.out ?_
    simp only [Act.put, List.setIfInBounds_toArray, List.set_cons_zero, List.set_cons_succ]
    refine wpAnyU_take (i := 38) (oi := { dst := some 73, op := _, type := _, pos := _, after := _, guard := some (29, false) }) (v := undef) rfl (by kernel_rfl) (by kernel_rfl) (by kernel_rfl) (by kernel_rfl) (fun _ _ _ h => h) (.inr ⟨rfl, rfl⟩) hS0.out ?_
    simp only [Act.put, List.setIfInBounds_toArray, List.set_cons_zero, List.set_cons_succ]
    refine wpAnyU_take (i := 39) (oi := { dst := some 74, op := _, type := _, pos := _, after := _, guard := some (29, false) }) (v := undef) rfl (by kernel_rfl) (by kernel_rfl) (by kernel_rfl) (by kernel_rfl) (fun _ _ _ h => h) (.inr ⟨rfl, rfl⟩) hS0.out ?_
    simp only [Act.put, List.setIfInBounds_toArray, List.set_cons_zero, List.set_cons_succ]
    refine wpAnyU_take (i := 40) (oi := { dst := some 75, op := _, type := _, pos := _, after := _, guard := none }) (v := .bool true) rfl (by kernel_rfl) (by kernel_rfl) (by kernel_rfl) (by kernel_rfl) (fun _ _ _ h => h) (yields_take rfl (fun w' hw => by obtain ⟨h1, h2, h3, h4, h5, h6, h7⟩ := hw.const; go_simp)) hS0.out ?_
    simp only [Act.put, List.setIfInBounds_toArray, List.set_cons_zero, List.set_cons_succ]
    refine wpAnyU_done (by kernel_rfl) ?_ _
    clear hS0
    go_wp2
    go_ret2
    have h := HBAD.out _ (by rw [HE.out]; decide) HBD.out
    rw [HE.out] at h ⊢
    exact h
  have HEE := hide (shp8E_end HOK.out ⟨HL1.out, HL2.out, by rw [← HXY.out.1, ← HXY.out.2]; exact h5⟩)
  subst h5
  have hsz := hb2.size
  by_cases h6 : hp < e
  · have HE : Hid (shp8E s s' step pad = 10) := hide (HEE.out.2 (by rw [HLL0.out, hm8, if_pos h6]; exact size_nought p _))
    have e1 : decide (hp < e) = true := decide_eq_true h6
    go_wp2
    have hS0 : Hid ((w2.drew).cell? ⟨b1, o1, none⟩ = some (.int .i64 x) ∧ (w2.drew).cell? ⟨b1, o1 + 1, none⟩ = some (.int .i64 h) ∧ (w2.drew).cell? ⟨b1, o1 + 2, none⟩ = some (.int .i64 vv) ∧ (w2.drew).cell? ⟨b2, o2, none⟩ = some (.int .i64 p) ∧ (w2.drew).cell? ⟨b2, o2 + 1, none⟩ = some (.int .i64 x) ∧ (w2.drew).cell? ⟨b2, o2 + 2, none⟩ = some (.int .i64 e) ∧ (w2.drew).cell? ⟨b2, o2 + 3, none⟩ = some (.int .i64 g)) := hide (HK.out _ (below_drewN hb2 1))
    refine wp_region_U (fun _ v => v.cell? ⟨b1, o1, none⟩ = some (.int .i64 x) ∧ v.cell? ⟨b1, o1 + 1, none⟩ = some (.int .i64 h) ∧ v.cell? ⟨b1, o1 + 2, none⟩ = some (.int .i64 vv) ∧ v.cell? ⟨b2, o2, none⟩ = some (.int .i64 p) ∧ v.cell? ⟨b2, o2 + 1, none⟩ = some (.int .i64 x) ∧ v.cell? ⟨b2, o2 + 2, none⟩ = some (.int .i64 e) ∧ v.cell? ⟨b2, o2 + 3, none⟩ = some (.int .i64 g)) 99 (by kernel_rfl) ?_
    refine wpAnyU_take (i := 0) (oi := { dst := some 35, op := _, type := _, pos := _, after := _, guard := none }) (v := .slice (some ⟨b1, o1, none⟩) 3 c) rfl (by kernel_rfl) (by kernel_rfl) (by kernel_rfl) (by kernel_rfl) (fun _ _ _ h => h) (yields_take rfl (fun w' hw => by obtain ⟨h1, h2, h3, h4, h5, h6, h7⟩ := hw.const; go_simp)) hS0.out ?_
    simp only [Act.put, List.setIfInBounds_toArray, List.set_cons_zero, List.set_cons_succ]
    refine wpAnyU_take (i := 1) (oi := { dst := some 36, op := _, type := _, pos := _, after := _, guard := none }) (v := .int .i64 3) rfl (by kernel_rfl) (by kernel_rfl) (by kernel_rfl) (by kernel_rfl) (fun _ _ _ h => h) (yields_take rfl (fun w' hw => by obtain ⟨h1, h2, h3, h4, h5, h6, h7⟩ := hw.const; go_simp)) hS0.out ?_
    simp only [Act.put, List.setIfInBounds_toArray, List.set_cons_zero, List.set_cons_succ]
    refine wpAnyU_take (i := 2) (oi := { dst := some 37, op := _, type := _, pos := _, after := _, guard := none }) (v := .bool false) rfl (by kernel_rfl) (by kernel_rfl) (by kernel_rfl) (by kernel_rfl) (fun _ _ _ h => h) (yields_take rfl (fun w' hw => by obtain ⟨h1, h2, h3, h4, h5, h6, h7⟩ := hw.const; go_simp)) hS0.out ?_
    simp only [Act.put, List.setIfInBounds_toArray, List.set_cons_zero, List.set_cons_succ]
    refine wpAnyU_take (i := 3) (oi := { dst := some 38, op := _, type := _, pos := _, after := _, guard := none }) (v := .bool false) rfl (by kernel_rfl) (by kernel_rfl) (by kernel_rfl) (by kernel_rfl) (fun _ _ _ h => h) (yields_take rfl (fun w' hw => by obtain ⟨h1, h2, h3, h4, h5, h6, h7⟩ := hw.const; go_simp)) hS0.out ?_
    simp only [Act.put, List.setIfInBounds_toArray, List.set_cons_zero, List.set_cons_succ]
    refine wpAnyU_take (i := 4) (oi := { dst := some 39, op := _, type := _, pos := _, after := _, guard := some (3, false) }) (v := .slice (some ⟨b2, o2, none⟩) 4 c') rfl (by kernel_rfl) (by kernel_rfl) (by kernel_rfl) (by kernel_rfl) (fun _ _ _ h => h) (yields_take rfl (fun w' hw => by obtain ⟨h1, h2, h3, h4, h5, h6, h7⟩ := hw.const; go_simp)) hS0.out ?_
    simp only [Act.put, List.setIfInBounds_toArray, List.set_cons_zero, List.set_cons_succ]
    refine wpAnyU_take (i := 5) (oi := { dst := some 40, op := _, type := _, pos := _, after := _, guard := some (3, false) }) (v := .int .i64 4) rfl (by kernel_rfl) (by kernel_rfl) (by kernel_rfl) (by kernel_rfl) (fun _ _ _ h => h) (yields_take rfl (fun w' hw => by obtain ⟨h1, h2, h3, h4, h5, h6, h7⟩ := hw.const; go_simp)) hS0.out ?_
    simp only [Act.put, List.setIfInBounds_toArray, List.set_cons_zero, List.set_cons_succ]
    refine wpAnyU_take (i := 6) (oi := { dst := some 41, op := _, type := _, pos := _, after := _, guard := some (3, false) }) (v := .bool false) rfl (by kernel_rfl) (by kernel_rfl) (by kernel_rfl) (by kernel_rfl) (fun _ _ _ h => h) (yields_take rfl (fun w' hw => by obtain ⟨h1, h2, h3, h4, h5, h6, h7⟩ := hw.const; go_simp)) hS0.out ?_
    simp only [Act.put, List.setIfInBounds_toArray, List.set_cons_zero, List.set_cons_succ]
    refine wpAnyU_take (i := 7) (oi := { dst := some 42, op := _, type := _, pos := _, after := _, guard := none }) (v := .bool false) rfl (by kernel_rfl) (by kernel_rfl) (by kernel_rfl) (by kernel_rfl) (fun _ _ _ h => h) (yields_take rfl (fun w' hw => by obtain ⟨h1, h2, h3, h4, h5, h6, h7⟩ := hw.const; go_simp)) hS0.out ?_
    simp only [Act.put, List.setIfInBounds_toArray, List.set_cons_zero, List.set_cons_succ]
    refine wpAnyU_take (i := 8) (oi := { dst := some 43, op := _, type := _, pos := _, after := _, guard := none }) (v := .bool false) rfl (by kernel_rfl) (by kernel_rfl) (by kernel_rfl) (by kernel_rfl) (fun _ _ _ h => h) (yields_take rfl (fun w' hw => by obtain ⟨h1, h2, h3, h4, h5, h6, h7⟩ := hw.const; go_simp)) hS0.out ?_
    simp only [Act.put, List.setIfInBounds_toArray, List.set_cons_zero, List.set_cons_succ]
    refine wpAnyU_take (i := 9) (oi := { dst := some 44, op := _, type := _, pos := _, after := _, guard := some (8, false) }) (v := .slice (some ⟨b1, o1, none⟩) 3 c) rfl (by kernel_rfl) (by kernel_rfl) (by kernel_rfl) (by kernel_rfl) (fun _ _ _ h => h) (yields_take rfl (fun w' hw => by obtain ⟨h1, h2, h3, h4, h5, h6, h7⟩ := hw.const; go_simp)) hS0.out ?_
    simp only [Act.put, List.setIfInBounds_toArray, List.set_cons_zero, List.set_cons_succ]
    refine wpAnyU_take (i := 10) (oi := { dst := some 45, op := _, type := _, pos := _, after := _, guard := some (8, false) }) (v := .pointer (some ⟨b1, o1, none⟩)) rfl (by kernel_rfl) (by kernel_rfl) (by kernel_rfl) (by kernel_rfl) (fun _ _ _ h => h) (yields_take rfl (fun w' hw => by obtain ⟨h1, h2, h3, h4, h5, h6, h7⟩ := hw.const; go_simp)) hS0.out ?_
    simp only [Act.put, List.setIfInBounds_toArray, List.set_cons_zero, List.set_cons_succ]
    refine wpAnyU_take (i := 11) (oi := { dst := some 46, op := _, type := _, pos := _, after := _, guard := some (8, false) }) (v := .int .i64 x) rfl (by kernel_rfl) (by kernel_rfl) (by kernel_rfl) (by kernel_rfl) (fun _ _ _ h => h) (yields_take rfl (fun w' hw => by obtain ⟨h1, h2, h3, h4, h5, h6, h7⟩ := hw.const; go_simp)) hS0.out ?_
    simp only [Act.put, List.setIfInBounds_toArray, List.set_cons_zero, List.set_cons_succ]
    refine wpAnyU_take (i := 12) (oi := { dst := some 47, op := _, type := _, pos := _, after := _, guard := some (8, false) }) (v := .slice (some ⟨b2, o2, none⟩) 4 c') rfl (by kernel_rfl) (by kernel_rfl) (by kernel_rfl) (by kernel_rfl) (fun _ _ _ h => h) (yields_take rfl (fun w' hw => by obtain ⟨h1, h2, h3, h4, h5, h6, h7⟩ := hw.const; go_simp)) hS0.out ?_
    simp only [Act.put, List.setIfInBounds_toArray, List.set_cons_zero, List.set_cons_succ]
    refine wpAnyU_take (i := 13) (oi := { dst := some 48, op := _, type := _, pos := _, after := _, guard := some (8, false) }) (v := .pointer (some ⟨b2, o2 + 1, none⟩)) rfl (by kernel_rfl) (by kernel_rfl) (by kernel_rfl) (by kernel_rfl) (fun _ _ _ h => h) (yields_take rfl (fun w' hw => by obtain ⟨h1, h2, h3, h4, h5, h6, h7⟩ := hw.const; go_simp)) hS0.out ?_
    simp only [Act.put, List.setIfInBounds_toArray, List.set_cons_zero, List.set_cons_succ]
    refine wpAnyU_take (i := 14) (oi := { dst := some 49, op := _, type := _, pos := _, after := _, guard := some (8, false) }) (v := .int .i64 x) rfl (by kernel_rfl) (by kernel_rfl) (by kernel_rfl) (by kernel_rfl) (fun _ _ _ h => h) (yields_take rfl (fun w' hw => by obtain ⟨h1, h2, h3, h4, h5, h6, h7⟩ := hw.const; go_simp)) hS0.out ?_
    simp only [Act.put, List.setIfInBounds_toArray, List.set_cons_zero, List.set_cons_succ]
    refine wpAnyU_take (i := 15) (oi := { dst := some 50, op := _, type := _, pos := _, after := _, guard := some (8, false) }) (v := .bool false) rfl (by kernel_rfl) (by kernel_rfl) (by kernel_rfl) (by kernel_rfl) (fun _ _ _ h => h) (yields_take rfl (fun w' hw => by obtain ⟨h1, h2, h3, h4, h5, h6, h7⟩ := hw.const; go_simp)) hS0.out ?_
    simp only [Act.put, List.setIfInBounds_toArray, List.set_cons_zero, List.set_cons_succ]
    refine wpAnyU_take (i := 16) (oi := { dst := some 51, op := _, type := _, pos := _, after := _, guard := none }) (v := .bool false) rfl (by kernel_rfl) (by kernel_rfl) (by kernel_rfl) (by kernel_rfl) (fun _ _ _ h => h) (yields_take rfl (fun w' hw => by obtain ⟨h1, h2, h3, h4, h5, h6, h7⟩ := hw.const; go_simp)) hS0.out ?_
    simp only [Act.put, List.setIfInBounds_toArray, List.set_cons_zero, List.set_cons_succ]
    refine wpAnyU_take (i := 17) (oi := { dst := some 52, op := _, type := _, pos := _, after := _, guard := none }) (v := .bool false) rfl (by kernel_rfl) (by kernel_rfl) (by kernel_rfl) (by kernel_rfl) (fun _ _ _ h => h) (yields_take rfl (fun w' hw => by obtain ⟨h1, h2, h3, h4, h5, h6, h7⟩ := hw.const; go_simp)) hS0.out ?_
    simp only [Act.put, List.setIfInBounds_toArray, List.set_cons_zero, List.set_cons_succ]
    refine wpAnyU_take (i := 18) (oi := { dst := some 53, op := _, type := _, pos := _, after := _, guard := some (17, false) }) (v := .slice (some ⟨b1, o1, none⟩) 3 c) rfl (by kernel_rfl) (by kernel_rfl) (by kernel_rfl) (by kernel_rfl) (fun _ _ _ h => h) (yields_take rfl (fun w' hw => by obtain ⟨h1, h2, h3, h4, h5, h6, h7⟩ := hw.const; go_simp)) hS0.out ?_
    simp only [Act.put, List.setIfInBounds_toArray, List.set_cons_zero, List.set_cons_succ]
    refine wpAnyU_take (i := 19) (oi := { dst := some 54, op := _, type := _, pos := _, after := _, guard := some (17, false) }) (v := .pointer (some ⟨b1, o1 + 1, none⟩)) rfl (by kernel_rfl) (by kernel_rfl) (by kernel_rfl) (by kernel_rfl) (fun _ _ _ h => h) (yields_take rfl (fun w' hw => by obtain ⟨h1, h2, h3, h4, h5, h6, h7⟩ := hw.const; go_simp)) hS0.out ?_
    simp only [Act.put, List.setIfInBounds_toArray, List.set_cons_zero, List.set_cons_succ]
    refine wpAnyU_take (i := 20) (oi := { dst := some 55, op := _, type := _, pos := _, after := _, guard := some (17, false) }) (v := .int .i64 h) rfl (by kernel_rfl) (by kernel_rfl) (by kernel_rfl) (by kernel_rfl) (fun _ _ _ h => h) (yields_take rfl (fun w' hw => by obtain ⟨h1, h2, h3, h4, h5, h6, h7⟩ := hw.const; go_simp)) hS0.out ?_
    simp only [Act.put, List.setIfInBounds_toArray, List.set_cons_zero, List.set_cons_succ]
    refine wpAnyU_take (i := 21) (oi := { dst := some 56, op := _, type := _, pos := _, after := _, guard := some (17, false) }) (v := .int .i64 pad) rfl (by kernel_rfl) (by kernel_rfl) (by kernel_rfl) (by kernel_rfl) (fun _ _ _ h => h) (yields_take rfl (fun w' hw => by obtain ⟨h1, h2, h3, h4, h5, h6, h7⟩ := hw.const; go_simp)) hS0.out ?_
    simp only [Act.put, List.setIfInBounds_toArray, List.set_cons_zero, List.set_cons_succ]
    refine wpAnyU_take (i := 22) (oi := { dst := some 57, op := _, type := _, pos := _, after := _, guard := some (17, false) }) (v := .int .i64 pp) rfl (by kernel_rfl) (by kernel_rfl) (by kernel_rfl) (by kernel_rfl) (fun _ _ _ h => h) (yields_take rfl (fun w' hw => by obtain ⟨h1, h2, h3, h4, h5, h6, h7⟩ := hw.const; go_simp)) hS0.out ?_
    simp only [Act.put, List.setIfInBounds_toArray, List.set_cons_zero, List.set_cons_succ]
    refine wpAnyU_take (i := 23) (oi := { dst := some 58, op := _, type := _, pos := _, after := _, guard := some (17, false) }) (v := .int .i64 hp) rfl (by kernel_rfl) (by kernel_rfl) (by kernel_rfl) (by kernel_rfl) (fun _ _ _ h => h) (yields_take rfl (fun w' hw => by obtain ⟨h1, h2, h3, h4, h5, h6, h7⟩ := hw.const; go_simp)) hS0.out ?_
    simp only [Act.put, List.setIfInBounds_toArray, List.set_cons_zero, List.set_cons_succ]
    refine wpAnyU_take (i := 24) (oi := { dst := some 59, op := _, type := _, pos := _, after := _, guard := some (17, false) }) (v := .slice (some ⟨b2, o2, none⟩) 4 c') rfl (by kernel_rfl) (by kernel_rfl) (by kernel_rfl) (by kernel_rfl) (fun _ _ _ h => h) (yields_take rfl (fun w' hw => by obtain ⟨h1, h2, h3, h4, h5, h6, h7⟩ := hw.const; go_simp)) hS0.out ?_
    simp only [Act.put, List.setIfInBounds_toArray, List.set_cons_zero, List.set_cons_succ]
    refine wpAnyU_take (i := 25) (oi := { dst := some 60, op := _, type := _, pos := _, after := _, guard := some (17, false) }) (v := .pointer (some ⟨b2, o2 + 2, none⟩)) rfl (by kernel_rfl) (by kernel_rfl) (by kernel_rfl) (by kernel_rfl) (fun _ _ _ h => h) (yields_take rfl (fun w' hw => by obtain ⟨h1, h2, h3, h4, h5, h6, h7⟩ := hw.const; go_simp)) hS0.out ?_
    simp only [Act.put, List.setIfInBounds_toArray, List.set_cons_zero, List.set_cons_succ]
    refine wpAnyU_take (i := 26) (oi := { dst := some 61, op := _, type := _, pos := _, after := _, guard := some (17, false) }) (v := .int .i64 e) rfl (by kernel_rfl) (by kernel_rfl) (by kernel_rfl) (by kernel_rfl) (fun _ _ _ h => h) (yields_take rfl (fun w' hw => by obtain ⟨h1, h2, h3, h4, h5, h6, h7⟩ := hw.const; go_simp)) hS0.out ?_
    simp only [Act.put, List.setIfInBounds_toArray, List.set_cons_zero, List.set_cons_succ]
    refine wpAnyU_take (i := 27) (oi := { dst := some 62, op := _, type := _, pos := _, after := _, guard := some (17, false) }) (v := .bool true) rfl (by kernel_rfl) (by kernel_rfl) (by kernel_rfl) (by kernel_rfl) (fun _ _ _ h => h) (yields_take rfl (fun w' hw => by obtain ⟨h1, h2, h3, h4, h5, h6, h7⟩ := hw.const; go_simp)) hS0.out ?_
    simp only [Act.put, List.setIfInBounds_toArray, List.set_cons_zero, List.set_cons_succ]
    refine wpAnyU_take (i := 28) (oi := { dst := some 63, op := _, type := _, pos := _, after := _, guard := none }) (v := .bool true) rfl (by kernel_rfl) (by kernel_rfl) (by kernel_rfl) (by kernel_rfl) (fun _ _ _ h => h) (yields_take rfl (fun w' hw => by obtain ⟨h1, h2, h3, h4, h5, h6, h7⟩ := hw.const; go_simp)) hS0.out ?_
    simp only [Act.put, List.setIfInBounds_toArray, List.set_cons_zero, List.set_cons_succ]
    refine wpAnyU_take (i := 29) (oi := { dst := some 64, op := _, type := _, pos := _, after := _, guard := none }) (v := .bool true) rfl (by kernel_rfl) (by kernel_rfl) (by kernel_rfl) (by kernel_rfl) (fun _ _ _ h => h) (yields_take rfl (fun w' hw => by obtain ⟨h1, h2, h3, h4, h5, h6, h7⟩ := hw.const; go_simp)) hS0.out ?_
    simp only [Act.put, List.setIfInBounds_toArray, List.set_cons_zero, List.set_cons_succ]
    refine wpAnyU_take (i := 30) (oi := { dst := some 65, op := _, type := _, pos := _, after := _, guard := some (29, false) }) (v := undef) rfl (by kernel_rfl) (by kernel_rfl) (by kernel_rfl) (by kernel_rfl) (fun _ _ _ h => h) (.inr ⟨rfl, rfl⟩) hS0.out ?_
    simp only [Act.put, List.setIfInBounds_toArray, List.set_cons_zero, List.set_cons_succ]
    refine wpAnyU_take (i := 31) (oi := { dst := some 66, op := _, type := _, pos := _, after := _, guard := some (29, false) }) (v := undef) rfl (by kernel_rfl) (by kernel_rfl) (by kernel_rfl) (by kernel_rfl) (fun _ _ _ h => h) (.inr ⟨rfl, rfl⟩) hS0.out ?_
    simp only [Act.put, List.setIfInBounds_toArray, List.set_cons_zero, List.set_cons_succ]
    refine wpAnyU_take (i := 32) (oi := { dst := some 67, op := _, type := _, pos := _, after := _, guard := some (29, false) }) (v := undef) rfl (by kernel_rfl) (by kernel_rfl) (by kernel_rfl) (by kernel_rfl) (fun _ _ _ h => h) (.inr ⟨rfl, rfl⟩) hS0.out ?_
    simp only [Act.put, List.setIfInBounds_toArray, List.set_cons_zero, List.set_cons_succ]
    refine wpAnyU_take (i := 33) (oi := { dst := some 68, op := _, type := _, pos := _, after := _, guard := some (29, false) }) (v := undef) rfl (by kernel_rfl) (by kernel_rfl) (by kernel_rfl) (by kernel_rfl) (fun _ _ _ h => h) (.inr ⟨rfl, rfl⟩) hS0.out ?_
    simp only [Act.put, List.setIfInBounds_toArray, List.set_cons_zero, List.set_cons_succ]
    refine wpAnyU_take (i := 34) (oi := { dst := some 69, op := _, type := _, pos := _, after := _, guard := some (29, false) }) (v := undef) rfl (by kernel_rfl) (by kernel_rfl) (by kernel_rfl) (by kernel_rfl) (fun _ _ _ h => h) (.inr ⟨rfl, rfl⟩) hS0.out ?_
    simp only [Act.put, List.setIfInBounds_toArray, List.set_cons_zero, List.set_cons_succ]
    refine wpAnyU_take (i := 35) (oi := { dst := some 70, op := _, type := _, pos := _, after := _, guard := some (29, false) }) (v := undef) rfl (by kernel_rfl) (by kernel_rfl) (by kernel_rfl) (by kernel_rfl) (fun _ _ _ h => h) (.inr ⟨rfl, rfl⟩) hS0.out ?_
    simp only [Act.put, List.setIfInBounds_toArray, List.set_cons_zero, List.set_cons_succ]
    refine wpAnyU_take (i := 36) (oi := { dst := some 71, op := _, type := _, pos := _, after := _, guard := some (29, false) }) (v := undef) rfl (by kernel_rfl) (by kernel_rfl) (by kernel_rfl) (by kernel_rfl) (fun _ _ _ h => h) (.inr ⟨rfl, rfl⟩) hS0.out ?_
    simp only [Act.put, List.setIfInBounds_toArray, List.set_cons_zero, List.set_cons_succ]
    refine wpAnyU_take (i := 37) (oi := { dst := some 72, op := _, type := _, pos := _, after := _, guard := some (29, false) }) (v := undef) rfl (by kernel_rfl) (by kernel_rfl) (by kernel_rfl) (by kernel_rfl) (fun _ _ _ h => h) (.inr ⟨rfl, rfl⟩) hS0.out ?_
    simp only [Act.put, List.setIfInBounds_toArray, List.set_cons_zero, List.set_cons_succ]
    refine wpAnyU_take (i := 38) (oi := { dst := some 73, op := _, type := _, pos := _, after := _, guard := some (29, false) }) (v := undef) rfl (by kernel_rfl) (by kernel_rfl) (by kernel_rfl) (by kernel_rfl) (fun _ _ _ h => h) (.inr ⟨rfl, rfl⟩) hS0.out ?_
    simp only [Act.put, List.setIfInBounds_toArray, List.set_cons_zero, List.set_cons_succ]
    refine wpAnyU_take (i := 39) (oi := { dst := some 74, op := _, type := _, pos := _, after := _, guard := some (29, false) }) (v := undef) rfl (by kernel_rfl) (by kernel_rfl) (by kernel_rfl) (by kernel_rfl) (fun _ _ _ h => h) (.inr ⟨rfl, rfl⟩) hS0.out ?_
    simp only [Act.put, List.setIfInBounds_toArray, List.set_cons_zero, List.set_cons_succ]
    refine wpAnyU_take (i := 40) (oi := { dst := some 75, op := _, type := _, pos := _, after := _, guard := none }) (v := .bool true) rfl (by kernel_rfl) (by kernel_rfl) (by kernel_rfl) (by kernel_rfl) (fun _ _ _ h => h) (yields_take rfl (fun w' hw => by obtain ⟨h1, h2, h3, h4, h5, h6, h7⟩ := hw.const; go_simp)) hS0.out ?_
    simp only [Act.put, List.setIfInBounds_toArray, List.set_cons_zero, List.set_cons_succ]
    refine wpAnyU_done (by kernel_rfl) ?_ _
    clear hS0
    go_wp2
    go_ret2
    have h := HBAD.out _ (by rw [HE.out]; decide) HBD.out
    rw [HE.out] at h ⊢
    exact h
  have e6 : decide (hp < e) = false := decide_eq_false h6
  by_cases h7 : vp < g
  · have HE : Hid (shp8E s s' step pad = 10) := hide (HEE.out.2 (by rw [HLL0.out, show hm8 vp g step = 0 by rw [hm8, if_pos h7]]; exact size_nought2 p _))
    have e1 : decide (vp < g) = true := decide_eq_true h7
    go_wp2
    have hS0 : Hid ((w2.drew).cell? ⟨b1, o1, none⟩ = some (.int .i64 x) ∧ (w2.drew).cell? ⟨b1, o1 + 1, none⟩ = some (.int .i64 h) ∧ (w2.drew).cell? ⟨b1, o1 + 2, none⟩ = some (.int .i64 vv) ∧ (w2.drew).cell? ⟨b2, o2, none⟩ = some (.int .i64 p) ∧ (w2.drew).cell? ⟨b2, o2 + 1, none⟩ = some (.int .i64 x) ∧ (w2.drew).cell? ⟨b2, o2 + 2, none⟩ = some (.int .i64 e) ∧ (w2.drew).cell? ⟨b2, o2 + 3, none⟩ = some (.int .i64 g)) := hide (HK.out _ (below_drewN hb2 1))
    refine wp_region_U (fun _ v => v.cell? ⟨b1, o1, none⟩ = some (.int .i64 x) ∧ v.cell? ⟨b1, o1 + 1, none⟩ = some (.int .i64 h) ∧ v.cell? ⟨b1, o1 + 2, none⟩ = some (.int .i64 vv) ∧ v.cell? ⟨b2, o2, none⟩ = some (.int .i64 p) ∧ v.cell? ⟨b2, o2 + 1, none⟩ = some (.int .i64 x) ∧ v.cell? ⟨b2, o2 + 2, none⟩ = some (.int .i64 e) ∧ v.cell? ⟨b2, o2 + 3, none⟩ = some (.int .i64 g)) 99 (by kernel_rfl) ?_
    refine wpAnyU_take (i := 0) (oi := { dst := some 35, op := _, type := _, pos := _, after := _, guard := none }) (v := .slice (some ⟨b1, o1, none⟩) 3 c) rfl (by kernel_rfl) (by kernel_rfl) (by kernel_rfl) (by kernel_rfl) (fun _ _ _ h => h) (yields_take rfl (fun w' hw => by obtain ⟨h1, h2, h3, h4, h5, h6, h7⟩ := hw.const; go_simp)) hS0.out ?_
    simp only [Act.put, List.setIfInBounds_toArray, List.set_cons_zero, List.set_cons_succ]
    refine wpAnyU_take (i := 1) (oi := { dst := some 36, op := _, type := _, pos := _, after := _, guard := none }) (v := .int .i64 3) rfl (by kernel_rfl) (by kernel_rfl) (by kernel_rfl) (by kernel_rfl) (fun _ _ _ h => h) (yields_take rfl (fun w' hw => by obtain ⟨h1, h2, h3, h4, h5, h6, h7⟩ := hw.const; go_simp)) hS0.out ?_
    simp only [Act.put, List.setIfInBounds_toArray, List.set_cons_zero, List.set_cons_succ]
    refine wpAnyU_take (i := 2) (oi := { dst := some 37, op := _, type := _, pos := _, after := _, guard := none }) (v := .bool false) rfl (by kernel_rfl) (by kernel_rfl) (by kernel_rfl) (by kernel_rfl) (fun _ _ _ h => h) (yields_take rfl (fun w' hw => by obtain ⟨h1, h2, h3, h4, h5, h6, h7⟩ := hw.const; go_simp)) hS0.out ?_
    simp only [Act.put, List.setIfInBounds_toArray, List.set_cons_zero, List.set_cons_succ]
    refine wpAnyU_take (i := 3) (oi := { dst := some 38, op := _, type := _, pos := _, after := _, guard := none }) (v := .bool false) rfl (by kernel_rfl) (by kernel_rfl) (by kernel_rfl) (by kernel_rfl) (fun _ _ _ h => h) (yields_take rfl (fun w' hw => by obtain ⟨h1, h2, h3, h4, h5, h6, h7⟩ := hw.const; go_simp)) hS0.out ?_
    simp only [Act.put, List.setIfInBounds_toArray, List.set_cons_zero, List.set_cons_succ]
    refine wpAnyU_take (i := 4) (oi := { dst := some 39, op := _, type := _, pos := _, after := _, guard := some (3, false) }) (v := .slice (some ⟨b2, o2, none⟩) 4 c') rfl (by kernel_rfl) (by kernel_rfl) (by kernel_rfl) (by kernel_rfl) (fun _ _ _ h => h) (yields_take rfl (fun w' hw => by obtain ⟨h1, h2, h3, h4, h5, h6, h7⟩ := hw.const; go_simp)) hS0.out ?_
    simp only [Act.put, List.setIfInBounds_toArray, List.set_cons_zero, List.set_cons_succ]
    refine wpAnyU_take (i := 5) (oi := { dst := some 40, op := _, type := _, pos := _, after := _, guard := some (3, false) }) (v := .int .i64 4) rfl (by kernel_rfl) (by kernel_rfl) (by kernel_rfl) (by kernel_rfl) (fun _ _ _ h => h) (yields_take rfl (fun w' hw => by obtain ⟨h1, h2, h3, h4, h5, h6, h7⟩ := hw.const; go_simp)) hS0.out ?_
    simp only [Act.put, List.setIfInBounds_toArray, List.set_cons_zero, List.set_cons_succ]
    refine wpAnyU_take (i := 6) (oi := { dst := some 41, op := _, type := _, pos := _, after := _, guard := some (3, false) }) (v := .bool false) rfl (by kernel_rfl) (by kernel_rfl) (by kernel_rfl) (by kernel_rfl) (fun _ _ _ h => h) (yields_take rfl (fun w' hw => by obtain ⟨h1, h2, h3, h4, h5, h6, h7⟩ := hw.const; go_simp)) hS0.out ?_
    simp only [Act.put, List.setIfInBounds_toArray, List.set_cons_zero, List.set_cons_succ]
    refine wpAnyU_take (i := 7) (oi := { dst := some 42, op := _, type := _, pos := _, after := _, guard := none }) (v := .bool false) rfl (by kernel_rfl) (by kernel_rfl) (by kernel_rfl) (by kernel_rfl) (fun _ _ _ h => h) (yields_take rfl (fun w' hw => by obtain ⟨h1, h2, h3, h4, h5, h6, h7⟩ := hw.const; go_simp)) hS0.out ?_
    simp only [Act.put, List.setIfInBounds_toArray, List.set_cons_zero, List.set_cons_succ]
    refine wpAnyU_take (i := 8) (oi := { dst := some 43, op := _, type := _, pos := _, after := _, guard := none }) (v := .bool false) rfl (by kernel_rfl) (by kernel_rfl) (by kernel_rfl) (by kernel_rfl) (fun _ _ _ h => h) (yields_take rfl (fun w' hw => by obtain ⟨h1, h2, h3, h4, h5, h6, h7⟩ := hw.const; go_simp)) hS0.out ?_
    simp only [Act.put, List.setIfInBounds_toArray, List.set_cons_zero, List.set_cons_succ]
    refine wpAnyU_take (i := 9) (oi := { dst := some 44, op := _, type := _, pos := _, after := _, guard := some (8, false) }) (v := .slice (some ⟨b1, o1, none⟩) 3 c) rfl (by kernel_rfl) (by kernel_rfl) (by kernel_rfl) (by kernel_rfl) (fun _ _ _ h => h) (yields_take rfl (fun w' hw => by obtain ⟨h1, h2, h3, h4, h5, h6, h7⟩ := hw.const; go_simp)) hS0.out ?_
    simp only [Act.put, List.setIfInBounds_toArray, List.set_cons_zero, List.set_cons_succ]
    refine wpAnyU_take (i := 10) (oi := { dst := some 45, op := _, type := _, pos := _, after := _, guard := some (8, false) }) (v := .pointer (some ⟨b1, o1, none⟩)) rfl (by kernel_rfl) (by kernel_rfl) (by kernel_rfl) (by kernel_rfl) (fun _ _ _ h => h) (yields_take rfl (fun w' hw => by obtain ⟨h1, h2, h3, h4, h5, h6, h7⟩ := hw.const; go_simp)) hS0.out ?_
    simp only [Act.put, List.setIfInBounds_toArray, List.set_cons_zero, List.set_cons_succ]
    refine wpAnyU_take (i := 11) (oi := { dst := some 46, op := _, type := _, pos := _, after := _, guard := some (8, false) }) (v := .int .i64 x) rfl (by kernel_rfl) (by kernel_rfl) (by kernel_rfl) (by kernel_rfl) (fun _ _ _ h => h) (yields_take rfl (fun w' hw => by obtain ⟨h1, h2, h3, h4, h5, h6, h7⟩ := hw.const; go_simp)) hS0.out ?_
    simp only [Act.put, List.setIfInBounds_toArray, List.set_cons_zero, List.set_cons_succ]
    refine wpAnyU_take (i := 12) (oi := { dst := some 47, op := _, type := _, pos := _, after := _, guard := some (8, false) }) (v := .slice (some ⟨b2, o2, none⟩) 4 c') rfl (by kernel_rfl) (by kernel_rfl) (by kernel_rfl) (by kernel_rfl) (fun _ _ _ h => h) (yields_take rfl (fun w' hw => by obtain ⟨h1, h2, h3, h4, h5, h6, h7⟩ := hw.const; go_simp)) hS0.out ?_
    simp only [Act.put, List.setIfInBounds_toArray, List.set_cons_zero, List.set_cons_succ]
    refine wpAnyU_take (i := 13) (oi := { dst := some 48, op := _, type := _, pos := _, after := _, guard := some (8, false) }) (v := .pointer (some ⟨b2, o2 + 1, none⟩)) rfl (by kernel_rfl) (by kernel_rfl) (by kernel_rfl) (by kernel_rfl) (fun _ _ _ h => h) (yields_take rfl (fun w' hw => by obtain ⟨h1, h2, h3, h4, h5, h6, h7⟩ := hw.const; go_simp)) hS0.out ?_
    simp only [Act.put, List.setIfInBounds_toArray, List.set_cons_zero, List.set_cons_succ]
    refine wpAnyU_take (i := 14) (oi := { dst := some 49, op := _, type := _, pos := _, after := _, guard := some (8, false) }) (v := .int .i64 x) rfl (by kernel_rfl) (by kernel_rfl) (by kernel_rfl) (by kernel_rfl) (fun _ _ _ h => h) (yields_take rfl (fun w' hw => by obtain ⟨h1, h2, h3, h4, h5, h6, h7⟩ := hw.const; go_simp)) hS0.out ?_
    simp only [Act.put, List.setIfInBounds_toArray, List.set_cons_zero, List.set_cons_succ]
    refine wpAnyU_take (i := 15) (oi := { dst := some 50, op := _, type := _, pos := _, after := _, guard := some (8, false) }) (v := .bool false) rfl (by kernel_rfl) (by kernel_rfl) (by kernel_rfl) (by kernel_rfl) (fun _ _ _ h => h) (yields_take rfl (fun w' hw => by obtain ⟨h1, h2, h3, h4, h5, h6, h7⟩ := hw.const; go_simp)) hS0.out ?_
    simp only [Act.put, List.setIfInBounds_toArray, List.set_cons_zero, List.set_cons_succ]
    refine wpAnyU_take (i := 16) (oi := { dst := some 51, op := _, type := _, pos := _, after := _, guard := none }) (v := .bool false) rfl (by kernel_rfl) (by kernel_rfl) (by kernel_rfl) (by kernel_rfl) (fun _ _ _ h => h) (yields_take rfl (fun w' hw => by obtain ⟨h1, h2, h3, h4, h5, h6, h7⟩ := hw.const; go_simp)) hS0.out ?_
    simp only [Act.put, List.setIfInBounds_toArray, List.set_cons_zero, List.set_cons_succ]
    refine wpAnyU_take (i := 17) (oi := { dst := some 52, op := _, type := _, pos := _, after := _, guard := none }) (v := .bool false) rfl (by kernel_rfl) (by kernel_rfl) (by kernel_rfl) (by kernel_rfl) (fun _ _ _ h => h) (yields_take rfl (fun w' hw => by obtain ⟨h1, h2, h3, h4, h5, h6, h7⟩ := hw.const; go_simp)) hS0.out ?_
    simp only [Act.put, List.setIfInBounds_toArray, List.set_cons_zero, List.set_cons_succ]
    refine wpAnyU_take (i := 18) (oi := { dst := some 53, op := _, type := _, pos := _, after := _, guard := some (17, false) }) (v := .slice (some ⟨b1, o1, none⟩) 3 c) rfl (by kernel_rfl) (by kernel_rfl) (by kernel_rfl) (by kernel_rfl) (fun _ _ _ h => h) (yields_take rfl (fun w' hw => by obtain ⟨h1, h2, h3, h4, h5, h6, h7⟩ := hw.const; go_simp)) hS0.out ?_
    simp only [Act.put, List.setIfInBounds_toArray, List.set_cons_zero, List.set_cons_succ]
    refine wpAnyU_take (i := 19) (oi := { dst := some 54, op := _, type := _, pos := _, after := _, guard := some (17, false) }) (v := .pointer (some ⟨b1, o1 + 1, none⟩)) rfl (by kernel_rfl) (by kernel_rfl) (by kernel_rfl) (by kernel_rfl) (fun _ _ _ h => h) (yields_take rfl (fun w' hw => by obtain ⟨h1, h2, h3, h4, h5, h6, h7⟩ := hw.const; go_simp)) hS0.out ?_
    simp only [Act.put, List.setIfInBounds_toArray, List.set_cons_zero, List.set_cons_succ]
    refine wpAnyU_take (i := 20) (oi := { dst := some 55, op := _, type := _, pos := _, after := _, guard := some (17, false) }) (v := .int .i64 h) rfl (by kernel_rfl) (by kernel_rfl) (by kernel_rfl) (by kernel_rfl) (fun _ _ _ h => h) (yields_take rfl (fun w' hw => by obtain ⟨h1, h2, h3, h4, h5, h6, h7⟩ := hw.const; go_simp)) hS0.out ?_
    simp only [Act.put, List.setIfInBounds_toArray, List.set_cons_zero, List.set_cons_succ]
    refine wpAnyU_take (i := 21) (oi := { dst := some 56, op := _, type := _, pos := _, after := _, guard := some (17, false) }) (v := .int .i64 pad) rfl (by kernel_rfl) (by kernel_rfl) (by kernel_rfl) (by kernel_rfl) (fun _ _ _ h => h) (yields_take rfl (fun w' hw => by obtain ⟨h1, h2, h3, h4, h5, h6, h7⟩ := hw.const; go_simp)) hS0.out ?_
    simp only [Act.put, List.setIfInBounds_toArray, List.set_cons_zero, List.set_cons_succ]
    refine wpAnyU_take (i := 22) (oi := { dst := some 57, op := _, type := _, pos := _, after := _, guard := some (17, false) }) (v := .int .i64 pp) rfl (by kernel_rfl) (by kernel_rfl) (by kernel_rfl) (by kernel_rfl) (fun _ _ _ h => h) (yields_take rfl (fun w' hw => by obtain ⟨h1, h2, h3, h4, h5, h6, h7⟩ := hw.const; go_simp)) hS0.out ?_
    simp only [Act.put, List.setIfInBounds_toArray, List.set_cons_zero, List.set_cons_succ]
    refine wpAnyU_take (i := 23) (oi := { dst := some 58, op := _, type := _, pos := _, after := _, guard := some (17, false) }) (v := .int .i64 hp) rfl (by kernel_rfl) (by kernel_rfl) (by kernel_rfl) (by kernel_rfl) (fun _ _ _ h => h) (yields_take rfl (fun w' hw => by obtain ⟨h1, h2, h3, h4, h5, h6, h7⟩ := hw.const; go_simp)) hS0.out ?_
    simp only [Act.put, List.setIfInBounds_toArray, List.set_cons_zero, List.set_cons_succ]
    refine wpAnyU_take (i := 24) (oi := { dst := some 59, op := _, type := _, pos := _, after := _, guard := some (17, false) }) (v := .slice (some ⟨b2, o2, none⟩) 4 c') rfl (by kernel_rfl) (by kernel_rfl) (by kernel_rfl) (by kernel_rfl) (fun _ _ _ h => h) (yields_take rfl (fun w' hw => by obtain ⟨h1, h2, h3, h4, h5, h6, h7⟩ := hw.const; go_simp)) hS0.out ?_
    simp only [Act.put, List.setIfInBounds_toArray, List.set_cons_zero, List.set_cons_succ]
    refine wpAnyU_take (i := 25) (oi := { dst := some 60, op := _, type := _, pos := _, after := _, guard := some (17, false) }) (v := .pointer (some ⟨b2, o2 + 2, none⟩)) rfl (by kernel_rfl) (by kernel_rfl) (by kernel_rfl) (by kernel_rfl) (fun _ _ _ h => h) (yields_take rfl (fun w' hw => by obtain ⟨h1, h2, h3, h4, h5, h6, h7⟩ := hw.const; go_simp)) hS0.out ?_
    simp only [Act.put, List.setIfInBounds_toArray, List.set_cons_zero, List.set_cons_succ]
    refine wpAnyU_take (i := 26) (oi := { dst := some 61, op := _, type := _, pos := _, after := _, guard := some (17, false) }) (v := .int .i64 e) rfl (by kernel_rfl) (by kernel_rfl) (by kernel_rfl) (by kernel_rfl) (fun _ _ _ h => h) (yields_take rfl (fun w' hw => by obtain ⟨h1, h2, h3, h4, h5, h6, h7⟩ := hw.const; go_simp)) hS0.out ?_
    simp only [Act.put, List.setIfInBounds_toArray, List.set_cons_zero, List.set_cons_succ]
    refine wpAnyU_take (i := 27) (oi := { dst := some 62, op := _, type := _, pos := _, after := _, guard := some (17, false) }) (v := .bool false) rfl (by kernel_rfl) (by kernel_rfl) (by kernel_rfl) (by kernel_rfl) (fun _ _ _ h => h) (yields_take rfl (fun w' hw => by obtain ⟨h1, h2, h3, h4, h5, h6, h7⟩ := hw.const; go_simp)) hS0.out ?_
    simp only [Act.put, List.setIfInBounds_toArray, List.set_cons_zero, List.set_cons_succ]
    refine wpAnyU_take (i := 28) (oi := { dst := some 63, op := _, type := _, pos := _, after := _, guard := none }) (v := .bool false) rfl (by kernel_rfl) (by kernel_rfl) (by kernel_rfl) (by kernel_rfl) (fun _ _ _ h => h) (yields_take rfl (fun w' hw => by obtain ⟨h1, h2, h3, h4, h5, h6, h7⟩ := hw.const; go_simp)) hS0.out ?_
    simp only [Act.put, List.setIfInBounds_toArray, List.set_cons_zero, List.set_cons_succ]
    refine wpAnyU_take (i := 29) (oi := { dst := some 64, op := _, type := _, pos := _, after := _, guard := none }) (v := .bool false) rfl (by kernel_rfl) (by kernel_rfl) (by kernel_rfl) (by kernel_rfl) (fun _ _ _ h => h) (yields_take rfl (fun w' hw => by obtain ⟨h1, h2, h3, h4, h5, h6, h7⟩ := hw.const; go_simp)) hS0.out ?_
    simp only [Act.put, List.setIfInBounds_toArray, List.set_cons_zero, List.set_cons_succ]
    refine wpAnyU_take (i := 30) (oi := { dst := some 65, op := _, type := _, pos := _, after := _, guard := some (29, false) }) (v := .slice (some ⟨b1, o1, none⟩) 3 c) rfl (by kernel_rfl) (by kernel_rfl) (by kernel_rfl) (by kernel_rfl) (fun _ _ _ h => h) (yields_take rfl (fun w' hw => by obtain ⟨h1, h2, h3, h4, h5, h6, h7⟩ := hw.const; go_simp)) hS0.out ?_
    simp only [Act.put, List.setIfInBounds_toArray, List.set_cons_zero, List.set_cons_succ]
    refine wpAnyU_take (i := 31) (oi := { dst := some 66, op := _, type := _, pos := _, after := _, guard := some (29, false) }) (v := .pointer (some ⟨b1, o1 + 2, none⟩)) rfl (by kernel_rfl) (by kernel_rfl) (by kernel_rfl) (by kernel_rfl) (fun _ _ _ h => h) (yields_take rfl (fun w' hw => by obtain ⟨h1, h2, h3, h4, h5, h6, h7⟩ := hw.const; go_simp)) hS0.out ?_
    simp only [Act.put, List.setIfInBounds_toArray, List.set_cons_zero, List.set_cons_succ]
    refine wpAnyU_take (i := 32) (oi := { dst := some 67, op := _, type := _, pos := _, after := _, guard := some (29, false) }) (v := .int .i64 vv) rfl (by kernel_rfl) (by kernel_rfl) (by kernel_rfl) (by kernel_rfl) (fun _ _ _ h => h) (yields_take rfl (fun w' hw => by obtain ⟨h1, h2, h3, h4, h5, h6, h7⟩ := hw.const; go_simp)) hS0.out ?_
    simp only [Act.put, List.setIfInBounds_toArray, List.set_cons_zero, List.set_cons_succ]
    refine wpAnyU_take (i := 33) (oi := { dst := some 68, op := _, type := _, pos := _, after := _, guard := some (29, false) }) (v := .int .i64 pad) rfl (by kernel_rfl) (by kernel_rfl) (by kernel_rfl) (by kernel_rfl) (fun _ _ _ h => h) (yields_take rfl (fun w' hw => by obtain ⟨h1, h2, h3, h4, h5, h6, h7⟩ := hw.const; go_simp)) hS0.out ?_
    simp only [Act.put, List.setIfInBounds_toArray, List.set_cons_zero, List.set_cons_succ]
    refine wpAnyU_take (i := 34) (oi := { dst := some 69, op := _, type := _, pos := _, after := _, guard := some (29, false) }) (v := .int .i64 pp) rfl (by kernel_rfl) (by kernel_rfl) (by kernel_rfl) (by kernel_rfl) (fun _ _ _ h => h) (yields_take rfl (fun w' hw => by obtain ⟨h1, h2, h3, h4, h5, h6, h7⟩ := hw.const; go_simp)) hS0.out ?_
    simp only [Act.put, List.setIfInBounds_toArray, List.set_cons_zero, List.set_cons_succ]
    refine wpAnyU_take (i := 35) (oi := { dst := some 70, op := _, type := _, pos := _, after := _, guard := some (29, false) }) (v := .int .i64 vp) rfl (by kernel_rfl) (by kernel_rfl) (by kernel_rfl) (by kernel_rfl) (fun _ _ _ h => h) (yields_take rfl (fun w' hw => by obtain ⟨h1, h2, h3, h4, h5, h6, h7⟩ := hw.const; go_simp)) hS0.out ?_
    simp only [Act.put, List.setIfInBounds_toArray, List.set_cons_zero, List.set_cons_succ]
    refine wpAnyU_take (i := 36) (oi := { dst := some 71, op := _, type := _, pos := _, after := _, guard := some (29, false) }) (v := .slice (some ⟨b2, o2, none⟩) 4 c') rfl (by kernel_rfl) (by kernel_rfl) (by kernel_rfl) (by kernel_rfl) (fun _ _ _ h => h) (yields_take rfl (fun w' hw => by obtain ⟨h1, h2, h3, h4, h5, h6, h7⟩ := hw.const; go_simp)) hS0.out ?_
    simp only [Act.put, List.setIfInBounds_toArray, List.set_cons_zero, List.set_cons_succ]
    refine wpAnyU_take (i := 37) (oi := { dst := some 72, op := _, type := _, pos := _, after := _, guard := some (29, false) }) (v := .pointer (some ⟨b2, o2 + 3, none⟩)) rfl (by kernel_rfl) (by kernel_rfl) (by kernel_rfl) (by kernel_rfl) (fun _ _ _ h => h) (yields_take rfl (fun w' hw => by obtain ⟨h1, h2, h3, h4, h5, h6, h7⟩ := hw.const; go_simp)) hS0.out ?_
    simp only [Act.put, List.setIfInBounds_toArray, List.set_cons_zero, List.set_cons_succ]
    refine wpAnyU_take (i := 38) (oi := { dst := some 73, op := _, type := _, pos := _, after := _, guard := some (29, false) }) (v := .int .i64 g) rfl (by kernel_rfl) (by kernel_rfl) (by kernel_rfl) (by kernel_rfl) (fun _ _ _ h => h) (yields_take rfl (fun w' hw => by obtain ⟨h1, h2, h3, h4, h5, h6, h7⟩ := hw.const; go_simp)) hS0.out ?_
    simp only [Act.put, List.setIfInBounds_toArray, List.set_cons_zero, List.set_cons_succ]
    refine wpAnyU_take (i := 39) (oi := { dst := some 74, op := _, type := _, pos := _, after := _, guard := some (29, false) }) (v := .bool true) rfl (by kernel_rfl) (by kernel_rfl) (by kernel_rfl) (by kernel_rfl) (fun _ _ _ h => h) (yields_take rfl (fun w' hw => by obtain ⟨h1, h2, h3, h4, h5, h6, h7⟩ := hw.const; go_simp)) hS0.out ?_
    simp only [Act.put, List.setIfInBounds_toArray, List.set_cons_zero, List.set_cons_succ]
    refine wpAnyU_take (i := 40) (oi := { dst := some 75, op := _, type := _, pos := _, after := _, guard := none }) (v := .bool true) rfl (by kernel_rfl) (by kernel_rfl) (by kernel_rfl) (by kernel_rfl) (fun _ _ _ h => h) (yields_take rfl (fun w' hw => by obtain ⟨h1, h2, h3, h4, h5, h6, h7⟩ := hw.const; go_simp)) hS0.out ?_
    simp only [Act.put, List.setIfInBounds_toArray, List.set_cons_zero, List.set_cons_succ]
    refine wpAnyU_done (by kernel_rfl) ?_ _
    clear hS0
    go_wp2
    go_ret2
    have h := HBAD.out _ (by rw [HE.out]; decide) HBD.out
    rw [HE.out] at h ⊢
    exact h
  have e7 : decide (vp < g) = false := decide_eq_false h7
  have HLL : Hid (shp8L s s' step pad = [p, (hp - e) / step + 1, (vp - g) / step + 1]) := hide (by rw [HLL0.out, hm8, if_neg h6, hm8, if_neg h7])
  have hrg := HRG.out
  have hst := HOK.out.2.2
  have qa := Int.ediv_nonneg (show 0 ≤ hp - e by omega) (show 0 ≤ step by omega)
  have qb : (hp - e) / step ≤ hp - e := Int.ediv_le_self _ (by omega)
  have qc := Int.ediv_nonneg (show 0 ≤ vp - g by omega) (show 0 ≤ step by omega)
  have qd : (vp - g) / step ≤ vp - g := Int.ediv_le_self _ (by omega)
  obtain ⟨d1, hd1⟩ : ∃ z, z = hp - e := ⟨_, rfl⟩
  obtain ⟨d2, hd2⟩ : ∃ z, z = vp - g := ⟨_, rfl⟩
  rw [← hd1] at HLL qa qb
  rw [← hd2] at HLL qc qd
  obtain ⟨r1, hr1⟩ : ∃ z, z = d1 / step := ⟨_, rfl⟩
  obtain ⟨r2, hr2⟩ : ∃ z, z = d2 / step := ⟨_, rfl⟩
  rw [← hr1] at HLL qa qb
  rw [← hr2] at HLL qc qd
  obtain ⟨q1, hq1⟩ : ∃ z, z = r1 + 1 := ⟨_, rfl⟩
  obtain ⟨q2, hq2⟩ : ∃ z, z = r2 + 1 := ⟨_, rfl⟩
  rw [← hq1, ← hq2] at HLL
  rw [HLL.out] at HEE
  have m4 : IntKind.i64.wrap (hp - e) = d1 := by rw [hd1, IntKind.wrap_i64]; omega
  have m5 : IntKind.i64.wrap (vp - g) = d2 := by rw [hd2, IntKind.wrap_i64]; omega
  have m6 : d1.tdiv step = r1 := by rw [hr1, Int.tdiv_eq_ediv_of_nonneg (by omega)]
  have m7 : d2.tdiv step = r2 := by rw [hr2, Int.tdiv_eq_ediv_of_nonneg (by omega)]
  have m8 : IntKind.i64.wrap r1 = r1 := by rw [IntKind.wrap_i64]; omega
  have m9 : IntKind.i64.wrap r2 = r2 := by rw [IntKind.wrap_i64]; omega
  have m10 : IntKind.i64.wrap (r1 + 1) = q1 := by rw [hq1, IntKind.wrap_i64]; omega
  have m11 : IntKind.i64.wrap (r2 + 1) = q2 := by rw [hq2, IntKind.wrap_i64]; omega
  have hs0 : ¬ step = 0 := by omega
  clear hd1 hd2 hr1 hr2 hq1 hq2
  go_wp2
  have hS0 : Hid ((w2.drew).cell? ⟨b1, o1, none⟩ = some (.int .i64 x) ∧ (w2.drew).cell? ⟨b1, o1 + 1, none⟩ = some (.int .i64 h) ∧ (w2.drew).cell? ⟨b1, o1 + 2, none⟩ = some (.int .i64 vv) ∧ (w2.drew).cell? ⟨b2, o2, none⟩ = some (.int .i64 p) ∧ (w2.drew).cell? ⟨b2, o2 + 1, none⟩ = some (.int .i64 x) ∧ (w2.drew).cell? ⟨b2, o2 + 2, none⟩ = some (.int .i64 e) ∧ (w2.drew).cell? ⟨b2, o2 + 3, none⟩ = some (.int .i64 g)) := hide (HK.out _ (below_drewN hb2 1))
  refine wp_region_U (fun _ v => v.cell? ⟨b1, o1, none⟩ = some (.int .i64 x) ∧ v.cell? ⟨b1, o1 + 1, none⟩ = some (.int .i64 h) ∧ v.cell? ⟨b1, o1 + 2, none⟩ = some (.int .i64 vv) ∧ v.cell? ⟨b2, o2, none⟩ = some (.int .i64 p) ∧ v.cell? ⟨b2, o2 + 1, none⟩ = some (.int .i64 x) ∧ v.cell? ⟨b2, o2 + 2, none⟩ = some (.int .i64 e) ∧ v.cell? ⟨b2, o2 + 3, none⟩ = some (.int .i64 g)) 99 (by kernel_rfl) ?_
  refine wpAnyU_take (i := 0) (oi := { dst := some 35, op := _, type := _, pos := _, after := _, guard := none }) (v := .slice (some ⟨b1, o1, none⟩) 3 c) rfl (by kernel_rfl) (by kernel_rfl) (by kernel_rfl) (by kernel_rfl) (fun _ _ _ h => h) (yields_take rfl (fun w' hw => by obtain ⟨h1, h2, h3, h4, h5, h6, h7⟩ := hw.const; go_simp)) hS0.out ?_
  simp only [Act.put, List.setIfInBounds_toArray, List.set_cons_zero, List.set_cons_succ]
  refine wpAnyU_take (i := 1) (oi := { dst := some 36, op := _, type := _, pos := _, after := _, guard := none }) (v := .int .i64 3) rfl (by kernel_rfl) (by kernel_rfl) (by kernel_rfl) (by kernel_rfl) (fun _ _ _ h => h) (yields_take rfl (fun w' hw => by obtain ⟨h1, h2, h3, h4, h5, h6, h7⟩ := hw.const; go_simp)) hS0.out ?_
  simp only [Act.put, List.setIfInBounds_toArray, List.set_cons_zero, List.set_cons_succ]
  refine wpAnyU_take (i := 2) (oi := { dst := some 37, op := _, type := _, pos := _, after := _, guard := none }) (v := .bool false) rfl (by kernel_rfl) (by kernel_rfl) (by kernel_rfl) (by kernel_rfl) (fun _ _ _ h => h) (yields_take rfl (fun w' hw => by obtain ⟨h1, h2, h3, h4, h5, h6, h7⟩ := hw.const; go_simp)) hS0.out ?_
  simp only [Act.put, List.setIfInBounds_toArray, List.set_cons_zero, List.set_cons_succ]
  refine wpAnyU_take (i := 3) (oi := { dst := some 38, op := _, type := _, pos := _, after := _, guard := none }) (v := .bool false) rfl (by kernel_rfl) (by kernel_rfl) (by kernel_rfl) (by kernel_rfl) (fun _ _ _ h => h) (yields_take rfl (fun w' hw => by obtain ⟨h1, h2, h3, h4, h5, h6, h7⟩ := hw.const; go_simp)) hS0.out ?_
  simp only [Act.put, List.setIfInBounds_toArray, List.set_cons_zero, List.set_cons_succ]
  refine wpAnyU_take (i := 4) (oi := { dst := some 39, op := _, type := _, pos := _, after := _, guard := some (3, false) }) (v := .slice (some ⟨b2, o2, none⟩) 4 c') rfl (by kernel_rfl) (by kernel_rfl) (by kernel_rfl) (by kernel_rfl) (fun _ _ _ h => h) (yields_take rfl (fun w' hw => by obtain ⟨h1, h2, h3, h4, h5, h6, h7⟩ := hw.const; go_simp)) hS0.out ?_
  simp only [Act.put, List.setIfInBounds_toArray, List.set_cons_zero, List.set_cons_succ]
  refine wpAnyU_take (i := 5) (oi := { dst := some 40, op := _, type := _, pos := _, after := _, guard := some (3, false) }) (v := .int .i64 4) rfl (by kernel_rfl) (by kernel_rfl) (by kernel_rfl) (by kernel_rfl) (fun _ _ _ h => h) (yields_take rfl (fun w' hw => by obtain ⟨h1, h2, h3, h4, h5, h6, h7⟩ := hw.const; go_simp)) hS0.out ?_
  simp only [Act.put, List.setIfInBounds_toArray, List.set_cons_zero, List.set_cons_succ]
  refine wpAnyU_take (i := 6) (oi := { dst := some 41, op := _, type := _, pos := _, after := _, guard := some (3, false) }) (v := .bool false) rfl (by kernel_rfl) (by kernel_rfl) (by kernel_rfl) (by kernel_rfl) (fun _ _ _ h => h) (yields_take rfl (fun w' hw => by obtain ⟨h1, h2, h3, h4, h5, h6, h7⟩ := hw.const; go_simp)) hS0.out ?_
  simp only [Act.put, List.setIfInBounds_toArray, List.set_cons_zero, List.set_cons_succ]
  refine wpAnyU_take (i := 7) (oi := { dst := some 42, op := _, type := _, pos := _, after := _, guard := none }) (v := .bool false) rfl (by kernel_rfl) (by kernel_rfl) (by kernel_rfl) (by kernel_rfl) (fun _ _ _ h => h) (yields_take rfl (fun w' hw => by obtain ⟨h1, h2, h3, h4, h5, h6, h7⟩ := hw.const; go_simp)) hS0.out ?_
  simp only [Act.put, List.setIfInBounds_toArray, List.set_cons_zero, List.set_cons_succ]
  refine wpAnyU_take (i := 8) (oi := { dst := some 43, op := _, type := _, pos := _, after := _, guard := none }) (v := .bool false) rfl (by kernel_rfl) (by kernel_rfl) (by kernel_rfl) (by kernel_rfl) (fun _ _ _ h => h) (yields_take rfl (fun w' hw => by obtain ⟨h1, h2, h3, h4, h5, h6, h7⟩ := hw.const; go_simp)) hS0.out ?_
  simp only [Act.put, List.setIfInBounds_toArray, List.set_cons_zero, List.set_cons_succ]
  refine wpAnyU_take (i := 9) (oi := { dst := some 44, op := _, type := _, pos := _, after := _, guard := some (8, false) }) (v := .slice (some ⟨b1, o1, none⟩) 3 c) rfl (by kernel_rfl) (by kernel_rfl) (by kernel_rfl) (by kernel_rfl) (fun _ _ _ h => h) (yields_take rfl (fun w' hw => by obtain ⟨h1, h2, h3, h4, h5, h6, h7⟩ := hw.const; go_simp)) hS0.out ?_
  simp only [Act.put, List.setIfInBounds_toArray, List.set_cons_zero, List.set_cons_succ]
  refine wpAnyU_take (i := 10) (oi := { dst := some 45, op := _, type := _, pos := _, after := _, guard := some (8, false) }) (v := .pointer (some ⟨b1, o1, none⟩)) rfl (by kernel_rfl) (by kernel_rfl) (by kernel_rfl) (by kernel_rfl) (fun _ _ _ h => h) (yields_take rfl (fun w' hw => by obtain ⟨h1, h2, h3, h4, h5, h6, h7⟩ := hw.const; go_simp)) hS0.out ?_
  simp only [Act.put, List.setIfInBounds_toArray, List.set_cons_zero, List.set_cons_succ]
  refine wpAnyU_take (i := 11) (oi := { dst := some 46, op := _, type := _, pos := _, after := _, guard := some (8, false) }) (v := .int .i64 x) rfl (by kernel_rfl) (by kernel_rfl) (by kernel_rfl) (by kernel_rfl) (fun _ _ _ h => h) (yields_take rfl (fun w' hw => by obtain ⟨h1, h2, h3, h4, h5, h6, h7⟩ := hw.const; go_simp)) hS0.out ?_
  simp only [Act.put, List.setIfInBounds_toArray, List.set_cons_zero, List.set_cons_succ]
  refine wpAnyU_take (i := 12) (oi := { dst := some 47, op := _, type := _, pos := _, after := _, guard := some (8, false) }) (v := .slice (some ⟨b2, o2, none⟩) 4 c') rfl (by kernel_rfl) (by kernel_rfl) (by kernel_rfl) (by kernel_rfl) (fun _ _ _ h => h) (yields_take rfl (fun w' hw => by obtain ⟨h1, h2, h3, h4, h5, h6, h7⟩ := hw.const; go_simp)) hS0.out ?_
  simp only [Act.put, List.setIfInBounds_toArray, List.set_cons_zero, List.set_cons_succ]
  refine wpAnyU_take (i := 13) (oi := { dst := some 48, op := _, type := _, pos := _, after := _, guard := some (8, false) }) (v := .pointer (some ⟨b2, o2 + 1, none⟩)) rfl (by kernel_rfl) (by kernel_rfl) (by kernel_rfl) (by kernel_rfl) (fun _ _ _ h => h) (yields_take rfl (fun w' hw => by obtain ⟨h1, h2, h3, h4, h5, h6, h7⟩ := hw.const; go_simp)) hS0.out ?_
  simp only [Act.put, List.setIfInBounds_toArray, List.set_cons_zero, List.set_cons_succ]
  refine wpAnyU_take (i := 14) (oi := { dst := some 49, op := _, type := _, pos := _, after := _, guard := some (8, false) }) (v := .int .i64 x) rfl (by kernel_rfl) (by kernel_rfl) (by kernel_rfl) (by kernel_rfl) (fun _ _ _ h => h) (yields_take rfl (fun w' hw => by obtain ⟨h1, h2, h3, h4, h5, h6, h7⟩ := hw.const; go_simp)) hS0.out ?_
  simp only [Act.put, List.setIfInBounds_toArray, List.set_cons_zero, List.set_cons_succ]
  refine wpAnyU_take (i := 15) (oi := { dst := some 50, op := _, type := _, pos := _, after := _, guard := some (8, false) }) (v := .bool false) rfl (by kernel_rfl) (by kernel_rfl) (by kernel_rfl) (by kernel_rfl) (fun _ _ _ h => h) (yields_take rfl (fun w' hw => by obtain ⟨h1, h2, h3, h4, h5, h6, h7⟩ := hw.const; go_simp)) hS0.out ?_
  simp only [Act.put, List.setIfInBounds_toArray, List.set_cons_zero, List.set_cons_succ]
  refine wpAnyU_take (i := 16) (oi := { dst := some 51, op := _, type := _, pos := _, after := _, guard := none }) (v := .bool false) rfl (by kernel_rfl) (by kernel_rfl) (by kernel_rfl) (by kernel_rfl) (fun _ _ _ h => h) (yields_take rfl (fun w' hw => by obtain ⟨h1, h2, h3, h4, h5, h6, h7⟩ := hw.const; go_simp)) hS0.out ?_
  simp only [Act.put, List.setIfInBounds_toArray, List.set_cons_zero, List.set_cons_succ]
  refine wpAnyU_take (i := 17) (oi := { dst := some 52, op := _, type := _, pos := _, after := _, guard := none }) (v := .bool false) rfl (by kernel_rfl) (by kernel_rfl) (by kernel_rfl) (by kernel_rfl) (fun _ _ _ h => h) (yields_take rfl (fun w' hw => by obtain ⟨h1, h2, h3, h4, h5, h6, h7⟩ := hw.const; go_simp)) hS0.out ?_
  simp only [Act.put, List.setIfInBounds_toArray, List.set_cons_zero, List.set_cons_succ]
  refine wpAnyU_take (i := 18) (oi := { dst := some 53, op := _, type := _, pos := _, after := _, guard := some (17, false) }) (v := .slice (some ⟨b1, o1, none⟩) 3 c) rfl (by kernel_rfl) (by kernel_rfl) (by kernel_rfl) (by kernel_rfl) (fun _ _ _ h => h) (yields_take rfl (fun w' hw => by obtain ⟨h1, h2, h3, h4, h5, h6, h7⟩ := hw.const; go_simp)) hS0.out ?_
  simp only [Act.put, List.setIfInBounds_toArray, List.set_cons_zero, List.set_cons_succ]
  refine wpAnyU_take (i := 19) (oi := { dst := some 54, op := _, type := _, pos := _, after := _, guard := some (17, false) }) (v := .pointer (some ⟨b1, o1 + 1, none⟩)) rfl (by kernel_rfl) (by kernel_rfl) (by kernel_rfl) (by kernel_rfl) (fun _ _ _ h => h) (yields_take rfl (fun w' hw => by obtain ⟨h1, h2, h3, h4, h5, h6, h7⟩ := hw.const; go_simp)) hS0.out ?_
  simp only [Act.put, List.setIfInBounds_toArray, List.set_cons_zero, List.set_cons_succ]
  refine wpAnyU_take (i := 20) (oi := { dst := some 55, op := _, type := _, pos := _, after := _, guard := some (17, false) }) (v := .int .i64 h) rfl (by kernel_rfl) (by kernel_rfl) (by kernel_rfl) (by kernel_rfl) (fun _ _ _ h => h) (yields_take rfl (fun w' hw => by obtain ⟨h1, h2, h3, h4, h5, h6, h7⟩ := hw.const; go_simp)) hS0.out ?_
  simp only [Act.put, List.setIfInBounds_toArray, List.set_cons_zero, List.set_cons_succ]
  refine wpAnyU_take (i := 21) (oi := { dst := some 56, op := _, type := _, pos := _, after := _, guard := some (17, false) }) (v := .int .i64 pad) rfl (by kernel_rfl) (by kernel_rfl) (by kernel_rfl) (by kernel_rfl) (fun _ _ _ h => h) (yields_take rfl (fun w' hw => by obtain ⟨h1, h2, h3, h4, h5, h6, h7⟩ := hw.const; go_simp)) hS0.out ?_
  simp only [Act.put, List.setIfInBounds_toArray, List.set_cons_zero, List.set_cons_succ]
  refine wpAnyU_take (i := 22) (oi := { dst := some 57, op := _, type := _, pos := _, after := _, guard := some (17, false) }) (v := .int .i64 pp) rfl (by kernel_rfl) (by kernel_rfl) (by kernel_rfl) (by kernel_rfl) (fun _ _ _ h => h) (yields_take rfl (fun w' hw => by obtain ⟨h1, h2, h3, h4, h5, h6, h7⟩ := hw.const; go_simp)) hS0.out ?_
  simp only [Act.put, List.setIfInBounds_toArray, List.set_cons_zero, List.set_cons_succ]
  refine wpAnyU_take (i := 23) (oi := { dst := some 58, op := _, type := _, pos := _, after := _, guard := some (17, false) }) (v := .int .i64 hp) rfl (by kernel_rfl) (by kernel_rfl) (by kernel_rfl) (by kernel_rfl) (fun _ _ _ h => h) (yields_take rfl (fun w' hw => by obtain ⟨h1, h2, h3, h4, h5, h6, h7⟩ := hw.const; go_simp)) hS0.out ?_
  simp only [Act.put, List.setIfInBounds_toArray, List.set_cons_zero, List.set_cons_succ]
  refine wpAnyU_take (i := 24) (oi := { dst := some 59, op := _, type := _, pos := _, after := _, guard := some (17, false) }) (v := .slice (some ⟨b2, o2, none⟩) 4 c') rfl (by kernel_rfl) (by kernel_rfl) (by kernel_rfl) (by kernel_rfl) (fun _ _ _ h => h) (yields_take rfl (fun w' hw => by obtain ⟨h1, h2, h3, h4, h5, h6, h7⟩ := hw.const; go_simp)) hS0.out ?_
  simp only [Act.put, List.setIfInBounds_toArray, List.set_cons_zero, List.set_cons_succ]
  refine wpAnyU_take (i := 25) (oi := { dst := some 60, op := _, type := _, pos := _, after := _, guard := some (17, false) }) (v := .pointer (some ⟨b2, o2 + 2, none⟩)) rfl (by kernel_rfl) (by kernel_rfl) (by kernel_rfl) (by kernel_rfl) (fun _ _ _ h => h) (yields_take rfl (fun w' hw => by obtain ⟨h1, h2, h3, h4, h5, h6, h7⟩ := hw.const; go_simp)) hS0.out ?_
  simp only [Act.put, List.setIfInBounds_toArray, List.set_cons_zero, List.set_cons_succ]
  refine wpAnyU_take (i := 26) (oi := { dst := some 61, op := _, type := _, pos := _, after := _, guard := some (17, false) }) (v := .int .i64 e) rfl (by kernel_rfl) (by kernel_rfl) (by kernel_rfl) (by kernel_rfl) (fun _ _ _ h => h) (yields_take rfl (fun w' hw => by obtain ⟨h1, h2, h3, h4, h5, h6, h7⟩ := hw.const; go_simp)) hS0.out ?_
  simp only [Act.put, List.setIfInBounds_toArray, List.set_cons_zero, List.set_cons_succ]
  refine wpAnyU_take (i := 27) (oi := { dst := some 62, op := _, type := _, pos := _, after := _, guard := some (17, false) }) (v := .bool false) rfl (by kernel_rfl) (by kernel_rfl) (by kernel_rfl) (by kernel_rfl) (fun _ _ _ h => h) (yields_take rfl (fun w' hw => by obtain ⟨h1, h2, h3, h4, h5, h6, h7⟩ := hw.const; go_simp)) hS0.out ?_
  simp only [Act.put, List.setIfInBounds_toArray, List.set_cons_zero, List.set_cons_succ]
  refine wpAnyU_take (i := 28) (oi := { dst := some 63, op := _, type := _, pos := _, after := _, guard := none }) (v := .bool false) rfl (by kernel_rfl) (by kernel_rfl) (by kernel_rfl) (by kernel_rfl) (fun _ _ _ h => h) (yields_take rfl (fun w' hw => by obtain ⟨h1, h2, h3, h4, h5, h6, h7⟩ := hw.const; go_simp)) hS0.out ?_
  simp only [Act.put, List.setIfInBounds_toArray, List.set_cons_zero, List.set_cons_succ]
  refine wpAnyU_take (i := 29) (oi := { dst := some 64, op := _, type := _, pos := _, after := _, guard := none }) (v := .bool false) rfl (by kernel_rfl) (by kernel_rfl) (by kernel_rfl) (by kernel_rfl) (fun _ _ _ h => h) (yields_take rfl (fun w' hw => by obtain ⟨h1, h2, h3, h4, h5, h6, h7⟩ := hw.const; go_simp)) hS0.out ?_
  simp only [Act.put, List.setIfInBounds_toArray, List.set_cons_zero, List.set_cons_succ]
  refine wpAnyU_take (i := 30) (oi := { dst := some 65, op := _, type := _, pos := _, after := _, guard := some (29, false) }) (v := .slice (some ⟨b1, o1, none⟩) 3 c) rfl (by kernel_rfl) (by kernel_rfl) (by kernel_rfl) (by kernel_rfl) (fun _ _ _ h => h) (yields_take rfl (fun w' hw => by obtain ⟨h1, h2, h3, h4, h5, h6, h7⟩ := hw.const; go_simp)) hS0.out ?_
  simp only [Act.put, List.setIfInBounds_toArray, List.set_cons_zero, List.set_cons_succ]
  refine wpAnyU_take (i := 31) (oi := { dst := some 66, op := _, type := _, pos := _, after := _, guard := some (29, false) }) (v := .pointer (some ⟨b1, o1 + 2, none⟩)) rfl (by kernel_rfl) (by kernel_rfl) (by kernel_rfl) (by kernel_rfl) (fun _ _ _ h => h) (yields_take rfl (fun w' hw => by obtain ⟨h1, h2, h3, h4, h5, h6, h7⟩ := hw.const; go_simp)) hS0.out ?_
  simp only [Act.put, List.setIfInBounds_toArray, List.set_cons_zero, List.set_cons_succ]
  refine wpAnyU_take (i := 32) (oi := { dst := some 67, op := _, type := _, pos := _, after := _, guard := some (29, false) }) (v := .int .i64 vv) rfl (by kernel_rfl) (by kernel_rfl) (by kernel_rfl) (by kernel_rfl) (fun _ _ _ h => h) (yields_take rfl (fun w' hw => by obtain ⟨h1, h2, h3, h4, h5, h6, h7⟩ := hw.const; go_simp)) hS0.out ?_
  simp only [Act.put, List.setIfInBounds_toArray, List.set_cons_zero, List.set_cons_succ]
  refine wpAnyU_take (i := 33) (oi := { dst := some 68, op := _, type := _, pos := _, after := _, guard := some (29, false) }) (v := .int .i64 pad) rfl (by kernel_rfl) (by kernel_rfl) (by kernel_rfl) (by kernel_rfl) (fun _ _ _ h => h) (yields_take rfl (fun w' hw => by obtain ⟨h1, h2, h3, h4, h5, h6, h7⟩ := hw.const; go_simp)) hS0.out ?_
  simp only [Act.put, List.setIfInBounds_toArray, List.set_cons_zero, List.set_cons_succ]
  refine wpAnyU_take (i := 34) (oi := { dst := some 69, op := _, type := _, pos := _, after := _, guard := some (29, false) }) (v := .int .i64 pp) rfl (by kernel_rfl) (by kernel_rfl) (by kernel_rfl) (by kernel_rfl) (fun _ _ _ h => h) (yields_take rfl (fun w' hw => by obtain ⟨h1, h2, h3, h4, h5, h6, h7⟩ := hw.const; go_simp)) hS0.out ?_
  simp only [Act.put, List.setIfInBounds_toArray, List.set_cons_zero, List.set_cons_succ]
  refine wpAnyU_take (i := 35) (oi := { dst := some 70, op := _, type := _, pos := _, after := _, guard := some (29, false) }) (v := .int .i64 vp) rfl (by kernel_rfl) (by kernel_rfl) (by kernel_rfl) (by kernel_rfl) (fun _ _ _ h => h) (yields_take rfl (fun w' hw => by obtain ⟨h1, h2, h3, h4, h5, h6, h7⟩ := hw.const; go_simp)) hS0.out ?_
  simp only [Act.put, List.setIfInBounds_toArray, List.set_cons_zero, List.set_cons_succ]
  refine wpAnyU_take (i := 36) (oi := { dst := some 71, op := _, type := _, pos := _, after := _, guard := some (29, false) }) (v := .slice (some ⟨b2, o2, none⟩) 4 c') rfl (by kernel_rfl) (by kernel_rfl) (by kernel_rfl) (by kernel_rfl) (fun _ _ _ h => h) (yields_take rfl (fun w' hw => by obtain ⟨h1, h2, h3, h4, h5, h6, h7⟩ := hw.const; go_simp)) hS0.out ?_
  simp only [Act.put, List.setIfInBounds_toArray, List.set_cons_zero, List.set_cons_succ]
  refine wpAnyU_take (i := 37) (oi := { dst := some 72, op := _, type := _, pos := _, after := _, guard := some (29, false) }) (v := .pointer (some ⟨b2, o2 + 3, none⟩)) rfl (by kernel_rfl) (by kernel_rfl) (by kernel_rfl) (by kernel_rfl) (fun _ _ _ h => h) (yields_take rfl (fun w' hw => by obtain ⟨h1, h2, h3, h4, h5, h6, h7⟩ := hw.const; go_simp)) hS0.out ?_
  simp only [Act.put, List.setIfInBounds_toArray, List.set_cons_zero, List.set_cons_succ]
  refine wpAnyU_take (i := 38) (oi := { dst := some 73, op := _, type := _, pos := _, after := _, guard := some (29, false) }) (v := .int .i64 g) rfl (by kernel_rfl) (by kernel_rfl) (by kernel_rfl) (by kernel_rfl) (fun _ _ _ h => h) (yields_take rfl (fun w' hw => by obtain ⟨h1, h2, h3, h4, h5, h6, h7⟩ := hw.const; go_simp)) hS0.out ?_
  simp only [Act.put, List.setIfInBounds_toArray, List.set_cons_zero, List.set_cons_succ]
  refine wpAnyU_take (i := 39) (oi := { dst := some 74, op := _, type := _, pos := _, after := _, guard := some (29, false) }) (v := .bool false) rfl (by kernel_rfl) (by kernel_rfl) (by kernel_rfl) (by kernel_rfl) (fun _ _ _ h => h) (yields_take rfl (fun w' hw => by obtain ⟨h1, h2, h3, h4, h5, h6, h7⟩ := hw.const; go_simp)) hS0.out ?_
  simp only [Act.put, List.setIfInBounds_toArray, List.set_cons_zero, List.set_cons_succ]
  refine wpAnyU_take (i := 40) (oi := { dst := some 75, op := _, type := _, pos := _, after := _, guard := none }) (v := .bool false) rfl (by kernel_rfl) (by kernel_rfl) (by kernel_rfl) (by kernel_rfl) (fun _ _ _ h => h) (yields_take rfl (fun w' hw => by obtain ⟨h1, h2, h3, h4, h5, h6, h7⟩ := hw.const; go_simp)) hS0.out ?_
  simp only [Act.put, List.setIfInBounds_toArray, List.set_cons_zero, List.set_cons_succ]
  refine wpAnyU_done (by kernel_rfl) ?_ _
  clear hS0
  go_wp2
  have hS0 : Hid (((w2.drewN 1).drew).cell? ⟨b1, o1, none⟩ = some (.int .i64 x) ∧ ((w2.drewN 1).drew).cell? ⟨b1, o1 + 1, none⟩ = some (.int .i64 h) ∧ ((w2.drewN 1).drew).cell? ⟨b1, o1 + 2, none⟩ = some (.int .i64 vv) ∧ ((w2.drewN 1).drew).cell? ⟨b2, o2, none⟩ = some (.int .i64 p) ∧ ((w2.drewN 1).drew).cell? ⟨b2, o2 + 1, none⟩ = some (.int .i64 x) ∧ ((w2.drewN 1).drew).cell? ⟨b2, o2 + 2, none⟩ = some (.int .i64 e) ∧ ((w2.drewN 1).drew).cell? ⟨b2, o2 + 3, none⟩ = some (.int .i64 g)) := hide (HK.out _ (below_drewN hb2 2))
  refine wp_region_U (fun _ v => v.cell? ⟨b1, o1, none⟩ = some (.int .i64 x) ∧ v.cell? ⟨b1, o1 + 1, none⟩ = some (.int .i64 h) ∧ v.cell? ⟨b1, o1 + 2, none⟩ = some (.int .i64 vv) ∧ v.cell? ⟨b2, o2, none⟩ = some (.int .i64 p) ∧ v.cell? ⟨b2, o2 + 1, none⟩ = some (.int .i64 x) ∧ v.cell? ⟨b2, o2 + 2, none⟩ = some (.int .i64 e) ∧ v.cell? ⟨b2, o2 + 3, none⟩ = some (.int .i64 g)) 99 (by kernel_rfl) ?_
  refine wpAnyU_take (i := 0) (oi := { dst := some 76, op := _, type := _, pos := _, after := _, guard := none }) (v := .slice (some ⟨b2, o2, none⟩) 4 c') rfl (by kernel_rfl) (by kernel_rfl) (by kernel_rfl) (by kernel_rfl) (fun _ _ _ h => h) (yields_take rfl (fun w' hw => by obtain ⟨h1, h2, h3, h4, h5, h6, h7⟩ := hw.const; go_simp)) hS0.out ?_
  simp only [Act.put, List.setIfInBounds_toArray, List.set_cons_zero, List.set_cons_succ]
  refine wpAnyU_take (i := 1) (oi := { dst := some 77, op := _, type := _, pos := _, after := _, guard := none }) (v := .pointer (some ⟨b2, o2, none⟩)) rfl (by kernel_rfl) (by kernel_rfl) (by kernel_rfl) (by kernel_rfl) (fun _ _ _ h => h) (yields_take rfl (fun w' hw => by obtain ⟨h1, h2, h3, h4, h5, h6, h7⟩ := hw.const; go_simp)) hS0.out ?_
  simp only [Act.put, List.setIfInBounds_toArray, List.set_cons_zero, List.set_cons_succ]
  refine wpAnyU_take (i := 2) (oi := { dst := some 78, op := _, type := _, pos := _, after := _, guard := none }) (v := .int .i64 p) rfl (by kernel_rfl) (by kernel_rfl) (by kernel_rfl) (by kernel_rfl) (fun _ _ _ h => h) (yields_take rfl (fun w' hw => by obtain ⟨h1, h2, h3, h4, h5, h6, h7⟩ := hw.const; go_simp)) hS0.out ?_
  simp only [Act.put, List.setIfInBounds_toArray, List.set_cons_zero, List.set_cons_succ]
  refine wpAnyU_take (i := 3) (oi := { dst := some 79, op := _, type := _, pos := _, after := _, guard := none }) (v := .slice (some ⟨b1, o1, none⟩) 3 c) rfl (by kernel_rfl) (by kernel_rfl) (by kernel_rfl) (by kernel_rfl) (fun _ _ _ h => h) (yields_take rfl (fun w' hw => by obtain ⟨h1, h2, h3, h4, h5, h6, h7⟩ := hw.const; go_simp)) hS0.out ?_
  simp only [Act.put, List.setIfInBounds_toArray, List.set_cons_zero, List.set_cons_succ]
  refine wpAnyU_take (i := 4) (oi := { dst := some 80, op := _, type := _, pos := _, after := _, guard := none }) (v := .pointer (some ⟨b1, o1 + 1, none⟩)) rfl (by kernel_rfl) (by kernel_rfl) (by kernel_rfl) (by kernel_rfl) (fun _ _ _ h => h) (yields_take rfl (fun w' hw => by obtain ⟨h1, h2, h3, h4, h5, h6, h7⟩ := hw.const; go_simp)) hS0.out ?_
  simp only [Act.put, List.setIfInBounds_toArray, List.set_cons_zero, List.set_cons_succ]
  refine wpAnyU_take (i := 5) (oi := { dst := some 81, op := _, type := _, pos := _, after := _, guard := none }) (v := .int .i64 h) rfl (by kernel_rfl) (by kernel_rfl) (by kernel_rfl) (by kernel_rfl) (fun _ _ _ h => h) (yields_take rfl (fun w' hw => by obtain ⟨h1, h2, h3, h4, h5, h6, h7⟩ := hw.const; go_simp)) hS0.out ?_
  simp only [Act.put, List.setIfInBounds_toArray, List.set_cons_zero, List.set_cons_succ]
  refine wpAnyU_take (i := 6) (oi := { dst := some 82, op := _, type := _, pos := _, after := _, guard := none }) (v := .int .i64 pad) rfl (by kernel_rfl) (by kernel_rfl) (by kernel_rfl) (by kernel_rfl) (fun _ _ _ h => h) (yields_take rfl (fun w' hw => by obtain ⟨h1, h2, h3, h4, h5, h6, h7⟩ := hw.const; go_simp)) hS0.out ?_
  simp only [Act.put, List.setIfInBounds_toArray, List.set_cons_zero, List.set_cons_succ]
  refine wpAnyU_take (i := 7) (oi := { dst := some 83, op := _, type := _, pos := _, after := _, guard := none }) (v := .int .i64 pp) rfl (by kernel_rfl) (by kernel_rfl) (by kernel_rfl) (by kernel_rfl) (fun _ _ _ h => h) (yields_take rfl (fun w' hw => by obtain ⟨h1, h2, h3, h4, h5, h6, h7⟩ := hw.const; go_simp)) hS0.out ?_
  simp only [Act.put, List.setIfInBounds_toArray, List.set_cons_zero, List.set_cons_succ]
  refine wpAnyU_take (i := 8) (oi := { dst := some 84, op := _, type := _, pos := _, after := _, guard := none }) (v := .int .i64 hp) rfl (by kernel_rfl) (by kernel_rfl) (by kernel_rfl) (by kernel_rfl) (fun _ _ _ h => h) (yields_take rfl (fun w' hw => by obtain ⟨h1, h2, h3, h4, h5, h6, h7⟩ := hw.const; go_simp)) hS0.out ?_
  simp only [Act.put, List.setIfInBounds_toArray, List.set_cons_zero, List.set_cons_succ]
  refine wpAnyU_take (i := 9) (oi := { dst := some 85, op := _, type := _, pos := _, after := _, guard := none }) (v := .slice (some ⟨b2, o2, none⟩) 4 c') rfl (by kernel_rfl) (by kernel_rfl) (by kernel_rfl) (by kernel_rfl) (fun _ _ _ h => h) (yields_take rfl (fun w' hw => by obtain ⟨h1, h2, h3, h4, h5, h6, h7⟩ := hw.const; go_simp)) hS0.out ?_
  simp only [Act.put, List.setIfInBounds_toArray, List.set_cons_zero, List.set_cons_succ]
  refine wpAnyU_take (i := 10) (oi := { dst := some 86, op := _, type := _, pos := _, after := _, guard := none }) (v := .pointer (some ⟨b2, o2 + 2, none⟩)) rfl (by kernel_rfl) (by kernel_rfl) (by kernel_rfl) (by kernel_rfl) (fun _ _ _ h => h) (yields_take rfl (fun w' hw => by obtain ⟨h1, h2, h3, h4, h5, h6, h7⟩ := hw.const; go_simp)) hS0.out ?_
  simp only [Act.put, List.setIfInBounds_toArray, List.set_cons_zero, List.set_cons_succ]
  refine wpAnyU_take (i := 11) (oi := { dst := some 87, op := _, type := _, pos := _, after := _, guard := none }) (v := .int .i64 e) rfl (by kernel_rfl) (by kernel_rfl) (by kernel_rfl) (by kernel_rfl) (fun _ _ _ h => h) (yields_take rfl (fun w' hw => by obtain ⟨h1, h2, h3, h4, h5, h6, h7⟩ := hw.const; go_simp)) hS0.out ?_
  simp only [Act.put, List.setIfInBounds_toArray, List.set_cons_zero, List.set_cons_succ]
  refine wpAnyU_take (i := 12) (oi := { dst := some 88, op := _, type := _, pos := _, after := _, guard := none }) (v := .int .i64 d1) rfl (by kernel_rfl) (by kernel_rfl) (by kernel_rfl) (by kernel_rfl) (fun _ _ _ h => h) (yields_take rfl (fun w' hw => by obtain ⟨h1, h2, h3, h4, h5, h6, h7⟩ := hw.const; go_simp)) hS0.out ?_
  simp only [Act.put, List.setIfInBounds_toArray, List.set_cons_zero, List.set_cons_succ]
  refine wpAnyU_take (i := 13) (oi := { dst := some 89, op := _, type := _, pos := _, after := _, guard := none }) (v := .int .i64 step) rfl (by kernel_rfl) (by kernel_rfl) (by kernel_rfl) (by kernel_rfl) (fun _ _ _ h => h) (yields_take rfl (fun w' hw => by obtain ⟨h1, h2, h3, h4, h5, h6, h7⟩ := hw.const; go_simp)) hS0.out ?_
  simp only [Act.put, List.setIfInBounds_toArray, List.set_cons_zero, List.set_cons_succ]
  refine wpAnyU_take (i := 14) (oi := { dst := some 90, op := _, type := _, pos := _, after := _, guard := none }) (v := .int .i64 r1) rfl (by kernel_rfl) (by kernel_rfl) (by kernel_rfl) (by kernel_rfl) (fun _ _ _ h => h) (yields_take rfl (fun w' hw => by obtain ⟨h1, h2, h3, h4, h5, h6, h7⟩ := hw.const; go_simp)) hS0.out ?_
  simp only [Act.put, List.setIfInBounds_toArray, List.set_cons_zero, List.set_cons_succ]
  refine wpAnyU_take (i := 15) (oi := { dst := some 91, op := _, type := _, pos := _, after := _, guard := none }) (v := .int .i64 q1) rfl (by kernel_rfl) (by kernel_rfl) (by kernel_rfl) (by kernel_rfl) (fun _ _ _ h => h) (yields_take rfl (fun w' hw => by obtain ⟨h1, h2, h3, h4, h5, h6, h7⟩ := hw.const; go_simp)) hS0.out ?_
  simp only [Act.put, List.setIfInBounds_toArray, List.set_cons_zero, List.set_cons_succ]
  refine wpAnyU_take (i := 16) (oi := { dst := some 92, op := _, type := _, pos := _, after := _, guard := none }) (v := .slice (some ⟨b1, o1, none⟩) 3 c) rfl (by kernel_rfl) (by kernel_rfl) (by kernel_rfl) (by kernel_rfl) (fun _ _ _ h => h) (yields_take rfl (fun w' hw => by obtain ⟨h1, h2, h3, h4, h5, h6, h7⟩ := hw.const; go_simp)) hS0.out ?_
  simp only [Act.put, List.setIfInBounds_toArray, List.set_cons_zero, List.set_cons_succ]
  refine wpAnyU_take (i := 17) (oi := { dst := some 93, op := _, type := _, pos := _, after := _, guard := none }) (v := .pointer (some ⟨b1, o1 + 2, none⟩)) rfl (by kernel_rfl) (by kernel_rfl) (by kernel_rfl) (by kernel_rfl) (fun _ _ _ h => h) (yields_take rfl (fun w' hw => by obtain ⟨h1, h2, h3, h4, h5, h6, h7⟩ := hw.const; go_simp)) hS0.out ?_
  simp only [Act.put, List.setIfInBounds_toArray, List.set_cons_zero, List.set_cons_succ]
  refine wpAnyU_take (i := 18) (oi := { dst := some 94, op := _, type := _, pos := _, after := _, guard := none }) (v := .int .i64 vv) rfl (by kernel_rfl) (by kernel_rfl) (by kernel_rfl) (by kernel_rfl) (fun _ _ _ h => h) (yields_take rfl (fun w' hw => by obtain ⟨h1, h2, h3, h4, h5, h6, h7⟩ := hw.const; go_simp)) hS0.out ?_
  simp only [Act.put, List.setIfInBounds_toArray, List.set_cons_zero, List.set_cons_succ]
  refine wpAnyU_take (i := 19) (oi := { dst := some 95, op := _, type := _, pos := _, after := _, guard := none }) (v := .int .i64 pad) rfl (by kernel_rfl) (by kernel_rfl) (by kernel_rfl) (by kernel_rfl) (fun _ _ _ h => h) (yields_take rfl (fun w' hw => by obtain ⟨h1, h2, h3, h4, h5, h6, h7⟩ := hw.const; go_simp)) hS0.out ?_
  simp only [Act.put, List.setIfInBounds_toArray, List.set_cons_zero, List.set_cons_succ]
  refine wpAnyU_take (i := 20) (oi := { dst := some 96, op := _, type := _, pos := _, after := _, guard := none }) (v := .int .i64 pp) rfl (by kernel_rfl) (by kernel_rfl) (by kernel_rfl) (by kernel_rfl) (fun _ _ _ h => h) (yields_take rfl (fun w' hw => by obtain ⟨h1, h2, h3, h4, h5, h6, h7⟩ := hw.const; go_simp)) hS0.out ?_
  simp only [Act.put, List.setIfInBounds_toArray, List.set_cons_zero, List.set_cons_succ]
  refine wpAnyU_take (i := 21) (oi := { dst := some 97, op := _, type := _, pos := _, after := _, guard := none }) (v := .int .i64 vp) rfl (by kernel_rfl) (by kernel_rfl) (by kernel_rfl) (by kernel_rfl) (fun _ _ _ h => h) (yields_take rfl (fun w' hw => by obtain ⟨h1, h2, h3, h4, h5, h6, h7⟩ := hw.const; go_simp)) hS0.out ?_
  simp only [Act.put, List.setIfInBounds_toArray, List.set_cons_zero, List.set_cons_succ]
  refine wpAnyU_take (i := 22) (oi := { dst := some 98, op := _, type := _, pos := _, after := _, guard := none }) (v := .slice (some ⟨b2, o2, none⟩) 4 c') rfl (by kernel_rfl) (by kernel_rfl) (by kernel_rfl) (by kernel_rfl) (fun _ _ _ h => h) (yields_take rfl (fun w' hw => by obtain ⟨h1, h2, h3, h4, h5, h6, h7⟩ := hw.const; go_simp)) hS0.out ?_
  simp only [Act.put, List.setIfInBounds_toArray, List.set_cons_zero, List.set_cons_succ]
  refine wpAnyU_take (i := 23) (oi := { dst := some 99, op := _, type := _, pos := _, after := _, guard := none }) (v := .pointer (some ⟨b2, o2 + 3, none⟩)) rfl (by kernel_rfl) (by kernel_rfl) (by kernel_rfl) (by kernel_rfl) (fun _ _ _ h => h) (yields_take rfl (fun w' hw => by obtain ⟨h1, h2, h3, h4, h5, h6, h7⟩ := hw.const; go_simp)) hS0.out ?_
  simp only [Act.put, List.setIfInBounds_toArray, List.set_cons_zero, List.set_cons_succ]
  refine wpAnyU_take (i := 24) (oi := { dst := some 100, op := _, type := _, pos := _, after := _, guard := none }) (v := .int .i64 g) rfl (by kernel_rfl) (by kernel_rfl) (by kernel_rfl) (by kernel_rfl) (fun _ _ _ h => h) (yields_take rfl (fun w' hw => by obtain ⟨h1, h2, h3, h4, h5, h6, h7⟩ := hw.const; go_simp)) hS0.out ?_
  simp only [Act.put, List.setIfInBounds_toArray, List.set_cons_zero, List.set_cons_succ]
  refine wpAnyU_take (i := 25) (oi := { dst := some 101, op := _, type := _, pos := _, after := _, guard := none }) (v := .int .i64 d2) rfl (by kernel_rfl) (by kernel_rfl) (by kernel_rfl) (by kernel_rfl) (fun _ _ _ h => h) (yields_take rfl (fun w' hw => by obtain ⟨h1, h2, h3, h4, h5, h6, h7⟩ := hw.const; go_simp)) hS0.out ?_
  simp only [Act.put, List.setIfInBounds_toArray, List.set_cons_zero, List.set_cons_succ]
  refine wpAnyU_take (i := 26) (oi := { dst := some 102, op := _, type := _, pos := _, after := _, guard := none }) (v := .int .i64 step) rfl (by kernel_rfl) (by kernel_rfl) (by kernel_rfl) (by kernel_rfl) (fun _ _ _ h => h) (yields_take rfl (fun w' hw => by obtain ⟨h1, h2, h3, h4, h5, h6, h7⟩ := hw.const; go_simp)) hS0.out ?_
  simp only [Act.put, List.setIfInBounds_toArray, List.set_cons_zero, List.set_cons_succ]
  refine wpAnyU_take (i := 27) (oi := { dst := some 103, op := _, type := _, pos := _, after := _, guard := none }) (v := .int .i64 r2) rfl (by kernel_rfl) (by kernel_rfl) (by kernel_rfl) (by kernel_rfl) (fun _ _ _ h => h) (yields_take rfl (fun w' hw => by obtain ⟨h1, h2, h3, h4, h5, h6, h7⟩ := hw.const; go_simp)) hS0.out ?_
  simp only [Act.put, List.setIfInBounds_toArray, List.set_cons_zero, List.set_cons_succ]
  refine wpAnyU_take (i := 28) (oi := { dst := some 104, op := _, type := _, pos := _, after := _, guard := none }) (v := .int .i64 q2) rfl (by kernel_rfl) (by kernel_rfl) (by kernel_rfl) (by kernel_rfl) (fun _ _ _ h => h) (yields_take rfl (fun w' hw => by obtain ⟨h1, h2, h3, h4, h5, h6, h7⟩ := hw.const; go_simp)) hS0.out ?_
  simp only [Act.put, List.setIfInBounds_toArray, List.set_cons_zero, List.set_cons_succ]
  refine wpAnyU_one (i := 29) (by kernel_rfl) rfl ?_
  intro K hK
  go_simp
  have hb4 : Below w.heap.size w (((w2.drewN 1).drew).alloc (.cells #[.int .i64 p, .int .i64 q1, .int .i64 q2] 3)) := below_al7x (below_drewN hb2 2)
  have hS1 : Hid ((((w2.drewN 1).drew).alloc (.cells #[.int .i64 p, .int .i64 q1, .int .i64 q2] 3)).cell? ⟨b1, o1, none⟩ = some (.int .i64 x) ∧ (((w2.drewN 1).drew).alloc (.cells #[.int .i64 p, .int .i64 q1, .int .i64 q2] 3)).cell? ⟨b1, o1 + 1, none⟩ = some (.int .i64 h) ∧ (((w2.drewN 1).drew).alloc (.cells #[.int .i64 p, .int .i64 q1, .int .i64 q2] 3)).cell? ⟨b1, o1 + 2, none⟩ = some (.int .i64 vv) ∧ (((w2.drewN 1).drew).alloc (.cells #[.int .i64 p, .int .i64 q1, .int .i64 q2] 3)).cell? ⟨b2, o2, none⟩ = some (.int .i64 p) ∧ (((w2.drewN 1).drew).alloc (.cells #[.int .i64 p, .int .i64 q1, .int .i64 q2] 3)).cell? ⟨b2, o2 + 1, none⟩ = some (.int .i64 x) ∧ (((w2.drewN 1).drew).alloc (.cells #[.int .i64 p, .int .i64 q1, .int .i64 q2] 3)).cell? ⟨b2, o2 + 2, none⟩ = some (.int .i64 e) ∧ (((w2.drewN 1).drew).alloc (.cells #[.int .i64 p, .int .i64 q1, .int .i64 q2] 3)).cell? ⟨b2, o2 + 3, none⟩ = some (.int .i64 g)) := hide (HK.out _ hb4)
  refine hK.out _ _ hS1.out (fun _ => ?_)
  clear hK K hS0
  refine wpAnyU_take (i := 30) (oi := { dst := some 10, op := _, type := _, pos := _, after := _, guard := none }) (v := .slice (some ⟨w2.heap.size, 0, none⟩) 3 3) rfl (by kernel_rfl) (by kernel_rfl) (by kernel_rfl) (by kernel_rfl) (fun _ _ _ h => h) (yields_take rfl (fun w' hw => by obtain ⟨h1, h2, h3, h4, h5, h6, h7⟩ := hw.const; go_simp)) hS1.out ?_
  simp only [Act.put, List.setIfInBounds_toArray, List.set_cons_zero, List.set_cons_succ]
  refine wpAnyU_done (by kernel_rfl) ?_ _
  clear hS1
  have HBF := hide hb4
  obtain ⟨W4, hW4⟩ : ∃ W4, W4 = (w2.alloc (.cells #[.int .i64 p, .int .i64 q1, .int .i64 q2] 3)).drew.drew := ⟨_, rfl⟩
  have HH4 : Hid (W4.heap[w2.heap.size]? = some (.cells #[.int .i64 p, .int .i64 q1, .int .i64 q2] 3 (0, 0))) := hide (by rw [hW4]; exact heap_alloc_new w2 _)
  have HO4 : Hid (W4.ownsRow w.heap.size 3 1 (.slice (some ⟨w2.heap.size, 0, none⟩) 3 3) 3 (([p, q1, q2] : List Int).map (Value.int .i64))) := hide (own_of_block hsz HH4.out rfl (Nat.le_refl _) (by decide) rfl)
  have HB5 : Hid (Below w.heap.size w W4) := hide (by rw [hW4]; exact below_drewN (hb2.alloc hsz _) 2)
  have hW4' := hW4.symm
  clear hW4 HBF hb4
  go_wp2_with fail
  refine Calls.mono (rcheck8_any (some ⟨w2.heap.size, 0, none⟩) 3 3 [p, q1, q2] _ (lies_of_own HO4.out) (by omega)) ?_
  rintro e0 w5 ⟨rfl, hb50⟩
  have hb5 : Below w.heap.size w w5 := HB5.out.trans (hb50.mono HB5.out.size)
  have HO5 := hide (own_below HO4.out hb50)
  by_cases hz : 0 < sizeI [p, q1, q2]
  · rw [decide_eq_true hz]
    have HE : Hid (shp8E s s' step pad = 0) := hide (HEE.out.1 hz)
    have HBX := hide hb5
    clear hb5 hb50 hz hW4'
    go_wp2
    go_ret2
    refine ⟨some ⟨w2.heap.size, 0, none⟩, 3, 3, by rw [HE.out]; rfl, ?_, by omega, HBX.out⟩
    rw [shp8S, if_pos HE.out, HLL.out]
    exact HO5.out
  · rw [decide_eq_false hz]
    have HE : Hid (shp8E s s' step pad = 10) := hide (HEE.out.2 (Int.not_lt.1 hz))
    have HBX := hide hb5
    clear hb5 hb50 hz hW4'
    go_wp2
    go_ret2
    have h := HBAD.out _ (by rw [HE.out]; decide) HBX.out
    rw [HE.out] at h ⊢
    exact h

end

section
open Go.RowKit
set_option linter.unusedVariables false
set_option linter.unusedSimpArgs false
set_option maxRecDepth 100000

/-- The list that is gathered: its box, its numbers, what was there. -/
def OutAt (w3 : World) (gs kc : Nat) (zs : List Int) (k : Nat) (W : World) : Prop :=
  ∃ A c, BoxT W w3.heap.size (.slice (some ⟨gs, 0, none⟩) 3 kc) (.slice A k c) ∧ W.ownsRow (w3.heap.size + 1) 21 1 (.slice A k c) k ((zs.take k).map (Value.int .i32)) ∧ Below w3.heap.size w3 W

theorem OutAt.kept {w3 W W' : World} {gs kc k : Nat} {zs : List Int} (h : OutAt w3 gs kc zs k W) (hb : Below W.heap.size W W') : OutAt w3 gs kc zs k W' := by
  obtain ⟨A, c, h1, h2, h3⟩ := h
  exact ⟨A, c, h1.kept hb, own_below h2 hb, h3.trans (hb.mono h3.size)⟩

theorem box_set1 {w : World} {p : Nat} {v u y : Value} (h : BoxT w p v u) : BoxT (w.setCell ⟨p, 1, none⟩ y) p v y := by
  have e1 := setCell_eq_setRow w p 1 _ _ (0, 0) y h
  have h1 := setRow_heap w p _ ((#[v, u] : Array Value).setIfInBounds 1 y) _ _ h
  rw [e1]
  exact h1

theorem out_step {w3 W2 w4 : World} {gs kc k c c' : Nat} {A A' : Option Addr} {zs : List Int} {z : Int} (hbx : BoxT W2 w3.heap.size (.slice (some ⟨gs, 0, none⟩) 3 kc) (.slice A k c)) (hown : W2.ownsRow (w3.heap.size + 1) 21 1 (.slice A k c) k ((zs.take k).map (Value.int .i32))) (hbl : Below w3.heap.size w3 W2)
    (ho4 : w4.ownsRow (w3.heap.size + 1) 21 1 (.slice A' (k + 1) c') (k + 1) ((zs.take k).map (Value.int .i32) ++ [.int .i32 z])) (hm : Moved W2 w4 (.slice A k c) (.slice A' (k + 1) c')) (hz : zs.getD k 0 = z) (hk : k < zs.length) :
    OutAt w3 gs kc zs (k + 1) (w4.setCell ⟨w3.heap.size, 1, none⟩ (.slice A' (k + 1) c')) := by
  have hlt := hbx.lt
  have e1 : (zs.take k).map (Value.int .i32) ++ [.int .i32 z] = (zs.take (k + 1)).map (Value.int .i32) := by
    rw [List.take_succ_eq_append_getElem hk, List.map_append, ← hz]
    simp [List.getD, hk]
  rw [e1] at ho4
  have h4 : BoxT w4 w3.heap.size (.slice (some ⟨gs, 0, none⟩) 3 kc) (.slice A k c) := by
    rcases hm with ⟨_, hg⟩ | ⟨hg, _⟩
    · exact (hg.block _ hlt (fun e => by have := (hown.lt _ e.symm).1; omega)).trans hbx
    · exact (hg.block _ hlt (by simp)).trans hbx
  refine ⟨A', c', box_set1 h4, ?_, ?_⟩
  · exact ho4.kept (row := some w3.heap.size) (grown_cell6 w4 ⟨w3.heap.size, 1, none⟩ _) (.inr fun e => by have := (ho4.lt _ e).1; omega)
  · exact (below_moved hbl hbl.size hown hm (by omega)).setCell (Nat.le_refl _) _

set_option maxHeartbeats 2000000 in
theorem rpool8_bad (A B : Option Addr) (n c m d : Nat) (s l : List Int) (wide : Int) (w : World) (hA : Lies w A n (s.map (Value.int .i64))) (hB : Lies w B m (l.map (Value.int .i32))) (hn : n ≤ 281474976710656) (hbad : ¬ pl8E s m wide = 0) :
    Calls Tryz.prog 18 #[tenV A n c B m d, .int .i64 wide] w fun e w' => e = .returned (.tuple #[tenV none 0 0 none 0 0, .int .i64 (pl8E s m wide)]) ∧ Below w.heap.size w w' := by
  obtain ⟨W0, hW0⟩ : ∃ W0, W0 = ((w.alloc (.cells #[.slice A n c, .slice B m d] 25)).alloc (.cells #[.slice none 0 0, .slice none 0 0] 25)) := ⟨_, rfl⟩
  have HB0 : Hid (Below w.heap.size w W0) := hide (by rw [hW0]; exact ((Below.refl w.heap.size w).alloc (Nat.le_refl _) _).alloc (by simp only [World.size_alloc]; omega) _)
  have hs0 : W0.heap.size = w.heap.size + 2 := by rw [hW0]; simp
  have HX0 : Hid (W0.heap[w.heap.size]? = some (.cells #[.slice A n c, .slice B m d] 25 (0, 0))) := hide (by rw [hW0]; have h := heap_alloc_new w (.cells #[.slice A n c, .slice B m d] 25); (try simp only [World.size_alloc] at h); exact (heap_alloc_old h))
  have HX1 : Hid (W0.heap[w.heap.size + 1]? = some (.cells #[.slice none 0 0, .slice none 0 0] 25 (0, 0))) := hide (by rw [hW0]; have h := heap_alloc_new (w.alloc (.cells #[.slice A n c, .slice B m d] 25)) (.cells #[.slice none 0 0, .slice none 0 0] 25); (try simp only [World.size_alloc] at h); exact h)
  have hW0' := hW0.symm
  clear hW0
  have HS0 := hide hs0
  have HA := hide (hA.below HB0.out)
  have HB := hide (hB.below HB0.out)
  have HC : Hid (∀ v, Below W0.heap.size W0 v → v.cell? ⟨w.heap.size, 0, none⟩ = some (.slice A n c) ∧ v.cell? ⟨w.heap.size, 1, none⟩ = some (.slice B m d) ∧ v.cell? ⟨w.heap.size + 1, 0, none⟩ = some (.slice none 0 0) ∧ v.cell? ⟨w.heap.size + 1, 1, none⟩ = some (.slice none 0 0) ∧ v.frozen? ⟨w.heap.size + 1, 0, none⟩ = false ∧ v.frozen? ⟨w.heap.size + 1, 1, none⟩ = false) := hide (fun v hv => ⟨cell_of_row _ _ 0 _ _ (0, 0) ((hv.block _ (lt_of_heap HX0.out)).trans HX0.out), cell_of_row _ _ 1 _ _ (0, 0) ((hv.block _ (lt_of_heap HX0.out)).trans HX0.out), cell_of_row _ _ 0 _ _ (0, 0) ((hv.block _ (lt_of_heap HX1.out)).trans HX1.out), cell_of_row _ _ 1 _ _ (0, 0) ((hv.block _ (lt_of_heap HX1.out)).trans HX1.out), frozen_of_row v _ 0 _ _ ((hv.block _ (lt_of_heap HX1.out)).trans HX1.out), frozen_of_row v _ 1 _ _ ((hv.block _ (lt_of_heap HX1.out)).trans HX1.out)⟩)
  clear hA hB hs0
  obtain ⟨E, hEq⟩ : ∃ E, E = pl8E s m wide := ⟨_, rfl⟩
  have HEQ := hide hEq
  rw [← hEq] at hbad ⊢
  have HBADE := hide hbad
  clear hEq hbad
  go_enter Tryz.func18, Tryz.ntmps18
  obtain ⟨a0, a1, r0, r1, rf0, rf1⟩ := HC.out _ (Below.refl _ W0)
  go_wp2_with fail
  refine Calls.mono (rtcheck_any A B n c m d s _ HA.out hn) ?_
  rintro e w1 ⟨rfl, hb1⟩
  clear a0 a1 r0 r1 rf0 rf1
  obtain ⟨a0, a1, r0, r1, rf0, rf1⟩ := HC.out _ hb1
  by_cases h1 : tenOk s m = true
  rotate_left
  · have h1' : tenOk s m = false := by simpa using h1
    rw [h1']
    have HE : Hid (E = 1) := hide (by rw [HEQ.out, pl8E, if_neg fun h => h1 (h)])
    clear h1 h1'
    have HXF := hide (BoxT.kept (show BoxT W0 (w.heap.size + 1) _ _ from HX1.out) hb1)
    have HBF := hide (HB0.out.trans (hb1.mono (by have := HS0.out; omega)))
    go_wp2
    (try simp only [Exit.inBlock, Exit.then])
    refine ret_ten (p := 4) (u := 5) rfl rfl (w.heap.size + 1) _ rfl (HXF.out.set2 _ _) rfl ?_
    exact ⟨by rw [HE.out]; rfl, (HBF.out.setCell (by dsimp only; omega) _).setCell (by dsimp only; omega) _⟩
  rw [h1]
  have HE : Hid (E = pp8E s wide) := hide (by rw [HEQ.out, pl8E, if_pos h1])
  clear h1
  go_wp2_with fail
  refine Calls.mono (rpoolshape_any A n c s wide _ (HA.out.below hb1) hn) ?_
  rw [← HE.out]
  rintro e w3 ⟨R, k, kc, rfl, ho, _, hb30⟩
  have hb3 : Below W0.heap.size W0 w3 := hb1.trans (hb30.mono hb1.size)
  clear a0 a1 r0 r1 rf0 rf1 hb30 hb1
  obtain ⟨a0, a1, r0, r1, rf0, rf1⟩ := HC.out _ hb3
  have hne : (E != 0) = true := by simpa using HBADE.out
  have hne2 : ¬ E = 0 := HBADE.out
  clear ho
  have HXF := hide (BoxT.kept (show BoxT W0 (w.heap.size + 1) _ _ from HX1.out) hb3)
  have HBF := hide (HB0.out.trans (hb3.mono (by have := HS0.out; omega)))
  go_wp2
  (try simp only [Exit.inBlock, Exit.then])
  refine ret_ten (p := 4) (u := 5) rfl rfl (w.heap.size + 1) _ rfl (HXF.out.set2 _ _) rfl ?_
  exact ⟨rfl, (HBF.out.setCell (by dsimp only; omega) _).setCell (by dsimp only; omega) _⟩

/-- It answers a tensor of three directions. -/
def RTen8 (w : World) (sh zs : List Int) (q : Nat) (e : Ending) (w' : World) : Prop :=
  ∃ gs kc A2 c2, e = .returned (.tuple #[tenV (some ⟨gs, 0, none⟩) 3 kc A2 q c2, .int .i64 0]) ∧ Lies w' (some ⟨gs, 0, none⟩) 3 (sh.map (Value.int .i64)) ∧ Lies w' A2 q (zs.map (Value.int .i32)) ∧ Below w.heap.size w w'

theorem info8_Number : (Tryz.prog.info? 21).map (fun i => (i.zero, i.size, i.bytes)) = some (some (.int .i32 0), 1, 4) := by kernel_rfl

theorem lies_set2 {w : World} {A : Option Addr} {n : Nat} {xs : List Value} {p : Nat} {v u : Value} (h : Lies w A n xs) (hp : ∀ b o, A = some ⟨b, o, none⟩ → b ≠ p) : Lies ((w.setCell ⟨p, 0, none⟩ v).setCell ⟨p, 1, none⟩ u) A n xs :=
  h.keep (by simp) (fun b o e hb j => World.cell?_of_block ((Below.heap_setCell _ _ _ _ (by simpa using hp b o e)).trans (Below.heap_setCell _ _ _ _ (by simpa using hp b o e))))

theorem out_below {w3 W : World} {gs kc k : Nat} {zs : List Int} (h : OutAt w3 gs kc zs k W) : Below w3.heap.size w3 W := by
  obtain ⟨_, _, _, _, h3⟩ := h
  exact h3

set_option maxHeartbeats 8000000 in
theorem rpool8_ok (A B : Option Addr) (c m d C H V Y X wide : Nat) (l : List Int) (w : World) (hA : Lies w A 3 (([(C : Int), (H : Int), (V : Int)] : List Int).map (Value.int .i64))) (hB : Lies w B m (l.map (Value.int .i32)))
    (hok : tenOk [(C : Int), (H : Int), (V : Int)] m = true) (hE : pp8E [(C : Int), (H : Int), (V : Int)] (wide : Int) = 0) (hL : pp8S [(C : Int), (H : Int), (V : Int)] (wide : Int) = [(C : Int), (Y : Int), (X : Int)]) :
    Calls Tryz.prog 18 #[tenV A 3 c B m d, .int .i64 (wide : Int)] w (RTen8 w ([(C : Int), (Y : Int), (X : Int)] : List Int) (poolL l C H V wide Y X) (C * Y * X)) := by
  obtain ⟨hC, hH, hV, hm, hm4⟩ := ten_three hok
  have hst := (pp8E_iff.1 hE).1.2
  have hfit := (pp8E_iff.1 hE).2.2
  have hS := hL
  have hsz0 : 0 < sizeI [(C : Int), (Y : Int), (X : Int)] := pool_size hok hE hL
  obtain ⟨_, hY, hX, hq1, hq2, hq3⟩ := three_size hsz0
  obtain ⟨i0, hi0, hz0, hz1, hz2⟩ := info_parts info8_Number
  have HI := hide hi0
  have HZ0 := hide hz0
  have HZ1x := hide hz1
  have HZ2 := hide hz2
  clear hi0 hz0 hz1 hz2
  obtain ⟨q, hq⟩ : ∃ q, q = C * Y * X := ⟨_, rfl⟩
  rw [← hq] at hq1 hq2 hq3 ⊢
  obtain ⟨zs, hzs⟩ : ∃ zs, zs = poolL l C H V wide Y X := ⟨_, rfl⟩
  rw [← hzs]
  have HZS := hide hzs
  have HZL : Hid (zs.length = q) := hide (by rw [hzs, poolL_len, hq])
  have HQ := hide hq
  have HE := hide hE
  have HS := hide hS
  have HM1 := hide hm

  have HST := hide hst
  clear hzs hq hE hS hL hq1 hm hsz0 
  obtain ⟨W0, hW0⟩ : ∃ W0, W0 = ((w.alloc (.cells #[.slice A 3 c, .slice B m d] 25)).alloc (.cells #[.slice none 0 0, .slice none 0 0] 25)) := ⟨_, rfl⟩
  have HB0 : Hid (Below w.heap.size w W0) := hide (by rw [hW0]; exact ((Below.refl w.heap.size w).alloc (Nat.le_refl _) _).alloc (by simp only [World.size_alloc]; omega) _)
  have hs0 : W0.heap.size = w.heap.size + 2 := by rw [hW0]; simp
  have HX0 : Hid (W0.heap[w.heap.size]? = some (.cells #[.slice A 3 c, .slice B m d] 25 (0, 0))) := hide (by rw [hW0]; have h := heap_alloc_new w (.cells #[.slice A 3 c, .slice B m d] 25); (try simp only [World.size_alloc] at h); exact (heap_alloc_old h))
  have HX1 : Hid (W0.heap[w.heap.size + 1]? = some (.cells #[.slice none 0 0, .slice none 0 0] 25 (0, 0))) := hide (by rw [hW0]; have h := heap_alloc_new (w.alloc (.cells #[.slice A 3 c, .slice B m d] 25)) (.cells #[.slice none 0 0, .slice none 0 0] 25); (try simp only [World.size_alloc] at h); exact h)
  have hW0' := hW0.symm
  clear hW0
  have HS0 := hide hs0
  have HA := hide (hA.below HB0.out)
  have HB := hide (hB.below HB0.out)
  have HC : Hid (∀ v, Below W0.heap.size W0 v → v.cell? ⟨w.heap.size, 0, none⟩ = some (.slice A 3 c) ∧ v.cell? ⟨w.heap.size, 1, none⟩ = some (.slice B m d) ∧ v.cell? ⟨w.heap.size + 1, 0, none⟩ = some (.slice none 0 0) ∧ v.cell? ⟨w.heap.size + 1, 1, none⟩ = some (.slice none 0 0) ∧ v.frozen? ⟨w.heap.size + 1, 0, none⟩ = false ∧ v.frozen? ⟨w.heap.size + 1, 1, none⟩ = false) := hide (fun v hv => ⟨cell_of_row _ _ 0 _ _ (0, 0) ((hv.block _ (lt_of_heap HX0.out)).trans HX0.out), cell_of_row _ _ 1 _ _ (0, 0) ((hv.block _ (lt_of_heap HX0.out)).trans HX0.out), cell_of_row _ _ 0 _ _ (0, 0) ((hv.block _ (lt_of_heap HX1.out)).trans HX1.out), cell_of_row _ _ 1 _ _ (0, 0) ((hv.block _ (lt_of_heap HX1.out)).trans HX1.out), frozen_of_row v _ 0 _ _ ((hv.block _ (lt_of_heap HX1.out)).trans HX1.out), frozen_of_row v _ 1 _ _ ((hv.block _ (lt_of_heap HX1.out)).trans HX1.out)⟩)
  have HLW := hide (And.intro hA hB)
  clear hA hB  hs0
  have HOK1 := hide hok

  clear hok 
  go_enter Tryz.func18, Tryz.ntmps18
  obtain ⟨a0, a1, r0, r1, rf0, rf1⟩ := HC.out _ (Below.refl _ W0)
  go_wp2_with fail
  refine Calls.mono (rtcheck_any A B 3 c m d [(C : Int), (H : Int), (V : Int)] _ HA.out (by omega)) ?_
  rw [HOK1.out]
  rintro e w1 ⟨rfl, hb1⟩
  clear a0 a1 r0 r1 rf0 rf1
  obtain ⟨a0, a1, r0, r1, rf0, rf1⟩ := HC.out _ hb1
  have hb2 := hb1
  go_wp2_with fail
  refine Calls.mono (rpoolshape_any A 3 c [(C : Int), (H : Int), (V : Int)] (wide : Int) _ (HA.out.below hb2) (by omega)) ?_
  rw [HE.out, HS.out]
  rintro e w3 ⟨R, k, kc, rfl, ho, hk2, hb30⟩
  have hb3 : Below W0.heap.size W0 w3 := hb2.trans (hb30.mono hb2.size)
  obtain rfl : k = 3 := by have := ho.1; simpa using this.symm
  obtain ⟨gs, rfl⟩ := own_some ho (by omega)
  have HLS := hide (lies_of_own ho)
  have hgs := (ho.lt gs rfl).2
  have hgs0 : W0.heap.size ≤ gs := Nat.le_trans hb2.size (ho.lt gs rfl).1
  have HB3 := hide hb3
  clear a0 a1 r0 r1 rf0 rf1 hb30 hb2 ho hk2 hb3
  obtain ⟨W1, hW1⟩ : ∃ W1, W1 = w3.alloc (.cells #[.slice (some ⟨gs, 0, none⟩) 3 kc, .slice none 0 0] 25) := ⟨_, rfl⟩
  have HO1 : Hid (OutAt w3 gs kc zs 0 W1) := hide (by rw [hW1]; exact ⟨none, 0, BoxT.new w3 _ _, World.ownsRow_nil _ _ _ _, (Below.refl _ _).alloc (Nat.le_refl _) _⟩)
  have hW1' := hW1.symm
  clear hW1
  have HF : Hid (∀ v, Below w3.heap.size w3 v → v.cell? ⟨w.heap.size, 0, none⟩ = some (.slice A 3 c) ∧ v.cell? ⟨w.heap.size, 1, none⟩ = some (.slice B m d) ∧ v.cell? ⟨gs, 0, none⟩ = some (.int .i64 (C : Int)) ∧ v.cell? ⟨gs, 1, none⟩ = some (.int .i64 (Y : Int)) ∧ v.cell? ⟨gs, 2, none⟩ = some (.int .i64 (X : Int))) := hide (fun v hv => by
    obtain ⟨a0, a1, r0, r1, rf0, rf1⟩ := HC.out v (HB3.out.trans (hv.mono HB3.out.size))
    obtain ⟨b0', o0', e0', _, hx0⟩ := byte_at (HLS.out.below hv) (by omega)
    cases e0'
    exact ⟨a0, a1, hx0 0 (by omega), hx0 1 (by omega), hx0 2 (by omega)⟩)
  have HLB : Hid (∀ v, Below w3.heap.size w3 v → Lies v A 3 (([(C : Int), (H : Int), (V : Int)] : List Int).map (Value.int .i64)) ∧ Lies v B m (l.map (Value.int .i32))) := hide (fun v hv => by
    have hbw : Below w.heap.size w v := (HB0.out.trans (HB3.out.mono HB0.out.size)).trans (hv.mono (by have := HB0.out.size; have := HB3.out.size; omega))
    exact ⟨HLW.out.1.below hbw, HLW.out.2.below hbw⟩)
  obtain ⟨a0, a1, s0, s1, s2⟩ := HF.out W1 (out_below HO1.out)
  go_wp2_with fail
  clear hW1' hW0' a0 a1 s0 s1 s2
  go_loopw [9] (fun iv wr => ∃ k z : Nat, k ≤ C ∧ iv = .int .i64 (k : Int) ∧ Hid (z = k * Y * X) ∧ Hid (OutAt w3 gs kc zs z wr)) (fun iv _ => C - (intOf iv).toNat)
  case atStart => exact ⟨0, 0, Nat.zero_le _, rfl, hide (by rw [Nat.zero_mul, Nat.zero_mul]), HO1⟩
  case round =>
    clear HO1
    obtain ⟨i, z, hi, rfl, HZ, HO⟩ := hrel
    obtain ⟨a0, a1, s0, s1, s2⟩ := HF.out _ (out_below HO.out)
    by_cases hlti : i < C
    · have h3 : (i : Int) < (C : Int) := by omega
      go_wp2_with fail
      clear a0 a1 s0 s1 s2
      go_loopw [10] (fun yv wr => ∃ k z : Nat, k ≤ Y ∧ yv = .int .i64 (k : Int) ∧ Hid (z = (i * Y + k) * X) ∧ Hid (OutAt w3 gs kc zs z wr)) (fun yv _ => Y - (intOf yv).toNat)
      case atStart => exact ⟨0, z, Nat.zero_le _, rfl, HZ, HO⟩
      case round =>
        clear HZ HO
        obtain ⟨y, z, hy, rfl, HZ, HO⟩ := hrel
        obtain ⟨a0, a1, s0, s1, s2⟩ := HF.out _ (out_below HO.out)
        by_cases hlty : y < Y
        · have h4 : (y : Int) < (Y : Int) := by omega
          go_wp2_with fail
          clear a0 a1 s0 s1 s2
          go_loopw [11] (fun xv wr => ∃ k z : Nat, k ≤ X ∧ xv = .int .i64 (k : Int) ∧ Hid (z = (i * Y + y) * X + k) ∧ Hid (OutAt w3 gs kc zs z wr)) (fun xv _ => X - (intOf xv).toNat)
          case atStart => exact ⟨0, z, Nat.zero_le _, rfl, HZ, HO⟩
          case round =>
            clear HZ HO
            obtain ⟨x, z, hx, rfl, HZ, HO⟩ := hrel
            obtain ⟨a0, a1, s0, s1, s2⟩ := HF.out _ (out_below HO.out)
            by_cases hltx : x < X
            · have h5 : (x : Int) < (X : Int) := by omega
              have hys : y * wide ≤ 4096 := by have := Nat.mul_le_mul (show y ≤ 64 by omega) (show wide ≤ 64 by have := HST.out; omega); omega
              have hxs : x * wide ≤ 4096 := by have := Nat.mul_le_mul (show x ≤ 64 by omega) (show wide ≤ 64 by have := HST.out; omega); omega
              have hwd : 1 ≤ wide ∧ wide ≤ 64 := by have := HST.out; omega
              obtain ⟨ys, hyv⟩ : ∃ z, z = y * wide := ⟨_, rfl⟩
              obtain ⟨xs, hxv⟩ : ∃ z, z = x * wide := ⟨_, rfl⟩
              have m1 : IntKind.i64.wrap ((y : Int) * (wide : Int)) = (ys : Int) := by rw [hyv, Int.natCast_mul, IntKind.wrap_i64, ← Int.natCast_mul]; omega
              have m2 : IntKind.i64.wrap ((x : Int) * (wide : Int)) = (xs : Int) := by rw [hxv, Int.natCast_mul, IntKind.wrap_i64, ← Int.natCast_mul]; omega
              rw [← hyv] at hys
              rw [← hxv] at hxs
              have HYX := hide (And.intro hyv hxv)
              have HRA : Hid (∀ v (r s : Int), Below w3.heap.size w3 v → -200000 ≤ r ∧ r ≤ 200000 → -200000 ≤ s ∧ s ≤ 200000 → Calls Tryz.prog 31 #[tenV A 3 c B m d, .int .i64 (i : Int), .int .i64 r, .int .i64 s] v fun e w' => e = .returned (.int .i32 (numAt l H V i r s)) ∧ Below v.heap.size v w') := hide (fun v r s hv h1 h2 => by
                obtain ⟨p1, p2⟩ := HLB.out v hv
                exact rat8_any A B c m d i C H V l r s v p1 p2 hC.2 hH.2 hV.2 (by rw [HM1.out]; exact Nat.le_refl _) hlti h1 h2)
              clear hyv hxv
              go_wp2_with fail
              refine Calls.mono (HRA.out wr (ys : Int) (xs : Int) (out_below HO.out) (by omega) (by omega)) ?_
              rintro e wm ⟨rfl, hbm⟩
              have HOM : Hid (OutAt w3 gs kc zs z wm) := hide (HO.out.kept hbm)
              clear hbm a0 a1 s0 s1 s2
              obtain ⟨n0, hn0⟩ : ∃ n, n = numAt l H V i (ys : Int) (xs : Int) := ⟨_, rfl⟩
              rw [← hn0]
              have HN0 : Hid (n0 = greatN l H V i ys xs wide 0) := hide (by rw [hn0]; rfl)
              have hww : wide * wide ≤ 4096 := by have := Nat.mul_le_mul hwd.2 hwd.2; omega
              obtain ⟨ww, hwv⟩ : ∃ z, z = wide * wide := ⟨_, rfl⟩
              rw [← hwv] at hww
              have m3 : IntKind.i64.wrap ((wide : Int) * (wide : Int)) = (ww : Int) := by rw [hwv, Int.natCast_mul, IntKind.wrap_i64, ← Int.natCast_mul]; omega
              have HWV := hide hwv
              have hw0 : ¬ wide = 0 := by omega
              have hw0' : ¬ (wide : Int) = 0 := by omega
              clear hn0 hwv
              have HG : Hid (∀ v, Below wm.heap.size wm v → v.cell? ⟨w.heap.size, 0, none⟩ = some (.slice A 3 c) ∧ v.cell? ⟨w.heap.size, 1, none⟩ = some (.slice B m d)) := hide (fun v hv => by
                obtain ⟨a0, a1, s0, s1, s2⟩ := HF.out v ((out_below HOM.out).trans (hv.mono (out_below HOM.out).size))
                exact ⟨a0, a1⟩)
              go_wp2_with fail
              go_loopw [12, 13] (fun nv jv wr => ∃ (k : Nat) (n0 : Int), k ≤ ww ∧ jv = .int .i64 (k : Int) ∧ nv = .int .i32 n0 ∧ Hid (n0 = greatN l H V i ys xs wide k) ∧ Hid (Below wm.heap.size wm wr)) (fun _ jv _ => ww - (intOf jv).toNat)
              case atStart => exact ⟨0, n0, Nat.zero_le _, rfl, rfl, HN0, hide (Below.refl _ _)⟩
              case round =>
                clear HN0
                obtain ⟨j, n0, hj, rfl, rfl, HN, HBW⟩ := hrel
                by_cases hltj : j < ww
                · have h6 : (j : Int) < (ww : Int) := by omega
                  have hj1 : j / wide ≤ j := Nat.div_le_self _ _
                  have hj2 : j % wide ≤ j := Nat.mod_le _ _
                  obtain ⟨j1, hj1v⟩ : ∃ z, z = j / wide := ⟨_, rfl⟩
                  obtain ⟨j2, hj2v⟩ : ∃ z, z = j % wide := ⟨_, rfl⟩
                  rw [← hj1v] at hj1
                  rw [← hj2v] at hj2
                  obtain ⟨yj, hyj⟩ : ∃ z, z = ys + j1 := ⟨_, rfl⟩
                  obtain ⟨xj, hxj⟩ : ∃ z, z = xs + j2 := ⟨_, rfl⟩
                  have q1 : ((j : Int)).tdiv (wide : Int) = (j1 : Int) := by rw [hj1v, Int.tdiv_eq_ediv_of_nonneg (by omega), Int.natCast_ediv]
                  have q2 : ((j : Int)).tmod (wide : Int) = (j2 : Int) := by rw [hj2v, Int.tmod_eq_emod_of_nonneg (by omega), Int.natCast_emod]
                  have q3 : IntKind.i64.wrap (j1 : Int) = (j1 : Int) := by rw [IntKind.wrap_i64]; omega
                  have q4 : IntKind.i64.wrap (j2 : Int) = (j2 : Int) := by rw [IntKind.wrap_i64]; omega
                  have q5 : IntKind.i64.wrap ((ys : Int) + (j1 : Int)) = (yj : Int) := by rw [hyj, IntKind.wrap_i64]; omega
                  have q6 : IntKind.i64.wrap ((xs : Int) + (j2 : Int)) = (xj : Int) := by rw [hxj, IntKind.wrap_i64]; omega
                  obtain ⟨z1, hz1⟩ : ∃ z, z = numAt l H V i (yj : Int) (xj : Int) := ⟨_, rfl⟩
                  obtain ⟨n1, hn1⟩ : ∃ z, z = max n0 z1 := ⟨_, rfl⟩
                  have hmx : (if n0 < z1 then z1 else n0) = n1 := by rw [hn1, Int.max_def]; split <;> split <;> omega
                  have HN1 : Hid (n1 = greatN l H V i ys xs wide (j + 1)) := hide (by rw [greatN, hn1, hz1, ← HN.out, hyj, hxj, hj1v, hj2v])
                  have HAT : Hid (∀ v, Below wm.heap.size wm v → Calls Tryz.prog 31 #[tenV A 3 c B m d, .int .i64 (i : Int), .int .i64 (yj : Int), .int .i64 (xj : Int)] v fun e w' => e = .returned (.int .i32 z1) ∧ Below v.heap.size v w') := hide (fun v hv => by
                    rw [hz1]
                    exact HRA.out v _ _ ((out_below HOM.out).trans (hv.mono (out_below HOM.out).size)) (by omega) (by omega))
                  have hg1 : Below wm.heap.size wm wr.drew := below_drewN HBW.out 1
                  clear hj1v hj2v hyj hxj hz1 hn1 HN
                  go_wp2
                  have hS0 : Hid (wr.drew.cell? ⟨w.heap.size, 0, none⟩ = some (.slice A 3 c) ∧ wr.drew.cell? ⟨w.heap.size, 1, none⟩ = some (.slice B m d)) := hide (HG.out _ hg1)
                  refine wp_region_U (fun _ v => v.cell? ⟨w.heap.size, 0, none⟩ = some (.slice A 3 c) ∧ v.cell? ⟨w.heap.size, 1, none⟩ = some (.slice B m d)) 99 (by kernel_rfl) ?_
                  refine wpAnyU_take (i := 0) (oi := { dst := some 68, op := _, type := _, pos := _, after := _, guard := none }) (v := .int .i32 n0) rfl (by kernel_rfl) (by kernel_rfl) (by kernel_rfl) (by kernel_rfl) (fun _ _ _ h => h) (yields_take rfl (fun w' hw => by obtain ⟨h1, h2⟩ := hw.const; go_simp)) hS0.out ?_
                  simp only [Act.put, List.setIfInBounds_toArray, List.set_cons_zero, List.set_cons_succ]
                  refine wpAnyU_take (i := 1) (oi := { dst := some 69, op := _, type := _, pos := _, after := _, guard := none }) (v := tenV A 3 c B m d) rfl (by kernel_rfl) (by kernel_rfl) (by kernel_rfl) (by kernel_rfl) (fun _ _ _ h => h) (yields_take rfl (fun w' hw => by obtain ⟨h1, h2⟩ := hw.const; go_simp)) hS0.out ?_
                  simp only [Act.put, List.setIfInBounds_toArray, List.set_cons_zero, List.set_cons_succ]
                  refine wpAnyU_take (i := 2) (oi := { dst := some 70, op := _, type := _, pos := _, after := _, guard := none }) (v := .int .i64 (i : Int)) rfl (by kernel_rfl) (by kernel_rfl) (by kernel_rfl) (by kernel_rfl) (fun _ _ _ h => h) (yields_take rfl (fun w' hw => by obtain ⟨h1, h2⟩ := hw.const; go_simp)) hS0.out ?_
                  simp only [Act.put, List.setIfInBounds_toArray, List.set_cons_zero, List.set_cons_succ]
                  refine wpAnyU_take (i := 3) (oi := { dst := some 71, op := _, type := _, pos := _, after := _, guard := none }) (v := .int .i64 (y : Int)) rfl (by kernel_rfl) (by kernel_rfl) (by kernel_rfl) (by kernel_rfl) (fun _ _ _ h => h) (yields_take rfl (fun w' hw => by obtain ⟨h1, h2⟩ := hw.const; go_simp)) hS0.out ?_
                  simp only [Act.put, List.setIfInBounds_toArray, List.set_cons_zero, List.set_cons_succ]
                  refine wpAnyU_take (i := 4) (oi := { dst := some 72, op := _, type := _, pos := _, after := _, guard := none }) (v := .int .i64 (wide : Int)) rfl (by kernel_rfl) (by kernel_rfl) (by kernel_rfl) (by kernel_rfl) (fun _ _ _ h => h) (yields_take rfl (fun w' hw => by obtain ⟨h1, h2⟩ := hw.const; go_simp)) hS0.out ?_
                  simp only [Act.put, List.setIfInBounds_toArray, List.set_cons_zero, List.set_cons_succ]
                  refine wpAnyU_take (i := 5) (oi := { dst := some 73, op := _, type := _, pos := _, after := _, guard := none }) (v := .int .i64 (ys : Int)) rfl (by kernel_rfl) (by kernel_rfl) (by kernel_rfl) (by kernel_rfl) (fun _ _ _ h => h) (yields_take rfl (fun w' hw => by obtain ⟨h1, h2⟩ := hw.const; go_simp)) hS0.out ?_
                  simp only [Act.put, List.setIfInBounds_toArray, List.set_cons_zero, List.set_cons_succ]
                  refine wpAnyU_take (i := 6) (oi := { dst := some 74, op := _, type := _, pos := _, after := _, guard := none }) (v := .int .i64 (j : Int)) rfl (by kernel_rfl) (by kernel_rfl) (by kernel_rfl) (by kernel_rfl) (fun _ _ _ h => h) (yields_take rfl (fun w' hw => by obtain ⟨h1, h2⟩ := hw.const; go_simp)) hS0.out ?_
                  simp only [Act.put, List.setIfInBounds_toArray, List.set_cons_zero, List.set_cons_succ]
                  refine wpAnyU_take (i := 7) (oi := { dst := some 75, op := _, type := _, pos := _, after := _, guard := none }) (v := .int .i64 (wide : Int)) rfl (by kernel_rfl) (by kernel_rfl) (by kernel_rfl) (by kernel_rfl) (fun _ _ _ h => h) (yields_take rfl (fun w' hw => by obtain ⟨h1, h2⟩ := hw.const; go_simp)) hS0.out ?_
                  simp only [Act.put, List.setIfInBounds_toArray, List.set_cons_zero, List.set_cons_succ]
                  refine wpAnyU_take (i := 8) (oi := { dst := some 76, op := _, type := _, pos := _, after := _, guard := none }) (v := .int .i64 (j1 : Int)) rfl (by kernel_rfl) (by kernel_rfl) (by kernel_rfl) (by kernel_rfl) (fun _ _ _ h => h) (yields_take rfl (fun w' hw => by obtain ⟨h1, h2⟩ := hw.const; go_simp)) hS0.out ?_
                  simp only [Act.put, List.setIfInBounds_toArray, List.set_cons_zero, List.set_cons_succ]
                  refine wpAnyU_take (i := 9) (oi := { dst := some 77, op := _, type := _, pos := _, after := _, guard := none }) (v := .int .i64 (yj : Int)) rfl (by kernel_rfl) (by kernel_rfl) (by kernel_rfl) (by kernel_rfl) (fun _ _ _ h => h) (yields_take rfl (fun w' hw => by obtain ⟨h1, h2⟩ := hw.const; go_simp)) hS0.out ?_
                  simp only [Act.put, List.setIfInBounds_toArray, List.set_cons_zero, List.set_cons_succ]
                  refine wpAnyU_take (i := 10) (oi := { dst := some 78, op := _, type := _, pos := _, after := _, guard := none }) (v := .int .i64 (x : Int)) rfl (by kernel_rfl) (by kernel_rfl) (by kernel_rfl) (by kernel_rfl) (fun _ _ _ h => h) (yields_take rfl (fun w' hw => by obtain ⟨h1, h2⟩ := hw.const; go_simp)) hS0.out ?_
                  simp only [Act.put, List.setIfInBounds_toArray, List.set_cons_zero, List.set_cons_succ]
                  refine wpAnyU_take (i := 11) (oi := { dst := some 79, op := _, type := _, pos := _, after := _, guard := none }) (v := .int .i64 (wide : Int)) rfl (by kernel_rfl) (by kernel_rfl) (by kernel_rfl) (by kernel_rfl) (fun _ _ _ h => h) (yields_take rfl (fun w' hw => by obtain ⟨h1, h2⟩ := hw.const; go_simp)) hS0.out ?_
                  simp only [Act.put, List.setIfInBounds_toArray, List.set_cons_zero, List.set_cons_succ]
                  refine wpAnyU_take (i := 12) (oi := { dst := some 80, op := _, type := _, pos := _, after := _, guard := none }) (v := .int .i64 (xs : Int)) rfl (by kernel_rfl) (by kernel_rfl) (by kernel_rfl) (by kernel_rfl) (fun _ _ _ h => h) (yields_take rfl (fun w' hw => by obtain ⟨h1, h2⟩ := hw.const; go_simp)) hS0.out ?_
                  simp only [Act.put, List.setIfInBounds_toArray, List.set_cons_zero, List.set_cons_succ]
                  refine wpAnyU_take (i := 13) (oi := { dst := some 81, op := _, type := _, pos := _, after := _, guard := none }) (v := .int .i64 (j : Int)) rfl (by kernel_rfl) (by kernel_rfl) (by kernel_rfl) (by kernel_rfl) (fun _ _ _ h => h) (yields_take rfl (fun w' hw => by obtain ⟨h1, h2⟩ := hw.const; go_simp)) hS0.out ?_
                  simp only [Act.put, List.setIfInBounds_toArray, List.set_cons_zero, List.set_cons_succ]
                  refine wpAnyU_take (i := 14) (oi := { dst := some 82, op := _, type := _, pos := _, after := _, guard := none }) (v := .int .i64 (wide : Int)) rfl (by kernel_rfl) (by kernel_rfl) (by kernel_rfl) (by kernel_rfl) (fun _ _ _ h => h) (yields_take rfl (fun w' hw => by obtain ⟨h1, h2⟩ := hw.const; go_simp)) hS0.out ?_
                  simp only [Act.put, List.setIfInBounds_toArray, List.set_cons_zero, List.set_cons_succ]
                  refine wpAnyU_take (i := 15) (oi := { dst := some 83, op := _, type := _, pos := _, after := _, guard := none }) (v := .int .i64 (j2 : Int)) rfl (by kernel_rfl) (by kernel_rfl) (by kernel_rfl) (by kernel_rfl) (fun _ _ _ h => h) (yields_take rfl (fun w' hw => by obtain ⟨h1, h2⟩ := hw.const; go_simp)) hS0.out ?_
                  simp only [Act.put, List.setIfInBounds_toArray, List.set_cons_zero, List.set_cons_succ]
                  refine wpAnyU_take (i := 16) (oi := { dst := some 84, op := _, type := _, pos := _, after := _, guard := none }) (v := .int .i64 (xj : Int)) rfl (by kernel_rfl) (by kernel_rfl) (by kernel_rfl) (by kernel_rfl) (fun _ _ _ h => h) (yields_take rfl (fun w' hw => by obtain ⟨h1, h2⟩ := hw.const; go_simp)) hS0.out ?_
                  simp only [Act.put, List.setIfInBounds_toArray, List.set_cons_zero, List.set_cons_succ]
                  refine wpAnyU_one (i := 17) (by kernel_rfl) rfl ?_
                  intro K hK
                  go_simp
                  refine Calls.mono (HAT.out _ hg1) ?_
                  rintro e w9 ⟨rfl, hb9⟩
                  dsimp only
                  have hg2 : Below wm.heap.size wm w9 := hg1.trans (hb9.mono hg1.size)
                  clear hb9
                  have hS1 : Hid (w9.cell? ⟨w.heap.size, 0, none⟩ = some (.slice A 3 c) ∧ w9.cell? ⟨w.heap.size, 1, none⟩ = some (.slice B m d)) := hide (HG.out _ hg2)
                  refine hK.out _ _ hS1.out (fun _ => ?_)
                  clear hK K hS0
                  refine wpAnyU_take (i := 18) (oi := { dst := some 86, op := _, type := _, pos := _, after := _, guard := none }) (v := .int .i32 n1) rfl (by kernel_rfl) (by kernel_rfl) (by kernel_rfl) (by kernel_rfl) (fun _ _ _ h => h) (yields_take rfl (fun w' hw => by obtain ⟨h1, h2⟩ := hw.const; go_simp)) hS1.out ?_
                  simp only [Act.put, List.setIfInBounds_toArray, List.set_cons_zero, List.set_cons_succ]
                  refine wpAnyU_take (i := 19) (oi := { dst := some 12, op := _, type := _, pos := _, after := _, guard := none }) (v := .int .i32 n1) rfl (by kernel_rfl) (by kernel_rfl) (by kernel_rfl) (by kernel_rfl) (fun _ _ _ h => h) (yields_take rfl (fun w' hw => by obtain ⟨h1, h2⟩ := hw.const; go_simp)) hS1.out ?_
                  simp only [Act.put, List.setIfInBounds_toArray, List.set_cons_zero, List.set_cons_succ]
                  refine wpAnyU_done (by kernel_rfl) ?_ _
                  clear hS1
                  have HGN := hide hg2
                  clear hg1 hg2
                  go_wp2
                  go_roundw
                  case rel => exact ⟨j + 1, n1, by omega, by go_num, rfl, HN1, HGN⟩
                  case measure => simp [intOf]; omega
                · obtain rfl : j = ww := by omega
                  have h6 : ¬ (j : Int) < (j : Int) := by omega
                  have HND : Hid (zs.getD z 0 = n0) := hide (by rw [HN.out, HWV.out, HZ.out, HZS.out, HYX.out.1, HYX.out.2]; exact poolL_at hlti hlty hltx)
                  have HOE : Hid (OutAt w3 gs kc zs z wr) := hide (HOM.out.kept HBW.out)
                  have hzq : z < zs.length := by rw [HZL.out, HQ.out, HZ.out]; exact place3_lt hlti hlty hltx
                  have hzq4 : z < 4096 := by have := HZL.out; omega
                  obtain ⟨A3, c3, hbx, hown, hbl⟩ := HOE.out
                  have HX : Hid ((wr.alloc (.cells #[.int .i32 n0] 21)).cell? ⟨wr.heap.size, 0, none⟩ = some (.int .i32 n0)) := hide (by have h := cells_new wr [.int .i32 n0] 21 0 _ rfl; rwa [Addr.add_lit] at h)
                  have t0 := hbx.c0
                  have t1 := hbx.c1
                  have HBX := hide hbx
                  have HOW := hide hown
                  have HBL := hide hbl
                  have hltp := hbx.lt
                  clear hbx hown hbl
                  have HZ1 : Hid (z + 1 = (i * Y + y) * X + (x + 1)) := hide (by rw [HZ.out]; rfl)
                  go_wp2_with (at_builtin; with_reducible refine wpList_append_one rfl (.tmp 88) (.tmp 90) 23 rfl 21 i0 (.int .i32 0) 4 Tryz.underlying23 HI.out HZ0.out HZ1x.out HZ2.out rfl (w3.heap.size + 1) A3 z c3 ((zs.take z).map (Value.int .i32)) rfl (HOW.out.alloc _) (by simp; omega) ⟨wr.heap.size, 0, none⟩ (.int .i32 n0) rfl HX.out rfl (by omega) (by unfold maxLen; omega) ?_)
                  intro A4 c4 w4 ho4 hm4
                  have HBX2 : Hid (BoxT (wr.alloc (.cells #[.int .i32 n0] 21)) w3.heap.size (.slice (some ⟨gs, 0, none⟩) 3 kc) (.slice A3 z c3)) := hide (HBX.out.alloc _)
                  have HSTEP : Hid (OutAt w3 gs kc zs (z + 1) (w4.setCell ⟨w3.heap.size, 1, none⟩ (.slice A4 (z + 1) c4))) := hide (out_step HBX2.out (HOW.out.alloc _) (HBL.out.alloc HBL.out.size _) (by rw [List.map_take]; exact ho4) hm4 HND.out hzq)
                  have HB4 : Hid (BoxT w4 w3.heap.size (.slice (some ⟨gs, 0, none⟩) 3 kc) (.slice A3 z c3)) := hide (by
                    rcases hm4 with ⟨_, hg⟩ | ⟨hg, _⟩
                    · exact (hg.block _ HBX2.out.lt (fun e => by have := (HOW.out.lt _ e.symm).1; omega)).trans HBX2.out
                    · exact (hg.block _ HBX2.out.lt (by simp)).trans HBX2.out)
                  have t2 := HB4.out.c1
                  have t3 := HB4.out.f0 1
                  clear ho4 hm4 t0 t1 HX
                  go_wp2
                  go_roundw
                  case rel => exact ⟨x + 1, z + 1, by omega, by go_num, HZ1, HSTEP⟩
                  case measure => simp [intOf]; omega
            · obtain rfl : x = X := by omega
              have h5 : ¬ (x : Int) < (x : Int) := by omega
              have HZ1 : Hid (z = (i * Y + (y + 1)) * x) := hide (by rw [HZ.out, ← Nat.add_assoc, Nat.succ_mul])
              go_wp2
              go_roundw
              case rel => exact ⟨y + 1, z, by omega, by go_num, HZ1, HO⟩
              case measure => simp [intOf]; omega
        · obtain rfl : y = Y := by omega
          have h4 : ¬ (y : Int) < (y : Int) := by omega
          have HZ1 : Hid (z = (i + 1) * y * X) := hide (by rw [HZ.out, Nat.succ_mul])
          go_wp2
          go_roundw
          case rel => exact ⟨i + 1, z, by omega, by go_num, HZ1, HO⟩
          case measure => simp [intOf]; omega
    · obtain rfl : i = C := by omega
      have h3 : ¬ (i : Int) < (i : Int) := by omega
      have hzq : z = q := by rw [HZ.out, HQ.out]
      subst hzq
      obtain ⟨A3, c3, hbx, hown, hbl⟩ := HO.out
      obtain ⟨a0, a1, r0, r1, rf0, rf1⟩ := HC.out _ (HB3.out.trans (hbl.mono HB3.out.size))
      have t0 := hbx.c0
      have t1 := hbx.c1
      have HRr : Hid (BoxT wr (w.heap.size + 1) (.slice none 0 0) (.slice none 0 0)) := hide ((hbl.block _ (by have := HB3.out.size; have := HS0.out; omega)).trans (BoxT.kept (show BoxT W0 (w.heap.size + 1) _ _ from HX1.out) HB3.out))
      have HOW := hide hown
      have HBL := hide hbl
      have hltp := hbx.lt
      clear hbx hown hbl
      go_wp2
      (try simp only [Exit.inBlock, Exit.then])
      refine ret_ten (p := 4) (u := 5) rfl rfl (w.heap.size + 1) _ rfl (HRr.out.set2 _ _) rfl ?_
      have hs0 := HS0.out
      have hB3s := HB3.out.size
      unfold RTen8
      refine ⟨gs, kc, A3, c3, rfl, ?_, ?_, ?_⟩
      · exact lies_set2 (HLS.out.below HBL.out) (by intro b o e; cases e; omega)
      · have h := lies_of_own HOW.out
        rw [List.take_of_length_le (by rw [HZL.out]; exact Nat.le_refl _)] at h
        exact lies_set2 h (by intro b o e; have := (HOW.out.lt b (by rw [e]; rfl)).1; omega)
      · exact ((HB0.out.trans ((HB3.out.trans (HBL.out.mono hB3s)).mono HB0.out.size)).setCell (by dsimp only; omega) _).setCell (by dsimp only; omega) _

end

end Go.Proofs.YtgkilankaknfcaaGreatDoor
