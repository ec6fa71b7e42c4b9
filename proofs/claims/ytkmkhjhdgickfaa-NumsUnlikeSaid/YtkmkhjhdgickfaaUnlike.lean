/- NumsUnlike holds for every two numbers: the walk of its Go text. -/
import Derived.Test.YtkmkhjhdgickfaaAlive
import Derived.Deep.RegionHeld3
namespace Go.Proofs.Ytkmkhjhdgickfaa
open Go.RowKit

/-- Byte j of a number. -/
def bt (m : Int) (j : Nat) : Int := (four m).getD j 0
theorem bt_cell {w : World} {g : Nat} {m : Int} (h : Lies w (some ⟨g, 0, none⟩) 4 (encV [m])) (k : Nat) (hk : k < 4) : w.cell? ⟨g, k, none⟩ = some (.int .u8 (bt m k)) := by
  have h' : Lies w (some ⟨g, 0, none⟩) 4 ((four m).map (Value.int .u8)) := by simpa [encV, enc] using h
  obtain ⟨b, o, e, _, hx⟩ := byte_at h' (by omega)
  injection e with e
  injection e with e1 e2
  subst e1
  subst e2
  have := hx k hk
  rwa [Nat.zero_add] at this
theorem bt_tells (m n : Int) (hm : 0 ≤ m ∧ m < 4294967296) (hn : 0 ≤ n ∧ n < 4294967296) (k : Nat) (hk : k ≤ 3) (h : ∀ j, k < j → j ≤ 3 → bt m j = bt n j) (hd : k = 0 ∨ bt m k ≠ bt n k) :
    (m < n ↔ bt m k < bt n k) ∧ (m = n ↔ bt m k = bt n k) := by
  have e1 := h 1
  have e2 := h 2
  have e3 := h 3
  have hc : k = 0 ∨ k = 1 ∨ k = 2 ∨ k = 3 := by omega
  simp only [bt, four, List.getD_cons_zero, List.getD_cons_succ] at e1 e2 e3 hd ⊢
  rcases hc with rfl | rfl | rfl | rfl <;> simp only [List.getD_cons_zero, List.getD_cons_succ] at hd ⊢ <;> omega

theorem tells3 {m n x y : Int} (h1 : m < n ↔ x < y) (h2 : m = n ↔ x = y) :
    (decide (m < n) = true ∧ decide (x < y) = true ∧ (m == n) = false ∧ (x == y) = false) ∨ (decide (m < n) = false ∧ decide (x < y) = false ∧ (m == n) = true ∧ (x == y) = true) ∨
    (decide (m < n) = false ∧ decide (x < y) = false ∧ (m == n) = false ∧ (x == y) = false) := by
  simp only [decide_eq_true_eq, decide_eq_false_iff_not, beq_iff_eq, beq_eq_false_iff_ne]
  omega

set_option maxRecDepth 100000 in
set_option maxHeartbeats 1000000 in
theorem unlike_walk (m n : Int) (hm : 0 ≤ m ∧ m < 4294967296) (hn : 0 ≤ n ∧ n < 4294967296) (w : World) :
    Calls Try.prog 5 #[.int .u32 m, .int .u32 n] w fun e w' => e = .returned (.bool true) ∧ Below w.heap.size w w' := by
  go_enter Try.func5, Try.ntmps5
  go_wp2_with fail
  refine Calls.mono (put4 none 0 0 m [] w Lies.nothing (by simp) (by omega)) ?_
  rintro e w1 ⟨rfl, ho1, hb1⟩
  have HO1 : Hid (Lies w1 (some ⟨w.heap.size, 0, none⟩) 4 (encV [m])) := hide (by simpa using Lies.own ho1)
  have HB1 := hide hb1
  have hs1 := hb1.size
  clear ho1 hb1
  go_wp2_with fail
  refine Calls.mono (put4 none 0 0 n [] w1 Lies.nothing (by simp) (by omega)) ?_
  rintro e w2 ⟨rfl, ho2, hb2⟩
  have HO2 : Hid (Lies w2 (some ⟨w1.heap.size, 0, none⟩) 4 (encV [n])) := hide (by simpa using Lies.own ho2)
  have HO1' := hide (HO1.out.below hb2)
  have HB2 := hide (HB1.out.trans (hb2.mono hs1))
  have hs2 := HB2.out.size
  clear ho2 hb2 HO1 HB1
  go_wp2
  go_loopw [7] (fun i wr => ∃ k : Nat, k ≤ 3 ∧ i = .int .i64 k ∧ Hid (∀ j, k < j → j ≤ 3 → bt m j = bt n j) ∧ ∃ j, wr = w2.drewN j) (fun i _ => (intOf i).toNat)
  case atStart => exact ⟨3, by omega, rfl, hide (fun j h1 h2 => by omega), 0, rfl⟩
  case round =>
    obtain ⟨k, hk, rfl, HE, nd, rfl⟩ := hrel
    have hc1 := bt_cell HO1'.out k (by omega)
    have hc2 := bt_cell HO2.out k (by omega)
    obtain ⟨x, hx⟩ : ∃ x, x = bt m k := ⟨_, rfl⟩
    obtain ⟨y, hy⟩ : ∃ y, y = bt n k := ⟨_, rfl⟩
    rw [← hx] at hc1
    rw [← hy] at hc2
    have HX := hide hx
    have HY := hide hy
    clear hx hy
    by_cases hgo : 0 < k ∧ x = y
    · obtain ⟨hk0, rfl⟩ := hgo
      have hd : decide ((0 : Int) < (k : Int)) = true := by simp; omega
      have h0 : (0 : Int) ≤ (k : Int) := by omega
      have h3 : (k : Int) < 4 := by omega
      go_wp2
      go_quiet (fail)
      go_wp2
      go_roundw
      case rel => exact ⟨k - 1, by omega, by go_num, hide (fun j h1 h2 => by
          by_cases e : j = k
          · subst e; rw [← HX.out, ← HY.out]
          · exact HE.out j (by omega) h2), _, rfl⟩
      case measure => simp [intOf]; omega
    · obtain ⟨ht1, ht2⟩ := bt_tells m n hm hn k hk HE.out (by by_cases h : k = 0; exact .inl h; exact .inr (fun e => hgo ⟨by omega, by rw [HX.out, HY.out]; exact e⟩))
      rw [← HX.out, ← HY.out] at ht1 ht2
      have HT1 := hide ht1
      have HT2 := hide ht2
      clear ht1 ht2
      have h0 : (0 : Int) ≤ (k : Int) := by omega
      have h3 : (k : Int) < 4 := by omega
      by_cases hk0 : 0 < k
      · have hd : decide ((0 : Int) < (k : Int)) = true := by simp; omega
        have hxy : (x == y) = false := beq_eq_false_iff_ne.2 (fun e => hgo ⟨hk0, e⟩)
        clear hgo
        go_wp2
        go_quiet (fail)
        go_wp2
        obtain ⟨w3, hw3⟩ : ∃ w3, w3 = (w2.drewN nd).drewN nq := ⟨_, rfl⟩
        rw [← hw3]
        have hc1' : w3.cell? ⟨w.heap.size, k, none⟩ = some (.int .u8 x) := by rw [hw3]; exact hc1
        have hc2' : w3.cell? ⟨w1.heap.size, k, none⟩ = some (.int .u8 y) := by rw [hw3]; exact hc2
        have HB3 : Hid (Below w.heap.size w w3) := by rw [hw3]; exact below_drewN (below_drewN HB2.out nd) nq
        clear hc1 hc2 hw3 HB2 HO2 HO1'
        have hs3 := HB3.out.size
        have l1 := World.block_lt_of_cell? w3 _ hc1'
        have l2 := World.block_lt_of_cell? w3 _ hc2'
        rcases tells3 HT1.out HT2.out with ⟨t1, t2, t3, t4⟩ | ⟨t1, t2, t3, t4⟩ | ⟨t1, t2, t3, t4⟩
        · go_region_held3 (fun w' => w'.cell? ⟨w.heap.size, k, none⟩ = some (.int .u8 x) ∧ w'.cell? ⟨w1.heap.size, k, none⟩ = some (.int .u8 y))
            (first | go_keep | (exact ⟨(hb4.cell l1).trans hc1', (hb4.cell l2).trans hc2'⟩))
            (first | (go_at_call 7; refine (alive_any _).mono ?_; rintro e w4 ⟨rfl, hb4⟩))
          go_wp2
          go_ret
          exact ⟨rfl, HB3.out.drew.trans (hb4.mono hs3)⟩
        · rw [hxy] at t4; cases t4
        · go_region_held3 (fun w' => w'.cell? ⟨w.heap.size, k, none⟩ = some (.int .u8 x) ∧ w'.cell? ⟨w1.heap.size, k, none⟩ = some (.int .u8 y))
            (first | go_keep | (exact ⟨(hb4.cell l1).trans hc1', (hb4.cell l2).trans hc2'⟩))
            (first | (go_at_call 7; refine (alive_any _).mono ?_; rintro e w4 ⟨rfl, hb4⟩))
          go_wp2
          go_ret
          exact ⟨rfl, HB3.out.drew.trans (hb4.mono hs3)⟩
      · have hd : decide ((0 : Int) < (k : Int)) = false := by simp; omega
        clear hgo
        go_wp2
        go_quiet (fail)
        go_wp2
        obtain ⟨w3, hw3⟩ : ∃ w3, w3 = (w2.drewN nd).drewN nq := ⟨_, rfl⟩
        rw [← hw3]
        have hc1' : w3.cell? ⟨w.heap.size, k, none⟩ = some (.int .u8 x) := by rw [hw3]; exact hc1
        have hc2' : w3.cell? ⟨w1.heap.size, k, none⟩ = some (.int .u8 y) := by rw [hw3]; exact hc2
        have HB3 : Hid (Below w.heap.size w w3) := by rw [hw3]; exact below_drewN (below_drewN HB2.out nd) nq
        clear hc1 hc2 hw3 HB2 HO2 HO1'
        have hs3 := HB3.out.size
        have l1 := World.block_lt_of_cell? w3 _ hc1'
        have l2 := World.block_lt_of_cell? w3 _ hc2'
        rcases tells3 HT1.out HT2.out with ⟨t1, t2, t3, t4⟩ | ⟨t1, t2, t3, t4⟩ | ⟨t1, t2, t3, t4⟩
        · go_region_held3 (fun w' => w'.cell? ⟨w.heap.size, k, none⟩ = some (.int .u8 x) ∧ w'.cell? ⟨w1.heap.size, k, none⟩ = some (.int .u8 y))
            (first | go_keep | (exact ⟨(hb4.cell l1).trans hc1', (hb4.cell l2).trans hc2'⟩))
            (first | (go_at_call 7; refine (alive_any _).mono ?_; rintro e w4 ⟨rfl, hb4⟩))
          go_wp2
          go_ret
          exact ⟨rfl, HB3.out.drew.trans (hb4.mono hs3)⟩
        · go_region_held3 (fun w' => w'.cell? ⟨w.heap.size, k, none⟩ = some (.int .u8 x) ∧ w'.cell? ⟨w1.heap.size, k, none⟩ = some (.int .u8 y))
            (first | go_keep | (exact ⟨(hb4.cell l1).trans hc1', (hb4.cell l2).trans hc2'⟩))
            (first | (go_at_call 7; refine (alive_any _).mono ?_; rintro e w4 ⟨rfl, hb4⟩))
          go_wp2
          go_ret
          exact ⟨rfl, HB3.out.drew.trans (hb4.mono hs3)⟩
        · go_region_held3 (fun w' => w'.cell? ⟨w.heap.size, k, none⟩ = some (.int .u8 x) ∧ w'.cell? ⟨w1.heap.size, k, none⟩ = some (.int .u8 y))
            (first | go_keep | (exact ⟨(hb4.cell l1).trans hc1', (hb4.cell l2).trans hc2'⟩))
            (first | (go_at_call 7; refine (alive_any _).mono ?_; rintro e w4 ⟨rfl, hb4⟩))
          go_wp2
          go_ret
          exact ⟨rfl, HB3.out.drew.trans (hb4.mono hs3)⟩
end Go.Proofs.Ytkmkhjhdgickfaa
