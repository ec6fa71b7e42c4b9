/- Merged: Wn1, Wn2, Wn3, Wn4, Wn5, Wn6, Wn7, Wn9, Wn8, Wn10, Wn11, Wn12, Help8, Sl8. -/
import Derived.Test.YtknlllpfjineaaaWB
import Derived.Deep.QuietTactic
import Derived.BigQuiet
import Derived.Test.YtknlllpfjineaaaWA
import Derived.RangeFuncBound
namespace Go.Proofs.Ytknlllpfjineaaa

section
open Go.RowKit
set_option linter.unusedVariables false
set_option linter.unusedSimpArgs false
set_option maxRecDepth 100000

/-- What a window covers, as a value: the picture, the first row and column. -/
abbrev coverV (A : Option Addr) (n c : Nat) (B : Option Addr) (m d : Nat) (y x : Int) : Value := .agg #[.slice A n c, .slice B m d, .int .i64 y, .int .i64 x]

set_option maxHeartbeats 1000000 in
theorem number_any (A B : Option Addr) (c m d k i j C H V : Nat) (l : List Int) (y x : Int) (w : World) (hA : Lies w A 3 (([(C : Int), (H : Int), (V : Int)] : List Int).map (Value.int .i64))) (hB : Lies w B m (l.map (Value.int .i32)))
    (hC : C ≤ 64) (hH : H ≤ 64) (hV : V ≤ 64) (hm : C * H * V ≤ m) (hk : k < C) (hy : -100000 ≤ y ∧ y ≤ 100000) (hx : -100000 ≤ x ∧ x ≤ 100000) (hi : i ≤ 100000) (hj : j ≤ 100000) :
    Calls Try.prog 60 #[coverV A 3 c B m d y x, .int .i64 (k : Int), .int .i64 (i : Int), .int .i64 (j : Int)] w fun e w' => e = .returned (.int .i32 (numAt l H V k (y + (i : Int)) (x + (j : Int)))) ∧ Below w.heap.size w w' := by
  obtain ⟨b1, o1, rfl, hb1, hx1⟩ := byte_at hA (by omega)
  have hk1 := hx1 1 (by omega)
  have hk2 := hx1 2 (by omega)
  simp only [List.getD_cons_zero, List.getD_cons_succ] at hk1 hk2
  clear hx1 hA
  obtain ⟨r, hr⟩ : ∃ r, r = y + (i : Int) := ⟨_, rfl⟩
  obtain ⟨s, hs⟩ : ∃ s, s = x + (j : Int) := ⟨_, rfl⟩
  have m1 : IntKind.i64.wrap (y + (i : Int)) = r := by rw [hr, IntKind.wrap_i64]; omega
  have m2 : IntKind.i64.wrap (x + (j : Int)) = s := by rw [hs, IntKind.wrap_i64]; omega
  rw [← hr, ← hs]
  have hr1 : -200000 ≤ r ∧ r ≤ 200000 := by omega
  have hs1 : -200000 ≤ s ∧ s ≤ 200000 := by omega
  clear hr hs
  obtain ⟨W0, hW0⟩ : ∃ W0, W0 = w.alloc (.cells #[.slice (some ⟨b1, o1, none⟩) 3 c, .slice B m d, .int .i64 y, .int .i64 x] 95) := ⟨_, rfl⟩
  have HB0 : Hid (Below w.heap.size w W0) := hide (by rw [hW0]; exact (Below.refl w.heap.size w).alloc (Nat.le_refl _) _)
  have HH : W0.heap[w.heap.size]? = some (.cells #[.slice (some ⟨b1, o1, none⟩) 3 c, .slice B m d, .int .i64 y, .int .i64 x] 95 (0, 0)) := by rw [hW0]; exact heap_alloc_new w _
  have c0 : W0.cell? ⟨w.heap.size, 0, none⟩ = some (.slice (some ⟨b1, o1, none⟩) 3 c) := cell_of_row _ _ 0 _ _ (0, 0) HH
  have c1 : W0.cell? ⟨w.heap.size, 1, none⟩ = some (.slice B m d) := cell_of_row _ _ 1 _ _ (0, 0) HH
  have c2 : W0.cell? ⟨w.heap.size, 2, none⟩ = some (.int .i64 y) := cell_of_row _ _ 2 _ _ (0, 0) HH
  have c3 : W0.cell? ⟨w.heap.size, 3, none⟩ = some (.int .i64 x) := cell_of_row _ _ 3 _ _ (0, 0) HH
  have hk1' : W0.cell? ⟨b1, o1 + 1, none⟩ = some (.int .i64 (H : Int)) := (HB0.out.cell (p := ⟨b1, o1 + 1, none⟩) hb1).trans hk1
  have hk2' : W0.cell? ⟨b1, o1 + 2, none⟩ = some (.int .i64 (V : Int)) := (HB0.out.cell (p := ⟨b1, o1 + 2, none⟩) hb1).trans hk2
  clear HH hk1 hk2
  have hW0' := hW0.symm
  clear hW0
  by_cases hin : 0 ≤ r ∧ r < (H : Int) ∧ 0 ≤ s ∧ s < (V : Int)
  · rw [numAt_in hin]
    obtain ⟨i1, i2, i3, i4⟩ := hin
    obtain ⟨R, rfl⟩ := Int.eq_ofNat_of_zero_le i1
    obtain ⟨S, rfl⟩ := Int.eq_ofNat_of_zero_le i3
    simp only [Int.toNat_natCast]
    obtain ⟨q, hq⟩ : ∃ q, q = (k * H + R) * V + S := ⟨_, rfl⟩
    have hpl := place3_lt hk (show R < H by omega) (show S < V by omega)
    rw [← hq] at hpl ⊢
    have hqm : q < m := by omega
    obtain ⟨b2, o2, rfl, hb2, hx2⟩ := byte_at hB (by omega)
    obtain ⟨z, hz⟩ : ∃ z, z = l.getD q 0 := ⟨_, rfl⟩
    rw [← hz]
    have hc2 : W0.cell? ⟨b2, o2 + q, none⟩ = some (.int .i32 z) := (HB0.out.cell (p := ⟨b2, o2 + q, none⟩) hb2).trans (by rw [hz]; exact hx2 q hqm)
    obtain ⟨u1, hu1⟩ : ∃ u, u = k * H := ⟨_, rfl⟩
    obtain ⟨u2, hu2⟩ : ∃ u, u = u1 + R := ⟨_, rfl⟩
    obtain ⟨u3, hu3⟩ : ∃ u, u = u2 * V := ⟨_, rfl⟩
    have hKH : k * H ≤ 4096 := by have := Nat.mul_le_mul (show k ≤ 64 by omega) hH; omega
    have hu3' : u2 * V ≤ 4160 * 64 := Nat.mul_le_mul (by omega) hV
    have n1 : IntKind.i64.wrap ((k : Int) * (H : Int)) = (u1 : Int) := by rw [hu1, Int.natCast_mul, IntKind.wrap_i64, ← Int.natCast_mul]; omega
    have n2 : IntKind.i64.wrap ((u1 : Int) + (R : Int)) = (u2 : Int) := by rw [hu2, IntKind.wrap_i64]; omega
    have n3 : IntKind.i64.wrap ((u2 : Int) * (V : Int)) = (u3 : Int) := by rw [hu3, Int.natCast_mul, IntKind.wrap_i64, ← Int.natCast_mul]; omega
    have n4 : IntKind.i64.wrap ((u3 : Int) + (S : Int)) = (q : Int) := by rw [hq, hu3, hu2, hu1, IntKind.wrap_i64]; rw [hu2, hu1] at hu3'; omega
    have g1 : ¬ ((R : Int) < 0) := by omega
    have g3 : ¬ ((S : Int) < 0) := by omega
    have g2 : ¬ ((H : Int) ≤ (R : Int)) := by omega
    have g4 : ¬ ((V : Int) ≤ (S : Int)) := by omega
    have h1 : (0 : Int) ≤ (q : Int) := by omega
    have h2 : (q : Int) < (m : Int) := by omega
    clear hu1 hu2 hu3 hu3' hKH hq hpl hz hx2 hB hqm hm
    go_enter Try.func60, Try.ntmps60
    go_wp2
    go_quiet (fail)
    go_wp2
    go_quiet (fail)
    go_wp2
    go_ret
    exact ⟨rfl, below_drewN HB0.out _⟩
  · rw [numAt_out hin]
    have HIN := hide hin
    clear hin
    by_cases g1 : r < 0
    · go_enter Try.func60, Try.ntmps60
      go_wp2
      go_quiet (fail)
      go_wp2
      go_quiet (fail)
      go_wp2
      go_ret
      exact ⟨rfl, below_drewN HB0.out _⟩
    · by_cases g2 : (H : Int) ≤ r
      · go_enter Try.func60, Try.ntmps60
        go_wp2
        go_quiet (fail)
        go_wp2
        go_quiet (fail)
        go_wp2
        go_ret
        exact ⟨rfl, below_drewN HB0.out _⟩
      · by_cases g3 : s < 0
        · go_enter Try.func60, Try.ntmps60
          go_wp2
          go_quiet (fail)
          go_wp2
          go_quiet (fail)
          go_wp2
          go_ret
          exact ⟨rfl, below_drewN HB0.out _⟩
        · by_cases g4 : (V : Int) ≤ s
          · go_enter Try.func60, Try.ntmps60
            go_wp2
            go_quiet (fail)
            go_wp2
            go_quiet (fail)
            go_wp2
            go_ret
            exact ⟨rfl, below_drewN HB0.out _⟩
          · exact absurd ⟨by omega, by omega, by omega, by omega⟩ HIN.out

end

section
open Go.RowKit
set_option linter.unusedVariables false
set_option linter.unusedSimpArgs false
set_option maxRecDepth 100000

theorem mul3_le {a b c A B C : Nat} (h1 : a ≤ A) (h2 : b ≤ B) (h3 : c ≤ C) : a * b * c ≤ A * B * C := Nat.mul_le_mul (Nat.mul_le_mul h1 h2) h3

set_option maxHeartbeats 2000000 in
theorem filtered_any (A B A' B' : Option Addr) (c m d c' m' d' O o K H V a b : Nat) (l l' : List Int) (y x : Int) (w : World) (hA : Lies w A 3 (([(K : Int), (H : Int), (V : Int)] : List Int).map (Value.int .i64))) (hB : Lies w B m (l.map (Value.int .i32)))
    (hA' : Lies w A' 4 (([(O : Int), (K : Int), (a : Int), (b : Int)] : List Int).map (Value.int .i64))) (hB' : Lies w B' m' (l'.map (Value.int .i32)))
    (hK : 1 ≤ K ∧ K ≤ 64) (hH : H ≤ 64) (hV : V ≤ 64) (ha : 1 ≤ a ∧ a ≤ 64) (hbb : 1 ≤ b ∧ b ≤ 64) (ho : o ≤ 64) (hm : K * H * V ≤ m) (hm' : o * (K * (a * b)) + K * (a * b) ≤ m') (hm2 : m' ≤ 4096) (hcap : m' ≤ d')
    (hy : -100000 ≤ y ∧ y ≤ 100000) (hx : -100000 ≤ x ∧ x ≤ 100000) :
    Calls Try.prog 59 #[tenV A' 4 c' B' m' d', .int .i64 (o : Int), .func (.func 60) #[coverV A 3 c B m d y x] #[]] w fun e w' => e = .returned (.int .i32 (covN l l' H V a b (o * (K * (a * b))) y x (K * (a * b)))) ∧ Below w.heap.size w w' := by
  have hab : 1 ≤ a * b := Nat.mul_pos (by omega) (by omega)
  have hkab : 1 ≤ K * (a * b) := Nat.mul_pos (by omega) (by omega)
  obtain ⟨b2, o2, rfl, hb2, hx2⟩ := byte_at hB' (by omega)
  obtain ⟨b3, o3, rfl, hb3, hx3⟩ := byte_at hA' (by omega)
  have hk1 := hx3 1 (by omega)
  have hk2 := hx3 2 (by omega)
  have hk3 := hx3 3 (by omega)
  simp only [List.getD_cons_zero, List.getD_cons_succ] at hk1 hk2 hk3
  obtain ⟨o0, ho0⟩ : ∃ q, q = o * (K * (a * b)) := ⟨_, rfl⟩
  rw [← ho0] at hm' ⊢
  obtain ⟨W0, hW0⟩ : ∃ W0, W0 = w.alloc (.cells #[.slice (some ⟨b3, o3, none⟩) 4 c', .slice (some ⟨b2, o2, none⟩) m' d'] 25) := ⟨_, rfl⟩
  have HB0 : Hid (Below w.heap.size w W0) := hide (by rw [hW0]; exact (Below.refl w.heap.size w).alloc (Nat.le_refl _) _)
  have HT0 : Hid (BoxT W0 w.heap.size (.slice (some ⟨b3, o3, none⟩) 4 c') (.slice (some ⟨b2, o2, none⟩) m' d')) := hide (by rw [hW0]; exact BoxT.new w _ _)
  have hW0' := hW0.symm
  clear hW0
  have hk1' : W0.cell? ⟨b3, o3 + 1, none⟩ = some (.int .i64 (K : Int)) := (HB0.out.cell (p := ⟨b3, o3 + 1, none⟩) hb3).trans hk1
  have hk2' : W0.cell? ⟨b3, o3 + 2, none⟩ = some (.int .i64 (a : Int)) := (HB0.out.cell (p := ⟨b3, o3 + 2, none⟩) hb3).trans hk2
  have hk3' : W0.cell? ⟨b3, o3 + 3, none⟩ = some (.int .i64 (b : Int)) := (HB0.out.cell (p := ⟨b3, o3 + 3, none⟩) hb3).trans hk3
  have HF : Hid (∀ v, Below W0.heap.size W0 v → ∀ q, q < K * (a * b) → v.cell? ⟨b2, o2 + o0 + q, none⟩ = some (.int .i32 (l'.getD (o0 + q) 0))) := hide (fun v hv q hq => by
    rw [Nat.add_assoc]
    exact ((HB0.out.trans (hv.mono HB0.out.size)).cell (p := ⟨b2, o2 + (o0 + q), none⟩) hb2).trans (hx2 (o0 + q) (by omega)))
  have HN : Hid (∀ v, Below W0.heap.size W0 v → ∀ k i j : Nat, k < K → i ≤ 100000 → j ≤ 100000 → Calls Try.prog 60 #[coverV A 3 c B m d y x, .int .i64 (k : Int), .int .i64 (i : Int), .int .i64 (j : Int)] v fun e w' => e = .returned (.int .i32 (numAt l H V k (y + (i : Int)) (x + (j : Int)))) ∧ Below v.heap.size v w') := hide (fun v hv k i j h1 h2 h3 =>
    number_any A B c m d k i j K H V l y x v (hA.below (HB0.out.trans (hv.mono HB0.out.size))) (hB.below (HB0.out.trans (hv.mono HB0.out.size))) (by omega) hH hV hm h1 hy hx h2 h3)
  clear hk1 hk2 hk3 hx2 hx3 hA hB hA' hB' hy hx hm
  obtain ⟨v1, hv1⟩ : ∃ q, q = o * K := ⟨_, rfl⟩
  obtain ⟨v2, hv2⟩ : ∃ q, q = v1 * a := ⟨_, rfl⟩
  have hv3 : o0 = v2 * b := by rw [ho0, hv2, hv1, Nat.mul_assoc, Nat.mul_assoc]
  have hv1b : v1 ≤ 4096 := by rw [hv1]; have := Nat.mul_le_mul ho hK.2; omega
  have hv2b : v2 ≤ 262144 := by rw [hv2]; have := Nat.mul_le_mul hv1b ha.2; omega
  have n1 : IntKind.i64.wrap ((o : Int) * (K : Int)) = (v1 : Int) := by rw [hv1, Int.natCast_mul, IntKind.wrap_i64, ← Int.natCast_mul]; omega
  have n2 : IntKind.i64.wrap ((v1 : Int) * (a : Int)) = (v2 : Int) := by rw [hv2, Int.natCast_mul, IntKind.wrap_i64, ← Int.natCast_mul]; omega
  have n3 : IntKind.i64.wrap ((v2 : Int) * (b : Int)) = (o0 : Int) := by rw [hv3, Int.natCast_mul, IntKind.wrap_i64, ← Int.natCast_mul]; omega
  have h1 : (0 : Int) ≤ (o0 : Int) := by omega
  have h2 : (o0 : Int) ≤ (m' : Int) := by omega
  have h2' : o0 ≤ m' := by omega
  have h0 : ¬ d' = o0 := by omega
  clear hv1 hv2 hv3 hv1b hv2b ho0
  have t0 := HT0.out.c0
  have t1 := HT0.out.c1
  go_enter Try.func59, Try.ntmps59
  go_wp2
  go_quiet (fail)
  go_wp2
  clear hW0' hk1' hk2' hk3' t0 t1
  go_loopw [11, 38] (fun s i wr => ∃ (k : Nat) (s0 : Int), k ≤ K ∧ i = .int .i64 (k : Int) ∧ s = .int .i32 s0 ∧ Hid (s0 = covN l l' H V a b o0 y x (k * a * b)) ∧ Hid (Below W0.heap.size W0 wr)) (fun _ i _ => K - (intOf i).toNat)
  case atStart => exact ⟨0, 0, Nat.zero_le _, rfl, rfl, hide (by rw [Nat.zero_mul, Nat.zero_mul]; rfl), hide (below_drewN (Below.refl _ W0) _)⟩
  case round =>
    obtain ⟨k, s0, hk, rfl, rfl, HSU, HBR⟩ := hrel
    by_cases hlt : k < K
    · have h3 : (k : Int) < (K : Int) := by omega
      go_wp2
      go_loopw [11, 42] (fun s i wr => ∃ (i' : Nat) (s0 : Int), i' ≤ a ∧ i = .int .i64 (i' : Int) ∧ s = .int .i32 s0 ∧ Hid (s0 = covN l l' H V a b o0 y x ((k * a + i') * b)) ∧ Hid (Below W0.heap.size W0 wr)) (fun _ i _ => a - (intOf i).toNat)
      case atStart => exact ⟨0, s0, Nat.zero_le _, rfl, rfl, HSU, HBR⟩
      case round =>
        clear HSU HBR
        obtain ⟨i, s0, hi, rfl, rfl, HSU, HBR⟩ := hrel
        by_cases hlti : i < a
        · have h4 : (i : Int) < (a : Int) := by omega
          go_wp2
          go_loopw [11, 46] (fun s i' wr => ∃ (j : Nat) (s0 : Int), j ≤ b ∧ i' = .int .i64 (j : Int) ∧ s = .int .i32 s0 ∧ Hid (s0 = covN l l' H V a b o0 y x ((k * a + i) * b + j)) ∧ Hid (Below W0.heap.size W0 wr)) (fun _ i _ => b - (intOf i).toNat)
          case atStart => exact ⟨0, s0, Nat.zero_le _, rfl, rfl, HSU, HBR⟩
          case round =>
            clear HSU HBR
            obtain ⟨j, s0, hj, rfl, rfl, HSU, HBR⟩ := hrel
            by_cases hltj : j < b
            · have h5 : (j : Int) < (b : Int) := by omega
              obtain ⟨u1, hu1⟩ : ∃ q, q = k * a := ⟨_, rfl⟩
              obtain ⟨u2, hu2⟩ : ∃ q, q = u1 + i := ⟨_, rfl⟩
              obtain ⟨u3, hu3⟩ : ∃ q, q = u2 * b := ⟨_, rfl⟩
              obtain ⟨q, hq⟩ : ∃ q, q = u3 + j := ⟨_, rfl⟩
              have hqe : q = (k * a + i) * b + j := by rw [hq, hu3, hu2, hu1]
              have hq0 : q < K * (a * b) := by rw [hqe, ← Nat.mul_assoc]; exact place3_lt hlt hlti hltj
              have hu1b : u1 ≤ 4096 := by rw [hu1]; have := Nat.mul_le_mul (show k ≤ 64 by omega) ha.2; omega
              have hu3b : u3 ≤ 4160 * 64 := by rw [hu3]; exact Nat.mul_le_mul (by omega) hbb.2
              have m1 : IntKind.i64.wrap ((k : Int) * (a : Int)) = (u1 : Int) := by rw [hu1, Int.natCast_mul, IntKind.wrap_i64, ← Int.natCast_mul]; omega
              have m2 : IntKind.i64.wrap ((u1 : Int) + (i : Int)) = (u2 : Int) := by rw [hu2, IntKind.wrap_i64]; omega
              have m3 : IntKind.i64.wrap ((u2 : Int) * (b : Int)) = (u3 : Int) := by rw [hu3, Int.natCast_mul, IntKind.wrap_i64, ← Int.natCast_mul]; omega
              have m4 : IntKind.i64.wrap ((u3 : Int) + (j : Int)) = (q : Int) := by rw [hq, IntKind.wrap_i64]; omega
              obtain ⟨z1, hz1⟩ : ∃ z, z = numAt l H V k (y + (i : Int)) (x + (j : Int)) := ⟨_, rfl⟩
              obtain ⟨z2, hz2⟩ : ∃ z, z = l'.getD (o0 + q) 0 := ⟨_, rfl⟩
              obtain ⟨z3, hz3⟩ : ∃ z, z = mul32 z1 z2 := ⟨_, rfl⟩
              obtain ⟨s1, hs1⟩ : ∃ z, z = add32 s0 z3 := ⟨_, rfl⟩
              have m5 : IntKind.i32.wrap (z1 * z2) = z3 := by rw [hz3, mul32, wrap32, IntKind.wrap_i32]
              have m6 : IntKind.i32.wrap (s0 + z3) = s1 := by rw [hs1, add32, wrap32, IntKind.wrap_i32]
              have HS1 : Hid (s1 = covN l l' H V a b o0 y x ((k * a + i) * b + (j + 1))) := hide (by rw [covN_step hlti hltj, hs1, hz3, hz1, hz2, hqe, ← HSU.out])
              have hNk := HN.out
              have HN : Hid (∀ v, Below W0.heap.size W0 v → Calls Try.prog 60 #[coverV A 3 c B m d y x, .int .i64 (k : Int), .int .i64 (i : Int), .int .i64 (j : Int)] v fun e w' => e = .returned (.int .i32 z1) ∧ Below v.heap.size v w') := hide (fun v hv => by rw [hz1]; exact hNk v hv k i j hlt (by omega) (by omega))
              have hFk := HF.out
              have HF : Hid (∀ v, Below W0.heap.size W0 v → v.cell? ⟨b2, o2 + o0 + q, none⟩ = some (.int .i32 z2)) := hide (fun v hv => by rw [hz2]; exact hFk v hv q hq0)
              have h6 : (0 : Int) ≤ (q : Int) := by omega
              have h7 : (q : Int) < ((m' - o0 : Nat) : Int) := by omega
              have h7' : q < m' - o0 := by omega
              have hb1 : Below W0.heap.size W0 wr.drew := below_drewN HBR.out 1
              clear hq0 hu1 hu2 hu3 hq hqe hu1b hu3b hz1 hz2 hz3 hs1 hNk hFk HSU
              go_wp2
              have hS0 : Hid (wr.drew.cell? ⟨b2, o2 + o0 + q, none⟩ = some (.int .i32 z2)) := hide (HF.out _ hb1)
              refine wp_region_U (fun _ v => v.cell? ⟨b2, o2 + o0 + q, none⟩ = some (.int .i32 z2)) 99 (by kernel_rfl) ?_
              refine wpAnyU_take (i := 0) (oi := { dst := some 49, op := _, type := _, pos := _, after := _, guard := none }) (v := .int .i32 s0) rfl (by kernel_rfl) (by kernel_rfl) (by kernel_rfl) (by kernel_rfl) (fun _ _ _ h => h) (yields_take rfl (fun w' hw => by have h1 := hw.const; go_simp)) hS0.out ?_
              simp only [Act.put, List.setIfInBounds_toArray, List.set_cons_zero, List.set_cons_succ]
              refine wpAnyU_take (i := 1) (oi := { dst := some 50, op := _, type := _, pos := _, after := _, guard := none }) (v := .func (.func 60) #[coverV A 3 c B m d y x] #[]) rfl (by kernel_rfl) (by kernel_rfl) (by kernel_rfl) (by kernel_rfl) (fun _ _ _ h => h) (yields_take rfl (fun w' hw => by have h1 := hw.const; go_simp)) hS0.out ?_
              simp only [Act.put, List.setIfInBounds_toArray, List.set_cons_zero, List.set_cons_succ]
              refine wpAnyU_take (i := 2) (oi := { dst := some 51, op := _, type := _, pos := _, after := _, guard := none }) (v := .int .i64 (k : Int)) rfl (by kernel_rfl) (by kernel_rfl) (by kernel_rfl) (by kernel_rfl) (fun _ _ _ h => h) (yields_take rfl (fun w' hw => by have h1 := hw.const; go_simp)) hS0.out ?_
              simp only [Act.put, List.setIfInBounds_toArray, List.set_cons_zero, List.set_cons_succ]
              refine wpAnyU_take (i := 3) (oi := { dst := some 52, op := _, type := _, pos := _, after := _, guard := none }) (v := .int .i64 (i : Int)) rfl (by kernel_rfl) (by kernel_rfl) (by kernel_rfl) (by kernel_rfl) (fun _ _ _ h => h) (yields_take rfl (fun w' hw => by have h1 := hw.const; go_simp)) hS0.out ?_
              simp only [Act.put, List.setIfInBounds_toArray, List.set_cons_zero, List.set_cons_succ]
              refine wpAnyU_take (i := 4) (oi := { dst := some 53, op := _, type := _, pos := _, after := _, guard := none }) (v := .int .i64 (j : Int)) rfl (by kernel_rfl) (by kernel_rfl) (by kernel_rfl) (by kernel_rfl) (fun _ _ _ h => h) (yields_take rfl (fun w' hw => by have h1 := hw.const; go_simp)) hS0.out ?_
              simp only [Act.put, List.setIfInBounds_toArray, List.set_cons_zero, List.set_cons_succ]
              refine wpAnyU_take (i := 6) (oi := { dst := some 55, op := _, type := _, pos := _, after := _, guard := none }) (v := (.slice (some ⟨b2, o2 + o0, none⟩) (m' - o0) (d' - o0))) rfl (by kernel_rfl) (by kernel_rfl) (by kernel_rfl) (by kernel_rfl) (fun _ _ _ h => h) (yields_take rfl (fun w' hw => by have h1 := hw.const; go_simp)) hS0.out ?_
              simp only [Act.put, List.setIfInBounds_toArray, List.set_cons_zero, List.set_cons_succ]
              refine wpAnyU_take (i := 7) (oi := { dst := some 56, op := _, type := _, pos := _, after := _, guard := none }) (v := .int .i64 (k : Int)) rfl (by kernel_rfl) (by kernel_rfl) (by kernel_rfl) (by kernel_rfl) (fun _ _ _ h => h) (yields_take rfl (fun w' hw => by have h1 := hw.const; go_simp)) hS0.out ?_
              simp only [Act.put, List.setIfInBounds_toArray, List.set_cons_zero, List.set_cons_succ]
              refine wpAnyU_take (i := 8) (oi := { dst := some 57, op := _, type := _, pos := _, after := _, guard := none }) (v := .int .i64 (a : Int)) rfl (by kernel_rfl) (by kernel_rfl) (by kernel_rfl) (by kernel_rfl) (fun _ _ _ h => h) (yields_take rfl (fun w' hw => by have h1 := hw.const; go_simp)) hS0.out ?_
              simp only [Act.put, List.setIfInBounds_toArray, List.set_cons_zero, List.set_cons_succ]
              refine wpAnyU_take (i := 9) (oi := { dst := some 58, op := _, type := _, pos := _, after := _, guard := none }) (v := .int .i64 (u1 : Int)) rfl (by kernel_rfl) (by kernel_rfl) (by kernel_rfl) (by kernel_rfl) (fun _ _ _ h => h) (yields_take rfl (fun w' hw => by have h1 := hw.const; go_simp)) hS0.out ?_
              simp only [Act.put, List.setIfInBounds_toArray, List.set_cons_zero, List.set_cons_succ]
              refine wpAnyU_take (i := 10) (oi := { dst := some 59, op := _, type := _, pos := _, after := _, guard := none }) (v := .int .i64 (i : Int)) rfl (by kernel_rfl) (by kernel_rfl) (by kernel_rfl) (by kernel_rfl) (fun _ _ _ h => h) (yields_take rfl (fun w' hw => by have h1 := hw.const; go_simp)) hS0.out ?_
              simp only [Act.put, List.setIfInBounds_toArray, List.set_cons_zero, List.set_cons_succ]
              refine wpAnyU_take (i := 11) (oi := { dst := some 60, op := _, type := _, pos := _, after := _, guard := none }) (v := .int .i64 (u2 : Int)) rfl (by kernel_rfl) (by kernel_rfl) (by kernel_rfl) (by kernel_rfl) (fun _ _ _ h => h) (yields_take rfl (fun w' hw => by have h1 := hw.const; go_simp)) hS0.out ?_
              simp only [Act.put, List.setIfInBounds_toArray, List.set_cons_zero, List.set_cons_succ]
              refine wpAnyU_take (i := 12) (oi := { dst := some 61, op := _, type := _, pos := _, after := _, guard := none }) (v := .int .i64 (b : Int)) rfl (by kernel_rfl) (by kernel_rfl) (by kernel_rfl) (by kernel_rfl) (fun _ _ _ h => h) (yields_take rfl (fun w' hw => by have h1 := hw.const; go_simp)) hS0.out ?_
              simp only [Act.put, List.setIfInBounds_toArray, List.set_cons_zero, List.set_cons_succ]
              refine wpAnyU_take (i := 13) (oi := { dst := some 62, op := _, type := _, pos := _, after := _, guard := none }) (v := .int .i64 (u3 : Int)) rfl (by kernel_rfl) (by kernel_rfl) (by kernel_rfl) (by kernel_rfl) (fun _ _ _ h => h) (yields_take rfl (fun w' hw => by have h1 := hw.const; go_simp)) hS0.out ?_
              simp only [Act.put, List.setIfInBounds_toArray, List.set_cons_zero, List.set_cons_succ]
              refine wpAnyU_take (i := 14) (oi := { dst := some 63, op := _, type := _, pos := _, after := _, guard := none }) (v := .int .i64 (j : Int)) rfl (by kernel_rfl) (by kernel_rfl) (by kernel_rfl) (by kernel_rfl) (fun _ _ _ h => h) (yields_take rfl (fun w' hw => by have h1 := hw.const; go_simp)) hS0.out ?_
              simp only [Act.put, List.setIfInBounds_toArray, List.set_cons_zero, List.set_cons_succ]
              refine wpAnyU_take (i := 15) (oi := { dst := some 64, op := _, type := _, pos := _, after := _, guard := none }) (v := .int .i64 (q : Int)) rfl (by kernel_rfl) (by kernel_rfl) (by kernel_rfl) (by kernel_rfl) (fun _ _ _ h => h) (yields_take rfl (fun w' hw => by have h1 := hw.const; go_simp)) hS0.out ?_
              simp only [Act.put, List.setIfInBounds_toArray, List.set_cons_zero, List.set_cons_succ]
              refine wpAnyU_take (i := 16) (oi := { dst := some 65, op := _, type := _, pos := _, after := _, guard := none }) (v := .pointer (some ⟨b2, o2 + o0 + q, none⟩)) rfl (by kernel_rfl) (by kernel_rfl) (by kernel_rfl) (by kernel_rfl) (fun _ _ _ h => h) (yields_take rfl (fun w' hw => by have h1 := hw.const; go_simp)) hS0.out ?_
              simp only [Act.put, List.setIfInBounds_toArray, List.set_cons_zero, List.set_cons_succ]
              refine wpAnyU_take (i := 17) (oi := { dst := some 66, op := _, type := _, pos := _, after := _, guard := none }) (v := .int .i32 z2) rfl (by kernel_rfl) (by kernel_rfl) (by kernel_rfl) (by kernel_rfl) (fun _ _ _ h => h) (yields_take rfl (fun w' hw => by have h1 := hw.const; go_simp)) hS0.out ?_
              simp only [Act.put, List.setIfInBounds_toArray, List.set_cons_zero, List.set_cons_succ]
              refine wpAnyU_one (i := 5) (by kernel_rfl) rfl ?_
              intro K hK
              go_simp
              refine Calls.mono (HN.out _ hb1) ?_
              rintro e w2 ⟨rfl, hb20⟩
              dsimp only
              have hb2 : Below W0.heap.size W0 w2 := hb1.trans (hb20.mono hb1.size)
              clear hb20
              have hS1 : Hid (w2.cell? ⟨b2, o2 + o0 + q, none⟩ = some (.int .i32 z2)) := hide (HF.out _ hb2)
              refine hK.out _ _ hS1.out (fun _ => ?_)
              clear hK K hS0
              refine wpAnyU_take (i := 18) (oi := { dst := some 67, op := _, type := _, pos := _, after := _, guard := none }) (v := .int .i32 z3) rfl (by kernel_rfl) (by kernel_rfl) (by kernel_rfl) (by kernel_rfl) (fun _ _ _ h => h) (yields_take rfl (fun w' hw => by have h1 := hw.const; go_simp)) hS1.out ?_
              simp only [Act.put, List.setIfInBounds_toArray, List.set_cons_zero, List.set_cons_succ]
              refine wpAnyU_take (i := 19) (oi := { dst := some 68, op := _, type := _, pos := _, after := _, guard := none }) (v := .int .i32 s1) rfl (by kernel_rfl) (by kernel_rfl) (by kernel_rfl) (by kernel_rfl) (fun _ _ _ h => h) (yields_take rfl (fun w' hw => by have h1 := hw.const; go_simp)) hS1.out ?_
              simp only [Act.put, List.setIfInBounds_toArray, List.set_cons_zero, List.set_cons_succ]
              refine wpAnyU_take (i := 20) (oi := { dst := some 11, op := _, type := _, pos := _, after := _, guard := none }) (v := .int .i32 s1) rfl (by kernel_rfl) (by kernel_rfl) (by kernel_rfl) (by kernel_rfl) (fun _ _ _ h => h) (yields_take rfl (fun w' hw => by have h1 := hw.const; go_simp)) hS1.out ?_
              simp only [Act.put, List.setIfInBounds_toArray, List.set_cons_zero, List.set_cons_succ]
              refine wpAnyU_done (by kernel_rfl) ?_ _
              clear hS1
              have HNB := hide hb2
              clear hb1 hb2
              go_wp2
              go_roundw
              case rel => exact ⟨j + 1, s1, by omega, by go_num, rfl, HS1, HNB⟩
              case measure => simp [intOf]; omega
            · obtain rfl : j = b := by omega
              have HNS : Hid (s0 = covN l l' H V a j o0 y x ((k * a + (i + 1)) * j)) := hide (by rw [HSU.out, ← Nat.add_assoc, Nat.succ_mul])
              go_wp2
              go_roundw
              case rel => exact ⟨i + 1, s0, by omega, by go_num, rfl, HNS, HBR⟩
              case measure => simp [intOf]; omega
        · obtain rfl : i = a := by omega
          have HNS : Hid (s0 = covN l l' H V i b o0 y x ((k + 1) * i * b)) := hide (by rw [HSU.out, Nat.succ_mul])
          go_wp2
          go_roundw
          case rel => exact ⟨k + 1, s0, by omega, by go_num, rfl, HNS, HBR⟩
          case measure => simp [intOf]; omega
    · obtain rfl : k = K := by omega
      have HNS : Hid (s0 = covN l l' H V a b o0 y x (k * (a * b))) := hide (by rw [HSU.out, Nat.mul_assoc])
      go_wp2
      go_ret
      exact ⟨congrArg (fun z => Ending.returned (.int .i32 z)) HNS.out, HB0.out.trans (HBR.out.mono HB0.out.size)⟩

end

section
open Go.RowKit
set_option linter.unusedVariables false
set_option linter.unusedSimpArgs false
set_option maxRecDepth 100000

set_option maxHeartbeats 2000000 in
theorem greatest_any (A B : Option Addr) (c m d k wide K H V Y X : Nat) (l : List Int) (w : World) (hA : Lies w A 3 (([(K : Int), (H : Int), (V : Int)] : List Int).map (Value.int .i64))) (hB : Lies w B m (l.map (Value.int .i32)))
    (hK : K ≤ 64) (hH : H ≤ 64) (hV : V ≤ 64) (hm : K * H * V ≤ m) (hk : k < K) (hwd : wide ≤ 64) (hY : Y ≤ 100000) (hX : X ≤ 100000) :
    Calls Try.prog 62 #[.int .i64 (k : Int), .int .i64 (wide : Int), .func (.func 60) #[coverV A 3 c B m d (Y : Int) (X : Int)] #[]] w fun e w' => e = .returned (.int .i32 (greatN l H V k Y X wide (wide * wide))) ∧ Below w.heap.size w w' := by
  have HN : Hid (∀ v, Below w.heap.size w v → ∀ i j : Nat, i ≤ 100000 → j ≤ 100000 → Calls Try.prog 60 #[coverV A 3 c B m d (Y : Int) (X : Int), .int .i64 (k : Int), .int .i64 (i : Int), .int .i64 (j : Int)] v fun e w' => e = .returned (.int .i32 (numAt l H V k ((Y + i : Nat) : Int) ((X + j : Nat) : Int))) ∧ Below v.heap.size v w') := hide (fun v hv i j h1 h2 => by
    have h := number_any A B c m d k i j K H V l (Y : Int) (X : Int) v (hA.below hv) (hB.below hv) hK hH hV hm hk (by omega) (by omega) h1 h2
    rw [Int.natCast_add, Int.natCast_add]
    exact h)
  clear hA hB hm
  go_enter Try.func62, Try.ntmps62
  go_wp2_with fail
  have hn0 := HN.out w (Below.refl _ w) 0 0 (by omega) (by omega)
  obtain ⟨z0, hz0⟩ : ∃ z, z = greatN l H V k Y X wide 0 := ⟨_, rfl⟩
  rw [show numAt l H V k ((Y + 0 : Nat) : Int) ((X + 0 : Nat) : Int) = z0 from hz0.symm] at hn0
  refine Calls.mono hn0 ?_
  rintro e w1 ⟨rfl, hb1⟩
  have HZ : Hid (z0 = greatN l H V k Y X wide (0 * wide)) := hide (by rw [Nat.zero_mul]; exact hz0)
  have HB1 := hide hb1
  clear hb1 hn0 hz0
  go_wp2
  go_loopw [7, 14] (fun s i wr => ∃ (i' : Nat) (s0 : Int), i' ≤ wide ∧ i = .int .i64 (i' : Int) ∧ s = .int .i32 s0 ∧ Hid (s0 = greatN l H V k Y X wide (i' * wide)) ∧ Hid (Below w.heap.size w wr)) (fun _ i _ => wide - (intOf i).toNat)
  case atStart => exact ⟨0, z0, Nat.zero_le _, rfl, rfl, HZ, HB1⟩
  case round =>
    clear HZ HB1
    obtain ⟨i, s0, hi, rfl, rfl, HSU, HBR⟩ := hrel
    by_cases hlti : i < wide
    · have h4 : (i : Int) < (wide : Int) := by omega
      go_wp2
      go_loopw [7, 18] (fun s i' wr => ∃ (j : Nat) (s0 : Int), j ≤ wide ∧ i' = .int .i64 (j : Int) ∧ s = .int .i32 s0 ∧ Hid (s0 = greatN l H V k Y X wide (i * wide + j)) ∧ Hid (Below w.heap.size w wr)) (fun _ i _ => wide - (intOf i).toNat)
      case atStart => exact ⟨0, s0, Nat.zero_le _, rfl, rfl, HSU, HBR⟩
      case round =>
        clear HSU HBR
        obtain ⟨j, s0, hj, rfl, rfl, HSU, HBR⟩ := hrel
        by_cases hltj : j < wide
        · have h5 : (j : Int) < (wide : Int) := by omega
          obtain ⟨z1, hz1⟩ : ∃ z, z = numAt l H V k ((Y + i : Nat) : Int) ((X + j : Nat) : Int) := ⟨_, rfl⟩
          obtain ⟨s1, hs1⟩ : ∃ z, z = max s0 z1 := ⟨_, rfl⟩
          have hmx : (if s0 < z1 then z1 else s0) = s1 := by rw [hs1, Int.max_def]; split <;> split <;> omega
          have HS1 : Hid (s1 = greatN l H V k Y X wide (i * wide + (j + 1))) := hide (by rw [greatN_step hlti hltj, hs1, hz1, ← HSU.out])
          have hn := HN.out wr HBR.out i j (by omega) (by omega)
          rw [← hz1] at hn
          have HC := hide hn
          clear hz1 hs1 hn HSU
          go_wp2_with fail
          refine Calls.mono HC.out ?_
          rintro e w2 ⟨rfl, hb2⟩
          have HNB : Hid (Below w.heap.size w w2) := hide (HBR.out.trans (hb2.mono HBR.out.size))
          clear hb2 HC
          go_wp2
          go_roundw
          case rel => exact ⟨j + 1, s1, by omega, by go_num, rfl, HS1, HNB⟩
          case measure => simp [intOf]; omega
        · obtain rfl : j = wide := by omega
          have HNS : Hid (s0 = greatN l H V k Y X j ((i + 1) * j)) := hide (by rw [HSU.out, Nat.succ_mul])
          go_wp2
          go_roundw
          case rel => exact ⟨i + 1, s0, by omega, by go_num, rfl, HNS, HBR⟩
          case measure => simp [intOf]; omega
    · obtain rfl : i = wide := by omega
      go_wp2
      go_ret
      exact ⟨congrArg (fun z => Ending.returned (.int .i32 z)) HSU.out, HBR.out⟩

/-- How many places a window has along a direction. -/
def hm8 (p f step : Int) : Int := if p < f then 0 else (p - f) / step + 1

set_option maxHeartbeats 400000 in
theorem howMany_any (p f step : Int) (w : World) (hp : -1000 ≤ p ∧ p ≤ 1000) (hf : 0 ≤ f ∧ f ≤ 1000) (hs : 1 ≤ step ∧ step ≤ 8) :
    Calls Try.prog 76 #[.int .i64 p, .int .i64 f, .int .i64 step] w fun e w' => e = .returned (.int .i64 (hm8 p f step)) ∧ w = w' := by
  by_cases h : p < f
  · have e : hm8 p f step = 0 := by rw [hm8, if_pos h]
    rw [e]
    go_enter Try.func76, Try.ntmps76
    go_wp2
    go_ret
    exact ⟨rfl, rfl⟩
  · have e : hm8 p f step = (p - f) / step + 1 := by rw [hm8, if_neg h]
    have hq := Int.ediv_nonneg (show 0 ≤ p - f by omega) (show 0 ≤ step by omega)
    have hq2 : (p - f) / step ≤ p - f := Int.ediv_le_self _ (by omega)
    obtain ⟨u, hu⟩ : ∃ u, u = p - f := ⟨_, rfl⟩
    obtain ⟨q, hqq⟩ : ∃ q, q = u / step := ⟨_, rfl⟩
    rw [← hu, ← hqq] at e hq hq2
    have m1 : IntKind.i64.wrap (p - f) = u := by rw [hu, IntKind.wrap_i64]; omega
    have m2 : u.tdiv step = q := by rw [hqq, Int.tdiv_eq_ediv_of_nonneg (by omega)]
    have m3 : IntKind.i64.wrap q = q := by rw [IntKind.wrap_i64]; omega
    have m4 : IntKind.i64.wrap (q + 1) = q + 1 := by rw [IntKind.wrap_i64]; omega
    have hs0 : ¬ step = 0 := by omega
    rw [e]
    clear e hqq hu
    go_enter Try.func76, Try.ntmps76
    go_wp2
    go_ret
    exact ⟨rfl, rfl⟩

end

section
open Go.RowKit
set_option linter.unusedVariables false
set_option linter.unusedSimpArgs false
set_option maxRecDepth 100000

def shp8L (t u : List Int) (step pad : Int) : List Int := [u.getD 0 0, hm8 (t.getD 1 0 + 2 * pad) (u.getD 2 0) step, hm8 (t.getD 2 0 + 2 * pad) (u.getD 3 0) step]

def shp8E (t u : List Int) (step pad : Int) : Int :=
  if 0 < sizeI t ∧ 0 < sizeI u ∧ 1 ≤ step ∧ step ≤ 8 ∧ 0 ≤ pad ∧ pad ≤ 8 then (if t.length = 3 ∧ u.length = 4 ∧ t.getD 0 0 = u.getD 1 0 then (if 0 < sizeI (shp8L t u step pad) then 0 else 10) else 10) else 1

def shp8S (t u : List Int) (step pad : Int) : List Int := if shp8E t u step pad = 0 then shp8L t u step pad else []

theorem shp8E_arg {t u : List Int} {step pad : Int} (h : ¬ (0 < sizeI t ∧ 0 < sizeI u ∧ 1 ≤ step ∧ step ≤ 8 ∧ 0 ≤ pad ∧ pad ≤ 8)) : shp8E t u step pad = 1 := by rw [shp8E, if_neg h]

theorem shp8E_shape {t u : List Int} {step pad : Int} (h : 0 < sizeI t ∧ 0 < sizeI u ∧ 1 ≤ step ∧ step ≤ 8 ∧ 0 ≤ pad ∧ pad ≤ 8) (h2 : ¬ (t.length = 3 ∧ u.length = 4 ∧ t.getD 0 0 = u.getD 1 0)) : shp8E t u step pad = 10 := by rw [shp8E, if_pos h, if_neg h2]

theorem shp8E_end {t u : List Int} {step pad : Int} (h : 0 < sizeI t ∧ 0 < sizeI u ∧ 1 ≤ step ∧ step ≤ 8 ∧ 0 ≤ pad ∧ pad ≤ 8) (h2 : t.length = 3 ∧ u.length = 4 ∧ t.getD 0 0 = u.getD 1 0) : (0 < sizeI (shp8L t u step pad) → shp8E t u step pad = 0) ∧ (¬ 0 < sizeI (shp8L t u step pad) → shp8E t u step pad = 10) := by
  rw [shp8E, if_pos h, if_pos h2]
  exact ⟨fun h => if_pos h, fun h => if_neg h⟩

theorem shp8E_iff {t u : List Int} {step pad : Int} : shp8E t u step pad = 0 ↔ (0 < sizeI t ∧ 0 < sizeI u ∧ 1 ≤ step ∧ step ≤ 8 ∧ 0 ≤ pad ∧ pad ≤ 8) ∧ (t.length = 3 ∧ u.length = 4 ∧ t.getD 0 0 = u.getD 1 0) ∧ 0 < sizeI (shp8L t u step pad) := by
  unfold shp8E
  by_cases h : 0 < sizeI t ∧ 0 < sizeI u ∧ 1 ≤ step ∧ step ≤ 8 ∧ 0 ≤ pad ∧ pad ≤ 8
  · rw [if_pos h]
    by_cases h3 : t.length = 3 ∧ u.length = 4 ∧ t.getD 0 0 = u.getD 1 0
    · rw [if_pos h3]
      by_cases h4 : 0 < sizeI (shp8L t u step pad)
      · rw [if_pos h4]; exact ⟨fun _ => ⟨h, h3, h4⟩, fun _ => rfl⟩
      · rw [if_neg h4]; exact ⟨fun e => absurd e (by decide), fun e => absurd e.2.2 h4⟩
    · rw [if_neg h3]; exact ⟨fun e => absurd e (by decide), fun e => absurd e.2.1 h3⟩
  · rw [if_neg h]; exact ⟨fun e => absurd e (by decide), fun e => absurd e.1 h⟩

theorem shp8E_all (t u : List Int) (step pad : Int) : shp8E t u step pad = 0 ∨ shp8E t u step pad = 1 ∨ shp8E t u step pad = 10 := by
  unfold shp8E
  split
  · split
    · split
      · exact .inl rfl
      · exact .inr (.inr rfl)
    · exact .inr (.inr rfl)
  · exact .inr (.inl rfl)

theorem shp8S_bad {t u : List Int} {step pad : Int} (h : shp8E t u step pad ≠ 0) : shp8S t u step pad = [] := by rw [shp8S, if_neg h]

theorem below_al7x {w v : World} {o : Obj} (h : Below w.heap.size w v) : Below w.heap.size w (v.alloc o) := h.alloc h.size o

set_option maxHeartbeats 4000000 in
theorem wshape_any (A A' : Option Addr) (n c n' c' : Nat) (s s' : List Int) (step pad : Int) (w : World) (hA : Lies w A n (s.map (Value.int .i64))) (hA' : Lies w A' n' (s'.map (Value.int .i64))) (hn : n ≤ 281474976710656) (hn' : n' ≤ 281474976710656) :
    Calls Try.prog 53 #[.slice A n c, .slice A' n' c', .int .i64 step, .int .i64 pad] w fun e w' => ∃ R k kc, e = .returned (.tuple #[.slice R k kc, .int .i64 (shp8E s s' step pad)]) ∧ w'.ownsRow w.heap.size 3 1 (.slice R k kc) k ((shp8S s s' step pad).map (Value.int .i64)) ∧ k ≤ 3 ∧ Below w.heap.size w w' := by
  have hl1 : s.length = n := by have := hA.len; simpa using this
  have hl2 : s'.length = n' := by have := hA'.len; simpa using this
  have HL1 := hide hl1
  have HL2 := hide hl2
  have HA := hide hA
  have HA' := hide hA'
  clear hA hA' hl1 hl2
  have HBAD : Hid (∀ v, shp8E s s' step pad ≠ 0 → Below w.heap.size w v → ∃ R k kc, Ending.returned (.tuple #[.slice none 0 0, .int .i64 (shp8E s s' step pad)]) = .returned (.tuple #[.slice R k kc, .int .i64 (shp8E s s' step pad)]) ∧ v.ownsRow w.heap.size 3 1 (.slice R k kc) k ((shp8S s s' step pad).map (Value.int .i64)) ∧ k ≤ 3 ∧ Below w.heap.size w v) := hide (fun v h hb => ⟨none, 0, 0, rfl, by rw [shp8S_bad h]; exact World.ownsRow_nil _ _ _ _, by omega, hb⟩)
  go_enter Try.func53, Try.ntmps53
  go_wp2_with fail
  refine Calls.mono (check_any A n c s _ HA.out hn) ?_
  rintro e w1 ⟨rfl, hb1⟩
  by_cases h1 : 0 < sizeI s
  rotate_left
  · rw [decide_eq_false h1]
    have HE : Hid (shp8E s s' step pad = 1) := hide (shp8E_arg fun h => h1 h.1)
    have HB := hide hb1
    clear h1 hb1
    go_wp2
    go_ret2
    have h := HBAD.out _ (by rw [HE.out]; decide) HB.out
    rw [HE.out] at h ⊢
    exact h
  rw [decide_eq_true h1]
  go_wp2_with fail
  refine Calls.mono (check_any A' n' c' s' _ (HA'.out.below hb1) hn') ?_
  rintro e w2 ⟨rfl, hb20⟩
  have hb2 : Below w.heap.size w w2 := hb1.trans (hb20.mono hb1.size)
  clear hb20 hb1
  by_cases h2 : 0 < sizeI s'
  rotate_left
  · rw [decide_eq_false h2]
    have HE : Hid (shp8E s s' step pad = 1) := hide (shp8E_arg fun h => h2 h.2.1)
    have HB := hide hb2
    clear h1 h2 hb2
    go_wp2
    go_ret2
    have h := HBAD.out _ (by rw [HE.out]; decide) HB.out
    rw [HE.out] at h ⊢
    exact h
  rw [decide_eq_true h2]
  by_cases g1 : step < 1
  · have HB0 := hide h1
    have HB0' := hide h2
    clear h1 h2
    have HE : Hid (shp8E s s' step pad = 1) := hide (shp8E_arg fun h => absurd h.2.2.1 (by omega))
    have HB := hide hb2
    clear hb2
    go_wp2
    go_ret2
    have h := HBAD.out _ (by rw [HE.out]; decide) HB.out
    rw [HE.out] at h ⊢
    exact h
  by_cases g2 : 8 < step
  · have HB0 := hide h1
    have HB0' := hide h2
    clear h1 h2
    have HE : Hid (shp8E s s' step pad = 1) := hide (shp8E_arg fun h => absurd h.2.2.2.1 (by omega))
    have HB := hide hb2
    clear hb2
    go_wp2
    go_ret2
    have h := HBAD.out _ (by rw [HE.out]; decide) HB.out
    rw [HE.out] at h ⊢
    exact h
  by_cases g3 : pad < 0
  · have HB0 := hide h1
    have HB0' := hide h2
    clear h1 h2
    have HE : Hid (shp8E s s' step pad = 1) := hide (shp8E_arg fun h => absurd h.2.2.2.2.1 (by omega))
    have HB := hide hb2
    clear hb2
    go_wp2
    go_ret2
    have h := HBAD.out _ (by rw [HE.out]; decide) HB.out
    rw [HE.out] at h ⊢
    exact h
  by_cases g4 : 8 < pad
  · have HB0 := hide h1
    have HB0' := hide h2
    clear h1 h2
    have HE : Hid (shp8E s s' step pad = 1) := hide (shp8E_arg fun h => absurd h.2.2.2.2.2 (by omega))
    have HB := hide hb2
    clear hb2
    go_wp2
    go_ret2
    have h := HBAD.out _ (by rw [HE.out]; decide) HB.out
    rw [HE.out] at h ⊢
    exact h
  have HOK : Hid (0 < sizeI s ∧ 0 < sizeI s' ∧ 1 ≤ step ∧ step ≤ 8 ∧ 0 ≤ pad ∧ pad ≤ 8) := hide ⟨h1, h2, by omega, by omega, by omega, by omega⟩
  clear h1 h2
  have HBD : Hid (Below w.heap.size w (w2.drewN 1)) := hide (below_drewN hb2 1)
  by_cases h3 : n = 3
  rotate_left
  · have HE : Hid (shp8E s s' step pad = 10) := hide (shp8E_shape HOK.out (by rw [HL1.out]; exact fun h => h3 h.1))
    have e1 : ((n : Int) == 3) = false := by simpa using (by omega : ¬ (n : Int) = 3)
    have e2 : ((n : Int) != 3) = true := by simpa using (by omega : ¬ (n : Int) = 3)
    go_wp2
    have hS0 : Hid (True) := hide (trivial)
    refine wp_region_U (fun _ v => True) 99 (by kernel_rfl) ?_
    refine wpAnyU_take (i := 0) (oi := { dst := some 35, op := _, type := _, pos := _, after := _, guard := none }) (v := .slice A n c) rfl (by kernel_rfl) (by kernel_rfl) (by kernel_rfl) (by kernel_rfl) (fun _ _ _ h => h) (yields_take rfl (fun w' hw => by go_simp)) hS0.out ?_
    simp only [Act.put, List.setIfInBounds_toArray, List.set_cons_zero, List.set_cons_succ]
    refine wpAnyU_take (i := 1) (oi := { dst := some 36, op := _, type := _, pos := _, after := _, guard := none }) (v := .int .i64 (n : Int)) rfl (by kernel_rfl) (by kernel_rfl) (by kernel_rfl) (by kernel_rfl) (fun _ _ _ h => h) (yields_take rfl (fun w' hw => by go_simp)) hS0.out ?_
    simp only [Act.put, List.setIfInBounds_toArray, List.set_cons_zero, List.set_cons_succ]
    refine wpAnyU_take (i := 2) (oi := { dst := some 37, op := _, type := _, pos := _, after := _, guard := none }) (v := .bool true) rfl (by kernel_rfl) (by kernel_rfl) (by kernel_rfl) (by kernel_rfl) (fun _ _ _ h => h) (yields_take rfl (fun w' hw => by go_simp)) hS0.out ?_
    simp only [Act.put, List.setIfInBounds_toArray, List.set_cons_zero, List.set_cons_succ]
    refine wpAnyU_take (i := 3) (oi := { dst := some 38, op := _, type := _, pos := _, after := _, guard := none }) (v := .bool true) rfl (by kernel_rfl) (by kernel_rfl) (by kernel_rfl) (by kernel_rfl) (fun _ _ _ h => h) (yields_take rfl (fun w' hw => by go_simp)) hS0.out ?_
    simp only [Act.put, List.setIfInBounds_toArray, List.set_cons_zero, List.set_cons_succ]
    refine wpAnyU_take (i := 4) (oi := { dst := some 39, op := _, type := _, pos := _, after := _, guard := some (3, false) }) (v := undef) rfl (by kernel_rfl) (by kernel_rfl) (by kernel_rfl) (by kernel_rfl) (fun _ _ _ h => h) (.inr ⟨rfl, rfl⟩) hS0.out ?_
    simp only [Act.put, List.setIfInBounds_toArray, List.set_cons_zero, List.set_cons_succ]
    refine wpAnyU_take (i := 5) (oi := { dst := some 40, op := _, type := _, pos := _, after := _, guard := some (3, false) }) (v := undef) rfl (by kernel_rfl) (by kernel_rfl) (by kernel_rfl) (by kernel_rfl) (fun _ _ _ h => h) (.inr ⟨rfl, rfl⟩) hS0.out ?_
    simp only [Act.put, List.setIfInBounds_toArray, List.set_cons_zero, List.set_cons_succ]
    refine wpAnyU_take (i := 6) (oi := { dst := some 41, op := _, type := _, pos := _, after := _, guard := some (3, false) }) (v := undef) rfl (by kernel_rfl) (by kernel_rfl) (by kernel_rfl) (by kernel_rfl) (fun _ _ _ h => h) (.inr ⟨rfl, rfl⟩) hS0.out ?_
    simp only [Act.put, List.setIfInBounds_toArray, List.set_cons_zero, List.set_cons_succ]
    refine wpAnyU_take (i := 7) (oi := { dst := some 42, op := _, type := _, pos := _, after := _, guard := none }) (v := .bool true) rfl (by kernel_rfl) (by kernel_rfl) (by kernel_rfl) (by kernel_rfl) (fun _ _ _ h => h) (yields_take rfl (fun w' hw => by go_simp)) hS0.out ?_
    simp only [Act.put, List.setIfInBounds_toArray, List.set_cons_zero, List.set_cons_succ]
    refine wpAnyU_take (i := 8) (oi := { dst := some 43, op := _, type := _, pos := _, after := _, guard := none }) (v := .bool true) rfl (by kernel_rfl) (by kernel_rfl) (by kernel_rfl) (by kernel_rfl) (fun _ _ _ h => h) (yields_take rfl (fun w' hw => by go_simp)) hS0.out ?_
    simp only [Act.put, List.setIfInBounds_toArray, List.set_cons_zero, List.set_cons_succ]
    refine wpAnyU_take (i := 9) (oi := { dst := some 44, op := _, type := _, pos := _, after := _, guard := some (8, false) }) (v := undef) rfl (by kernel_rfl) (by kernel_rfl) (by kernel_rfl) (by kernel_rfl) (fun _ _ _ h => h) (.inr ⟨rfl, rfl⟩) hS0.out ?_
    simp only [Act.put, List.setIfInBounds_toArray, List.set_cons_zero, List.set_cons_succ]
    refine wpAnyU_take (i := 10) (oi := { dst := some 45, op := _, type := _, pos := _, after := _, guard := some (8, false) }) (v := undef) rfl (by kernel_rfl) (by kernel_rfl) (by kernel_rfl) (by kernel_rfl) (fun _ _ _ h => h) (.inr ⟨rfl, rfl⟩) hS0.out ?_
    simp only [Act.put, List.setIfInBounds_toArray, List.set_cons_zero, List.set_cons_succ]
    refine wpAnyU_take (i := 11) (oi := { dst := some 46, op := _, type := _, pos := _, after := _, guard := some (8, false) }) (v := undef) rfl (by kernel_rfl) (by kernel_rfl) (by kernel_rfl) (by kernel_rfl) (fun _ _ _ h => h) (.inr ⟨rfl, rfl⟩) hS0.out ?_
    simp only [Act.put, List.setIfInBounds_toArray, List.set_cons_zero, List.set_cons_succ]
    refine wpAnyU_take (i := 12) (oi := { dst := some 47, op := _, type := _, pos := _, after := _, guard := some (8, false) }) (v := undef) rfl (by kernel_rfl) (by kernel_rfl) (by kernel_rfl) (by kernel_rfl) (fun _ _ _ h => h) (.inr ⟨rfl, rfl⟩) hS0.out ?_
    simp only [Act.put, List.setIfInBounds_toArray, List.set_cons_zero, List.set_cons_succ]
    refine wpAnyU_take (i := 13) (oi := { dst := some 48, op := _, type := _, pos := _, after := _, guard := some (8, false) }) (v := undef) rfl (by kernel_rfl) (by kernel_rfl) (by kernel_rfl) (by kernel_rfl) (fun _ _ _ h => h) (.inr ⟨rfl, rfl⟩) hS0.out ?_
    simp only [Act.put, List.setIfInBounds_toArray, List.set_cons_zero, List.set_cons_succ]
    refine wpAnyU_take (i := 14) (oi := { dst := some 49, op := _, type := _, pos := _, after := _, guard := some (8, false) }) (v := undef) rfl (by kernel_rfl) (by kernel_rfl) (by kernel_rfl) (by kernel_rfl) (fun _ _ _ h => h) (.inr ⟨rfl, rfl⟩) hS0.out ?_
    simp only [Act.put, List.setIfInBounds_toArray, List.set_cons_zero, List.set_cons_succ]
    refine wpAnyU_take (i := 15) (oi := { dst := some 50, op := _, type := _, pos := _, after := _, guard := some (8, false) }) (v := undef) rfl (by kernel_rfl) (by kernel_rfl) (by kernel_rfl) (by kernel_rfl) (fun _ _ _ h => h) (.inr ⟨rfl, rfl⟩) hS0.out ?_
    simp only [Act.put, List.setIfInBounds_toArray, List.set_cons_zero, List.set_cons_succ]
    refine wpAnyU_take (i := 16) (oi := { dst := some 51, op := _, type := _, pos := _, after := _, guard := none }) (v := .bool true) rfl (by kernel_rfl) (by kernel_rfl) (by kernel_rfl) (by kernel_rfl) (fun _ _ _ h => h) (yields_take rfl (fun w' hw => by go_simp)) hS0.out ?_
    simp only [Act.put, List.setIfInBounds_toArray, List.set_cons_zero, List.set_cons_succ]
    refine wpAnyU_done (by kernel_rfl) ?_ _
    clear hS0
    go_wp2
    go_ret2
    have h := HBAD.out _ (by rw [HE.out]; decide) HBD.out
    rw [HE.out] at h ⊢
    exact h
  subst h3
  by_cases h4 : n' = 4
  rotate_left
  · have HE : Hid (shp8E s s' step pad = 10) := hide (shp8E_shape HOK.out (by rw [HL2.out]; exact fun h => h4 h.2.1))
    have e1 : ((n' : Int) == 4) = false := by simpa using (by omega : ¬ (n' : Int) = 4)
    have e2 : ((n' : Int) != 4) = true := by simpa using (by omega : ¬ (n' : Int) = 4)
    go_wp2
    have hS0 : Hid (True) := hide (trivial)
    refine wp_region_U (fun _ v => True) 99 (by kernel_rfl) ?_
    refine wpAnyU_take (i := 0) (oi := { dst := some 35, op := _, type := _, pos := _, after := _, guard := none }) (v := .slice A 3 c) rfl (by kernel_rfl) (by kernel_rfl) (by kernel_rfl) (by kernel_rfl) (fun _ _ _ h => h) (yields_take rfl (fun w' hw => by go_simp)) hS0.out ?_
    simp only [Act.put, List.setIfInBounds_toArray, List.set_cons_zero, List.set_cons_succ]
    refine wpAnyU_take (i := 1) (oi := { dst := some 36, op := _, type := _, pos := _, after := _, guard := none }) (v := .int .i64 3) rfl (by kernel_rfl) (by kernel_rfl) (by kernel_rfl) (by kernel_rfl) (fun _ _ _ h => h) (yields_take rfl (fun w' hw => by go_simp)) hS0.out ?_
    simp only [Act.put, List.setIfInBounds_toArray, List.set_cons_zero, List.set_cons_succ]
    refine wpAnyU_take (i := 2) (oi := { dst := some 37, op := _, type := _, pos := _, after := _, guard := none }) (v := .bool false) rfl (by kernel_rfl) (by kernel_rfl) (by kernel_rfl) (by kernel_rfl) (fun _ _ _ h => h) (yields_take rfl (fun w' hw => by go_simp)) hS0.out ?_
    simp only [Act.put, List.setIfInBounds_toArray, List.set_cons_zero, List.set_cons_succ]
    refine wpAnyU_take (i := 3) (oi := { dst := some 38, op := _, type := _, pos := _, after := _, guard := none }) (v := .bool false) rfl (by kernel_rfl) (by kernel_rfl) (by kernel_rfl) (by kernel_rfl) (fun _ _ _ h => h) (yields_take rfl (fun w' hw => by go_simp)) hS0.out ?_
    simp only [Act.put, List.setIfInBounds_toArray, List.set_cons_zero, List.set_cons_succ]
    refine wpAnyU_take (i := 4) (oi := { dst := some 39, op := _, type := _, pos := _, after := _, guard := some (3, false) }) (v := .slice A' n' c') rfl (by kernel_rfl) (by kernel_rfl) (by kernel_rfl) (by kernel_rfl) (fun _ _ _ h => h) (yields_take rfl (fun w' hw => by go_simp)) hS0.out ?_
    simp only [Act.put, List.setIfInBounds_toArray, List.set_cons_zero, List.set_cons_succ]
    refine wpAnyU_take (i := 5) (oi := { dst := some 40, op := _, type := _, pos := _, after := _, guard := some (3, false) }) (v := .int .i64 (n' : Int)) rfl (by kernel_rfl) (by kernel_rfl) (by kernel_rfl) (by kernel_rfl) (fun _ _ _ h => h) (yields_take rfl (fun w' hw => by go_simp)) hS0.out ?_
    simp only [Act.put, List.setIfInBounds_toArray, List.set_cons_zero, List.set_cons_succ]
    refine wpAnyU_take (i := 6) (oi := { dst := some 41, op := _, type := _, pos := _, after := _, guard := some (3, false) }) (v := .bool true) rfl (by kernel_rfl) (by kernel_rfl) (by kernel_rfl) (by kernel_rfl) (fun _ _ _ h => h) (yields_take rfl (fun w' hw => by go_simp)) hS0.out ?_
    simp only [Act.put, List.setIfInBounds_toArray, List.set_cons_zero, List.set_cons_succ]
    refine wpAnyU_take (i := 7) (oi := { dst := some 42, op := _, type := _, pos := _, after := _, guard := none }) (v := .bool true) rfl (by kernel_rfl) (by kernel_rfl) (by kernel_rfl) (by kernel_rfl) (fun _ _ _ h => h) (yields_take rfl (fun w' hw => by go_simp)) hS0.out ?_
    simp only [Act.put, List.setIfInBounds_toArray, List.set_cons_zero, List.set_cons_succ]
    refine wpAnyU_take (i := 8) (oi := { dst := some 43, op := _, type := _, pos := _, after := _, guard := none }) (v := .bool true) rfl (by kernel_rfl) (by kernel_rfl) (by kernel_rfl) (by kernel_rfl) (fun _ _ _ h => h) (yields_take rfl (fun w' hw => by go_simp)) hS0.out ?_
    simp only [Act.put, List.setIfInBounds_toArray, List.set_cons_zero, List.set_cons_succ]
    refine wpAnyU_take (i := 9) (oi := { dst := some 44, op := _, type := _, pos := _, after := _, guard := some (8, false) }) (v := undef) rfl (by kernel_rfl) (by kernel_rfl) (by kernel_rfl) (by kernel_rfl) (fun _ _ _ h => h) (.inr ⟨rfl, rfl⟩) hS0.out ?_
    simp only [Act.put, List.setIfInBounds_toArray, List.set_cons_zero, List.set_cons_succ]
    refine wpAnyU_take (i := 10) (oi := { dst := some 45, op := _, type := _, pos := _, after := _, guard := some (8, false) }) (v := undef) rfl (by kernel_rfl) (by kernel_rfl) (by kernel_rfl) (by kernel_rfl) (fun _ _ _ h => h) (.inr ⟨rfl, rfl⟩) hS0.out ?_
    simp only [Act.put, List.setIfInBounds_toArray, List.set_cons_zero, List.set_cons_succ]
    refine wpAnyU_take (i := 11) (oi := { dst := some 46, op := _, type := _, pos := _, after := _, guard := some (8, false) }) (v := undef) rfl (by kernel_rfl) (by kernel_rfl) (by kernel_rfl) (by kernel_rfl) (fun _ _ _ h => h) (.inr ⟨rfl, rfl⟩) hS0.out ?_
    simp only [Act.put, List.setIfInBounds_toArray, List.set_cons_zero, List.set_cons_succ]
    refine wpAnyU_take (i := 12) (oi := { dst := some 47, op := _, type := _, pos := _, after := _, guard := some (8, false) }) (v := undef) rfl (by kernel_rfl) (by kernel_rfl) (by kernel_rfl) (by kernel_rfl) (fun _ _ _ h => h) (.inr ⟨rfl, rfl⟩) hS0.out ?_
    simp only [Act.put, List.setIfInBounds_toArray, List.set_cons_zero, List.set_cons_succ]
    refine wpAnyU_take (i := 13) (oi := { dst := some 48, op := _, type := _, pos := _, after := _, guard := some (8, false) }) (v := undef) rfl (by kernel_rfl) (by kernel_rfl) (by kernel_rfl) (by kernel_rfl) (fun _ _ _ h => h) (.inr ⟨rfl, rfl⟩) hS0.out ?_
    simp only [Act.put, List.setIfInBounds_toArray, List.set_cons_zero, List.set_cons_succ]
    refine wpAnyU_take (i := 14) (oi := { dst := some 49, op := _, type := _, pos := _, after := _, guard := some (8, false) }) (v := undef) rfl (by kernel_rfl) (by kernel_rfl) (by kernel_rfl) (by kernel_rfl) (fun _ _ _ h => h) (.inr ⟨rfl, rfl⟩) hS0.out ?_
    simp only [Act.put, List.setIfInBounds_toArray, List.set_cons_zero, List.set_cons_succ]
    refine wpAnyU_take (i := 15) (oi := { dst := some 50, op := _, type := _, pos := _, after := _, guard := some (8, false) }) (v := undef) rfl (by kernel_rfl) (by kernel_rfl) (by kernel_rfl) (by kernel_rfl) (fun _ _ _ h => h) (.inr ⟨rfl, rfl⟩) hS0.out ?_
    simp only [Act.put, List.setIfInBounds_toArray, List.set_cons_zero, List.set_cons_succ]
    refine wpAnyU_take (i := 16) (oi := { dst := some 51, op := _, type := _, pos := _, after := _, guard := none }) (v := .bool true) rfl (by kernel_rfl) (by kernel_rfl) (by kernel_rfl) (by kernel_rfl) (fun _ _ _ h => h) (yields_take rfl (fun w' hw => by go_simp)) hS0.out ?_
    simp only [Act.put, List.setIfInBounds_toArray, List.set_cons_zero, List.set_cons_succ]
    refine wpAnyU_done (by kernel_rfl) ?_ _
    clear hS0
    go_wp2
    go_ret2
    have h := HBAD.out _ (by rw [HE.out]; decide) HBD.out
    rw [HE.out] at h ⊢
    exact h
  subst h4
  obtain ⟨b1, o1, rfl, hbk1, hx1⟩ := byte_at HA.out (by omega)
  obtain ⟨b2, o2, rfl, hbk2, hx2⟩ := byte_at HA'.out (by omega)
  have hd1 := size_dims HOK.out.1
  have hd2 := size_dims HOK.out.2.1
  have q11 := hd1.at (k := 1) (by rw [HL1.out]; omega)
  have q12 := hd1.at (k := 2) (by rw [HL1.out]; omega)
  have q22 := hd2.at (k := 2) (by rw [HL2.out]; omega)
  have q23 := hd2.at (k := 3) (by rw [HL2.out]; omega)
  obtain ⟨x, hx⟩ : ∃ z, z = s.getD 0 0 := ⟨_, rfl⟩
  obtain ⟨h, hh⟩ : ∃ z, z = s.getD 1 0 := ⟨_, rfl⟩
  obtain ⟨vv, hv⟩ : ∃ z, z = s.getD 2 0 := ⟨_, rfl⟩
  obtain ⟨p, hp0⟩ : ∃ z, z = s'.getD 0 0 := ⟨_, rfl⟩
  obtain ⟨y, hy⟩ : ∃ z, z = s'.getD 1 0 := ⟨_, rfl⟩
  obtain ⟨e, he⟩ : ∃ z, z = s'.getD 2 0 := ⟨_, rfl⟩
  obtain ⟨g, hg⟩ : ∃ z, z = s'.getD 3 0 := ⟨_, rfl⟩
  have c10 := hx1 0 (by omega)
  have c11 := hx1 1 (by omega)
  have c12 := hx1 2 (by omega)
  have c20 := hx2 0 (by omega)
  have c21 := hx2 1 (by omega)
  have c22 := hx2 2 (by omega)
  have c23 := hx2 3 (by omega)
  rw [← hx] at c10
  rw [← hh] at c11 q11
  rw [← hv] at c12 q12
  rw [← hp0] at c20
  rw [← hy] at c21
  rw [← he] at c22 q22
  rw [← hg] at c23 q23
  have HK1 : Hid (∀ u, Below w.heap.size w u → u.cell? ⟨b1, o1, none⟩ = some (.int .i64 x) ∧ u.cell? ⟨b2, o2 + 1, none⟩ = some (.int .i64 y)) := hide (fun u hu => ⟨(hu.cell (p := ⟨b1, o1, none⟩) hbk1).trans c10, (hu.cell (p := ⟨b2, o2 + 1, none⟩) hbk2).trans c21⟩)
  have HK2 : Hid (∀ u, Below w.heap.size w u → u.cell? ⟨b1, o1 + 1, none⟩ = some (.int .i64 h) ∧ u.cell? ⟨b1, o1 + 2, none⟩ = some (.int .i64 vv) ∧ u.cell? ⟨b2, o2, none⟩ = some (.int .i64 p) ∧ u.cell? ⟨b2, o2 + 2, none⟩ = some (.int .i64 e) ∧ u.cell? ⟨b2, o2 + 3, none⟩ = some (.int .i64 g)) := hide (fun u hu => ⟨(hu.cell (p := ⟨b1, o1 + 1, none⟩) hbk1).trans c11, (hu.cell (p := ⟨b1, o1 + 2, none⟩) hbk1).trans c12, (hu.cell (p := ⟨b2, o2, none⟩) hbk2).trans c20, (hu.cell (p := ⟨b2, o2 + 2, none⟩) hbk2).trans c22, (hu.cell (p := ⟨b2, o2 + 3, none⟩) hbk2).trans c23⟩)
  have HXY := hide (And.intro hx hy)
  obtain ⟨pp, hpp⟩ : ∃ z, z = 2 * pad := ⟨_, rfl⟩
  obtain ⟨hp, hhp⟩ : ∃ z, z = h + pp := ⟨_, rfl⟩
  obtain ⟨vp, hvp⟩ : ∃ z, z = vv + pp := ⟨_, rfl⟩
  obtain ⟨q1, hq1⟩ : ∃ z, z = hm8 hp e step := ⟨_, rfl⟩
  obtain ⟨q2, hq2⟩ : ∃ z, z = hm8 vp g step := ⟨_, rfl⟩
  have m1 : IntKind.i64.wrap (2 * pad) = pp := by rw [hpp, IntKind.wrap_i64]; omega
  have m2 : IntKind.i64.wrap (h + pp) = hp := by rw [hhp, IntKind.wrap_i64]; omega
  have m3 : IntKind.i64.wrap (vv + pp) = vp := by rw [hvp, IntKind.wrap_i64]; omega
  have HB1 : Hid (-1000 ≤ hp ∧ hp ≤ 1000) := hide (by omega)
  have HB2 : Hid (-1000 ≤ vp ∧ vp ≤ 1000) := hide (by omega)
  have HB3 : Hid (0 ≤ e ∧ e ≤ 1000) := hide (by omega)
  have HB4 : Hid (0 ≤ g ∧ g ≤ 1000) := hide (by omega)
  have HST : Hid (1 ≤ step ∧ step ≤ 8) := hide (by omega)
  have HQ1 := hide hq1.symm
  have HQ2 := hide hq2.symm
  have HLL : Hid (shp8L s s' step pad = [p, q1, q2]) := hide (by rw [shp8L, ← hh, ← hv, ← hp0, ← he, ← hg, ← hpp, ← hhp, ← hvp, ← hq1, ← hq2])
  clear hx1 hx2 c10 c11 c12 c20 c21 c22 c23 hp0 hx hy hh hv he hg hpp hhp hvp hq1 hq2 q11 q12 q22 q23 hd1 hd2
  by_cases h5 : x = y
  rotate_left
  · have HE : Hid (shp8E s s' step pad = 10) := hide (shp8E_shape HOK.out (by rw [← HXY.out.1, ← HXY.out.2]; exact fun h => h5 h.2.2))
    have e1 : (x == y) = false := by simpa using h5
    have e2 : (x != y) = true := by simpa using h5
    go_wp2
    have hS0 : Hid ((w2.drew).cell? ⟨b1, o1, none⟩ = some (.int .i64 x) ∧ (w2.drew).cell? ⟨b2, o2 + 1, none⟩ = some (.int .i64 y)) := hide (HK1.out _ (below_drewN hb2 1))
    refine wp_region_U (fun _ v => v.cell? ⟨b1, o1, none⟩ = some (.int .i64 x) ∧ v.cell? ⟨b2, o2 + 1, none⟩ = some (.int .i64 y)) 99 (by kernel_rfl) ?_
    refine wpAnyU_take (i := 0) (oi := { dst := some 35, op := _, type := _, pos := _, after := _, guard := none }) (v := .slice (some ⟨b1, o1, none⟩) 3 c) rfl (by kernel_rfl) (by kernel_rfl) (by kernel_rfl) (by kernel_rfl) (fun _ _ _ h => h) (yields_take rfl (fun w' hw => by obtain ⟨h1, h2⟩ := hw.const; go_simp)) hS0.out ?_
    simp only [Act.put, List.setIfInBounds_toArray, List.set_cons_zero, List.set_cons_succ]
    refine wpAnyU_take (i := 1) (oi := { dst := some 36, op := _, type := _, pos := _, after := _, guard := none }) (v := .int .i64 3) rfl (by kernel_rfl) (by kernel_rfl) (by kernel_rfl) (by kernel_rfl) (fun _ _ _ h => h) (yields_take rfl (fun w' hw => by obtain ⟨h1, h2⟩ := hw.const; go_simp)) hS0.out ?_
    simp only [Act.put, List.setIfInBounds_toArray, List.set_cons_zero, List.set_cons_succ]
    refine wpAnyU_take (i := 2) (oi := { dst := some 37, op := _, type := _, pos := _, after := _, guard := none }) (v := .bool false) rfl (by kernel_rfl) (by kernel_rfl) (by kernel_rfl) (by kernel_rfl) (fun _ _ _ h => h) (yields_take rfl (fun w' hw => by obtain ⟨h1, h2⟩ := hw.const; go_simp)) hS0.out ?_
    simp only [Act.put, List.setIfInBounds_toArray, List.set_cons_zero, List.set_cons_succ]
    refine wpAnyU_take (i := 3) (oi := { dst := some 38, op := _, type := _, pos := _, after := _, guard := none }) (v := .bool false) rfl (by kernel_rfl) (by kernel_rfl) (by kernel_rfl) (by kernel_rfl) (fun _ _ _ h => h) (yields_take rfl (fun w' hw => by obtain ⟨h1, h2⟩ := hw.const; go_simp)) hS0.out ?_
    simp only [Act.put, List.setIfInBounds_toArray, List.set_cons_zero, List.set_cons_succ]
    refine wpAnyU_take (i := 4) (oi := { dst := some 39, op := _, type := _, pos := _, after := _, guard := some (3, false) }) (v := .slice (some ⟨b2, o2, none⟩) 4 c') rfl (by kernel_rfl) (by kernel_rfl) (by kernel_rfl) (by kernel_rfl) (fun _ _ _ h => h) (yields_take rfl (fun w' hw => by obtain ⟨h1, h2⟩ := hw.const; go_simp)) hS0.out ?_
    simp only [Act.put, List.setIfInBounds_toArray, List.set_cons_zero, List.set_cons_succ]
    refine wpAnyU_take (i := 5) (oi := { dst := some 40, op := _, type := _, pos := _, after := _, guard := some (3, false) }) (v := .int .i64 4) rfl (by kernel_rfl) (by kernel_rfl) (by kernel_rfl) (by kernel_rfl) (fun _ _ _ h => h) (yields_take rfl (fun w' hw => by obtain ⟨h1, h2⟩ := hw.const; go_simp)) hS0.out ?_
    simp only [Act.put, List.setIfInBounds_toArray, List.set_cons_zero, List.set_cons_succ]
    refine wpAnyU_take (i := 6) (oi := { dst := some 41, op := _, type := _, pos := _, after := _, guard := some (3, false) }) (v := .bool false) rfl (by kernel_rfl) (by kernel_rfl) (by kernel_rfl) (by kernel_rfl) (fun _ _ _ h => h) (yields_take rfl (fun w' hw => by obtain ⟨h1, h2⟩ := hw.const; go_simp)) hS0.out ?_
    simp only [Act.put, List.setIfInBounds_toArray, List.set_cons_zero, List.set_cons_succ]
    refine wpAnyU_take (i := 7) (oi := { dst := some 42, op := _, type := _, pos := _, after := _, guard := none }) (v := .bool false) rfl (by kernel_rfl) (by kernel_rfl) (by kernel_rfl) (by kernel_rfl) (fun _ _ _ h => h) (yields_take rfl (fun w' hw => by obtain ⟨h1, h2⟩ := hw.const; go_simp)) hS0.out ?_
    simp only [Act.put, List.setIfInBounds_toArray, List.set_cons_zero, List.set_cons_succ]
    refine wpAnyU_take (i := 8) (oi := { dst := some 43, op := _, type := _, pos := _, after := _, guard := none }) (v := .bool false) rfl (by kernel_rfl) (by kernel_rfl) (by kernel_rfl) (by kernel_rfl) (fun _ _ _ h => h) (yields_take rfl (fun w' hw => by obtain ⟨h1, h2⟩ := hw.const; go_simp)) hS0.out ?_
    simp only [Act.put, List.setIfInBounds_toArray, List.set_cons_zero, List.set_cons_succ]
    refine wpAnyU_take (i := 9) (oi := { dst := some 44, op := _, type := _, pos := _, after := _, guard := some (8, false) }) (v := .slice (some ⟨b1, o1, none⟩) 3 c) rfl (by kernel_rfl) (by kernel_rfl) (by kernel_rfl) (by kernel_rfl) (fun _ _ _ h => h) (yields_take rfl (fun w' hw => by obtain ⟨h1, h2⟩ := hw.const; go_simp)) hS0.out ?_
    simp only [Act.put, List.setIfInBounds_toArray, List.set_cons_zero, List.set_cons_succ]
    refine wpAnyU_take (i := 10) (oi := { dst := some 45, op := _, type := _, pos := _, after := _, guard := some (8, false) }) (v := .pointer (some ⟨b1, o1, none⟩)) rfl (by kernel_rfl) (by kernel_rfl) (by kernel_rfl) (by kernel_rfl) (fun _ _ _ h => h) (yields_take rfl (fun w' hw => by obtain ⟨h1, h2⟩ := hw.const; go_simp)) hS0.out ?_
    simp only [Act.put, List.setIfInBounds_toArray, List.set_cons_zero, List.set_cons_succ]
    refine wpAnyU_take (i := 11) (oi := { dst := some 46, op := _, type := _, pos := _, after := _, guard := some (8, false) }) (v := .int .i64 x) rfl (by kernel_rfl) (by kernel_rfl) (by kernel_rfl) (by kernel_rfl) (fun _ _ _ h => h) (yields_take rfl (fun w' hw => by obtain ⟨h1, h2⟩ := hw.const; go_simp)) hS0.out ?_
    simp only [Act.put, List.setIfInBounds_toArray, List.set_cons_zero, List.set_cons_succ]
    refine wpAnyU_take (i := 12) (oi := { dst := some 47, op := _, type := _, pos := _, after := _, guard := some (8, false) }) (v := .slice (some ⟨b2, o2, none⟩) 4 c') rfl (by kernel_rfl) (by kernel_rfl) (by kernel_rfl) (by kernel_rfl) (fun _ _ _ h => h) (yields_take rfl (fun w' hw => by obtain ⟨h1, h2⟩ := hw.const; go_simp)) hS0.out ?_
    simp only [Act.put, List.setIfInBounds_toArray, List.set_cons_zero, List.set_cons_succ]
    refine wpAnyU_take (i := 13) (oi := { dst := some 48, op := _, type := _, pos := _, after := _, guard := some (8, false) }) (v := .pointer (some ⟨b2, o2 + 1, none⟩)) rfl (by kernel_rfl) (by kernel_rfl) (by kernel_rfl) (by kernel_rfl) (fun _ _ _ h => h) (yields_take rfl (fun w' hw => by obtain ⟨h1, h2⟩ := hw.const; go_simp)) hS0.out ?_
    simp only [Act.put, List.setIfInBounds_toArray, List.set_cons_zero, List.set_cons_succ]
    refine wpAnyU_take (i := 14) (oi := { dst := some 49, op := _, type := _, pos := _, after := _, guard := some (8, false) }) (v := .int .i64 y) rfl (by kernel_rfl) (by kernel_rfl) (by kernel_rfl) (by kernel_rfl) (fun _ _ _ h => h) (yields_take rfl (fun w' hw => by obtain ⟨h1, h2⟩ := hw.const; go_simp)) hS0.out ?_
    simp only [Act.put, List.setIfInBounds_toArray, List.set_cons_zero, List.set_cons_succ]
    refine wpAnyU_take (i := 15) (oi := { dst := some 50, op := _, type := _, pos := _, after := _, guard := some (8, false) }) (v := .bool true) rfl (by kernel_rfl) (by kernel_rfl) (by kernel_rfl) (by kernel_rfl) (fun _ _ _ h => h) (yields_take rfl (fun w' hw => by obtain ⟨h1, h2⟩ := hw.const; go_simp)) hS0.out ?_
    simp only [Act.put, List.setIfInBounds_toArray, List.set_cons_zero, List.set_cons_succ]
    refine wpAnyU_take (i := 16) (oi := { dst := some 51, op := _, type := _, pos := _, after := _, guard := none }) (v := .bool true) rfl (by kernel_rfl) (by kernel_rfl) (by kernel_rfl) (by kernel_rfl) (fun _ _ _ h => h) (yields_take rfl (fun w' hw => by obtain ⟨h1, h2⟩ := hw.const; go_simp)) hS0.out ?_
    simp only [Act.put, List.setIfInBounds_toArray, List.set_cons_zero, List.set_cons_succ]
    refine wpAnyU_done (by kernel_rfl) ?_ _
    clear hS0
    go_wp2
    go_ret2
    have h := HBAD.out _ (by rw [HE.out]; decide) HBD.out
    rw [HE.out] at h ⊢
    exact h
  have HEE := hide (shp8E_end HOK.out ⟨HL1.out, HL2.out, by rw [← HXY.out.1, ← HXY.out.2]; exact h5⟩)
  rw [HLL.out] at HEE
  subst h5
  have hsz := hb2.size
  go_wp2
  have hS0 : Hid ((w2.drew).cell? ⟨b1, o1, none⟩ = some (.int .i64 x) ∧ (w2.drew).cell? ⟨b2, o2 + 1, none⟩ = some (.int .i64 x)) := hide (HK1.out _ (below_drewN hb2 1))
  refine wp_region_U (fun _ v => v.cell? ⟨b1, o1, none⟩ = some (.int .i64 x) ∧ v.cell? ⟨b2, o2 + 1, none⟩ = some (.int .i64 x)) 99 (by kernel_rfl) ?_
  refine wpAnyU_take (i := 0) (oi := { dst := some 35, op := _, type := _, pos := _, after := _, guard := none }) (v := .slice (some ⟨b1, o1, none⟩) 3 c) rfl (by kernel_rfl) (by kernel_rfl) (by kernel_rfl) (by kernel_rfl) (fun _ _ _ h => h) (yields_take rfl (fun w' hw => by obtain ⟨h1, h2⟩ := hw.const; go_simp)) hS0.out ?_
  simp only [Act.put, List.setIfInBounds_toArray, List.set_cons_zero, List.set_cons_succ]
  refine wpAnyU_take (i := 1) (oi := { dst := some 36, op := _, type := _, pos := _, after := _, guard := none }) (v := .int .i64 3) rfl (by kernel_rfl) (by kernel_rfl) (by kernel_rfl) (by kernel_rfl) (fun _ _ _ h => h) (yields_take rfl (fun w' hw => by obtain ⟨h1, h2⟩ := hw.const; go_simp)) hS0.out ?_
  simp only [Act.put, List.setIfInBounds_toArray, List.set_cons_zero, List.set_cons_succ]
  refine wpAnyU_take (i := 2) (oi := { dst := some 37, op := _, type := _, pos := _, after := _, guard := none }) (v := .bool false) rfl (by kernel_rfl) (by kernel_rfl) (by kernel_rfl) (by kernel_rfl) (fun _ _ _ h => h) (yields_take rfl (fun w' hw => by obtain ⟨h1, h2⟩ := hw.const; go_simp)) hS0.out ?_
  simp only [Act.put, List.setIfInBounds_toArray, List.set_cons_zero, List.set_cons_succ]
  refine wpAnyU_take (i := 3) (oi := { dst := some 38, op := _, type := _, pos := _, after := _, guard := none }) (v := .bool false) rfl (by kernel_rfl) (by kernel_rfl) (by kernel_rfl) (by kernel_rfl) (fun _ _ _ h => h) (yields_take rfl (fun w' hw => by obtain ⟨h1, h2⟩ := hw.const; go_simp)) hS0.out ?_
  simp only [Act.put, List.setIfInBounds_toArray, List.set_cons_zero, List.set_cons_succ]
  refine wpAnyU_take (i := 4) (oi := { dst := some 39, op := _, type := _, pos := _, after := _, guard := some (3, false) }) (v := .slice (some ⟨b2, o2, none⟩) 4 c') rfl (by kernel_rfl) (by kernel_rfl) (by kernel_rfl) (by kernel_rfl) (fun _ _ _ h => h) (yields_take rfl (fun w' hw => by obtain ⟨h1, h2⟩ := hw.const; go_simp)) hS0.out ?_
  simp only [Act.put, List.setIfInBounds_toArray, List.set_cons_zero, List.set_cons_succ]
  refine wpAnyU_take (i := 5) (oi := { dst := some 40, op := _, type := _, pos := _, after := _, guard := some (3, false) }) (v := .int .i64 4) rfl (by kernel_rfl) (by kernel_rfl) (by kernel_rfl) (by kernel_rfl) (fun _ _ _ h => h) (yields_take rfl (fun w' hw => by obtain ⟨h1, h2⟩ := hw.const; go_simp)) hS0.out ?_
  simp only [Act.put, List.setIfInBounds_toArray, List.set_cons_zero, List.set_cons_succ]
  refine wpAnyU_take (i := 6) (oi := { dst := some 41, op := _, type := _, pos := _, after := _, guard := some (3, false) }) (v := .bool false) rfl (by kernel_rfl) (by kernel_rfl) (by kernel_rfl) (by kernel_rfl) (fun _ _ _ h => h) (yields_take rfl (fun w' hw => by obtain ⟨h1, h2⟩ := hw.const; go_simp)) hS0.out ?_
  simp only [Act.put, List.setIfInBounds_toArray, List.set_cons_zero, List.set_cons_succ]
  refine wpAnyU_take (i := 7) (oi := { dst := some 42, op := _, type := _, pos := _, after := _, guard := none }) (v := .bool false) rfl (by kernel_rfl) (by kernel_rfl) (by kernel_rfl) (by kernel_rfl) (fun _ _ _ h => h) (yields_take rfl (fun w' hw => by obtain ⟨h1, h2⟩ := hw.const; go_simp)) hS0.out ?_
  simp only [Act.put, List.setIfInBounds_toArray, List.set_cons_zero, List.set_cons_succ]
  refine wpAnyU_take (i := 8) (oi := { dst := some 43, op := _, type := _, pos := _, after := _, guard := none }) (v := .bool false) rfl (by kernel_rfl) (by kernel_rfl) (by kernel_rfl) (by kernel_rfl) (fun _ _ _ h => h) (yields_take rfl (fun w' hw => by obtain ⟨h1, h2⟩ := hw.const; go_simp)) hS0.out ?_
  simp only [Act.put, List.setIfInBounds_toArray, List.set_cons_zero, List.set_cons_succ]
  refine wpAnyU_take (i := 9) (oi := { dst := some 44, op := _, type := _, pos := _, after := _, guard := some (8, false) }) (v := .slice (some ⟨b1, o1, none⟩) 3 c) rfl (by kernel_rfl) (by kernel_rfl) (by kernel_rfl) (by kernel_rfl) (fun _ _ _ h => h) (yields_take rfl (fun w' hw => by obtain ⟨h1, h2⟩ := hw.const; go_simp)) hS0.out ?_
  simp only [Act.put, List.setIfInBounds_toArray, List.set_cons_zero, List.set_cons_succ]
  refine wpAnyU_take (i := 10) (oi := { dst := some 45, op := _, type := _, pos := _, after := _, guard := some (8, false) }) (v := .pointer (some ⟨b1, o1, none⟩)) rfl (by kernel_rfl) (by kernel_rfl) (by kernel_rfl) (by kernel_rfl) (fun _ _ _ h => h) (yields_take rfl (fun w' hw => by obtain ⟨h1, h2⟩ := hw.const; go_simp)) hS0.out ?_
  simp only [Act.put, List.setIfInBounds_toArray, List.set_cons_zero, List.set_cons_succ]
  refine wpAnyU_take (i := 11) (oi := { dst := some 46, op := _, type := _, pos := _, after := _, guard := some (8, false) }) (v := .int .i64 x) rfl (by kernel_rfl) (by kernel_rfl) (by kernel_rfl) (by kernel_rfl) (fun _ _ _ h => h) (yields_take rfl (fun w' hw => by obtain ⟨h1, h2⟩ := hw.const; go_simp)) hS0.out ?_
  simp only [Act.put, List.setIfInBounds_toArray, List.set_cons_zero, List.set_cons_succ]
  refine wpAnyU_take (i := 12) (oi := { dst := some 47, op := _, type := _, pos := _, after := _, guard := some (8, false) }) (v := .slice (some ⟨b2, o2, none⟩) 4 c') rfl (by kernel_rfl) (by kernel_rfl) (by kernel_rfl) (by kernel_rfl) (fun _ _ _ h => h) (yields_take rfl (fun w' hw => by obtain ⟨h1, h2⟩ := hw.const; go_simp)) hS0.out ?_
  simp only [Act.put, List.setIfInBounds_toArray, List.set_cons_zero, List.set_cons_succ]
  refine wpAnyU_take (i := 13) (oi := { dst := some 48, op := _, type := _, pos := _, after := _, guard := some (8, false) }) (v := .pointer (some ⟨b2, o2 + 1, none⟩)) rfl (by kernel_rfl) (by kernel_rfl) (by kernel_rfl) (by kernel_rfl) (fun _ _ _ h => h) (yields_take rfl (fun w' hw => by obtain ⟨h1, h2⟩ := hw.const; go_simp)) hS0.out ?_
  simp only [Act.put, List.setIfInBounds_toArray, List.set_cons_zero, List.set_cons_succ]
  refine wpAnyU_take (i := 14) (oi := { dst := some 49, op := _, type := _, pos := _, after := _, guard := some (8, false) }) (v := .int .i64 x) rfl (by kernel_rfl) (by kernel_rfl) (by kernel_rfl) (by kernel_rfl) (fun _ _ _ h => h) (yields_take rfl (fun w' hw => by obtain ⟨h1, h2⟩ := hw.const; go_simp)) hS0.out ?_
  simp only [Act.put, List.setIfInBounds_toArray, List.set_cons_zero, List.set_cons_succ]
  refine wpAnyU_take (i := 15) (oi := { dst := some 50, op := _, type := _, pos := _, after := _, guard := some (8, false) }) (v := .bool false) rfl (by kernel_rfl) (by kernel_rfl) (by kernel_rfl) (by kernel_rfl) (fun _ _ _ h => h) (yields_take rfl (fun w' hw => by obtain ⟨h1, h2⟩ := hw.const; go_simp)) hS0.out ?_
  simp only [Act.put, List.setIfInBounds_toArray, List.set_cons_zero, List.set_cons_succ]
  refine wpAnyU_take (i := 16) (oi := { dst := some 51, op := _, type := _, pos := _, after := _, guard := none }) (v := .bool false) rfl (by kernel_rfl) (by kernel_rfl) (by kernel_rfl) (by kernel_rfl) (fun _ _ _ h => h) (yields_take rfl (fun w' hw => by obtain ⟨h1, h2⟩ := hw.const; go_simp)) hS0.out ?_
  simp only [Act.put, List.setIfInBounds_toArray, List.set_cons_zero, List.set_cons_succ]
  refine wpAnyU_done (by kernel_rfl) ?_ _
  clear hS0
  go_wp2
  have hS0 : Hid (((w2.drewN 1).drew).cell? ⟨b1, o1 + 1, none⟩ = some (.int .i64 h) ∧ ((w2.drewN 1).drew).cell? ⟨b1, o1 + 2, none⟩ = some (.int .i64 vv) ∧ ((w2.drewN 1).drew).cell? ⟨b2, o2, none⟩ = some (.int .i64 p) ∧ ((w2.drewN 1).drew).cell? ⟨b2, o2 + 2, none⟩ = some (.int .i64 e) ∧ ((w2.drewN 1).drew).cell? ⟨b2, o2 + 3, none⟩ = some (.int .i64 g)) := hide (HK2.out _ (below_drewN hb2 2))
  refine wp_region_U (fun _ v => v.cell? ⟨b1, o1 + 1, none⟩ = some (.int .i64 h) ∧ v.cell? ⟨b1, o1 + 2, none⟩ = some (.int .i64 vv) ∧ v.cell? ⟨b2, o2, none⟩ = some (.int .i64 p) ∧ v.cell? ⟨b2, o2 + 2, none⟩ = some (.int .i64 e) ∧ v.cell? ⟨b2, o2 + 3, none⟩ = some (.int .i64 g)) 99 (by kernel_rfl) ?_
  refine wpAnyU_take (i := 0) (oi := { dst := some 52, op := _, type := _, pos := _, after := _, guard := none }) (v := .slice (some ⟨b2, o2, none⟩) 4 c') rfl (by kernel_rfl) (by kernel_rfl) (by kernel_rfl) (by kernel_rfl) (fun _ _ _ h => h) (yields_take rfl (fun w' hw => by obtain ⟨h1, h2, h3, h4, h5⟩ := hw.const; go_simp)) hS0.out ?_
  simp only [Act.put, List.setIfInBounds_toArray, List.set_cons_zero, List.set_cons_succ]
  refine wpAnyU_take (i := 1) (oi := { dst := some 53, op := _, type := _, pos := _, after := _, guard := none }) (v := .pointer (some ⟨b2, o2, none⟩)) rfl (by kernel_rfl) (by kernel_rfl) (by kernel_rfl) (by kernel_rfl) (fun _ _ _ h => h) (yields_take rfl (fun w' hw => by obtain ⟨h1, h2, h3, h4, h5⟩ := hw.const; go_simp)) hS0.out ?_
  simp only [Act.put, List.setIfInBounds_toArray, List.set_cons_zero, List.set_cons_succ]
  refine wpAnyU_take (i := 2) (oi := { dst := some 54, op := _, type := _, pos := _, after := _, guard := none }) (v := .int .i64 p) rfl (by kernel_rfl) (by kernel_rfl) (by kernel_rfl) (by kernel_rfl) (fun _ _ _ h => h) (yields_take rfl (fun w' hw => by obtain ⟨h1, h2, h3, h4, h5⟩ := hw.const; go_simp)) hS0.out ?_
  simp only [Act.put, List.setIfInBounds_toArray, List.set_cons_zero, List.set_cons_succ]
  refine wpAnyU_take (i := 3) (oi := { dst := some 55, op := _, type := _, pos := _, after := _, guard := none }) (v := .slice (some ⟨b1, o1, none⟩) 3 c) rfl (by kernel_rfl) (by kernel_rfl) (by kernel_rfl) (by kernel_rfl) (fun _ _ _ h => h) (yields_take rfl (fun w' hw => by obtain ⟨h1, h2, h3, h4, h5⟩ := hw.const; go_simp)) hS0.out ?_
  simp only [Act.put, List.setIfInBounds_toArray, List.set_cons_zero, List.set_cons_succ]
  refine wpAnyU_take (i := 4) (oi := { dst := some 56, op := _, type := _, pos := _, after := _, guard := none }) (v := .pointer (some ⟨b1, o1 + 1, none⟩)) rfl (by kernel_rfl) (by kernel_rfl) (by kernel_rfl) (by kernel_rfl) (fun _ _ _ h => h) (yields_take rfl (fun w' hw => by obtain ⟨h1, h2, h3, h4, h5⟩ := hw.const; go_simp)) hS0.out ?_
  simp only [Act.put, List.setIfInBounds_toArray, List.set_cons_zero, List.set_cons_succ]
  refine wpAnyU_take (i := 5) (oi := { dst := some 57, op := _, type := _, pos := _, after := _, guard := none }) (v := .int .i64 h) rfl (by kernel_rfl) (by kernel_rfl) (by kernel_rfl) (by kernel_rfl) (fun _ _ _ h => h) (yields_take rfl (fun w' hw => by obtain ⟨h1, h2, h3, h4, h5⟩ := hw.const; go_simp)) hS0.out ?_
  simp only [Act.put, List.setIfInBounds_toArray, List.set_cons_zero, List.set_cons_succ]
  refine wpAnyU_take (i := 6) (oi := { dst := some 58, op := _, type := _, pos := _, after := _, guard := none }) (v := .int .i64 pad) rfl (by kernel_rfl) (by kernel_rfl) (by kernel_rfl) (by kernel_rfl) (fun _ _ _ h => h) (yields_take rfl (fun w' hw => by obtain ⟨h1, h2, h3, h4, h5⟩ := hw.const; go_simp)) hS0.out ?_
  simp only [Act.put, List.setIfInBounds_toArray, List.set_cons_zero, List.set_cons_succ]
  refine wpAnyU_take (i := 7) (oi := { dst := some 59, op := _, type := _, pos := _, after := _, guard := none }) (v := .int .i64 pp) rfl (by kernel_rfl) (by kernel_rfl) (by kernel_rfl) (by kernel_rfl) (fun _ _ _ h => h) (yields_take rfl (fun w' hw => by obtain ⟨h1, h2, h3, h4, h5⟩ := hw.const; go_simp)) hS0.out ?_
  simp only [Act.put, List.setIfInBounds_toArray, List.set_cons_zero, List.set_cons_succ]
  refine wpAnyU_take (i := 8) (oi := { dst := some 60, op := _, type := _, pos := _, after := _, guard := none }) (v := .int .i64 hp) rfl (by kernel_rfl) (by kernel_rfl) (by kernel_rfl) (by kernel_rfl) (fun _ _ _ h => h) (yields_take rfl (fun w' hw => by obtain ⟨h1, h2, h3, h4, h5⟩ := hw.const; go_simp)) hS0.out ?_
  simp only [Act.put, List.setIfInBounds_toArray, List.set_cons_zero, List.set_cons_succ]
  refine wpAnyU_take (i := 9) (oi := { dst := some 61, op := _, type := _, pos := _, after := _, guard := none }) (v := .slice (some ⟨b2, o2, none⟩) 4 c') rfl (by kernel_rfl) (by kernel_rfl) (by kernel_rfl) (by kernel_rfl) (fun _ _ _ h => h) (yields_take rfl (fun w' hw => by obtain ⟨h1, h2, h3, h4, h5⟩ := hw.const; go_simp)) hS0.out ?_
  simp only [Act.put, List.setIfInBounds_toArray, List.set_cons_zero, List.set_cons_succ]
  refine wpAnyU_take (i := 10) (oi := { dst := some 62, op := _, type := _, pos := _, after := _, guard := none }) (v := .pointer (some ⟨b2, o2 + 2, none⟩)) rfl (by kernel_rfl) (by kernel_rfl) (by kernel_rfl) (by kernel_rfl) (fun _ _ _ h => h) (yields_take rfl (fun w' hw => by obtain ⟨h1, h2, h3, h4, h5⟩ := hw.const; go_simp)) hS0.out ?_
  simp only [Act.put, List.setIfInBounds_toArray, List.set_cons_zero, List.set_cons_succ]
  refine wpAnyU_take (i := 11) (oi := { dst := some 63, op := _, type := _, pos := _, after := _, guard := none }) (v := .int .i64 e) rfl (by kernel_rfl) (by kernel_rfl) (by kernel_rfl) (by kernel_rfl) (fun _ _ _ h => h) (yields_take rfl (fun w' hw => by obtain ⟨h1, h2, h3, h4, h5⟩ := hw.const; go_simp)) hS0.out ?_
  simp only [Act.put, List.setIfInBounds_toArray, List.set_cons_zero, List.set_cons_succ]
  refine wpAnyU_take (i := 12) (oi := { dst := some 64, op := _, type := _, pos := _, after := _, guard := none }) (v := .int .i64 step) rfl (by kernel_rfl) (by kernel_rfl) (by kernel_rfl) (by kernel_rfl) (fun _ _ _ h => h) (yields_take rfl (fun w' hw => by obtain ⟨h1, h2, h3, h4, h5⟩ := hw.const; go_simp)) hS0.out ?_
  simp only [Act.put, List.setIfInBounds_toArray, List.set_cons_zero, List.set_cons_succ]
  refine wpAnyU_take (i := 14) (oi := { dst := some 66, op := _, type := _, pos := _, after := _, guard := none }) (v := .slice (some ⟨b1, o1, none⟩) 3 c) rfl (by kernel_rfl) (by kernel_rfl) (by kernel_rfl) (by kernel_rfl) (fun _ _ _ h => h) (yields_take rfl (fun w' hw => by obtain ⟨h1, h2, h3, h4, h5⟩ := hw.const; go_simp)) hS0.out ?_
  simp only [Act.put, List.setIfInBounds_toArray, List.set_cons_zero, List.set_cons_succ]
  refine wpAnyU_take (i := 15) (oi := { dst := some 67, op := _, type := _, pos := _, after := _, guard := none }) (v := .pointer (some ⟨b1, o1 + 2, none⟩)) rfl (by kernel_rfl) (by kernel_rfl) (by kernel_rfl) (by kernel_rfl) (fun _ _ _ h => h) (yields_take rfl (fun w' hw => by obtain ⟨h1, h2, h3, h4, h5⟩ := hw.const; go_simp)) hS0.out ?_
  simp only [Act.put, List.setIfInBounds_toArray, List.set_cons_zero, List.set_cons_succ]
  refine wpAnyU_take (i := 16) (oi := { dst := some 68, op := _, type := _, pos := _, after := _, guard := none }) (v := .int .i64 vv) rfl (by kernel_rfl) (by kernel_rfl) (by kernel_rfl) (by kernel_rfl) (fun _ _ _ h => h) (yields_take rfl (fun w' hw => by obtain ⟨h1, h2, h3, h4, h5⟩ := hw.const; go_simp)) hS0.out ?_
  simp only [Act.put, List.setIfInBounds_toArray, List.set_cons_zero, List.set_cons_succ]
  refine wpAnyU_take (i := 17) (oi := { dst := some 69, op := _, type := _, pos := _, after := _, guard := none }) (v := .int .i64 pad) rfl (by kernel_rfl) (by kernel_rfl) (by kernel_rfl) (by kernel_rfl) (fun _ _ _ h => h) (yields_take rfl (fun w' hw => by obtain ⟨h1, h2, h3, h4, h5⟩ := hw.const; go_simp)) hS0.out ?_
  simp only [Act.put, List.setIfInBounds_toArray, List.set_cons_zero, List.set_cons_succ]
  refine wpAnyU_take (i := 18) (oi := { dst := some 70, op := _, type := _, pos := _, after := _, guard := none }) (v := .int .i64 pp) rfl (by kernel_rfl) (by kernel_rfl) (by kernel_rfl) (by kernel_rfl) (fun _ _ _ h => h) (yields_take rfl (fun w' hw => by obtain ⟨h1, h2, h3, h4, h5⟩ := hw.const; go_simp)) hS0.out ?_
  simp only [Act.put, List.setIfInBounds_toArray, List.set_cons_zero, List.set_cons_succ]
  refine wpAnyU_take (i := 19) (oi := { dst := some 71, op := _, type := _, pos := _, after := _, guard := none }) (v := .int .i64 vp) rfl (by kernel_rfl) (by kernel_rfl) (by kernel_rfl) (by kernel_rfl) (fun _ _ _ h => h) (yields_take rfl (fun w' hw => by obtain ⟨h1, h2, h3, h4, h5⟩ := hw.const; go_simp)) hS0.out ?_
  simp only [Act.put, List.setIfInBounds_toArray, List.set_cons_zero, List.set_cons_succ]
  refine wpAnyU_take (i := 20) (oi := { dst := some 72, op := _, type := _, pos := _, after := _, guard := none }) (v := .slice (some ⟨b2, o2, none⟩) 4 c') rfl (by kernel_rfl) (by kernel_rfl) (by kernel_rfl) (by kernel_rfl) (fun _ _ _ h => h) (yields_take rfl (fun w' hw => by obtain ⟨h1, h2, h3, h4, h5⟩ := hw.const; go_simp)) hS0.out ?_
  simp only [Act.put, List.setIfInBounds_toArray, List.set_cons_zero, List.set_cons_succ]
  refine wpAnyU_take (i := 21) (oi := { dst := some 73, op := _, type := _, pos := _, after := _, guard := none }) (v := .pointer (some ⟨b2, o2 + 3, none⟩)) rfl (by kernel_rfl) (by kernel_rfl) (by kernel_rfl) (by kernel_rfl) (fun _ _ _ h => h) (yields_take rfl (fun w' hw => by obtain ⟨h1, h2, h3, h4, h5⟩ := hw.const; go_simp)) hS0.out ?_
  simp only [Act.put, List.setIfInBounds_toArray, List.set_cons_zero, List.set_cons_succ]
  refine wpAnyU_take (i := 22) (oi := { dst := some 74, op := _, type := _, pos := _, after := _, guard := none }) (v := .int .i64 g) rfl (by kernel_rfl) (by kernel_rfl) (by kernel_rfl) (by kernel_rfl) (fun _ _ _ h => h) (yields_take rfl (fun w' hw => by obtain ⟨h1, h2, h3, h4, h5⟩ := hw.const; go_simp)) hS0.out ?_
  simp only [Act.put, List.setIfInBounds_toArray, List.set_cons_zero, List.set_cons_succ]
  refine wpAnyU_take (i := 23) (oi := { dst := some 75, op := _, type := _, pos := _, after := _, guard := none }) (v := .int .i64 step) rfl (by kernel_rfl) (by kernel_rfl) (by kernel_rfl) (by kernel_rfl) (fun _ _ _ h => h) (yields_take rfl (fun w' hw => by obtain ⟨h1, h2, h3, h4, h5⟩ := hw.const; go_simp)) hS0.out ?_
  simp only [Act.put, List.setIfInBounds_toArray, List.set_cons_zero, List.set_cons_succ]
  refine wpAnyU_one (i := 13) (by kernel_rfl) rfl ?_
  intro K hK
  go_simp
  refine Calls.mono (howMany_any hp e step _ HB1.out HB3.out HST.out) ?_
  rintro e0 _ ⟨rfl, rfl⟩
  dsimp only
  rw [HQ1.out]
  have hS8 := hS0
  refine hK _ _ hS8.out (fun _ => ?_)
  clear hK K
  refine wpAnyU_one (i := 24) (by kernel_rfl) rfl ?_
  intro K hK
  go_simp
  refine Calls.mono (howMany_any vp g step _ HB2.out HB4.out HST.out) ?_
  rintro e0 _ ⟨rfl, rfl⟩
  dsimp only
  rw [HQ2.out]
  refine hK _ _ hS8.out (fun _ => ?_)
  clear hK K
  refine wpAnyU_one (i := 25) (by kernel_rfl) rfl ?_
  intro K hK
  go_simp
  have hb4 : Below w.heap.size w (((w2.drewN 1).drew).alloc (.cells #[.int .i64 p, .int .i64 q1, .int .i64 q2] 3)) := below_al7x (below_drewN hb2 2)
  have hS1 : Hid ((((w2.drewN 1).drew).alloc (.cells #[.int .i64 p, .int .i64 q1, .int .i64 q2] 3)).cell? ⟨b1, o1 + 1, none⟩ = some (.int .i64 h) ∧ (((w2.drewN 1).drew).alloc (.cells #[.int .i64 p, .int .i64 q1, .int .i64 q2] 3)).cell? ⟨b1, o1 + 2, none⟩ = some (.int .i64 vv) ∧ (((w2.drewN 1).drew).alloc (.cells #[.int .i64 p, .int .i64 q1, .int .i64 q2] 3)).cell? ⟨b2, o2, none⟩ = some (.int .i64 p) ∧ (((w2.drewN 1).drew).alloc (.cells #[.int .i64 p, .int .i64 q1, .int .i64 q2] 3)).cell? ⟨b2, o2 + 2, none⟩ = some (.int .i64 e) ∧ (((w2.drewN 1).drew).alloc (.cells #[.int .i64 p, .int .i64 q1, .int .i64 q2] 3)).cell? ⟨b2, o2 + 3, none⟩ = some (.int .i64 g)) := hide (HK2.out _ hb4)
  refine hK.out _ _ hS1.out (fun _ => ?_)
  clear hK K hS8
  refine wpAnyU_take (i := 26) (oi := { dst := some 10, op := _, type := _, pos := _, after := _, guard := none }) (v := .slice (some ⟨w2.heap.size, 0, none⟩) 3 3) rfl (by kernel_rfl) (by kernel_rfl) (by kernel_rfl) (by kernel_rfl) (fun _ _ _ h => h) (yields_take rfl (fun w' hw => by obtain ⟨h1, h2, h3, h4, h5⟩ := hw.const; go_simp)) hS1.out ?_
  simp only [Act.put, List.setIfInBounds_toArray, List.set_cons_zero, List.set_cons_succ]
  refine wpAnyU_done (by kernel_rfl) ?_ _
  clear hS1
  have HBF := hide hb4
  obtain ⟨W4, hW4⟩ : ∃ W4, W4 = (w2.alloc (.cells #[.int .i64 p, .int .i64 q1, .int .i64 q2] 3)).drew.drew := ⟨_, rfl⟩
  have HH4 : Hid (W4.heap[w2.heap.size]? = some (.cells #[.int .i64 p, .int .i64 q1, .int .i64 q2] 3 (0, 0))) := hide (by rw [hW4]; exact heap_alloc_new w2 _)
  have HO4 : Hid (W4.ownsRow w.heap.size 3 1 (.slice (some ⟨w2.heap.size, 0, none⟩) 3 3) 3 (([p, q1, q2] : List Int).map (Value.int .i64))) := hide (own_of_block hsz HH4.out rfl (Nat.le_refl _) (by decide) rfl)
  have HB5 : Hid (Below w.heap.size w W4) := hide (by rw [hW4]; exact below_drewN (hb2.alloc hsz _) 2)
  have hW4' := hW4.symm
  clear hW4 HBF hb4
  go_wp2_with fail
  refine Calls.mono (check_any (some ⟨w2.heap.size, 0, none⟩) 3 3 [p, q1, q2] _ (lies_of_own HO4.out) (by omega)) ?_
  rintro e0 w5 ⟨rfl, hb50⟩
  have hb5 : Below w.heap.size w w5 := HB5.out.trans (hb50.mono HB5.out.size)
  have HO5 := hide (own_below HO4.out hb50)
  by_cases hz : 0 < sizeI [p, q1, q2]
  · rw [decide_eq_true hz]
    have HE : Hid (shp8E s s' step pad = 0) := hide (HEE.out.1 hz)
    have HBX := hide hb5
    clear hb5 hb50 hz hW4'
    go_wp2
    go_ret2
    refine ⟨some ⟨w2.heap.size, 0, none⟩, 3, 3, by rw [HE.out]; rfl, ?_, by omega, HBX.out⟩
    rw [shp8S, if_pos HE.out, HLL.out]
    exact HO5.out
  · rw [decide_eq_false hz]
    have HE : Hid (shp8E s s' step pad = 10) := hide (HEE.out.2 (Int.not_lt.1 hz))
    have HBX := hide hb5
    clear hb5 hb50 hz hW4'
    go_wp2
    go_ret2
    have h := HBAD.out _ (by rw [HE.out]; decide) HBX.out
    rw [HE.out] at h ⊢
    exact h

end

section
open Go.RowKit
set_option linter.unusedVariables false
set_option linter.unusedSimpArgs false
set_option maxRecDepth 100000

def pp8E (s : List Int) (wide : Int) : Int := if 0 < sizeI s ∧ 1 ≤ wide ∧ wide ≤ 64 then (if s.length = 3 ∧ wide ≤ s.getD 1 0 ∧ wide ≤ s.getD 2 0 then 0 else 10) else 1

def pp8S (s : List Int) (wide : Int) : List Int := if pp8E s wide = 0 then [s.getD 0 0, s.getD 1 0 / wide, s.getD 2 0 / wide] else []

theorem pp8E_iff {s : List Int} {wide : Int} : pp8E s wide = 0 ↔ (0 < sizeI s ∧ 1 ≤ wide ∧ wide ≤ 64) ∧ s.length = 3 ∧ wide ≤ s.getD 1 0 ∧ wide ≤ s.getD 2 0 := by
  unfold pp8E
  by_cases h : 0 < sizeI s ∧ 1 ≤ wide ∧ wide ≤ 64
  · rw [if_pos h]
    by_cases h3 : s.length = 3 ∧ wide ≤ s.getD 1 0 ∧ wide ≤ s.getD 2 0
    · rw [if_pos h3]; exact ⟨fun _ => ⟨h, h3⟩, fun _ => rfl⟩
    · rw [if_neg h3]; exact ⟨fun e => absurd e (by decide), fun e => absurd e.2 h3⟩
  · rw [if_neg h]; exact ⟨fun e => absurd e (by decide), fun e => absurd e.1 h⟩

theorem pp8E_arg {s : List Int} {wide : Int} (h : ¬ (0 < sizeI s ∧ 1 ≤ wide ∧ wide ≤ 64)) : pp8E s wide = 1 := by rw [pp8E, if_neg h]

theorem pp8E_shape {s : List Int} {wide : Int} (h : 0 < sizeI s ∧ 1 ≤ wide ∧ wide ≤ 64) (h2 : ¬ (s.length = 3 ∧ wide ≤ s.getD 1 0 ∧ wide ≤ s.getD 2 0)) : pp8E s wide = 10 := by rw [pp8E, if_pos h, if_neg h2]

theorem pp8E_all (s : List Int) (wide : Int) : pp8E s wide = 0 ∨ pp8E s wide = 1 ∨ pp8E s wide = 10 := by
  unfold pp8E
  split
  · split
    · exact .inl rfl
    · exact .inr (.inr rfl)
  · exact .inr (.inl rfl)

theorem pp8S_bad {s : List Int} {wide : Int} (h : pp8E s wide ≠ 0) : pp8S s wide = [] := by rw [pp8S, if_neg h]

set_option maxHeartbeats 2000000 in
theorem poolshape_any (A : Option Addr) (n c : Nat) (s : List Int) (wide : Int) (w : World) (hA : Lies w A n (s.map (Value.int .i64))) (hn : n ≤ 281474976710656) :
    Calls Try.prog 61 #[.slice A n c, .int .i64 wide] w fun e w' => ∃ R k kc, e = .returned (.tuple #[.slice R k kc, .int .i64 (pp8E s wide)]) ∧ w'.ownsRow w.heap.size 3 1 (.slice R k kc) k ((pp8S s wide).map (Value.int .i64)) ∧ k ≤ 3 ∧ Below w.heap.size w w' := by
  have hl1 : s.length = n := by have := hA.len; simpa using this
  have HL1 := hide hl1
  have HA := hide hA
  clear hA hl1
  have HBAD : Hid (∀ v, pp8E s wide ≠ 0 → Below w.heap.size w v → ∃ R k kc, Ending.returned (.tuple #[.slice none 0 0, .int .i64 (pp8E s wide)]) = .returned (.tuple #[.slice R k kc, .int .i64 (pp8E s wide)]) ∧ v.ownsRow w.heap.size 3 1 (.slice R k kc) k ((pp8S s wide).map (Value.int .i64)) ∧ k ≤ 3 ∧ Below w.heap.size w v) := hide (fun v h hb => ⟨none, 0, 0, rfl, by rw [pp8S_bad h]; exact World.ownsRow_nil _ _ _ _, by omega, hb⟩)
  go_enter Try.func61, Try.ntmps61
  go_wp2_with fail
  refine Calls.mono (check_any A n c s _ HA.out hn) ?_
  rintro e w1 ⟨rfl, hb1⟩
  by_cases h1 : 0 < sizeI s
  rotate_left
  · rw [decide_eq_false h1]
    have HE : Hid (pp8E s wide = 1) := hide (pp8E_arg fun h => h1 h.1)
    have HB := hide hb1
    clear h1 hb1
    go_wp2
    go_ret2
    have h := HBAD.out _ (by rw [HE.out]; decide) HB.out
    rw [HE.out] at h ⊢
    exact h
  rw [decide_eq_true h1]
  by_cases g1 : wide < 1
  · have HE : Hid (pp8E s wide = 1) := hide (pp8E_arg fun h => absurd h.2.1 (by omega))
    have HB := hide hb1
    clear h1 hb1
    go_wp2
    go_ret2
    have h := HBAD.out _ (by rw [HE.out]; decide) HB.out
    rw [HE.out] at h ⊢
    exact h
  by_cases g2 : 64 < wide
  · have HE : Hid (pp8E s wide = 1) := hide (pp8E_arg fun h => absurd h.2.2 (by omega))
    have HB := hide hb1
    clear h1 hb1
    go_wp2
    go_ret2
    have h := HBAD.out _ (by rw [HE.out]; decide) HB.out
    rw [HE.out] at h ⊢
    exact h
  have HOK : Hid (0 < sizeI s ∧ 1 ≤ wide ∧ wide ≤ 64) := hide ⟨h1, by omega, by omega⟩
  clear h1
  by_cases h3 : n = 3
  rotate_left
  · have HE : Hid (pp8E s wide = 10) := hide (pp8E_shape HOK.out (by rw [HL1.out]; exact fun h => h3 h.1))
    have e1 : ((n : Int) == 3) = false := by simpa using (by omega : ¬ (n : Int) = 3)
    have e2 : ((n : Int) != 3) = true := by simpa using (by omega : ¬ (n : Int) = 3)
    have HB := hide hb1
    clear hb1
    go_wp2
    go_ret2
    have h := HBAD.out _ (by rw [HE.out]; decide) HB.out
    rw [HE.out] at h ⊢
    exact h
  subst h3
  obtain ⟨b1, o1, rfl, hbk1, hx1⟩ := byte_at HA.out (by omega)
  have hd1 := size_dims HOK.out.1
  have q11 := hd1.at (k := 1) (by rw [HL1.out]; omega)
  have q12 := hd1.at (k := 2) (by rw [HL1.out]; omega)
  obtain ⟨x, hx⟩ : ∃ z, z = s.getD 0 0 := ⟨_, rfl⟩
  obtain ⟨h, hh⟩ : ∃ z, z = s.getD 1 0 := ⟨_, rfl⟩
  obtain ⟨z, hz⟩ : ∃ z, z = s.getD 2 0 := ⟨_, rfl⟩
  have c10 := hx1 0 (by omega)
  have c11 := hx1 1 (by omega)
  have c12 := hx1 2 (by omega)
  rw [← hx] at c10
  rw [← hh] at c11 q11
  rw [← hz] at c12 q12
  have d0 := (hb1.cell (p := ⟨b1, o1, none⟩) hbk1).trans c10
  have d1 := (hb1.cell (p := ⟨b1, o1 + 1, none⟩) hbk1).trans c11
  have d2 := (hb1.cell (p := ⟨b1, o1 + 2, none⟩) hbk1).trans c12
  have HK : Hid (∀ v, Below w.heap.size w v → v.cell? ⟨b1, o1, none⟩ = some (.int .i64 x) ∧ v.cell? ⟨b1, o1 + 1, none⟩ = some (.int .i64 h) ∧ v.cell? ⟨b1, o1 + 2, none⟩ = some (.int .i64 z)) := hide (fun v hv => ⟨(hv.cell (p := ⟨b1, o1, none⟩) hbk1).trans c10, (hv.cell (p := ⟨b1, o1 + 1, none⟩) hbk1).trans c11, (hv.cell (p := ⟨b1, o1 + 2, none⟩) hbk1).trans c12⟩)
  have HXY := hide (And.intro hx (And.intro hh hz))
  clear hx1 c10 c11 c12 hx hh hz hd1
  by_cases g3 : h < wide
  · have HE : Hid (pp8E s wide = 10) := hide (pp8E_shape HOK.out (by rw [← HXY.out.2.1]; exact fun h => absurd h.2.1 (by omega)))
    have HB := hide hb1
    clear hb1
    go_wp2
    go_ret2
    have h := HBAD.out _ (by rw [HE.out]; decide) HB.out
    rw [HE.out] at h ⊢
    exact h
  by_cases g4 : z < wide
  · have HE : Hid (pp8E s wide = 10) := hide (pp8E_shape HOK.out (by rw [← HXY.out.2.2]; exact fun h => absurd h.2.2 (by omega)))
    have HB := hide hb1
    clear hb1
    go_wp2
    go_ret2
    have h := HBAD.out _ (by rw [HE.out]; decide) HB.out
    rw [HE.out] at h ⊢
    exact h
  have HE : Hid (pp8E s wide = 0) := hide (pp8E_iff.2 ⟨HOK.out, HL1.out, by rw [← HXY.out.2.1]; omega, by rw [← HXY.out.2.2]; omega⟩)
  have hq1a := Int.ediv_nonneg (show 0 ≤ h by omega) (show 0 ≤ wide by omega)
  have hq1b : h / wide ≤ h := Int.ediv_le_self _ (by omega)
  have hq2a := Int.ediv_nonneg (show 0 ≤ z by omega) (show 0 ≤ wide by omega)
  have hq2b : z / wide ≤ z := Int.ediv_le_self _ (by omega)
  obtain ⟨q1, hq1⟩ : ∃ q, q = h / wide := ⟨_, rfl⟩
  obtain ⟨q2, hq2⟩ : ∃ q, q = z / wide := ⟨_, rfl⟩
  rw [← hq1] at hq1a hq1b
  rw [← hq2] at hq2a hq2b
  have m1 : h.tdiv wide = q1 := by rw [hq1, Int.tdiv_eq_ediv_of_nonneg (by omega)]
  have m2 : z.tdiv wide = q2 := by rw [hq2, Int.tdiv_eq_ediv_of_nonneg (by omega)]
  have m3 : IntKind.i64.wrap q1 = q1 := by rw [IntKind.wrap_i64]; omega
  have m4 : IntKind.i64.wrap q2 = q2 := by rw [IntKind.wrap_i64]; omega
  have hs0 : ¬ wide = 0 := by omega
  have hsz := hb1.size
  have HQ := hide (And.intro hq1 hq2)
  clear hq1 hq2
  go_wp2
  have hS0 : Hid (w1.drew.cell? ⟨b1, o1, none⟩ = some (.int .i64 x) ∧ w1.drew.cell? ⟨b1, o1 + 1, none⟩ = some (.int .i64 h) ∧ w1.drew.cell? ⟨b1, o1 + 2, none⟩ = some (.int .i64 z)) := hide (HK.out _ (below_drewN hb1 1))
  refine wp_region_U (fun _ v => v.cell? ⟨b1, o1, none⟩ = some (.int .i64 x) ∧ v.cell? ⟨b1, o1 + 1, none⟩ = some (.int .i64 h) ∧ v.cell? ⟨b1, o1 + 2, none⟩ = some (.int .i64 z)) 99 (by kernel_rfl) ?_
  refine wpAnyU_take (i := 0) (oi := { dst := some 34, op := _, type := _, pos := _, after := _, guard := none }) (v := .slice (some ⟨b1, o1, none⟩) 3 c) rfl (by kernel_rfl) (by kernel_rfl) (by kernel_rfl) (by kernel_rfl) (fun _ _ _ h => h) (yields_take rfl (fun w' hw => by obtain ⟨h1, h2, h3⟩ := hw.const; go_simp)) hS0.out ?_
  simp only [Act.put, List.setIfInBounds_toArray, List.set_cons_zero, List.set_cons_succ]
  refine wpAnyU_take (i := 1) (oi := { dst := some 35, op := _, type := _, pos := _, after := _, guard := none }) (v := .pointer (some ⟨b1, o1, none⟩)) rfl (by kernel_rfl) (by kernel_rfl) (by kernel_rfl) (by kernel_rfl) (fun _ _ _ h => h) (yields_take rfl (fun w' hw => by obtain ⟨h1, h2, h3⟩ := hw.const; go_simp)) hS0.out ?_
  simp only [Act.put, List.setIfInBounds_toArray, List.set_cons_zero, List.set_cons_succ]
  refine wpAnyU_take (i := 2) (oi := { dst := some 36, op := _, type := _, pos := _, after := _, guard := none }) (v := .int .i64 x) rfl (by kernel_rfl) (by kernel_rfl) (by kernel_rfl) (by kernel_rfl) (fun _ _ _ h => h) (yields_take rfl (fun w' hw => by obtain ⟨h1, h2, h3⟩ := hw.const; go_simp)) hS0.out ?_
  simp only [Act.put, List.setIfInBounds_toArray, List.set_cons_zero, List.set_cons_succ]
  refine wpAnyU_take (i := 3) (oi := { dst := some 37, op := _, type := _, pos := _, after := _, guard := none }) (v := .slice (some ⟨b1, o1, none⟩) 3 c) rfl (by kernel_rfl) (by kernel_rfl) (by kernel_rfl) (by kernel_rfl) (fun _ _ _ h => h) (yields_take rfl (fun w' hw => by obtain ⟨h1, h2, h3⟩ := hw.const; go_simp)) hS0.out ?_
  simp only [Act.put, List.setIfInBounds_toArray, List.set_cons_zero, List.set_cons_succ]
  refine wpAnyU_take (i := 4) (oi := { dst := some 38, op := _, type := _, pos := _, after := _, guard := none }) (v := .pointer (some ⟨b1, o1 + 1, none⟩)) rfl (by kernel_rfl) (by kernel_rfl) (by kernel_rfl) (by kernel_rfl) (fun _ _ _ h => h) (yields_take rfl (fun w' hw => by obtain ⟨h1, h2, h3⟩ := hw.const; go_simp)) hS0.out ?_
  simp only [Act.put, List.setIfInBounds_toArray, List.set_cons_zero, List.set_cons_succ]
  refine wpAnyU_take (i := 5) (oi := { dst := some 39, op := _, type := _, pos := _, after := _, guard := none }) (v := .int .i64 h) rfl (by kernel_rfl) (by kernel_rfl) (by kernel_rfl) (by kernel_rfl) (fun _ _ _ h => h) (yields_take rfl (fun w' hw => by obtain ⟨h1, h2, h3⟩ := hw.const; go_simp)) hS0.out ?_
  simp only [Act.put, List.setIfInBounds_toArray, List.set_cons_zero, List.set_cons_succ]
  refine wpAnyU_take (i := 6) (oi := { dst := some 40, op := _, type := _, pos := _, after := _, guard := none }) (v := .int .i64 wide) rfl (by kernel_rfl) (by kernel_rfl) (by kernel_rfl) (by kernel_rfl) (fun _ _ _ h => h) (yields_take rfl (fun w' hw => by obtain ⟨h1, h2, h3⟩ := hw.const; go_simp)) hS0.out ?_
  simp only [Act.put, List.setIfInBounds_toArray, List.set_cons_zero, List.set_cons_succ]
  refine wpAnyU_take (i := 7) (oi := { dst := some 41, op := _, type := _, pos := _, after := _, guard := none }) (v := .int .i64 q1) rfl (by kernel_rfl) (by kernel_rfl) (by kernel_rfl) (by kernel_rfl) (fun _ _ _ h => h) (yields_take rfl (fun w' hw => by obtain ⟨h1, h2, h3⟩ := hw.const; go_simp)) hS0.out ?_
  simp only [Act.put, List.setIfInBounds_toArray, List.set_cons_zero, List.set_cons_succ]
  refine wpAnyU_take (i := 8) (oi := { dst := some 42, op := _, type := _, pos := _, after := _, guard := none }) (v := .slice (some ⟨b1, o1, none⟩) 3 c) rfl (by kernel_rfl) (by kernel_rfl) (by kernel_rfl) (by kernel_rfl) (fun _ _ _ h => h) (yields_take rfl (fun w' hw => by obtain ⟨h1, h2, h3⟩ := hw.const; go_simp)) hS0.out ?_
  simp only [Act.put, List.setIfInBounds_toArray, List.set_cons_zero, List.set_cons_succ]
  refine wpAnyU_take (i := 9) (oi := { dst := some 43, op := _, type := _, pos := _, after := _, guard := none }) (v := .pointer (some ⟨b1, o1 + 2, none⟩)) rfl (by kernel_rfl) (by kernel_rfl) (by kernel_rfl) (by kernel_rfl) (fun _ _ _ h => h) (yields_take rfl (fun w' hw => by obtain ⟨h1, h2, h3⟩ := hw.const; go_simp)) hS0.out ?_
  simp only [Act.put, List.setIfInBounds_toArray, List.set_cons_zero, List.set_cons_succ]
  refine wpAnyU_take (i := 10) (oi := { dst := some 44, op := _, type := _, pos := _, after := _, guard := none }) (v := .int .i64 z) rfl (by kernel_rfl) (by kernel_rfl) (by kernel_rfl) (by kernel_rfl) (fun _ _ _ h => h) (yields_take rfl (fun w' hw => by obtain ⟨h1, h2, h3⟩ := hw.const; go_simp)) hS0.out ?_
  simp only [Act.put, List.setIfInBounds_toArray, List.set_cons_zero, List.set_cons_succ]
  refine wpAnyU_take (i := 11) (oi := { dst := some 45, op := _, type := _, pos := _, after := _, guard := none }) (v := .int .i64 wide) rfl (by kernel_rfl) (by kernel_rfl) (by kernel_rfl) (by kernel_rfl) (fun _ _ _ h => h) (yields_take rfl (fun w' hw => by obtain ⟨h1, h2, h3⟩ := hw.const; go_simp)) hS0.out ?_
  simp only [Act.put, List.setIfInBounds_toArray, List.set_cons_zero, List.set_cons_succ]
  refine wpAnyU_take (i := 12) (oi := { dst := some 46, op := _, type := _, pos := _, after := _, guard := none }) (v := .int .i64 q2) rfl (by kernel_rfl) (by kernel_rfl) (by kernel_rfl) (by kernel_rfl) (fun _ _ _ h => h) (yields_take rfl (fun w' hw => by obtain ⟨h1, h2, h3⟩ := hw.const; go_simp)) hS0.out ?_
  simp only [Act.put, List.setIfInBounds_toArray, List.set_cons_zero, List.set_cons_succ]
  refine wpAnyU_one (i := 13) (by kernel_rfl) rfl ?_
  intro K hK
  go_simp
  have hb4 : Below w.heap.size w ((w1.drew).alloc (.cells #[.int .i64 x, .int .i64 q1, .int .i64 q2] 3)) := below_al7x (below_drewN hb1 1)
  have hS1 : Hid (((w1.drew).alloc (.cells #[.int .i64 x, .int .i64 q1, .int .i64 q2] 3)).cell? ⟨b1, o1, none⟩ = some (.int .i64 x) ∧ ((w1.drew).alloc (.cells #[.int .i64 x, .int .i64 q1, .int .i64 q2] 3)).cell? ⟨b1, o1 + 1, none⟩ = some (.int .i64 h) ∧ ((w1.drew).alloc (.cells #[.int .i64 x, .int .i64 q1, .int .i64 q2] 3)).cell? ⟨b1, o1 + 2, none⟩ = some (.int .i64 z)) := hide (HK.out _ hb4)
  refine hK.out _ _ hS1.out (fun _ => ?_)
  clear hK K hS0
  refine wpAnyU_take (i := 14) (oi := { dst := some 4, op := _, type := _, pos := _, after := _, guard := none }) (v := .slice (some ⟨w1.heap.size, 0, none⟩) 3 3) rfl (by kernel_rfl) (by kernel_rfl) (by kernel_rfl) (by kernel_rfl) (fun _ _ _ h => h) (yields_take rfl (fun w' hw => by obtain ⟨h1, h2, h3⟩ := hw.const; go_simp)) hS1.out ?_
  simp only [Act.put, List.setIfInBounds_toArray, List.set_cons_zero, List.set_cons_succ]
  refine wpAnyU_take (i := 15) (oi := { dst := some 5, op := _, type := _, pos := _, after := _, guard := none }) (v := .int .i64 0) rfl (by kernel_rfl) (by kernel_rfl) (by kernel_rfl) (by kernel_rfl) (fun _ _ _ h => h) (yields_take rfl (fun w' hw => by obtain ⟨h1, h2, h3⟩ := hw.const; go_simp)) hS1.out ?_
  simp only [Act.put, List.setIfInBounds_toArray, List.set_cons_zero, List.set_cons_succ]
  refine wpAnyU_done (by kernel_rfl) ?_ _
  clear hS1
  have HBF := hide hb4
  go_wp2
  go_ret2
  refine ⟨some ⟨w1.heap.size, 0, none⟩, 3, 3, by rw [HE.out]; rfl, ?_, by omega, HBF.out⟩
  rw [pp8S, if_pos HE.out, ← HXY.out.1, ← HXY.out.2.1, ← HXY.out.2.2, ← HQ.out.1, ← HQ.out.2]
  exact own_of_block hsz (heap_alloc_new _ _) rfl (Nat.le_refl _) (by decide) rfl

end

section
open Go.RowKit Go.Shelf
attribute [local go_sem] Oper.semAt_some
set_option linter.unusedVariables false
set_option linter.unusedSimpArgs false

set_option maxHeartbeats 400000 in
theorem positions_any (A : Option Addr) (n c : Nat) (w : World) :
    Calls Try.prog 58 #[.slice A n c] w fun e w' => e = .returned (.func (.func 77) #[] #[.pointer (some ⟨w.heap.size, 0, none⟩)]) ∧ w' = w.alloc (.cells #[.slice A n c] 22) := by
  go_enter Try.func58, Try.ntmps58
  go_wp2
  go_ret
  exact ⟨rfl, rfl⟩

/-- What the iterator reads at a world. -/
def PosAt (W : World) (p b o c : Nat) (C Y X : Int) : Prop :=
  W.cell? ⟨p, 0, none⟩ = some (.slice (some ⟨b, o, none⟩) 3 c) ∧ W.cell? ⟨b, o, none⟩ = some (.int .i64 C) ∧ W.cell? ⟨b, o + 1, none⟩ = some (.int .i64 Y) ∧ W.cell? ⟨b, o + 2, none⟩ = some (.int .i64 X)

set_option maxRecDepth 100000 in
set_option maxHeartbeats 4000000 in
/-- positions: yield is called at each place in turn. -/
theorem pos_in (m l p b o c C Y X : Nat) (hm : 1 ≤ m) (hC : C ≤ 64) (hY0 : Y ≤ 64) (hX : X ≤ 64) (I : Nat → World → Prop)
    (hread : ∀ k W, I k W → PosAt W p b o c (C : Int) (Y : Int) (X : Int))
    (hY : ∀ (k i y x : Nat) W, i < C → y < Y → x < X → k = (i * Y + y) * X + x → I k W → YieldAt Fence.wide (m - 1) Try.prog l #[.int .i64 (k : Int), .agg #[.int .i64 (i : Int), .int .i64 (y : Int), .int .i64 (x : Int)]] W fun e W' =>
      e = .returned (.bool true) ∧ I (k + 1) W')
    (W : World) (h0 : I 0 W) :
    CallsIn Fence.wide m Try.prog 77 #[.func (.yield l) #[] #[], .pointer (some ⟨p, 0, none⟩)] W fun e W' => (∃ v, e = .returned v) ∧ I (C * Y * X) W' := by
  have HR := hide hread
  have HY := hide hY
  have hCY : C * Y ≤ 4096 := by have := Nat.mul_le_mul hC hY0; omega
  have hCYX : C * Y * X ≤ 262144 := by have := Nat.mul_le_mul hCY hX; omega
  clear hread hY
  refine callsIn_of_wp Try.func77 rfl trivial ?_ rfl
  simp only [Try.ntmps77, List.size_toArray, List.length_cons, List.length_nil, Nat.reduceAdd, Nat.reduceSub, Array.replicate_succ, Array.replicate_zero, List.push_toArray, List.append_toArray, List.nil_append, List.cons_append]
  obtain ⟨p0, p1, p2, p3⟩ := HR.out 0 W h0
  gi_wp2
  gi_loopw [3, 10] (fun u i wr => ∃ k z : Nat, k ≤ C ∧ i = .int .i64 (k : Int) ∧ u = .int .i64 (z : Int) ∧ Hid (z = k * Y * X) ∧ Hid (I z wr)) (fun _ i _ => C - (intOf i).toNat)
  case atStart => exact ⟨0, 0, Nat.zero_le _, rfl, rfl, hide (by rw [Nat.zero_mul, Nat.zero_mul]), hide h0⟩
  case round =>
    clear p0 p1 p2 p3
    obtain ⟨i, z, hi, rfl, rfl, HZ, HI⟩ := hrel
    by_cases hlti : i < C
    · have h3 : (i : Int) < (C : Int) := by omega
      obtain ⟨p0, p1, p2, p3⟩ := HR.out z wr HI.out
      gi_wp2
      gi_loopw [3, 16] (fun u y wr => ∃ k z : Nat, k ≤ Y ∧ y = .int .i64 (k : Int) ∧ u = .int .i64 (z : Int) ∧ Hid (z = (i * Y + k) * X) ∧ Hid (I z wr)) (fun _ y _ => Y - (intOf y).toNat)
      case atStart => exact ⟨0, z, Nat.zero_le _, rfl, rfl, HZ, HI⟩
      case round =>
        clear HZ HI p0 p1 p2 p3
        obtain ⟨y, z, hy, rfl, rfl, HZ, HI⟩ := hrel
        by_cases hlty : y < Y
        · have h4 : (y : Int) < (Y : Int) := by omega
          obtain ⟨p0, p1, p2, p3⟩ := HR.out z wr HI.out
          gi_wp2
          gi_loopw [3, 22] (fun u x wr => ∃ k z : Nat, k ≤ X ∧ x = .int .i64 (k : Int) ∧ u = .int .i64 (z : Int) ∧ Hid (z = (i * Y + y) * X + k) ∧ Hid (I z wr)) (fun _ x _ => X - (intOf x).toNat)
          case atStart => exact ⟨0, z, Nat.zero_le _, rfl, rfl, HZ, HI⟩
          case round =>
            clear HZ HI p0 p1 p2 p3
            obtain ⟨x, z, hx, rfl, rfl, HZ, HI⟩ := hrel
            by_cases hltx : x < X
            · have h5 : (x : Int) < (X : Int) := by omega
              have hzb : z < C * Y * X := by rw [HZ.out]; exact place3_lt hlti hlty hltx
              have m1 : IntKind.i64.wrap ((z : Int) + 1) = ((z + 1 : Nat) : Int) := by rw [IntKind.wrap_i64]; omega
              have HZ1 : Hid (z + 1 = (i * Y + y) * X + (x + 1)) := hide (by rw [HZ.out]; rfl)
              obtain ⟨fn, tmps, assign, body, hy, hRd⟩ := HY.out z i y x wr hlti hlty hltx HZ.out HI.out
              clear HZ HI
              gi_wp2
              refine hRd.mono ?_
              rintro e W3 ⟨rfl, hJ3⟩
              have HJ := hide hJ3
              clear hJ3
              gi_wp2
              go_roundw
              case rel => exact ⟨x + 1, z + 1, by omega, by go_num, rfl, HZ1, HJ⟩
              case measure => simp [intOf]; omega
            · obtain rfl : x = X := by omega
              have HZ1 : Hid (z = (i * Y + (y + 1)) * x) := hide (by rw [HZ.out, ← Nat.add_assoc, Nat.succ_mul])
              gi_wp2
              go_roundw
              case rel => exact ⟨y + 1, z, by omega, by go_num, rfl, HZ1, HI⟩
              case measure => simp [intOf]; omega
        · obtain rfl : y = Y := by omega
          have HZ1 : Hid (z = (i + 1) * y * X) := hide (by rw [HZ.out, Nat.succ_mul])
          gi_wp2
          go_roundw
          case rel => exact ⟨i + 1, z, by omega, by go_num, rfl, HZ1, HI⟩
          case measure => simp [intOf]; omega
    · obtain rfl : i = C := by omega
      gi_wp2
      go_end0
      exact ⟨⟨_, rfl⟩, by rw [← HZ.out]; exact HI.out⟩

end

section
open Go.RowKit Go.Shelf
attribute [local go_sem] Oper.semAt_some
set_option linter.unusedVariables false
set_option linter.unusedSimpArgs false

/-- A position, as cells. -/
abbrev posC (i y x : Nat) : Array Value := #[.int .i64 (i : Int), .int .i64 (y : Int), .int .i64 (x : Int)]

theorem heap_alloc_old {W : World} {g : Nat} {o o' : Obj} (h : W.heap[g]? = some o) : (W.alloc o').heap[g]? = some o := (Below.heap_alloc _ _ _ (lt_of_heap h)).trans h

set_option maxHeartbeats 1000000 in
theorem range_pos {g : Operand} {ps : Array Tmp} {assign body : Code} {Q : Exit → Act → World → Prop} {a : Act} {w : World} (m p b o c C Y X : Nat) (hm : 3 ≤ m) (hC : C ≤ 64) (hY0 : Y ≤ 64) (hX : X ≤ 64)
    (hg : a.eval g = .func (.func 77) #[] #[.pointer (some ⟨p, 0, none⟩)]) (hps : ps.size = 2)
    (I : Nat → World → Prop) (hI : OwnFrom w.heap.size I) (h0 : I 0 w)
    (hread : ∀ k W, I k W → PosAt W p b o c (C : Int) (Y : Int) (X : Int)) (a₁ : Nat → Nat → Nat → Nat → Nat → Act)
    (hassign : ∀ (l k i y x : Nat) (W : World) (K : Act → World → Prop), K (a₁ k i y x W.heap.size) (W.alloc (.cells (posC i y x) 93)) →
      assign.wpIn (Fence.wide.inRound l) (m - 1 - 1) Try.prog (Exit.then K (fun _ _ _ => False)) { tmps := (ps.zip #[.int .i64 (k : Int), .agg (posC i y x)]).foldl (fun t (p, v) => t.setIfInBounds p v) a.tmps, defers := [] } W)
    (hbody : ∀ (l k i y x pp : Nat) (W : World), i < C → y < Y → x < X → k = (i * Y + y) * X + x → I k W → w.heap.size ≤ pp → W.heap[pp]? = some (.cells (posC i y x) 93 (0, 0)) →
      body.wpIn (Fence.wide.inRound l) (m - 1 - 1) Try.prog (RoundEnd w.heap.size I (fun _ _ => False) k W) (a₁ k i y x pp) W)
    (hdone : ∀ (D : Nat) (W : World), w.heap.size ≤ D → I (C * Y * X) W → W.heap[D]? = some (.deferred (some [])) → Q .normal { a with defers := { target := .collected D, args := #[] } :: a.defers } W) :
    (Code.rangeFunc g ps assign body).wpIn Fence.wide m Try.prog Q a w := by
  refine wpIn_rangeFunc fun fn _ => ?_
  let rec' : LoopState → Option Code → Obj := fun st j => .loop { state := st, pending := j, fn, tmps := a.tmps, params := ps, assign, body, defers := w.heap.size }
  let D := w.heap.size
  let L := w.heap.size + 1
  let W1 := (w.alloc (.deferred (some []))).alloc (rec' .ready none)
  have hL1 : W1.heap[L]? = some (rec' .ready none) := by
    have := World.alloc_heap_new (w.alloc (.deferred (some []))) (rec' .ready none)
    rwa [World.size_alloc] at this
  have hD1 : W1.heap[D]? = some (.deferred (some [])) := (Below.heap_alloc _ _ _ (by simp [D])).trans (World.alloc_heap_new w _)
  have hI1 : I 0 W1 := hI.alloc _ (hI.alloc _ h0)
  refine ⟨L, [{ target := .collected D, args := #[] }], W1, { target := .fn (.func 77) #[.pointer (some ⟨p, 0, none⟩)], args := #[.func (.yield L) #[] #[]] }, W1, 77,
    #[.func (.yield L) #[] #[], .pointer (some ⟨p, 0, none⟩)], W1, run_enterLoop_outer _ _ _ _ _, ?_, fun _ _ => trivial, ?_, fun _ => by omega, ?_⟩
  · simp only [resolve, hg]
    simp [go_sem]
  · have he := enters_of Try.func77 (by kernel_rfl) rfl
    simp [invoke, go_sem, he _ _]
  have hnc : ∀ {r : Nat} {X : World} {o : Obj}, X.heap[r]? = some o → o.isCells = false → w.heap.size ≤ r → ∀ (o' : Obj), (∀ k, I k X → I k (X.putObj r o')) := fun hr ho hB o' => fun k h => hI.putObj o' h hB hr ho
  refine (pos_in (m - 1) L p b o c C Y X (by omega) hC hY0 hX (fun k W => I k W ∧ W.heap[L]? = some (rec' .ready none) ∧ W.heap[D]? = some (.deferred (some [])))
    (fun k W h => hread k W h.1) ?_ W1 ⟨hI1, hL1, hD1⟩).mono ?_
  · -- a round
    rintro k i y x W hi hy hx hk ⟨hIk, hl, hd⟩
    have hlt : L < W.heap.size := (Array.getElem?_eq_some_iff.1 hl).1
    let V := W.alloc (.cells (posC i y x) 93)
    have hl' : V.heap[L]? = some (rec' .ready none) := heap_alloc_old hl
    have hd' : V.heap[D]? = some (.deferred (some [])) := heap_alloc_old hd
    have hp' : V.heap[W.heap.size]? = some (.cells (posC i y x) 93 (0, 0)) := heap_alloc_new W _
    have hIk' : I k V := hI.alloc _ hIk
    refine ⟨fn, _, assign, body, run_yield hl (by rw [hps]; rfl), roundIn_of_wpIn trivial (hassign _ k i y x W _ ⟨_, run_beginRound hl' rfl, ?_⟩)⟩
    have hltV : L < V.heap.size := lt_of_heap hl'
    have hl2 : (V.putObj L (rec' .busy none)).heap[L]? = some (rec' .busy none) := World.putObj_heap_same hltV
    have hd2 : (V.putObj L (rec' .busy none)).heap[D]? = some (.deferred (some [])) := (World.putObj_heap_other (by simp [D, L])).trans hd'
    have hp2 : (V.putObj L (rec' .busy none)).heap[W.heap.size]? = some (.cells (posC i y x) 93 (0, 0)) := (World.putObj_heap_other (by omega)).trans hp'
    refine wpIn_mono (hbody _ k i y x W.heap.size _ hi hy hx hk (hnc hl' rfl (by simp [L]) _ k hIk') (by simp only [L] at hlt; omega) hp2) ?_
    rintro e a3 W3 hp
    cases e with
    | normal =>
      obtain ⟨hk3, hi3⟩ := hp
      have hl3 := hk3.same _ _ (by simp [L]) hl2 rfl
      have hd3 := hk3.same _ _ (by simp [D]) hd2 rfl
      exact ⟨_, _, run_endRound none hl3, rfl, hnc hl3 rfl (by simp [L]) _ _ hi3, World.putObj_heap_same (Array.getElem?_eq_some_iff.1 hl3).1, (World.putObj_heap_other (by simp [D, L])).trans hd3⟩
    | ret => exact hp.2.elim
    | exit id => exact hp.elim
    | goto t => exact hp.elim
    | panic ch => exact hp.elim
    | outgrown => exact hp.elim
  · -- behind the iterator
    rintro e W2 ⟨⟨v, rfl⟩, hi, hl, hd⟩
    exact ⟨none, _, run_endLoop hl (by simp), hdone _ _ (Nat.le_refl _) (hnc hl rfl (by simp [L]) _ _ hi) ((World.putObj_heap_other (by simp [D, L])).trans hd)⟩

end

section
open Go.RowKit Go.Shelf
set_option linter.unusedVariables false
set_option linter.unusedSimpArgs false
set_option maxRecDepth 100000

def pl8E (s : List Int) (m : Nat) (wide : Int) : Int := if tenOk s m = true then pp8E s wide else 1

def pl8S (s : List Int) (m : Nat) (wide : Int) : List Int := if pl8E s m wide = 0 then pp8S s wide else []

def pl8L (s : List Int) (m : Nat) (l : List Int) (wide : Int) : List Int :=
  if pl8E s m wide = 0 then poolL l (s.getD 0 0).toNat (s.getD 1 0).toNat (s.getD 2 0).toNat wide.toNat ((pp8S s wide).getD 1 0).toNat ((pp8S s wide).getD 2 0).toNat else []

theorem pl8E_all (s : List Int) (m : Nat) (wide : Int) : pl8E s m wide = 0 ∨ pl8E s m wide = 1 ∨ pl8E s m wide = 10 := by
  unfold pl8E
  split
  · exact pp8E_all _ _
  · exact .inr (.inl rfl)

set_option maxHeartbeats 2000000 in
theorem pool_bad (A B : Option Addr) (n c m d : Nat) (s l : List Int) (wide : Int) (w : World) (hA : Lies w A n (s.map (Value.int .i64))) (hB : Lies w B m (l.map (Value.int .i32))) (hn : n ≤ 281474976710656) (hbad : ¬ pl8E s m wide = 0) :
    Calls Try.prog 32 #[tenV A n c B m d, .int .i64 wide] w fun e w' => e = .returned (.tuple #[tenV none 0 0 none 0 0, .int .i64 (pl8E s m wide)]) ∧ Below w.heap.size w w' := by
  obtain ⟨W0, hW0⟩ : ∃ W0, W0 = (((w.alloc (.cells #[.slice A n c, .slice B m d] 25)).alloc (.cells #[.int .i64 wide] 3)).alloc (.cells #[.slice none 0 0, .slice none 0 0] 25)) := ⟨_, rfl⟩
  have HB0 : Hid (Below w.heap.size w W0) := hide (by rw [hW0]; exact (((Below.refl w.heap.size w).alloc (Nat.le_refl _) _).alloc (by simp only [World.size_alloc]; omega) _).alloc (by simp only [World.size_alloc]; omega) _)
  have hs0 : W0.heap.size = w.heap.size + 3 := by rw [hW0]; simp
  have HX0 : Hid (W0.heap[w.heap.size]? = some (.cells #[.slice A n c, .slice B m d] 25 (0, 0))) := hide (by rw [hW0]; have h := heap_alloc_new w (.cells #[.slice A n c, .slice B m d] 25); (try simp only [World.size_alloc] at h); exact (heap_alloc_old (heap_alloc_old h)))
  have HX1 : Hid (W0.heap[w.heap.size + 1]? = some (.cells #[.int .i64 wide] 3 (0, 0))) := hide (by rw [hW0]; have h := heap_alloc_new (w.alloc (.cells #[.slice A n c, .slice B m d] 25)) (.cells #[.int .i64 wide] 3); (try simp only [World.size_alloc] at h); exact (heap_alloc_old h))
  have HX2 : Hid (W0.heap[w.heap.size + 2]? = some (.cells #[.slice none 0 0, .slice none 0 0] 25 (0, 0))) := hide (by rw [hW0]; have h := heap_alloc_new ((w.alloc (.cells #[.slice A n c, .slice B m d] 25)).alloc (.cells #[.int .i64 wide] 3)) (.cells #[.slice none 0 0, .slice none 0 0] 25); (try simp only [World.size_alloc] at h); exact h)
  have hW0' := hW0.symm
  clear hW0
  have HS0 := hide hs0
  have HA := hide (hA.below HB0.out)
  have HB := hide (hB.below HB0.out)
  have HC : Hid (∀ v, Below W0.heap.size W0 v → v.cell? ⟨w.heap.size, 0, none⟩ = some (.slice A n c) ∧ v.cell? ⟨w.heap.size, 1, none⟩ = some (.slice B m d) ∧ v.cell? ⟨w.heap.size + 1, 0, none⟩ = some (.int .i64 wide) ∧ v.cell? ⟨w.heap.size + 2, 0, none⟩ = some (.slice none 0 0) ∧ v.cell? ⟨w.heap.size + 2, 1, none⟩ = some (.slice none 0 0) ∧ v.frozen? ⟨w.heap.size + 2, 0, none⟩ = false ∧ v.frozen? ⟨w.heap.size + 2, 1, none⟩ = false) := hide (fun v hv => ⟨cell_of_row _ _ 0 _ _ (0, 0) ((hv.block _ (lt_of_heap HX0.out)).trans HX0.out), cell_of_row _ _ 1 _ _ (0, 0) ((hv.block _ (lt_of_heap HX0.out)).trans HX0.out), cell_of_row _ _ 0 _ _ (0, 0) ((hv.block _ (lt_of_heap HX1.out)).trans HX1.out), cell_of_row _ _ 0 _ _ (0, 0) ((hv.block _ (lt_of_heap HX2.out)).trans HX2.out), cell_of_row _ _ 1 _ _ (0, 0) ((hv.block _ (lt_of_heap HX2.out)).trans HX2.out), frozen_of_row v _ 0 _ _ ((hv.block _ (lt_of_heap HX2.out)).trans HX2.out), frozen_of_row v _ 1 _ _ ((hv.block _ (lt_of_heap HX2.out)).trans HX2.out)⟩)
  clear hA hB hs0
  obtain ⟨E, hEq⟩ : ∃ E, E = pl8E s m wide := ⟨_, rfl⟩
  have HEQ := hide hEq
  rw [← hEq] at hbad ⊢
  have HBADE := hide hbad
  clear hEq hbad
  refine (callsIn_wide (n := 5)).1 ?_
  refine callsIn_of_wp_marks Try.func32 rfl trivial ?_ rfl
  simp only [Try.ntmps32, List.size_toArray, List.length_cons, List.length_nil, Nat.reduceAdd, Nat.reduceSub, Array.replicate_succ, Array.replicate_zero, List.push_toArray, List.append_toArray, List.nil_append, List.cons_append]
  refine wpIn_wide.2 ?_
  obtain ⟨a0, a1, k0, r0, r1, rf0, rf1⟩ := HC.out _ (Below.refl _ W0)
  go_wp2_with fail
  refine Calls.mono (tcheck_any A B n c m d s _ HA.out hn) ?_
  rintro e w1 ⟨rfl, hb1⟩
  clear a0 a1 k0 r0 r1 rf0 rf1
  obtain ⟨a0, a1, k0, r0, r1, rf0, rf1⟩ := HC.out _ hb1
  by_cases h1 : tenOk s m = true
  rotate_left
  · have h1' : tenOk s m = false := by simpa using h1
    rw [h1']
    have HE : Hid (E = 1) := hide (by rw [HEQ.out, pl8E, if_neg fun h => h1 (h)])
    clear h1 h1'
    have HXF := hide (BoxT.kept (show BoxT W0 (w.heap.size + 2) _ _ from HX2.out) hb1)
    have HBF := hide (HB0.out.trans (hb1.mono (by have := HS0.out; omega)))
    go_wp2
    (try simp only [Exit.inBlock, Exit.then])
    refine plainRet rfl (results_ten (p := 4) (u := 5) rfl _ _ (w.heap.size + 2) _ rfl (HXF.out.set2 _ _) rfl) ?_
    exact ⟨by rw [HE.out]; rfl, (HBF.out.setCell (by dsimp only; omega) _).setCell (by dsimp only; omega) _⟩
  rw [h1]
  have HE : Hid (E = pp8E s wide) := hide (by rw [HEQ.out, pl8E, if_pos h1])
  clear h1
  go_wp2_with fail
  refine Calls.mono (poolshape_any A n c s wide _ (HA.out.below hb1) hn) ?_
  rw [← HE.out]
  rintro e w3 ⟨R, k, kc, rfl, ho, _, hb30⟩
  have hb3 : Below W0.heap.size W0 w3 := hb1.trans (hb30.mono hb1.size)
  clear a0 a1 k0 r0 r1 rf0 rf1 hb30 hb1
  obtain ⟨a0, a1, k0, r0, r1, rf0, rf1⟩ := HC.out _ hb3
  have hne : (E != 0) = true := by simpa using HBADE.out
  have hne2 : ¬ E = 0 := HBADE.out
  clear ho
  have HXF := hide (BoxT.kept (show BoxT W0 (w.heap.size + 2) _ _ from HX2.out) hb3)
  have HBF := hide (HB0.out.trans (hb3.mono (by have := HS0.out; omega)))
  go_wp2
  (try simp only [Exit.inBlock, Exit.then])
  refine plainRet rfl (results_ten (p := 4) (u := 5) rfl _ _ (w.heap.size + 2) _ rfl (HXF.out.set2 _ _) rfl) ?_
  exact ⟨rfl, (HBF.out.setCell (by dsimp only; omega) _).setCell (by dsimp only; omega) _⟩

end

section
open Go.RowKit Go.Shelf
set_option linter.unusedVariables false
set_option linter.unusedSimpArgs false
set_option maxRecDepth 100000

def of8E (s : List Int) (m : Nat) (s' : List Int) (m' : Nat) (step pad : Int) : Int := if tenOk s m = true ∧ tenOk s' m' = true then shp8E s s' step pad else 1

def of8S (s : List Int) (m : Nat) (s' : List Int) (m' : Nat) (step pad : Int) : List Int := if of8E s m s' m' step pad = 0 then shp8L s s' step pad else []

def of8L (s : List Int) (m : Nat) (s' : List Int) (m' : Nat) (l l' : List Int) (step pad : Int) : List Int :=
  if of8E s m s' m' step pad = 0 then winL l l' (s.getD 0 0).toNat (s.getD 1 0).toNat (s.getD 2 0).toNat (s'.getD 0 0).toNat (s'.getD 2 0).toNat (s'.getD 3 0).toNat step.toNat pad.toNat ((shp8L s s' step pad).getD 1 0).toNat ((shp8L s s' step pad).getD 2 0).toNat else []

theorem of8E_all (s : List Int) (m : Nat) (s' : List Int) (m' : Nat) (step pad : Int) : of8E s m s' m' step pad = 0 ∨ of8E s m s' m' step pad = 1 ∨ of8E s m s' m' step pad = 10 := by
  unfold of8E
  split
  · exact shp8E_all _ _ _ _
  · exact .inr (.inl rfl)

set_option maxHeartbeats 2000000 in
theorem wof_bad (A B A' B' : Option Addr) (n c m d n' c' m' d' : Nat) (s l s' l' : List Int) (step pad : Int) (w : World) (hA : Lies w A n (s.map (Value.int .i64))) (hB : Lies w B m (l.map (Value.int .i32))) (hA' : Lies w A' n' (s'.map (Value.int .i64))) (hB' : Lies w B' m' (l'.map (Value.int .i32))) (hn : n ≤ 281474976710656) (hn' : n' ≤ 281474976710656) (hbad : ¬ of8E s m s' m' step pad = 0) :
    Calls Try.prog 28 #[tenV A n c B m d, tenV A' n' c' B' m' d', .int .i64 step, .int .i64 pad] w fun e w' => e = .returned (.tuple #[tenV none 0 0 none 0 0, .int .i64 (of8E s m s' m' step pad)]) ∧ Below w.heap.size w w' := by
  obtain ⟨W0, hW0⟩ : ∃ W0, W0 = (((((w.alloc (.cells #[.slice A n c, .slice B m d] 25)).alloc (.cells #[.slice A' n' c', .slice B' m' d'] 25)).alloc (.cells #[.int .i64 step] 3)).alloc (.cells #[.int .i64 pad] 3)).alloc (.cells #[.slice none 0 0, .slice none 0 0] 25)) := ⟨_, rfl⟩
  have HB0 : Hid (Below w.heap.size w W0) := hide (by rw [hW0]; exact (((((Below.refl w.heap.size w).alloc (Nat.le_refl _) _).alloc (by simp only [World.size_alloc]; omega) _).alloc (by simp only [World.size_alloc]; omega) _).alloc (by simp only [World.size_alloc]; omega) _).alloc (by simp only [World.size_alloc]; omega) _)
  have hs0 : W0.heap.size = w.heap.size + 5 := by rw [hW0]; simp
  have HX0 : Hid (W0.heap[w.heap.size]? = some (.cells #[.slice A n c, .slice B m d] 25 (0, 0))) := hide (by rw [hW0]; have h := heap_alloc_new w (.cells #[.slice A n c, .slice B m d] 25); (try simp only [World.size_alloc] at h); exact (heap_alloc_old (heap_alloc_old (heap_alloc_old (heap_alloc_old h)))))
  have HX1 : Hid (W0.heap[w.heap.size + 1]? = some (.cells #[.slice A' n' c', .slice B' m' d'] 25 (0, 0))) := hide (by rw [hW0]; have h := heap_alloc_new (w.alloc (.cells #[.slice A n c, .slice B m d] 25)) (.cells #[.slice A' n' c', .slice B' m' d'] 25); (try simp only [World.size_alloc] at h); exact (heap_alloc_old (heap_alloc_old (heap_alloc_old h))))
  have HX2 : Hid (W0.heap[w.heap.size + 2]? = some (.cells #[.int .i64 step] 3 (0, 0))) := hide (by rw [hW0]; have h := heap_alloc_new ((w.alloc (.cells #[.slice A n c, .slice B m d] 25)).alloc (.cells #[.slice A' n' c', .slice B' m' d'] 25)) (.cells #[.int .i64 step] 3); (try simp only [World.size_alloc] at h); exact (heap_alloc_old (heap_alloc_old h)))
  have HX3 : Hid (W0.heap[w.heap.size + 3]? = some (.cells #[.int .i64 pad] 3 (0, 0))) := hide (by rw [hW0]; have h := heap_alloc_new (((w.alloc (.cells #[.slice A n c, .slice B m d] 25)).alloc (.cells #[.slice A' n' c', .slice B' m' d'] 25)).alloc (.cells #[.int .i64 step] 3)) (.cells #[.int .i64 pad] 3); (try simp only [World.size_alloc] at h); exact (heap_alloc_old h))
  have HX4 : Hid (W0.heap[w.heap.size + 4]? = some (.cells #[.slice none 0 0, .slice none 0 0] 25 (0, 0))) := hide (by rw [hW0]; have h := heap_alloc_new ((((w.alloc (.cells #[.slice A n c, .slice B m d] 25)).alloc (.cells #[.slice A' n' c', .slice B' m' d'] 25)).alloc (.cells #[.int .i64 step] 3)).alloc (.cells #[.int .i64 pad] 3)) (.cells #[.slice none 0 0, .slice none 0 0] 25); (try simp only [World.size_alloc] at h); exact h)
  have hW0' := hW0.symm
  clear hW0
  have HS0 := hide hs0
  have HA := hide (hA.below HB0.out)
  have HB := hide (hB.below HB0.out)
  have HA' := hide (hA'.below HB0.out)
  have HB' := hide (hB'.below HB0.out)
  have HC : Hid (∀ v, Below W0.heap.size W0 v → v.cell? ⟨w.heap.size, 0, none⟩ = some (.slice A n c) ∧ v.cell? ⟨w.heap.size, 1, none⟩ = some (.slice B m d) ∧ v.cell? ⟨w.heap.size + 1, 0, none⟩ = some (.slice A' n' c') ∧ v.cell? ⟨w.heap.size + 1, 1, none⟩ = some (.slice B' m' d') ∧ v.cell? ⟨w.heap.size + 2, 0, none⟩ = some (.int .i64 step) ∧ v.cell? ⟨w.heap.size + 3, 0, none⟩ = some (.int .i64 pad) ∧ v.cell? ⟨w.heap.size + 4, 0, none⟩ = some (.slice none 0 0) ∧ v.cell? ⟨w.heap.size + 4, 1, none⟩ = some (.slice none 0 0) ∧ v.frozen? ⟨w.heap.size + 4, 0, none⟩ = false ∧ v.frozen? ⟨w.heap.size + 4, 1, none⟩ = false) := hide (fun v hv => ⟨cell_of_row _ _ 0 _ _ (0, 0) ((hv.block _ (lt_of_heap HX0.out)).trans HX0.out), cell_of_row _ _ 1 _ _ (0, 0) ((hv.block _ (lt_of_heap HX0.out)).trans HX0.out), cell_of_row _ _ 0 _ _ (0, 0) ((hv.block _ (lt_of_heap HX1.out)).trans HX1.out), cell_of_row _ _ 1 _ _ (0, 0) ((hv.block _ (lt_of_heap HX1.out)).trans HX1.out), cell_of_row _ _ 0 _ _ (0, 0) ((hv.block _ (lt_of_heap HX2.out)).trans HX2.out), cell_of_row _ _ 0 _ _ (0, 0) ((hv.block _ (lt_of_heap HX3.out)).trans HX3.out), cell_of_row _ _ 0 _ _ (0, 0) ((hv.block _ (lt_of_heap HX4.out)).trans HX4.out), cell_of_row _ _ 1 _ _ (0, 0) ((hv.block _ (lt_of_heap HX4.out)).trans HX4.out), frozen_of_row v _ 0 _ _ ((hv.block _ (lt_of_heap HX4.out)).trans HX4.out), frozen_of_row v _ 1 _ _ ((hv.block _ (lt_of_heap HX4.out)).trans HX4.out)⟩)
  clear hA hB hA' hB' hs0
  obtain ⟨E, hEq⟩ : ∃ E, E = of8E s m s' m' step pad := ⟨_, rfl⟩
  have HEQ := hide hEq
  rw [← hEq] at hbad ⊢
  have HBADE := hide hbad
  clear hEq hbad
  refine (callsIn_wide (n := 5)).1 ?_
  refine callsIn_of_wp_marks Try.func28 rfl trivial ?_ rfl
  simp only [Try.ntmps28, List.size_toArray, List.length_cons, List.length_nil, Nat.reduceAdd, Nat.reduceSub, Array.replicate_succ, Array.replicate_zero, List.push_toArray, List.append_toArray, List.nil_append, List.cons_append]
  refine wpIn_wide.2 ?_
  obtain ⟨a0, a1, b0, b1, k0, k1, r0, r1, rf0, rf1⟩ := HC.out _ (Below.refl _ W0)
  go_wp2_with fail
  refine Calls.mono (tcheck_any A B n c m d s _ HA.out hn) ?_
  rintro e w1 ⟨rfl, hb1⟩
  clear a0 a1 b0 b1 k0 k1 r0 r1 rf0 rf1
  obtain ⟨a0, a1, b0, b1, k0, k1, r0, r1, rf0, rf1⟩ := HC.out _ hb1
  by_cases h1 : tenOk s m = true
  rotate_left
  · have h1' : tenOk s m = false := by simpa using h1
    rw [h1']
    have HE : Hid (E = 1) := hide (by rw [HEQ.out, of8E, if_neg fun h => h1 (h.1)])
    clear h1 h1'
    have HXF := hide (BoxT.kept (show BoxT W0 (w.heap.size + 4) _ _ from HX4.out) hb1)
    have HBF := hide (HB0.out.trans (hb1.mono (by have := HS0.out; omega)))
    go_wp2
    (try simp only [Exit.inBlock, Exit.then])
    refine plainRet rfl (results_ten (p := 8) (u := 9) rfl _ _ (w.heap.size + 4) _ rfl (HXF.out.set2 _ _) rfl) ?_
    exact ⟨by rw [HE.out]; rfl, (HBF.out.setCell (by dsimp only; omega) _).setCell (by dsimp only; omega) _⟩
  rw [h1]
  go_wp2_with fail
  refine Calls.mono (tcheck_any A' B' n' c' m' d' s' _ (HA'.out.below hb1) hn') ?_
  rintro e w2 ⟨rfl, hb20⟩
  have hb2 : Below W0.heap.size W0 w2 := hb1.trans (hb20.mono hb1.size)
  clear a0 a1 b0 b1 k0 k1 r0 r1 rf0 rf1 hb20 hb1
  obtain ⟨a0, a1, b0, b1, k0, k1, r0, r1, rf0, rf1⟩ := HC.out _ hb2
  by_cases h2 : tenOk s' m' = true
  rotate_left
  · have h2' : tenOk s' m' = false := by simpa using h2
    rw [h2']
    have HE : Hid (E = 1) := hide (by rw [HEQ.out, of8E, if_neg fun h => h2 h.2])
    clear h1 h2 h2'
    have HXF := hide (BoxT.kept (show BoxT W0 (w.heap.size + 4) _ _ from HX4.out) hb2)
    have HBF := hide (HB0.out.trans (hb2.mono (by have := HS0.out; omega)))
    go_wp2
    (try simp only [Exit.inBlock, Exit.then])
    refine plainRet rfl (results_ten (p := 8) (u := 9) rfl _ _ (w.heap.size + 4) _ rfl (HXF.out.set2 _ _) rfl) ?_
    exact ⟨by rw [HE.out]; rfl, (HBF.out.setCell (by dsimp only; omega) _).setCell (by dsimp only; omega) _⟩
  rw [h2]
  have HE : Hid (E = shp8E s s' step pad) := hide (by rw [HEQ.out, of8E, if_pos ⟨h1, h2⟩])
  clear h1 h2
  go_wp2_with fail
  refine Calls.mono (wshape_any A A' n c n' c' s s' step pad _ (HA.out.below hb2) (HA'.out.below hb2) hn hn') ?_
  rw [← HE.out]
  rintro e w3 ⟨R, k, kc, rfl, ho, _, hb30⟩
  have hb3 : Below W0.heap.size W0 w3 := hb2.trans (hb30.mono hb2.size)
  clear a0 a1 b0 b1 k0 k1 r0 r1 rf0 rf1 hb30 hb2
  obtain ⟨a0, a1, b0, b1, k0, k1, r0, r1, rf0, rf1⟩ := HC.out _ hb3
  have hne : (E != 0) = true := by simpa using HBADE.out
  have hne2 : ¬ E = 0 := HBADE.out
  clear ho
  have HXF := hide (BoxT.kept (show BoxT W0 (w.heap.size + 4) _ _ from HX4.out) hb3)
  have HBF := hide (HB0.out.trans (hb3.mono (by have := HS0.out; omega)))
  go_wp2
  (try simp only [Exit.inBlock, Exit.then])
  refine plainRet rfl (results_ten (p := 8) (u := 9) rfl _ _ (w.heap.size + 4) _ rfl (HXF.out.set2 _ _) rfl) ?_
  exact ⟨rfl, (HBF.out.setCell (by dsimp only; omega) _).setCell (by dsimp only; omega) _⟩

end

section
open Go.RowKit Go.Shelf
set_option linter.unusedVariables false
set_option linter.unusedSimpArgs false
set_option maxRecDepth 100000
attribute [local go_sem] Oper.semAt_some

theorem ten_three {M K N m : Nat} (h : tenOk [(M : Int), (K : Int), (N : Int)] m = true) : (1 ≤ M ∧ M ≤ 64) ∧ (1 ≤ K ∧ K ≤ 64) ∧ (1 ≤ N ∧ N ≤ 64) ∧ m = M * K * N ∧ m ≤ 4096 := by
  obtain ⟨q1, q2⟩ := tenOk_iff.1 h
  have h1 := size_dims q1
  have ha := h1 (M : Int) (by simp)
  have hb := h1 (K : Int) (by simp)
  have hc := h1 (N : Int) (by simp)
  have h4 := sizeI_le [(M : Int), (K : Int), (N : Int)]
  refine ⟨by omega, by omega, by omega, ?_, by omega⟩
  rw [(sizeI_pos q1).2.2, prodZ, prodZ, prodZ, prodZ, ha.2.2, hb.2.2, hc.2.2, Int.mul_one, ← Int.natCast_mul, ← Int.natCast_mul] at q2
  rw [Nat.mul_assoc]
  omega

theorem ten_four {M K N L m : Nat} (h : tenOk [(M : Int), (K : Int), (N : Int), (L : Int)] m = true) : (1 ≤ M ∧ M ≤ 64) ∧ (1 ≤ K ∧ K ≤ 64) ∧ (1 ≤ N ∧ N ≤ 64) ∧ (1 ≤ L ∧ L ≤ 64) ∧ m = M * (K * (N * L)) ∧ m ≤ 4096 := by
  obtain ⟨q1, q2⟩ := tenOk_iff.1 h
  have h1 := size_dims q1
  have ha := h1 (M : Int) (by simp)
  have hb := h1 (K : Int) (by simp)
  have hc := h1 (N : Int) (by simp)
  have hd := h1 (L : Int) (by simp)
  have h4 := sizeI_le [(M : Int), (K : Int), (N : Int), (L : Int)]
  refine ⟨by omega, by omega, by omega, by omega, ?_, by omega⟩
  rw [(sizeI_pos q1).2.2, prodZ, prodZ, prodZ, prodZ, prodZ, ha.2.2, hb.2.2, hc.2.2, hd.2.2, Int.mul_one, ← Int.natCast_mul, ← Int.natCast_mul, ← Int.natCast_mul] at q2
  omega

theorem three_size {M K N : Nat} (h : 0 < sizeI [(M : Int), (K : Int), (N : Int)]) : (1 ≤ M ∧ M ≤ 64) ∧ (1 ≤ K ∧ K ≤ 64) ∧ (1 ≤ N ∧ N ≤ 64) ∧ sizeI [(M : Int), (K : Int), (N : Int)] = ((M * K * N : Nat) : Int) ∧ 1 ≤ M * K * N ∧ M * K * N ≤ 4096 := by
  have h1 := size_dims h
  have ha := h1 (M : Int) (by simp)
  have hb := h1 (K : Int) (by simp)
  have hc := h1 (N : Int) (by simp)
  have h4 := sizeI_le [(M : Int), (K : Int), (N : Int)]
  have e : sizeI [(M : Int), (K : Int), (N : Int)] = ((M * K * N : Nat) : Int) := by
    rw [(sizeI_pos h).2.2, prodZ, prodZ, prodZ, prodZ, ha.2.2, hb.2.2, hc.2.2, Int.mul_one, ← Int.natCast_mul, ← Int.natCast_mul, Nat.mul_assoc]
  refine ⟨by omega, by omega, by omega, e, by omega, by omega⟩

theorem ownFrom_grown {β : Type} {w0 : World} {g B : Nat} (hB : w0.heap.size ≤ B) : OwnFrom B (fun (_ : β) W => w0.grownBy W (some g)) :=
  fun _ _ _ _ hs hg hr => ⟨hg.os.trans hs.os, hg.tape.trans hs.tape, hg.output.trans hs.output, Nat.le_trans hs.size hg.size, fun k hk hne => (hg.block k (Nat.lt_of_lt_of_le hk hs.size) (fun e => by have := (hr k e.symm).1; omega)).trans (hs.block k hk hne)⟩

theorem ownFrom_fill {g q B : Nat} {zs : List Int} : OwnFrom B (fun k W => FillAt W g q zs k) := fun _ _ _ _ hs hg hr => heap_own hg hr hs rfl

set_option maxHeartbeats 4000000 in
theorem wof_ok (A B A' B' : Option Addr) (c m d c' m' d' C H V O a b Y X step pad : Nat) (l l' : List Int) (w : World) (hA : Lies w A 3 (([(C : Int), (H : Int), (V : Int)] : List Int).map (Value.int .i64))) (hB : Lies w B m (l.map (Value.int .i32))) (hA' : Lies w A' 4 (([(O : Int), (C : Int), (a : Int), (b : Int)] : List Int).map (Value.int .i64))) (hB' : Lies w B' m' (l'.map (Value.int .i32)))
    (hok : tenOk [(C : Int), (H : Int), (V : Int)] m = true) (hok' : tenOk [(O : Int), (C : Int), (a : Int), (b : Int)] m' = true) (hcap : m' ≤ d') (hE : shp8E [(C : Int), (H : Int), (V : Int)] [(O : Int), (C : Int), (a : Int), (b : Int)] (step : Int) (pad : Int) = 0) (hL : shp8L [(C : Int), (H : Int), (V : Int)] [(O : Int), (C : Int), (a : Int), (b : Int)] (step : Int) (pad : Int) = [(O : Int), (Y : Int), (X : Int)]) :
    Calls Try.prog 28 #[tenV A 3 c B m d, tenV A' 4 c' B' m' d', .int .i64 (step : Int), .int .i64 (pad : Int)] w fun e w' => ∃ g1 c1 g2, e = .returned (.tuple #[tenV (some ⟨g1, 0, none⟩) 3 c1 (some ⟨g2, 0, none⟩) (O * Y * X) (O * Y * X), .int .i64 0]) ∧
      w'.ownsRow w.heap.size 3 1 (.slice (some ⟨g1, 0, none⟩) 3 c1) 3 (([(O : Int), (Y : Int), (X : Int)] : List Int).map (Value.int .i64)) ∧ w'.ownsRow w.heap.size 21 1 (.slice (some ⟨g2, 0, none⟩) (O * Y * X) (O * Y * X)) (O * Y * X) ((winL l l' C H V O a b step pad Y X).map (Value.int .i32)) ∧ g1 ≠ g2 ∧ Below w.heap.size w w' := by
  obtain ⟨hC, hH, hV, hm, hm4⟩ := ten_three hok
  obtain ⟨hO, _, ha, hb, hm', hm4'⟩ := ten_four hok'
  have hst := (shp8E_iff.1 hE).1.2.2
  have hsz0 := (shp8E_iff.1 hE).2.2
  rw [hL] at hsz0
  obtain ⟨_, hY, hX, hq1, hq2, hq3⟩ := three_size hsz0
  have hS : shp8S [(C : Int), (H : Int), (V : Int)] [(O : Int), (C : Int), (a : Int), (b : Int)] (step : Int) (pad : Int) = [(O : Int), (Y : Int), (X : Int)] := by rw [shp8S, if_pos hE, hL]
  obtain ⟨q, hq⟩ : ∃ q, q = O * Y * X := ⟨_, rfl⟩
  rw [← hq] at hq1 hq2 hq3 ⊢
  obtain ⟨zs, hzs⟩ : ∃ zs, zs = winL l l' C H V O a b step pad Y X := ⟨_, rfl⟩
  rw [← hzs]
  have HZ := hide hzs
  have HZL : Hid (zs.length = q) := hide (by rw [hzs, winL_len, hq])
  have HQ := hide hq
  have HE := hide hE
  have HS := hide hS
  have HSZ := hide hq1
  have HM1 := hide hm
  have HM2 := hide hm'
  have HST := hide hst
  clear hzs hq hE hS hL hq1 hm hsz0 hm'
  obtain ⟨W0, hW0⟩ : ∃ W0, W0 = (((((w.alloc (.cells #[.slice A 3 c, .slice B m d] 25)).alloc (.cells #[.slice A' 4 c', .slice B' m' d'] 25)).alloc (.cells #[.int .i64 (step : Int)] 3)).alloc (.cells #[.int .i64 (pad : Int)] 3)).alloc (.cells #[.slice none 0 0, .slice none 0 0] 25)) := ⟨_, rfl⟩
  have HB0 : Hid (Below w.heap.size w W0) := hide (by rw [hW0]; exact (((((Below.refl w.heap.size w).alloc (Nat.le_refl _) _).alloc (by simp only [World.size_alloc]; omega) _).alloc (by simp only [World.size_alloc]; omega) _).alloc (by simp only [World.size_alloc]; omega) _).alloc (by simp only [World.size_alloc]; omega) _)
  have hs0 : W0.heap.size = w.heap.size + 5 := by rw [hW0]; simp
  have HX0 : Hid (W0.heap[w.heap.size]? = some (.cells #[.slice A 3 c, .slice B m d] 25 (0, 0))) := hide (by rw [hW0]; have h := heap_alloc_new w (.cells #[.slice A 3 c, .slice B m d] 25); (try simp only [World.size_alloc] at h); exact (heap_alloc_old (heap_alloc_old (heap_alloc_old (heap_alloc_old h)))))
  have HX1 : Hid (W0.heap[w.heap.size + 1]? = some (.cells #[.slice A' 4 c', .slice B' m' d'] 25 (0, 0))) := hide (by rw [hW0]; have h := heap_alloc_new (w.alloc (.cells #[.slice A 3 c, .slice B m d] 25)) (.cells #[.slice A' 4 c', .slice B' m' d'] 25); (try simp only [World.size_alloc] at h); exact (heap_alloc_old (heap_alloc_old (heap_alloc_old h))))
  have HX2 : Hid (W0.heap[w.heap.size + 2]? = some (.cells #[.int .i64 (step : Int)] 3 (0, 0))) := hide (by rw [hW0]; have h := heap_alloc_new ((w.alloc (.cells #[.slice A 3 c, .slice B m d] 25)).alloc (.cells #[.slice A' 4 c', .slice B' m' d'] 25)) (.cells #[.int .i64 (step : Int)] 3); (try simp only [World.size_alloc] at h); exact (heap_alloc_old (heap_alloc_old h)))
  have HX3 : Hid (W0.heap[w.heap.size + 3]? = some (.cells #[.int .i64 (pad : Int)] 3 (0, 0))) := hide (by rw [hW0]; have h := heap_alloc_new (((w.alloc (.cells #[.slice A 3 c, .slice B m d] 25)).alloc (.cells #[.slice A' 4 c', .slice B' m' d'] 25)).alloc (.cells #[.int .i64 (step : Int)] 3)) (.cells #[.int .i64 (pad : Int)] 3); (try simp only [World.size_alloc] at h); exact (heap_alloc_old h))
  have HX4 : Hid (W0.heap[w.heap.size + 4]? = some (.cells #[.slice none 0 0, .slice none 0 0] 25 (0, 0))) := hide (by rw [hW0]; have h := heap_alloc_new ((((w.alloc (.cells #[.slice A 3 c, .slice B m d] 25)).alloc (.cells #[.slice A' 4 c', .slice B' m' d'] 25)).alloc (.cells #[.int .i64 (step : Int)] 3)).alloc (.cells #[.int .i64 (pad : Int)] 3)) (.cells #[.slice none 0 0, .slice none 0 0] 25); (try simp only [World.size_alloc] at h); exact h)
  have hW0' := hW0.symm
  clear hW0
  have HS0 := hide hs0
  have HA := hide (hA.below HB0.out)
  have HB := hide (hB.below HB0.out)
  have HA' := hide (hA'.below HB0.out)
  have HB' := hide (hB'.below HB0.out)
  have HC : Hid (∀ v, Below W0.heap.size W0 v → v.cell? ⟨w.heap.size, 0, none⟩ = some (.slice A 3 c) ∧ v.cell? ⟨w.heap.size, 1, none⟩ = some (.slice B m d) ∧ v.cell? ⟨w.heap.size + 1, 0, none⟩ = some (.slice A' 4 c') ∧ v.cell? ⟨w.heap.size + 1, 1, none⟩ = some (.slice B' m' d') ∧ v.cell? ⟨w.heap.size + 2, 0, none⟩ = some (.int .i64 (step : Int)) ∧ v.cell? ⟨w.heap.size + 3, 0, none⟩ = some (.int .i64 (pad : Int)) ∧ v.cell? ⟨w.heap.size + 4, 0, none⟩ = some (.slice none 0 0) ∧ v.cell? ⟨w.heap.size + 4, 1, none⟩ = some (.slice none 0 0) ∧ v.frozen? ⟨w.heap.size + 4, 0, none⟩ = false ∧ v.frozen? ⟨w.heap.size + 4, 1, none⟩ = false) := hide (fun v hv => ⟨cell_of_row _ _ 0 _ _ (0, 0) ((hv.block _ (lt_of_heap HX0.out)).trans HX0.out), cell_of_row _ _ 1 _ _ (0, 0) ((hv.block _ (lt_of_heap HX0.out)).trans HX0.out), cell_of_row _ _ 0 _ _ (0, 0) ((hv.block _ (lt_of_heap HX1.out)).trans HX1.out), cell_of_row _ _ 1 _ _ (0, 0) ((hv.block _ (lt_of_heap HX1.out)).trans HX1.out), cell_of_row _ _ 0 _ _ (0, 0) ((hv.block _ (lt_of_heap HX2.out)).trans HX2.out), cell_of_row _ _ 0 _ _ (0, 0) ((hv.block _ (lt_of_heap HX3.out)).trans HX3.out), cell_of_row _ _ 0 _ _ (0, 0) ((hv.block _ (lt_of_heap HX4.out)).trans HX4.out), cell_of_row _ _ 1 _ _ (0, 0) ((hv.block _ (lt_of_heap HX4.out)).trans HX4.out), frozen_of_row v _ 0 _ _ ((hv.block _ (lt_of_heap HX4.out)).trans HX4.out), frozen_of_row v _ 1 _ _ ((hv.block _ (lt_of_heap HX4.out)).trans HX4.out)⟩)
  have HLW := hide (And.intro hA' (And.intro hB' (And.intro hA hB)))
  clear hA hB hA' hB' hs0
  have HOK1 := hide hok
  have HOK2 := hide hok'
  clear hok hok'
  refine (callsIn_wide (n := 5)).1 ?_
  refine callsIn_of_wp_marks Try.func28 rfl trivial ?_ rfl
  simp only [Try.ntmps28, List.size_toArray, List.length_cons, List.length_nil, Nat.reduceAdd, Nat.reduceSub, Array.replicate_succ, Array.replicate_zero, List.push_toArray, List.append_toArray, List.nil_append, List.cons_append]
  refine wpIn_wide.2 ?_
  obtain ⟨a0, a1, b0, b1, k0, k1, r0, r1, rf0, rf1⟩ := HC.out _ (Below.refl _ W0)
  go_wp2_with fail
  refine Calls.mono (tcheck_any A B 3 c m d [(C : Int), (H : Int), (V : Int)] _ HA.out (by omega)) ?_
  rw [HOK1.out]
  rintro e w1 ⟨rfl, hb1⟩
  clear a0 a1 b0 b1 k0 k1 r0 r1 rf0 rf1
  obtain ⟨a0, a1, b0, b1, k0, k1, r0, r1, rf0, rf1⟩ := HC.out _ hb1
  go_wp2_with fail
  refine Calls.mono (tcheck_any A' B' 4 c' m' d' [(O : Int), (C : Int), (a : Int), (b : Int)] _ (HA'.out.below hb1) (by omega)) ?_
  rw [HOK2.out]
  rintro e w2 ⟨rfl, hb20⟩
  have hb2 : Below W0.heap.size W0 w2 := hb1.trans (hb20.mono hb1.size)
  clear a0 a1 b0 b1 k0 k1 r0 r1 rf0 rf1 hb20 hb1
  obtain ⟨a0, a1, b0, b1, k0, k1, r0, r1, rf0, rf1⟩ := HC.out _ hb2
  go_wp2_with fail
  refine Calls.mono (wshape_any A A' 3 c 4 c' [(C : Int), (H : Int), (V : Int)] [(O : Int), (C : Int), (a : Int), (b : Int)] (step : Int) (pad : Int) _ (HA.out.below hb2) (HA'.out.below hb2) (by omega) (by omega)) ?_
  rw [HE.out, HS.out]
  rintro e w3 ⟨R, k, kc, rfl, ho, hk2, hb30⟩
  have hb3 : Below W0.heap.size W0 w3 := hb2.trans (hb30.mono hb2.size)
  obtain rfl : k = 3 := by have := ho.1; simpa using this.symm
  obtain ⟨gs, rfl⟩ := own_some ho (by omega)
  have HLS := hide (lies_of_own ho)
  clear a0 a1 b0 b1 k0 k1 r0 r1 rf0 rf1 hb30 hb2 ho hk2
  obtain ⟨a0, a1, b0, b1, k0, k1, r0, r1, rf0, rf1⟩ := HC.out _ hb3
  go_wp2_with fail
  refine Calls.mono (new_ok (some ⟨gs, 0, none⟩) 3 kc q [(O : Int), (Y : Int), (X : Int)] w3 HLS.out HSZ.out (by omega)) ?_
  rintro e w4 ⟨g1, c1, g2, rfl, ho1, ho2, hne, hb40⟩
  have lt1 := ho1.lt g1 rfl
  have lt2 := ho2.lt g2 rfl
  have hb4 : Below W0.heap.size W0 w4 := hb3.trans (hb40.mono hb3.size)
  obtain ⟨W1, hW1⟩ : ∃ W1, W1 = w4.alloc (.cells #[.slice (some ⟨g1, 0, none⟩) 3 c1, .slice (some ⟨g2, 0, none⟩) q q] 25) := ⟨_, rfl⟩
  have HB1 : Hid (Below W0.heap.size W0 W1) := hide (by rw [hW1]; exact hb4.alloc hb4.size _)
  have HT1 : Hid (BoxT W1 w4.heap.size (.slice (some ⟨g1, 0, none⟩) 3 c1) (.slice (some ⟨g2, 0, none⟩) q q)) := hide (by rw [hW1]; exact BoxT.new w4 _ _)
  have HO1 : Hid (W1.ownsRow w3.heap.size 3 1 (.slice (some ⟨g1, 0, none⟩) 3 c1) 3 (([(O : Int), (Y : Int), (X : Int)] : List Int).map (Value.int .i64))) := hide (by rw [hW1]; exact ho1.alloc _)
  have HF1 : Hid (FillAt W1 g2 q zs 0) := hide (by rw [hW1]; exact FillAt.of_own (ho2.alloc _) zs)
  have hs1 : W1.heap.size = w4.heap.size + 1 := by rw [hW1]; simp
  have HLS1 : Hid (Lies W1 (some ⟨gs, 0, none⟩) 3 (([(O : Int), (Y : Int), (X : Int)] : List Int).map (Value.int .i64))) := hide (by rw [hW1]; exact (HLS.out.below hb40).alloc _)
  have hgs : gs ≠ g2 := by
    obtain ⟨b0, o0, e0, hb0, _⟩ := byte_at HLS.out (by omega)
    cases e0
    omega
  have hW1' := hW1.symm
  have hs3 := hb3.size
  clear hW1 ho1 ho2 hb40 hb4 hb3 a0 a1 b0 b1 k0 k1 r0 r1 rf0 rf1
  have HSZ1 := hide hs1
  have HS3 := hide hs3
  clear hs3 hs1
  go_wp2_with fail
  refine Calls.mono (positions_any (some ⟨gs, 0, none⟩) 3 kc W1) ?_
  rintro e V1 ⟨rfl, hV1⟩
  have hbv : Below W1.heap.size W1 V1 := by rw [hV1]; exact (Below.refl _ W1).alloc (Nat.le_refl _) _
  have HBV := hide hbv
  have hsv : V1.heap.size = W1.heap.size + 1 := by rw [hV1]; simp
  have HPV : Hid (Box1 V1 W1.heap.size 22 (.slice (some ⟨gs, 0, none⟩) 3 kc)) := hide (by rw [hV1]; exact Box1.new W1 _ _)
  have HFV : Hid (FillAt V1 g2 q zs 0) := hide (HF1.out.below hbv)
  have HSV := hide hsv
  clear hbv hV1 hsv
  have hlo : W0.heap.size ≤ g2 := by have := HS3.out; omega
  have HBW1 : Hid (Below W0.heap.size W0 V1) := hide (HB1.out.trans (HBV.out.mono HB1.out.size))
  have HPOS : Hid (∀ v, V1.grownBy v (some g2) → PosAt v W1.heap.size gs 0 kc (O : Int) (Y : Int) (X : Int)) := hide (fun v hv => by
    have hsv := HSV.out
    have hs1 := HSZ1.out
    have e1 : v.heap[W1.heap.size]? = V1.heap[W1.heap.size]? := hv.block _ (by omega) (by simp; omega)
    obtain ⟨b0, o0, e0, hb0, hx0⟩ := byte_at HLS1.out (by omega)
    cases e0
    have e2 : v.heap[gs]? = W1.heap[gs]? := (hv.block gs (by omega) (by simp; exact hgs)).trans (HBV.out.block gs hb0)
    have hb1 : Box1 v W1.heap.size 22 (.slice (some ⟨gs, 0, none⟩) 3 kc) := e1.trans HPV.out
    exact ⟨hb1.cell, (World.cell?_of_block e2).trans (hx0 0 (by omega)), (World.cell?_of_block e2).trans (hx0 1 (by omega)), (World.cell?_of_block e2).trans (hx0 2 (by omega))⟩)
  go_wp2_with fail
  refine (wpIn_wide (n := 5)).1 ?_
  have HAB : Hid (1 ≤ O * (C * (a * b))) := hide (Nat.mul_pos (by omega) (Nat.mul_pos (by omega) (Nat.mul_pos (by omega) (by omega))))
  have HCHV : Hid (1 ≤ C * H * V) := hide (Nat.mul_pos (Nat.mul_pos (by omega) (by omega)) (by omega))
  have hsv := HSV.out
  have hs1 := HSZ1.out
  have hwf : ∀ v, V1.grownBy v (some g2) → ∀ k, k < W0.heap.size → v.heap[k]? = W0.heap[k]? := fun v hv k hk => (hv.block k (by have := HBW1.out.size; omega) (by simp; omega)).trans (HBW1.out.block k hk)
  have HF : Hid (∀ v, V1.grownBy v (some g2) → v.cell? ⟨w4.heap.size, 1, none⟩ = some (.slice (some ⟨g2, 0, none⟩) q q) ∧ v.cell? ⟨w.heap.size, 0, none⟩ = some (.slice A 3 c) ∧ v.cell? ⟨w.heap.size, 1, none⟩ = some (.slice B m d) ∧ v.cell? ⟨w.heap.size + 1, 0, none⟩ = some (.slice A' 4 c') ∧ v.cell? ⟨w.heap.size + 1, 1, none⟩ = some (.slice B' m' d') ∧ v.cell? ⟨w.heap.size + 2, 0, none⟩ = some (.int .i64 (step : Int)) ∧ v.cell? ⟨w.heap.size + 3, 0, none⟩ = some (.int .i64 (pad : Int))) := hide (fun v hv => by
    have h8 : BoxT v w4.heap.size (.slice (some ⟨g1, 0, none⟩) 3 c1) (.slice (some ⟨g2, 0, none⟩) q q) := (hv.block _ (by omega) (by simp; omega)).trans ((HBV.out.block _ (by omega)).trans HT1.out)
    have hs := HS0.out
    exact ⟨h8.c1, cell_of_row _ _ 0 _ _ (0, 0) ((hwf v hv _ (by omega)).trans HX0.out), cell_of_row _ _ 1 _ _ (0, 0) ((hwf v hv _ (by omega)).trans HX0.out), cell_of_row _ _ 0 _ _ (0, 0) ((hwf v hv _ (by omega)).trans HX1.out), cell_of_row _ _ 1 _ _ (0, 0) ((hwf v hv _ (by omega)).trans HX1.out), cell_of_row _ _ 0 _ _ (0, 0) ((hwf v hv _ (by omega)).trans HX2.out), cell_of_row _ _ 0 _ _ (0, 0) ((hwf v hv _ (by omega)).trans HX3.out)⟩)
  have HLB : Hid (∀ v, V1.grownBy v (some g2) → Lies v A' 4 (([(O : Int), (C : Int), (a : Int), (b : Int)] : List Int).map (Value.int .i64)) ∧ Lies v B' m' (l'.map (Value.int .i32)) ∧ Lies v A 3 (([(C : Int), (H : Int), (V : Int)] : List Int).map (Value.int .i64)) ∧ Lies v B m (l.map (Value.int .i32))) := hide (fun v hv => by
    have hbw : Below w.heap.size w V1 := HB0.out.trans (HBW1.out.mono HB0.out.size)
    have hlo : w.heap.size ≤ g2 := by have := HB0.out.size; omega
    exact ⟨grown_lies hv (HLW.out.1.below hbw) (lies_block HLW.out.1 (by omega) hlo), grown_lies hv (HLW.out.2.1.below hbw) (lies_block HLW.out.2.1 (by have := HM2.out; have := HAB.out; omega) hlo), grown_lies hv (HLW.out.2.2.1.below hbw) (lies_block HLW.out.2.2.1 (by omega) hlo), grown_lies hv (HLW.out.2.2.2.below hbw) (lies_block HLW.out.2.2.2 (by have := HM1.out; have := HCHV.out; omega) hlo)⟩)
  have HRES : Hid (∀ v, V1.grownBy v (some g2) → BoxT v (w.heap.size + 4) (.slice none 0 0) (.slice none 0 0) ∧ BoxT v w4.heap.size (.slice (some ⟨g1, 0, none⟩) 3 c1) (.slice (some ⟨g2, 0, none⟩) q q)) := hide (fun v hv =>
    ⟨(hwf v hv _ (by have := HS0.out; omega)).trans HX4.out, (hv.block _ (by omega) (by simp; omega)).trans ((HBV.out.block _ (by omega)).trans HT1.out)⟩)
  clear hwf hsv hs1
  refine range_pos 5 W1.heap.size gs 0 kc O Y X (by omega) (by omega) (by omega) (by omega) rfl rfl (fun k W => FillAt W g2 q zs k ∧ V1.grownBy W (some g2)) (OwnFrom.and ownFrom_fill (ownFrom_grown (Nat.le_refl _))) ⟨HFV.out, World.grownBy.refl V1 (some g2)⟩ (fun k W hI => HPOS.out W hI.2)
    (fun k i y x pp => { tmps := #[tenV A 3 c B m d, tenV A' 4 c' B' m' d', .int .i64 (step : Int), .int .i64 (pad : Int), .pointer (some ⟨w.heap.size, 0, none⟩), .pointer (some ⟨w.heap.size + 1, 0, none⟩), .pointer (some ⟨w.heap.size + 2, 0, none⟩), .pointer (some ⟨w.heap.size + 3, 0, none⟩), .pointer (some ⟨w.heap.size + 4, 0, none⟩), .int .i64 0, .slice (some ⟨gs, 0, none⟩) 3 kc, .int .i64 0, .pointer (some ⟨w4.heap.size, 0, none⟩), .int .i64 0, .int .i64 (k : Int), .pointer (some ⟨pp, 0, none⟩), undef, tenV A 3 c B m d, .bool true, .bool false, .bool false, tenV A' 4 c' B' m' d', .bool true, .bool false, .bool false, undef, .tuple #[.slice (some ⟨gs, 0, none⟩) 3 kc, .int .i64 0], .pointer (some ⟨w.heap.size, 0, none⟩), .slice A 3 c, .pointer (some ⟨w.heap.size + 1, 0, none⟩), .slice A' 4 c', .int .i64 (step : Int), .int .i64 (pad : Int), .tuple #[.slice (some ⟨gs, 0, none⟩) 3 kc, .int .i64 0], .slice (some ⟨gs, 0, none⟩) 3 kc, .int .i64 0, .int .i64 0, .bool false, undef, undef, .tuple #[tenV (some ⟨g1, 0, none⟩) 3 c1 (some ⟨g2, 0, none⟩) q q, .int .i64 0], .slice (some ⟨gs, 0, none⟩) 3 kc, .tuple #[tenV (some ⟨g1, 0, none⟩) 3 c1 (some ⟨g2, 0, none⟩) q q, .int .i64 0], tenV (some ⟨g1, 0, none⟩) 3 c1 (some ⟨g2, 0, none⟩) q q, .int .i64 0, .slice (some ⟨gs, 0, none⟩) 3 kc, .func (.func 77) #[] #[.pointer (some ⟨W1.heap.size, 0, none⟩)], .int .i64 (k : Int), .agg #[.int .i64 (i : Int), .int .i64 (y : Int), .int .i64 (x : Int)], undef, undef, undef, undef, undef, undef, undef, undef, undef, undef, undef, undef, undef, undef, undef, undef, undef, undef, undef, undef, undef, undef, undef, undef, undef], defers := [] }) ?assign ?body ?done
  case assign =>
    intro lq k i y x W K hK
    gi_wp2
    exact hK
  case body =>
    rintro lq k i y x pp U hi hy hx hk ⟨hfl, hg⟩ hpp hpos
    have hkq : k < q := by rw [HQ.out, hk]; exact place3_lt hi hy hx
    obtain ⟨z, hz⟩ : ∃ z, z = covN l l' H V a b (i * (C * (a * b))) (((y * step : Nat) : Int) - (pad : Int)) (((x * step : Nat) : Int) - (pad : Int)) (C * (a * b)) := ⟨_, rfl⟩
    have HZD : Hid (zs.getD k 0 = z) := hide (by rw [hz, HZ.out, hk]; exact winL_at hi hy hx)
    have hys : y * step ≤ 512 := by have := Nat.mul_le_mul (show y ≤ 64 by omega) (show step ≤ 8 by have := HST.out; omega); omega
    have hxs : x * step ≤ 512 := by have := Nat.mul_le_mul (show x ≤ 64 by omega) (show step ≤ 8 by have := HST.out; omega); omega
    have hpd : pad ≤ 8 := by have := HST.out; omega
    obtain ⟨ys, hyv⟩ : ∃ z, z = y * step := ⟨_, rfl⟩
    obtain ⟨xs, hxv⟩ : ∃ z, z = x * step := ⟨_, rfl⟩
    rw [← hyv] at hz hys
    rw [← hxv] at hz hxs
    obtain ⟨yp, hyp⟩ : ∃ z, z = (ys : Int) - (pad : Int) := ⟨_, rfl⟩
    obtain ⟨xp, hxp⟩ : ∃ z, z = (xs : Int) - (pad : Int) := ⟨_, rfl⟩
    rw [← hyp, ← hxp] at hz
    have m1 : IntKind.i64.wrap ((y : Int) * (step : Int)) = (ys : Int) := by rw [hyv, Int.natCast_mul, IntKind.wrap_i64, ← Int.natCast_mul]; omega
    have m2 : IntKind.i64.wrap ((x : Int) * (step : Int)) = (xs : Int) := by rw [hxv, Int.natCast_mul, IntKind.wrap_i64, ← Int.natCast_mul]; omega
    have m3 : IntKind.i64.wrap ((ys : Int) - (pad : Int)) = yp := by rw [hyp, IntKind.wrap_i64]; omega
    have m4 : IntKind.i64.wrap ((xs : Int) - (pad : Int)) = xp := by rw [hxp, IntKind.wrap_i64]; omega
    have HCALL : Hid (∀ v, V1.grownBy v (some g2) → Calls Try.prog 59 #[tenV A' 4 c' B' m' d', .int .i64 (i : Int), .func (.func 60) #[coverV A 3 c B m d yp xp] #[]] v fun e w' => e = .returned (.int .i32 z) ∧ Below v.heap.size v w') := hide (fun v hv => by
      obtain ⟨e1, e2, e3, e4⟩ := HLB.out v hv
      rw [hz]
      have hpl : i * (C * (a * b)) + C * (a * b) ≤ m' := by rw [HM2.out, ← Nat.succ_mul]; exact Nat.mul_le_mul_right _ hi
      exact filtered_any A B A' B' c m d c' m' d' O i C H V a b l l' yp xp v e3 e4 e1 e2 hC hH.2 hV.2 ha hb (by omega) (by rw [HM1.out]; exact Nat.le_refl _) hpl hm4' hcap (by omega) (by omega))
    clear hz hyv hxv hyp hxp hys hxs hpd
    have HFL := hide hfl
    have HG := hide hg
    have HPP := hide hpp
    have HPB := hide hpos
    have p0 : U.cell? ⟨pp, 0, none⟩ = some (.int .i64 (i : Int)) := cell_of_row _ _ 0 _ _ (0, 0) hpos
    have p1 : U.cell? ⟨pp, 1, none⟩ = some (.int .i64 (y : Int)) := cell_of_row _ _ 1 _ _ (0, 0) hpos
    have p2 : U.cell? ⟨pp, 2, none⟩ = some (.int .i64 (x : Int)) := cell_of_row _ _ 2 _ _ (0, 0) hpos
    obtain ⟨r1, a0, a1, b0, b1, k0, k1⟩ := HF.out U hg
    clear hfl hg hpp hpos hk
    have hUs := HG.out.size
    have hppl := lt_of_heap HPB.out
    gi_wp2
    obtain ⟨U2, hU2⟩ : ∃ U2, U2 = U.alloc (.cells #[.slice A 3 c, .slice B m d, .int .i64 yp, .int .i64 xp] 95) := ⟨_, rfl⟩
    rw [← hU2]
    have HBU : Hid (Below U.heap.size U U2) := hide (by rw [hU2]; exact (Below.refl _ U).alloc (Nat.le_refl _) _)
    have HCV : Hid (U2.heap[U.heap.size]? = some (.cells #[.slice A 3 c, .slice B m d, .int .i64 yp, .int .i64 xp] 95 (0, 0))) := hide (by rw [hU2]; exact heap_alloc_new U _)
    have hs2 : U2.heap.size = U.heap.size + 1 := by rw [hU2]; simp
    have HV2 : Hid (∀ v, U2.grownBy v (some g2) → V1.grownBy v (some g2)) := hide (fun v hv => grown_trans (grown_trans HG.out (grown_below HBU.out _)) hv)
    have HF2 : Hid (∀ v, U2.grownBy v (some g2) → v.cell? ⟨w4.heap.size, 1, none⟩ = some (.slice (some ⟨g2, 0, none⟩) q q) ∧ v.cell? ⟨w.heap.size + 1, 0, none⟩ = some (.slice A' 4 c') ∧ v.cell? ⟨w.heap.size + 1, 1, none⟩ = some (.slice B' m' d') ∧ v.cell? ⟨pp, 0, none⟩ = some (.int .i64 (i : Int)) ∧ v.cell? ⟨U.heap.size, 0, none⟩ = some (.slice A 3 c) ∧ v.cell? ⟨U.heap.size, 1, none⟩ = some (.slice B m d) ∧ v.cell? ⟨U.heap.size, 2, none⟩ = some (.int .i64 yp) ∧ v.cell? ⟨U.heap.size, 3, none⟩ = some (.int .i64 xp)) := hide (fun v hv => by
      have hsv := HSV.out
      have hs1 := HSZ1.out
      have hpp := HPP.out
      obtain ⟨e1, e2, e3, e4, e5, e6, e7⟩ := HF.out v (HV2.out v hv)
      have hp : v.heap[pp]? = some (.cells (posC i y x) 93 (0, 0)) := (hv.block pp (by omega) (by simp; omega)).trans ((HBU.out.block pp hppl).trans HPB.out)
      have hcv : v.heap[U.heap.size]? = some (.cells #[.slice A 3 c, .slice B m d, .int .i64 yp, .int .i64 xp] 95 (0, 0)) := (hv.block _ (by omega) (by simp; omega)).trans HCV.out
      exact ⟨e1, e4, e5, cell_of_row _ _ 0 _ _ (0, 0) hp, cell_of_row _ _ 0 _ _ (0, 0) hcv, cell_of_row _ _ 1 _ _ (0, 0) hcv, cell_of_row _ _ 2 _ _ (0, 0) hcv, cell_of_row _ _ 3 _ _ (0, 0) hcv⟩)
    have HFD : Hid (FillAt U2.drew g2 q zs k) := hide (HFL.out.below (below_drewN HBU.out 1))
    have hg1 : U2.grownBy U2.drew (some g2) := grown_below (below_drewN (Below.refl _ U2) 1) _
    have hi1 : (0 : Int) ≤ (k : Int) := by omega
    have hi2 : (k : Int) < (q : Int) := by omega
    clear hU2 p0 p1 p2 r1 a0 a1 b0 b1 k0 k1
    have hS0 : Hid (U2.drew.cell? ⟨w4.heap.size, 1, none⟩ = some (.slice (some ⟨g2, 0, none⟩) q q) ∧ U2.drew.cell? ⟨w.heap.size + 1, 0, none⟩ = some (.slice A' 4 c') ∧ U2.drew.cell? ⟨w.heap.size + 1, 1, none⟩ = some (.slice B' m' d') ∧ U2.drew.cell? ⟨pp, 0, none⟩ = some (.int .i64 (i : Int)) ∧ U2.drew.cell? ⟨U.heap.size, 0, none⟩ = some (.slice A 3 c) ∧ U2.drew.cell? ⟨U.heap.size, 1, none⟩ = some (.slice B m d) ∧ U2.drew.cell? ⟨U.heap.size, 2, none⟩ = some (.int .i64 yp) ∧ U2.drew.cell? ⟨U.heap.size, 3, none⟩ = some (.int .i64 xp)) := hide (HF2.out _ hg1)
    refine wpIn_region_U (fun _ v => v.cell? ⟨w4.heap.size, 1, none⟩ = some (.slice (some ⟨g2, 0, none⟩) q q) ∧ v.cell? ⟨w.heap.size + 1, 0, none⟩ = some (.slice A' 4 c') ∧ v.cell? ⟨w.heap.size + 1, 1, none⟩ = some (.slice B' m' d') ∧ v.cell? ⟨pp, 0, none⟩ = some (.int .i64 (i : Int)) ∧ v.cell? ⟨U.heap.size, 0, none⟩ = some (.slice A 3 c) ∧ v.cell? ⟨U.heap.size, 1, none⟩ = some (.slice B m d) ∧ v.cell? ⟨U.heap.size, 2, none⟩ = some (.int .i64 yp) ∧ v.cell? ⟨U.heap.size, 3, none⟩ = some (.int .i64 xp)) 99 (by kernel_rfl) (by kernel_rfl) (fun h => by obtain ⟨_, _, h⟩ := h; exact h) ?_
    refine wpAnyU_take (i := 0) (oi := { dst := some 63, op := _, type := _, pos := _, after := _, guard := none }) (v := .pointer (some ⟨w4.heap.size, 1, none⟩)) rfl (by kernel_rfl) (by kernel_rfl) (by kernel_rfl) (by kernel_rfl) (fun _ _ _ h => h) (yields_take rfl (fun w' hw => by obtain ⟨h1, h2, h3, h4, h5, h6, h7, h8⟩ := hw.const; go_simp)) hS0.out ?_
    simp only [Act.put, List.setIfInBounds_toArray, List.set_cons_zero, List.set_cons_succ]
    refine wpAnyU_take (i := 1) (oi := { dst := some 64, op := _, type := _, pos := _, after := _, guard := none }) (v := .slice (some ⟨g2, 0, none⟩) q q) rfl (by kernel_rfl) (by kernel_rfl) (by kernel_rfl) (by kernel_rfl) (fun _ _ _ h => h) (yields_take rfl (fun w' hw => by obtain ⟨h1, h2, h3, h4, h5, h6, h7, h8⟩ := hw.const; go_simp)) hS0.out ?_
    simp only [Act.put, List.setIfInBounds_toArray, List.set_cons_zero, List.set_cons_succ]
    refine wpAnyU_take (i := 2) (oi := { dst := some 65, op := _, type := _, pos := _, after := _, guard := none }) (v := .int .i64 (k : Int)) rfl (by kernel_rfl) (by kernel_rfl) (by kernel_rfl) (by kernel_rfl) (fun _ _ _ h => h) (yields_take rfl (fun w' hw => by obtain ⟨h1, h2, h3, h4, h5, h6, h7, h8⟩ := hw.const; go_simp)) hS0.out ?_
    simp only [Act.put, List.setIfInBounds_toArray, List.set_cons_zero, List.set_cons_succ]
    refine wpAnyU_take (i := 3) (oi := { dst := some 66, op := _, type := _, pos := _, after := _, guard := none }) (v := tenV A' 4 c' B' m' d') rfl (by kernel_rfl) (by kernel_rfl) (by kernel_rfl) (by kernel_rfl) (fun _ _ _ h => h) (yields_take rfl (fun w' hw => by obtain ⟨h1, h2, h3, h4, h5, h6, h7, h8⟩ := hw.const; go_simp)) hS0.out ?_
    simp only [Act.put, List.setIfInBounds_toArray, List.set_cons_zero, List.set_cons_succ]
    refine wpAnyU_take (i := 4) (oi := { dst := some 67, op := _, type := _, pos := _, after := _, guard := none }) (v := .pointer (some ⟨pp, 0, none⟩)) rfl (by kernel_rfl) (by kernel_rfl) (by kernel_rfl) (by kernel_rfl) (fun _ _ _ h => h) (yields_take rfl (fun w' hw => by obtain ⟨h1, h2, h3, h4, h5, h6, h7, h8⟩ := hw.const; go_simp)) hS0.out ?_
    simp only [Act.put, List.setIfInBounds_toArray, List.set_cons_zero, List.set_cons_succ]
    refine wpAnyU_take (i := 5) (oi := { dst := some 68, op := _, type := _, pos := _, after := _, guard := none }) (v := .int .i64 (i : Int)) rfl (by kernel_rfl) (by kernel_rfl) (by kernel_rfl) (by kernel_rfl) (fun _ _ _ h => h) (yields_take rfl (fun w' hw => by obtain ⟨h1, h2, h3, h4, h5, h6, h7, h8⟩ := hw.const; go_simp)) hS0.out ?_
    simp only [Act.put, List.setIfInBounds_toArray, List.set_cons_zero, List.set_cons_succ]
    refine wpAnyU_take (i := 6) (oi := { dst := some 69, op := _, type := _, pos := _, after := _, guard := none }) (v := coverV A 3 c B m d yp xp) rfl (by kernel_rfl) (by kernel_rfl) (by kernel_rfl) (by kernel_rfl) (fun _ _ _ h => h) (yields_take rfl (fun w' hw => by obtain ⟨h1, h2, h3, h4, h5, h6, h7, h8⟩ := hw.const; go_simp)) hS0.out ?_
    simp only [Act.put, List.setIfInBounds_toArray, List.set_cons_zero, List.set_cons_succ]
    refine wpAnyU_take (i := 7) (oi := { dst := some 70, op := _, type := _, pos := _, after := _, guard := none }) (v := .func (.func 60) #[coverV A 3 c B m d yp xp] #[]) rfl (by kernel_rfl) (by kernel_rfl) (by kernel_rfl) (by kernel_rfl) (fun _ _ _ h => h) (yields_take rfl (fun w' hw => by obtain ⟨h1, h2, h3, h4, h5, h6, h7, h8⟩ := hw.const; go_simp)) hS0.out ?_
    simp only [Act.put, List.setIfInBounds_toArray, List.set_cons_zero, List.set_cons_succ]
    refine wpAnyU_one (i := 8) (by kernel_rfl) rfl ?_
    intro K hK
    go_simp
    refine Calls.mono (HCALL.out _ (HV2.out _ hg1)) ?_
    rintro e w6 ⟨rfl, hb60⟩
    dsimp only
    have hb6 : Below U2.drew.heap.size U2.drew w6 := hb60
    have hg2 : U2.grownBy w6 (some g2) := grown_trans hg1 (grown_below hb60 _)
    have hs : w6.cell? ⟨g2, k, none⟩ = some (.int .i32 0) := by have h := (HFD.out.below hb60).cell hkq; rwa [if_neg (by omega)] at h
    have hf : w6.frozen? ⟨g2, k, none⟩ = false := (HFD.out.below hb60).frozen k
    clear hb60
    have hS1 : Hid (w6.cell? ⟨w4.heap.size, 1, none⟩ = some (.slice (some ⟨g2, 0, none⟩) q q) ∧ w6.cell? ⟨w.heap.size + 1, 0, none⟩ = some (.slice A' 4 c') ∧ w6.cell? ⟨w.heap.size + 1, 1, none⟩ = some (.slice B' m' d') ∧ w6.cell? ⟨pp, 0, none⟩ = some (.int .i64 (i : Int)) ∧ w6.cell? ⟨U.heap.size, 0, none⟩ = some (.slice A 3 c) ∧ w6.cell? ⟨U.heap.size, 1, none⟩ = some (.slice B m d) ∧ w6.cell? ⟨U.heap.size, 2, none⟩ = some (.int .i64 yp) ∧ w6.cell? ⟨U.heap.size, 3, none⟩ = some (.int .i64 xp)) := hide (HF2.out _ hg2)
    refine hK.out _ _ hS1.out (fun _ => ?_)
    clear hK K hS0
    refine wpAnyU_take (i := 9) (oi := { dst := some 72, op := _, type := _, pos := _, after := _, guard := none }) (v := .pointer (some ⟨g2, k, none⟩)) rfl (by kernel_rfl) (by kernel_rfl) (by kernel_rfl) (by kernel_rfl) (fun _ _ _ h => h) (yields_take rfl (fun w' hw => by obtain ⟨h1, h2, h3, h4, h5, h6, h7, h8⟩ := hw.const; go_simp)) hS1.out ?_
    simp only [Act.put, List.setIfInBounds_toArray, List.set_cons_zero, List.set_cons_succ]
    refine wpAnyU_one (i := 10) (by kernel_rfl) rfl ?_
    intro K hK
    go_simp
    have hg3 : U2.grownBy (w6.setCell ⟨g2, k, none⟩ (.int .i32 z)) (some g2) := grown_trans hg2 (grown_cell6 _ _ _)
    have hS2 : Hid ((w6.setCell ⟨g2, k, none⟩ (.int .i32 z)).cell? ⟨w4.heap.size, 1, none⟩ = some (.slice (some ⟨g2, 0, none⟩) q q) ∧ (w6.setCell ⟨g2, k, none⟩ (.int .i32 z)).cell? ⟨w.heap.size + 1, 0, none⟩ = some (.slice A' 4 c') ∧ (w6.setCell ⟨g2, k, none⟩ (.int .i32 z)).cell? ⟨w.heap.size + 1, 1, none⟩ = some (.slice B' m' d') ∧ (w6.setCell ⟨g2, k, none⟩ (.int .i32 z)).cell? ⟨pp, 0, none⟩ = some (.int .i64 (i : Int)) ∧ (w6.setCell ⟨g2, k, none⟩ (.int .i32 z)).cell? ⟨U.heap.size, 0, none⟩ = some (.slice A 3 c) ∧ (w6.setCell ⟨g2, k, none⟩ (.int .i32 z)).cell? ⟨U.heap.size, 1, none⟩ = some (.slice B m d) ∧ (w6.setCell ⟨g2, k, none⟩ (.int .i32 z)).cell? ⟨U.heap.size, 2, none⟩ = some (.int .i64 yp) ∧ (w6.setCell ⟨g2, k, none⟩ (.int .i32 z)).cell? ⟨U.heap.size, 3, none⟩ = some (.int .i64 xp)) := hide (HF2.out _ hg3)
    refine hK.out _ _ hS2.out (fun _ => ?_)
    clear hK K hS1
    refine wpAnyU_done (by kernel_rfl) ?_ _
    clear hS2
    have h9 := (HFD.out.below hb6).set
    rw [HZD.out] at h9
    exact ⟨((keeps_below HBU.out).trans (keeps_below (show Below U2.heap.size U2 w6 from (below_drewN (Below.refl _ U2) 1).trans hb6))).trans ((KeepsOthers.setCell _ _ _).from _), h9, HV2.out _ hg3⟩
  case done =>
    rintro D W hD ⟨hfl, hg⟩ hK
    obtain ⟨b8, b9⟩ := HRES.out W hg
    have HFE : Hid (FillAt W g2 q zs q) := hide (by rw [← HQ.out] at hfl; exact hfl)
    have t0 := b9.c0
    have t1 := b9.c1
    have r0 := b8.c0
    have r1 := b8.c1
    have rf0 := b8.f0 0
    have rf1 := b8.f0 1
    have HB8 := hide b8
    have HG := hide hg
    have HK := hide hK
    have hltD := lt_of_heap hK
    clear b8 b9 hfl hg hK
    go_wp2
    have hs0 := HS0.out
    have hs1 := HSZ1.out
    have hsv := HSV.out
    have hs3 := HS3.out
    have hB1 := HBW1.out
    have hB1s := hB1.size
    have hne8 : D ≠ w.heap.size + 4 := by omega
    have hK2 : ((W.setCell ⟨w.heap.size + 4, 0, none⟩ (.slice (some ⟨g1, 0, none⟩) 3 c1)).setCell ⟨w.heap.size + 4, 1, none⟩ (.slice (some ⟨g2, 0, none⟩) q q)).heap[D]? = some (.deferred (some [])) := (Below.heap_setCell _ _ _ D hne8).trans ((Below.heap_setCell _ _ _ D hne8).trans HK.out)
    refine markRet rfl hK2 (results_ten (p := 8) (u := 9) rfl _ _ (w.heap.size + 4) _ rfl ((World.putObj_heap_other (by omega)).trans (HB8.out.set2 _ _)) rfl) ?_
    have hW1W : W1.grownBy W (some g2) := grown_trans (grown_below HBV.out _) HG.out
    refine ⟨g1, c1, g2, rfl, ?_, ?_, hne, ?_⟩
    · have ho9 : ((W.setCell ⟨w.heap.size + 4, 0, none⟩ (.slice (some ⟨g1, 0, none⟩) 3 c1)).setCell ⟨w.heap.size + 4, 1, none⟩ (.slice (some ⟨g2, 0, none⟩) q q)).ownsRow w.heap.size 3 1 (.slice (some ⟨g1, 0, none⟩) 3 c1) 3 (([(O : Int), (Y : Int), (X : Int)] : List Int).map (Value.int .i64)) := by
        refine own_base (own_setCell' (own_setCell' (HO1.out.kept (row := some g2) hW1W (.inr (by simp [Value.ownBlock]; omega))) (by dsimp only; omega) _) (by dsimp only; omega) _) (by omega)
      exact own_put (B := 0) ho9 (grownBy_putObj' _ D (.deferred none)) (fun r e => by cases e; exact ⟨Nat.zero_le _, _, hK2, rfl⟩)
    · exact own_put (B := 0) (own_setCell' (own_setCell' (HFE.out.own HZL.out (by omega) (by unfold maxLen; omega)) (by dsimp only; omega) _) (by dsimp only; omega) _) (grownBy_putObj' _ D (.deferred none)) (fun r e => by cases e; exact ⟨Nat.zero_le _, _, hK2, rfl⟩)
    · have hbf : Below w.heap.size w ((W.setCell ⟨w.heap.size + 4, 0, none⟩ (.slice (some ⟨g1, 0, none⟩) 3 c1)).setCell ⟨w.heap.size + 4, 1, none⟩ (.slice (some ⟨g2, 0, none⟩) q q)) := (((HB0.out.trans (hB1.mono HB0.out.size)).trans (below_grown HG.out (by omega) (by omega))).setCell (by dsimp only; omega) _).setCell (by dsimp only; omega) _
      exact below_put hbf (by omega) (by simpa using hltD) _

end

section
open Go.RowKit Go.Shelf
set_option linter.unusedVariables false
set_option linter.unusedSimpArgs false
set_option maxRecDepth 100000
attribute [local go_sem] Oper.semAt_some

theorem size_three {M K N : Nat} (hM : 1 ≤ M ∧ M ≤ 64) (hK : 1 ≤ K ∧ K ≤ 64) (hN : 1 ≤ N ∧ N ≤ 64) (h : M * K * N ≤ 4096) : sizeI [(M : Int), (K : Int), (N : Int)] = ((M * K * N : Nat) : Int) := by
  have e1 : dz (M : Int) = M := by unfold dz; rw [if_neg (by omega)]
  have e2 : dz (K : Int) = K := by unfold dz; rw [if_neg (by omega)]
  have e3 : dz (N : Int) = N := by unfold dz; rw [if_neg (by omega)]
  rw [Nat.mul_assoc] at h ⊢
  rw [sizeI, if_neg (by simp), prodZ, prodZ, prodZ, prodZ, e1, e2, e3, Int.mul_one, ← Int.natCast_mul, ← Int.natCast_mul, if_neg (by omega)]

theorem pp8S_nat {C H V wide Y X : Nat} (hE : pp8E [(C : Int), (H : Int), (V : Int)] (wide : Int) = 0) (hL : pp8S [(C : Int), (H : Int), (V : Int)] (wide : Int) = [(C : Int), (Y : Int), (X : Int)]) : Y = H / wide ∧ X = V / wide := by
  rw [pp8S, if_pos hE] at hL
  simp only [List.getD_cons_zero, List.getD_cons_succ, List.cons.injEq, and_true, true_and] at hL
  rw [← Int.natCast_ediv, ← Int.natCast_ediv] at hL
  omega

theorem pool_size {C H V m wide Y X : Nat} (hok : tenOk [(C : Int), (H : Int), (V : Int)] m = true) (hE : pp8E [(C : Int), (H : Int), (V : Int)] (wide : Int) = 0) (hL : pp8S [(C : Int), (H : Int), (V : Int)] (wide : Int) = [(C : Int), (Y : Int), (X : Int)]) : 0 < sizeI [(C : Int), (Y : Int), (X : Int)] := by
  obtain ⟨hC, hH, hV, hm, hm4⟩ := ten_three hok
  obtain ⟨⟨_, w1, w2⟩, _, f1, f2⟩ := pp8E_iff.1 hE
  simp only [List.getD_cons_zero, List.getD_cons_succ] at f1 f2
  obtain ⟨e1, e2⟩ := pp8S_nat hE hL
  have y1 : 1 ≤ Y := by rw [e1]; exact (Nat.one_le_div_iff (by omega)).2 (by omega)
  have x1 : 1 ≤ X := by rw [e2]; exact (Nat.one_le_div_iff (by omega)).2 (by omega)
  have y2 : Y ≤ H := by rw [e1]; exact Nat.div_le_self _ _
  have x2 : X ≤ V := by rw [e2]; exact Nat.div_le_self _ _
  have h := Nat.mul_le_mul (Nat.mul_le_mul (Nat.le_refl C) y2) x2
  rw [size_three hC (by omega) (by omega) (by omega)]
  have h1 : 1 ≤ C * Y * X := Nat.mul_pos (Nat.mul_pos (by omega) y1) x1
  omega

set_option maxHeartbeats 4000000 in
theorem pool_ok (A B : Option Addr) (c m d C H V Y X wide : Nat) (l : List Int) (w : World) (hA : Lies w A 3 (([(C : Int), (H : Int), (V : Int)] : List Int).map (Value.int .i64))) (hB : Lies w B m (l.map (Value.int .i32)))
    (hok : tenOk [(C : Int), (H : Int), (V : Int)] m = true) (hE : pp8E [(C : Int), (H : Int), (V : Int)] (wide : Int) = 0) (hL : pp8S [(C : Int), (H : Int), (V : Int)] (wide : Int) = [(C : Int), (Y : Int), (X : Int)]) :
    Calls Try.prog 32 #[tenV A 3 c B m d, .int .i64 (wide : Int)] w fun e w' => ∃ g1 c1 g2, e = .returned (.tuple #[tenV (some ⟨g1, 0, none⟩) 3 c1 (some ⟨g2, 0, none⟩) (C * Y * X) (C * Y * X), .int .i64 0]) ∧
      w'.ownsRow w.heap.size 3 1 (.slice (some ⟨g1, 0, none⟩) 3 c1) 3 (([(C : Int), (Y : Int), (X : Int)] : List Int).map (Value.int .i64)) ∧ w'.ownsRow w.heap.size 21 1 (.slice (some ⟨g2, 0, none⟩) (C * Y * X) (C * Y * X)) (C * Y * X) ((poolL l C H V wide Y X).map (Value.int .i32)) ∧ g1 ≠ g2 ∧ Below w.heap.size w w' := by
  obtain ⟨hC, hH, hV, hm, hm4⟩ := ten_three hok
  have hst := (pp8E_iff.1 hE).1.2
  have hfit := (pp8E_iff.1 hE).2.2
  have hS := hL
  have hsz0 : 0 < sizeI [(C : Int), (Y : Int), (X : Int)] := pool_size hok hE hL
  obtain ⟨_, hY, hX, hq1, hq2, hq3⟩ := three_size hsz0
  obtain ⟨q, hq⟩ : ∃ q, q = C * Y * X := ⟨_, rfl⟩
  rw [← hq] at hq1 hq2 hq3 ⊢
  obtain ⟨zs, hzs⟩ : ∃ zs, zs = poolL l C H V wide Y X := ⟨_, rfl⟩
  rw [← hzs]
  have HZ := hide hzs
  have HZL : Hid (zs.length = q) := hide (by rw [hzs, poolL_len, hq])
  have HQ := hide hq
  have HE := hide hE
  have HS := hide hS
  have HSZ := hide hq1
  have HM1 := hide hm

  have HST := hide hst
  clear hzs hq hE hS hL hq1 hm hsz0 
  obtain ⟨W0, hW0⟩ : ∃ W0, W0 = (((w.alloc (.cells #[.slice A 3 c, .slice B m d] 25)).alloc (.cells #[.int .i64 (wide : Int)] 3)).alloc (.cells #[.slice none 0 0, .slice none 0 0] 25)) := ⟨_, rfl⟩
  have HB0 : Hid (Below w.heap.size w W0) := hide (by rw [hW0]; exact (((Below.refl w.heap.size w).alloc (Nat.le_refl _) _).alloc (by simp only [World.size_alloc]; omega) _).alloc (by simp only [World.size_alloc]; omega) _)
  have hs0 : W0.heap.size = w.heap.size + 3 := by rw [hW0]; simp
  have HX0 : Hid (W0.heap[w.heap.size]? = some (.cells #[.slice A 3 c, .slice B m d] 25 (0, 0))) := hide (by rw [hW0]; have h := heap_alloc_new w (.cells #[.slice A 3 c, .slice B m d] 25); (try simp only [World.size_alloc] at h); exact (heap_alloc_old (heap_alloc_old h)))
  have HX1 : Hid (W0.heap[w.heap.size + 1]? = some (.cells #[.int .i64 (wide : Int)] 3 (0, 0))) := hide (by rw [hW0]; have h := heap_alloc_new (w.alloc (.cells #[.slice A 3 c, .slice B m d] 25)) (.cells #[.int .i64 (wide : Int)] 3); (try simp only [World.size_alloc] at h); exact (heap_alloc_old h))
  have HX2 : Hid (W0.heap[w.heap.size + 2]? = some (.cells #[.slice none 0 0, .slice none 0 0] 25 (0, 0))) := hide (by rw [hW0]; have h := heap_alloc_new ((w.alloc (.cells #[.slice A 3 c, .slice B m d] 25)).alloc (.cells #[.int .i64 (wide : Int)] 3)) (.cells #[.slice none 0 0, .slice none 0 0] 25); (try simp only [World.size_alloc] at h); exact h)
  have hW0' := hW0.symm
  clear hW0
  have HS0 := hide hs0
  have HA := hide (hA.below HB0.out)
  have HB := hide (hB.below HB0.out)
  have HC : Hid (∀ v, Below W0.heap.size W0 v → v.cell? ⟨w.heap.size, 0, none⟩ = some (.slice A 3 c) ∧ v.cell? ⟨w.heap.size, 1, none⟩ = some (.slice B m d) ∧ v.cell? ⟨w.heap.size + 1, 0, none⟩ = some (.int .i64 (wide : Int)) ∧ v.cell? ⟨w.heap.size + 2, 0, none⟩ = some (.slice none 0 0) ∧ v.cell? ⟨w.heap.size + 2, 1, none⟩ = some (.slice none 0 0) ∧ v.frozen? ⟨w.heap.size + 2, 0, none⟩ = false ∧ v.frozen? ⟨w.heap.size + 2, 1, none⟩ = false) := hide (fun v hv => ⟨cell_of_row _ _ 0 _ _ (0, 0) ((hv.block _ (lt_of_heap HX0.out)).trans HX0.out), cell_of_row _ _ 1 _ _ (0, 0) ((hv.block _ (lt_of_heap HX0.out)).trans HX0.out), cell_of_row _ _ 0 _ _ (0, 0) ((hv.block _ (lt_of_heap HX1.out)).trans HX1.out), cell_of_row _ _ 0 _ _ (0, 0) ((hv.block _ (lt_of_heap HX2.out)).trans HX2.out), cell_of_row _ _ 1 _ _ (0, 0) ((hv.block _ (lt_of_heap HX2.out)).trans HX2.out), frozen_of_row v _ 0 _ _ ((hv.block _ (lt_of_heap HX2.out)).trans HX2.out), frozen_of_row v _ 1 _ _ ((hv.block _ (lt_of_heap HX2.out)).trans HX2.out)⟩)
  have HLW := hide (And.intro hA hB)
  clear hA hB  hs0
  have HOK1 := hide hok

  clear hok 
  refine (callsIn_wide (n := 5)).1 ?_
  refine callsIn_of_wp_marks Try.func32 rfl trivial ?_ rfl
  simp only [Try.ntmps32, List.size_toArray, List.length_cons, List.length_nil, Nat.reduceAdd, Nat.reduceSub, Array.replicate_succ, Array.replicate_zero, List.push_toArray, List.append_toArray, List.nil_append, List.cons_append]
  refine wpIn_wide.2 ?_
  obtain ⟨a0, a1, k0, r0, r1, rf0, rf1⟩ := HC.out _ (Below.refl _ W0)
  go_wp2_with fail
  refine Calls.mono (tcheck_any A B 3 c m d [(C : Int), (H : Int), (V : Int)] _ HA.out (by omega)) ?_
  rw [HOK1.out]
  rintro e w1 ⟨rfl, hb1⟩
  clear a0 a1 k0 r0 r1 rf0 rf1
  obtain ⟨a0, a1, k0, r0, r1, rf0, rf1⟩ := HC.out _ hb1
  have hb2 := hb1
  go_wp2_with fail
  refine Calls.mono (poolshape_any A 3 c [(C : Int), (H : Int), (V : Int)] (wide : Int) _ (HA.out.below hb2) (by omega)) ?_
  rw [HE.out, HS.out]
  rintro e w3 ⟨R, k, kc, rfl, ho, hk2, hb30⟩
  have hb3 : Below W0.heap.size W0 w3 := hb2.trans (hb30.mono hb2.size)
  obtain rfl : k = 3 := by have := ho.1; simpa using this.symm
  obtain ⟨gs, rfl⟩ := own_some ho (by omega)
  have HLS := hide (lies_of_own ho)
  clear a0 a1 k0 r0 r1 rf0 rf1 hb30 hb2 ho hk2
  obtain ⟨a0, a1, k0, r0, r1, rf0, rf1⟩ := HC.out _ hb3
  go_wp2_with fail
  refine Calls.mono (new_ok (some ⟨gs, 0, none⟩) 3 kc q [(C : Int), (Y : Int), (X : Int)] w3 HLS.out HSZ.out (by omega)) ?_
  rintro e w4 ⟨g1, c1, g2, rfl, ho1, ho2, hne, hb40⟩
  have lt1 := ho1.lt g1 rfl
  have lt2 := ho2.lt g2 rfl
  have hb4 : Below W0.heap.size W0 w4 := hb3.trans (hb40.mono hb3.size)
  obtain ⟨W1, hW1⟩ : ∃ W1, W1 = w4.alloc (.cells #[.slice (some ⟨g1, 0, none⟩) 3 c1, .slice (some ⟨g2, 0, none⟩) q q] 25) := ⟨_, rfl⟩
  have HB1 : Hid (Below W0.heap.size W0 W1) := hide (by rw [hW1]; exact hb4.alloc hb4.size _)
  have HT1 : Hid (BoxT W1 w4.heap.size (.slice (some ⟨g1, 0, none⟩) 3 c1) (.slice (some ⟨g2, 0, none⟩) q q)) := hide (by rw [hW1]; exact BoxT.new w4 _ _)
  have HO1 : Hid (W1.ownsRow w3.heap.size 3 1 (.slice (some ⟨g1, 0, none⟩) 3 c1) 3 (([(C : Int), (Y : Int), (X : Int)] : List Int).map (Value.int .i64))) := hide (by rw [hW1]; exact ho1.alloc _)
  have HF1 : Hid (FillAt W1 g2 q zs 0) := hide (by rw [hW1]; exact FillAt.of_own (ho2.alloc _) zs)
  have hs1 : W1.heap.size = w4.heap.size + 1 := by rw [hW1]; simp
  have HLS1 : Hid (Lies W1 (some ⟨gs, 0, none⟩) 3 (([(C : Int), (Y : Int), (X : Int)] : List Int).map (Value.int .i64))) := hide (by rw [hW1]; exact (HLS.out.below hb40).alloc _)
  have hgs : gs ≠ g2 := by
    obtain ⟨b0, o0, e0, hb0, _⟩ := byte_at HLS.out (by omega)
    cases e0
    omega
  have hW1' := hW1.symm
  have hs3 := hb3.size
  clear hW1 ho1 ho2 hb40 hb4 hb3 a0 a1 k0 r0 r1 rf0 rf1
  have HSZ1 := hide hs1
  have HS3 := hide hs3
  clear hs3 hs1
  go_wp2_with fail
  refine Calls.mono (positions_any (some ⟨gs, 0, none⟩) 3 kc W1) ?_
  rintro e V1 ⟨rfl, hV1⟩
  have hbv : Below W1.heap.size W1 V1 := by rw [hV1]; exact (Below.refl _ W1).alloc (Nat.le_refl _) _
  have HBV := hide hbv
  have hsv : V1.heap.size = W1.heap.size + 1 := by rw [hV1]; simp
  have HPV : Hid (Box1 V1 W1.heap.size 22 (.slice (some ⟨gs, 0, none⟩) 3 kc)) := hide (by rw [hV1]; exact Box1.new W1 _ _)
  have HFV : Hid (FillAt V1 g2 q zs 0) := hide (HF1.out.below hbv)
  have HSV := hide hsv
  clear hbv hV1 hsv
  have hlo : W0.heap.size ≤ g2 := by have := HS3.out; omega
  have HBW1 : Hid (Below W0.heap.size W0 V1) := hide (HB1.out.trans (HBV.out.mono HB1.out.size))
  have HPOS : Hid (∀ v, V1.grownBy v (some g2) → PosAt v W1.heap.size gs 0 kc (C : Int) (Y : Int) (X : Int)) := hide (fun v hv => by
    have hsv := HSV.out
    have hs1 := HSZ1.out
    have e1 : v.heap[W1.heap.size]? = V1.heap[W1.heap.size]? := hv.block _ (by omega) (by simp; omega)
    obtain ⟨b0, o0, e0, hb0, hx0⟩ := byte_at HLS1.out (by omega)
    cases e0
    have e2 : v.heap[gs]? = W1.heap[gs]? := (hv.block gs (by omega) (by simp; exact hgs)).trans (HBV.out.block gs hb0)
    have hb1 : Box1 v W1.heap.size 22 (.slice (some ⟨gs, 0, none⟩) 3 kc) := e1.trans HPV.out
    exact ⟨hb1.cell, (World.cell?_of_block e2).trans (hx0 0 (by omega)), (World.cell?_of_block e2).trans (hx0 1 (by omega)), (World.cell?_of_block e2).trans (hx0 2 (by omega))⟩)
  go_wp2_with fail
  refine (wpIn_wide (n := 5)).1 ?_
  have HCHV : Hid (1 ≤ C * H * V) := hide (Nat.mul_pos (Nat.mul_pos (by omega) (by omega)) (by omega))
  have hsv := HSV.out
  have hs1 := HSZ1.out
  have hwf : ∀ v, V1.grownBy v (some g2) → ∀ k, k < W0.heap.size → v.heap[k]? = W0.heap[k]? := fun v hv k hk => (hv.block k (by have := HBW1.out.size; omega) (by simp; omega)).trans (HBW1.out.block k hk)
  have HF : Hid (∀ v, V1.grownBy v (some g2) → v.cell? ⟨w4.heap.size, 1, none⟩ = some (.slice (some ⟨g2, 0, none⟩) q q) ∧ v.cell? ⟨w.heap.size, 0, none⟩ = some (.slice A 3 c) ∧ v.cell? ⟨w.heap.size, 1, none⟩ = some (.slice B m d) ∧ v.cell? ⟨w.heap.size + 1, 0, none⟩ = some (.int .i64 (wide : Int))) := hide (fun v hv => by
    have h8 : BoxT v w4.heap.size (.slice (some ⟨g1, 0, none⟩) 3 c1) (.slice (some ⟨g2, 0, none⟩) q q) := (hv.block _ (by omega) (by simp; omega)).trans ((HBV.out.block _ (by omega)).trans HT1.out)
    have hs := HS0.out
    exact ⟨h8.c1, cell_of_row _ _ 0 _ _ (0, 0) ((hwf v hv _ (by omega)).trans HX0.out), cell_of_row _ _ 1 _ _ (0, 0) ((hwf v hv _ (by omega)).trans HX0.out), cell_of_row _ _ 0 _ _ (0, 0) ((hwf v hv _ (by omega)).trans HX1.out)⟩)
  have HLB : Hid (∀ v, V1.grownBy v (some g2) → Lies v A 3 (([(C : Int), (H : Int), (V : Int)] : List Int).map (Value.int .i64)) ∧ Lies v B m (l.map (Value.int .i32))) := hide (fun v hv => by
    have hbw : Below w.heap.size w V1 := HB0.out.trans (HBW1.out.mono HB0.out.size)
    have hlo : w.heap.size ≤ g2 := by have := HB0.out.size; omega
    exact ⟨grown_lies hv (HLW.out.1.below hbw) (lies_block HLW.out.1 (by omega) hlo), grown_lies hv (HLW.out.2.below hbw) (lies_block HLW.out.2 (by have := HM1.out; have := HCHV.out; omega) hlo)⟩)
  have HRES : Hid (∀ v, V1.grownBy v (some g2) → BoxT v (w.heap.size + 2) (.slice none 0 0) (.slice none 0 0) ∧ BoxT v w4.heap.size (.slice (some ⟨g1, 0, none⟩) 3 c1) (.slice (some ⟨g2, 0, none⟩) q q)) := hide (fun v hv =>
    ⟨(hwf v hv _ (by have := HS0.out; omega)).trans HX2.out, (hv.block _ (by omega) (by simp; omega)).trans ((HBV.out.block _ (by omega)).trans HT1.out)⟩)
  clear hwf hsv hs1
  refine range_pos 5 W1.heap.size gs 0 kc C Y X (by omega) (by omega) (by omega) (by omega) rfl rfl (fun k W => FillAt W g2 q zs k ∧ V1.grownBy W (some g2)) (OwnFrom.and ownFrom_fill (ownFrom_grown (Nat.le_refl _))) ⟨HFV.out, World.grownBy.refl V1 (some g2)⟩ (fun k W hI => HPOS.out W hI.2)
    (fun k i y x pp => { tmps := #[tenV A 3 c B m d, .int .i64 (wide : Int), .pointer (some ⟨w.heap.size, 0, none⟩), .pointer (some ⟨w.heap.size + 1, 0, none⟩), .pointer (some ⟨w.heap.size + 2, 0, none⟩), .int .i64 0, .slice (some ⟨gs, 0, none⟩) 3 kc, .int .i64 0, .pointer (some ⟨w4.heap.size, 0, none⟩), .int .i64 0, .int .i64 (k : Int), .pointer (some ⟨pp, 0, none⟩), undef, tenV A 3 c B m d, .bool true, .bool false, undef, .tuple #[.slice (some ⟨gs, 0, none⟩) 3 kc, .int .i64 0], .pointer (some ⟨w.heap.size, 0, none⟩), .slice A 3 c, .int .i64 (wide : Int), .tuple #[.slice (some ⟨gs, 0, none⟩) 3 kc, .int .i64 0], .slice (some ⟨gs, 0, none⟩) 3 kc, .int .i64 0, .int .i64 0, .bool false, undef, undef, .tuple #[tenV (some ⟨g1, 0, none⟩) 3 c1 (some ⟨g2, 0, none⟩) q q, .int .i64 0], .slice (some ⟨gs, 0, none⟩) 3 kc, .tuple #[tenV (some ⟨g1, 0, none⟩) 3 c1 (some ⟨g2, 0, none⟩) q q, .int .i64 0], tenV (some ⟨g1, 0, none⟩) 3 c1 (some ⟨g2, 0, none⟩) q q, .int .i64 0, .slice (some ⟨gs, 0, none⟩) 3 kc, .func (.func 77) #[] #[.pointer (some ⟨W1.heap.size, 0, none⟩)], .int .i64 (k : Int), .agg #[.int .i64 (i : Int), .int .i64 (y : Int), .int .i64 (x : Int)], undef, undef, undef, undef, undef, undef, undef, undef, undef, undef, undef, undef, undef, undef, undef, undef, undef, undef, undef, undef, undef], defers := [] }) ?assign ?body ?done
  case assign =>
    intro lq k i y x W K hK
    gi_wp2
    exact hK
  case body =>
    rintro lq k i y x pp U hi hy hx hk ⟨hfl, hg⟩ hpp hpos
    have hkq : k < q := by rw [HQ.out, hk]; exact place3_lt hi hy hx
    obtain ⟨z, hz⟩ : ∃ z, z = greatN l H V i (y * wide) (x * wide) wide (wide * wide) := ⟨_, rfl⟩
    have HZD : Hid (zs.getD k 0 = z) := hide (by rw [hz, HZ.out, hk]; exact poolL_at hi hy hx)
    have hys : y * wide ≤ 4096 := by have := Nat.mul_le_mul (show y ≤ 64 by omega) (show wide ≤ 64 by have := HST.out; omega); omega
    have hxs : x * wide ≤ 4096 := by have := Nat.mul_le_mul (show x ≤ 64 by omega) (show wide ≤ 64 by have := HST.out; omega); omega
    have hwd : wide ≤ 64 := by have := HST.out; omega
    obtain ⟨ys, hyv⟩ : ∃ z, z = y * wide := ⟨_, rfl⟩
    obtain ⟨xs, hxv⟩ : ∃ z, z = x * wide := ⟨_, rfl⟩
    rw [← hyv] at hz hys
    rw [← hxv] at hz hxs
    have m1 : IntKind.i64.wrap ((y : Int) * (wide : Int)) = (ys : Int) := by rw [hyv, Int.natCast_mul, IntKind.wrap_i64, ← Int.natCast_mul]; omega
    have m2 : IntKind.i64.wrap ((x : Int) * (wide : Int)) = (xs : Int) := by rw [hxv, Int.natCast_mul, IntKind.wrap_i64, ← Int.natCast_mul]; omega
    have HCALL : Hid (∀ v, V1.grownBy v (some g2) → Calls Try.prog 62 #[.int .i64 (i : Int), .int .i64 (wide : Int), .func (.func 60) #[coverV A 3 c B m d (ys : Int) (xs : Int)] #[]] v fun e w' => e = .returned (.int .i32 z) ∧ Below v.heap.size v w') := hide (fun v hv => by
      obtain ⟨e3, e4⟩ := HLB.out v hv
      rw [hz]
      exact greatest_any A B c m d i wide C H V ys xs l v e3 e4 hC.2 hH.2 hV.2 (by rw [HM1.out]; exact Nat.le_refl _) hi hwd (by omega) (by omega))
    clear hz hyv hxv hys hxs hwd
    have HFL := hide hfl
    have HG := hide hg
    have HPP := hide hpp
    have HPB := hide hpos
    have p0 : U.cell? ⟨pp, 0, none⟩ = some (.int .i64 (i : Int)) := cell_of_row _ _ 0 _ _ (0, 0) hpos
    have p1 : U.cell? ⟨pp, 1, none⟩ = some (.int .i64 (y : Int)) := cell_of_row _ _ 1 _ _ (0, 0) hpos
    have p2 : U.cell? ⟨pp, 2, none⟩ = some (.int .i64 (x : Int)) := cell_of_row _ _ 2 _ _ (0, 0) hpos
    obtain ⟨r1, a0, a1, k0⟩ := HF.out U hg
    clear hfl hg hpp hpos hk
    have hUs := HG.out.size
    have hppl := lt_of_heap HPB.out
    gi_wp2
    obtain ⟨U2, hU2⟩ : ∃ U2, U2 = U.alloc (.cells #[.slice A 3 c, .slice B m d, .int .i64 (ys : Int), .int .i64 (xs : Int)] 95) := ⟨_, rfl⟩
    rw [← hU2]
    have HBU : Hid (Below U.heap.size U U2) := hide (by rw [hU2]; exact (Below.refl _ U).alloc (Nat.le_refl _) _)
    have HCV : Hid (U2.heap[U.heap.size]? = some (.cells #[.slice A 3 c, .slice B m d, .int .i64 (ys : Int), .int .i64 (xs : Int)] 95 (0, 0))) := hide (by rw [hU2]; exact heap_alloc_new U _)
    have hs2 : U2.heap.size = U.heap.size + 1 := by rw [hU2]; simp
    have HV2 : Hid (∀ v, U2.grownBy v (some g2) → V1.grownBy v (some g2)) := hide (fun v hv => grown_trans (grown_trans HG.out (grown_below HBU.out _)) hv)
    have HF2 : Hid (∀ v, U2.grownBy v (some g2) → v.cell? ⟨w4.heap.size, 1, none⟩ = some (.slice (some ⟨g2, 0, none⟩) q q) ∧ v.cell? ⟨w.heap.size + 1, 0, none⟩ = some (.int .i64 (wide : Int)) ∧ v.cell? ⟨pp, 0, none⟩ = some (.int .i64 (i : Int)) ∧ v.cell? ⟨U.heap.size, 0, none⟩ = some (.slice A 3 c) ∧ v.cell? ⟨U.heap.size, 1, none⟩ = some (.slice B m d) ∧ v.cell? ⟨U.heap.size, 2, none⟩ = some (.int .i64 (ys : Int)) ∧ v.cell? ⟨U.heap.size, 3, none⟩ = some (.int .i64 (xs : Int))) := hide (fun v hv => by
      have hsv := HSV.out
      have hs1 := HSZ1.out
      have hpp := HPP.out
      obtain ⟨e1, e2, e3, e4⟩ := HF.out v (HV2.out v hv)
      have hp : v.heap[pp]? = some (.cells (posC i y x) 93 (0, 0)) := (hv.block pp (by omega) (by simp; omega)).trans ((HBU.out.block pp hppl).trans HPB.out)
      have hcv : v.heap[U.heap.size]? = some (.cells #[.slice A 3 c, .slice B m d, .int .i64 (ys : Int), .int .i64 (xs : Int)] 95 (0, 0)) := (hv.block _ (by omega) (by simp; omega)).trans HCV.out
      exact ⟨e1, e4, cell_of_row _ _ 0 _ _ (0, 0) hp, cell_of_row _ _ 0 _ _ (0, 0) hcv, cell_of_row _ _ 1 _ _ (0, 0) hcv, cell_of_row _ _ 2 _ _ (0, 0) hcv, cell_of_row _ _ 3 _ _ (0, 0) hcv⟩)
    have HFD : Hid (FillAt U2.drew g2 q zs k) := hide (HFL.out.below (below_drewN HBU.out 1))
    have hg1 : U2.grownBy U2.drew (some g2) := grown_below (below_drewN (Below.refl _ U2) 1) _
    have hi1 : (0 : Int) ≤ (k : Int) := by omega
    have hi2 : (k : Int) < (q : Int) := by omega
    clear hU2 p0 p1 p2 r1 a0 a1 k0
    have hS0 : Hid (U2.drew.cell? ⟨w4.heap.size, 1, none⟩ = some (.slice (some ⟨g2, 0, none⟩) q q) ∧ U2.drew.cell? ⟨w.heap.size + 1, 0, none⟩ = some (.int .i64 (wide : Int)) ∧ U2.drew.cell? ⟨pp, 0, none⟩ = some (.int .i64 (i : Int)) ∧ U2.drew.cell? ⟨U.heap.size, 0, none⟩ = some (.slice A 3 c) ∧ U2.drew.cell? ⟨U.heap.size, 1, none⟩ = some (.slice B m d) ∧ U2.drew.cell? ⟨U.heap.size, 2, none⟩ = some (.int .i64 (ys : Int)) ∧ U2.drew.cell? ⟨U.heap.size, 3, none⟩ = some (.int .i64 (xs : Int))) := hide (HF2.out _ hg1)
    refine wpIn_region_U (fun _ v => v.cell? ⟨w4.heap.size, 1, none⟩ = some (.slice (some ⟨g2, 0, none⟩) q q) ∧ v.cell? ⟨w.heap.size + 1, 0, none⟩ = some (.int .i64 (wide : Int)) ∧ v.cell? ⟨pp, 0, none⟩ = some (.int .i64 (i : Int)) ∧ v.cell? ⟨U.heap.size, 0, none⟩ = some (.slice A 3 c) ∧ v.cell? ⟨U.heap.size, 1, none⟩ = some (.slice B m d) ∧ v.cell? ⟨U.heap.size, 2, none⟩ = some (.int .i64 (ys : Int)) ∧ v.cell? ⟨U.heap.size, 3, none⟩ = some (.int .i64 (xs : Int))) 99 (by kernel_rfl) (by kernel_rfl) (fun h => by obtain ⟨_, _, h⟩ := h; exact h) ?_
    refine wpAnyU_take (i := 0) (oi := { dst := some 47, op := _, type := _, pos := _, after := _, guard := none }) (v := .pointer (some ⟨w4.heap.size, 1, none⟩)) rfl (by kernel_rfl) (by kernel_rfl) (by kernel_rfl) (by kernel_rfl) (fun _ _ _ h => h) (yields_take rfl (fun w' hw => by obtain ⟨h1, h2, h3, h4, h5, h6, h7⟩ := hw.const; go_simp)) hS0.out ?_
    simp only [Act.put, List.setIfInBounds_toArray, List.set_cons_zero, List.set_cons_succ]
    refine wpAnyU_take (i := 1) (oi := { dst := some 48, op := _, type := _, pos := _, after := _, guard := none }) (v := .slice (some ⟨g2, 0, none⟩) q q) rfl (by kernel_rfl) (by kernel_rfl) (by kernel_rfl) (by kernel_rfl) (fun _ _ _ h => h) (yields_take rfl (fun w' hw => by obtain ⟨h1, h2, h3, h4, h5, h6, h7⟩ := hw.const; go_simp)) hS0.out ?_
    simp only [Act.put, List.setIfInBounds_toArray, List.set_cons_zero, List.set_cons_succ]
    refine wpAnyU_take (i := 2) (oi := { dst := some 49, op := _, type := _, pos := _, after := _, guard := none }) (v := .int .i64 (k : Int)) rfl (by kernel_rfl) (by kernel_rfl) (by kernel_rfl) (by kernel_rfl) (fun _ _ _ h => h) (yields_take rfl (fun w' hw => by obtain ⟨h1, h2, h3, h4, h5, h6, h7⟩ := hw.const; go_simp)) hS0.out ?_
    simp only [Act.put, List.setIfInBounds_toArray, List.set_cons_zero, List.set_cons_succ]
    refine wpAnyU_take (i := 3) (oi := { dst := some 50, op := _, type := _, pos := _, after := _, guard := none }) (v := .pointer (some ⟨pp, 0, none⟩)) rfl (by kernel_rfl) (by kernel_rfl) (by kernel_rfl) (by kernel_rfl) (fun _ _ _ h => h) (yields_take rfl (fun w' hw => by obtain ⟨h1, h2, h3, h4, h5, h6, h7⟩ := hw.const; go_simp)) hS0.out ?_
    simp only [Act.put, List.setIfInBounds_toArray, List.set_cons_zero, List.set_cons_succ]
    refine wpAnyU_take (i := 4) (oi := { dst := some 51, op := _, type := _, pos := _, after := _, guard := none }) (v := .int .i64 (i : Int)) rfl (by kernel_rfl) (by kernel_rfl) (by kernel_rfl) (by kernel_rfl) (fun _ _ _ h => h) (yields_take rfl (fun w' hw => by obtain ⟨h1, h2, h3, h4, h5, h6, h7⟩ := hw.const; go_simp)) hS0.out ?_
    simp only [Act.put, List.setIfInBounds_toArray, List.set_cons_zero, List.set_cons_succ]
    refine wpAnyU_take (i := 5) (oi := { dst := some 52, op := _, type := _, pos := _, after := _, guard := none }) (v := .int .i64 (wide : Int)) rfl (by kernel_rfl) (by kernel_rfl) (by kernel_rfl) (by kernel_rfl) (fun _ _ _ h => h) (yields_take rfl (fun w' hw => by obtain ⟨h1, h2, h3, h4, h5, h6, h7⟩ := hw.const; go_simp)) hS0.out ?_
    simp only [Act.put, List.setIfInBounds_toArray, List.set_cons_zero, List.set_cons_succ]
    refine wpAnyU_take (i := 6) (oi := { dst := some 53, op := _, type := _, pos := _, after := _, guard := none }) (v := coverV A 3 c B m d (ys : Int) (xs : Int)) rfl (by kernel_rfl) (by kernel_rfl) (by kernel_rfl) (by kernel_rfl) (fun _ _ _ h => h) (yields_take rfl (fun w' hw => by obtain ⟨h1, h2, h3, h4, h5, h6, h7⟩ := hw.const; go_simp)) hS0.out ?_
    simp only [Act.put, List.setIfInBounds_toArray, List.set_cons_zero, List.set_cons_succ]
    refine wpAnyU_take (i := 7) (oi := { dst := some 54, op := _, type := _, pos := _, after := _, guard := none }) (v := .func (.func 60) #[coverV A 3 c B m d (ys : Int) (xs : Int)] #[]) rfl (by kernel_rfl) (by kernel_rfl) (by kernel_rfl) (by kernel_rfl) (fun _ _ _ h => h) (yields_take rfl (fun w' hw => by obtain ⟨h1, h2, h3, h4, h5, h6, h7⟩ := hw.const; go_simp)) hS0.out ?_
    simp only [Act.put, List.setIfInBounds_toArray, List.set_cons_zero, List.set_cons_succ]
    refine wpAnyU_one (i := 8) (by kernel_rfl) rfl ?_
    intro K hK
    go_simp
    refine Calls.mono (HCALL.out _ (HV2.out _ hg1)) ?_
    rintro e w6 ⟨rfl, hb60⟩
    dsimp only
    have hb6 : Below U2.drew.heap.size U2.drew w6 := hb60
    have hg2 : U2.grownBy w6 (some g2) := grown_trans hg1 (grown_below hb60 _)
    have hs : w6.cell? ⟨g2, k, none⟩ = some (.int .i32 0) := by have h := (HFD.out.below hb60).cell hkq; rwa [if_neg (by omega)] at h
    have hf : w6.frozen? ⟨g2, k, none⟩ = false := (HFD.out.below hb60).frozen k
    clear hb60
    have hS1 : Hid (w6.cell? ⟨w4.heap.size, 1, none⟩ = some (.slice (some ⟨g2, 0, none⟩) q q) ∧ w6.cell? ⟨w.heap.size + 1, 0, none⟩ = some (.int .i64 (wide : Int)) ∧ w6.cell? ⟨pp, 0, none⟩ = some (.int .i64 (i : Int)) ∧ w6.cell? ⟨U.heap.size, 0, none⟩ = some (.slice A 3 c) ∧ w6.cell? ⟨U.heap.size, 1, none⟩ = some (.slice B m d) ∧ w6.cell? ⟨U.heap.size, 2, none⟩ = some (.int .i64 (ys : Int)) ∧ w6.cell? ⟨U.heap.size, 3, none⟩ = some (.int .i64 (xs : Int))) := hide (HF2.out _ hg2)
    refine hK.out _ _ hS1.out (fun _ => ?_)
    clear hK K hS0
    refine wpAnyU_take (i := 9) (oi := { dst := some 56, op := _, type := _, pos := _, after := _, guard := none }) (v := .pointer (some ⟨g2, k, none⟩)) rfl (by kernel_rfl) (by kernel_rfl) (by kernel_rfl) (by kernel_rfl) (fun _ _ _ h => h) (yields_take rfl (fun w' hw => by obtain ⟨h1, h2, h3, h4, h5, h6, h7⟩ := hw.const; go_simp)) hS1.out ?_
    simp only [Act.put, List.setIfInBounds_toArray, List.set_cons_zero, List.set_cons_succ]
    refine wpAnyU_one (i := 10) (by kernel_rfl) rfl ?_
    intro K hK
    go_simp
    have hg3 : U2.grownBy (w6.setCell ⟨g2, k, none⟩ (.int .i32 z)) (some g2) := grown_trans hg2 (grown_cell6 _ _ _)
    have hS2 : Hid ((w6.setCell ⟨g2, k, none⟩ (.int .i32 z)).cell? ⟨w4.heap.size, 1, none⟩ = some (.slice (some ⟨g2, 0, none⟩) q q) ∧ (w6.setCell ⟨g2, k, none⟩ (.int .i32 z)).cell? ⟨w.heap.size + 1, 0, none⟩ = some (.int .i64 (wide : Int)) ∧ (w6.setCell ⟨g2, k, none⟩ (.int .i32 z)).cell? ⟨pp, 0, none⟩ = some (.int .i64 (i : Int)) ∧ (w6.setCell ⟨g2, k, none⟩ (.int .i32 z)).cell? ⟨U.heap.size, 0, none⟩ = some (.slice A 3 c) ∧ (w6.setCell ⟨g2, k, none⟩ (.int .i32 z)).cell? ⟨U.heap.size, 1, none⟩ = some (.slice B m d) ∧ (w6.setCell ⟨g2, k, none⟩ (.int .i32 z)).cell? ⟨U.heap.size, 2, none⟩ = some (.int .i64 (ys : Int)) ∧ (w6.setCell ⟨g2, k, none⟩ (.int .i32 z)).cell? ⟨U.heap.size, 3, none⟩ = some (.int .i64 (xs : Int))) := hide (HF2.out _ hg3)
    refine hK.out _ _ hS2.out (fun _ => ?_)
    clear hK K hS1
    refine wpAnyU_done (by kernel_rfl) ?_ _
    clear hS2
    have h9 := (HFD.out.below hb6).set
    rw [HZD.out] at h9
    exact ⟨((keeps_below HBU.out).trans (keeps_below (show Below U2.heap.size U2 w6 from (below_drewN (Below.refl _ U2) 1).trans hb6))).trans ((KeepsOthers.setCell _ _ _).from _), h9, HV2.out _ hg3⟩
  case done =>
    rintro D W hD ⟨hfl, hg⟩ hK
    obtain ⟨b8, b9⟩ := HRES.out W hg
    have HFE : Hid (FillAt W g2 q zs q) := hide (by rw [← HQ.out] at hfl; exact hfl)
    have t0 := b9.c0
    have t1 := b9.c1
    have r0 := b8.c0
    have r1 := b8.c1
    have rf0 := b8.f0 0
    have rf1 := b8.f0 1
    have HB8 := hide b8
    have HG := hide hg
    have HK := hide hK
    have hltD := lt_of_heap hK
    clear b8 b9 hfl hg hK
    go_wp2
    have hs0 := HS0.out
    have hs1 := HSZ1.out
    have hsv := HSV.out
    have hs3 := HS3.out
    have hB1 := HBW1.out
    have hB1s := hB1.size
    have hne8 : D ≠ w.heap.size + 2 := by omega
    have hK2 : ((W.setCell ⟨w.heap.size + 2, 0, none⟩ (.slice (some ⟨g1, 0, none⟩) 3 c1)).setCell ⟨w.heap.size + 2, 1, none⟩ (.slice (some ⟨g2, 0, none⟩) q q)).heap[D]? = some (.deferred (some [])) := (Below.heap_setCell _ _ _ D hne8).trans ((Below.heap_setCell _ _ _ D hne8).trans HK.out)
    refine markRet rfl hK2 (results_ten (p := 4) (u := 5) rfl _ _ (w.heap.size + 2) _ rfl ((World.putObj_heap_other (by omega)).trans (HB8.out.set2 _ _)) rfl) ?_
    have hW1W : W1.grownBy W (some g2) := grown_trans (grown_below HBV.out _) HG.out
    refine ⟨g1, c1, g2, rfl, ?_, ?_, hne, ?_⟩
    · have ho9 : ((W.setCell ⟨w.heap.size + 2, 0, none⟩ (.slice (some ⟨g1, 0, none⟩) 3 c1)).setCell ⟨w.heap.size + 2, 1, none⟩ (.slice (some ⟨g2, 0, none⟩) q q)).ownsRow w.heap.size 3 1 (.slice (some ⟨g1, 0, none⟩) 3 c1) 3 (([(C : Int), (Y : Int), (X : Int)] : List Int).map (Value.int .i64)) := by
        refine own_base (own_setCell' (own_setCell' (HO1.out.kept (row := some g2) hW1W (.inr (by simp [Value.ownBlock]; omega))) (by dsimp only; omega) _) (by dsimp only; omega) _) (by omega)
      exact own_put (B := 0) ho9 (grownBy_putObj' _ D (.deferred none)) (fun r e => by cases e; exact ⟨Nat.zero_le _, _, hK2, rfl⟩)
    · exact own_put (B := 0) (own_setCell' (own_setCell' (HFE.out.own HZL.out (by omega) (by unfold maxLen; omega)) (by dsimp only; omega) _) (by dsimp only; omega) _) (grownBy_putObj' _ D (.deferred none)) (fun r e => by cases e; exact ⟨Nat.zero_le _, _, hK2, rfl⟩)
    · have hbf : Below w.heap.size w ((W.setCell ⟨w.heap.size + 2, 0, none⟩ (.slice (some ⟨g1, 0, none⟩) 3 c1)).setCell ⟨w.heap.size + 2, 1, none⟩ (.slice (some ⟨g2, 0, none⟩) q q)) := (((HB0.out.trans (hB1.mono HB0.out.size)).trans (below_grown HG.out (by omega) (by omega))).setCell (by dsimp only; omega) _).setCell (by dsimp only; omega) _
      exact below_put hbf (by omega) (by simpa using hltD) _

end

section
open Go.RowKit
set_option linter.unusedVariables false
set_option linter.unusedSimpArgs false

theorem three_of {s : List Int} (h : 0 < sizeI s) (hl : s.length = 3) : ∃ C H V : Nat, s = [(C : Int), (H : Int), (V : Int)] := by
  match s, hl with
  | [x, y, z], _ =>
    have hd := size_dims h
    have h1 := hd x (by simp)
    have h2 := hd y (by simp)
    have h3 := hd z (by simp)
    obtain ⟨C, rfl⟩ := Int.eq_ofNat_of_zero_le (show 0 ≤ x by omega)
    obtain ⟨H, rfl⟩ := Int.eq_ofNat_of_zero_le (show 0 ≤ y by omega)
    obtain ⟨V, rfl⟩ := Int.eq_ofNat_of_zero_le (show 0 ≤ z by omega)
    exact ⟨C, H, V, rfl⟩

theorem four_of {s : List Int} (h : 0 < sizeI s) (hl : s.length = 4) : ∃ O C a b : Nat, s = [(O : Int), (C : Int), (a : Int), (b : Int)] := by
  match s, hl with
  | [x, y, z, u], _ =>
    have hd := size_dims h
    have h1 := hd x (by simp)
    have h2 := hd y (by simp)
    have h3 := hd z (by simp)
    have h4 := hd u (by simp)
    obtain ⟨O, rfl⟩ := Int.eq_ofNat_of_zero_le (show 0 ≤ x by omega)
    obtain ⟨C, rfl⟩ := Int.eq_ofNat_of_zero_le (show 0 ≤ y by omega)
    obtain ⟨a, rfl⟩ := Int.eq_ofNat_of_zero_le (show 0 ≤ z by omega)
    obtain ⟨b, rfl⟩ := Int.eq_ofNat_of_zero_le (show 0 ≤ u by omega)
    exact ⟨O, C, a, b, rfl⟩

theorem of8_nat {s s' : List Int} {m m' : Nat} {step pad : Int} (h : of8E s m s' m' step pad = 0) :
    ∃ C H V O a b Y X st pd : Nat, s = [(C : Int), (H : Int), (V : Int)] ∧ s' = [(O : Int), (C : Int), (a : Int), (b : Int)] ∧ step = (st : Int) ∧ pad = (pd : Int) ∧ tenOk s m = true ∧ tenOk s' m' = true ∧ shp8E s s' step pad = 0 ∧ shp8L s s' step pad = [(O : Int), (Y : Int), (X : Int)] := by
  have h0 : tenOk s m = true ∧ tenOk s' m' = true := by
    by_cases h0 : tenOk s m = true ∧ tenOk s' m' = true
    · exact h0
    · rw [of8E, if_neg h0] at h; cases h
  have hE : shp8E s s' step pad = 0 := by rw [of8E, if_pos h0] at h; exact h
  obtain ⟨⟨p1, p2, p3, p4, p5, p6⟩, ⟨e1, e2, e3⟩, p7⟩ := shp8E_iff.1 hE
  obtain ⟨C, H, V, rfl⟩ := three_of p1 e1
  obtain ⟨O, C', a, b, rfl⟩ := four_of p2 e2
  obtain ⟨O', Y, X, hl⟩ := three_of p7 rfl
  simp only [List.getD_cons_zero, List.getD_cons_succ] at e3
  obtain rfl : C = C' := by omega
  obtain ⟨st, rfl⟩ := Int.eq_ofNat_of_zero_le (show 0 ≤ step by omega)
  obtain ⟨pd, rfl⟩ := Int.eq_ofNat_of_zero_le (show 0 ≤ pad by omega)
  have hO : O = O' := by
    have := congrArg (fun l => l.getD 0 0) hl
    simp [shp8L] at this
    omega
  subst hO
  exact ⟨C, H, V, O, a, b, Y, X, st, pd, rfl, rfl, rfl, rfl, h0.1, h0.2, hE, hl⟩

theorem pl8_nat {s : List Int} {m : Nat} {wide : Int} (h : pl8E s m wide = 0) :
    ∃ C H V Y X wd : Nat, s = [(C : Int), (H : Int), (V : Int)] ∧ wide = (wd : Int) ∧ tenOk s m = true ∧ pp8E s wide = 0 ∧ pp8S s wide = [(C : Int), (Y : Int), (X : Int)] := by
  have h0 : tenOk s m = true := by
    by_cases h0 : tenOk s m = true
    · exact h0
    · rw [pl8E, if_neg h0] at h; cases h
  have hE : pp8E s wide = 0 := by rw [pl8E, if_pos h0] at h; exact h
  obtain ⟨⟨p1, p2, p3⟩, e1, e2, e3⟩ := pp8E_iff.1 hE
  obtain ⟨C, H, V, rfl⟩ := three_of p1 e1
  obtain ⟨wd, rfl⟩ := Int.eq_ofNat_of_zero_le (show 0 ≤ wide by omega)
  refine ⟨C, H, V, H / wd, V / wd, wd, rfl, rfl, h0, hE, ?_⟩
  rw [pp8S, if_pos hE]
  simp

theorem wof_own (A B A' B' : Option Addr) (n c m d n' c' m' d' : Nat) (s l s' l' : List Int) (step pad : Int) (w : World) (hA : Lies w A n (s.map (Value.int .i64))) (hB : Lies w B m (l.map (Value.int .i32))) (hA' : Lies w A' n' (s'.map (Value.int .i64))) (hB' : Lies w B' m' (l'.map (Value.int .i32))) (hn : n ≤ 281474976710656) (hn' : n' ≤ 281474976710656) (hcap : m' ≤ d') :
    Calls Try.prog 28 #[tenV A n c B m d, tenV A' n' c' B' m' d', .int .i64 step, .int .i64 pad] w fun e w' => ∃ A1 k1 c1 A2 k2 c2, e = .returned (.tuple #[tenV A1 k1 c1 A2 k2 c2, .int .i64 (of8E s m s' m' step pad)]) ∧
      w'.ownsRow w.heap.size 3 1 (.slice A1 k1 c1) k1 ((of8S s m s' m' step pad).map (Value.int .i64)) ∧ w'.ownsRow w.heap.size 21 1 (.slice A2 k2 c2) k2 ((of8L s m s' m' l l' step pad).map (Value.int .i32)) ∧ k1 ≤ 4 ∧ k2 ≤ 4096 ∧ Below w.heap.size w w' := by
  by_cases h : of8E s m s' m' step pad = 0
  · obtain ⟨C, H, V, O, a, b, Y, X, st, pd, rfl, rfl, rfl, rfl, hk, hk', hE, hL⟩ := of8_nat h
    have en : n = 3 := by have := hA.len; simpa using this.symm
    have en' : n' = 4 := by have := hA'.len; simpa using this.symm
    subst en en'
    have hsz := (shp8E_iff.1 hE).2.2
    rw [hL] at hsz
    obtain ⟨_, _, _, _, _, hz⟩ := three_size hsz
    refine (wof_ok A B A' B' c m d c' m' d' C H V O a b Y X st pd l l' w hA hB hA' hB' hk hk' hcap hE hL).mono ?_
    rintro e w' ⟨g1, c1, g2, rfl, ho1, ho2, hne, hb⟩
    refine ⟨_, _, _, _, _, _, by rw [h], ?_, ?_, by omega, hz, hb⟩
    · rw [of8S, if_pos h, hL]; exact ho1
    · rw [of8L, if_pos h, hL]; simpa using ho2
  · refine (wof_bad A B A' B' n c m d n' c' m' d' s l s' l' step pad w hA hB hA' hB' hn hn' h).mono ?_
    rintro e w' ⟨rfl, hb⟩
    exact ⟨none, 0, 0, none, 0, 0, rfl, by rw [of8S, if_neg h]; exact World.ownsRow_nil _ _ _ _, by rw [of8L, if_neg h]; exact World.ownsRow_nil _ _ _ _, by omega, by omega, hb⟩

theorem pool_own (A B : Option Addr) (n c m d : Nat) (s l : List Int) (wide : Int) (w : World) (hA : Lies w A n (s.map (Value.int .i64))) (hB : Lies w B m (l.map (Value.int .i32))) (hn : n ≤ 281474976710656) :
    Calls Try.prog 32 #[tenV A n c B m d, .int .i64 wide] w fun e w' => ∃ A1 k1 c1 A2 k2 c2, e = .returned (.tuple #[tenV A1 k1 c1 A2 k2 c2, .int .i64 (pl8E s m wide)]) ∧
      w'.ownsRow w.heap.size 3 1 (.slice A1 k1 c1) k1 ((pl8S s m wide).map (Value.int .i64)) ∧ w'.ownsRow w.heap.size 21 1 (.slice A2 k2 c2) k2 ((pl8L s m l wide).map (Value.int .i32)) ∧ k1 ≤ 4 ∧ k2 ≤ 4096 ∧ Below w.heap.size w w' := by
  by_cases h : pl8E s m wide = 0
  · obtain ⟨C, H, V, Y, X, wd, rfl, rfl, hk, hE, hL⟩ := pl8_nat h
    have en : n = 3 := by have := hA.len; simpa using this.symm
    subst en
    obtain ⟨_, _, _, _, _, hz⟩ := three_size (pool_size hk hE hL)
    refine (pool_ok A B c m d C H V Y X wd l w hA hB hk hE hL).mono ?_
    rintro e w' ⟨g1, c1, g2, rfl, ho1, ho2, hne, hb⟩
    refine ⟨_, _, _, _, _, _, by rw [h], ?_, ?_, by omega, hz, hb⟩
    · rw [pl8S, if_pos h, hL]; exact ho1
    · rw [pl8L, if_pos h, hL]; simpa using ho2
  · refine (pool_bad A B n c m d s l wide w hA hB hn h).mono ?_
    rintro e w' ⟨rfl, hb⟩
    exact ⟨none, 0, 0, none, 0, 0, rfl, by rw [pl8S, if_neg h]; exact World.ownsRow_nil _ _ _ _, by rw [pl8L, if_neg h]; exact World.ownsRow_nil _ _ _ _, by omega, by omega, hb⟩

end

section
open Go.RowKit
set_option linter.unusedVariables false
set_option linter.unusedSimpArgs false
set_option maxRecDepth 100000

/-- A picture, windows, and how they slide, as a value. -/
abbrev slideV (A : Option Addr) (n c : Nat) (B : Option Addr) (m d : Nat) (A' : Option Addr) (n' c' : Nat) (B' : Option Addr) (m' d' : Nat) (step pad wide : Int) : Value :=
  .agg #[.slice A n c, .slice B m d, .slice A' n' c', .slice B' m' d', .int .i64 step, .int .i64 pad, .int .i64 wide]

set_option maxHeartbeats 1000000 in
theorem of8_any (A B : Option Addr) (n c m d : Nat) (w : World) : Calls Try.prog 26 #[.slice A n c, .slice B m d] w fun e w' => e = .returned (tenV A n c B m d) ∧ Below w.heap.size w w' := by
  obtain ⟨W0, hW0⟩ : ∃ W0, W0 = w.alloc (.cells #[.slice none 0 0, .slice none 0 0] 25) := ⟨_, rfl⟩
  have HB0 : Hid (Below w.heap.size w W0) := hide (by rw [hW0]; exact (Below.refl w.heap.size w).alloc (Nat.le_refl _) _)
  have HXR : Hid (BoxT W0 w.heap.size (.slice none 0 0) (.slice none 0 0)) := hide (by rw [hW0]; exact BoxT.new w _ _)
  have hW0' := hW0.symm
  clear hW0
  have r0 := HXR.out.c0
  have r1 := HXR.out.c1
  have rf0 := HXR.out.f0 0
  have rf1 := HXR.out.f0 1
  go_enter Try.func26, Try.ntmps26
  go_wp2
  (try simp only [Exit.inBlock, Exit.then])
  refine ret_ten1 (p := 4) rfl rfl w.heap.size _ rfl (HXR.out.set2 _ _) rfl ?_
  exact ⟨rfl, (HB0.out.setCell (by dsimp only; omega) _).setCell (by dsimp only; omega) _⟩

set_option maxHeartbeats 1000000 in
theorem same8_any (A B A' B' : Option Addr) (n c m d n' c' m' d' : Nat) (s l s' l' : List Int) (e1 e2 : Int) (w : World) (hA : Lies w A n (s.map (Value.int .i64))) (hB : Lies w B m (l.map (Value.int .i32))) (hA' : Lies w A' n' (s'.map (Value.int .i64))) (hB' : Lies w B' m' (l'.map (Value.int .i32))) (hn : n ≤ 281474976710656) (hm : m ≤ 281474976710656) (he : e1 = e2) :
    Calls Try.prog 31 #[tenV A n c B m d, tenV A' n' c' B' m' d', .int .i64 e1, .int .i64 e2] w fun e w' => e = .returned (.bool (decide (s = s' ∧ l = l'))) ∧ Below w.heap.size w w' := by
  subst he
  obtain ⟨R, hR⟩ : ∃ R, R = decide (s = s' ∧ l = l') := ⟨_, rfl⟩
  rw [← hR]
  have HR := hide hR
  clear hR
  obtain ⟨W0, hW0⟩ : ∃ W0, W0 = (w.alloc (.cells #[.slice A n c, .slice B m d] 25)).alloc (.cells #[.slice A' n' c', .slice B' m' d'] 25) := ⟨_, rfl⟩
  have HB0 : Hid (Below w.heap.size w W0) := hide (by rw [hW0]; exact ((Below.refl w.heap.size w).alloc (Nat.le_refl _) _).alloc (by simp only [World.size_alloc]; omega) _)
  have HX0 : Hid (BoxT W0 w.heap.size (.slice A n c) (.slice B m d)) := hide (by rw [hW0]; exact (BoxT.new w _ _).alloc _)
  have HX1 : Hid (BoxT W0 (w.heap.size + 1) (.slice A' n' c') (.slice B' m' d')) := hide (by
    rw [hW0]
    have h := BoxT.new (w.alloc (.cells #[.slice A n c, .slice B m d] 25)) (.slice A' n' c') (.slice B' m' d')
    rwa [World.size_alloc] at h)
  have hW0' := hW0.symm
  clear hW0
  have HA := hide (hA.below HB0.out)
  have HB := hide (hB.below HB0.out)
  have HA' := hide (hA'.below HB0.out)
  have HB' := hide (hB'.below HB0.out)
  clear hA hB hA' hB'
  have a0 := HX0.out.c0
  have a1 := HX0.out.c1
  have b0 := HX1.out.c0
  have b1 := HX1.out.c1
  go_enter Try.func31, Try.ntmps31
  go_wp2_with fail
  refine Calls.mono (tsame_any A B A' B' n c m d n' c' m' d' s l s' l' _ HA.out HB.out HA'.out HB'.out hn hm) ?_
  rw [← HR.out]
  rintro e w2 ⟨rfl, hb⟩
  have HBB := hide (HB0.out.trans (hb.mono HB0.out.size))
  clear hb
  cases R
  · go_wp2
    go_ret
    exact ⟨rfl, HBB.out⟩
  · go_wp2
    go_ret
    exact ⟨rfl, HBB.out⟩

/-- Is it more than is gone through? -/
def far8 (n m n' m' : Nat) : Bool := decide (1048576 < tsz n m + tsz n' m' ∨ 600 < m' ∨ 4096 < m)

set_option maxHeartbeats 2000000 in
theorem great8_any (A B A' B' : Option Addr) (n c m d n' c' m' d' : Nat) (step pad wide : Int) (w : World) (hn : n ≤ 70368744177664) (hm : m ≤ 70368744177664) (hn' : n' ≤ 70368744177664) (hm' : m' ≤ 70368744177664) :
    Calls Try.prog 29 #[slideV A n c B m d A' n' c' B' m' d' step pad wide] w fun e w' => e = .returned (.bool (far8 n m n' m')) ∧ Below w.heap.size w w' := by
  have ht1 := tsz_hi6 hn hm
  have ht2 := tsz_hi6 hn' hm'
  obtain ⟨W0, hW0⟩ : ∃ W0, W0 = w.alloc (.cells #[.slice A n c, .slice B m d, .slice A' n' c', .slice B' m' d', .int .i64 step, .int .i64 pad, .int .i64 wide] 50) := ⟨_, rfl⟩
  have HB0 : Hid (Below w.heap.size w W0) := hide (by rw [hW0]; exact (Below.refl w.heap.size w).alloc (Nat.le_refl _) _)
  have HX : Hid (W0.heap[w.heap.size]? = some (.cells #[.slice A n c, .slice B m d, .slice A' n' c', .slice B' m' d', .int .i64 step, .int .i64 pad, .int .i64 wide] 50 (0, 0))) := hide (by rw [hW0]; exact heap_alloc_new w _)
  have hW0' := hW0.symm
  clear hW0
  have HC : Hid (∀ v, Below W0.heap.size W0 v → v.cell? ⟨w.heap.size, 0, none⟩ = some (.slice A n c) ∧ v.cell? ⟨w.heap.size, 1, none⟩ = some (.slice B m d) ∧ v.cell? ⟨w.heap.size, 2, none⟩ = some (.slice A' n' c') ∧ v.cell? ⟨w.heap.size, 3, none⟩ = some (.slice B' m' d')) := hide (fun v hv => by
    have h := (hv.block _ (lt_of_heap HX.out)).trans HX.out
    exact ⟨cell_of_row _ _ 0 _ _ (0, 0) h, cell_of_row _ _ 1 _ _ (0, 0) h, cell_of_row _ _ 2 _ _ (0, 0) h, cell_of_row _ _ 3 _ _ (0, 0) h⟩)
  have hd0 : Below W0.heap.size W0 W0.drew := below_drewN (Below.refl _ _) 1
  go_enter Try.func29, Try.ntmps29
  by_cases f1 : 1048576 < tsz n m + tsz n' m'
  · have f1' : (1048576 : Int) < (tsz n m : Int) + (tsz n' m' : Int) := by omega
    go_wp2
    have hS0 : Hid (W0.drew.cell? ⟨w.heap.size, 0, none⟩ = some (.slice A n c) ∧ W0.drew.cell? ⟨w.heap.size, 1, none⟩ = some (.slice B m d) ∧ W0.drew.cell? ⟨w.heap.size, 2, none⟩ = some (.slice A' n' c') ∧ W0.drew.cell? ⟨w.heap.size, 3, none⟩ = some (.slice B' m' d')) := hide (HC.out _ hd0)
    refine wp_region_U (fun _ v => v.cell? ⟨w.heap.size, 0, none⟩ = some (.slice A n c) ∧ v.cell? ⟨w.heap.size, 1, none⟩ = some (.slice B m d) ∧ v.cell? ⟨w.heap.size, 2, none⟩ = some (.slice A' n' c') ∧ v.cell? ⟨w.heap.size, 3, none⟩ = some (.slice B' m' d')) 99 (by kernel_rfl) ?_
    refine wpAnyU_take (i := 0) (oi := { dst := some 3, op := _, type := _, pos := _, after := _, guard := none }) (v := .pointer (some ⟨w.heap.size, 0, none⟩)) rfl (by kernel_rfl) (by kernel_rfl) (by kernel_rfl) (by kernel_rfl) (fun _ _ _ h => h) (yields_take rfl (fun w' hw => by obtain ⟨h1, h2, h3, h4⟩ := hw.const; go_simp)) hS0.out ?_
    simp only [Act.put, List.setIfInBounds_toArray, List.set_cons_zero, List.set_cons_succ]
    refine wpAnyU_take (i := 1) (oi := { dst := some 4, op := _, type := _, pos := _, after := _, guard := none }) (v := tenV A n c B m d) rfl (by kernel_rfl) (by kernel_rfl) (by kernel_rfl) (by kernel_rfl) (fun _ _ _ h => h) (yields_take rfl (fun w' hw => by obtain ⟨h1, h2, h3, h4⟩ := hw.const; go_simp)) hS0.out ?_
    simp only [Act.put, List.setIfInBounds_toArray, List.set_cons_zero, List.set_cons_succ]
    refine wpAnyU_take (i := 3) (oi := { dst := some 6, op := _, type := _, pos := _, after := _, guard := none }) (v := .pointer (some ⟨w.heap.size, 2, none⟩)) rfl (by kernel_rfl) (by kernel_rfl) (by kernel_rfl) (by kernel_rfl) (fun _ _ _ h => h) (yields_take rfl (fun w' hw => by obtain ⟨h1, h2, h3, h4⟩ := hw.const; go_simp)) hS0.out ?_
    simp only [Act.put, List.setIfInBounds_toArray, List.set_cons_zero, List.set_cons_succ]
    refine wpAnyU_take (i := 4) (oi := { dst := some 7, op := _, type := _, pos := _, after := _, guard := none }) (v := tenV A' n' c' B' m' d') rfl (by kernel_rfl) (by kernel_rfl) (by kernel_rfl) (by kernel_rfl) (fun _ _ _ h => h) (yields_take rfl (fun w' hw => by obtain ⟨h1, h2, h3, h4⟩ := hw.const; go_simp)) hS0.out ?_
    simp only [Act.put, List.setIfInBounds_toArray, List.set_cons_zero, List.set_cons_succ]
    refine wpAnyU_one (i := 2) (by kernel_rfl) rfl ?_
    intro K hK
    go_simp
    refine Calls.mono (tsize_any A B n c m d _ (by omega) (by omega)) ?_
    rintro e u1 ⟨rfl, hb⟩
    dsimp only
    have hd1 : Below W0.heap.size W0 u1 := below_nx6 hd0 hb
    clear hb
    have hS1 : Hid (u1.cell? ⟨w.heap.size, 0, none⟩ = some (.slice A n c) ∧ u1.cell? ⟨w.heap.size, 1, none⟩ = some (.slice B m d) ∧ u1.cell? ⟨w.heap.size, 2, none⟩ = some (.slice A' n' c') ∧ u1.cell? ⟨w.heap.size, 3, none⟩ = some (.slice B' m' d')) := hide (HC.out _ hd1)
    refine hK.out _ _ hS1.out (fun _ => ?_)
    clear hK K hS0
    refine wpAnyU_one (i := 5) (by kernel_rfl) rfl ?_
    intro K hK
    go_simp
    refine Calls.mono (tsize_any A' B' n' c' m' d' _ (by omega) (by omega)) ?_
    rintro e u2 ⟨rfl, hb⟩
    dsimp only
    have hd2 : Below W0.heap.size W0 u2 := below_nx6 hd1 hb
    clear hb
    have hS2 : Hid (u2.cell? ⟨w.heap.size, 0, none⟩ = some (.slice A n c) ∧ u2.cell? ⟨w.heap.size, 1, none⟩ = some (.slice B m d) ∧ u2.cell? ⟨w.heap.size, 2, none⟩ = some (.slice A' n' c') ∧ u2.cell? ⟨w.heap.size, 3, none⟩ = some (.slice B' m' d')) := hide (HC.out _ hd2)
    refine hK.out _ _ hS2.out (fun _ => ?_)
    clear hK K hS1
    refine wpAnyU_one (i := 6) (by kernel_rfl) rfl ?_
    intro K hK
    go_simp
    have hd3 : Below W0.heap.size W0 (u2.alloc (.cells #[.int .i64 (tsz n m : Int), .int .i64 (tsz n' m' : Int)] 3)) := below_al6 hd2
    have hl3 : Lies (u2.alloc (.cells #[.int .i64 (tsz n m : Int), .int .i64 (tsz n' m' : Int)] 3)) (some ⟨u2.heap.size, 0, none⟩) 2 (([(tsz n m : Int), (tsz n' m' : Int)] : List Int).map (Value.int .i64)) := lit_lies u2 .i64 [(tsz n m : Int), (tsz n' m' : Int)] 3
    have hS3 : Hid ((u2.alloc (.cells #[.int .i64 (tsz n m : Int), .int .i64 (tsz n' m' : Int)] 3)).cell? ⟨w.heap.size, 0, none⟩ = some (.slice A n c) ∧ (u2.alloc (.cells #[.int .i64 (tsz n m : Int), .int .i64 (tsz n' m' : Int)] 3)).cell? ⟨w.heap.size, 1, none⟩ = some (.slice B m d) ∧ (u2.alloc (.cells #[.int .i64 (tsz n m : Int), .int .i64 (tsz n' m' : Int)] 3)).cell? ⟨w.heap.size, 2, none⟩ = some (.slice A' n' c') ∧ (u2.alloc (.cells #[.int .i64 (tsz n m : Int), .int .i64 (tsz n' m' : Int)] 3)).cell? ⟨w.heap.size, 3, none⟩ = some (.slice B' m' d')) := hide (HC.out _ hd3)
    refine hK.out _ _ hS3.out (fun _ => ?_)
    clear hK K hS2
    refine wpAnyU_one (i := 7) (by kernel_rfl) rfl ?_
    intro K hK
    go_simp
    refine Calls.mono (beyond_yes (some ⟨u2.heap.size, 0, none⟩) 2 2 [(tsz n m : Int), (tsz n' m' : Int)] _ hl3 (by intro z hz; simp at hz; omega) (by simp; omega) (by omega)) ?_
    rintro e u3 ⟨rfl, hw3⟩
    dsimp only
    have hd4 : Below W0.heap.size W0 u3 := by rw [← hw3]; exact hd3
    clear hw3 hl3
    have hS4 : Hid (u3.cell? ⟨w.heap.size, 0, none⟩ = some (.slice A n c) ∧ u3.cell? ⟨w.heap.size, 1, none⟩ = some (.slice B m d) ∧ u3.cell? ⟨w.heap.size, 2, none⟩ = some (.slice A' n' c') ∧ u3.cell? ⟨w.heap.size, 3, none⟩ = some (.slice B' m' d')) := hide (HC.out _ hd4)
    refine hK.out _ _ hS4.out (fun _ => ?_)
    clear hK K hS3
    refine wpAnyU_take (i := 8) (oi := { dst := some 11, op := _, type := _, pos := _, after := _, guard := none }) (v := .bool true) rfl (by kernel_rfl) (by kernel_rfl) (by kernel_rfl) (by kernel_rfl) (fun _ _ _ h => h) (yields_take rfl (fun w' hw => by obtain ⟨h1, h2, h3, h4⟩ := hw.const; go_simp)) hS4.out ?_
    simp only [Act.put, List.setIfInBounds_toArray, List.set_cons_zero, List.set_cons_succ]
    refine wpAnyU_take (i := 9) (oi := { dst := some 12, op := _, type := _, pos := _, after := _, guard := some (8, false) }) (v := undef) rfl (by kernel_rfl) (by kernel_rfl) (by kernel_rfl) (by kernel_rfl) (fun _ _ _ h => h) (.inr ⟨rfl, rfl⟩) hS4.out ?_
    simp only [Act.put, List.setIfInBounds_toArray, List.set_cons_zero, List.set_cons_succ]
    refine wpAnyU_take (i := 10) (oi := { dst := some 13, op := _, type := _, pos := _, after := _, guard := some (8, false) }) (v := undef) rfl (by kernel_rfl) (by kernel_rfl) (by kernel_rfl) (by kernel_rfl) (fun _ _ _ h => h) (.inr ⟨rfl, rfl⟩) hS4.out ?_
    simp only [Act.put, List.setIfInBounds_toArray, List.set_cons_zero, List.set_cons_succ]
    refine wpAnyU_take (i := 11) (oi := { dst := some 14, op := _, type := _, pos := _, after := _, guard := some (8, false) }) (v := undef) rfl (by kernel_rfl) (by kernel_rfl) (by kernel_rfl) (by kernel_rfl) (fun _ _ _ h => h) (.inr ⟨rfl, rfl⟩) hS4.out ?_
    simp only [Act.put, List.setIfInBounds_toArray, List.set_cons_zero, List.set_cons_succ]
    refine wpAnyU_take (i := 12) (oi := { dst := some 15, op := _, type := _, pos := _, after := _, guard := some (8, false) }) (v := undef) rfl (by kernel_rfl) (by kernel_rfl) (by kernel_rfl) (by kernel_rfl) (fun _ _ _ h => h) (.inr ⟨rfl, rfl⟩) hS4.out ?_
    simp only [Act.put, List.setIfInBounds_toArray, List.set_cons_zero, List.set_cons_succ]
    refine wpAnyU_take (i := 13) (oi := { dst := some 16, op := _, type := _, pos := _, after := _, guard := some (8, false) }) (v := undef) rfl (by kernel_rfl) (by kernel_rfl) (by kernel_rfl) (by kernel_rfl) (fun _ _ _ h => h) (.inr ⟨rfl, rfl⟩) hS4.out ?_
    simp only [Act.put, List.setIfInBounds_toArray, List.set_cons_zero, List.set_cons_succ]
    refine wpAnyU_take (i := 14) (oi := { dst := some 17, op := _, type := _, pos := _, after := _, guard := none }) (v := .bool true) rfl (by kernel_rfl) (by kernel_rfl) (by kernel_rfl) (by kernel_rfl) (fun _ _ _ h => h) (yields_take rfl (fun w' hw => by obtain ⟨h1, h2, h3, h4⟩ := hw.const; go_simp)) hS4.out ?_
    simp only [Act.put, List.setIfInBounds_toArray, List.set_cons_zero, List.set_cons_succ]
    refine wpAnyU_take (i := 15) (oi := { dst := some 18, op := _, type := _, pos := _, after := _, guard := none }) (v := .bool true) rfl (by kernel_rfl) (by kernel_rfl) (by kernel_rfl) (by kernel_rfl) (fun _ _ _ h => h) (yields_take rfl (fun w' hw => by obtain ⟨h1, h2, h3, h4⟩ := hw.const; go_simp)) hS4.out ?_
    simp only [Act.put, List.setIfInBounds_toArray, List.set_cons_zero, List.set_cons_succ]
    refine wpAnyU_take (i := 16) (oi := { dst := some 19, op := _, type := _, pos := _, after := _, guard := some (15, false) }) (v := undef) rfl (by kernel_rfl) (by kernel_rfl) (by kernel_rfl) (by kernel_rfl) (fun _ _ _ h => h) (.inr ⟨rfl, rfl⟩) hS4.out ?_
    simp only [Act.put, List.setIfInBounds_toArray, List.set_cons_zero, List.set_cons_succ]
    refine wpAnyU_take (i := 17) (oi := { dst := some 20, op := _, type := _, pos := _, after := _, guard := some (15, false) }) (v := undef) rfl (by kernel_rfl) (by kernel_rfl) (by kernel_rfl) (by kernel_rfl) (fun _ _ _ h => h) (.inr ⟨rfl, rfl⟩) hS4.out ?_
    simp only [Act.put, List.setIfInBounds_toArray, List.set_cons_zero, List.set_cons_succ]
    refine wpAnyU_take (i := 18) (oi := { dst := some 21, op := _, type := _, pos := _, after := _, guard := some (15, false) }) (v := undef) rfl (by kernel_rfl) (by kernel_rfl) (by kernel_rfl) (by kernel_rfl) (fun _ _ _ h => h) (.inr ⟨rfl, rfl⟩) hS4.out ?_
    simp only [Act.put, List.setIfInBounds_toArray, List.set_cons_zero, List.set_cons_succ]
    refine wpAnyU_take (i := 19) (oi := { dst := some 22, op := _, type := _, pos := _, after := _, guard := some (15, false) }) (v := undef) rfl (by kernel_rfl) (by kernel_rfl) (by kernel_rfl) (by kernel_rfl) (fun _ _ _ h => h) (.inr ⟨rfl, rfl⟩) hS4.out ?_
    simp only [Act.put, List.setIfInBounds_toArray, List.set_cons_zero, List.set_cons_succ]
    refine wpAnyU_take (i := 20) (oi := { dst := some 23, op := _, type := _, pos := _, after := _, guard := some (15, false) }) (v := undef) rfl (by kernel_rfl) (by kernel_rfl) (by kernel_rfl) (by kernel_rfl) (fun _ _ _ h => h) (.inr ⟨rfl, rfl⟩) hS4.out ?_
    simp only [Act.put, List.setIfInBounds_toArray, List.set_cons_zero, List.set_cons_succ]
    refine wpAnyU_take (i := 21) (oi := { dst := some 24, op := _, type := _, pos := _, after := _, guard := none }) (v := .bool true) rfl (by kernel_rfl) (by kernel_rfl) (by kernel_rfl) (by kernel_rfl) (fun _ _ _ h => h) (yields_take rfl (fun w' hw => by obtain ⟨h1, h2, h3, h4⟩ := hw.const; go_simp)) hS4.out ?_
    simp only [Act.put, List.setIfInBounds_toArray, List.set_cons_zero, List.set_cons_succ]
    refine wpAnyU_take (i := 22) (oi := { dst := some 2, op := _, type := _, pos := _, after := _, guard := none }) (v := .bool true) rfl (by kernel_rfl) (by kernel_rfl) (by kernel_rfl) (by kernel_rfl) (fun _ _ _ h => h) (yields_take rfl (fun w' hw => by obtain ⟨h1, h2, h3, h4⟩ := hw.const; go_simp)) hS4.out ?_
    simp only [Act.put, List.setIfInBounds_toArray, List.set_cons_zero, List.set_cons_succ]
    refine wpAnyU_done (by kernel_rfl) ?_ _
    clear hS4
    have HBE := hide (HB0.out.trans (hd4.mono HB0.out.size))
    go_wp2
    go_ret
    exact ⟨by rw [far8, decide_eq_true (.inl f1)]; rfl, HBE.out⟩
  have f1' : ¬ (1048576 : Int) < (tsz n m : Int) + (tsz n' m' : Int) := by omega
  by_cases f2 : 600 < m'
  · have f2' : decide ((600 : Int) < (m' : Int)) = true := decide_eq_true (by omega)
    go_wp2
    have hS0 : Hid (W0.drew.cell? ⟨w.heap.size, 0, none⟩ = some (.slice A n c) ∧ W0.drew.cell? ⟨w.heap.size, 1, none⟩ = some (.slice B m d) ∧ W0.drew.cell? ⟨w.heap.size, 2, none⟩ = some (.slice A' n' c') ∧ W0.drew.cell? ⟨w.heap.size, 3, none⟩ = some (.slice B' m' d')) := hide (HC.out _ hd0)
    refine wp_region_U (fun _ v => v.cell? ⟨w.heap.size, 0, none⟩ = some (.slice A n c) ∧ v.cell? ⟨w.heap.size, 1, none⟩ = some (.slice B m d) ∧ v.cell? ⟨w.heap.size, 2, none⟩ = some (.slice A' n' c') ∧ v.cell? ⟨w.heap.size, 3, none⟩ = some (.slice B' m' d')) 99 (by kernel_rfl) ?_
    refine wpAnyU_take (i := 0) (oi := { dst := some 3, op := _, type := _, pos := _, after := _, guard := none }) (v := .pointer (some ⟨w.heap.size, 0, none⟩)) rfl (by kernel_rfl) (by kernel_rfl) (by kernel_rfl) (by kernel_rfl) (fun _ _ _ h => h) (yields_take rfl (fun w' hw => by obtain ⟨h1, h2, h3, h4⟩ := hw.const; go_simp)) hS0.out ?_
    simp only [Act.put, List.setIfInBounds_toArray, List.set_cons_zero, List.set_cons_succ]
    refine wpAnyU_take (i := 1) (oi := { dst := some 4, op := _, type := _, pos := _, after := _, guard := none }) (v := tenV A n c B m d) rfl (by kernel_rfl) (by kernel_rfl) (by kernel_rfl) (by kernel_rfl) (fun _ _ _ h => h) (yields_take rfl (fun w' hw => by obtain ⟨h1, h2, h3, h4⟩ := hw.const; go_simp)) hS0.out ?_
    simp only [Act.put, List.setIfInBounds_toArray, List.set_cons_zero, List.set_cons_succ]
    refine wpAnyU_take (i := 3) (oi := { dst := some 6, op := _, type := _, pos := _, after := _, guard := none }) (v := .pointer (some ⟨w.heap.size, 2, none⟩)) rfl (by kernel_rfl) (by kernel_rfl) (by kernel_rfl) (by kernel_rfl) (fun _ _ _ h => h) (yields_take rfl (fun w' hw => by obtain ⟨h1, h2, h3, h4⟩ := hw.const; go_simp)) hS0.out ?_
    simp only [Act.put, List.setIfInBounds_toArray, List.set_cons_zero, List.set_cons_succ]
    refine wpAnyU_take (i := 4) (oi := { dst := some 7, op := _, type := _, pos := _, after := _, guard := none }) (v := tenV A' n' c' B' m' d') rfl (by kernel_rfl) (by kernel_rfl) (by kernel_rfl) (by kernel_rfl) (fun _ _ _ h => h) (yields_take rfl (fun w' hw => by obtain ⟨h1, h2, h3, h4⟩ := hw.const; go_simp)) hS0.out ?_
    simp only [Act.put, List.setIfInBounds_toArray, List.set_cons_zero, List.set_cons_succ]
    refine wpAnyU_one (i := 2) (by kernel_rfl) rfl ?_
    intro K hK
    go_simp
    refine Calls.mono (tsize_any A B n c m d _ (by omega) (by omega)) ?_
    rintro e u1 ⟨rfl, hb⟩
    dsimp only
    have hd1 : Below W0.heap.size W0 u1 := below_nx6 hd0 hb
    clear hb
    have hS1 : Hid (u1.cell? ⟨w.heap.size, 0, none⟩ = some (.slice A n c) ∧ u1.cell? ⟨w.heap.size, 1, none⟩ = some (.slice B m d) ∧ u1.cell? ⟨w.heap.size, 2, none⟩ = some (.slice A' n' c') ∧ u1.cell? ⟨w.heap.size, 3, none⟩ = some (.slice B' m' d')) := hide (HC.out _ hd1)
    refine hK.out _ _ hS1.out (fun _ => ?_)
    clear hK K hS0
    refine wpAnyU_one (i := 5) (by kernel_rfl) rfl ?_
    intro K hK
    go_simp
    refine Calls.mono (tsize_any A' B' n' c' m' d' _ (by omega) (by omega)) ?_
    rintro e u2 ⟨rfl, hb⟩
    dsimp only
    have hd2 : Below W0.heap.size W0 u2 := below_nx6 hd1 hb
    clear hb
    have hS2 : Hid (u2.cell? ⟨w.heap.size, 0, none⟩ = some (.slice A n c) ∧ u2.cell? ⟨w.heap.size, 1, none⟩ = some (.slice B m d) ∧ u2.cell? ⟨w.heap.size, 2, none⟩ = some (.slice A' n' c') ∧ u2.cell? ⟨w.heap.size, 3, none⟩ = some (.slice B' m' d')) := hide (HC.out _ hd2)
    refine hK.out _ _ hS2.out (fun _ => ?_)
    clear hK K hS1
    refine wpAnyU_one (i := 6) (by kernel_rfl) rfl ?_
    intro K hK
    go_simp
    have hd3 : Below W0.heap.size W0 (u2.alloc (.cells #[.int .i64 (tsz n m : Int), .int .i64 (tsz n' m' : Int)] 3)) := below_al6 hd2
    have hl3 : Lies (u2.alloc (.cells #[.int .i64 (tsz n m : Int), .int .i64 (tsz n' m' : Int)] 3)) (some ⟨u2.heap.size, 0, none⟩) 2 (([(tsz n m : Int), (tsz n' m' : Int)] : List Int).map (Value.int .i64)) := lit_lies u2 .i64 [(tsz n m : Int), (tsz n' m' : Int)] 3
    have hS3 : Hid ((u2.alloc (.cells #[.int .i64 (tsz n m : Int), .int .i64 (tsz n' m' : Int)] 3)).cell? ⟨w.heap.size, 0, none⟩ = some (.slice A n c) ∧ (u2.alloc (.cells #[.int .i64 (tsz n m : Int), .int .i64 (tsz n' m' : Int)] 3)).cell? ⟨w.heap.size, 1, none⟩ = some (.slice B m d) ∧ (u2.alloc (.cells #[.int .i64 (tsz n m : Int), .int .i64 (tsz n' m' : Int)] 3)).cell? ⟨w.heap.size, 2, none⟩ = some (.slice A' n' c') ∧ (u2.alloc (.cells #[.int .i64 (tsz n m : Int), .int .i64 (tsz n' m' : Int)] 3)).cell? ⟨w.heap.size, 3, none⟩ = some (.slice B' m' d')) := hide (HC.out _ hd3)
    refine hK.out _ _ hS3.out (fun _ => ?_)
    clear hK K hS2
    refine wpAnyU_one (i := 7) (by kernel_rfl) rfl ?_
    intro K hK
    go_simp
    refine Calls.mono (beyond_no (some ⟨u2.heap.size, 0, none⟩) 2 2 [(tsz n m : Int), (tsz n' m' : Int)] _ hl3 (by intro z hz; simp at hz; omega) (by simp; omega) (by omega)) ?_
    rintro e u3 ⟨rfl, hw3⟩
    dsimp only
    have hd4 : Below W0.heap.size W0 u3 := by rw [← hw3]; exact hd3
    clear hw3 hl3
    have hS4 : Hid (u3.cell? ⟨w.heap.size, 0, none⟩ = some (.slice A n c) ∧ u3.cell? ⟨w.heap.size, 1, none⟩ = some (.slice B m d) ∧ u3.cell? ⟨w.heap.size, 2, none⟩ = some (.slice A' n' c') ∧ u3.cell? ⟨w.heap.size, 3, none⟩ = some (.slice B' m' d')) := hide (HC.out _ hd4)
    refine hK.out _ _ hS4.out (fun _ => ?_)
    clear hK K hS3
    refine wpAnyU_take (i := 8) (oi := { dst := some 11, op := _, type := _, pos := _, after := _, guard := none }) (v := .bool false) rfl (by kernel_rfl) (by kernel_rfl) (by kernel_rfl) (by kernel_rfl) (fun _ _ _ h => h) (yields_take rfl (fun w' hw => by obtain ⟨h1, h2, h3, h4⟩ := hw.const; go_simp)) hS4.out ?_
    simp only [Act.put, List.setIfInBounds_toArray, List.set_cons_zero, List.set_cons_succ]
    refine wpAnyU_take (i := 9) (oi := { dst := some 12, op := _, type := _, pos := _, after := _, guard := some (8, false) }) (v := .pointer (some ⟨w.heap.size, 2, none⟩)) rfl (by kernel_rfl) (by kernel_rfl) (by kernel_rfl) (by kernel_rfl) (fun _ _ _ h => h) (yields_take rfl (fun w' hw => by obtain ⟨h1, h2, h3, h4⟩ := hw.const; go_simp)) hS4.out ?_
    simp only [Act.put, List.setIfInBounds_toArray, List.set_cons_zero, List.set_cons_succ]
    refine wpAnyU_take (i := 10) (oi := { dst := some 13, op := _, type := _, pos := _, after := _, guard := some (8, false) }) (v := .pointer (some ⟨w.heap.size, 3, none⟩)) rfl (by kernel_rfl) (by kernel_rfl) (by kernel_rfl) (by kernel_rfl) (fun _ _ _ h => h) (yields_take rfl (fun w' hw => by obtain ⟨h1, h2, h3, h4⟩ := hw.const; go_simp)) hS4.out ?_
    simp only [Act.put, List.setIfInBounds_toArray, List.set_cons_zero, List.set_cons_succ]
    refine wpAnyU_take (i := 11) (oi := { dst := some 14, op := _, type := _, pos := _, after := _, guard := some (8, false) }) (v := .slice B' m' d') rfl (by kernel_rfl) (by kernel_rfl) (by kernel_rfl) (by kernel_rfl) (fun _ _ _ h => h) (yields_take rfl (fun w' hw => by obtain ⟨h1, h2, h3, h4⟩ := hw.const; go_simp)) hS4.out ?_
    simp only [Act.put, List.setIfInBounds_toArray, List.set_cons_zero, List.set_cons_succ]
    refine wpAnyU_take (i := 12) (oi := { dst := some 15, op := _, type := _, pos := _, after := _, guard := some (8, false) }) (v := .int .i64 (m' : Int)) rfl (by kernel_rfl) (by kernel_rfl) (by kernel_rfl) (by kernel_rfl) (fun _ _ _ h => h) (yields_take rfl (fun w' hw => by obtain ⟨h1, h2, h3, h4⟩ := hw.const; go_simp)) hS4.out ?_
    simp only [Act.put, List.setIfInBounds_toArray, List.set_cons_zero, List.set_cons_succ]
    refine wpAnyU_take (i := 13) (oi := { dst := some 16, op := _, type := _, pos := _, after := _, guard := some (8, false) }) (v := .bool true) rfl (by kernel_rfl) (by kernel_rfl) (by kernel_rfl) (by kernel_rfl) (fun _ _ _ h => h) (yields_take rfl (fun w' hw => by obtain ⟨h1, h2, h3, h4⟩ := hw.const; go_simp)) hS4.out ?_
    simp only [Act.put, List.setIfInBounds_toArray, List.set_cons_zero, List.set_cons_succ]
    refine wpAnyU_take (i := 14) (oi := { dst := some 17, op := _, type := _, pos := _, after := _, guard := none }) (v := .bool true) rfl (by kernel_rfl) (by kernel_rfl) (by kernel_rfl) (by kernel_rfl) (fun _ _ _ h => h) (yields_take rfl (fun w' hw => by obtain ⟨h1, h2, h3, h4⟩ := hw.const; go_simp)) hS4.out ?_
    simp only [Act.put, List.setIfInBounds_toArray, List.set_cons_zero, List.set_cons_succ]
    refine wpAnyU_take (i := 15) (oi := { dst := some 18, op := _, type := _, pos := _, after := _, guard := none }) (v := .bool true) rfl (by kernel_rfl) (by kernel_rfl) (by kernel_rfl) (by kernel_rfl) (fun _ _ _ h => h) (yields_take rfl (fun w' hw => by obtain ⟨h1, h2, h3, h4⟩ := hw.const; go_simp)) hS4.out ?_
    simp only [Act.put, List.setIfInBounds_toArray, List.set_cons_zero, List.set_cons_succ]
    refine wpAnyU_take (i := 16) (oi := { dst := some 19, op := _, type := _, pos := _, after := _, guard := some (15, false) }) (v := undef) rfl (by kernel_rfl) (by kernel_rfl) (by kernel_rfl) (by kernel_rfl) (fun _ _ _ h => h) (.inr ⟨rfl, rfl⟩) hS4.out ?_
    simp only [Act.put, List.setIfInBounds_toArray, List.set_cons_zero, List.set_cons_succ]
    refine wpAnyU_take (i := 17) (oi := { dst := some 20, op := _, type := _, pos := _, after := _, guard := some (15, false) }) (v := undef) rfl (by kernel_rfl) (by kernel_rfl) (by kernel_rfl) (by kernel_rfl) (fun _ _ _ h => h) (.inr ⟨rfl, rfl⟩) hS4.out ?_
    simp only [Act.put, List.setIfInBounds_toArray, List.set_cons_zero, List.set_cons_succ]
    refine wpAnyU_take (i := 18) (oi := { dst := some 21, op := _, type := _, pos := _, after := _, guard := some (15, false) }) (v := undef) rfl (by kernel_rfl) (by kernel_rfl) (by kernel_rfl) (by kernel_rfl) (fun _ _ _ h => h) (.inr ⟨rfl, rfl⟩) hS4.out ?_
    simp only [Act.put, List.setIfInBounds_toArray, List.set_cons_zero, List.set_cons_succ]
    refine wpAnyU_take (i := 19) (oi := { dst := some 22, op := _, type := _, pos := _, after := _, guard := some (15, false) }) (v := undef) rfl (by kernel_rfl) (by kernel_rfl) (by kernel_rfl) (by kernel_rfl) (fun _ _ _ h => h) (.inr ⟨rfl, rfl⟩) hS4.out ?_
    simp only [Act.put, List.setIfInBounds_toArray, List.set_cons_zero, List.set_cons_succ]
    refine wpAnyU_take (i := 20) (oi := { dst := some 23, op := _, type := _, pos := _, after := _, guard := some (15, false) }) (v := undef) rfl (by kernel_rfl) (by kernel_rfl) (by kernel_rfl) (by kernel_rfl) (fun _ _ _ h => h) (.inr ⟨rfl, rfl⟩) hS4.out ?_
    simp only [Act.put, List.setIfInBounds_toArray, List.set_cons_zero, List.set_cons_succ]
    refine wpAnyU_take (i := 21) (oi := { dst := some 24, op := _, type := _, pos := _, after := _, guard := none }) (v := .bool true) rfl (by kernel_rfl) (by kernel_rfl) (by kernel_rfl) (by kernel_rfl) (fun _ _ _ h => h) (yields_take rfl (fun w' hw => by obtain ⟨h1, h2, h3, h4⟩ := hw.const; go_simp)) hS4.out ?_
    simp only [Act.put, List.setIfInBounds_toArray, List.set_cons_zero, List.set_cons_succ]
    refine wpAnyU_take (i := 22) (oi := { dst := some 2, op := _, type := _, pos := _, after := _, guard := none }) (v := .bool true) rfl (by kernel_rfl) (by kernel_rfl) (by kernel_rfl) (by kernel_rfl) (fun _ _ _ h => h) (yields_take rfl (fun w' hw => by obtain ⟨h1, h2, h3, h4⟩ := hw.const; go_simp)) hS4.out ?_
    simp only [Act.put, List.setIfInBounds_toArray, List.set_cons_zero, List.set_cons_succ]
    refine wpAnyU_done (by kernel_rfl) ?_ _
    clear hS4
    have HBE := hide (HB0.out.trans (hd4.mono HB0.out.size))
    go_wp2
    go_ret
    exact ⟨by rw [far8, decide_eq_true (.inr (.inl f2))]; rfl, HBE.out⟩
  have f2' : decide ((600 : Int) < (m' : Int)) = false := decide_eq_false (by omega)
  by_cases f3 : 4096 < m
  · have f3' : decide ((4096 : Int) < (m : Int)) = true := decide_eq_true (by omega)
    go_wp2
    have hS0 : Hid (W0.drew.cell? ⟨w.heap.size, 0, none⟩ = some (.slice A n c) ∧ W0.drew.cell? ⟨w.heap.size, 1, none⟩ = some (.slice B m d) ∧ W0.drew.cell? ⟨w.heap.size, 2, none⟩ = some (.slice A' n' c') ∧ W0.drew.cell? ⟨w.heap.size, 3, none⟩ = some (.slice B' m' d')) := hide (HC.out _ hd0)
    refine wp_region_U (fun _ v => v.cell? ⟨w.heap.size, 0, none⟩ = some (.slice A n c) ∧ v.cell? ⟨w.heap.size, 1, none⟩ = some (.slice B m d) ∧ v.cell? ⟨w.heap.size, 2, none⟩ = some (.slice A' n' c') ∧ v.cell? ⟨w.heap.size, 3, none⟩ = some (.slice B' m' d')) 99 (by kernel_rfl) ?_
    refine wpAnyU_take (i := 0) (oi := { dst := some 3, op := _, type := _, pos := _, after := _, guard := none }) (v := .pointer (some ⟨w.heap.size, 0, none⟩)) rfl (by kernel_rfl) (by kernel_rfl) (by kernel_rfl) (by kernel_rfl) (fun _ _ _ h => h) (yields_take rfl (fun w' hw => by obtain ⟨h1, h2, h3, h4⟩ := hw.const; go_simp)) hS0.out ?_
    simp only [Act.put, List.setIfInBounds_toArray, List.set_cons_zero, List.set_cons_succ]
    refine wpAnyU_take (i := 1) (oi := { dst := some 4, op := _, type := _, pos := _, after := _, guard := none }) (v := tenV A n c B m d) rfl (by kernel_rfl) (by kernel_rfl) (by kernel_rfl) (by kernel_rfl) (fun _ _ _ h => h) (yields_take rfl (fun w' hw => by obtain ⟨h1, h2, h3, h4⟩ := hw.const; go_simp)) hS0.out ?_
    simp only [Act.put, List.setIfInBounds_toArray, List.set_cons_zero, List.set_cons_succ]
    refine wpAnyU_take (i := 3) (oi := { dst := some 6, op := _, type := _, pos := _, after := _, guard := none }) (v := .pointer (some ⟨w.heap.size, 2, none⟩)) rfl (by kernel_rfl) (by kernel_rfl) (by kernel_rfl) (by kernel_rfl) (fun _ _ _ h => h) (yields_take rfl (fun w' hw => by obtain ⟨h1, h2, h3, h4⟩ := hw.const; go_simp)) hS0.out ?_
    simp only [Act.put, List.setIfInBounds_toArray, List.set_cons_zero, List.set_cons_succ]
    refine wpAnyU_take (i := 4) (oi := { dst := some 7, op := _, type := _, pos := _, after := _, guard := none }) (v := tenV A' n' c' B' m' d') rfl (by kernel_rfl) (by kernel_rfl) (by kernel_rfl) (by kernel_rfl) (fun _ _ _ h => h) (yields_take rfl (fun w' hw => by obtain ⟨h1, h2, h3, h4⟩ := hw.const; go_simp)) hS0.out ?_
    simp only [Act.put, List.setIfInBounds_toArray, List.set_cons_zero, List.set_cons_succ]
    refine wpAnyU_one (i := 2) (by kernel_rfl) rfl ?_
    intro K hK
    go_simp
    refine Calls.mono (tsize_any A B n c m d _ (by omega) (by omega)) ?_
    rintro e u1 ⟨rfl, hb⟩
    dsimp only
    have hd1 : Below W0.heap.size W0 u1 := below_nx6 hd0 hb
    clear hb
    have hS1 : Hid (u1.cell? ⟨w.heap.size, 0, none⟩ = some (.slice A n c) ∧ u1.cell? ⟨w.heap.size, 1, none⟩ = some (.slice B m d) ∧ u1.cell? ⟨w.heap.size, 2, none⟩ = some (.slice A' n' c') ∧ u1.cell? ⟨w.heap.size, 3, none⟩ = some (.slice B' m' d')) := hide (HC.out _ hd1)
    refine hK.out _ _ hS1.out (fun _ => ?_)
    clear hK K hS0
    refine wpAnyU_one (i := 5) (by kernel_rfl) rfl ?_
    intro K hK
    go_simp
    refine Calls.mono (tsize_any A' B' n' c' m' d' _ (by omega) (by omega)) ?_
    rintro e u2 ⟨rfl, hb⟩
    dsimp only
    have hd2 : Below W0.heap.size W0 u2 := below_nx6 hd1 hb
    clear hb
    have hS2 : Hid (u2.cell? ⟨w.heap.size, 0, none⟩ = some (.slice A n c) ∧ u2.cell? ⟨w.heap.size, 1, none⟩ = some (.slice B m d) ∧ u2.cell? ⟨w.heap.size, 2, none⟩ = some (.slice A' n' c') ∧ u2.cell? ⟨w.heap.size, 3, none⟩ = some (.slice B' m' d')) := hide (HC.out _ hd2)
    refine hK.out _ _ hS2.out (fun _ => ?_)
    clear hK K hS1
    refine wpAnyU_one (i := 6) (by kernel_rfl) rfl ?_
    intro K hK
    go_simp
    have hd3 : Below W0.heap.size W0 (u2.alloc (.cells #[.int .i64 (tsz n m : Int), .int .i64 (tsz n' m' : Int)] 3)) := below_al6 hd2
    have hl3 : Lies (u2.alloc (.cells #[.int .i64 (tsz n m : Int), .int .i64 (tsz n' m' : Int)] 3)) (some ⟨u2.heap.size, 0, none⟩) 2 (([(tsz n m : Int), (tsz n' m' : Int)] : List Int).map (Value.int .i64)) := lit_lies u2 .i64 [(tsz n m : Int), (tsz n' m' : Int)] 3
    have hS3 : Hid ((u2.alloc (.cells #[.int .i64 (tsz n m : Int), .int .i64 (tsz n' m' : Int)] 3)).cell? ⟨w.heap.size, 0, none⟩ = some (.slice A n c) ∧ (u2.alloc (.cells #[.int .i64 (tsz n m : Int), .int .i64 (tsz n' m' : Int)] 3)).cell? ⟨w.heap.size, 1, none⟩ = some (.slice B m d) ∧ (u2.alloc (.cells #[.int .i64 (tsz n m : Int), .int .i64 (tsz n' m' : Int)] 3)).cell? ⟨w.heap.size, 2, none⟩ = some (.slice A' n' c') ∧ (u2.alloc (.cells #[.int .i64 (tsz n m : Int), .int .i64 (tsz n' m' : Int)] 3)).cell? ⟨w.heap.size, 3, none⟩ = some (.slice B' m' d')) := hide (HC.out _ hd3)
    refine hK.out _ _ hS3.out (fun _ => ?_)
    clear hK K hS2
    refine wpAnyU_one (i := 7) (by kernel_rfl) rfl ?_
    intro K hK
    go_simp
    refine Calls.mono (beyond_no (some ⟨u2.heap.size, 0, none⟩) 2 2 [(tsz n m : Int), (tsz n' m' : Int)] _ hl3 (by intro z hz; simp at hz; omega) (by simp; omega) (by omega)) ?_
    rintro e u3 ⟨rfl, hw3⟩
    dsimp only
    have hd4 : Below W0.heap.size W0 u3 := by rw [← hw3]; exact hd3
    clear hw3 hl3
    have hS4 : Hid (u3.cell? ⟨w.heap.size, 0, none⟩ = some (.slice A n c) ∧ u3.cell? ⟨w.heap.size, 1, none⟩ = some (.slice B m d) ∧ u3.cell? ⟨w.heap.size, 2, none⟩ = some (.slice A' n' c') ∧ u3.cell? ⟨w.heap.size, 3, none⟩ = some (.slice B' m' d')) := hide (HC.out _ hd4)
    refine hK.out _ _ hS4.out (fun _ => ?_)
    clear hK K hS3
    refine wpAnyU_take (i := 8) (oi := { dst := some 11, op := _, type := _, pos := _, after := _, guard := none }) (v := .bool false) rfl (by kernel_rfl) (by kernel_rfl) (by kernel_rfl) (by kernel_rfl) (fun _ _ _ h => h) (yields_take rfl (fun w' hw => by obtain ⟨h1, h2, h3, h4⟩ := hw.const; go_simp)) hS4.out ?_
    simp only [Act.put, List.setIfInBounds_toArray, List.set_cons_zero, List.set_cons_succ]
    refine wpAnyU_take (i := 9) (oi := { dst := some 12, op := _, type := _, pos := _, after := _, guard := some (8, false) }) (v := .pointer (some ⟨w.heap.size, 2, none⟩)) rfl (by kernel_rfl) (by kernel_rfl) (by kernel_rfl) (by kernel_rfl) (fun _ _ _ h => h) (yields_take rfl (fun w' hw => by obtain ⟨h1, h2, h3, h4⟩ := hw.const; go_simp)) hS4.out ?_
    simp only [Act.put, List.setIfInBounds_toArray, List.set_cons_zero, List.set_cons_succ]
    refine wpAnyU_take (i := 10) (oi := { dst := some 13, op := _, type := _, pos := _, after := _, guard := some (8, false) }) (v := .pointer (some ⟨w.heap.size, 3, none⟩)) rfl (by kernel_rfl) (by kernel_rfl) (by kernel_rfl) (by kernel_rfl) (fun _ _ _ h => h) (yields_take rfl (fun w' hw => by obtain ⟨h1, h2, h3, h4⟩ := hw.const; go_simp)) hS4.out ?_
    simp only [Act.put, List.setIfInBounds_toArray, List.set_cons_zero, List.set_cons_succ]
    refine wpAnyU_take (i := 11) (oi := { dst := some 14, op := _, type := _, pos := _, after := _, guard := some (8, false) }) (v := .slice B' m' d') rfl (by kernel_rfl) (by kernel_rfl) (by kernel_rfl) (by kernel_rfl) (fun _ _ _ h => h) (yields_take rfl (fun w' hw => by obtain ⟨h1, h2, h3, h4⟩ := hw.const; go_simp)) hS4.out ?_
    simp only [Act.put, List.setIfInBounds_toArray, List.set_cons_zero, List.set_cons_succ]
    refine wpAnyU_take (i := 12) (oi := { dst := some 15, op := _, type := _, pos := _, after := _, guard := some (8, false) }) (v := .int .i64 (m' : Int)) rfl (by kernel_rfl) (by kernel_rfl) (by kernel_rfl) (by kernel_rfl) (fun _ _ _ h => h) (yields_take rfl (fun w' hw => by obtain ⟨h1, h2, h3, h4⟩ := hw.const; go_simp)) hS4.out ?_
    simp only [Act.put, List.setIfInBounds_toArray, List.set_cons_zero, List.set_cons_succ]
    refine wpAnyU_take (i := 13) (oi := { dst := some 16, op := _, type := _, pos := _, after := _, guard := some (8, false) }) (v := .bool false) rfl (by kernel_rfl) (by kernel_rfl) (by kernel_rfl) (by kernel_rfl) (fun _ _ _ h => h) (yields_take rfl (fun w' hw => by obtain ⟨h1, h2, h3, h4⟩ := hw.const; go_simp)) hS4.out ?_
    simp only [Act.put, List.setIfInBounds_toArray, List.set_cons_zero, List.set_cons_succ]
    refine wpAnyU_take (i := 14) (oi := { dst := some 17, op := _, type := _, pos := _, after := _, guard := none }) (v := .bool false) rfl (by kernel_rfl) (by kernel_rfl) (by kernel_rfl) (by kernel_rfl) (fun _ _ _ h => h) (yields_take rfl (fun w' hw => by obtain ⟨h1, h2, h3, h4⟩ := hw.const; go_simp)) hS4.out ?_
    simp only [Act.put, List.setIfInBounds_toArray, List.set_cons_zero, List.set_cons_succ]
    refine wpAnyU_take (i := 15) (oi := { dst := some 18, op := _, type := _, pos := _, after := _, guard := none }) (v := .bool false) rfl (by kernel_rfl) (by kernel_rfl) (by kernel_rfl) (by kernel_rfl) (fun _ _ _ h => h) (yields_take rfl (fun w' hw => by obtain ⟨h1, h2, h3, h4⟩ := hw.const; go_simp)) hS4.out ?_
    simp only [Act.put, List.setIfInBounds_toArray, List.set_cons_zero, List.set_cons_succ]
    refine wpAnyU_take (i := 16) (oi := { dst := some 19, op := _, type := _, pos := _, after := _, guard := some (15, false) }) (v := .pointer (some ⟨w.heap.size, 0, none⟩)) rfl (by kernel_rfl) (by kernel_rfl) (by kernel_rfl) (by kernel_rfl) (fun _ _ _ h => h) (yields_take rfl (fun w' hw => by obtain ⟨h1, h2, h3, h4⟩ := hw.const; go_simp)) hS4.out ?_
    simp only [Act.put, List.setIfInBounds_toArray, List.set_cons_zero, List.set_cons_succ]
    refine wpAnyU_take (i := 17) (oi := { dst := some 20, op := _, type := _, pos := _, after := _, guard := some (15, false) }) (v := .pointer (some ⟨w.heap.size, 1, none⟩)) rfl (by kernel_rfl) (by kernel_rfl) (by kernel_rfl) (by kernel_rfl) (fun _ _ _ h => h) (yields_take rfl (fun w' hw => by obtain ⟨h1, h2, h3, h4⟩ := hw.const; go_simp)) hS4.out ?_
    simp only [Act.put, List.setIfInBounds_toArray, List.set_cons_zero, List.set_cons_succ]
    refine wpAnyU_take (i := 18) (oi := { dst := some 21, op := _, type := _, pos := _, after := _, guard := some (15, false) }) (v := .slice B m d) rfl (by kernel_rfl) (by kernel_rfl) (by kernel_rfl) (by kernel_rfl) (fun _ _ _ h => h) (yields_take rfl (fun w' hw => by obtain ⟨h1, h2, h3, h4⟩ := hw.const; go_simp)) hS4.out ?_
    simp only [Act.put, List.setIfInBounds_toArray, List.set_cons_zero, List.set_cons_succ]
    refine wpAnyU_take (i := 19) (oi := { dst := some 22, op := _, type := _, pos := _, after := _, guard := some (15, false) }) (v := .int .i64 (m : Int)) rfl (by kernel_rfl) (by kernel_rfl) (by kernel_rfl) (by kernel_rfl) (fun _ _ _ h => h) (yields_take rfl (fun w' hw => by obtain ⟨h1, h2, h3, h4⟩ := hw.const; go_simp)) hS4.out ?_
    simp only [Act.put, List.setIfInBounds_toArray, List.set_cons_zero, List.set_cons_succ]
    refine wpAnyU_take (i := 20) (oi := { dst := some 23, op := _, type := _, pos := _, after := _, guard := some (15, false) }) (v := .bool true) rfl (by kernel_rfl) (by kernel_rfl) (by kernel_rfl) (by kernel_rfl) (fun _ _ _ h => h) (yields_take rfl (fun w' hw => by obtain ⟨h1, h2, h3, h4⟩ := hw.const; go_simp)) hS4.out ?_
    simp only [Act.put, List.setIfInBounds_toArray, List.set_cons_zero, List.set_cons_succ]
    refine wpAnyU_take (i := 21) (oi := { dst := some 24, op := _, type := _, pos := _, after := _, guard := none }) (v := .bool true) rfl (by kernel_rfl) (by kernel_rfl) (by kernel_rfl) (by kernel_rfl) (fun _ _ _ h => h) (yields_take rfl (fun w' hw => by obtain ⟨h1, h2, h3, h4⟩ := hw.const; go_simp)) hS4.out ?_
    simp only [Act.put, List.setIfInBounds_toArray, List.set_cons_zero, List.set_cons_succ]
    refine wpAnyU_take (i := 22) (oi := { dst := some 2, op := _, type := _, pos := _, after := _, guard := none }) (v := .bool true) rfl (by kernel_rfl) (by kernel_rfl) (by kernel_rfl) (by kernel_rfl) (fun _ _ _ h => h) (yields_take rfl (fun w' hw => by obtain ⟨h1, h2, h3, h4⟩ := hw.const; go_simp)) hS4.out ?_
    simp only [Act.put, List.setIfInBounds_toArray, List.set_cons_zero, List.set_cons_succ]
    refine wpAnyU_done (by kernel_rfl) ?_ _
    clear hS4
    have HBE := hide (HB0.out.trans (hd4.mono HB0.out.size))
    go_wp2
    go_ret
    exact ⟨by rw [far8, decide_eq_true (.inr (.inr f3))]; rfl, HBE.out⟩
  have f3' : decide ((4096 : Int) < (m : Int)) = false := decide_eq_false (by omega)
  go_wp2
  have hS0 : Hid (W0.drew.cell? ⟨w.heap.size, 0, none⟩ = some (.slice A n c) ∧ W0.drew.cell? ⟨w.heap.size, 1, none⟩ = some (.slice B m d) ∧ W0.drew.cell? ⟨w.heap.size, 2, none⟩ = some (.slice A' n' c') ∧ W0.drew.cell? ⟨w.heap.size, 3, none⟩ = some (.slice B' m' d')) := hide (HC.out _ hd0)
  refine wp_region_U (fun _ v => v.cell? ⟨w.heap.size, 0, none⟩ = some (.slice A n c) ∧ v.cell? ⟨w.heap.size, 1, none⟩ = some (.slice B m d) ∧ v.cell? ⟨w.heap.size, 2, none⟩ = some (.slice A' n' c') ∧ v.cell? ⟨w.heap.size, 3, none⟩ = some (.slice B' m' d')) 99 (by kernel_rfl) ?_
  refine wpAnyU_take (i := 0) (oi := { dst := some 3, op := _, type := _, pos := _, after := _, guard := none }) (v := .pointer (some ⟨w.heap.size, 0, none⟩)) rfl (by kernel_rfl) (by kernel_rfl) (by kernel_rfl) (by kernel_rfl) (fun _ _ _ h => h) (yields_take rfl (fun w' hw => by obtain ⟨h1, h2, h3, h4⟩ := hw.const; go_simp)) hS0.out ?_
  simp only [Act.put, List.setIfInBounds_toArray, List.set_cons_zero, List.set_cons_succ]
  refine wpAnyU_take (i := 1) (oi := { dst := some 4, op := _, type := _, pos := _, after := _, guard := none }) (v := tenV A n c B m d) rfl (by kernel_rfl) (by kernel_rfl) (by kernel_rfl) (by kernel_rfl) (fun _ _ _ h => h) (yields_take rfl (fun w' hw => by obtain ⟨h1, h2, h3, h4⟩ := hw.const; go_simp)) hS0.out ?_
  simp only [Act.put, List.setIfInBounds_toArray, List.set_cons_zero, List.set_cons_succ]
  refine wpAnyU_take (i := 3) (oi := { dst := some 6, op := _, type := _, pos := _, after := _, guard := none }) (v := .pointer (some ⟨w.heap.size, 2, none⟩)) rfl (by kernel_rfl) (by kernel_rfl) (by kernel_rfl) (by kernel_rfl) (fun _ _ _ h => h) (yields_take rfl (fun w' hw => by obtain ⟨h1, h2, h3, h4⟩ := hw.const; go_simp)) hS0.out ?_
  simp only [Act.put, List.setIfInBounds_toArray, List.set_cons_zero, List.set_cons_succ]
  refine wpAnyU_take (i := 4) (oi := { dst := some 7, op := _, type := _, pos := _, after := _, guard := none }) (v := tenV A' n' c' B' m' d') rfl (by kernel_rfl) (by kernel_rfl) (by kernel_rfl) (by kernel_rfl) (fun _ _ _ h => h) (yields_take rfl (fun w' hw => by obtain ⟨h1, h2, h3, h4⟩ := hw.const; go_simp)) hS0.out ?_
  simp only [Act.put, List.setIfInBounds_toArray, List.set_cons_zero, List.set_cons_succ]
  refine wpAnyU_one (i := 2) (by kernel_rfl) rfl ?_
  intro K hK
  go_simp
  refine Calls.mono (tsize_any A B n c m d _ (by omega) (by omega)) ?_
  rintro e u1 ⟨rfl, hb⟩
  dsimp only
  have hd1 : Below W0.heap.size W0 u1 := below_nx6 hd0 hb
  clear hb
  have hS1 : Hid (u1.cell? ⟨w.heap.size, 0, none⟩ = some (.slice A n c) ∧ u1.cell? ⟨w.heap.size, 1, none⟩ = some (.slice B m d) ∧ u1.cell? ⟨w.heap.size, 2, none⟩ = some (.slice A' n' c') ∧ u1.cell? ⟨w.heap.size, 3, none⟩ = some (.slice B' m' d')) := hide (HC.out _ hd1)
  refine hK.out _ _ hS1.out (fun _ => ?_)
  clear hK K hS0
  refine wpAnyU_one (i := 5) (by kernel_rfl) rfl ?_
  intro K hK
  go_simp
  refine Calls.mono (tsize_any A' B' n' c' m' d' _ (by omega) (by omega)) ?_
  rintro e u2 ⟨rfl, hb⟩
  dsimp only
  have hd2 : Below W0.heap.size W0 u2 := below_nx6 hd1 hb
  clear hb
  have hS2 : Hid (u2.cell? ⟨w.heap.size, 0, none⟩ = some (.slice A n c) ∧ u2.cell? ⟨w.heap.size, 1, none⟩ = some (.slice B m d) ∧ u2.cell? ⟨w.heap.size, 2, none⟩ = some (.slice A' n' c') ∧ u2.cell? ⟨w.heap.size, 3, none⟩ = some (.slice B' m' d')) := hide (HC.out _ hd2)
  refine hK.out _ _ hS2.out (fun _ => ?_)
  clear hK K hS1
  refine wpAnyU_one (i := 6) (by kernel_rfl) rfl ?_
  intro K hK
  go_simp
  have hd3 : Below W0.heap.size W0 (u2.alloc (.cells #[.int .i64 (tsz n m : Int), .int .i64 (tsz n' m' : Int)] 3)) := below_al6 hd2
  have hl3 : Lies (u2.alloc (.cells #[.int .i64 (tsz n m : Int), .int .i64 (tsz n' m' : Int)] 3)) (some ⟨u2.heap.size, 0, none⟩) 2 (([(tsz n m : Int), (tsz n' m' : Int)] : List Int).map (Value.int .i64)) := lit_lies u2 .i64 [(tsz n m : Int), (tsz n' m' : Int)] 3
  have hS3 : Hid ((u2.alloc (.cells #[.int .i64 (tsz n m : Int), .int .i64 (tsz n' m' : Int)] 3)).cell? ⟨w.heap.size, 0, none⟩ = some (.slice A n c) ∧ (u2.alloc (.cells #[.int .i64 (tsz n m : Int), .int .i64 (tsz n' m' : Int)] 3)).cell? ⟨w.heap.size, 1, none⟩ = some (.slice B m d) ∧ (u2.alloc (.cells #[.int .i64 (tsz n m : Int), .int .i64 (tsz n' m' : Int)] 3)).cell? ⟨w.heap.size, 2, none⟩ = some (.slice A' n' c') ∧ (u2.alloc (.cells #[.int .i64 (tsz n m : Int), .int .i64 (tsz n' m' : Int)] 3)).cell? ⟨w.heap.size, 3, none⟩ = some (.slice B' m' d')) := hide (HC.out _ hd3)
  refine hK.out _ _ hS3.out (fun _ => ?_)
  clear hK K hS2
  refine wpAnyU_one (i := 7) (by kernel_rfl) rfl ?_
  intro K hK
  go_simp
  refine Calls.mono (beyond_no (some ⟨u2.heap.size, 0, none⟩) 2 2 [(tsz n m : Int), (tsz n' m' : Int)] _ hl3 (by intro z hz; simp at hz; omega) (by simp; omega) (by omega)) ?_
  rintro e u3 ⟨rfl, hw3⟩
  dsimp only
  have hd4 : Below W0.heap.size W0 u3 := by rw [← hw3]; exact hd3
  clear hw3 hl3
  have hS4 : Hid (u3.cell? ⟨w.heap.size, 0, none⟩ = some (.slice A n c) ∧ u3.cell? ⟨w.heap.size, 1, none⟩ = some (.slice B m d) ∧ u3.cell? ⟨w.heap.size, 2, none⟩ = some (.slice A' n' c') ∧ u3.cell? ⟨w.heap.size, 3, none⟩ = some (.slice B' m' d')) := hide (HC.out _ hd4)
  refine hK.out _ _ hS4.out (fun _ => ?_)
  clear hK K hS3
  refine wpAnyU_take (i := 8) (oi := { dst := some 11, op := _, type := _, pos := _, after := _, guard := none }) (v := .bool false) rfl (by kernel_rfl) (by kernel_rfl) (by kernel_rfl) (by kernel_rfl) (fun _ _ _ h => h) (yields_take rfl (fun w' hw => by obtain ⟨h1, h2, h3, h4⟩ := hw.const; go_simp)) hS4.out ?_
  simp only [Act.put, List.setIfInBounds_toArray, List.set_cons_zero, List.set_cons_succ]
  refine wpAnyU_take (i := 9) (oi := { dst := some 12, op := _, type := _, pos := _, after := _, guard := some (8, false) }) (v := .pointer (some ⟨w.heap.size, 2, none⟩)) rfl (by kernel_rfl) (by kernel_rfl) (by kernel_rfl) (by kernel_rfl) (fun _ _ _ h => h) (yields_take rfl (fun w' hw => by obtain ⟨h1, h2, h3, h4⟩ := hw.const; go_simp)) hS4.out ?_
  simp only [Act.put, List.setIfInBounds_toArray, List.set_cons_zero, List.set_cons_succ]
  refine wpAnyU_take (i := 10) (oi := { dst := some 13, op := _, type := _, pos := _, after := _, guard := some (8, false) }) (v := .pointer (some ⟨w.heap.size, 3, none⟩)) rfl (by kernel_rfl) (by kernel_rfl) (by kernel_rfl) (by kernel_rfl) (fun _ _ _ h => h) (yields_take rfl (fun w' hw => by obtain ⟨h1, h2, h3, h4⟩ := hw.const; go_simp)) hS4.out ?_
  simp only [Act.put, List.setIfInBounds_toArray, List.set_cons_zero, List.set_cons_succ]
  refine wpAnyU_take (i := 11) (oi := { dst := some 14, op := _, type := _, pos := _, after := _, guard := some (8, false) }) (v := .slice B' m' d') rfl (by kernel_rfl) (by kernel_rfl) (by kernel_rfl) (by kernel_rfl) (fun _ _ _ h => h) (yields_take rfl (fun w' hw => by obtain ⟨h1, h2, h3, h4⟩ := hw.const; go_simp)) hS4.out ?_
  simp only [Act.put, List.setIfInBounds_toArray, List.set_cons_zero, List.set_cons_succ]
  refine wpAnyU_take (i := 12) (oi := { dst := some 15, op := _, type := _, pos := _, after := _, guard := some (8, false) }) (v := .int .i64 (m' : Int)) rfl (by kernel_rfl) (by kernel_rfl) (by kernel_rfl) (by kernel_rfl) (fun _ _ _ h => h) (yields_take rfl (fun w' hw => by obtain ⟨h1, h2, h3, h4⟩ := hw.const; go_simp)) hS4.out ?_
  simp only [Act.put, List.setIfInBounds_toArray, List.set_cons_zero, List.set_cons_succ]
  refine wpAnyU_take (i := 13) (oi := { dst := some 16, op := _, type := _, pos := _, after := _, guard := some (8, false) }) (v := .bool false) rfl (by kernel_rfl) (by kernel_rfl) (by kernel_rfl) (by kernel_rfl) (fun _ _ _ h => h) (yields_take rfl (fun w' hw => by obtain ⟨h1, h2, h3, h4⟩ := hw.const; go_simp)) hS4.out ?_
  simp only [Act.put, List.setIfInBounds_toArray, List.set_cons_zero, List.set_cons_succ]
  refine wpAnyU_take (i := 14) (oi := { dst := some 17, op := _, type := _, pos := _, after := _, guard := none }) (v := .bool false) rfl (by kernel_rfl) (by kernel_rfl) (by kernel_rfl) (by kernel_rfl) (fun _ _ _ h => h) (yields_take rfl (fun w' hw => by obtain ⟨h1, h2, h3, h4⟩ := hw.const; go_simp)) hS4.out ?_
  simp only [Act.put, List.setIfInBounds_toArray, List.set_cons_zero, List.set_cons_succ]
  refine wpAnyU_take (i := 15) (oi := { dst := some 18, op := _, type := _, pos := _, after := _, guard := none }) (v := .bool false) rfl (by kernel_rfl) (by kernel_rfl) (by kernel_rfl) (by kernel_rfl) (fun _ _ _ h => h) (yields_take rfl (fun w' hw => by obtain ⟨h1, h2, h3, h4⟩ := hw.const; go_simp)) hS4.out ?_
  simp only [Act.put, List.setIfInBounds_toArray, List.set_cons_zero, List.set_cons_succ]
  refine wpAnyU_take (i := 16) (oi := { dst := some 19, op := _, type := _, pos := _, after := _, guard := some (15, false) }) (v := .pointer (some ⟨w.heap.size, 0, none⟩)) rfl (by kernel_rfl) (by kernel_rfl) (by kernel_rfl) (by kernel_rfl) (fun _ _ _ h => h) (yields_take rfl (fun w' hw => by obtain ⟨h1, h2, h3, h4⟩ := hw.const; go_simp)) hS4.out ?_
  simp only [Act.put, List.setIfInBounds_toArray, List.set_cons_zero, List.set_cons_succ]
  refine wpAnyU_take (i := 17) (oi := { dst := some 20, op := _, type := _, pos := _, after := _, guard := some (15, false) }) (v := .pointer (some ⟨w.heap.size, 1, none⟩)) rfl (by kernel_rfl) (by kernel_rfl) (by kernel_rfl) (by kernel_rfl) (fun _ _ _ h => h) (yields_take rfl (fun w' hw => by obtain ⟨h1, h2, h3, h4⟩ := hw.const; go_simp)) hS4.out ?_
  simp only [Act.put, List.setIfInBounds_toArray, List.set_cons_zero, List.set_cons_succ]
  refine wpAnyU_take (i := 18) (oi := { dst := some 21, op := _, type := _, pos := _, after := _, guard := some (15, false) }) (v := .slice B m d) rfl (by kernel_rfl) (by kernel_rfl) (by kernel_rfl) (by kernel_rfl) (fun _ _ _ h => h) (yields_take rfl (fun w' hw => by obtain ⟨h1, h2, h3, h4⟩ := hw.const; go_simp)) hS4.out ?_
  simp only [Act.put, List.setIfInBounds_toArray, List.set_cons_zero, List.set_cons_succ]
  refine wpAnyU_take (i := 19) (oi := { dst := some 22, op := _, type := _, pos := _, after := _, guard := some (15, false) }) (v := .int .i64 (m : Int)) rfl (by kernel_rfl) (by kernel_rfl) (by kernel_rfl) (by kernel_rfl) (fun _ _ _ h => h) (yields_take rfl (fun w' hw => by obtain ⟨h1, h2, h3, h4⟩ := hw.const; go_simp)) hS4.out ?_
  simp only [Act.put, List.setIfInBounds_toArray, List.set_cons_zero, List.set_cons_succ]
  refine wpAnyU_take (i := 20) (oi := { dst := some 23, op := _, type := _, pos := _, after := _, guard := some (15, false) }) (v := .bool false) rfl (by kernel_rfl) (by kernel_rfl) (by kernel_rfl) (by kernel_rfl) (fun _ _ _ h => h) (yields_take rfl (fun w' hw => by obtain ⟨h1, h2, h3, h4⟩ := hw.const; go_simp)) hS4.out ?_
  simp only [Act.put, List.setIfInBounds_toArray, List.set_cons_zero, List.set_cons_succ]
  refine wpAnyU_take (i := 21) (oi := { dst := some 24, op := _, type := _, pos := _, after := _, guard := none }) (v := .bool false) rfl (by kernel_rfl) (by kernel_rfl) (by kernel_rfl) (by kernel_rfl) (fun _ _ _ h => h) (yields_take rfl (fun w' hw => by obtain ⟨h1, h2, h3, h4⟩ := hw.const; go_simp)) hS4.out ?_
  simp only [Act.put, List.setIfInBounds_toArray, List.set_cons_zero, List.set_cons_succ]
  refine wpAnyU_take (i := 22) (oi := { dst := some 2, op := _, type := _, pos := _, after := _, guard := none }) (v := .bool false) rfl (by kernel_rfl) (by kernel_rfl) (by kernel_rfl) (by kernel_rfl) (fun _ _ _ h => h) (yields_take rfl (fun w' hw => by obtain ⟨h1, h2, h3, h4⟩ := hw.const; go_simp)) hS4.out ?_
  simp only [Act.put, List.setIfInBounds_toArray, List.set_cons_zero, List.set_cons_succ]
  refine wpAnyU_done (by kernel_rfl) ?_ _
  clear hS4
  have HBE := hide (HB0.out.trans (hd4.mono HB0.out.size))
  go_wp2
  go_ret
  exact ⟨by rw [far8, decide_eq_false (by omega)]; rfl, HBE.out⟩

end

section
open Go.RowKit
set_option linter.unusedVariables false
set_option linter.unusedSimpArgs false

def SlideAt (w : World) (p : Nat) (A : Option Addr) (n c : Nat) (B : Option Addr) (m d : Nat) (A' : Option Addr) (n' c' : Nat) (B' : Option Addr) (m' d' : Nat) (x y z : Int) (s l s' l' : List Int) : Prop :=
  w.heap[p]? = some (.cells #[.slice A n c, .slice B m d, .slice A' n' c', .slice B' m' d', .int .i64 x, .int .i64 y, .int .i64 z] 50 (0, 0)) ∧
    Lies w A n (s.map (Value.int .i64)) ∧ Lies w B m (l.map (Value.int .i32)) ∧ Lies w A' n' (s'.map (Value.int .i64)) ∧ Lies w B' m' (l'.map (Value.int .i32))

section
variable {w : World} {p : Nat} {A B A' B' : Option Addr} {n c m d n' c' m' d' : Nat} {x y z : Int} {s l s' l' : List Int}

theorem SlideAt.lt (h : SlideAt w p A n c B m d A' n' c' B' m' d' x y z s l s' l') : p < w.heap.size := lt_of_heap h.1

theorem SlideAt.kept (h : SlideAt w p A n c B m d A' n' c' B' m' d' x y z s l s' l') {w' : World} (hb : Below w.heap.size w w') : SlideAt w' p A n c B m d A' n' c' B' m' d' x y z s l s' l' :=
  ⟨(hb.block _ h.lt).trans h.1, h.2.1.below hb, h.2.2.1.below hb, h.2.2.2.1.below hb, h.2.2.2.2.below hb⟩

theorem SlideAt.c0 (h : SlideAt w p A n c B m d A' n' c' B' m' d' x y z s l s' l') : w.cell? ⟨p, 0, none⟩ = some (.slice A n c) := cell_of_row _ _ 0 _ _ (0, 0) h.1

theorem SlideAt.c1 (h : SlideAt w p A n c B m d A' n' c' B' m' d' x y z s l s' l') : w.cell? ⟨p, 1, none⟩ = some (.slice B m d) := cell_of_row _ _ 1 _ _ (0, 0) h.1

theorem SlideAt.c2 (h : SlideAt w p A n c B m d A' n' c' B' m' d' x y z s l s' l') : w.cell? ⟨p, 2, none⟩ = some (.slice A' n' c') := cell_of_row _ _ 2 _ _ (0, 0) h.1

theorem SlideAt.c3 (h : SlideAt w p A n c B m d A' n' c' B' m' d' x y z s l s' l') : w.cell? ⟨p, 3, none⟩ = some (.slice B' m' d') := cell_of_row _ _ 3 _ _ (0, 0) h.1

theorem SlideAt.c4 (h : SlideAt w p A n c B m d A' n' c' B' m' d' x y z s l s' l') : w.cell? ⟨p, 4, none⟩ = some (.int .i64 x) := cell_of_row _ _ 4 _ _ (0, 0) h.1

theorem SlideAt.c5 (h : SlideAt w p A n c B m d A' n' c' B' m' d' x y z s l s' l') : w.cell? ⟨p, 5, none⟩ = some (.int .i64 y) := cell_of_row _ _ 5 _ _ (0, 0) h.1

theorem SlideAt.c6 (h : SlideAt w p A n c B m d A' n' c' B' m' d' x y z s l s' l') : w.cell? ⟨p, 6, none⟩ = some (.int .i64 z) := cell_of_row _ _ 6 _ _ (0, 0) h.1

theorem SlideAt.S (h : SlideAt w p A n c B m d A' n' c' B' m' d' x y z s l s' l') : Lies w A n (s.map (Value.int .i64)) := h.2.1

theorem SlideAt.L (h : SlideAt w p A n c B m d A' n' c' B' m' d' x y z s l s' l') : Lies w B m (l.map (Value.int .i32)) := h.2.2.1

theorem SlideAt.S' (h : SlideAt w p A n c B m d A' n' c' B' m' d' x y z s l s' l') : Lies w A' n' (s'.map (Value.int .i64)) := h.2.2.2.1

theorem SlideAt.L' (h : SlideAt w p A n c B m d A' n' c' B' m' d' x y z s l s' l') : Lies w B' m' (l'.map (Value.int .i32)) := h.2.2.2.2

theorem SlideAt.new (w : World) (c d c' d' : Nat) (x y z : Int) (hA : Lies w A n (s.map (Value.int .i64))) (hB : Lies w B m (l.map (Value.int .i32))) (hA' : Lies w A' n' (s'.map (Value.int .i64))) (hB' : Lies w B' m' (l'.map (Value.int .i32))) :
    SlideAt (w.alloc (.cells #[.slice A n c, .slice B m d, .slice A' n' c', .slice B' m' d', .int .i64 x, .int .i64 y, .int .i64 z] 50)) w.heap.size A n c B m d A' n' c' B' m' d' x y z s l s' l' :=
  ⟨heap_alloc_new w _, hA.alloc _, hB.alloc _, hA'.alloc _, hB'.alloc _⟩

end

/-- A row of the call's own is no longer than it reaches. -/
theorem own_cap {w : World} {base : Nat} {e : TypeId} {A : Option Addr} {n c : Nat} {xs : List Value} (h : w.ownsRow base e 1 (.slice A n c) n xs) : n ≤ c := by
  rcases h.2 with ⟨_, h0⟩ | ⟨g, cap, cur, e0, _, _, hm, _⟩
  · omega
  · injection e0 with _ _ e3
    omega

theorem far8_no {n m n' m' : Nat} (h : ¬ far8 n m n' m' = true) : far8 n m n' m' = false ∧ n ≤ 1048576 ∧ m ≤ 4096 ∧ n' ≤ 1048576 ∧ m' ≤ 600 := by
  have h0 : far8 n m n' m' = false := by simpa using h
  refine ⟨h0, ?_⟩
  unfold far8 at h
  simp only [decide_eq_true_eq, not_or] at h
  obtain ⟨h1, h2, h3⟩ := h
  have h4 := tsz_lo6 (n := n) (m := m) (by omega)
  have h5 := tsz_lo6 (n := n') (m := m') (by omega)
  omega

theorem lies_len {w : World} {A : Option Addr} {n : Nat} {k : IntKind} {xs : List Int} (h : Lies w A n (xs.map (Value.int k))) : xs.length = n := by
  have := h.len
  simpa using this

theorem TenAt.own {w : World} {b1 b2 n c m d : Nat} {A B : Option Addr} {s l : List Int} (h1 : w.ownsRow b1 3 1 (.slice A n c) n (s.map (Value.int .i64))) (h2 : w.ownsRow b2 21 1 (.slice B m d) m (l.map (Value.int .i32))) :
    TenAt (w.alloc (.cells #[.slice A n c, .slice B m d] 25)) w.heap.size A B n c m d s l :=
  ⟨BoxT.new w _ _, (lies_of_own h1).alloc _, (lies_of_own h2).alloc _⟩

/-- What is right with a picture is right with another of that shape; so it is with windows. -/
theorem of8_same {s s' : List Int} {m m2 m' m2' : Nat} {step pad : Int} (h1 : twoE s m s m2 = 0) (h2 : twoE s' m' s' m2' = 0) : of8E s m s' m' step pad = of8E s m2 s' m' step pad ∧ of8E s m s' m' step pad = of8E s m s' m2' step pad ∧ m = m2 ∧ m' = m2' ∧ tenOk s m = true ∧ tenOk s' m' = true := by
  have e1 : tenOk s m = true ∧ tenOk s m2 = true := by
    by_cases h : tenOk s m = true ∧ tenOk s m2 = true
    · exact h
    · rw [twoE, if_neg h] at h1; cases h1
  have e2 : tenOk s' m' = true ∧ tenOk s' m2' = true := by
    by_cases h : tenOk s' m' = true ∧ tenOk s' m2' = true
    · exact h
    · rw [twoE, if_neg h] at h2; cases h2
  have f1 := (tenOk_iff.1 e1.1).2
  have f2 := (tenOk_iff.1 e1.2).2
  have f3 := (tenOk_iff.1 e2.1).2
  have f4 := (tenOk_iff.1 e2.2).2
  have g1 : m = m2 := by omega
  have g2 : m' = m2' := by omega
  subst g1 g2
  exact ⟨rfl, rfl, rfl, rfl, e1.1, e2.1⟩

end

end Go.Proofs.Ytknlllpfjineaaa
