/- ShapesLess holds for every list of numbers, whichever direction is made less by however much: the walk of its Go text. -/
import Derived.Test.YtlkldodkoeaedaaAlive4
import Derived.Test.YtlkldodkoeaedaaAppNil
import Derived.Test.YtlkldodkoeaedaaRegU
import Derived.Deep.QuietTactic
import Derived.BigQuiet
import Derived.Test.YtlkldodkoeaedaaShapeMath
import Derived.Deep.RegionHeld3
namespace Go.Proofs.Ytlkldodkoeaedaa
open Go.RowKit
set_option linter.unusedVariables false
set_option linter.unusedSimpArgs false

/-- The other directions. -/
def others (xs : List Int) (k : Nat) : List Int := xs.take k ++ xs.drop (k + 1)
theorem prodZ_others {xs : List Int} {k : Nat} (h : k < xs.length) : prodZ xs = dz (xs.getD k 0) * prodZ (others xs k) := by
  have e : xs = xs.take k ++ (xs.getD k 0 :: xs.drop (k + 1)) := by rw [← drop_at h, List.take_append_drop]
  have h1 : prodZ xs = prodZ (xs.take k ++ (xs.getD k 0 :: xs.drop (k + 1))) := by rw [← e]
  rw [h1, others, prodZ_append, prodZ_append, prodZ, ← Int.mul_assoc, Int.mul_comm (prodZ (xs.take k)) (dz _), Int.mul_assoc]
theorem prodZ_setD {xs : List Int} {k : Nat} (h : k < xs.length) (e : Int) : prodZ (xs.set k e) = dz e * prodZ (others xs k) := by
  have h1 := prodZ_others (xs := xs.set k e) (k := k) (by simpa using h)
  have h2 : (xs.set k e).getD k 0 = e := by simp [List.getD, h]
  have h3 : others (xs.set k e) k = others xs k := by
    unfold others
    rw [List.take_set_of_le (by omega), List.drop_set_of_lt (by omega)]
  rw [h1, h2, h3]
theorem others_len {xs : List Int} {k : Nat} (h : k < xs.length) : (others xs k).length + 1 = xs.length := by
  simp [others]; omega
theorem others_dim {xs : List Int} {k : Nat} (h : AllDim xs) : AllDim (others xs k) := by
  intro d hd
  rcases List.mem_append.1 hd with hd | hd
  · exact h d (List.mem_of_mem_take hd)
  · exact h d (List.mem_of_mem_drop hd)
theorem less_facts {xs : List Int} {k : Nat} (hs : 0 < sizeI xs) (h : k < xs.length) {e : Int} (he1 : 1 ≤ e) (he2 : e ≤ xs.getD k 0) :
    1 ≤ prodZ (others xs k) ∧ sizeI xs = xs.getD k 0 * prodZ (others xs k) ∧ sizeI (xs.set k e) = prodZ (others xs k) * e ∧ prodZ (others xs k) * e ≤ sizeI xs ∧ (2 ≤ xs.length → sizeI (others xs k) = prodZ (others xs k)) := by
  have hd := size_dims hs
  obtain ⟨h1, h4, h3⟩ := sizeI_pos hs
  have hk := hd.at h
  have hq := (others_dim (k := k) hd).pos
  have hle := sizeI_le xs
  have hp := prodZ_others h
  rw [hk.2.2] at hp
  have hez : dz e = e := by unfold dz; rw [if_neg (by omega)]
  have hset := prodZ_setD h e
  rw [hez, Int.mul_comm] at hset
  have hmul : prodZ (others xs k) * e ≤ prodZ (others xs k) * xs.getD k 0 := Int.mul_le_mul_of_nonneg_left he2 (by omega)
  have hc : prodZ (others xs k) * xs.getD k 0 = xs.getD k 0 * prodZ (others xs k) := Int.mul_comm _ _
  have hq2 : prodZ (others xs k) * 1 ≤ prodZ (others xs k) * xs.getD k 0 := Int.mul_le_mul_of_nonneg_left (by omega) (by omega)
  refine ⟨hq, by rw [h3, hp], ?_, by omega, fun hl => ?_⟩
  · unfold sizeI
    rw [List.length_set, if_neg (by omega), if_neg (by omega), hset]
  · have := others_len h
    unfold sizeI
    rw [if_neg (by omega), if_neg (by omega)]

theorem less_out (A : Option Addr) (n c : Nat) (a b : Int) (xs : List Int) (w : World) (hA : Lies w A n (xs.map (Value.int .i64))) (hn : n ≤ 281474976710656) (h : 10000 < n ∨ ¬ 0 < sizeI xs) :
    Calls Try.prog 6 #[.slice A n c, .int .u8 a, .int .u8 b] w fun e w' => e = .returned (.bool true) ∧ Below w.heap.size w w' := by
  by_cases h1 : 10000 < n
  · clear h
    go_enter Try.func6, Try.ntmps6
    go_wp2_with fail
    refine Calls.mono (alive4_any _) ?_
    rintro e w1 ⟨rfl, hb1⟩
    have HB1 := hide hb1
    have hs1 := hb1.size
    clear hb1
    go_wp2_with fail
    refine Calls.mono (alive4_any w1) ?_
    rintro e w2 ⟨rfl, hb2⟩
    have HB2 := hide (HB1.out.trans (hb2.mono hs1))
    clear hb2
    go_wp2
    go_ret
    exact ⟨rfl, HB2.out⟩
  · have HS := hide (show ¬ 0 < sizeI xs by omega)
    have HA := hide hA
    clear h hA
    go_enter Try.func6, Try.ntmps6
    go_wp2_with fail
    refine Calls.mono (alive4_any _) ?_
    rintro e w1 ⟨rfl, hb1⟩
    have HB1 := hide hb1
    have hs1 := hb1.size
    clear hb1
    go_wp2_with fail
    refine Calls.mono (check_any A n c xs w1 (HA.out.below HB1.out) hn) ?_
    rintro e w2 ⟨rfl, hb2⟩
    rw [show decide (0 < sizeI xs) = false from decide_eq_false (by have := HS.out; omega)]
    have HB2 := hide (HB1.out.trans (hb2.mono hs1))
    have hs2 := HB2.out.size
    clear hb2
    go_wp2_with fail
    refine Calls.mono (alive4_any w2) ?_
    rintro e w3 ⟨rfl, hb3⟩
    have HB3 := hide (HB2.out.trans (hb3.mono hs2))
    clear hb3
    go_wp2
    go_ret
    exact ⟨rfl, HB3.out⟩

theorem cell_kept {a w : World} {b o : Nat} {v : Value} (hb : Below a.heap.size a w) (h : a.cell? ⟨b, o, none⟩ = some v) : w.cell? ⟨b, o, none⟩ = some v :=
  (hb.cell (World.block_lt_of_cell? a _ h)).trans h

set_option maxRecDepth 100000 in
set_option maxHeartbeats 8000000 in
theorem less_walk (A : Option Addr) (n c a b : Nat) (xs : List Int) (w : World) (hA : Lies w A n (xs.map (Value.int .i64))) (hnc : n ≤ c) (ha : a < 256) (hb : b < 256) (hsz : 0 < sizeI xs) :
    Calls Try.prog 6 #[.slice A n c, .int .u8 (a : Int), .int .u8 (b : Int)] w fun e w' => e = .returned (.bool true) ∧ Below w.heap.size w w' := by
  obtain ⟨i0, hi, hz0, hz1, hz2⟩ := info_parts Try.infoI
  have HI := hide hi
  have HZ0 := hide hz0
  have HZ1 := hide hz1
  have HZ2 := hide hz2
  have hlen : xs.length = n := by have := hA.len; simpa using this
  obtain ⟨hn1, hn4, _⟩ := sizeI_pos hsz
  obtain ⟨bA, o, rfl, hbA, hcells⟩ := byte_at hA (by omega)
  obtain ⟨k, hk⟩ : ∃ k, k = a % n := ⟨_, rfl⟩
  have hkn : k < n := by rw [hk]; exact Nat.mod_lt _ (by omega)
  have hm1 : (a : Int).tmod (n : Int) = (k : Int) := by
    rw [Int.tmod_eq_emod_of_nonneg (by omega), hk]; rfl
  have hwk : IntKind.i64.wrap (k : Int) = (k : Int) := IntWalk.i64_in _ (by omega)
  have hnz : ¬ ((n : Int) = 0) := by omega
  have hcd := hcells k hkn
  have hdk := (size_dims hsz).at (k := k) (by omega)
  obtain ⟨d, hd⟩ : ∃ d, d = xs.getD k 0 := ⟨_, rfl⟩
  rw [← hd] at hcd hdk
  have hd1 : 1 ≤ d ∧ d ≤ 64 := ⟨hdk.1, hdk.2.1⟩
  obtain ⟨r, hr⟩ : ∃ r, r = (b : Int) % d := ⟨_, rfl⟩
  have hr0 : 0 ≤ r ∧ r < d := by rw [hr]; exact ⟨Int.emod_nonneg _ (by omega), Int.emod_lt_of_pos _ (by omega)⟩
  have hrm : (b : Int).tmod d = r := by rw [Int.tmod_eq_emod_of_nonneg (by omega), hr]
  obtain ⟨e, he⟩ : ∃ e, 1 + r = e := ⟨_, rfl⟩
  have he1 : 1 ≤ e ∧ e ≤ d := by omega
  have hwr : IntKind.i64.wrap r = r := IntWalk.i64_in _ (by omega)
  have hwe : IntKind.i64.wrap e = e := IntWalk.i64_in _ (by omega)
  have hdz : ¬ d = 0 := by omega
  have HF := hide (less_facts hsz (k := k) (by omega) he1.1 (by rw [← hd]; exact he1.2))
  obtain ⟨Q, hQ⟩ : ∃ Q, Q = prodZ (others xs k) := ⟨_, rfl⟩
  obtain ⟨N, hN⟩ : ∃ N, N = sizeI xs := ⟨_, rfl⟩
  rw [← hQ, ← hN, ← hd] at HF
  have HA := hide hA
  have HCD := hide hcd
  have HN := hide hN
  have HQ := hide hQ
  have HSZ := hide hsz
  have HL : Hid (xs.length = n ∧ 1 ≤ n ∧ n ≤ 4) := hide (by omega)
  have f0 : (0 : Int) ≤ (k : Int) := by omega
  have f1 : (k : Int) < (n : Int) := by omega
  have hb0 : (0 : Int) ≤ (b : Int) ∧ (b : Int) < 256 := by omega
  have ha0 : (0 : Int) ≤ (a : Int) ∧ (a : Int) < 256 := by omega
  have hn10 : (n : Int) ≤ 10000 := by omega
  clear hi hz0 hz1 hz2 hlen hk hA hcells hcd hd hr hQ hN hsz hdk hr0
  go_enter Try.func6, Try.ntmps6
  go_wp2_with fail
  refine Calls.mono (alive4_any _) ?_
  rintro e w1 ⟨rfl, hb1⟩
  have HB1 := hide hb1
  have hs1 := hb1.size
  clear hb1
  go_wp2_with fail
  refine Calls.mono (check_any _ n c xs w1 (HA.out.below HB1.out) (by omega)) ?_
  rintro e w2 ⟨rfl, hb2⟩
  rw [decide_eq_true HSZ.out]
  have HB2 := hide (HB1.out.trans (hb2.mono hs1))
  have hs2 := HB2.out.size
  clear hb2 HB1 hs1
  go_wp2_with fail
  refine Calls.mono (size_any _ n c xs w2 (HA.out.below HB2.out) (by omega)) ?_
  rintro e w3 ⟨rfl, hb3⟩
  rw [← HN.out]
  have HB3 := hide (HB2.out.trans (hb3.mono hs2))
  have hs3 := HB3.out.size
  clear hb3 HB2 hs2
  go_wp2_with (at_builtin; refine wpList_append_nil rfl _ _ 22 rfl 3 i0 (.int .i64 0) 8 Try.underlying22 HI.out HZ0.out HZ1.out HZ2.out rfl rfl _ n c .i64 xs rfl (HA.out.below HB3.out) (by simp) (by omega) (by unfold maxLen; omega) ?_)
  intro A4 c4 w4 ho4 hb4
  obtain ⟨g, rfl⟩ : ∃ g, A4 = some ⟨g, 0, none⟩ := by
    rcases own_addr ho4 with rfl | h
    · have := ho4.2
      rcases this with ⟨e0, h0⟩ | ⟨g, cap, cur, e0, _⟩
      · omega
      · injection e0 with e0; cases e0
    · exact h
  have hgb := (ho4.lt g rfl)
  have HB4 := hide (HB3.out.trans (hb4.mono hs3))
  have hs4 := HB4.out.size
  have hcs4 : w4.cell? ⟨bA, o + k, none⟩ = some (.int .i64 d) := cell_kept ((HB4.out)) HCD.out
  have hct4 : ∃ u, w4.cell? ⟨g, k, none⟩ = some u := ⟨_, by rw [ho4.cellAt k (by omega)]; exact List.getElem?_eq_getElem (by simp; have := HL.out; omega)⟩
  obtain ⟨u4, hct4⟩ := hct4
  have hft4 : w4.frozen? ⟨g, k, none⟩ = false := by
    rcases ho4.2 with ⟨e0, h0⟩ | ⟨g', cap, cur, e0, _, hh, _⟩
    · omega
    · injection e0 with e0
      injection e0 with e0
      injection e0 with e0
      subst e0
      simp [World.frozen?, hh]
  obtain ⟨w5, hw5⟩ : ∃ w5, w4.setCell ⟨g, k, none⟩ (.int .i64 e) = w5 := ⟨_, rfl⟩
  have ho5 := (ho4.stored k (.int .i64 e)).1
  rw [hw5, ← List.map_set] at ho5
  have HB5 : Hid (Below w.heap.size w w5) := hide (by rw [← hw5]; exact HB4.out.setCell (Nat.le_trans hs3 hgb.1) _)
  have hs5 := HB5.out.size
  have HT5 := hide (lies_of_own ho5)
  have x0 : w5.cell? ⟨bA, o + k, none⟩ = some (.int .i64 d) := cell_kept HB5.out HCD.out
  have x1 : w5.cell? ⟨g, k, none⟩ = some (.int .i64 e) := by rw [ho5.cellAt k (by omega), List.getElem?_map, List.getElem?_set_self (by have := HL.out; omega)]; rfl
  clear ho4 hb4 ho5 hgb HB4 hs4
  obtain ⟨q1, q2, q3, q4, q5⟩ := HF.out
  have hN4 : N ≤ 4096 := by rw [HN.out]; exact sizeI_le xs
  have hqd : N.tdiv d = Q := by rw [q2, Int.mul_tdiv_cancel_left _ (by omega)]
  have hQe0 : 0 ≤ Q * e := Int.mul_nonneg (by omega) (by omega)
  have hQN : Q ≤ N := by
    have h : 1 * Q ≤ d * Q := Int.mul_le_mul_of_nonneg_right (by omega) (by omega)
    omega
  have hwQ : IntKind.i64.wrap Q = Q := IntWalk.i64_in _ (by omega)
  have hwM : IntKind.i64.wrap (Q * e) = Q * e := IntWalk.i64_in _ (by omega)
  have HSE : Hid (sizeI (xs.set k e) = Q * e) := hide q3
  have HSO := hide q5
  have HQE : Hid (e < d → Q * e < N) := hide (fun h => by
    have h1 : Q * (e + 1) ≤ Q * d := Int.mul_le_mul_of_nonneg_left (by omega) (by omega)
    rw [Int.mul_add, Int.mul_one, Int.mul_comm Q d] at h1
    omega)
  clear q1 q2 q3 q4 q5
  obtain ⟨m, hm⟩ : ∃ m, n - (k + 1) = m := ⟨_, rfl⟩
  have HL2 : Hid (k + m + 1 = n) := hide (by omega)
  obtain ⟨A9, hA9⟩ : ∃ A9, (if c = k + 1 then some (⟨bA, o, none⟩ : Addr) else some ⟨bA, o + (k + 1), none⟩) = A9 := ⟨_, rfl⟩
  have HNIL : Hid (A9 = none → c - (k + 1) = 0) := hide (fun h => by rw [h] at hA9; split at hA9 <;> cases hA9)
  have HLD : Hid (Lies w A9 m ((xs.drop (k + 1)).map (Value.int .i64))) := hide (by
    have h := HA.out.drop (k := k + 1) (cap := c) (by omega) hnc
    rw [hm, ← List.map_drop] at h
    rw [← hA9]
    simpa [Addr.add_lit] using h)
  have HLT : Hid (Lies w (some ⟨bA, o, none⟩) k ((xs.take k).map (Value.int .i64))) := hide (by
    have h := HA.out.take (k := k) (by omega)
    rwa [← List.map_take] at h)
  have hwk1 : IntKind.i64.wrap ((k : Int) + 1) = (k : Int) + 1 := IntWalk.i64_in _ (by omega)
  have g0 : k ≤ n := by omega
  have g1 : k ≤ c := by omega
  have g2 : k + 1 ≤ n := by omega
  have g3 : (k : Int) ≤ (c : Int) := by omega
  have g4 : (k : Int) + 1 ≤ (n : Int) := by omega
  have g5 : (0 : Int) ≤ (k : Int) + 1 := by omega
  have g6 : (n : Int) ≤ (c : Int) := by omega
  have g7 : ((k : Int) + 1).toNat = k + 1 := by omega
  have g8 : (k : Int) ≤ (n : Int) := by omega
  have hmi : n ≤ 4 := HL.out.2.2
  by_cases hed : e < d
  · have hMN := HQE.out hed
    go_wp2_with fail
    go_region_held3 (fun w' => w'.cell? ⟨bA, o + k, none⟩ = some (.int .i64 d) ∧ w'.cell? ⟨g, k, none⟩ = some (.int .i64 e))
      (first | (exact ⟨cell_kept hb7 (cell_kept hb6 x0), cell_kept hb7 (cell_kept hb6 x1)⟩) | (exact ⟨cell_kept hb6 x0, cell_kept hb6 x1⟩) | (exact ⟨x0, x1⟩) | go_keep)
      (first
        | (go_at_call 8; refine Calls.mono (size_any (some ⟨g, 0, none⟩) n c4 (xs.set k e) _ (HT5.out.drewN 1) (by omega)) ?_; rw [HSE.out]; rintro e w6 ⟨rfl, hb6⟩)
        | (go_at_call 8; refine Calls.mono (size_any (some ⟨g, 0, none⟩) n c4 (xs.set k e) _ ((HT5.out.drewN 1).below hb6) (by omega)) ?_; rw [HSE.out]; rintro e w7 ⟨rfl, hb7⟩))
    have hb5w : Below w5.heap.size w5 w7 := ((below_drewN (Below.refl w5.heap.size w5) 1).trans hb6).trans (hb7.mono hb6.size)
    have HBt := hide (HB5.out.trans (hb5w.mono hs5))
    have hst := HBt.out.size
    have y0 : w7.cell? ⟨bA, o + k, none⟩ = some (.int .i64 d) := cell_kept hb5w x0
    clear hb5w x0 x1 HB5 hs5 HT5 HQE
    go_wp2_with fail
    go_region_held3 (fun _ => True) (trivial)
      (first
        | (refine step_append_nil rfl (.const (.slice none 0 0)) (.tmp 77) 22 rfl 3 i0 (.int .i64 0) 8 Try.underlying22 HI.out HZ0.out HZ1.out HZ2.out rfl rfl (some ⟨bA, o, none⟩) k _ .i64 (xs.take k) rfl ((HLT.out.below HBt.out).drewN 1) (by simp) (by omega) (by unfold maxLen; omega) ?_; intro A8 c8 w8 ho8 hb8)
        | (refine step_append_ints rfl (.tmp 78) (.tmp 82) 22 rfl 3 i0 (.int .i64 0) 8 Try.underlying22 HI.out HZ0.out HZ1.out HZ2.out rfl w7.heap.size A8 k c8 (k + m) .i64 (xs.take k) rfl ho8 hb8.size A9 m _ (xs.drop (k + 1)) rfl (((HLD.out.below HBt.out).drewN 1).below hb8) HNIL.out rfl (by have := HL2.out; omega) (by have := HL2.out; unfold maxLen; omega) ?_; intro A10 c10 w10 ho10 hb10))
    have hb710 : Below w7.heap.size w7 w10 := ((below_drewN (Below.refl w7.heap.size w7) 1).trans hb8).trans hb10
    have HB10 := hide (HBt.out.trans (hb710.mono hst))
    have hs10 := HB10.out.size
    have HU := hide (lies_of_own ho10)
    have z0 : w10.cell? ⟨bA, o + k, none⟩ = some (.int .i64 d) := cell_kept hb710 y0
    clear ho8 hb8 ho10 hb10 hb710 HBt hst y0
    obtain ⟨T, hT⟩ : ∃ T, T = k + m := ⟨_, rfl⟩
    rw [← hT] at HU ⊢
    have hT1 : T + 1 = n := by have := HL2.out; omega
    by_cases hT0 : T = 0
    · have HT1 := hide hT1
      clear hT hT1 hm
      subst hT0
      go_wp2_with fail
      go_quiet (fail)
      go_wp2
      go_ret
      exact ⟨rfl, by first | exact HB10.out | (repeat (first | exact HB10.out | refine below_drewN ?_ _))⟩
    · have hT2 : ((T : Int) == 0) = false := by simp [hT0]
      have HSO2 : Hid (sizeI (xs.take k ++ xs.drop (k + 1)) = Q) := hide (HSO.out (by have := HL.out; omega))
      have hTb : T ≤ 4 := by omega
      have HT1 := hide hT1
      clear hT hT0 hT1 hm
      go_wp2_with fail
      go_region_held3 (fun w' => w'.cell? ⟨bA, o + k, none⟩ = some (.int .i64 d))
        (first | (exact cell_kept hb11 z0) | (exact z0) | go_keep)
        (first | (go_at_call 8; refine Calls.mono (size_any A10 T c10 _ _ (HU.out.drewN 1) (by omega)) ?_; rw [HSO2.out]; rintro e w11 ⟨rfl, hb11⟩))
      have HB11 := hide (HB10.out.trans (((below_drewN (Below.refl w10.heap.size w10) 1).trans hb11).mono hs10))
      go_wp2
      go_ret
      exact ⟨rfl, HB11.out⟩
  · have hed2 : d ≤ e := by omega
    go_wp2_with fail
    have hS0 : Hid (w5.drew.cell? ⟨bA, o + k, none⟩ = some (.int .i64 d) ∧ w5.drew.cell? ⟨g, k, none⟩ = some (.int .i64 e)) := hide ⟨x0, x1⟩
    refine wp_region_U (fun _ w' => w'.cell? ⟨bA, o + k, none⟩ = some (.int .i64 d) ∧ w'.cell? ⟨g, k, none⟩ = some (.int .i64 e)) 50 (by kernel_rfl) ?_
    refine wpAnyU_take (i := 0) (oi := { dst := some 44, op := _, type := _, pos := _, after := _, guard := none }) (v := .slice (some ⟨g, 0, none⟩) n c4) rfl (by kernel_rfl) (by kernel_rfl) (by kernel_rfl) (by kernel_rfl) (fun _ _ _ h => h) (yields_take rfl (fun w' hw => by obtain ⟨h1, h2⟩ := hw.const; go_simp)) hS0.out ?_
    simp only [Act.put, List.setIfInBounds_toArray, List.set_cons_zero, List.set_cons_succ]
    refine wpAnyU_take (i := 2) (oi := { dst := some 46, op := _, type := _, pos := _, after := _, guard := none }) (v := .int .i64 N) rfl (by kernel_rfl) (by kernel_rfl) (by kernel_rfl) (by kernel_rfl) (fun _ _ _ h => h) (yields_take rfl (fun w' hw => by obtain ⟨h1, h2⟩ := hw.const; go_simp)) hS0.out ?_
    simp only [Act.put, List.setIfInBounds_toArray, List.set_cons_zero, List.set_cons_succ]
    refine wpAnyU_take (i := 3) (oi := { dst := some 47, op := _, type := _, pos := _, after := _, guard := none }) (v := .slice (some ⟨bA, o, none⟩) n c) rfl (by kernel_rfl) (by kernel_rfl) (by kernel_rfl) (by kernel_rfl) (fun _ _ _ h => h) (yields_take rfl (fun w' hw => by obtain ⟨h1, h2⟩ := hw.const; go_simp)) hS0.out ?_
    simp only [Act.put, List.setIfInBounds_toArray, List.set_cons_zero, List.set_cons_succ]
    refine wpAnyU_take (i := 4) (oi := { dst := some 48, op := _, type := _, pos := _, after := _, guard := none }) (v := .int .i64 (k : Int)) rfl (by kernel_rfl) (by kernel_rfl) (by kernel_rfl) (by kernel_rfl) (fun _ _ _ h => h) (yields_take rfl (fun w' hw => by obtain ⟨h1, h2⟩ := hw.const; go_simp)) hS0.out ?_
    simp only [Act.put, List.setIfInBounds_toArray, List.set_cons_zero, List.set_cons_succ]
    refine wpAnyU_take (i := 5) (oi := { dst := some 49, op := _, type := _, pos := _, after := _, guard := none }) (v := .pointer (some ⟨bA, o + k, none⟩)) rfl (by kernel_rfl) (by kernel_rfl) (by kernel_rfl) (by kernel_rfl) (fun _ _ _ h => h) (yields_take rfl (fun w' hw => by obtain ⟨h1, h2⟩ := hw.const; go_simp)) hS0.out ?_
    simp only [Act.put, List.setIfInBounds_toArray, List.set_cons_zero, List.set_cons_succ]
    refine wpAnyU_take (i := 6) (oi := { dst := some 50, op := _, type := _, pos := _, after := _, guard := none }) (v := .int .i64 d) rfl (by kernel_rfl) (by kernel_rfl) (by kernel_rfl) (by kernel_rfl) (fun _ _ _ h => h) (yields_take rfl (fun w' hw => by obtain ⟨h1, h2⟩ := hw.const; go_simp)) hS0.out ?_
    simp only [Act.put, List.setIfInBounds_toArray, List.set_cons_zero, List.set_cons_succ]
    refine wpAnyU_take (i := 7) (oi := { dst := some 51, op := _, type := _, pos := _, after := _, guard := none }) (v := .int .i64 Q) rfl (by kernel_rfl) (by kernel_rfl) (by kernel_rfl) (by kernel_rfl) (fun _ _ _ h => h) (yields_take rfl (fun w' hw => by obtain ⟨h1, h2⟩ := hw.const; go_simp)) hS0.out ?_
    simp only [Act.put, List.setIfInBounds_toArray, List.set_cons_zero, List.set_cons_succ]
    refine wpAnyU_take (i := 8) (oi := { dst := some 52, op := _, type := _, pos := _, after := _, guard := none }) (v := .slice (some ⟨g, 0, none⟩) n c4) rfl (by kernel_rfl) (by kernel_rfl) (by kernel_rfl) (by kernel_rfl) (fun _ _ _ h => h) (yields_take rfl (fun w' hw => by obtain ⟨h1, h2⟩ := hw.const; go_simp)) hS0.out ?_
    simp only [Act.put, List.setIfInBounds_toArray, List.set_cons_zero, List.set_cons_succ]
    refine wpAnyU_take (i := 9) (oi := { dst := some 53, op := _, type := _, pos := _, after := _, guard := none }) (v := .int .i64 (k : Int)) rfl (by kernel_rfl) (by kernel_rfl) (by kernel_rfl) (by kernel_rfl) (fun _ _ _ h => h) (yields_take rfl (fun w' hw => by obtain ⟨h1, h2⟩ := hw.const; go_simp)) hS0.out ?_
    simp only [Act.put, List.setIfInBounds_toArray, List.set_cons_zero, List.set_cons_succ]
    refine wpAnyU_take (i := 10) (oi := { dst := some 54, op := _, type := _, pos := _, after := _, guard := none }) (v := .pointer (some ⟨g, k, none⟩)) rfl (by kernel_rfl) (by kernel_rfl) (by kernel_rfl) (by kernel_rfl) (fun _ _ _ h => h) (yields_take rfl (fun w' hw => by obtain ⟨h1, h2⟩ := hw.const; go_simp)) hS0.out ?_
    simp only [Act.put, List.setIfInBounds_toArray, List.set_cons_zero, List.set_cons_succ]
    refine wpAnyU_take (i := 11) (oi := { dst := some 55, op := _, type := _, pos := _, after := _, guard := none }) (v := .int .i64 e) rfl (by kernel_rfl) (by kernel_rfl) (by kernel_rfl) (by kernel_rfl) (fun _ _ _ h => h) (yields_take rfl (fun w' hw => by obtain ⟨h1, h2⟩ := hw.const; go_simp)) hS0.out ?_
    simp only [Act.put, List.setIfInBounds_toArray, List.set_cons_zero, List.set_cons_succ]
    refine wpAnyU_take (i := 12) (oi := { dst := some 56, op := _, type := _, pos := _, after := _, guard := none }) (v := .int .i64 (Q * e)) rfl (by kernel_rfl) (by kernel_rfl) (by kernel_rfl) (by kernel_rfl) (fun _ _ _ h => h) (yields_take rfl (fun w' hw => by obtain ⟨h1, h2⟩ := hw.const; go_simp)) hS0.out ?_
    simp only [Act.put, List.setIfInBounds_toArray, List.set_cons_zero, List.set_cons_succ]
    refine wpAnyU_one (i := 1) (by kernel_rfl) rfl ?_
    intro K hK
    go_simp
    refine Calls.mono (size_any (some ⟨g, 0, none⟩) n c4 (xs.set k e) _ (HT5.out.drewN 1) (by omega)) ?_
    rw [HSE.out]
    rintro e w6 ⟨rfl, hb6⟩
    dsimp only
    have hS1 : Hid (w6.cell? ⟨bA, o + k, none⟩ = some (.int .i64 d) ∧ w6.cell? ⟨g, k, none⟩ = some (.int .i64 e)) := hide ⟨cell_kept hb6 hS0.out.1, cell_kept hb6 hS0.out.2⟩
    refine hK.out _ _ hS1.out (fun _ => ?_)
    clear hK K hS0
    refine wpAnyU_take (i := 13) (oi := { dst := some 57, op := _, type := _, pos := _, after := _, guard := none }) (v := .bool false) rfl (by kernel_rfl) (by kernel_rfl) (by kernel_rfl) (by kernel_rfl) (fun _ _ _ h => h) (yields_take rfl (fun w' hw => by obtain ⟨h1, h2⟩ := hw.const; go_simp)) hS1.out ?_
    simp only [Act.put, List.setIfInBounds_toArray, List.set_cons_zero, List.set_cons_succ]
    refine wpAnyU_take (i := 14) (oi := { dst := some 58, op := _, type := _, pos := _, after := _, guard := none }) (v := .bool false) rfl (by kernel_rfl) (by kernel_rfl) (by kernel_rfl) (by kernel_rfl) (fun _ _ _ h => h) (yields_take rfl (fun w' hw => by obtain ⟨h1, h2⟩ := hw.const; go_simp)) hS1.out ?_
    simp only [Act.put, List.setIfInBounds_toArray, List.set_cons_zero, List.set_cons_succ]
    refine wpAnyU_take (i := 15) (oi := { dst := some 59, op := _, type := _, pos := _, after := _, guard := some (14, false) }) (v := .slice (some ⟨g, 0, none⟩) n c4) rfl (by kernel_rfl) (by kernel_rfl) (by kernel_rfl) (by kernel_rfl) (fun _ _ _ h => h) (yields_take rfl (fun w' hw => by obtain ⟨h1, h2⟩ := hw.const; go_simp)) hS1.out ?_
    simp only [Act.put, List.setIfInBounds_toArray, List.set_cons_zero, List.set_cons_succ]
    refine wpAnyU_take (i := 16) (oi := { dst := some 60, op := _, type := _, pos := _, after := _, guard := some (14, false) }) (v := .int .i64 (k : Int)) rfl (by kernel_rfl) (by kernel_rfl) (by kernel_rfl) (by kernel_rfl) (fun _ _ _ h => h) (yields_take rfl (fun w' hw => by obtain ⟨h1, h2⟩ := hw.const; go_simp)) hS1.out ?_
    simp only [Act.put, List.setIfInBounds_toArray, List.set_cons_zero, List.set_cons_succ]
    refine wpAnyU_take (i := 17) (oi := { dst := some 61, op := _, type := _, pos := _, after := _, guard := some (14, false) }) (v := .pointer (some ⟨g, k, none⟩)) rfl (by kernel_rfl) (by kernel_rfl) (by kernel_rfl) (by kernel_rfl) (fun _ _ _ h => h) (yields_take rfl (fun w' hw => by obtain ⟨h1, h2⟩ := hw.const; go_simp)) hS1.out ?_
    simp only [Act.put, List.setIfInBounds_toArray, List.set_cons_zero, List.set_cons_succ]
    refine wpAnyU_take (i := 18) (oi := { dst := some 62, op := _, type := _, pos := _, after := _, guard := some (14, false) }) (v := .int .i64 e) rfl (by kernel_rfl) (by kernel_rfl) (by kernel_rfl) (by kernel_rfl) (fun _ _ _ h => h) (yields_take rfl (fun w' hw => by obtain ⟨h1, h2⟩ := hw.const; go_simp)) hS1.out ?_
    simp only [Act.put, List.setIfInBounds_toArray, List.set_cons_zero, List.set_cons_succ]
    refine wpAnyU_take (i := 19) (oi := { dst := some 63, op := _, type := _, pos := _, after := _, guard := some (14, false) }) (v := .slice (some ⟨bA, o, none⟩) n c) rfl (by kernel_rfl) (by kernel_rfl) (by kernel_rfl) (by kernel_rfl) (fun _ _ _ h => h) (yields_take rfl (fun w' hw => by obtain ⟨h1, h2⟩ := hw.const; go_simp)) hS1.out ?_
    simp only [Act.put, List.setIfInBounds_toArray, List.set_cons_zero, List.set_cons_succ]
    refine wpAnyU_take (i := 20) (oi := { dst := some 64, op := _, type := _, pos := _, after := _, guard := some (14, false) }) (v := .int .i64 (k : Int)) rfl (by kernel_rfl) (by kernel_rfl) (by kernel_rfl) (by kernel_rfl) (fun _ _ _ h => h) (yields_take rfl (fun w' hw => by obtain ⟨h1, h2⟩ := hw.const; go_simp)) hS1.out ?_
    simp only [Act.put, List.setIfInBounds_toArray, List.set_cons_zero, List.set_cons_succ]
    refine wpAnyU_take (i := 21) (oi := { dst := some 65, op := _, type := _, pos := _, after := _, guard := some (14, false) }) (v := .pointer (some ⟨bA, o + k, none⟩)) rfl (by kernel_rfl) (by kernel_rfl) (by kernel_rfl) (by kernel_rfl) (fun _ _ _ h => h) (yields_take rfl (fun w' hw => by obtain ⟨h1, h2⟩ := hw.const; go_simp)) hS1.out ?_
    simp only [Act.put, List.setIfInBounds_toArray, List.set_cons_zero, List.set_cons_succ]
    refine wpAnyU_take (i := 22) (oi := { dst := some 66, op := _, type := _, pos := _, after := _, guard := some (14, false) }) (v := .int .i64 d) rfl (by kernel_rfl) (by kernel_rfl) (by kernel_rfl) (by kernel_rfl) (fun _ _ _ h => h) (yields_take rfl (fun w' hw => by obtain ⟨h1, h2⟩ := hw.const; go_simp)) hS1.out ?_
    simp only [Act.put, List.setIfInBounds_toArray, List.set_cons_zero, List.set_cons_succ]
    refine wpAnyU_take (i := 23) (oi := { dst := some 67, op := _, type := _, pos := _, after := _, guard := some (14, false) }) (v := .bool false) rfl (by kernel_rfl) (by kernel_rfl) (by kernel_rfl) (by kernel_rfl) (fun _ _ _ h => h) (yields_take rfl (fun w' hw => by obtain ⟨h1, h2⟩ := hw.const; go_simp)) hS1.out ?_
    simp only [Act.put, List.setIfInBounds_toArray, List.set_cons_zero, List.set_cons_succ]
    refine wpAnyU_take (i := 24) (oi := { dst := some 68, op := _, type := _, pos := _, after := _, guard := some (14, false) }) (v := .bool false) rfl (by kernel_rfl) (by kernel_rfl) (by kernel_rfl) (by kernel_rfl) (fun _ _ _ h => h) (yields_take rfl (fun w' hw => by obtain ⟨h1, h2⟩ := hw.const; go_simp)) hS1.out ?_
    simp only [Act.put, List.setIfInBounds_toArray, List.set_cons_zero, List.set_cons_succ]
    refine wpAnyU_take (i := 25) (oi := { dst := some 69, op := _, type := _, pos := _, after := _, guard := some (24, true) }) (v := undef) rfl (by kernel_rfl) (by kernel_rfl) (by kernel_rfl) (by kernel_rfl) (fun _ _ _ h => h) (.inr ⟨rfl, rfl⟩) hS1.out ?_
    simp only [Act.put, List.setIfInBounds_toArray, List.set_cons_zero, List.set_cons_succ]
    refine wpAnyU_take (i := 26) (oi := { dst := some 70, op := _, type := _, pos := _, after := _, guard := some (24, true) }) (v := undef) rfl (by kernel_rfl) (by kernel_rfl) (by kernel_rfl) (by kernel_rfl) (fun _ _ _ h => h) (.inr ⟨rfl, rfl⟩) hS1.out ?_
    simp only [Act.put, List.setIfInBounds_toArray, List.set_cons_zero, List.set_cons_succ]
    refine wpAnyU_take (i := 27) (oi := { dst := some 71, op := _, type := _, pos := _, after := _, guard := some (24, true) }) (v := undef) rfl (by kernel_rfl) (by kernel_rfl) (by kernel_rfl) (by kernel_rfl) (fun _ _ _ h => h) (.inr ⟨rfl, rfl⟩) hS1.out ?_
    simp only [Act.put, List.setIfInBounds_toArray, List.set_cons_zero, List.set_cons_succ]
    refine wpAnyU_take (i := 28) (oi := { dst := some 72, op := _, type := _, pos := _, after := _, guard := some (24, true) }) (v := undef) rfl (by kernel_rfl) (by kernel_rfl) (by kernel_rfl) (by kernel_rfl) (fun _ _ _ h => h) (.inr ⟨rfl, rfl⟩) hS1.out ?_
    simp only [Act.put, List.setIfInBounds_toArray, List.set_cons_zero, List.set_cons_succ]
    refine wpAnyU_take (i := 29) (oi := { dst := some 73, op := _, type := _, pos := _, after := _, guard := some (14, false) }) (v := .bool false) rfl (by kernel_rfl) (by kernel_rfl) (by kernel_rfl) (by kernel_rfl) (fun _ _ _ h => h) (yields_take rfl (fun w' hw => by obtain ⟨h1, h2⟩ := hw.const; go_simp)) hS1.out ?_
    simp only [Act.put, List.setIfInBounds_toArray, List.set_cons_zero, List.set_cons_succ]
    refine wpAnyU_take (i := 30) (oi := { dst := some 74, op := _, type := _, pos := _, after := _, guard := none }) (v := .bool false) rfl (by kernel_rfl) (by kernel_rfl) (by kernel_rfl) (by kernel_rfl) (fun _ _ _ h => h) (yields_take rfl (fun w' hw => by obtain ⟨h1, h2⟩ := hw.const; go_simp)) hS1.out ?_
    simp only [Act.put, List.setIfInBounds_toArray, List.set_cons_zero, List.set_cons_succ]
    refine wpAnyU_done (by kernel_rfl) ?_ _
    clear hS1
    have hb5w : Below w5.heap.size w5 w6 := (below_drewN (Below.refl w5.heap.size w5) 1).trans hb6
    have HBt := hide (HB5.out.trans (hb5w.mono hs5))
    have hst := HBt.out.size
    have y0 : w6.cell? ⟨bA, o + k, none⟩ = some (.int .i64 d) := cell_kept hb5w x0
    clear hb5w x0 x1 HB5 hs5 HT5 HQE
    go_wp2_with fail
    go_region_held3 (fun _ => True) (trivial)
      (first
        | (refine step_append_nil rfl (.const (.slice none 0 0)) (.tmp 77) 22 rfl 3 i0 (.int .i64 0) 8 Try.underlying22 HI.out HZ0.out HZ1.out HZ2.out rfl rfl (some ⟨bA, o, none⟩) k _ .i64 (xs.take k) rfl ((HLT.out.below HBt.out).drewN 1) (by simp) (by omega) (by unfold maxLen; omega) ?_; intro A8 c8 w8 ho8 hb8)
        | (refine step_append_ints rfl (.tmp 78) (.tmp 82) 22 rfl 3 i0 (.int .i64 0) 8 Try.underlying22 HI.out HZ0.out HZ1.out HZ2.out rfl w6.heap.size A8 k c8 (k + m) .i64 (xs.take k) rfl ho8 hb8.size A9 m _ (xs.drop (k + 1)) rfl (((HLD.out.below HBt.out).drewN 1).below hb8) HNIL.out rfl (by have := HL2.out; omega) (by have := HL2.out; unfold maxLen; omega) ?_; intro A10 c10 w10 ho10 hb10))
    have hb710 : Below w6.heap.size w6 w10 := ((below_drewN (Below.refl w6.heap.size w6) 1).trans hb8).trans hb10
    have HB10 := hide (HBt.out.trans (hb710.mono hst))
    have hs10 := HB10.out.size
    have HU := hide (lies_of_own ho10)
    have z0 : w10.cell? ⟨bA, o + k, none⟩ = some (.int .i64 d) := cell_kept hb710 y0
    clear ho8 hb8 ho10 hb10 hb710 HBt hst y0
    obtain ⟨T, hT⟩ : ∃ T, T = k + m := ⟨_, rfl⟩
    rw [← hT] at HU ⊢
    have hT1 : T + 1 = n := by have := HL2.out; omega
    by_cases hT0 : T = 0
    · have HT1 := hide hT1
      clear hT hT1 hm
      subst hT0
      go_wp2_with fail
      go_quiet (fail)
      go_wp2
      go_ret
      exact ⟨rfl, by first | exact HB10.out | (repeat (first | exact HB10.out | refine below_drewN ?_ _))⟩
    · have hT2 : ((T : Int) == 0) = false := by simp [hT0]
      have HSO2 : Hid (sizeI (xs.take k ++ xs.drop (k + 1)) = Q) := hide (HSO.out (by have := HL.out; omega))
      have hTb : T ≤ 4 := by omega
      have HT1 := hide hT1
      clear hT hT0 hT1 hm
      go_wp2_with fail
      go_region_held3 (fun w' => w'.cell? ⟨bA, o + k, none⟩ = some (.int .i64 d))
        (first | (exact cell_kept hb11 z0) | (exact z0) | go_keep)
        (first | (go_at_call 8; refine Calls.mono (size_any A10 T c10 _ _ (HU.out.drewN 1) (by omega)) ?_; rw [HSO2.out]; rintro e w11 ⟨rfl, hb11⟩))
      have HB11 := hide (HB10.out.trans (((below_drewN (Below.refl w10.heap.size w10) 1).trans hb11).mono hs10))
      go_wp2
      go_ret
      exact ⟨rfl, HB11.out⟩

theorem less_any (A : Option Addr) (n c : Nat) (a b : Int) (xs : List Int) (w : World) (ha : 0 ≤ a ∧ a < 256) (hb : 0 ≤ b ∧ b < 256) (hA : Lies w A n (xs.map (Value.int .i64))) (hnc : n ≤ c) (hn : n * 8 ≤ 140737488351232) :
    Calls Try.prog 6 #[.slice A n c, .int .u8 a, .int .u8 b] w fun e w' => e = .returned (.bool true) ∧ Below w.heap.size w w' := by
  by_cases h : 0 < sizeI xs
  · obtain ⟨a', rfl⟩ : ∃ a' : Nat, a = (a' : Int) := ⟨a.toNat, by omega⟩
    obtain ⟨b', rfl⟩ : ∃ b' : Nat, b = (b' : Int) := ⟨b.toNat, by omega⟩
    exact less_walk A n c a' b' xs w hA hnc (by omega) (by omega) h
  · exact less_out A n c a b xs w hA (by omega) (.inr h)
end Go.Proofs.Ytlkldodkoeaedaa
