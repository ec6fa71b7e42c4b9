/- Contract of Made of the statements on products. -/
import Derived.Test.YtlalfjlcgabnnaaAlive7
namespace Go.Proofs.Ytlalfjlcgabnnaa
open Go.RowKit
set_option linter.unusedVariables false
set_option linter.unusedSimpArgs false
set_option maxRecDepth 100000

def dm7 (x : Int) : Nat := 1 + (x % 9).toNat

theorem dm7_le {x : Int} (h : 0 ≤ x ∧ x < 256) : 1 ≤ dm7 x ∧ dm7 x ≤ 9 := by unfold dm7; omega

def madeN (zs : List Int) (k : Nat) (i : Nat) : Int := if k = 0 then 0 else wrap32 (zs.getD (i % k) 0 + ((i / k : Nat) : Int))

def madeL (zs : List Int) (q : Nat) : List Int := (List.range q).map (madeN zs zs.length)

theorem madeL_len (zs : List Int) (q : Nat) : (madeL zs q).length = q := by simp [madeL]

theorem madeL_at {zs : List Int} {q i : Nat} (h : i < q) : (madeL zs q).getD i 0 = madeN zs zs.length i := by simp [madeL, List.getD, h]

theorem madeL_words (zs : List Int) (q : Nat) : ∀ z ∈ madeL zs q, -2147483648 ≤ z ∧ z < 2147483648 := by
  intro z hz
  simp only [madeL, List.mem_map] at hz
  obtain ⟨i, _, rfl⟩ := hz
  unfold madeN
  split
  · omega
  · exact wrap32_range _

set_option maxHeartbeats 2000000 in
theorem made7_any (x y : Int) (A : Option Addr) (n c : Nat) (zs : List Int) (w : World) (hx : 0 ≤ x ∧ x < 256) (hy : 0 ≤ y ∧ y < 256) (hA : Lies w A n (zs.map (Value.int .i32))) (hn : n ≤ 1000) :
    Calls Try.prog 7 #[.int .u8 x, .int .u8 y, .slice A n c] w fun e w' => ∃ g1 c1 g2, e = .returned (tenV (some ⟨g1, 0, none⟩) 2 c1 (some ⟨g2, 0, none⟩) (dm7 x * dm7 y) (dm7 x * dm7 y)) ∧
      w'.ownsRow w.heap.size 3 1 (.slice (some ⟨g1, 0, none⟩) 2 c1) 2 (([(dm7 x : Int), (dm7 y : Int)] : List Int).map (Value.int .i64)) ∧ w'.ownsRow w.heap.size 21 1 (.slice (some ⟨g2, 0, none⟩) (dm7 x * dm7 y) (dm7 x * dm7 y)) (dm7 x * dm7 y) ((madeL zs (dm7 x * dm7 y)).map (Value.int .i32)) ∧ g1 ≠ g2 ∧ Below w.heap.size w w' := by
  obtain ⟨hx0, hx1⟩ := hx
  obtain ⟨hy0, hy1⟩ := hy
  have hd1 := dm7_le (x := x) ⟨hx0, hx1⟩
  have hd2 := dm7_le (x := y) ⟨hy0, hy1⟩
  have e1 : 1 + x % 9 = (dm7 x : Int) := by unfold dm7; omega
  have e2 : 1 + y % 9 = (dm7 y : Int) := by unfold dm7; omega
  obtain ⟨M, hM⟩ : ∃ M, M = dm7 x := ⟨_, rfl⟩
  obtain ⟨N, hN⟩ : ∃ N, N = dm7 y := ⟨_, rfl⟩
  rw [← hM] at hd1 e1 ⊢
  rw [← hN] at hd2 e2 ⊢
  clear hM hN
  obtain ⟨hz1, hz2, hz3⟩ := two_size (M := M) (N := N) (by omega) (by omega)
  obtain ⟨q, hq⟩ : ∃ q, q = M * N := ⟨_, rfl⟩
  rw [← hq] at hz1 hz2 hz3 ⊢
  have hq81 : q ≤ 81 := by have := Nat.mul_le_mul hd1.2 hd2.2; omega
  have HSZ := hide hz1
  clear hz1 hq
  obtain ⟨Z, hZ⟩ : ∃ Z, Z = madeL zs q := ⟨_, rfl⟩
  rw [← hZ]
  have HZL : Hid (Z.length = q) := hide (by rw [hZ, madeL_len])
  have hzl : zs.length = n := by have := hA.len; simpa using this
  have HZ0 : Hid (n = 0 → ∀ k, k < q → Z.getD k 0 = 0) := hide (fun h0 k hk => by rw [hZ, madeL_at hk, madeN, hzl, if_pos h0])
  have HZK : Hid (0 < n → ∀ k, k < q → Z.getD k 0 = wrap32 (zs.getD (k % n) 0 + ((k / n : Nat) : Int))) := hide (fun h0 k hk => by rw [hZ, madeL_at hk, madeN, hzl, if_neg (by omega)])
  clear hZ hzl
  obtain ⟨W0, hW0⟩ : ∃ W0, W0 = (w.alloc (.cells #[.slice none 0 0, .slice none 0 0] 28)).alloc (.cells #[.int .i64 (M : Int), .int .i64 (N : Int)] 3) := ⟨_, rfl⟩
  have HB0 : Hid (Below w.heap.size w W0) := hide (by rw [hW0]; exact ((Below.refl w.heap.size w).alloc (Nat.le_refl _) _).alloc (by simp only [World.size_alloc]; omega) _)
  have HS0 : Hid (W0.heap.size = w.heap.size + 2) := hide (by rw [hW0]; simp)
  have HXR : Hid (BoxT W0 w.heap.size (.slice none 0 0) (.slice none 0 0)) := hide (by rw [hW0]; exact (BoxT.new w _ _).alloc _)
  have HLS : Hid (Lies W0 (some ⟨w.heap.size + 1, 0, none⟩) 2 (([(M : Int), (N : Int)] : List Int).map (Value.int .i64))) := hide (by
    rw [hW0]
    have h := lit_lies (w.alloc (.cells #[.slice none 0 0, .slice none 0 0] 28)) .i64 [(M : Int), (N : Int)] 3
    rwa [World.size_alloc] at h)
  have hW0' := hW0.symm
  clear hW0
  have HA := hide (hA.below HB0.out)
  have HA0 := hide hA
  clear hA
  go_enter Try.func7, Try.ntmps7
  go_wp2_with fail
  refine Calls.mono (new_ok (some ⟨w.heap.size + 1, 0, none⟩) 2 2 q [(M : Int), (N : Int)] W0 HLS.out HSZ.out (by omega)) ?_
  rintro e w4 ⟨g1, c1, g2, rfl, ho1, ho2, hne, hb4⟩
  have lt1 := ho1.lt g1 rfl
  have lt2 := ho2.lt g2 rfl
  obtain ⟨W1, hW1⟩ : ∃ W1, W1 = w4.alloc (.cells #[.slice (some ⟨g1, 0, none⟩) 2 c1, .slice (some ⟨g2, 0, none⟩) q q] 28) := ⟨_, rfl⟩
  have HB1 : Hid (Below W0.heap.size W0 W1) := hide (by rw [hW1]; exact hb4.alloc hb4.size _)
  have HT1 : Hid (BoxT W1 w4.heap.size (.slice (some ⟨g1, 0, none⟩) 2 c1) (.slice (some ⟨g2, 0, none⟩) q q)) := hide (by rw [hW1]; exact BoxT.new w4 _ _)
  have HO1 : Hid (W1.ownsRow W0.heap.size 3 1 (.slice (some ⟨g1, 0, none⟩) 2 c1) 2 (([(M : Int), (N : Int)] : List Int).map (Value.int .i64))) := hide (by rw [hW1]; exact ho1.alloc _)
  have HF1 : Hid (FillAt W1 g2 q Z 0) := hide (by rw [hW1]; exact FillAt.of_own (ho2.alloc _) Z)
  have HSZ1 : Hid (W1.heap.size = w4.heap.size + 1) := hide (by rw [hW1]; simp)
  have hW1' := hW1.symm
  clear hW1 ho1 ho2 hb4
  have HLB : Hid (∀ v, W1.grownBy v (some g2) → 0 < n → Lies v A n (zs.map (Value.int .i32))) := hide (fun v hv h0 => by
    have hbw := HB0.out.trans (HB1.out.mono HB0.out.size)
    exact grown_lies hv (HA0.out.below hbw) (lies_block HA0.out h0 (by have := HS0.out; omega)))
  have HF : Hid (∀ v, W1.grownBy v (some g2) → v.cell? ⟨w4.heap.size, 1, none⟩ = some (.slice (some ⟨g2, 0, none⟩) q q)) := hide (fun v hv => by
    have h8 : BoxT v w4.heap.size (.slice (some ⟨g1, 0, none⟩) 2 c1) (.slice (some ⟨g2, 0, none⟩) q q) := (hv.block _ (by have := HSZ1.out; omega) (by simp; omega)).trans HT1.out
    exact h8.c1)
  go_wp2_with fail
  clear hW1' hW0'
  go_loopw [10] (fun i wr => ∃ k : Nat, k ≤ q ∧ i = .int .i64 k ∧ Hid (FillAt wr g2 q Z k) ∧ Hid (W1.grownBy wr (some g2))) (fun i _ => q - (intOf i).toNat)
  case atStart => exact ⟨0, Nat.zero_le _, rfl, HF1, hide (World.grownBy.refl _ _)⟩
  case round =>
    obtain ⟨k, hk, rfl, HFF, HG⟩ := hrel
    have t1 := HF.out _ HG.out
    by_cases hgo : k < q ∧ 0 < n
    · obtain ⟨hlt, hnp⟩ := hgo
      have h3 : (k : Int) < (q : Int) := by omega
      have h0 : (0 : Int) ≤ (k : Int) := by omega
      have hn1 : (0 : Int) < (n : Int) := by omega
      have hn0 : ¬ n = 0 := by omega
      obtain ⟨b, o, rfl, hbk, hx⟩ := byte_at (HLB.out _ HG.out hnp) hnp
      obtain ⟨r, hr⟩ : ∃ r, r = k % n := ⟨_, rfl⟩
      obtain ⟨d, hd⟩ : ∃ d, d = k / n := ⟨_, rfl⟩
      obtain ⟨z, hz⟩ : ∃ z, z = zs.getD r 0 := ⟨_, rfl⟩
      obtain ⟨v, hv⟩ : ∃ v, v = wrap32 (z + (d : Int)) := ⟨_, rfl⟩
      have hrn : r < n := by rw [hr]; exact Nat.mod_lt _ hnp
      have hdk : d ≤ k := by rw [hd]; exact Nat.div_le_self _ _
      have HV : Hid (Z.getD k 0 = v) := hide (by rw [HZK.out hnp k hlt, hv, hz, hd, hr])
      have m1 : (k : Int).tmod (n : Int) = (r : Int) := by rw [hr]; rfl
      have m2 : IntKind.i64.wrap (r : Int) = (r : Int) := by rw [IntKind.wrap_i64]; omega
      have m3 : (k : Int).tdiv (n : Int) = (d : Int) := by rw [hd]; rfl
      have m4 : IntKind.i64.wrap (d : Int) = (d : Int) := by rw [IntKind.wrap_i64]; omega
      have m5 : IntKind.i32.wrap (d : Int) = (d : Int) := by rw [IntKind.wrap_i32]; omega
      have m6 : IntKind.i32.wrap (z + (d : Int)) = v := by rw [hv, wrap32, IntKind.wrap_i32]
      have HF2 : Hid (∀ u, W1.grownBy u (some g2) → u.cell? ⟨w4.heap.size, 1, none⟩ = some (.slice (some ⟨g2, 0, none⟩) q q) ∧ u.cell? ⟨b, o + r, none⟩ = some (.int .i32 z)) := hide (fun u hu => by
        obtain ⟨b', o', e', _, hx'⟩ := byte_at (HLB.out _ hu hnp) hnp
        cases e'
        exact ⟨HF.out _ hu, by rw [hz]; exact hx' r hrn⟩)
      clear hr hd hz hv hx
      have hi1 : (0 : Int) ≤ (r : Int) := by omega
      have hi2 : (r : Int) < (n : Int) := by omega
      have hg1 : W1.grownBy wr.drew (some g2) := grown_trans HG.out (grown_below (below_drewN (Below.refl _ wr) 1) _)
      have HFD : Hid (FillAt wr.drew g2 q Z k) := hide HFF.out
      have hs : wr.drew.cell? ⟨g2, k, none⟩ = some (.int .i32 0) := by have h := HFD.out.cell hlt; rwa [if_neg (by omega)] at h
      have hf : wr.drew.frozen? ⟨g2, k, none⟩ = false := HFD.out.frozen k
      go_wp2
      have hS0 : Hid (wr.drew.cell? ⟨w4.heap.size, 1, none⟩ = some (.slice (some ⟨g2, 0, none⟩) q q) ∧ wr.drew.cell? ⟨b, o + r, none⟩ = some (.int .i32 z)) := hide (HF2.out _ hg1)
      refine wp_region_U (fun _ v => v.cell? ⟨w4.heap.size, 1, none⟩ = some (.slice (some ⟨g2, 0, none⟩) q q) ∧ v.cell? ⟨b, o + r, none⟩ = some (.int .i32 z)) 99 (by kernel_rfl) ?_
      refine wpAnyU_take (i := 0) (oi := { dst := some 37, op := _, type := _, pos := _, after := _, guard := none }) (v := .pointer (some ⟨w4.heap.size, 1, none⟩)) rfl (by kernel_rfl) (by kernel_rfl) (by kernel_rfl) (by kernel_rfl) (fun _ _ _ h => h) (yields_take rfl (fun w' hw => by obtain ⟨h1, h2⟩ := hw.const; go_simp)) hS0.out ?_
      simp only [Act.put, List.setIfInBounds_toArray, List.set_cons_zero, List.set_cons_succ]
      refine wpAnyU_take (i := 1) (oi := { dst := some 38, op := _, type := _, pos := _, after := _, guard := none }) (v := .slice (some ⟨g2, 0, none⟩) q q) rfl (by kernel_rfl) (by kernel_rfl) (by kernel_rfl) (by kernel_rfl) (fun _ _ _ h => h) (yields_take rfl (fun w' hw => by obtain ⟨h1, h2⟩ := hw.const; go_simp)) hS0.out ?_
      simp only [Act.put, List.setIfInBounds_toArray, List.set_cons_zero, List.set_cons_succ]
      refine wpAnyU_take (i := 2) (oi := { dst := some 39, op := _, type := _, pos := _, after := _, guard := none }) (v := .int .i64 (k : Int)) rfl (by kernel_rfl) (by kernel_rfl) (by kernel_rfl) (by kernel_rfl) (fun _ _ _ h => h) (yields_take rfl (fun w' hw => by obtain ⟨h1, h2⟩ := hw.const; go_simp)) hS0.out ?_
      simp only [Act.put, List.setIfInBounds_toArray, List.set_cons_zero, List.set_cons_succ]
      refine wpAnyU_take (i := 3) (oi := { dst := some 40, op := _, type := _, pos := _, after := _, guard := none }) (v := .slice (some ⟨b, o, none⟩) n c) rfl (by kernel_rfl) (by kernel_rfl) (by kernel_rfl) (by kernel_rfl) (fun _ _ _ h => h) (yields_take rfl (fun w' hw => by obtain ⟨h1, h2⟩ := hw.const; go_simp)) hS0.out ?_
      simp only [Act.put, List.setIfInBounds_toArray, List.set_cons_zero, List.set_cons_succ]
      refine wpAnyU_take (i := 4) (oi := { dst := some 41, op := _, type := _, pos := _, after := _, guard := none }) (v := .int .i64 (k : Int)) rfl (by kernel_rfl) (by kernel_rfl) (by kernel_rfl) (by kernel_rfl) (fun _ _ _ h => h) (yields_take rfl (fun w' hw => by obtain ⟨h1, h2⟩ := hw.const; go_simp)) hS0.out ?_
      simp only [Act.put, List.setIfInBounds_toArray, List.set_cons_zero, List.set_cons_succ]
      refine wpAnyU_take (i := 5) (oi := { dst := some 42, op := _, type := _, pos := _, after := _, guard := none }) (v := .slice (some ⟨b, o, none⟩) n c) rfl (by kernel_rfl) (by kernel_rfl) (by kernel_rfl) (by kernel_rfl) (fun _ _ _ h => h) (yields_take rfl (fun w' hw => by obtain ⟨h1, h2⟩ := hw.const; go_simp)) hS0.out ?_
      simp only [Act.put, List.setIfInBounds_toArray, List.set_cons_zero, List.set_cons_succ]
      refine wpAnyU_take (i := 6) (oi := { dst := some 43, op := _, type := _, pos := _, after := _, guard := none }) (v := .int .i64 (n : Int)) rfl (by kernel_rfl) (by kernel_rfl) (by kernel_rfl) (by kernel_rfl) (fun _ _ _ h => h) (yields_take rfl (fun w' hw => by obtain ⟨h1, h2⟩ := hw.const; go_simp)) hS0.out ?_
      simp only [Act.put, List.setIfInBounds_toArray, List.set_cons_zero, List.set_cons_succ]
      refine wpAnyU_take (i := 7) (oi := { dst := some 44, op := _, type := _, pos := _, after := _, guard := none }) (v := .int .i64 (r : Int)) rfl (by kernel_rfl) (by kernel_rfl) (by kernel_rfl) (by kernel_rfl) (fun _ _ _ h => h) (yields_take rfl (fun w' hw => by obtain ⟨h1, h2⟩ := hw.const; go_simp)) hS0.out ?_
      simp only [Act.put, List.setIfInBounds_toArray, List.set_cons_zero, List.set_cons_succ]
      refine wpAnyU_take (i := 8) (oi := { dst := some 45, op := _, type := _, pos := _, after := _, guard := none }) (v := .pointer (some ⟨b, o + r, none⟩)) rfl (by kernel_rfl) (by kernel_rfl) (by kernel_rfl) (by kernel_rfl) (fun _ _ _ h => h) (yields_take rfl (fun w' hw => by obtain ⟨h1, h2⟩ := hw.const; go_simp)) hS0.out ?_
      simp only [Act.put, List.setIfInBounds_toArray, List.set_cons_zero, List.set_cons_succ]
      refine wpAnyU_take (i := 9) (oi := { dst := some 46, op := _, type := _, pos := _, after := _, guard := none }) (v := .int .i32 z) rfl (by kernel_rfl) (by kernel_rfl) (by kernel_rfl) (by kernel_rfl) (fun _ _ _ h => h) (yields_take rfl (fun w' hw => by obtain ⟨h1, h2⟩ := hw.const; go_simp)) hS0.out ?_
      simp only [Act.put, List.setIfInBounds_toArray, List.set_cons_zero, List.set_cons_succ]
      refine wpAnyU_take (i := 10) (oi := { dst := some 47, op := _, type := _, pos := _, after := _, guard := none }) (v := .int .i64 (k : Int)) rfl (by kernel_rfl) (by kernel_rfl) (by kernel_rfl) (by kernel_rfl) (fun _ _ _ h => h) (yields_take rfl (fun w' hw => by obtain ⟨h1, h2⟩ := hw.const; go_simp)) hS0.out ?_
      simp only [Act.put, List.setIfInBounds_toArray, List.set_cons_zero, List.set_cons_succ]
      refine wpAnyU_take (i := 11) (oi := { dst := some 48, op := _, type := _, pos := _, after := _, guard := none }) (v := .slice (some ⟨b, o, none⟩) n c) rfl (by kernel_rfl) (by kernel_rfl) (by kernel_rfl) (by kernel_rfl) (fun _ _ _ h => h) (yields_take rfl (fun w' hw => by obtain ⟨h1, h2⟩ := hw.const; go_simp)) hS0.out ?_
      simp only [Act.put, List.setIfInBounds_toArray, List.set_cons_zero, List.set_cons_succ]
      refine wpAnyU_take (i := 12) (oi := { dst := some 49, op := _, type := _, pos := _, after := _, guard := none }) (v := .int .i64 (n : Int)) rfl (by kernel_rfl) (by kernel_rfl) (by kernel_rfl) (by kernel_rfl) (fun _ _ _ h => h) (yields_take rfl (fun w' hw => by obtain ⟨h1, h2⟩ := hw.const; go_simp)) hS0.out ?_
      simp only [Act.put, List.setIfInBounds_toArray, List.set_cons_zero, List.set_cons_succ]
      refine wpAnyU_take (i := 13) (oi := { dst := some 50, op := _, type := _, pos := _, after := _, guard := none }) (v := .int .i64 (d : Int)) rfl (by kernel_rfl) (by kernel_rfl) (by kernel_rfl) (by kernel_rfl) (fun _ _ _ h => h) (yields_take rfl (fun w' hw => by obtain ⟨h1, h2⟩ := hw.const; go_simp)) hS0.out ?_
      simp only [Act.put, List.setIfInBounds_toArray, List.set_cons_zero, List.set_cons_succ]
      refine wpAnyU_take (i := 14) (oi := { dst := some 51, op := _, type := _, pos := _, after := _, guard := none }) (v := .int .i32 (d : Int)) rfl (by kernel_rfl) (by kernel_rfl) (by kernel_rfl) (by kernel_rfl) (fun _ _ _ h => h) (yields_take rfl (fun w' hw => by obtain ⟨h1, h2⟩ := hw.const; go_simp)) hS0.out ?_
      simp only [Act.put, List.setIfInBounds_toArray, List.set_cons_zero, List.set_cons_succ]
      refine wpAnyU_take (i := 15) (oi := { dst := some 52, op := _, type := _, pos := _, after := _, guard := none }) (v := .int .i32 v) rfl (by kernel_rfl) (by kernel_rfl) (by kernel_rfl) (by kernel_rfl) (fun _ _ _ h => h) (yields_take rfl (fun w' hw => by obtain ⟨h1, h2⟩ := hw.const; go_simp)) hS0.out ?_
      simp only [Act.put, List.setIfInBounds_toArray, List.set_cons_zero, List.set_cons_succ]
      refine wpAnyU_take (i := 16) (oi := { dst := some 53, op := _, type := _, pos := _, after := _, guard := none }) (v := .pointer (some ⟨g2, k, none⟩)) rfl (by kernel_rfl) (by kernel_rfl) (by kernel_rfl) (by kernel_rfl) (fun _ _ _ h => h) (yields_take rfl (fun w' hw => by obtain ⟨h1, h2⟩ := hw.const; go_simp)) hS0.out ?_
      simp only [Act.put, List.setIfInBounds_toArray, List.set_cons_zero, List.set_cons_succ]
      refine wpAnyU_one (i := 17) (by kernel_rfl) rfl ?_
      intro K hK
      go_simp
      have hg3 : W1.grownBy (wr.drew.setCell ⟨g2, k, none⟩ (.int .i32 v)) (some g2) := grown_trans hg1 (grown_cell6 _ _ _)
      have hS1 : Hid ((wr.drew.setCell ⟨g2, k, none⟩ (.int .i32 v)).cell? ⟨w4.heap.size, 1, none⟩ = some (.slice (some ⟨g2, 0, none⟩) q q) ∧ (wr.drew.setCell ⟨g2, k, none⟩ (.int .i32 v)).cell? ⟨b, o + r, none⟩ = some (.int .i32 z)) := hide (HF2.out _ hg3)
      refine hK.out _ _ hS1.out (fun _ => ?_)
      clear hK K hS0
      refine wpAnyU_done (by kernel_rfl) ?_ _
      clear hS1
      have HNG : Hid (W1.grownBy (wr.drew.setCell ⟨g2, k, none⟩ (.int .i32 v)) (some g2)) := hide hg3
      have HNF : Hid (FillAt (wr.drew.setCell ⟨g2, k, none⟩ (.int .i32 v)) g2 q Z (k + 1)) := hide (by
        have h := HFD.out.set
        rwa [HV.out] at h)
      clear hg3 hs hf
      go_wp2
      go_roundw
      case rel => exact ⟨k + 1, by omega, by go_num, HNF, HNG⟩
      case measure => simp [intOf]; omega
    · have HFE : Hid (FillAt wr g2 q Z q) := hide (by
        by_cases hkq : k = q
        · rw [← hkq]; have h := HFF.out; rwa [← hkq] at h
        · have h := HFF.out
          have hn0 : n = 0 := by omega
          have e : fillN Z q k = fillN Z q q := by
            apply List.ext_getElem
            · simp [fillN]
            · intro j h1 h2
              have hj : j < q := by simpa [fillN] using h1
              simp only [fillN, List.getElem_map, List.getElem_range, HZ0.out hn0 j hj]
              simp
          unfold FillAt at h ⊢
          rwa [e] at h)
      have hs1 := HSZ1.out
      have hs0 := HS0.out
      have HTr : Hid (BoxT wr w4.heap.size (.slice (some ⟨g1, 0, none⟩) 2 c1) (.slice (some ⟨g2, 0, none⟩) q q)) := hide ((HG.out.block _ (by omega) (by simp; omega)).trans HT1.out)
      have HRr : Hid (BoxT wr w.heap.size (.slice none 0 0) (.slice none 0 0)) := hide ((HG.out.block w.heap.size (by have := HB1.out.size; omega) (by simp; omega)).trans ((HB1.out.block _ (by omega)).trans HXR.out))
      clear hs0 hs1 t1
      have t0 := HTr.out.c0
      have t1 := HTr.out.c1
      have r0 := HRr.out.c0
      have r1 := HRr.out.c1
      have rf0 := HRr.out.f0 0
      have rf1 := HRr.out.f0 1
      have HEND : Hid (∀ u, u = (wr.setCell ⟨w.heap.size, 0, none⟩ (.slice (some ⟨g1, 0, none⟩) 2 c1)).setCell ⟨w.heap.size, 1, none⟩ (.slice (some ⟨g2, 0, none⟩) q q) → ∃ g1' c1' g2', Ending.returned (tenV (some ⟨g1, 0, none⟩) 2 c1 (some ⟨g2, 0, none⟩) q q) = .returned (tenV (some ⟨g1', 0, none⟩) 2 c1' (some ⟨g2', 0, none⟩) q q) ∧
          u.ownsRow w.heap.size 3 1 (.slice (some ⟨g1', 0, none⟩) 2 c1') 2 (([(M : Int), (N : Int)] : List Int).map (Value.int .i64)) ∧ u.ownsRow w.heap.size 21 1 (.slice (some ⟨g2', 0, none⟩) q q) q (Z.map (Value.int .i32)) ∧ g1' ≠ g2' ∧ Below w.heap.size w u) := hide (fun u hu => by
        have hs0 := HS0.out
        have hs1 := HSZ1.out
        have hB1 := HB1.out
        have hB1s := hB1.size
        subst hu
        refine ⟨g1, c1, g2, rfl, ?_, ?_, hne, ?_⟩
        · refine own_base (own_setCell' (own_setCell' (HO1.out.kept (row := some g2) HG.out (.inr (by simp [Value.ownBlock]; omega))) (by dsimp only; omega) _) (by dsimp only; omega) _) (by omega)
        · refine own_setCell' (own_setCell' (HFE.out.own HZL.out (by omega) (by unfold maxLen; omega)) (by dsimp only; omega) _) (by dsimp only; omega) _
        · exact (((HB0.out.trans (hB1.mono HB0.out.size)).trans (below_grown HG.out (by omega) (by omega))).setCell (by dsimp only; omega) _).setCell (by dsimp only; omega) _)
      clear HFE
      by_cases hkq : k < q
      · have h3 : (k : Int) < (q : Int) := by omega
        obtain rfl : n = 0 := by omega
        go_wp2
        (try simp only [Exit.inBlock, Exit.then])
        refine ret_ten1 (p := 6) rfl rfl w.heap.size _ rfl (HRr.out.set2 _ _) rfl ?_
        exact HEND.out _ rfl
      · have h3 : ¬ (k : Int) < (q : Int) := by omega
        go_wp2
        (try simp only [Exit.inBlock, Exit.then])
        refine ret_ten1 (p := 6) rfl rfl w.heap.size _ rfl (HRr.out.set2 _ _) rfl ?_
        exact HEND.out _ rfl

end Go.Proofs.Ytlalfjlcgabnnaa
