/- Contract of one of the statements on products: ones where both directions are the same. -/
import Derived.Test.YtlalfjlcgabnnaaMade7
namespace Go.Proofs.Ytlalfjlcgabnnaa
open Go.RowKit
set_option linter.unusedVariables false
set_option linter.unusedSimpArgs false
set_option maxRecDepth 100000

/-- A whole row of numbers. -/
def RowI (w : World) (g : Nat) (zs : List Int) : Prop := w.heap[g]? = some (.cells (zs.map (Value.int .i32)).toArray 21 (0, 0))

section
variable {w : World} {g k q : Nat} {zs : List Int}

theorem RowI.cell (h : RowI w g zs) (hk : k < zs.length) : w.cell? ⟨g, k, none⟩ = some (.int .i32 (zs.getD k 0)) := by
  rw [cell_of_row _ _ k _ _ (0, 0) h, List.getElem?_toArray]
  simp [List.getD, hk]

theorem RowI.frozen (h : RowI w g zs) (j : Nat) : w.frozen? ⟨g, j, none⟩ = false := frozen_of_row w g j _ _ h

theorem RowI.lt (h : RowI w g zs) : g < w.heap.size := lt_of_heap h

theorem RowI.set (h : RowI w g zs) (k : Nat) (z : Int) : RowI (w.setCell ⟨g, k, none⟩ (.int .i32 z)) g (zs.set k z) := by
  have e1 := setCell_eq_setRow w g k _ _ (0, 0) (.int .i32 z) h
  have h1 := setRow_heap w g _ ((zs.map (Value.int .i32)).toArray.setIfInBounds k (.int .i32 z)) _ _ h
  rw [e1]
  unfold RowI
  rw [h1]
  simp [List.map_set]

theorem RowI.of_own {base : Nat} (h : w.ownsRow base 21 1 (.slice (some ⟨g, 0, none⟩) q q) q (zs.map (Value.int .i32))) (hz : zs.length = q) : RowI w g zs := by
  obtain ⟨cur, hh, _, _, _, hs, ht⟩ := own_heap h
  unfold RowI
  rw [hh, ← ht, Nat.mul_one, List.take_of_length_le (by simp; omega)]

theorem RowI.own (h : RowI w g zs) (hz : zs.length = q) {base : Nat} (hb : base ≤ g) (hq : q ≤ maxLen) : w.ownsRow base 21 1 (.slice (some ⟨g, 0, none⟩) q q) q (zs.map (Value.int .i32)) :=
  own_of_block hb h (by simp [hz]) (Nat.le_refl _) hq (by rw [List.take_of_length_le (by simp [hz])])

end

set_option maxHeartbeats 2000000 in
theorem ones7_any (N : Nat) (w : World) (hN : 1 ≤ N ∧ N ≤ 9) :
    Calls Try.prog 11 #[.int .i64 (N : Int)] w fun e w' => ∃ g1 c1 g2, e = .returned (tenV (some ⟨g1, 0, none⟩) 2 c1 (some ⟨g2, 0, none⟩) (N * N) (N * N)) ∧
      w'.ownsRow w.heap.size 3 1 (.slice (some ⟨g1, 0, none⟩) 2 c1) 2 (([(N : Int), (N : Int)] : List Int).map (Value.int .i64)) ∧ w'.ownsRow w.heap.size 21 1 (.slice (some ⟨g2, 0, none⟩) (N * N) (N * N)) (N * N) ((oneTo N N).map (Value.int .i32)) ∧ g1 ≠ g2 ∧ Below w.heap.size w w' := by
  obtain ⟨hz1, hz2, hz3⟩ := two_size (M := N) (N := N) (by omega) (by omega)
  have hq81 : N * N ≤ 81 := by have := Nat.mul_le_mul hN.2 hN.2; omega
  have HK : Hid (∀ k, k < N → k * N + k < N * N) := hide (fun k hk => place_lt hk hk)
  have HL : Hid ((oneTo N N).length = N * N) := hide (oneTo_len N N)
  have HL0 : Hid ((oneTo N 0).length = N * N) := hide (oneTo_len N 0)
  have HZ : Hid (List.replicate (N * N) (Value.int .i32 0) = (oneTo N 0).map (Value.int .i32)) := hide (by rw [oneTo_none]; simp)
  obtain ⟨q, hq⟩ : ∃ q, q = N * N := ⟨_, rfl⟩
  rw [← hq] at hz1 hz2 hz3 hq81 ⊢
  have HLq : Hid ((oneTo N N).length = q) := hide (by rw [HL.out, hq])
  have HL0q : Hid ((oneTo N 0).length = q) := hide (by rw [HL0.out, hq])
  have HZq : Hid (List.replicate q (Value.int .i32 0) = (oneTo N 0).map (Value.int .i32)) := hide (by rw [hq, HZ.out])
  have HKq : Hid (∀ k, k < N → k * N + k < q) := hide (by rw [hq]; exact HK.out)
  have HSZ := hide hz1
  clear hz1 hq HZ HK HL HL0
  obtain ⟨W0, hW0⟩ : ∃ W0, W0 = (w.alloc (.cells #[.slice none 0 0, .slice none 0 0] 28)).alloc (.cells #[.int .i64 (N : Int), .int .i64 (N : Int)] 3) := ⟨_, rfl⟩
  have HB0 : Hid (Below w.heap.size w W0) := hide (by rw [hW0]; exact ((Below.refl w.heap.size w).alloc (Nat.le_refl _) _).alloc (by simp only [World.size_alloc]; omega) _)
  have HS0 : Hid (W0.heap.size = w.heap.size + 2) := hide (by rw [hW0]; simp)
  have HXR : Hid (BoxT W0 w.heap.size (.slice none 0 0) (.slice none 0 0)) := hide (by rw [hW0]; exact (BoxT.new w _ _).alloc _)
  have HLS : Hid (Lies W0 (some ⟨w.heap.size + 1, 0, none⟩) 2 (([(N : Int), (N : Int)] : List Int).map (Value.int .i64))) := hide (by
    rw [hW0]
    have h := lit_lies (w.alloc (.cells #[.slice none 0 0, .slice none 0 0] 28)) .i64 [(N : Int), (N : Int)] 3
    rwa [World.size_alloc] at h)
  have hW0' := hW0.symm
  clear hW0
  go_enter Try.func11, Try.ntmps11
  go_wp2_with fail
  refine Calls.mono (new_ok (some ⟨w.heap.size + 1, 0, none⟩) 2 2 q [(N : Int), (N : Int)] W0 HLS.out HSZ.out (by omega)) ?_
  rintro e w4 ⟨g1, c1, g2, rfl, ho1, ho2, hne, hb4⟩
  have lt1 := ho1.lt g1 rfl
  have lt2 := ho2.lt g2 rfl
  obtain ⟨W1, hW1⟩ : ∃ W1, W1 = w4.alloc (.cells #[.slice (some ⟨g1, 0, none⟩) 2 c1, .slice (some ⟨g2, 0, none⟩) q q] 28) := ⟨_, rfl⟩
  have HB1 : Hid (Below W0.heap.size W0 W1) := hide (by rw [hW1]; exact hb4.alloc hb4.size _)
  have HT1 : Hid (BoxT W1 w4.heap.size (.slice (some ⟨g1, 0, none⟩) 2 c1) (.slice (some ⟨g2, 0, none⟩) q q)) := hide (by rw [hW1]; exact BoxT.new w4 _ _)
  have HO1 : Hid (W1.ownsRow W0.heap.size 3 1 (.slice (some ⟨g1, 0, none⟩) 2 c1) 2 (([(N : Int), (N : Int)] : List Int).map (Value.int .i64))) := hide (by rw [hW1]; exact ho1.alloc _)
  have HF1 : Hid (RowI W1 g2 (oneTo N 0)) := hide (by rw [hW1]; rw [HZq.out] at ho2; exact RowI.of_own (ho2.alloc _) HL0q.out)
  have HSZ1 : Hid (W1.heap.size = w4.heap.size + 1) := hide (by rw [hW1]; simp)
  have hW1' := hW1.symm
  clear hW1 ho1 ho2 hb4
  have HF : Hid (∀ v, W1.grownBy v (some g2) → v.cell? ⟨w4.heap.size, 1, none⟩ = some (.slice (some ⟨g2, 0, none⟩) q q)) := hide (fun v hv => by
    have h8 : BoxT v w4.heap.size (.slice (some ⟨g1, 0, none⟩) 2 c1) (.slice (some ⟨g2, 0, none⟩) q q) := (hv.block _ (by have := HSZ1.out; omega) (by simp; omega)).trans HT1.out
    exact h8.c1)
  go_wp2_with fail
  clear hW1' hW0'
  go_loopw [5] (fun i wr => ∃ k : Nat, k ≤ N ∧ i = .int .i64 k ∧ Hid (RowI wr g2 (oneTo N k)) ∧ Hid (W1.grownBy wr (some g2))) (fun i _ => N - (intOf i).toNat)
  case atStart => exact ⟨0, Nat.zero_le _, rfl, HF1, hide (World.grownBy.refl _ _)⟩
  case round =>
    obtain ⟨k, hk, rfl, HFF, HG⟩ := hrel
    by_cases hlt : k < N
    · have t1 := HF.out _ HG.out
      have h3 : (k : Int) < (N : Int) := by omega
      have hpq := HKq.out k hlt
      obtain ⟨kn, hkn⟩ : ∃ kn, kn = k * N := ⟨_, rfl⟩
      obtain ⟨p, hp⟩ : ∃ p, p = kn + k := ⟨_, rfl⟩
      have HPE : Hid (p = k * N + k) := hide (by rw [hp, hkn])
      rw [← hkn, ← hp] at hpq
      have m1 : IntKind.i64.wrap ((k : Int) * (N : Int)) = (kn : Int) := by rw [← Int.natCast_mul, ← hkn, IntKind.wrap_i64]; omega
      have m2 : IntKind.i64.wrap ((kn : Int) + (k : Int)) = (p : Int) := by rw [IntKind.wrap_i64]; omega
      clear hkn hp
      have hi1 : (0 : Int) ≤ (p : Int) := by omega
      have hi2 : (p : Int) < (q : Int) := by omega
      have hlq : (oneTo N k).length = q := by rw [oneTo_len, ← HLq.out, oneTo_len]
      have hs : wr.cell? ⟨g2, p, none⟩ = some (.int .i32 ((oneTo N k).getD p 0)) := HFF.out.cell (by omega)
      have hf : wr.frozen? ⟨g2, p, none⟩ = false := HFF.out.frozen p
      have HNG : Hid (W1.grownBy (wr.setCell ⟨g2, p, none⟩ (.int .i32 1)) (some g2)) := hide (grown_trans HG.out (grown_cell6 _ _ _))
      have HNF : Hid (RowI (wr.setCell ⟨g2, p, none⟩ (.int .i32 1)) g2 (oneTo N (k + 1))) := hide (by
        have h := HFF.out.set p 1
        rwa [HPE.out, oneTo_set hlt, ← HPE.out] at h)
      clear hlq
      go_wp2
      go_roundw
      case rel => exact ⟨k + 1, by omega, by go_num, HNF, HNG⟩
      case measure => simp [intOf]; omega
    · obtain rfl : k = N := by omega
      have h3 : ¬ (k : Int) < (k : Int) := by omega
      have hs1 := HSZ1.out
      have hs0 := HS0.out
      have HTr : Hid (BoxT wr w4.heap.size (.slice (some ⟨g1, 0, none⟩) 2 c1) (.slice (some ⟨g2, 0, none⟩) q q)) := hide ((HG.out.block _ (by omega) (by simp; omega)).trans HT1.out)
      have HRr : Hid (BoxT wr w.heap.size (.slice none 0 0) (.slice none 0 0)) := hide ((HG.out.block w.heap.size (by have := HB1.out.size; omega) (by simp; omega)).trans ((HB1.out.block _ (by omega)).trans HXR.out))
      clear hs0 hs1
      have t0 := HTr.out.c0
      have t1 := HTr.out.c1
      have r0 := HRr.out.c0
      have r1 := HRr.out.c1
      have rf0 := HRr.out.f0 0
      have rf1 := HRr.out.f0 1
      go_wp2
      (try simp only [Exit.inBlock, Exit.then])
      refine ret_ten1 (p := 2) rfl rfl w.heap.size _ rfl (HRr.out.set2 _ _) rfl ?_
      have hs0 := HS0.out
      have hs1 := HSZ1.out
      have hB1 := HB1.out
      have hB1s := hB1.size
      refine ⟨g1, c1, g2, rfl, ?_, ?_, hne, ?_⟩
      · refine own_base (own_setCell' (own_setCell' (HO1.out.kept (row := some g2) HG.out (.inr (by simp [Value.ownBlock]; omega))) (by dsimp only; omega) _) (by dsimp only; omega) _) (by omega)
      · refine own_setCell' (own_setCell' (HFF.out.own HLq.out (by omega) (by unfold maxLen; omega)) (by dsimp only; omega) _) (by dsimp only; omega) _
      · exact (((HB0.out.trans (hB1.mono HB0.out.size)).trans (below_grown HG.out (by omega) (by omega))).setCell (by dsimp only; omega) _).setCell (by dsimp only; omega) _

end Go.Proofs.Ytlalfjlcgabnnaa
