/- The contract of alive of the statements on tensors: the document's own examples come out as it says. -/
import Derived.Test.YtaoobdnbjagpnaaTLaw
import Derived.Test.YtaoobdnbjagpnaaSameG
namespace Go.Proofs.Ytaoobdnbjagpnaa
open Go.RowKit
set_option linter.unusedVariables false
set_option linter.unusedSimpArgs false
set_option maxRecDepth 100000

theorem lies_two (w : World) (c1 c2 : List Int) (k1 k2 : IntKind) (t1 t2 : TypeId) : Lies ((w.alloc (.cells (c1.map (Value.int k1)).toArray t1)).alloc (.cells (c2.map (Value.int k2)).toArray t2)) (some ⟨w.heap.size, 0, none⟩) c1.length (c1.map (Value.int k1)) :=
  (lies_lit w k1 c1 t1).alloc _
theorem lies_two' (w : World) (c1 c2 : List Int) (k1 k2 : IntKind) (t1 t2 : TypeId) : Lies ((w.alloc (.cells (c1.map (Value.int k1)).toArray t1)).alloc (.cells (c2.map (Value.int k2)).toArray t2)) (some ⟨w.heap.size + 1, 0, none⟩) c2.length (c2.map (Value.int k2)) := by
  have h := lies_lit (w.alloc (.cells (c1.map (Value.int k1)).toArray t1)) k2 c2 t2
  rwa [World.size_alloc] at h

set_option maxHeartbeats 4000000 in
theorem alive5_any (w : World) : Calls Try.prog 5 #[] w fun e w' => e = .returned (.bool true) ∧ Below w.heap.size w w' := by
  go_enter Try.func5, Try.ntmps5
  go_wp2_with fail
  -- New([2 2])
  refine Calls.mono (new_ok (some ⟨w.heap.size, 0, none⟩) 2 2 4 [2, 2] _ (lies_lit w .i64 [2, 2] 3) (by decide) (by omega)) ?_
  rintro e w1 ⟨g1, c1, g2, rfl, ho1, ho2, _, hb1⟩
  have HB1 := hide (((Below.refl w.heap.size w).alloc (Nat.le_refl _) (.cells #[.int .i64 2, .int .i64 2] 3)).trans (hb1.mono (by simp)))
  have hs1 := HB1.out.size
  have HO2 := hide (lies_of_own ho2)
  have HX1 := hide (BoxT.new w1 (.slice (some ⟨g1, 0, none⟩) 2 c1) (.slice (some ⟨g2, 0, none⟩) 4 4))
  clear ho1 ho2 hb1
  obtain ⟨W1, hW1⟩ : ∃ W, W = w1.alloc (.cells #[.slice (some ⟨g1, 0, none⟩) 2 c1, .slice (some ⟨g2, 0, none⟩) 4 4] 25) := ⟨_, rfl⟩
  have HB1' : Hid (Below w.heap.size w W1) := hide (by rw [hW1]; exact HB1.out.alloc hs1 _)
  have HX1' : Hid (BoxT W1 w1.heap.size (.slice (some ⟨g1, 0, none⟩) 2 c1) (.slice (some ⟨g2, 0, none⟩) 4 4)) := hide (by rw [hW1]; exact HX1.out)
  have HO2' : Hid (Lies W1 (some ⟨g2, 0, none⟩) 4 (List.replicate 4 (.int .i32 0))) := hide (by rw [hW1]; exact HO2.out.alloc _)
  have hW1' := hW1.symm
  clear hW1 HX1 HO2
  -- At(Of([2 2], 1 2 3 4), [1 0])
  go_wp2_with fail
  refine Calls.mono (of_ten (some ⟨W1.heap.size, 0, none⟩) (some ⟨W1.heap.size + 1, 0, none⟩) 2 2 4 4 _) ?_
  rintro e w2 ⟨rfl, hb2⟩
  have HLA := hide ((lies_two W1 [2, 2] [1, 2, 3, 4] .i64 .i32 3 21).below hb2)
  have HLB := hide ((lies_two' W1 [2, 2] [1, 2, 3, 4] .i64 .i32 3 21).below hb2)
  have hbz : Below W1.heap.size W1 w2 := (((Below.refl W1.heap.size W1).alloc (Nat.le_refl _) _).alloc (by simp) _).trans (hb2.mono (by simp; omega))
  have HB2 := hide (HB1'.out.trans (hbz.mono HB1'.out.size))
  have HX2 := hide (HX1'.out.kept hbz)
  have HO3 := hide (HO2'.out.below hbz)
  clear hb2 hbz
  go_wp2_with fail
  refine Calls.mono (tat_ok (some ⟨W1.heap.size, 0, none⟩) (some ⟨W1.heap.size + 1, 0, none⟩) (some ⟨w2.heap.size, 0, none⟩) 2 2 4 4 2 2 [2, 2] [1, 2, 3, 4] [1, 0] _ (HLA.out.alloc _) (HLB.out.alloc _) (lies_lit w2 .i64 [1, 0] 3) (by omega) (by omega) (by decide) (by decide)) ?_
  rw [show ([1, 2, 3, 4] : List Int).getD (valI [2, 2] [1, 0]).toNat 0 = 3 by decide]
  rintro e w3 ⟨rfl, hb3⟩
  have hbz : Below w2.heap.size w2 w3 := ((Below.refl w2.heap.size w2).alloc (Nat.le_refl _) _).trans (hb3.mono (by simp))
  have HB3 := hide (HB2.out.trans (hbz.mono HB2.out.size))
  have HX3 := hide (HX2.out.kept hbz)
  have HO3x := hide (HO3.out.below hbz)
  clear hb3 hbz HLA HLB HB2 HX2 HO3
  -- Put(Of([2], 5 -1))
  go_wp2_with fail
  refine Calls.mono (of_ten (some ⟨w3.heap.size, 0, none⟩) (some ⟨w3.heap.size + 1, 0, none⟩) 1 1 2 2 _) ?_
  rintro e w4 ⟨rfl, hb4⟩
  have HLA := hide ((lies_two w3 [2] [5, -1] .i64 .i32 3 21).below hb4)
  have HLB := hide ((lies_two' w3 [2] [5, -1] .i64 .i32 3 21).below hb4)
  have hbz : Below w3.heap.size w3 w4 := (((Below.refl w3.heap.size w3).alloc (Nat.le_refl _) _).alloc (by simp) _).trans (hb4.mono (by simp; omega))
  have HB4 := hide (HB3.out.trans (hbz.mono HB3.out.size))
  have HX4 := hide (HX3.out.kept hbz)
  have HO4 := hide (HO3x.out.below hbz)
  clear hb4 hbz HB3 HX3 HO3x
  go_wp2_with fail
  refine Calls.mono (tput_ok (some ⟨w3.heap.size, 0, none⟩) (some ⟨w3.heap.size + 1, 0, none⟩) 1 1 2 2 [2] [5, -1] _ HLA.out HLB.out (by decide)) ?_
  rw [show tenB [2] [5, -1] = [1, 2, 5, 0, 0, 0, 255, 255, 255, 255] by decide]
  rintro e w5 ⟨g5, c5, rfl, ho5, hb5⟩
  have HB5 := hide (HB4.out.trans (hb5.mono HB4.out.size))
  have HX5 := hide (HX4.out.kept hb5)
  have HO5 := hide (HO4.out.below hb5)
  have HP5 := hide (lies_of_own ho5)
  clear ho5 hb5 HLA HLB HB4 HX4 HO4
  -- Get of its bytes
  have hcv := Go.Joins.run_convert_bytes_const_at (P := Try.prog) w5 26 5 #[.int .u8 1, .int .u8 2, .int .u8 5, .int .u8 0, .int .u8 0, .int .u8 0, .int .u8 255, .int .u8 255, .int .u8 255, .int .u8 255] 10 10 w5.heap.size rfl Try.underlying26 Try.underlying5
  go_wp2_with fail
  clear hcv
  refine Calls.mono (tget_ok (some ⟨w5.heap.size, 0, none⟩) 10 10 1 2 [1, 2, 5, 0, 0, 0, 255, 255, 255, 255] _ (lies_mark w5 [1, 2, 5, 0, 0, 0, 255, 255, 255, 255] 5 _) (by unfold Bytes; decide) (by omega) (by omega) (by decide) (by omega) (by decide) (by omega) (by omega)) ?_
  rw [show shpOf [1, 2, 5, 0, 0, 0, 255, 255, 255, 255] 1 = [2] by decide, show dec (List.drop (1 + 1) [1, 2, 5, 0, 0, 0, 255, 255, 255, 255]) 2 = [5, -1] by decide]
  rintro e w6 ⟨g6, c6, g7, rfl, ho6, ho7, _, hb6⟩
  have hbz : Below w5.heap.size w5 w6 := ((Below.refl w5.heap.size w5).alloc (Nat.le_refl _) _).trans (hb6.mono (by simp))
  have HB6 := hide (HB5.out.trans (hbz.mono HB5.out.size))
  have HX6 := hide (HX5.out.kept hbz)
  have HO6 := hide (HO5.out.below hbz)
  have HP6 := hide (HP5.out.below hbz)
  have HS6 := hide (lies_of_own ho6)
  have HN6 := hide (lies_of_own ho7)
  clear ho6 ho7 hb6 hbz HB5 HX5 HO5 HP5
  obtain ⟨W6, hW6⟩ : ∃ W, W = w6.alloc (.cells #[.slice (some ⟨g6, 0, none⟩) 1 c6, .slice (some ⟨g7, 0, none⟩) 2 2] 25) := ⟨_, rfl⟩
  have hbz : Below w6.heap.size w6 W6 := by rw [hW6]; exact (Below.refl w6.heap.size w6).alloc (Nat.le_refl _) _
  have HY6 : Hid (BoxT W6 w6.heap.size (.slice (some ⟨g6, 0, none⟩) 1 c6) (.slice (some ⟨g7, 0, none⟩) 2 2)) := hide (by rw [hW6]; exact BoxT.new w6 _ _)
  have HB7 := hide (HB6.out.trans (hbz.mono HB6.out.size))
  have HX7 := hide (HX6.out.kept hbz)
  have HO7 := hide (HO6.out.below hbz)
  have HP7 := hide (HP6.out.below hbz)
  have HS7 := hide (HS6.out.below hbz)
  have HN7 := hide (HN6.out.below hbz)
  have hW6' := hW6.symm
  clear hW6 hbz HB6 HX6 HO6 HP6 HS6 HN6
  -- Get of too few
  go_wp2_with fail
  refine Calls.mono (tget_err (some ⟨W6.heap.size, 0, none⟩) 2 2 [1, 0] _ (lies_lit W6 .u8 [1, 0] 5) (by unfold Bytes; decide) (by omega) (by omega) (by decide)) ?_
  rintro e w8 ⟨rfl, hb8⟩
  have hbz : Below W6.heap.size W6 (w8.alloc (.cells #[.slice none 0 0, .slice none 0 0] 25)) := (((Below.refl W6.heap.size W6).alloc (Nat.le_refl _) _).trans (hb8.mono (by simp))).alloc (by have := hb8.size; simp at this; omega) _
  have HB8 := hide (HB7.out.trans (hbz.mono HB7.out.size))
  have HX8 := hide (HX7.out.kept hbz)
  have HY8 := hide (HY6.out.kept hbz)
  have HO8 := hide (HO7.out.below hbz)
  have HP8 := hide (HP7.out.below hbz)
  have HS8 := hide (HS7.out.below hbz)
  have HN8 := hide (HN7.out.below hbz)
  clear hbz hb8 HB7 HX7 HO7 HP7 HS7 HN7 HY6
  go_wp2_with fail
  refine Calls.mono (tget_err (some ⟨w8.heap.size + 1, 0, none⟩) 7 7 [1, 1, 5, 0, 0, 0, 0] _ (by have h := lies_lit (w8.alloc (.cells #[.slice none 0 0, .slice none 0 0] 25)) .u8 [1, 1, 5, 0, 0, 0, 0] 5; rw [World.size_alloc] at h; exact h) (by unfold Bytes; decide) (by omega) (by omega) (by decide)) ?_
  rintro e w9 ⟨rfl, hb9⟩
  have hbz : Below (w8.alloc (.cells #[.slice none 0 0, .slice none 0 0] 25)).heap.size (w8.alloc (.cells #[.slice none 0 0, .slice none 0 0] 25)) (w9.alloc (.cells #[.slice none 0 0, .slice none 0 0] 25)) := (((Below.refl _ (w8.alloc (.cells #[.slice none 0 0, .slice none 0 0] 25))).alloc (Nat.le_refl _) _).trans (hb9.mono (by simp))).alloc (by have := hb9.size; simp at this ⊢; omega) _
  have HB9 := hide (HB8.out.trans (hbz.mono HB8.out.size))
  have HX9 := hide (HX8.out.kept hbz)
  have HY9 := hide (HY8.out.kept hbz)
  have HO9 := hide (HO8.out.below hbz)
  have HP9 := hide (HP8.out.below hbz)
  have HS9 := hide (HS8.out.below hbz)
  have HN9 := hide (HN8.out.below hbz)
  clear hbz hb9 HB8 HX8 HO8 HP8 HS8 HN8 HY8
  go_wp2
  obtain ⟨W, hW⟩ : ∃ W, W = (w9.alloc (.cells #[.slice none 0 0, .slice none 0 0] 25)) := ⟨_, rfl⟩
  rw [← hW] at HB9 HX9 HY9 HO9 HP9 HS9 HN9 ⊢
  clear hW
  have x1 := HX9.out.c1
  have y0 := HY9.out.c0
  have y1 := HY9.out.c1
  have HXY : Hid (∀ w', Below W.heap.size W w' → w'.cell? ⟨w1.heap.size, 1, none⟩ = some (.slice (some ⟨g2, 0, none⟩) 4 4) ∧ w'.cell? ⟨w6.heap.size, 0, none⟩ = some (.slice (some ⟨g6, 0, none⟩) 1 c6) ∧ w'.cell? ⟨w6.heap.size, 1, none⟩ = some (.slice (some ⟨g7, 0, none⟩) 2 2) ∧ (convert 26 9 (.slice (some ⟨g5, 0, none⟩) 10 c5)).run Try.prog w' = .ok (.string { data := #[1, 2, 5, 0, 0, 0, 255, 255, 255, 255] }) w') := hide (fun w' hb =>
    ⟨(HX9.out.kept hb).c1, (HY9.out.kept hb).c0, (HY9.out.kept hb).c1, by
      have hstr := string_of w' g5 10 c5 [1, 2, 5, 0, 0, 0, 255, 255, 255, 255] (HP9.out.below hb)
      rw [show strOfNums [1, 2, 5, 0, 0, 0, 255, 255, 255, 255] = ({ data := #[1, 2, 5, 0, 0, 0, 255, 255, 255, 255] } : ByteArray) from by decide +kernel] at hstr
      exact hstr⟩)
  have hb0 : Below W.heap.size W (W.drewN 1) := below_drewN (Below.refl _ W) 1
  have hmk := make_nums [] 4 4 rfl (by omega) (W.drewN 1)
  have hmk' := make_nums [] 4 4 rfl (by omega) W.drew
  go_region_held3 (fun w' => w'.cell? ⟨w1.heap.size, 1, none⟩ = some (.slice (some ⟨g2, 0, none⟩) 4 4) ∧ w'.cell? ⟨w6.heap.size, 0, none⟩ = some (.slice (some ⟨g6, 0, none⟩) 1 c6) ∧ w'.cell? ⟨w6.heap.size, 1, none⟩ = some (.slice (some ⟨g7, 0, none⟩) 2 2) ∧ (convert 26 9 (.slice (some ⟨g5, 0, none⟩) 10 c5)).run Try.prog w' = .ok (.string { data := #[1, 2, 5, 0, 0, 0, 255, 255, 255, 255] }) w')
    (first | (exact HXY.out _ hb0) | (exact HXY.out _ (Below.refl _ W)) | (exact HXY.out _ (hb0.alloc (Nat.le_refl _) _)) | (exact HXY.out _ hbA) | (exact HXY.out _ (hbA.alloc hbA.size _)) | (exact HXY.out _ ((hbA.alloc hbA.size _).alloc (Nat.le_trans hbA.size (by simp)) _)) | (exact HXY.out _ hbB) | (exact HXY.out _ hbC) | go_keep)
    (first
      | (go_at_call 18; refine Calls.mono (quiet_below (sameG_Numbers _ _ 4 4 4 4 [0, 0, 0, 0] [0, 0, 0, 0] _ ((HO9.out.drewN 1).alloc _) (lies_lit (W.drewN 1) .i32 [0, 0, 0, 0] 21) (by omega))) ?_; rintro e wA ⟨rfl, hbA0⟩; have hbA : Below W.heap.size W wA := (hb0.alloc (Nat.le_refl _) (.cells #[.int .i32 0, .int .i32 0, .int .i32 0, .int .i32 0] 21)).trans (hbA0.mono (by simp)); have hsA := hbA.size)
      | (go_at_call 17; refine Calls.mono (of_ten _ _ 1 1 2 2 _) ?_; rintro e wB ⟨rfl, hbB0⟩; have hbB : Below W.heap.size W wB := (by first | exact ((hbA.alloc hbA.size (.cells #[.int .i64 2] 3)).alloc (Nat.le_trans hbA.size (by simp)) (.cells #[.int .i32 5, .int .i32 (-1)] 21)).trans (hbB0.mono (by simp; omega)) | exact ((hbA.alloc hbA.size (.cells #[.int .i32 5, .int .i32 (-1)] 21)).alloc (Nat.le_trans hbA.size (by simp)) (.cells #[.int .i64 2] 3)).trans (hbB0.mono (by simp; omega))); have hsB := hbB.size)
      | (go_at_call 12; refine Calls.mono (tsame_any _ _ _ _ 1 c6 2 2 1 1 2 2 [2] [5, -1] [2] [5, -1] _ (HS9.out.below hbB) (HN9.out.below hbB) (by first | exact (lies_two wA [2] [5, -1] .i64 .i32 3 21).below hbB0 | exact (lies_two' wA [5, -1] [2] .i32 .i64 21 3).below hbB0) (by first | exact (lies_two' wA [2] [5, -1] .i64 .i32 3 21).below hbB0 | exact (lies_two wA [5, -1] [2] .i32 .i64 21 3).below hbB0) (by omega) (by omega)) ?_; rintro e wC ⟨rfl, hbC0⟩; have hbC : Below W.heap.size W wC := hbB.trans (hbC0.mono hbB.size)))
  all_goals
    have HBF := hide (HB9.out.trans (hbC.mono HB9.out.size))
    go_wp2
    go_ret
    exact ⟨rfl, HBF.out⟩
end Go.Proofs.Ytaoobdnbjagpnaa
