/- Contracts of known and With: the chapter's graph; a graph with one node more. -/
import Derived.Test.YtdlhhkegkfhmoaaWi10M
namespace Go.Proofs.Ytdlhhkegkfhmoaa
open Go.RowKit
set_option linter.unusedVariables false
set_option linter.unusedSimpArgs false
set_option maxRecDepth 100000

theorem infoN10 : (Try.prog.info? 35).map (fun i => (i.zero, i.size, i.bytes)) = some (some (.agg #[.int .u8 0, .slice none 0 0, .slice none 0 0, .int .i64 0, .int .i64 0]), 5, 72) := by kernel_rfl

/-- The chapter's graph, where it lies. -/
def knN (q : Nat) : List Nd := [⟨1, none, 0, 0, some ⟨q + 1, 0, none⟩, 2, 2, 0, 0, [], [2, 3]⟩, ⟨2, none, 0, 0, some ⟨q + 2, 0, none⟩, 2, 2, 0, 0, [], [3, 2]⟩, ⟨7, some ⟨q + 3, 0, none⟩, 2, 2, none, 0, 0, 0, 0, [0, 1], []⟩, ⟨5, some ⟨q + 4, 0, none⟩, 1, 1, none, 0, 0, 0, 0, [2], []⟩]

set_option maxHeartbeats 2000000 in
theorem known_any (w : World) : Calls Try.prog 19 #[] w fun e w' => e = .returned (.agg #[.slice (some ⟨w.heap.size + 5, 0, none⟩) 4 4]) ∧ NsIn w' (some ⟨w.heap.size + 5, 0, none⟩) 4 (knN w.heap.size) ∧ Below w.heap.size w w' := by
  obtain ⟨q, hq⟩ : ∃ q, q = w.heap.size := ⟨_, rfl⟩
  obtain ⟨W1, hW1⟩ : ∃ W, W = w.alloc (.cells #[.slice none 0 0] 24) := ⟨_, rfl⟩
  obtain ⟨W2, hW2⟩ : ∃ W, W = W1.alloc (.cells #[.int .i64 2, .int .i64 3] 3) := ⟨_, rfl⟩
  obtain ⟨W3, hW3⟩ : ∃ W, W = W2.alloc (.cells #[.int .i64 3, .int .i64 2] 3) := ⟨_, rfl⟩
  obtain ⟨W4, hW4⟩ : ∃ W, W = W3.alloc (.cells #[.int .i64 0, .int .i64 1] 3) := ⟨_, rfl⟩
  obtain ⟨W5, hW5⟩ : ∃ W, W = W4.alloc (.cells #[.int .i64 2] 3) := ⟨_, rfl⟩
  obtain ⟨W6, hW6⟩ : ∃ W, W = W5.alloc (.cells #[.int .u8 1, .slice none 0 0, .slice (some ⟨q + 1, 0, none⟩) 2 2, .int .i64 0, .int .i64 0, .int .u8 2, .slice none 0 0, .slice (some ⟨q + 1 + 1, 0, none⟩) 2 2, .int .i64 0, .int .i64 0, .int .u8 7, .slice (some ⟨q + 1 + 1 + 1, 0, none⟩) 2 2, .slice none 0 0, .int .i64 0, .int .i64 0, .int .u8 5, .slice (some ⟨q + 1 + 1 + 1 + 1, 0, none⟩) 1 1, .slice none 0 0, .int .i64 0, .int .i64 0] 35) := ⟨_, rfl⟩
  have s1 : W1.heap.size = q + 1 := by rw [hW1, hq]; simp
  have s2 : W2.heap.size = q + 2 := by rw [hW2]; simp [s1]
  have s3 : W3.heap.size = q + 3 := by rw [hW3]; simp [s2]
  have s4 : W4.heap.size = q + 4 := by rw [hW4]; simp [s3]
  have s5 : W5.heap.size = q + 5 := by rw [hW5]; simp [s4]
  have b1 : Below q w W1 := by rw [hW1]; exact (Below.refl q w).alloc (by omega) _
  have b2 : Below (q + 1) W1 W2 := by rw [hW2]; exact (Below.refl (q + 1) W1).alloc (by omega) _
  have b3 : Below (q + 2) W2 W3 := by rw [hW3]; exact (Below.refl (q + 2) W2).alloc (by omega) _
  have b4 : Below (q + 3) W3 W4 := by rw [hW4]; exact (Below.refl (q + 3) W3).alloc (by omega) _
  have b5 : Below (q + 4) W4 W5 := by rw [hW5]; exact (Below.refl (q + 4) W4).alloc (by omega) _
  have b6 : Below (q + 5) W5 W6 := by rw [hW6]; exact (Below.refl (q + 5) W5).alloc (by omega) _
  have l2 : Lies W2 (some ⟨q + 1, 0, none⟩) 2 (([2, 3] : List Int).map (Value.int .i64)) := by have h := lit_lies W1 .i64 [2, 3] 3; rw [s1] at h; rw [hW2]; exact h
  have l3 : Lies W3 (some ⟨q + 2, 0, none⟩) 2 (([3, 2] : List Int).map (Value.int .i64)) := by have h := lit_lies W2 .i64 [3, 2] 3; rw [s2] at h; rw [hW3]; exact h
  have l4 : Lies W4 (some ⟨q + 3, 0, none⟩) 2 (([0, 1] : List Int).map (Value.int .i64)) := by have h := lit_lies W3 .i64 [0, 1] 3; rw [s3] at h; rw [hW4]; exact h
  have l5 : Lies W5 (some ⟨q + 4, 0, none⟩) 1 (([2] : List Int).map (Value.int .i64)) := by have h := lit_lies W4 .i64 [2] 3; rw [s4] at h; rw [hW5]; exact h
  have e6 : W6.heap[q + 5]? = some (.cells #[.int .u8 1, .slice none 0 0, .slice (some ⟨q + 1, 0, none⟩) 2 2, .int .i64 0, .int .i64 0, .int .u8 2, .slice none 0 0, .slice (some ⟨q + 1 + 1, 0, none⟩) 2 2, .int .i64 0, .int .i64 0, .int .u8 7, .slice (some ⟨q + 1 + 1 + 1, 0, none⟩) 2 2, .slice none 0 0, .int .i64 0, .int .i64 0, .int .u8 5, .slice (some ⟨q + 1 + 1 + 1 + 1, 0, none⟩) 1 1, .slice none 0 0, .int .i64 0, .int .i64 0] 35 (0, 0)) := by rw [hW6, ← s5]; exact heap_alloc_new W5 _
  have HB6 : Hid (Below q w W6) := hide (((((b1.trans (b2.mono (by omega))).trans (b3.mono (by omega))).trans (b4.mono (by omega))).trans (b5.mono (by omega))).trans (b6.mono (by omega)))
  have hs2 : W2.heap.size = q + 2 := s2
  have HN6 : Hid (∀ v : World, q + 6 ≤ v.heap.size → (∀ k, q < k → k < q + 6 → v.heap[k]? = W6.heap[k]?) → NsIn v (some ⟨q + 5, 0, none⟩) 4 (knN q) ) := hide (fun v hsz hbk => by
    have s6 : W6.heap.size = q + 6 := by rw [hW6]; simp [s5]
    have hk : ∀ (g : Nat) (n : Nat) (l : List Value), q < g → g < q + 6 → Lies W6 (some ⟨g, 0, none⟩) n l → Lies v (some ⟨g, 0, none⟩) n l := fun g n l h1 h2 h => h.keep (by omega) (fun b o e _ j => by cases e; exact World.cell?_of_block (hbk g h1 h2))
    have L2 := hk _ _ _ (by omega) (by omega) (((((l2.below (by rw [s2]; exact b3)).below (by rw [s3]; exact b4)).below (by rw [s4]; exact b5)).below (by rw [s5]; exact b6)))
    have L3 := hk _ _ _ (by omega) (by omega) ((((l3.below (by rw [s3]; exact b4)).below (by rw [s4]; exact b5)).below (by rw [s5]; exact b6)))
    have L4 := hk _ _ _ (by omega) (by omega) (((l4.below (by rw [s4]; exact b5)).below (by rw [s5]; exact b6)))
    have L5 := hk _ _ _ (by omega) (by omega) ((l5.below (by rw [s5]; exact b6)))
    have ev := (hbk (q + 5) (by omega) (by omega)).trans e6
    have c := fun (k : Nat) => cell_of_row v (q + 5) k _ _ (0, 0) ev
    refine ⟨rfl, fun _ => ⟨q + 5, 0, rfl, by omega, fun j x hj => ?_⟩⟩
    match j, hj with
    | 0, hj => cases hj; exact ⟨c 0, c 1, c 2, c 3, c 4, Lies.nothing, L2, Nat.le_refl _, Nat.le_refl _, by dsimp only; decide, by dsimp only; decide, by dsimp only; decide, by dsimp only; decide, by dsimp only; decide⟩
    | 1, hj => cases hj; exact ⟨c 5, c 6, c 7, c 8, c 9, Lies.nothing, L3, Nat.le_refl _, Nat.le_refl _, by dsimp only; decide, by dsimp only; decide, by dsimp only; decide, by dsimp only; decide, by dsimp only; decide⟩
    | 2, hj => cases hj; exact ⟨c 10, c 11, c 12, c 13, c 14, L4, Lies.nothing, Nat.le_refl _, Nat.le_refl _, by dsimp only; decide, by dsimp only; decide, by dsimp only; decide, by dsimp only; decide, by dsimp only; decide⟩
    | 3, hj => cases hj; exact ⟨c 15, c 16, c 17, c 18, c 19, L5, Lies.nothing, Nat.le_refl _, Nat.le_refl _, by dsimp only; decide, by dsimp only; decide, by dsimp only; decide, by dsimp only; decide, by dsimp only; decide⟩
    | j + 4, hj => simp [knN] at hj)
  have hc0 : BoxG W6 q (.slice none 0 0) := by
    have h : BoxG W1 q (.slice none 0 0) := by rw [hW1, hq]; exact BoxG.new w _
    unfold BoxG at h ⊢
    rw [b6.block q (by omega), b5.block q (by omega), b4.block q (by omega), b3.block q (by omega), b2.block q (by omega)]
    exact h
  have HG := hide hc0
  have HS6 : Hid (W6.heap.size = q + 6) := hide (by rw [hW6]; simp [s5])
  have hf := hc0.f0 0
  have hc := hc0.c0
  rw [← hq]
  have hq' := hq.symm
  rw [hW5, hW4, hW3, hW2, hW1] at hW6
  have hW6' := hW6.symm
  clear hW1 hW2 hW3 hW4 hW5 hW6 s1 s2 s3 s4 s5 b1 b2 b3 b4 b5 b6 l2 l3 l4 l5 e6 hq hc0 hs2
  go_enter Try.func19, Try.ntmps19
  go_wp2
  (try simp only [Exit.inBlock, Exit.then])
  refine ret_gr (p := 0) rfl rfl q _ rfl (HG.out.set _) rfl ?_
  exact ⟨rfl, HN6.out _ (by simp [World.setCell, HS6.out]) (fun k h1 h2 => heap_setCell_other _ _ _ _ (by dsimp only; omega)), HB6.out.setCell (by dsimp only; omega) _⟩

end Go.Proofs.Ytdlhhkegkfhmoaa
