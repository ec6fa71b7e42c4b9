/- Contract of rules, and the look-up in what it answers. -/
import Derived.Test.YtdlhhkegkfhmoaaGr9M
namespace Go.Proofs.Ytdlhhkegkfhmoaa
open Go.RowKit
set_option linter.unusedVariables false
set_option linter.unusedSimpArgs false
set_option maxRecDepth 100000

/-- The rules of the kinds, from 1 on. -/
def rlT : Nat → Rl
  | 1 => ⟨0, 0, 0, 0, 0, 0, 1, 31⟩
  | 2 => ⟨0, 0, 0, 0, 0, 0, 1, 31⟩
  | 3 => ⟨2, 2, 0, 0, 0, 0, 0, 32⟩
  | 4 => ⟨2, 2, 0, 0, 0, 0, 0, 32⟩
  | 5 => ⟨1, 1, 0, 0, 0, 0, 0, 33⟩
  | 6 => ⟨1, 1, 0, 31, 0, 0, 0, 33⟩
  | 7 => ⟨2, 2, 0, 0, 0, 0, 0, 34⟩
  | 8 => ⟨2, 2, 1, 8, 0, 8, 0, 35⟩
  | 9 => ⟨1, 1, 1, 64, 0, 0, 0, 36⟩
  | 10 => ⟨1, 1, 0, 0, 0, 0, 1, 37⟩
  | 11 => ⟨1, 1, 0, 0, 0, 0, 2, 39⟩
  | 12 => ⟨1, 4, 0, 3, 0, 0, 0, 40⟩
  | _ => ⟨1, 1, 0, 3, 0, 0, 0, 41⟩

/-- The first n entries of the map of rules. -/
def ruEs (p n : Nat) : Array MapEntry := ((List.range n).map (fun (i : Nat) => (⟨.int .u8 ((i : Int) + 1), (rlT (i + 1)).v p, i⟩ : MapEntry))).toArray

theorem ruEs_succ (p n : Nat) : ruEs p (n + 1) = (ruEs p n).push ⟨.int .u8 ((n : Int) + 1), (rlT (n + 1)).v p, n⟩ := by
  simp [ruEs, List.range_succ]

/-- The map of rules while it is filled, and what the call has laid beside it. -/
def RuAt (w0 w : World) (q p n : Nat) : Prop := w.heap[q + 4]? = some (.map (ruEs p n) n) ∧ w.heap[q]? = some (.cells #[.int .i64 0, .int .i64 0] 56 (0, 0)) ∧ w.heap[q + 1]? = some (.cells #[.int .i64 1, .int .i64 1] 56 (0, 0)) ∧ w.heap[q + 2]? = some (.cells #[.int .i64 2, .int .i64 2] 56 (0, 0)) ∧ w.heap[q + 3]? = some (.cells #[.int .i64 0, .int .i64 3] 56 (0, 0)) ∧ Below q w0 w

theorem RuAt.cs {w0 w : World} {q p n : Nat} (h : RuAt w0 w q p n) : w.cell? ⟨q, 0, none⟩ = some (.int .i64 0) ∧ w.cell? ⟨q, 1, none⟩ = some (.int .i64 0) ∧ w.cell? ⟨q + 1, 0, none⟩ = some (.int .i64 1) ∧ w.cell? ⟨q + 1, 1, none⟩ = some (.int .i64 1) ∧ w.cell? ⟨q + 1 + 1, 0, none⟩ = some (.int .i64 2) ∧ w.cell? ⟨q + 1 + 1, 1, none⟩ = some (.int .i64 2) ∧ w.cell? ⟨q + 1 + 1 + 1, 0, none⟩ = some (.int .i64 0) ∧ w.cell? ⟨q + 1 + 1 + 1, 1, none⟩ = some (.int .i64 3) := by
  obtain ⟨_, h0, h1, h2, h3, _⟩ := h
  exact ⟨cell_of_row _ _ 0 _ _ (0, 0) h0, cell_of_row _ _ 1 _ _ (0, 0) h0, cell_of_row _ _ 0 _ _ (0, 0) h1, cell_of_row _ _ 1 _ _ (0, 0) h1, cell_of_row _ _ 0 _ _ (0, 0) h2, cell_of_row _ _ 1 _ _ (0, 0) h2, cell_of_row _ _ 0 _ _ (0, 0) h3, cell_of_row _ _ 1 _ _ (0, 0) h3⟩

theorem ruKeys (p n : Nat) : ∀ x ∈ (ruEs p n).toList, MapKept.IsKey (.int .u8) x.key := by
  intro x hx
  simp only [ruEs, List.mem_map, List.mem_range] at hx
  obtain ⟨i, _, rfl⟩ := hx
  rfl

theorem RuAt.ins {w0 w : World} {q p n : Nat} (h : RuAt w0 w q p n) : ∃ w', (Instr.mapUpdate 53 (.map (some (q + 4))) (.int .u8 ((n : Int) + 1)) ((rlT (n + 1)).v p)).run Try.prog w = .ok () w' ∧ RuAt w0 w' q p (n + 1) := by
  obtain ⟨hm, h0, h1, h2, h3, hb⟩ := h
  have hkey : MapKept.IsKey (.int .u8) (.int .u8 ((n : Int) + 1)) := rfl
  have ht : Try.prog.underlying 53 = some (.map 32 59) := Try.underlying53
  have hk : Try.prog.underlying 32 = some (.int .u8) := Try.underlying32
  have hfn : Instr.findNow (.int .u8) (.int .u8 ((n : Int) + 1)) (ruEs p n).toList 0 = some none := by
    rcases MapKept.findNow_spec hkey (ruEs p n).toList 0 (ruKeys p n) with ⟨h, _⟩ | ⟨j, e, _, h5, h6⟩
    · exact h
    · exfalso
      have hmem := List.mem_of_getElem? h5
      simp only [ruEs, List.mem_map, List.mem_range] at hmem
      obtain ⟨i, hi, rfl⟩ := hmem
      simp only [Value.int.injEq, true_and] at h6
      omega
  have hlt : q + 4 < w.heap.size := (Array.getElem?_eq_some_iff.1 hm).1
  refine ⟨{ w with heap := w.heap.setIfInBounds (q + 4) (.map (ruEs p (n + 1)) (n + 1)) }, ?_, ?_, ?_, ?_, ?_, ?_, ?_⟩
  · simp [Instr.mapUpdate, run_underlying ht, MapKept.run_getObj_map hm, MapKept.run_checkKey hk hkey, MapKept.run_findKey hk hfn, MapKept.run_setObj_map _ hm, Result.andThen, ruEs_succ]
  · exact (MapKept.heap_set hm).1
  · exact ((MapKept.heap_set hm).2 q (by omega)).trans h0
  · exact ((MapKept.heap_set hm).2 (q + 1) (by omega)).trans h1
  · exact ((MapKept.heap_set hm).2 (q + 2) (by omega)).trans h2
  · exact ((MapKept.heap_set hm).2 (q + 3) (by omega)).trans h3
  · exact ⟨hb.os, hb.tape, hb.output, by simpa using hb.size, fun k hk => ((MapKept.heap_set hm).2 k (by omega)).trans (hb.block k hk)⟩

theorem upon_ins {w0 w : World} {q p n : Nat} {o : Oper} {a : Act} {next : Act → World → Prop} {Q : Exit → Act → World → Prop} {f : Unit → World → Result Next} {k : Int} {v : Value} (h : RuAt w0 w q p n) (hk : k = (n : Int) + 1) (hv : v = (rlT (n + 1)).v p)
    (hK : ∀ w', RuAt w0 w' q p (n + 1) → Oper.upon Try.prog o a next Q (f () w')) :
    Oper.upon Try.prog o a next Q (((Instr.mapUpdate 53 (.map (some (q + 1 + 1 + 1 + 1))) (.int .u8 k) v).run Try.prog w).andThen f) := by
  subst hk hv
  obtain ⟨w', hr, hm⟩ := h.ins
  rw [hr]
  exact hK w' hm

set_option maxHeartbeats 8000000 in
theorem rules_any (p : Nat) (w : World) :
    Calls Try.prog 22 #[.pointer (some ⟨p, 0, none⟩)] w fun e w' => ∃ b, e = .returned (.map (some b)) ∧ w.heap.size ≤ b ∧ w'.heap[b]? = some (.map (ruEs p 13) 13) ∧ Below w.heap.size w w' := by
  obtain ⟨q, hq⟩ : ∃ q, q = w.heap.size := ⟨_, rfl⟩
  have hq' := hq.symm
  have hmm := @run_makeMap Try.prog
  obtain ⟨W1, hW1⟩ : ∃ W, W = w.alloc (.cells #[.int .i64 0, .int .i64 0] 56) := ⟨_, rfl⟩
  obtain ⟨W2, hW2⟩ : ∃ W, W = W1.alloc (.cells #[.int .i64 1, .int .i64 1] 56) := ⟨_, rfl⟩
  obtain ⟨W3, hW3⟩ : ∃ W, W = W2.alloc (.cells #[.int .i64 2, .int .i64 2] 56) := ⟨_, rfl⟩
  obtain ⟨W4, hW4⟩ : ∃ W, W = W3.alloc (.cells #[.int .i64 0, .int .i64 3] 56) := ⟨_, rfl⟩
  obtain ⟨W5, hW5⟩ : ∃ W, W = W4.alloc (.map #[] 0) := ⟨_, rfl⟩
  have hs1 : W1.heap.size = q + 1 := by rw [hW1, hq]; simp
  have hs2 : W2.heap.size = q + 2 := by rw [hW2]; simp [hs1]
  have hs3 : W3.heap.size = q + 3 := by rw [hW3]; simp [hs2]
  have hs4 : W4.heap.size = q + 4 := by rw [hW4]; simp [hs3]
  have HM0 : Hid (RuAt w W5 q p 0) := hide (by
    have b1 : Below q w W1 := by rw [hW1]; exact (Below.refl q w).alloc (by omega) _
    have b2 : Below (q + 1) W1 W2 := by rw [hW2]; exact (Below.refl (q + 1) W1).alloc (by omega) _
    have b3 : Below (q + 2) W2 W3 := by rw [hW3]; exact (Below.refl (q + 2) W2).alloc (by omega) _
    have b4 : Below (q + 3) W3 W4 := by rw [hW4]; exact (Below.refl (q + 3) W3).alloc (by omega) _
    have b5 : Below (q + 4) W4 W5 := by rw [hW5]; exact (Below.refl (q + 4) W4).alloc (by omega) _
    have g1 : W1.heap[q]? = some (.cells #[.int .i64 0, .int .i64 0] 56 (0, 0)) := by rw [hW1, hq]; exact heap_alloc_new w _
    have g2 : W2.heap[q + 1]? = some (.cells #[.int .i64 1, .int .i64 1] 56 (0, 0)) := by rw [hW2, ← hs1]; exact heap_alloc_new W1 _
    have g3 : W3.heap[q + 2]? = some (.cells #[.int .i64 2, .int .i64 2] 56 (0, 0)) := by rw [hW3, ← hs2]; exact heap_alloc_new W2 _
    have g4 : W4.heap[q + 3]? = some (.cells #[.int .i64 0, .int .i64 3] 56 (0, 0)) := by rw [hW4, ← hs3]; exact heap_alloc_new W3 _
    have g5 : W5.heap[q + 4]? = some (.map #[] 0) := by rw [hW5, ← hs4]; exact heap_alloc_new W4 _
    have e0 : ruEs p 0 = #[] := rfl
    rw [← e0] at g5
    refine ⟨g5, ?_, ?_, ?_, ?_, ?_⟩
    · rw [b5.block q (by omega), b4.block q (by omega), b3.block q (by omega), b2.block q (by omega)]; exact g1
    · rw [b5.block _ (by omega), b4.block _ (by omega), b3.block _ (by omega)]; exact g2
    · rw [b5.block _ (by omega), b4.block _ (by omega)]; exact g3
    · rw [b5.block _ (by omega)]; exact g4
    · exact (((b1.trans (b2.mono (by omega))).trans (b3.mono (by omega))).trans (b4.mono (by omega))).trans (b5.mono (by omega)))
  rw [hW4, hW3, hW2, hW1] at hW5
  have hW5' := hW5.symm
  clear hW1 hW2 hW3 hW4 hW5 hs1 hs2 hs3 hs4
  have HQ := hide hq
  clear hq
  obtain ⟨c0, c1, c2, c3, c4, c5, c6, c7⟩ := HM0.out.cs
  go_enter Try.func22, Try.ntmps22
  go_wp2_with fail
  refine upon_ins (n := 0) HM0.out ?_ ?_ ?_
  · decide
  · rfl
  intro w1 hm
  have HM1 := hide hm
  clear hm c0 c1 c2 c3 c4 c5 c6 c7 hmm hW5' HM0
  obtain ⟨c0, c1, c2, c3, c4, c5, c6, c7⟩ := HM1.out.cs
  go_wp2_with fail
  refine upon_ins (n := 1) HM1.out ?_ ?_ ?_
  · decide
  · rfl
  intro w2 hm
  have HM2 := hide hm
  clear hm c0 c1 c2 c3 c4 c5 c6 c7 HM1
  obtain ⟨c0, c1, c2, c3, c4, c5, c6, c7⟩ := HM2.out.cs
  go_wp2_with fail
  refine upon_ins (n := 2) HM2.out ?_ ?_ ?_
  · decide
  · rfl
  intro w3 hm
  have HM3 := hide hm
  clear hm c0 c1 c2 c3 c4 c5 c6 c7 HM2
  obtain ⟨c0, c1, c2, c3, c4, c5, c6, c7⟩ := HM3.out.cs
  go_wp2_with fail
  refine upon_ins (n := 3) HM3.out ?_ ?_ ?_
  · decide
  · rfl
  intro w4 hm
  have HM4 := hide hm
  clear hm c0 c1 c2 c3 c4 c5 c6 c7 HM3
  obtain ⟨c0, c1, c2, c3, c4, c5, c6, c7⟩ := HM4.out.cs
  go_wp2_with fail
  refine upon_ins (n := 4) HM4.out ?_ ?_ ?_
  · decide
  · rfl
  intro w5 hm
  have HM5 := hide hm
  clear hm c0 c1 c2 c3 c4 c5 c6 c7 HM4
  obtain ⟨c0, c1, c2, c3, c4, c5, c6, c7⟩ := HM5.out.cs
  go_wp2_with fail
  refine upon_ins (n := 5) HM5.out ?_ ?_ ?_
  · decide
  · rfl
  intro w6 hm
  have HM6 := hide hm
  clear hm c0 c1 c2 c3 c4 c5 c6 c7 HM5
  obtain ⟨c0, c1, c2, c3, c4, c5, c6, c7⟩ := HM6.out.cs
  go_wp2_with fail
  refine upon_ins (n := 6) HM6.out ?_ ?_ ?_
  · decide
  · rfl
  intro w7 hm
  have HM7 := hide hm
  clear hm c0 c1 c2 c3 c4 c5 c6 c7 HM6
  obtain ⟨c0, c1, c2, c3, c4, c5, c6, c7⟩ := HM7.out.cs
  go_wp2_with fail
  refine upon_ins (n := 7) HM7.out ?_ ?_ ?_
  · decide
  · rfl
  intro w8 hm
  have HM8 := hide hm
  clear hm c0 c1 c2 c3 c4 c5 c6 c7 HM7
  obtain ⟨c0, c1, c2, c3, c4, c5, c6, c7⟩ := HM8.out.cs
  go_wp2_with fail
  refine upon_ins (n := 8) HM8.out ?_ ?_ ?_
  · decide
  · rfl
  intro w9 hm
  have HM9 := hide hm
  clear hm c0 c1 c2 c3 c4 c5 c6 c7 HM8
  obtain ⟨c0, c1, c2, c3, c4, c5, c6, c7⟩ := HM9.out.cs
  go_wp2_with fail
  refine upon_ins (n := 9) HM9.out ?_ ?_ ?_
  · decide
  · rfl
  intro w10 hm
  have HM10 := hide hm
  clear hm c0 c1 c2 c3 c4 c5 c6 c7 HM9
  obtain ⟨c0, c1, c2, c3, c4, c5, c6, c7⟩ := HM10.out.cs
  go_wp2_with fail
  refine upon_ins (n := 10) HM10.out ?_ ?_ ?_
  · decide
  · rfl
  intro w11 hm
  have HM11 := hide hm
  clear hm c0 c1 c2 c3 c4 c5 c6 c7 HM10
  obtain ⟨c0, c1, c2, c3, c4, c5, c6, c7⟩ := HM11.out.cs
  go_wp2_with fail
  refine upon_ins (n := 11) HM11.out ?_ ?_ ?_
  · decide
  · rfl
  intro w12 hm
  have HM12 := hide hm
  clear hm c0 c1 c2 c3 c4 c5 c6 c7 HM11
  obtain ⟨c0, c1, c2, c3, c4, c5, c6, c7⟩ := HM12.out.cs
  go_wp2_with fail
  refine upon_ins (n := 12) HM12.out ?_ ?_ ?_
  · decide
  · rfl
  intro w13 hm
  have HM13 := hide hm
  clear hm c0 c1 c2 c3 c4 c5 c6 c7 HM12
  obtain ⟨c0, c1, c2, c3, c4, c5, c6, c7⟩ := HM13.out.cs
  go_wp2
  go_ret
  exact ⟨q + 4, rfl, by rw [HQ.out]; omega, HM13.out.1, by have h := HM13.out.2.2.2.2.2; rw [HQ.out] at h; exact h⟩

end Go.Proofs.Ytdlhhkegkfhmoaa
