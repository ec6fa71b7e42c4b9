/- Contracts of the document's disk: Sync, noughts. -/
import Derived.Test.YtapdaeafeejknaaGreatDoorRDisk3
namespace Go.Proofs.YtapdaeafeejknaaGreatDoor
open Go.RowKit
set_option maxRecDepth 20000
set_option linter.unusedVariables false
set_option linter.unusedSimpArgs false

section
variable {P : Program} {w : World}
/-- append of a whole slice onto nil, elements of several cells: a row of the call's own. -/
theorem wpList_append_rows {ops : Array Oper} {rest : List Oper} {op : Oper} {a : Act} {Q : Exit → Act → World → Prop} (hgd : op.guard = none) (s x : Operand) (t : TypeId)
    (hop : op.op = .call { callee := .builtin .append, args := #[s, x], argTypes := #[t, t] })
    (e : TypeId) (i : TypeInfo) (z : Value) (size bytes : Nat) (ht : P.underlying t = some (.slice e)) (hi : P.info? e = some i) (hz : i.zero = some z) (hsize : i.size = size) (hby : i.bytes = bytes) (hzs : z.cells.size = size) (hpos : 0 < size)
    (hs : a.eval s = .slice none 0 0) (ad : Addr) (m c : Nat) (news : List Value) (hx : a.eval x = .slice (some ad) m c) (hl : news.length = m * size) (hnews : ∀ j u, news[j]? = some u → w.cell? (ad.add j) = some u) (h1 : ∀ u ∈ news, u.oneCell' = true)
    (hm : 0 < m) (hb : m * bytes ≤ 140737488355328) (h63 : m ≤ maxLen)
    (h : ∀ g c' w', w'.ownsRow w.heap.size e size (.slice (some ⟨g, 0, none⟩) m c') m news → Below w.heap.size w w' → w.heap.size ≤ g → wpList P ops Q rest (a.put op.dst (.slice (some ⟨g, 0, none⟩) m c')) w') : wpList P ops Q (op :: rest) a w := by
  refine wpList_append_own w hgd s x t hop w.heap.size e i z size bytes ht hi hz hsize hby hzs hpos (.slice none 0 0) 0 [] hs (World.ownsRow_nil _ _ _ _) ad m c news hx hl hnews h1 (by omega) (by rw [Nat.zero_add]; exact hb) (Nat.le_refl _) ?_
  intro v' w' ho hg _
  rw [Nat.zero_add, List.nil_append] at ho
  rcases ho.2 with ⟨_, h0⟩ | ⟨g, cap, cur, rfl, hgb, r⟩
  · omega
  · exact h g cap w' ho ⟨hg.os, hg.tape, hg.output, hg.size, fun j hj => hg.block j hj (by simp [Value.ownBlock])⟩ hgb
/-- append of one element of several cells onto a row of the call's own; where the longer row lies is told. -/
theorem wpList_append_moved {ops : Array Oper} {rest : List Oper} {op : Oper} {a : Act} {Q : Exit → Act → World → Prop} (hgd : op.guard = none) (s x : Operand) (t : TypeId)
    (hop : op.op = .call { callee := .builtin .append, args := #[s, x], argTypes := #[t, t] })
    (e : TypeId) (i : TypeInfo) (z : Value) (size bytes : Nat) (ht : P.underlying t = some (.slice e)) (hi : P.info? e = some i) (hz : i.zero = some z) (hsize : i.size = size) (hby : i.bytes = bytes) (hzs : z.cells.size = size) (hpos : 0 < size)
    (base : Nat) (v : Value) (n : Nat) (xs : List Value) (hs : a.eval s = v) (ho : w.ownsRow base e size v n xs) (hbase : base ≤ w.heap.size)
    (ad : Addr) (news : List Value) (hxe : a.eval x = .slice (some ad) 1 1) (hl : news.length = 1 * size) (hx : ∀ j u, news[j]? = some u → w.cell? (ad.add j) = some u) (h1 : ∀ u ∈ news, u.oneCell' = true) (hb : (n + 1) * bytes ≤ 140737488355328) (h63 : n + 1 ≤ maxLen)
    (h : ∀ g' c' w', Hid (w'.ownsRow base e size (.slice (some ⟨g', 0, none⟩) (n + 1) c') (n + 1) (xs ++ news)) → Hid (Moved w w' v (.slice (some ⟨g', 0, none⟩) (n + 1) c')) → wpList P ops Q rest (a.put op.dst (.slice (some ⟨g', 0, none⟩) (n + 1) c')) w') : wpList P ops Q (op :: rest) a w := by
  refine wpList_plain hgd fun K hK => ?_
  obtain ⟨g', c', w', hrun, hown, hg⟩ := run_append_moved (P := P) (w := w) t op.type e i z size bytes ht hi hz hsize hby hzs hpos base v n xs ho hbase ad news hl hx h1 hb h63
  unfold Oper.wp
  simp [execOp, hop, resolve, invoke, builtin, hs, hxe, hrun, Result.andThen]
  exact hK _ _ (h g' c' w' (hide hown) (hide hg))
end

theorem Tryz.infoRS : (Tryz.prog.info? 74).map (fun i => (i.zero, i.size, i.bytes)) = some (some (.agg #[.string ⟨#[]⟩, .bool false]), 2, 24) := by kernel_rfl
theorem Tryz.infoRW : (Tryz.prog.info? 89).map (fun i => (i.zero, i.size, i.bytes)) = some (some (.agg #[.int .i64 0, .string ⟨#[]⟩, .bool false]), 3, 32) := by kernel_rfl

theorem RSR.cells {B : Nat} {w : World} {g c : Nat} {l : List Sec} (h : RSR B w g c l) : ∀ j u, (rsecsV l)[j]? = some u → w.cell? ((⟨g, 0, none⟩ : Addr).add j) = some u := World.ownsRow.cells h rfl

set_option maxRecDepth 100000 in
set_option maxHeartbeats 4000000 in
theorem rsync_any {B : Nat} {L : RLoc} {dur : List Sec} {pend : List Wr} (w : World) (h : RAt B w L dur pend) :
    Calls Tryz.prog 11 #[L.ptr] w fun e w' => e = .returned (.int .i64 0) ∧ ∃ L', L'.g = L.g ∧ RAt B w' L' (seenOf dur pend) [] ∧ RStep w w' L L' := by
  obtain ⟨i0, hi, hz0, hz1, hz2⟩ := info_parts Tryz.infoRS
  have HI := hide hi
  have HZ0 := hide hz0
  have HZ1 := hide hz1
  have HZ2 := hide hz2
  have HD := hide h
  have HTOP := hide h.top
  have hsl : (seenOf dur pend).length = dur.length := seen_len dur pend
  have HSL := hide hsl
  have h1 := h.cell.2.1
  have hpos := h.pos
  have hmx := h.max
  have hbase : B ≤ w.heap.size := Nat.le_trans h.base (Nat.le_of_lt (lt_of_heap h.top))
  have HLEN : Hid ((rsecsV (seenOf dur pend)).length = dur.length * 2) := hide (by rw [rsecsV_len, hsl])
  clear hi hz0 hz1 hz2 h hsl
  go_enter Tryz.func11, Tryz.ntmps11
  unfold RLoc.ptr
  go_wp2_with (at_builtin; refine wpList_append_rows rfl _ _ 68 rfl 74 i0 (.agg #[.string ⟨#[]⟩, .bool false]) 2 24 Tryz.underlying68 HI.out HZ0.out HZ1.out HZ2.out rfl (by decide) rfl ⟨L.gs, 0, none⟩ dur.length L.cs (rsecsV (seenOf dur pend)) rfl HLEN.out HD.out.seen.cells (rsecsV_one _) hpos (by omega) (by unfold maxLen; omega) ?_)
  intro g1 c1 w1 ho1 hb1 hg1
  have HB1 := hide hb1
  have ht1 : w1.heap[L.g]? = some (.cells #[.slice (some ⟨L.gd, 0, none⟩) dur.length L.cd, .slice (some ⟨L.gs, 0, none⟩) dur.length L.cs, L.p] 71 (0, 0)) := (hb1.block L.g (lt_of_heap HTOP.out)).trans HTOP.out
  have k0 : w1.cell? ⟨L.g, 0, none⟩ = some (.slice (some ⟨L.gd, 0, none⟩) dur.length L.cd) := by rw [cell_of_row _ _ _ _ _ _ ht1]; rfl
  have k1 : w1.frozen? ⟨L.g, 0, none⟩ = false := frozen_of_row w1 L.g 0 _ _ ht1
  obtain ⟨W2, hW2⟩ : ∃ W2, w1.setCell ⟨L.g, 0, none⟩ (.slice (some ⟨g1, 0, none⟩) dur.length c1) = W2 := ⟨_, rfl⟩
  have ht2 : W2.heap[L.g]? = some (.cells #[.slice (some ⟨g1, 0, none⟩) dur.length c1, .slice (some ⟨L.gs, 0, none⟩) dur.length L.cs, L.p] 71 (0, 0)) := by
    rw [← hW2]
    exact heap_setCell_same w1 L.g 0 _ _ _ ht1
  have k2 : W2.cell? ⟨L.g, 2, none⟩ = some L.p := by rw [cell_of_row _ _ _ _ _ _ ht2]; rfl
  have k3 : W2.frozen? ⟨L.g, 2, none⟩ = false := frozen_of_row W2 L.g 2 _ _ ht2
  obtain ⟨W3, hW3⟩ : ∃ W3, W2.setCell ⟨L.g, 2, none⟩ (.slice none 0 0) = W3 := ⟨_, rfl⟩
  have ht3 : W3.heap[L.g]? = some (.cells #[.slice (some ⟨g1, 0, none⟩) dur.length c1, .slice (some ⟨L.gs, 0, none⟩) dur.length L.cs, .slice none 0 0] 71 (0, 0)) := by
    rw [← hW3]
    exact heap_setCell_same W2 L.g 2 _ _ _ ht2
  have hother : ∀ b, b ≠ L.g → W3.heap[b]? = w1.heap[b]? := fun b hb => by
    rw [← hW3, heap_setCell_other W2 ⟨L.g, 2, none⟩ b _ hb, ← hW2, heap_setCell_other w1 ⟨L.g, 0, none⟩ b _ hb]
  have hsize : W3.heap.size = w1.heap.size := by rw [← hW3, World.size_setCell, ← hW2, World.size_setCell]
  have heq : W3.os = w1.os ∧ W3.tape = w1.tape ∧ W3.output = w1.output := by rw [← hW3, ← hW2]; exact ⟨rfl, rfl, rfl⟩
  have hgL : L.g < w.heap.size := lt_of_heap HTOP.out
  have hgs : L.gs < w.heap.size := HD.out.seen.lt.2
  have HFIN : Hid (RAt B W3 ⟨L.g, L.gs, L.cs, g1, c1, .slice none 0 0⟩ (seenOf dur pend) []) := hide (by
    refine ⟨HD.out.base, by rw [HSL.out]; exact ht3, ?_, ?_, World.ownsRow_nil _ _ _ _, by show L.gs ≠ g1; omega, by rw [HSL.out]; exact hpos, by rw [HSL.out]; exact hmx, seen_ok HD.out.okS (fun x hx => (HD.out.okW x hx).1), fun x hx => by cases hx⟩
    · show RSR B W3 L.gs L.cs (seenOf dur pend)
      exact HD.out.seen.same ((hother _ HD.out.g_ne_s.symm).trans (hb1.block _ hgs))
    · show RSR B W3 g1 c1 (seenOf dur pend)
      unfold RSR
      rw [HSL.out]
      exact ownsRow_same (own_base' ho1 hbase) (fun b hb => by injection hb with hb; exact hother b (by show b ≠ L.g; intro e; have : g1 = b := hb; omega)))
  have HST : Hid (RStep w W3 L ⟨L.g, L.gs, L.cs, g1, c1, .slice none 0 0⟩) := hide (by
    refine ⟨⟨heq.1.trans hb1.os, heq.2.1.trans hb1.tape, heq.2.2.trans hb1.output, by rw [hsize]; exact hb1.size, fun b hb hn => ?_⟩, ?_⟩
    · rw [hother b (fun e => hn (.inl e))]
      exact hb1.block b hb
    · rintro b (rfl | rfl | rfl | hb)
      · exact .inl (.inl rfl)
      · exact .inl (.inr (.inl rfl))
      · exact .inr hg1
      · cases hb)
  clear ht1 ht2 ht3 hother hsize heq ho1 hb1 hgL hgs
  go_wp2
  go_ret
  exact ⟨rfl, ⟨L.g, L.gs, L.cs, g1, c1, .slice none 0 0⟩, rfl, HFIN.out, HST.out⟩

theorem conv_any (A : Option Addr) (n c : Nat) (bs : List Int) (w : World) (h : Lies w A n (bs.map (Value.int .u8))) : (convert 48 9 (.slice A n c)).run Tryz.prog w = .ok (strV bs) w := by
  have hl : bs.length = n := by have := h.len; simpa using this
  rcases Nat.eq_zero_or_pos n with rfl | hn
  · have hb : bs = [] := List.eq_nil_of_length_eq_zero hl
    subst hb
    cases A with
    | none => exact run_convert_bytes_nil w 48 5 Tryz.underlying48 Tryz.underlying5 0 c _ Tryz.underlying9
    | some a =>
      rw [run_convert_bytes_string w _ _ 5 _ _ _ Tryz.underlying48 Tryz.underlying5 Tryz.underlying9]
      exact run_bytesToString (P := Tryz.prog) w a 0 c [] (run_loadCells_list (P := Tryz.prog) w a [] (fun j v hj => by simp at hj))
  · obtain ⟨b, o, rfl, _, hx⟩ := byte_at h hn
    exact run_convert_bytes_arg w 48 5 Tryz.underlying48 Tryz.underlying5 b o n c bs hl hx _ Tryz.underlying9
theorem make_u8 (n : Nat) (h : n ≤ 1048576) (w : World) : (Instr.makeSlice 48 (.int .i64 (n : Int)) (.int .i64 (n : Int))).run Tryz.prog w = .ok (.slice (some ⟨w.heap.size, 0, none⟩) n n) (w.alloc (.cells ((List.replicate n (0 : Int)).map (Value.int .u8)).toArray 5)) := by
  obtain ⟨i0, hi, hz0, hz1, hz2⟩ := info_parts Tryz.infoB
  have hr := run_make (P := Tryz.prog) w 48 5 i0 (.int .u8 0) Tryz.underlying48 hi hz0 .i64 .i64 (n : Int) (n : Int) (by omega) (by omega) (by rw [hz2]; omega) (by omega)
  have e : madeCells (Value.int .u8 0).cells n = ((List.replicate n (0 : Int)).map (Value.int .u8)).toArray := by
    apply Array.toList_inj.1
    have := toList_madeCells_one (.int .u8 0) n
    simpa [Value.cells] using this
  rw [hr, hz1]
  simp only [Int.toNat_natCast, Nat.mul_one]
  rw [e]
theorem noughts_any (n : Nat) (w : World) (hn : n ≤ 64) :
    Calls Tryz.prog 29 #[.int .i64 (n : Int)] w fun e w' => e = .returned (strV (List.replicate n 0)) ∧ Below w.heap.size w w' := by
  have hmk := make_u8 n (by omega) w
  obtain ⟨W1, hW1⟩ : ∃ W1, W1 = w.alloc (.cells ((List.replicate n (0 : Int)).map (Value.int .u8)).toArray 5) := ⟨_, rfl⟩
  have HB : Hid (Below w.heap.size w W1) := hide (by rw [hW1]; exact (Below.refl _ _).alloc (Nat.le_refl _) _)
  have hl : Lies W1 (some ⟨w.heap.size, 0, none⟩) n ((List.replicate n (0 : Int)).map (Value.int .u8)) := by
    rw [hW1]
    refine ⟨by simp, fun _ => ⟨w.heap.size, 0, rfl, by simp, fun j hj => ?_⟩⟩
    rw [cell_of_row _ _ _ _ _ _ (heap_alloc_new w _), Nat.zero_add]
    simp [hj]
  have hcv := conv_any (some ⟨w.heap.size, 0, none⟩) n n _ W1 hl
  rw [← hW1] at hmk
  have h0 : (0 : Int) ≤ (n : Int) := by omega
  clear hl hW1
  go_enter Tryz.func29, Tryz.ntmps29
  go_wp2
  go_ret
  exact ⟨rfl, HB.out⟩
end Go.Proofs.YtapdaeafeejknaaGreatDoor
