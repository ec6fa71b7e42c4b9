/- Contracts of the document's disk: Write. -/
import Derived.Test.YtapdaeafeejknaaGreatDoorRDisk4
namespace Go.Proofs.YtapdaeafeejknaaGreatDoor
open Go.RowKit
set_option maxRecDepth 20000
set_option linter.unusedVariables false
set_option linter.unusedSimpArgs false

theorem str_append (a b : List Int) : strOfNums a ++ strOfNums b = strOfNums (a ++ b) := by
  apply ByteArray.ext
  rw [ByteArray.data_append]
  simp [strOfNums]
theorem rsecs_seg {l : List Sec} {n : Nat} (hn : n < l.length) {s : Sec} : segV (rsecsV l) (n * 2) (rsecV s) = rsecsV (l.set n s) := by
  have h := flat_seg (rsecs_row l) (rsecs_at hn) 0 (rsecV s) (by show 0 + 2 ≤ 2; omega)
  rw [Nat.add_zero] at h
  unfold segV rsecsV
  rw [h, ← rsecs_set]
  rfl
theorem rwrite_arg {B : Nat} {L : RLoc} {dur : List Sec} {pend : List Wr} (n : Int) (A : Option Addr) (m c : Nat) (w : World) (h : RAt B w L dur pend) (hn : n < 0 ∨ (dur.length : Int) ≤ n) :
    Calls Tryz.prog 9 #[L.ptr, .int .i64 n, .slice A m c] w fun e w' => e = .returned (.int .i64 1) ∧ w = w' := by
  obtain ⟨h0, h1, h2⟩ := h.cell
  clear h h0 h2
  by_cases hneg : n < 0
  · clear hn
    go_enter Tryz.func9, Tryz.ntmps9
    unfold RLoc.ptr
    go_wp2
    go_ret
    exact ⟨rfl, rfl⟩
  · have hge : (dur.length : Int) ≤ n := by omega
    clear hn
    go_enter Tryz.func9, Tryz.ntmps9
    unfold RLoc.ptr
    go_wp2
    go_ret
    exact ⟨rfl, rfl⟩
theorem rwrite_long {B : Nat} {L : RLoc} {dur : List Sec} {pend : List Wr} (n : Nat) (A : Option Addr) (m c : Nat) (w : World) (h : RAt B w L dur pend) (hn : n < dur.length) (hm : 64 < m) :
    Calls Tryz.prog 9 #[L.ptr, .int .i64 (n : Int), .slice A m c] w fun e w' => e = .returned (.int .i64 1) ∧ w = w' := by
  obtain ⟨h0, h1, h2⟩ := h.cell
  have f0 : (0 : Int) ≤ (n : Int) := by omega
  have f1 : (n : Int) < (dur.length : Int) := by omega
  have f2 : (64 : Int) < (m : Int) := by omega
  clear h h0 h2
  go_enter Tryz.func9, Tryz.ntmps9
  unfold RLoc.ptr
  go_wp2
  go_ret
  exact ⟨rfl, rfl⟩

set_option maxRecDepth 100000 in
set_option maxHeartbeats 4000000 in
theorem rwrite_ok {B : Nat} {L : RLoc} {dur : List Sec} {pend : List Wr} (n : Nat) (A : Option Addr) (m c : Nat) (bs : List Int) (w : World) (h : RAt B w L dur pend) (hn : n < dur.length)
    (hl : Lies w A m (bs.map (Value.int .u8))) (hm : m ≤ 64) (hb : ∀ x ∈ bs, 0 ≤ x ∧ x < 256) (hp : pend.length ≤ 1000000000) :
    Calls Tryz.prog 9 #[L.ptr, .int .i64 (n : Int), .slice A m c] w fun e w' => e = .returned (.int .i64 0) ∧ ∃ L', L'.g = L.g ∧ RAt B w' L' dur (pend ++ [⟨n, padB bs, false⟩]) ∧ RStep w w' L L' := by
  obtain ⟨i0, hi, hz0, hz1, hz2⟩ := info_parts Tryz.infoRW
  have HI := hide hi
  have HZ0 := hide hz0
  have HZ1 := hide hz1
  have HZ2 := hide hz2
  have HD := hide h
  have HTOP := hide h.top
  have HL := hide hl
  obtain ⟨pA, pc, hpf⟩ := waits_form h.waits
  have HPF := hide hpf
  have hbl : bs.length = m := by have := hl.len; simpa using this
  have HPAD : Hid (strOfNums bs ++ strOfNums (List.replicate (64 - m) 0) = strOfNums (padB bs)) := hide (by rw [str_append, padB, hbl])
  have HOK : Hid (OkB (padB bs)) := hide (okB_pad (by omega) hb)
  have hsl : (seenOf dur pend).length = dur.length := seen_len dur pend
  have hn1 : n < (seenOf dur pend).length := by omega
  have HN1 := hide hn1
  have HN := hide hn
  have HSL := hide hsl
  have h1 := h.cell.2.1
  have hmx := h.max
  have hbase : B ≤ w.heap.size := Nat.le_trans h.base (Nat.le_of_lt (lt_of_heap h.top))
  have f0 : (0 : Int) ≤ (n : Int) := by omega
  have f1 : (n : Int) < (dur.length : Int) := by omega
  have f2 : (m : Int) ≤ 64 := by omega
  have f3 : ((64 - m : Nat) : Int) = 64 - (m : Int) := by omega
  have f4 : IntKind.i64.wrap (64 - (m : Int)) = 64 - (m : Int) := IntWalk.i64_in _ (by omega)
  have HNG := hide (fun w => noughts_any (64 - m) w (by omega))
  rw [f3] at HNG
  clear hi hz0 hz1 hz2 h hl hpf hbl hsl hn hn1 f3
  go_enter Tryz.func9, Tryz.ntmps9
  unfold RLoc.ptr
  go_wp2_with fail
  -- region 3
  have hsz : (strOfNums bs).size + (strOfNums (List.replicate (64 - m) 0)).size ≤ 9223372036854775807 := by rw [strOfNums_size, strOfNums_size, List.length_replicate]; have := HL.out.len; simp at this; omega
  have hS0 : Hid (Lies w.drew A m (bs.map (Value.int .u8))) := hide (HL.out.drewN 1)
  refine wp_region_U (fun _ w' => Lies w' A m (bs.map (Value.int .u8))) 50 (by kernel_rfl) ?_
  refine wpAnyU_take (i := 0) (oi := { dst := some 24, op := _, type := _, pos := _, after := _, guard := none }) (v := .slice A m c) rfl (by kernel_rfl) (by kernel_rfl) (by kernel_rfl) (by kernel_rfl) (fun _ _ _ h => h) (yields_take rfl (fun w' hw => by go_simp)) hS0.out ?_
  simp only [Act.put, List.setIfInBounds_toArray, List.set_cons_zero, List.set_cons_succ]
  refine wpAnyU_take (i := 1) (oi := { dst := some 25, op := _, type := _, pos := _, after := _, guard := none }) (v := .string (strOfNums bs)) rfl (by kernel_rfl) (by kernel_rfl) (by kernel_rfl) (by kernel_rfl) (fun _ _ _ h => h) (yields_take rfl (fun w' hw => by have hc := conv_any A m c bs w' hw.const; unfold strV at hc; go_simp)) hS0.out ?_
  simp only [Act.put, List.setIfInBounds_toArray, List.set_cons_zero, List.set_cons_succ]
  refine wpAnyU_take (i := 2) (oi := { dst := some 26, op := _, type := _, pos := _, after := _, guard := none }) (v := .slice A m c) rfl (by kernel_rfl) (by kernel_rfl) (by kernel_rfl) (by kernel_rfl) (fun _ _ _ h => h) (yields_take rfl (fun w' hw => by go_simp)) hS0.out ?_
  simp only [Act.put, List.setIfInBounds_toArray, List.set_cons_zero, List.set_cons_succ]
  refine wpAnyU_take (i := 3) (oi := { dst := some 27, op := _, type := _, pos := _, after := _, guard := none }) (v := .int .i64 (m : Int)) rfl (by kernel_rfl) (by kernel_rfl) (by kernel_rfl) (by kernel_rfl) (fun _ _ _ h => h) (yields_take rfl (fun w' hw => by go_simp)) hS0.out ?_
  simp only [Act.put, List.setIfInBounds_toArray, List.set_cons_zero, List.set_cons_succ]
  refine wpAnyU_take (i := 4) (oi := { dst := some 28, op := _, type := _, pos := _, after := _, guard := none }) (v := .int .i64 (64 - (m : Int))) rfl (by kernel_rfl) (by kernel_rfl) (by kernel_rfl) (by kernel_rfl) (fun _ _ _ h => h) (yields_take rfl (fun w' hw => by go_simp)) hS0.out ?_
  simp only [Act.put, List.setIfInBounds_toArray, List.set_cons_zero, List.set_cons_succ]
  refine wpAnyU_one (i := 5) (by kernel_rfl) rfl ?_
  intro K hK
  go_simp
  refine Calls.mono (HNG.out _) ?_
  rintro e w1 ⟨rfl, hb1⟩
  unfold strV
  dsimp only
  have hS1 : Hid (Lies w1 A m (bs.map (Value.int .u8))) := hide (hS0.out.below hb1)
  have HB1 : Hid (Below w.heap.size w w1) := hide ((below_drewN (Below.refl w.heap.size w) 1).trans hb1)
  refine hK.out _ _ hS1.out (fun _ => ?_)
  clear hK K hS0 hb1
  refine wpAnyU_take (i := 6) (oi := { dst := some 30, op := _, type := _, pos := _, after := _, guard := none }) (v := .string (strOfNums (padB bs))) rfl (by kernel_rfl) (by kernel_rfl) (by kernel_rfl) (by kernel_rfl) (fun _ _ _ h => h) (yields_take rfl (fun w' hw => by have hq := HPAD.out; go_simp)) hS1.out ?_
  simp only [Act.put, List.setIfInBounds_toArray, List.set_cons_zero, List.set_cons_succ]
  refine wpAnyU_take (i := 7) (oi := { dst := some 7, op := _, type := _, pos := _, after := _, guard := none }) (v := .string (strOfNums (padB bs))) rfl (by kernel_rfl) (by kernel_rfl) (by kernel_rfl) (by kernel_rfl) (fun _ _ _ h => h) (yields_take rfl (fun w' hw => by go_simp)) hS1.out ?_
  simp only [Act.put, List.setIfInBounds_toArray, List.set_cons_zero, List.set_cons_succ]
  refine wpAnyU_done (by kernel_rfl) ?_ _
  clear hS1
  have hs1 := HB1.out.size
  have hd1 := HD.out.below HB1.out
  have HD1 := hide hd1
  have r1 := hd1.cell.2.1
  have HI4 : Hid ((Tryz.prog.info? 74).map (·.size) = some (rsecV ⟨padB bs, false⟩).length) := hide (by kernel_rfl)
  have HR4 : Hid (n * 2 + (rsecV ⟨padB bs, false⟩).length ≤ (seenOf dur pend).length * 2) := hide (by have := HN1.out; show n * 2 + 2 ≤ _; omega)
  have HY4 : Hid (Value.agg #[.string (strOfNums (padB bs)), .bool false] = .agg (rsecV ⟨padB bs, false⟩).toArray) := hide rfl
  clear h1 hd1
  go_wp2_with (first | (refine wpList_store_row rfl 74 _ _ rfl L.gs (n * 2) (rsecV ⟨padB bs, false⟩) rfl rfl HD1.out.seen HI4.out HR4.out (rsecV_one _) ?_))
  intro w2 HO2 HG2 hz2
  have HS2 : Hid (RSR B w2 L.gs L.cs (applyW (seenOf dur pend) ⟨n, padB bs, false⟩)) := hide (by
    have h := HO2.out
    rw [rsecs_seg HN1.out] at h
    unfold RSR applyW
    rw [List.length_set, Bool.and_false]
    exact h)
  have hgL : L.g < w1.heap.size := lt_of_heap HD1.out.top
  have t2 : w2.heap[L.g]? = some (.cells #[.slice (some ⟨L.gd, 0, none⟩) dur.length L.cd, .slice (some ⟨L.gs, 0, none⟩) dur.length L.cs, L.p] 71 (0, 0)) :=
    (HG2.out.block L.g hgL (fun e => HD1.out.g_ne_s (by injection e))).trans HD1.out.top
  have HT2 := hide t2
  have r2 : w2.cell? ⟨L.g, 2, none⟩ = some (.slice pA pend.length pc) := by rw [cell_of_row _ _ _ _ _ _ t2, ← HPF.out]; rfl
  have HW2 : Hid (w2.ownsRow B 89 3 (.slice pA pend.length pc) pend.length (rwrsV pend)) := hide (by
    rw [← HPF.out]
    exact HD1.out.waits.kept HG2.out (.inr (fun e => HD1.out.p_ne_s e)))
  have HWL : Hid ((rwrsV pend).length = pend.length * 3) := hide (rwrsV_len _)
  have HNEW := hide (cells_new w2 (rwrV ⟨n, padB bs, false⟩) 89)
  have hb2 : B ≤ (w2.alloc (.cells (rwrV ⟨n, padB bs, false⟩).toArray 89)).heap.size := by simp; omega
  have HZS2 := hide hz2
  clear HO2 t2 r1 hz2
  go_wp2_with (at_builtin; refine wpList_append_moved (w := w2.alloc (.cells (rwrV ⟨n, padB bs, false⟩).toArray 89)) rfl (.tmp 43) (.tmp 47) 69 rfl 89 i0 (.agg #[.int .i64 0, .string ⟨#[]⟩, .bool false]) 3 32 Tryz.underlying69 HI.out HZ0.out HZ1.out HZ2.out rfl (by decide) B (.slice pA pend.length pc) pend.length (rwrsV pend) rfl (HW2.out.alloc _) hb2 ⟨w2.heap.size, 0, none⟩ (rwrV ⟨n, padB bs, false⟩) rfl rfl HNEW.out (rwrV_one _) (by omega) (by unfold maxLen; omega) ?_)
  intro g4 c4 w4 HO4 HM4
  have ho4 := HO4.out
  have hg4 : (w2.alloc (.cells (rwrV ⟨n, padB bs, false⟩).toArray 89)).grownBy w4 (Value.slice pA pend.length pc).ownBlock := by
    rcases HM4.out with ⟨_, hg⟩ | ⟨hg, _⟩
    · exact hg
    · exact ⟨hg.os, hg.tape, hg.output, hg.size, fun i hi _ => hg.block i hi (by simp)⟩
  have hal : ∀ b, b < w2.heap.size → (w2.alloc (.cells (rwrV ⟨n, padB bs, false⟩).toArray 89)).heap[b]? = w2.heap[b]? := fun b hb => ((Below.refl w2.heap.size w2).alloc (Nat.le_refl _) (.cells (rwrV ⟨n, padB bs, false⟩).toArray 89)).block b hb
  have hasz : (w2.alloc (.cells (rwrV ⟨n, padB bs, false⟩).toArray 89)).heap.size = w2.heap.size + 1 := by simp
  have hgL2 : L.g < w2.heap.size := lt_of_heap HT2.out
  have hblk : ∀ b, b < w2.heap.size → L.p.ownBlock ≠ some b → w4.heap[b]? = w2.heap[b]? := fun b hb hne => by
    rw [hg4.block b (by omega) (fun e => hne (by rw [HPF.out]; exact e.symm)), hal b hb]
  have t4 := (hblk L.g hgL2 HD1.out.p_ne_g).trans HT2.out
  have r4 : w4.cell? ⟨L.g, 2, none⟩ = some L.p := by rw [cell_of_row _ _ _ _ _ _ t4]; rfl
  have r5 : w4.frozen? ⟨L.g, 2, none⟩ = false := frozen_of_row w4 L.g 2 _ _ t4
  obtain ⟨W5, hW5⟩ : ∃ W5, w4.setCell ⟨L.g, 2, none⟩ (.slice (some ⟨g4, 0, none⟩) (pend.length + 1) c4) = W5 := ⟨_, rfl⟩
  have t5 : W5.heap[L.g]? = some (.cells #[.slice (some ⟨L.gd, 0, none⟩) dur.length L.cd, .slice (some ⟨L.gs, 0, none⟩) dur.length L.cs, .slice (some ⟨g4, 0, none⟩) (pend.length + 1) c4] 71 (0, 0)) := by
    rw [← hW5]
    exact heap_setCell_same w4 L.g 2 _ _ _ t4
  have ho5 : ∀ b, b ≠ L.g → W5.heap[b]? = w4.heap[b]? := fun b hb => by rw [← hW5]; exact heap_setCell_other w4 ⟨L.g, 2, none⟩ b _ hb
  have hne4 : g4 ≠ L.g := by
    obtain ⟨cur, hc, _⟩ := own_heap ho4
    exact fun e => by
      subst e
      rw [t4] at hc
      injection hc with hc
      injection hc with _ hc
      exact absurd hc (by decide)
  have hgs1 : L.gs < w2.heap.size := HS2.out.lt.2
  have hgd1 : L.gd < w1.heap.size := HD1.out.sure.lt.2
  have HFIN : Hid (RAt B W5 ⟨L.g, L.gs, L.cs, L.gd, L.cd, .slice (some ⟨g4, 0, none⟩) (pend.length + 1) c4⟩ dur (pend ++ [⟨n, padB bs, false⟩])) := hide (by
    refine ⟨HD.out.base, t5, ?_, ?_, ?_, HD.out.ne, HD.out.pos, HD.out.max, HD.out.okS, ?_⟩
    · rw [seen_snoc]
      exact HS2.out.same ((ho5 _ HD.out.g_ne_s.symm).trans (hblk _ hgs1 HD1.out.p_ne_s))
    · exact HD1.out.sure.same ((ho5 _ HD.out.g_ne_d.symm).trans ((hblk _ (by rw [HZS2.out]; exact hgd1) HD1.out.p_ne_d).trans (HG2.out.block _ hgd1 (fun e => HD.out.ne (by injection e with e; exact e.symm)))))
    · rw [List.length_append, rwrs_snoc]
      exact ownsRow_same ho4 (fun b hb => by injection hb with hb; exact ho5 b (by rw [← hb]; exact hne4))
    · intro y hy
      rcases List.mem_append.1 hy with hy | hy
      · exact HD.out.okW y hy
      · simp at hy; subst hy; exact ⟨HOK.out, HN.out⟩)
  have HST : Hid (RStep w W5 L ⟨L.g, L.gs, L.cs, L.gd, L.cd, .slice (some ⟨g4, 0, none⟩) (pend.length + 1) c4⟩) := hide (by
    have hb1 := HB1.out
    have hsz5 : W5.heap.size = w4.heap.size := by rw [← hW5, World.size_setCell]
    have hs4 := hg4.size
    refine ⟨⟨?_, ?_, ?_, ?_, fun b hb hn => ?_⟩, ?_⟩
    · rw [← hW5]; exact hg4.os.trans (HG2.out.os.trans hb1.os)
    · rw [← hW5]; exact hg4.tape.trans (HG2.out.tape.trans hb1.tape)
    · rw [← hW5]; exact hg4.output.trans (HG2.out.output.trans hb1.output)
    · have := HZS2.out; omega
    · rw [ho5 b (fun e => hn (.inl e)), hblk b (by rw [HZS2.out]; exact Nat.lt_of_lt_of_le hb hb1.size) (fun e => hn (.inr (.inr (.inr e)))), HG2.out.block b (Nat.lt_of_lt_of_le hb hb1.size) (fun e => hn (.inr (.inl (by injection e)))), hb1.block b hb]
    · rintro b (rfl | rfl | rfl | hb)
      · exact .inl (.inl rfl)
      · exact .inl (.inr (.inl rfl))
      · exact .inl (.inr (.inr (.inl rfl)))
      · have hb' : g4 = b := by injection hb
        subst hb'
        rcases HM4.out with ⟨hv, _⟩ | ⟨_, hnew⟩
        · exact .inl (.inr (.inr (.inr (by rw [HPF.out, ← hv]; rfl))))
        · have h5 := hnew g4 rfl
          have h6 := HZS2.out
          have h7 := hb1.size
          exact .inr (by omega))
  clear t4 t5 hblk hal
  go_wp2
  go_ret
  exact ⟨rfl, ⟨L.g, L.gs, L.cs, L.gd, L.cd, .slice (some ⟨g4, 0, none⟩) (pend.length + 1) c4⟩, rfl, HFIN.out, HST.out⟩
end Go.Proofs.YtapdaeafeejknaaGreatDoor
