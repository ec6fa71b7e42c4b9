/- Contract of Write of package disks on a disk that is there: the walk. -/
import Derived.Test.YtapdaeafeejknaaGreatDoorDiskWrite
import Derived.Test.YtapdaeafeejknaaGreatDoorRegU
namespace Go.Proofs.YtapdaeafeejknaaGreatDoor
open Go.RowKit
set_option maxRecDepth 20000
set_option linter.unusedSimpArgs false

theorem Tryz.infoWrF : (Tryz.prog.info? 83).map (fun i => (i.zero, i.size, i.bytes)) = some (some (.agg (.int .i64 0 :: .int .i64 0 :: (List.replicate 64 (Value.int .u8 0) ++ [Value.bool false])).toArray), 67, 88) := by kernel_rfl
theorem Tryz.zeroWr (w : World) : (zeroValue 83).run Tryz.prog w = .ok (.agg #[.int .i64 0, .int .i64 0, .int .u8 0, .int .u8 0, .int .u8 0, .int .u8 0, .int .u8 0, .int .u8 0, .int .u8 0, .int .u8 0, .int .u8 0, .int .u8 0, .int .u8 0, .int .u8 0, .int .u8 0, .int .u8 0, .int .u8 0, .int .u8 0, .int .u8 0, .int .u8 0, .int .u8 0, .int .u8 0, .int .u8 0, .int .u8 0, .int .u8 0, .int .u8 0, .int .u8 0, .int .u8 0, .int .u8 0, .int .u8 0, .int .u8 0, .int .u8 0, .int .u8 0, .int .u8 0, .int .u8 0, .int .u8 0, .int .u8 0, .int .u8 0, .int .u8 0, .int .u8 0, .int .u8 0, .int .u8 0, .int .u8 0, .int .u8 0, .int .u8 0, .int .u8 0, .int .u8 0, .int .u8 0, .int .u8 0, .int .u8 0, .int .u8 0, .int .u8 0, .int .u8 0, .int .u8 0, .int .u8 0, .int .u8 0, .int .u8 0, .int .u8 0, .int .u8 0, .int .u8 0, .int .u8 0, .int .u8 0, .int .u8 0, .int .u8 0, .int .u8 0, .int .u8 0, .bool false]) w := by kernel_rfl
def zeros64 : List Int := List.replicate 64 0
def padB (bs : List Int) : List Int := bs ++ List.replicate (64 - bs.length) 0
theorem okB_zeros : OkB zeros64 := ⟨by simp [zeros64], fun x hx => by simp [zeros64] at hx; omega⟩
theorem okB_pad {bs : List Int} (h : bs.length ≤ 64) (hb : ∀ x ∈ bs, 0 ≤ x ∧ x < 256) : OkB (padB bs) := by
  refine ⟨by simp [padB]; omega, fun x hx => ?_⟩
  rcases List.mem_append.1 hx with h | h
  · exact hb x h
  · simp at h; omega
theorem wrV_zero (i n : Nat) : wrV i ⟨n, zeros64, false⟩ = .int .i64 n :: .int .i64 i :: (List.replicate 64 (Value.int .u8 0) ++ [Value.bool false]) := by
  simp [wrV, zeros64]
theorem wrV_pad (i n : Nat) (bs : List Int) (h : bs.length ≤ 64) : segV (wrV i ⟨n, zeros64, false⟩) 2 (bs.map (Value.int .u8)) = wrV i ⟨n, padB bs, false⟩ := by
  rw [wrV_zero]
  simp only [segV, wrV, padB, List.length_map, List.take_succ_cons, List.take_zero, List.map_append, List.map_replicate, List.cons_append, List.nil_append]
  rw [show 2 + bs.length = (bs.length + 1) + 1 by omega, List.drop_succ_cons, List.drop_succ_cons, List.drop_append_of_le_length (by simp; omega), List.drop_replicate]
  simp

def Step (w w' : World) (L L' : Loc) : Prop := Turns w w' L.has ∧ ∀ b, L'.has b → L.has b ∨ w.heap.size ≤ b

theorem DiskAt.written {B : Nat} {W w' : World} {L : Loc} {dur : List Sec} {pend : List Wr} (h : DiskAt B W L dur pend) (x : Wr) (hx : OkB x.b) (hn : x.n < dur.length) (g3 c3 : Nat)
    (top : w'.heap[L.g]? = some (.cells #[.slice (some ⟨L.gs, 0, none⟩) dur.length L.cs, .slice (some ⟨L.gd, 0, none⟩) dur.length L.cd, .slice (some ⟨g3, 0, none⟩) (pend.length + 1) c3] 77 (0, 0)))
    (hs : SR B w' L.gs L.cs (applyW (seenOf dur pend) x)) (hd : w'.heap[L.gd]? = W.heap[L.gd]?) (hw : w'.ownsRow B 83 67 (.slice (some ⟨g3, 0, none⟩) (pend.length + 1) c3) (pend.length + 1) (wrsV pend ++ wrV pend.length x)) :
    DiskAt B w' ⟨L.g, L.gs, L.cs, L.gd, L.cd, .slice (some ⟨g3, 0, none⟩) (pend.length + 1) c3⟩ dur (pend ++ [x]) := by
  refine ⟨h.base, top, ?_, ownsRow_same h.sure (fun b hb => by injection hb with hb; rw [← hb]; exact hd), ?_, h.ne, h.pos, h.max, h.okS, ?_⟩
  · have := hs.1
    rw [apply_len, seen_len] at this
    rw [seen_snoc]
    exact this
  · rw [List.length_append, wrs_snoc]
    exact hw
  · intro y hy
    rcases List.mem_append.1 hy with hy | hy
    · exact h.okW y hy
    · simp at hy; subst hy; exact ⟨hx, hn⟩
set_option maxRecDepth 100000 in
set_option maxHeartbeats 2000000 in
theorem write_ok {B : Nat} {L : Loc} {dur : List Sec} {pend : List Wr} (n : Nat) (A : Option Addr) (m c : Nat) (bs : List Int) (w : World) (h : DiskAt B w L dur pend) (hn : n < dur.length)
    (hl : Lies w A m (bs.map (Value.int .u8))) (hm : m ≤ 64) (hb : ∀ x ∈ bs, 0 ≤ x ∧ x < 256) (hp : pend.length ≤ 1000000000) :
    Calls Tryz.prog 8 #[L.ptr, .int .i64 (n : Int), .slice A m c] w fun e w' => e = .returned (.int .i64 0) ∧ ∃ L', L'.g = L.g ∧ DiskAt B w' L' dur (pend ++ [⟨n, padB bs, false⟩]) ∧ Step w w' L L' := by
  have HD := hide h
  have HC := hide (check_any (n : Int) w h)
  rw [if_neg (by omega)] at HC
  obtain ⟨pA, pc, hpf⟩ := waits_form h.waits
  have h1 := h.cell.2.2
  rw [hpf] at h1
  have HPF := hide hpf
  have hmx := h.max
  have HN := hide hn
  have HL := hide hl
  have HB := hide hb
  have hbl : bs.length = m := by have := hl.len; simpa using this
  have HBL := hide hbl
  obtain ⟨i, hi, hz0, hz1, hz2⟩ := info_parts Tryz.infoWrF
  have HI := hide hi
  have HZ0 := hide hz0
  have HZ1 := hide hz1
  have HZ2 := hide hz2
  have HZS : Hid ((Value.int .i64 0 :: .int .i64 0 :: (List.replicate 64 (Value.int .u8 0) ++ [Value.bool false])).toArray.size = i.size) := hide (by rw [hz1]; rfl)
  have HIS : Hid (i.size = (wrV pend.length ⟨n, zeros64, false⟩).length) := hide (by rw [hz1, wrV_len okB_zeros])
  clear h hn hl hb hbl hi hz0 hz1 hz2 hpf
  have HO1 : Hid ((w.alloc (.cells (wrV pend.length ⟨n, zeros64, false⟩).toArray 83)).ownsRow w.heap.size 83 67 (.slice (some ⟨w.heap.size, 0, none⟩) 1 1) 1 (wrV pend.length ⟨n, zeros64, false⟩)) := hide (by
    have := World.ownsRow_lit (base := w.heap.size) (e := 83) (size := 67) w (wrV pend.length ⟨n, zeros64, false⟩).toArray 1 (Nat.le_refl _) (by unfold maxLen; omega) (by rw [List.size_toArray, wrV_len okB_zeros])
    simpa using this)
  have HL1 := hide (HL.out.alloc (.cells (wrV pend.length ⟨n, zeros64, false⟩).toArray 83))
  have HM : Hid (2 + (bs.map (Value.int .u8)).length ≤ 1 * 67) := hide (by rw [List.length_map, HBL.out]; omega)
  have hzv := Tryz.zeroWr
  go_enter Tryz.func8, Tryz.ntmps8
  go_wp2_with fail
  refine Calls.mono HC.out ?_
  rintro e w1 ⟨rfl, rfl⟩
  unfold Loc.ptr
  go_wp2_with (first | (refine wpList_alloc_store rfl rfl 83 rfl _ _ rfl _ i HI.out HZ0.out HZS.out (wrV pend.length ⟨n, zeros64, false⟩) rfl rfl HIS.out (wrV_one _ _) ?_) | (refine wpList_copy_lies rfl (.tmp 27) (.tmp 28) 48 48 rfl 5 Tryz.underlying48 Tryz.sizeB w.heap.size 2 64 64 A m c rfl rfl HO1.out (bs.map (Value.int .u8)) HL1.out hm HM.out (ones3 _ _) ?_))
  intro _ w2 HO2 HG2 hz2
  rw [wrV_pad _ _ _ (by rw [HBL.out]; exact hm)] at HO2
  have HB2 : Hid (Below w.heap.size w w2) := hide (((Below.refl w.heap.size w).alloc (Nat.le_refl _) _).grown HG2.out (by simp) (fun g hg => by injection hg with hg; omega))
  clear HO1 HL1 HM HG2 hzv HZS HIS HL
  have hsz2 : w.heap.size < w2.heap.size := by omega
  have HW : Hid (w2.ownsRow B 83 67 (.slice pA pend.length pc) pend.length (wrsV pend)) := hide (by
    have := (HD.out.below HB2.out).waits
    rwa [HPF.out] at this)
  have HD2 := hide (HD.out.below HB2.out)
  have hgs : L.g < w.heap.size := (HD.out.lt _ (.inl rfl)).2
  have d1 : w2.cell? ⟨L.g, 2, none⟩ = some (.slice pA pend.length pc) := by rw [HB2.out.cell (p := ⟨L.g, 2, none⟩) hgs]; exact h1
  have d2 : w2.frozen? ⟨L.g, 2, none⟩ = false := frozen_of_row w2 _ _ _ _ HD2.out.top
  obtain ⟨cs, hcs⟩ : ∃ cs, cs = wrV pend.length ⟨n, padB bs, false⟩ := ⟨_, rfl⟩
  have HOK : Hid (OkB (padB bs)) := hide (okB_pad (by rw [HBL.out]; exact hm) HB.out)
  have hcl : cs.length = 67 := by rw [hcs, wrV_len HOK.out]
  have h1c : ∀ v ∈ cs, v.oneCell' = true := by rw [hcs]; exact wrV_one _ _
  have HCS := hide hcs
  rw [← hcs] at HO2
  clear hcs h1
  have HRA : Hid (w2.rangeAt w.heap.size 0 cs) := hide (fun j v hj => by
    have := HO2.out.cells (g := w.heap.size) rfl j v hj
    rwa [Addr.add_lit] at this)
  have HLD : Hid ((Instr.loadAt 83 (.pointer (some ⟨w.heap.size, 0, none⟩))).run Tryz.prog w2.drew = .ok (.agg cs.toArray) w2.drew) := hide (Go.run_loadAt_mid w2.drew w.heap.size 0 83 cs _ HRA.out Tryz.underlying83 rfl (by rw [hcl]; exact Tryz.infoWr))
  have HH1C := hide h1c
  have HCL : Hid (cs.length = 1 * 67) := hide hcl
  have H0 := hide hz2
  clear hz2 hcl h1c
  go_wp2
  refine wp_region_U (fun b w' => w'.rangeAt w.heap.size 0 cs ∧ (b = false → w'.cell? ⟨L.g, 2, none⟩ = some (.slice pA pend.length pc))) 7 (by kernel_rfl) ?_
  have HS0 : Hid (w2.drew.rangeAt w.heap.size 0 cs ∧ (false = false → w2.drew.cell? ⟨L.g, 2, none⟩ = some (.slice pA pend.length pc))) := hide ⟨HRA.out, fun _ => d1⟩
  refine wpAnyU_take (i := 0) (v := .pointer (some ⟨L.g, 0, none⟩)) rfl (by kernel_rfl) (by kernel_rfl) (by kernel_rfl) (by kernel_rfl) (fun _ _ _ h => h) (yields_take rfl (fun w' _ => by go_simp)) HS0.out ?_
  simp only [Act.put, List.setIfInBounds_toArray, List.set_cons_zero, List.set_cons_succ]
  refine wpAnyU_take (i := 1) (v := .pointer (some ⟨L.g, 0, none⟩)) rfl (by kernel_rfl) (by kernel_rfl) (by kernel_rfl) (by kernel_rfl) (fun _ _ _ h => h) (yields_take rfl (fun w' _ => by go_simp)) HS0.out ?_
  simp only [Act.put, List.setIfInBounds_toArray, List.set_cons_zero, List.set_cons_succ]
  refine wpAnyU_take (i := 2) (v := .pointer (some ⟨L.g, 0, none⟩)) rfl (by kernel_rfl) (by kernel_rfl) (by kernel_rfl) (by kernel_rfl) (fun _ _ _ h => h) (yields_take rfl (fun w' _ => by go_simp)) HS0.out ?_
  simp only [Act.put, List.setIfInBounds_toArray, List.set_cons_zero, List.set_cons_succ]
  refine wpAnyU_take (i := 3) (v := .pointer (some ⟨L.g, 2, none⟩)) rfl (by kernel_rfl) (by kernel_rfl) (by kernel_rfl) (by kernel_rfl) (fun _ _ _ h => h) (yields_take rfl (fun w' _ => by go_simp)) HS0.out ?_
  simp only [Act.put, List.setIfInBounds_toArray, List.set_cons_zero, List.set_cons_succ]
  refine wpAnyU_take (i := 4) (v := .slice pA pend.length pc) rfl (by kernel_rfl) (by kernel_rfl) (by kernel_rfl) (by kernel_rfl) (fun _ _ _ h => h) (yields_take rfl (fun w' hw => by have hc := (hw.no (by kernel_rfl)).2 rfl; go_simp)) HS0.out ?_
  simp only [Act.put, List.setIfInBounds_toArray, List.set_cons_zero, List.set_cons_succ]
  refine wpAnyU_take (i := 5) (v := .agg cs.toArray) rfl (by kernel_rfl) (by kernel_rfl) (by kernel_rfl) (by kernel_rfl) (fun _ _ _ h => h) (yieldsIf_load_mid rfl _ _ rfl _ _ rfl cs _ (fun w' hw => by obtain ⟨b, _, hs⟩ := hw; exact hs.1) Tryz.underlying83 rfl (by rw [HCL.out]; exact Tryz.infoWr)) HS0.out ?_
  simp only [Act.put, List.setIfInBounds_toArray, List.set_cons_zero, List.set_cons_succ]
  refine wpAnyU_one (i := 6) (by kernel_rfl) rfl ?_
  intro K hK
  refine step_buildSlice_one rfl 75 83 (.tmp 35) rfl cs (by simp [Act.eval]) i _ Tryz.underlying75 HI.out HZ0.out (by rw [HZ1.out, HCL.out]) (by rw [HCL.out]; exact Nat.succ_pos _) (by rw [HCL.out]; decide) ?_
  have HS1 : Hid ((w2.drew.alloc (.cells cs.toArray 83)).rangeAt w.heap.size 0 cs ∧ (false = false → (w2.drew.alloc (.cells cs.toArray 83)).cell? ⟨L.g, 2, none⟩ = some (.slice pA pend.length pc))) :=
    hide ⟨fun j v hj => (World.cell?_alloc_lt (w := w2.drew) (a := ⟨w.heap.size, 0 + j, none⟩) _ hsz2).trans (HRA.out j v hj), fun _ => (World.cell?_alloc_lt (w := w2.drew) (a := ⟨L.g, 2, none⟩) _ (Nat.lt_trans hgs hsz2)).trans d1⟩
  refine hK.out _ _ HS1.out (fun _ => ?_)
  clear hK K
  simp only [Act.put, List.setIfInBounds_toArray, List.set_cons_zero, List.set_cons_succ]
  have HWA : Hid ((w2.drew.alloc (.cells cs.toArray 83)).ownsRow B 83 67 (.slice pA pend.length pc) pend.length (wrsV pend)) := hide (World.ownsRow.alloc (w := w2.drew) HW.out _)
  have HBA : Hid (B ≤ (w2.drew.alloc (.cells cs.toArray 83)).heap.size) := hide (by have := (HD.out.lt _ (.inl rfl)).1; simp; omega)
  have HCA : Hid (∀ j u, cs[j]? = some u → (w2.drew.alloc (.cells cs.toArray 83)).cell? ((⟨w2.drew.heap.size, 0, none⟩ : Addr).add j) = some u) := hide (cells_new w2.drew cs _)
  have HBY : Hid ((pend.length + 1) * 88 ≤ 140737488355328) := hide (by omega)
  have HML : Hid (pend.length + 1 ≤ maxLen) := hide (by unfold maxLen; omega)
  generalize hW4 : (w2.drew.alloc (.cells cs.toArray 83)) = W4 at *
  refine wpAnyU_one (i := 7) (by kernel_rfl) rfl ?_
  intro K hK
  refine step_append_moved rfl (.tmp 34) (.tmp 36) 75 rfl 83 i _ 67 88 Tryz.underlying75 HI.out HZ0.out HZ1.out HZ2.out rfl (Nat.succ_pos _) B (.slice pA pend.length pc) pend.length (wrsV pend) (by simp [Act.eval]) HWA.out HBA.out ⟨w2.drew.heap.size, 0, none⟩ cs (by simp [Act.eval]) HCL.out HCA.out HH1C.out HBY.out HML.out ?_
  intro g3 c3 w3 HO3 HM3
  have HBW : Hid (Below w.heap.size w W4) := hide (by rw [← hW4]; exact (HB2.out.trans (below_drewN (Below.refl _ _) 1)).alloc (Nat.le_of_lt hsz2) _)
  have HDW : Hid (DiskAt B W4 L dur pend) := hide (HD.out.below HBW.out)
  have HN4 : Hid (W4.heap[w.heap.size]? = w2.heap[w.heap.size]?) := hide (by rw [← hW4]; exact heap_alloc_old w2.drew _ hsz2)
  have hW4s : w.heap.size < W4.heap.size := by rw [← hW4]; simp; omega
  clear hW4
  have HMV : Hid (∀ b, b < W4.heap.size → L.p.ownBlock ≠ some b → w3.heap[b]? = W4.heap[b]?) := hide (fun b hb hne => by
    rw [HPF.out] at hne
    rcases HM3.out with ⟨_, hg⟩ | ⟨hg, _⟩
    · exact hg.block b hb (fun e => hne e.symm)
    · exact hg.block b hb (by simp))
  have HPN : Hid (L.p.ownBlock ≠ some w.heap.size) := hide (fun e => by have := (HD.out.lt _ (.inr (.inr (.inr e)))).2; omega)
  have HSZ : Hid (W4.heap.size ≤ w3.heap.size) := hide (by
    rcases HM3.out with ⟨_, hg⟩ | ⟨hg, _⟩ <;> exact hg.size)
  have HR3 : Hid (w3.rangeAt w.heap.size 0 cs) := hide (fun j v hj => by
    rw [World.cell?_of_block (w' := w3) (w := W4) (a := ⟨w.heap.size, 0 + j, none⟩) (HMV.out w.heap.size hW4s HPN.out), World.cell?_of_block (w' := W4) (w := w2) (a := ⟨w.heap.size, 0 + j, none⟩) HN4.out]
    exact HRA.out j v hj)
  have HS2 : Hid (w3.rangeAt w.heap.size 0 cs ∧ (true = false → w3.cell? ⟨L.g, 2, none⟩ = some (.slice pA pend.length pc))) := hide ⟨HR3.out, fun h => by cases h⟩
  refine hK.out _ _ HS2.out (fun _ => ?_)
  clear hK K
  simp only [Act.put, List.setIfInBounds_toArray, List.set_cons_zero, List.set_cons_succ]
  refine wpAnyU_take (i := 8) (v := .pointer (some ⟨L.g, 0, none⟩)) rfl (by kernel_rfl) (by kernel_rfl) (by kernel_rfl) (by kernel_rfl) (fun _ _ _ h => h) (yields_take rfl (fun w' _ => by go_simp)) HS2.out ?_
  simp only [Act.put, List.setIfInBounds_toArray, List.set_cons_zero, List.set_cons_succ]
  refine wpAnyU_take (i := 9) (v := .pointer (some ⟨L.g, 2, none⟩)) rfl (by kernel_rfl) (by kernel_rfl) (by kernel_rfl) (by kernel_rfl) (fun _ _ _ h => h) (yields_take rfl (fun w' _ => by go_simp)) HS2.out ?_
  simp only [Act.put, List.setIfInBounds_toArray, List.set_cons_zero, List.set_cons_succ]
  have HPG : Hid (L.p.ownBlock ≠ some L.g) := hide (HDW.out.p_ne_g)
  have HG4 : Hid (w3.heap[L.g]? = W4.heap[L.g]?) := hide (HMV.out L.g (Nat.lt_trans hgs hW4s) HPG.out)
  have e1 : w3.cell? ⟨L.g, 2, none⟩ = some (.slice pA pend.length pc) := by
    rw [World.cell?_of_block (w' := w3) (w := W4) (a := ⟨L.g, 2, none⟩) HG4.out, HDW.out.cell.2.2, HPF.out]
  have e2 : w3.frozen? ⟨L.g, 2, none⟩ = false := frozen_of_row w3 _ _ _ _ (HG4.out.trans HDW.out.top)
  refine wpAnyU_one (i := 10) (by kernel_rfl) rfl ?_
  intro K hK
  go_simp
  have HR4 : Hid ((w3.setCell ⟨L.g, 2, none⟩ (.slice (some ⟨g3, 0, none⟩) (pend.length + 1) c3)).rangeAt w.heap.size 0 cs) := hide (fun j v hj => by
    rw [World.cell?_of_block (w' := w3.setCell ⟨L.g, 2, none⟩ (.slice (some ⟨g3, 0, none⟩) (pend.length + 1) c3)) (w := w3) (a := ⟨w.heap.size, 0 + j, none⟩) (heap_setCell_other w3 _ _ _ (Nat.ne_of_gt hgs))]
    exact HR3.out j v hj)
  refine hK.out _ _ ⟨HR4.out, fun h => by cases h⟩ (fun _ => ?_)
  clear hK K
  refine wpAnyU_done (by kernel_rfl) ?_ _
  have HTOP : Hid ((w3.setCell ⟨L.g, 2, none⟩ (.slice (some ⟨g3, 0, none⟩) (pend.length + 1) c3)).heap[L.g]? = some (.cells #[.slice (some ⟨L.gs, 0, none⟩) dur.length L.cs, .slice (some ⟨L.gd, 0, none⟩) dur.length L.cd, .slice (some ⟨g3, 0, none⟩) (pend.length + 1) c3] 77 (0, 0))) := hide (by
    rw [heap_setCell_same w3 L.g 2 _ _ _ (HG4.out.trans HDW.out.top)]; rfl)
  have HOT : Hid (∀ b, b < W4.heap.size → b ≠ L.g → L.p.ownBlock ≠ some b → (w3.setCell ⟨L.g, 2, none⟩ (.slice (some ⟨g3, 0, none⟩) (pend.length + 1) c3)).heap[b]? = W4.heap[b]?) := hide (fun b hb hg hp => by
    rw [heap_setCell_other w3 _ b _ hg]
    exact HMV.out b hb hp)
  have HG3 : Hid (g3 ≠ L.g) := hide (by
    obtain ⟨cur, hh, _⟩ := own_heap HO3.out
    exact ty_ne hh (HG4.out.trans HDW.out.top) (by decide))
  have HO4 : Hid ((w3.setCell ⟨L.g, 2, none⟩ (.slice (some ⟨g3, 0, none⟩) (pend.length + 1) c3)).ownsRow B 83 67 (.slice (some ⟨g3, 0, none⟩) (pend.length + 1) c3) (pend.length + 1) (wrsV pend ++ cs)) := hide (ownsRow_same HO3.out (fun b hb => by
    injection hb with hb
    exact heap_setCell_other w3 _ b _ (by rw [← hb]; exact HG3.out)))
  have HZ4 : Hid (W4.heap.size ≤ (w3.setCell ⟨L.g, 2, none⟩ (.slice (some ⟨g3, 0, none⟩) (pend.length + 1) c3)).heap.size) := hide (by rw [World.size_setCell]; exact HSZ.out)
  have HE4 : Hid ((w3.setCell ⟨L.g, 2, none⟩ (.slice (some ⟨g3, 0, none⟩) (pend.length + 1) c3)).os = W4.os ∧ (w3.setCell ⟨L.g, 2, none⟩ (.slice (some ⟨g3, 0, none⟩) (pend.length + 1) c3)).tape = W4.tape ∧ (w3.setCell ⟨L.g, 2, none⟩ (.slice (some ⟨g3, 0, none⟩) (pend.length + 1) c3)).output = W4.output) := hide (by
    rcases HM3.out with ⟨_, hg⟩ | ⟨hg, _⟩ <;> exact ⟨hg.os, hg.tape, hg.output⟩)
  have HP3 : Hid (L.p.ownBlock = some g3 ∨ W4.heap.size ≤ g3) := hide (by
    rcases HM3.out with ⟨hq, _⟩ | ⟨_, hq⟩
    · rw [HPF.out]; exact .inl hq.symm
    · exact .inr (hq g3 rfl))
  generalize w3.setCell ⟨L.g, 2, none⟩ (.slice (some ⟨g3, 0, none⟩) (pend.length + 1) c3) = w4 at *
  have HS4 : Hid (SR B w4 L.gs L.cs (seenOf dur pend)) := hide (by
    refine ⟨?_, seen_ok HD.out.okS (fun x hx => (HD.out.okW x hx).1)⟩
    rw [seen_len]
    refine ownsRow_same HDW.out.seen (fun b hb => ?_)
    injection hb with hb
    subst hb
    exact HOT.out _ (HDW.out.lt _ (.inr (.inl rfl))).2 (fun e => HDW.out.g_ne_s e.symm) HDW.out.p_ne_s)
  have HRS : Hid (w4.drew.rangeAt w.heap.size 0 cs ∧ w4.drew.cell? ⟨L.g, 0, none⟩ = some (.slice (some ⟨L.gs, 0, none⟩) dur.length L.cs)) := hide ⟨HR4.out, by
    show w4.cell? ⟨L.g, 0, none⟩ = _
    rw [cell_of_row _ _ _ _ _ _ HTOP.out]; rfl⟩
  have a1 : (0 : Int) ≤ (n : Int) := by omega
  have a2 : (n : Int) < (dur.length : Int) := by have := HN.out; omega
  clear d1 d2 e1 e2 HM3 HMV HO3
  go_wp2
  refine wp_region_U (fun _ w' => w'.rangeAt w.heap.size 0 cs ∧ w'.cell? ⟨L.g, 0, none⟩ = some (.slice (some ⟨L.gs, 0, none⟩) dur.length L.cs)) 7 (by kernel_rfl) ?_
  refine wpAnyU_take (i := 0) (v := .agg cs.toArray) rfl (by kernel_rfl) (by kernel_rfl) (by kernel_rfl) (by kernel_rfl) (fun _ _ _ h => h) (yieldsIf_load_mid rfl _ _ rfl _ _ rfl cs _ (fun w' hw => by obtain ⟨b, _, hs⟩ := hw; exact hs.1) Tryz.underlying83 rfl (by rw [HCL.out]; exact Tryz.infoWr)) HRS.out ?_
  simp only [Act.put, List.setIfInBounds_toArray, List.set_cons_zero, List.set_cons_succ]
  refine wpAnyU_take (i := 1) (v := .pointer (some ⟨L.g, 0, none⟩)) rfl (by kernel_rfl) (by kernel_rfl) (by kernel_rfl) (by kernel_rfl) (fun _ _ _ h => h) (yields_take rfl (fun w' _ => by go_simp)) HRS.out ?_
  simp only [Act.put, List.setIfInBounds_toArray, List.set_cons_zero, List.set_cons_succ]
  refine wpAnyU_take (i := 2) (v := .pointer (some ⟨L.g, 0, none⟩)) rfl (by kernel_rfl) (by kernel_rfl) (by kernel_rfl) (by kernel_rfl) (fun _ _ _ h => h) (yields_take rfl (fun w' _ => by go_simp)) HRS.out ?_
  simp only [Act.put, List.setIfInBounds_toArray, List.set_cons_zero, List.set_cons_succ]
  refine wpAnyU_take (i := 3) (v := .pointer (some ⟨L.g, 0, none⟩)) rfl (by kernel_rfl) (by kernel_rfl) (by kernel_rfl) (by kernel_rfl) (fun _ _ _ h => h) (yields_take rfl (fun w' _ => by go_simp)) HRS.out ?_
  simp only [Act.put, List.setIfInBounds_toArray, List.set_cons_zero, List.set_cons_succ]
  refine wpAnyU_take (i := 4) (v := .slice (some ⟨L.gs, 0, none⟩) dur.length L.cs) rfl (by kernel_rfl) (by kernel_rfl) (by kernel_rfl) (by kernel_rfl) (fun _ _ _ h => h) (yields_take rfl (fun w' hw => by have hc := hw.const.2; go_simp)) HRS.out ?_
  simp only [Act.put, List.setIfInBounds_toArray, List.set_cons_zero, List.set_cons_succ]
  refine wpAnyU_take (i := 5) (v := .int .i64 (n : Int)) rfl (by kernel_rfl) (by kernel_rfl) (by kernel_rfl) (by kernel_rfl) (fun _ _ _ h => h) (yields_take rfl (fun w' _ => by go_simp)) HRS.out ?_
  simp only [Act.put, List.setIfInBounds_toArray, List.set_cons_zero, List.set_cons_succ]
  refine wpAnyU_take (i := 6) (v := .pointer (some ⟨L.gs, n * 65, none⟩)) rfl (by kernel_rfl) (by kernel_rfl) (by kernel_rfl) (by kernel_rfl) (fun _ _ _ h => h) (yields_take rfl (fun w' _ => by go_simp)) HRS.out ?_
  simp only [Act.put, List.setIfInBounds_toArray, List.set_cons_zero, List.set_cons_succ]
  refine wpAnyU_one (i := 7) (by kernel_rfl) rfl ?_
  intro K hK
  go_simp
  have HA := apply_any (i := pend.length) ⟨n, padB bs, false⟩ w4.drew HS4.out HOK.out (by rw [seen_len]; exact HN.out)
  rw [← HCS.out] at HA
  ((with_reducible refine Calls.mono HA ?_))
  rintro e w5 ⟨rfl, hs5, ht5⟩
  dsimp only
  have HS5 := hide hs5
  have hb5 : ∀ b, b < w4.heap.size → b ≠ L.gs → w5.heap[b]? = w4.heap[b]? := fun b hb hne => ht5.block b hb hne
  have hN4 : w.heap.size < w4.heap.size := Nat.lt_of_lt_of_le hW4s HZ4.out
  have hg4 : ∀ b, L.has b → b < w4.heap.size := fun b hb => Nat.lt_of_lt_of_le (HDW.out.lt b hb).2 HZ4.out
  have hgs2 := (HD.out.lt _ (.inr (.inl rfl))).2
  have hT5 := hb5 L.g (hg4 _ (.inl rfl)) HDW.out.g_ne_s
  refine hK.out _ _ ⟨fun j v hj => ?_, ?_⟩ (fun _ => ?_)
  · rw [World.cell?_of_block (w' := w5) (w := w4) (a := ⟨w.heap.size, 0 + j, none⟩) (hb5 _ hN4 (Nat.ne_of_gt hgs2))]
    exact HR4.out j v hj
  · rw [World.cell?_of_block (w' := w5) (w := w4) (a := ⟨L.g, 0, none⟩) hT5]
    exact HRS.out.2
  clear hK K
  refine wpAnyU_done (by kernel_rfl) ?_ _
  have HFIN : Hid (DiskAt B w5 ⟨L.g, L.gs, L.cs, L.gd, L.cd, .slice (some ⟨g3, 0, none⟩) (pend.length + 1) c3⟩ dur (pend ++ [⟨n, padB bs, false⟩])) := hide (by
    refine HDW.out.written ⟨n, padB bs, false⟩ HOK.out HN.out g3 c3 (hT5.trans HTOP.out) HS5.out ?_ ?_
    · rw [hb5 _ (hg4 _ (.inr (.inr (.inl rfl)))) HD.out.ne.symm]
      exact HOT.out _ (HDW.out.lt _ (.inr (.inr (.inl rfl)))).2 (fun e => HDW.out.g_ne_d e.symm) HDW.out.p_ne_d
    · rw [← HCS.out]
      refine ownsRow_same HO4.out (fun b hb => hb5 b (HO4.out.lt b hb).2 ?_)
      injection hb with hb
      subst hb
      obtain ⟨cur, hh, _⟩ := own_heap HO4.out
      obtain ⟨cur2, hh2, _⟩ := own_heap HS4.out.1
      exact ty_ne hh hh2 (by decide))
  have HST : Hid (Step w w5 L ⟨L.g, L.gs, L.cs, L.gd, L.cd, .slice (some ⟨g3, 0, none⟩) (pend.length + 1) c3⟩) := hide (by
    refine ⟨⟨?_, ?_, ?_, ?_, fun b hb hn => ?_⟩, fun b hb => ?_⟩
    · exact ht5.os.trans (HE4.out.1.trans HBW.out.os)
    · exact ht5.tape.trans (HE4.out.2.1.trans HBW.out.tape)
    · exact ht5.output.trans (HE4.out.2.2.trans HBW.out.output)
    · exact Nat.le_trans HBW.out.size (Nat.le_trans HZ4.out ht5.size)
    · have hb4 : b < W4.heap.size := Nat.lt_of_lt_of_le hb HBW.out.size
      rw [hb5 b (Nat.lt_of_lt_of_le hb4 HZ4.out) (fun e => hn (.inr (.inl e))), HOT.out b hb4 (fun e => hn (.inl e)) (fun e => hn (.inr (.inr (.inr e)))), HBW.out.block b hb]
    · rcases hb with e | e | e | e
      · exact .inl (.inl e)
      · exact .inl (.inr (.inl e))
      · exact .inl (.inr (.inr (.inl e)))
      · injection e with e
        subst e
        rcases HP3.out with e | e
        · exact .inl (.inr (.inr (.inr e)))
        · exact .inr (Nat.le_trans HBW.out.size e))
  clear hb5 hg4 hT5 hs5 ht5
  go_wp2
  go_ret
  exact ⟨rfl, ⟨L.g, L.gs, L.cs, L.gd, L.cd, .slice (some ⟨g3, 0, none⟩) (pend.length + 1) c3⟩, rfl, HFIN.out, HST.out⟩
end Go.Proofs.YtapdaeafeejknaaGreatDoor
