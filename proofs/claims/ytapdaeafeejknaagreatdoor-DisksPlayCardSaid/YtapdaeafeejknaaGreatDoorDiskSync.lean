/- Contract of Sync of package disks on a disk that is there. -/
import Derived.Test.YtapdaeafeejknaaGreatDoorDiskMath
namespace Go.Proofs.YtapdaeafeejknaaGreatDoor
open Go.RowKit
set_option maxRecDepth 20000
set_option linter.unusedSimpArgs false

section
variable {P : Program} {w : World}
theorem step_store_row {ops : Array Oper} {op : Oper} {a : Act} {K : Act → World → Prop} {Q : Exit → Act → World → Prop} {E : Prop} (hgd : op.guard = none) (ty : TypeId) (x y : Operand) (hop : op.op = .store ty x y)
    (g o : Nat) (cs : List Value) (hx : a.eval x = .pointer (some ⟨g, o, none⟩)) (hy : a.eval y = .agg cs.toArray)
    {B : Nat} {e : TypeId} {s n c : Nat} {xs : List Value} (ho : w.ownsRow B e s (.slice (some ⟨g, 0, none⟩) n c) n xs) (hi : (P.info? ty).map (·.size) = some cs.length)
    (hl : o + cs.length ≤ n * s) (h1 : ∀ v ∈ cs, v.oneCell' = true)
    (h : ∀ w', Hid (w'.ownsRow B e s (.slice (some ⟨g, 0, none⟩) n c) n (segV xs o cs)) → Hid (w.grownBy w' (some g)) → w'.heap.size = w.heap.size → K (a.put op.dst undef) w') :
    if Region.wanted op (yielded ops a.tmps) = true then Oper.wp P op a w K Q else E := by
  have hw : Region.wanted op (yielded ops a.tmps) = true := by simp [Region.wanted, hgd]
  rw [if_pos hw]
  obtain ⟨cur, hh, hle, h2, h3⟩ := own_seg ho o cs hl
  exact wp_store_mid ty x y hop g o cs hx hy e cur hh hi hle h1 (h _ (hide h2) (hide h3) (by simp [World.setRow]))
end
theorem SR.at_range {B : Nat} {w : World} {g c : Nat} {l : List Sec} (h : SR B w g c l) {n : Nat} (hn : n < l.length) : w.rangeAt g (n * 65) (secV (secAt l n)) := h.at hn
theorem secV_whole (s t : Sec) (h : OkB s.b) (h' : OkB t.b) : (secV s).take 0 ++ secV t ++ (secV s).drop (0 + (secV t).length) = secV t := by
  rw [List.drop_of_length_le (by rw [secV_len h, secV_len h']; omega)]
  simp

set_option maxRecDepth 100000 in
set_option maxHeartbeats 4000000 in
theorem sync_any {B : Nat} {L : Loc} {dur : List Sec} {pend : List Wr} (w : World) (h : DiskAt B w L dur pend) (hp : pend.length ≤ 1000000000) :
    Calls Tryz.prog 10 #[L.ptr] w fun e w' => e = .returned (.int .i64 0) ∧ ∃ L', L'.g = L.g ∧ DiskAt B w' L' (seenOf dur pend) [] ∧ Step w w' L L' := by
  have HD := hide h
  have HC := hide (exists_any w h)
  obtain ⟨pA, pc, hpf⟩ := waits_form h.waits
  have h1 := h.cell.2.2
  rw [hpf] at h1
  have HPF := hide hpf
  have hmx := h.max
  have HOKS : Hid (∀ s ∈ seenOf dur pend, OkB s.b) := hide (seen_ok h.okS (fun x hx => (h.okW x hx).1))
  have HWN : Hid (∀ x ∈ pend, x.n < dur.length) := hide (fun x hx => (h.okW x hx).2)
  obtain ⟨i, hi, hz0, hz1, hz2⟩ := info_parts Tryz.infoWrF
  have HI := hide hi
  have HZ0 := hide hz0
  have HZ1 := hide hz1
  have HZS : Hid ((Value.int .i64 0 :: .int .i64 0 :: (List.replicate 64 (Value.int .u8 0) ++ [Value.bool false])).toArray.size = i.size) := hide (by rw [hz1]; rfl)
  have HSR0 : Hid (SR B w L.gd L.cd (syncN (seenOf dur pend) dur pend 0)) := hide ⟨h.sure, h.okS⟩
  clear h hi hz0 hz1 hz2 hpf
  go_enter Tryz.func10, Tryz.ntmps10
  go_wp2_with fail
  refine Calls.mono HC.out ?_
  rintro e w1 ⟨rfl, rfl⟩
  unfold Loc.ptr
  go_wp2
  go_loopw [13] (fun i wr => ∃ k : Nat, k ≤ pend.length ∧ i = .int .i64 k ∧ Hid (SR B wr L.gd L.cd (syncN (seenOf dur pend) dur pend k)) ∧ Hid (Turns w wr (· = L.gd))) (fun i _ => pend.length - (intOf i).toNat)
  case atStart => exact ⟨0, Nat.zero_le _, rfl, HSR0, hide (Turns.refl _ _)⟩
  case round =>
    obtain ⟨k, hk, rfl, HR, HT⟩ := hrel
    have hgd := (HD.out.lt _ (.inr (.inr (.inl rfl)))).2
    have hb : ∀ b, b < w.heap.size → b ≠ L.gd → wr.heap[b]? = w.heap[b]? := fun b hb hne => HT.out.block b hb hne
    have htop := hb L.g (HD.out.lt _ (.inl rfl)).2 HD.out.g_ne_d
    have HTOP := hide (htop.trans HD.out.top)
    by_cases hlt : k < pend.length
    · obtain ⟨gp, hgp, cur, hcur⟩ : ∃ gp, pA = some ⟨gp, 0, none⟩ ∧ ∃ cur, w.heap[gp]? = some (.cells cur 83 (0, 0)) := by
        rcases HD.out.p_form with ⟨_, e⟩ | ⟨g', c', e, _, cur, hh⟩
        · rw [e] at hlt; cases hlt
        · rw [HPF.out] at e; injection e with e _ _; exact ⟨g', e, cur, hh⟩
      subst hgp
      have HOWN := HD.out.waits
      rw [HPF.out] at HOWN
      have hgpd : gp ≠ L.gd := by
        obtain ⟨c2, h2, _⟩ := own_heap HD.out.sure
        exact ty_ne hcur h2 (by decide)
      have hgpl : gp < w.heap.size := lt_of_heap hcur
      obtain ⟨x, hx⟩ : ∃ x, x = wrAt pend k := ⟨_, rfl⟩
      have HXM : Hid (OkB x.b ∧ x.n < dur.length) := hide (by rw [hx]; exact HD.out.okW _ (wrAt_mem hlt))
      obtain ⟨cs, hcs⟩ : ∃ cs, cs = wrV k x := ⟨_, rfl⟩
      have HCL : Hid (cs.length = 67) := hide (by rw [hcs]; exact wrV_len HXM.out.1)
      have HCELL : Hid (∀ j u, cs[j]? = some u → wr.cell? ⟨gp, k * 67 + j, none⟩ = some u) := hide (fun j u hj => by
        rw [World.cell?_of_block (w' := wr) (w := w) (a := ⟨gp, k * 67 + j, none⟩) (hb gp hgpl hgpd)]
        exact waits_at HOWN rfl (fun x hx => (HD.out.okW x hx).1) hlt j u (by rw [← hx, ← hcs]; exact hj))
      have HIS : Hid (i.size = cs.length) := hide (by rw [HZ1.out, HCL.out])
      have H1C : Hid (∀ v ∈ cs, v.oneCell' = true) := hide (by rw [hcs]; exact wrV_one _ _)
      have HX := hide hx
      have HCS := hide hcs
      have k0 : (0 : Int) ≤ (k : Int) := by omega
      have k1 : (k : Int) < (pend.length : Int) := by omega
      clear hx hcs HOWN
      have HB := hide hb
      clear hb htop
      go_wp2_with (first | (refine wpList_load_mid rfl 83 _ rfl _ _ cs _ rfl HCELL.out Tryz.underlying83 rfl (by rw [HCL.out]; exact Tryz.infoWr) ?_) | (refine wpList_alloc_store rfl rfl 83 rfl _ _ rfl _ i HI.out HZ0.out HZS.out cs rfl rfl HIS.out H1C.out ?_))
      obtain ⟨n, hn⟩ : ∃ n, n = x.n := ⟨_, rfl⟩
      have HN : Hid (n < dur.length) := hide (by rw [hn]; exact HXM.out.2)
      have HNX := hide hn
      obtain ⟨ss, hss⟩ : ∃ ss, ss = secAt (seenOf dur pend) n := ⟨_, rfl⟩
      have HSS := hide hss
      have HSOK : Hid (OkB ss.b) := hide (by rw [hss]; exact secAt_ok HOKS.out (by rw [seen_len]; exact HN.out))
      have HSL : Hid ((secV ss).length = 65) := hide (secV_len HSOK.out)
      have hgl := (HD.out.lt _ (.inl rfl)).2
      have hgsl := (HD.out.lt _ (.inr (.inl rfl))).2
      have hsz := HT.out.size
      have c0 : wr.cell? ⟨L.g, 0, none⟩ = some (.slice (some ⟨L.gs, 0, none⟩) dur.length L.cs) := by rw [cell_of_row _ _ _ _ _ _ HTOP.out]; rfl
      have c1 : wr.cell? ⟨L.g, 1, none⟩ = some (.slice (some ⟨L.gd, 0, none⟩) dur.length L.cd) := by rw [cell_of_row _ _ _ _ _ _ HTOP.out]; rfl
      obtain ⟨W, hW⟩ : ∃ W, W = wr.alloc (.cells cs.toArray 83) := ⟨_, rfl⟩
      have HS0 : Hid (W.drew.cell? ⟨L.g, 1, none⟩ = some (.slice (some ⟨L.gd, 0, none⟩) dur.length L.cd) ∧ W.drew.cell? ⟨L.g, 0, none⟩ = some (.slice (some ⟨L.gs, 0, none⟩) dur.length L.cs) ∧ W.drew.cell? ⟨wr.heap.size, 0, none⟩ = some (.int .i64 (n : Int)) ∧ W.drew.rangeAt L.gs (n * 65) (secV ss)) := hide (by
        rw [hW]
        refine ⟨(World.cell?_alloc_lt (w := wr) (a := ⟨L.g, 1, none⟩) _ (Nat.lt_of_lt_of_le hgl hsz)).trans c1, (World.cell?_alloc_lt (w := wr) (a := ⟨L.g, 0, none⟩) _ (Nat.lt_of_lt_of_le hgl hsz)).trans c0, ?_, fun j v hj => ?_⟩
        · have := cells_new wr cs 83 0 (.int .i64 (n : Int)) (by rw [HCS.out, hn]; rfl)
          exact this
        · refine (World.cell?_alloc_lt (w := wr) (a := ⟨L.gs, n * 65 + j, none⟩) _ (Nat.lt_of_lt_of_le hgsl hsz)).trans ?_
          rw [World.cell?_of_block (w' := wr) (w := w) (a := ⟨L.gs, n * 65 + j, none⟩) (HB.out L.gs hgsl HD.out.ne)]
          exact HD.out.seenAt HN.out j v (by rw [← hss]; exact hj))
      have HRW : Hid (SR B W.drew L.gd L.cd (syncN (seenOf dur pend) dur pend k)) := hide (by rw [hW]; exact HR.out.alloc _)
      have HTW : Hid (Turns w W (· = L.gd)) := hide (by rw [hW]; exact HT.out.trans (Turns.of_below ((Below.refl _ _).alloc (Nat.le_refl _) _) _))
      have HLW : Hid ((syncN (seenOf dur pend) dur pend k).length = dur.length) := hide (sync_len _ _)
      have a1 : (0 : Int) ≤ (n : Int) := by omega
      have a2 : (n : Int) < (dur.length : Int) := by have := HN.out; omega
      have hWs : wr.heap.size < W.heap.size := by rw [hW]; simp
      rw [← hW]
      clear hss hn hW c0 c1
      go_wp2
      refine wp_region_U (fun _ w' => w'.cell? ⟨L.g, 1, none⟩ = some (.slice (some ⟨L.gd, 0, none⟩) dur.length L.cd) ∧ w'.cell? ⟨L.g, 0, none⟩ = some (.slice (some ⟨L.gs, 0, none⟩) dur.length L.cs) ∧ w'.cell? ⟨wr.heap.size, 0, none⟩ = some (.int .i64 (n : Int)) ∧ w'.rangeAt L.gs (n * 65) (secV ss)) 17 (by kernel_rfl) ?_
      refine wpAnyU_take (i := 0) (oi := { dst := some 17, op := _, type := _, pos := _, after := _, guard := none }) (v := .pointer (some ⟨L.g, 0, none⟩)) rfl (by kernel_rfl) (by kernel_rfl) (by kernel_rfl) (by kernel_rfl) (fun _ _ _ h => h) (yields_take rfl (fun w' _ => by go_simp)) HS0.out ?_
      simp only [Act.put, List.setIfInBounds_toArray, List.set_cons_zero, List.set_cons_succ]
      refine wpAnyU_take (i := 1) (oi := { dst := some 18, op := _, type := _, pos := _, after := _, guard := none }) (v := .pointer (some ⟨L.g, 0, none⟩)) rfl (by kernel_rfl) (by kernel_rfl) (by kernel_rfl) (by kernel_rfl) (fun _ _ _ h => h) (yields_take rfl (fun w' _ => by go_simp)) HS0.out ?_
      simp only [Act.put, List.setIfInBounds_toArray, List.set_cons_zero, List.set_cons_succ]
      refine wpAnyU_take (i := 2) (oi := { dst := some 19, op := _, type := _, pos := _, after := _, guard := none }) (v := .pointer (some ⟨L.g, 1, none⟩)) rfl (by kernel_rfl) (by kernel_rfl) (by kernel_rfl) (by kernel_rfl) (fun _ _ _ h => h) (yields_take rfl (fun w' _ => by go_simp)) HS0.out ?_
      simp only [Act.put, List.setIfInBounds_toArray, List.set_cons_zero, List.set_cons_succ]
      refine wpAnyU_take (i := 3) (oi := { dst := some 20, op := _, type := _, pos := _, after := _, guard := none }) (v := .slice (some ⟨L.gd, 0, none⟩) dur.length L.cd) rfl (by kernel_rfl) (by kernel_rfl) (by kernel_rfl) (by kernel_rfl) (fun _ _ _ h => h) (yields_take rfl (fun w' hw => by have hc := hw.const.1; go_simp)) HS0.out ?_
      simp only [Act.put, List.setIfInBounds_toArray, List.set_cons_zero, List.set_cons_succ]
      refine wpAnyU_take (i := 4) (oi := { dst := some 21, op := _, type := _, pos := _, after := _, guard := none }) (v := .pointer (some ⟨wr.heap.size, 0, none⟩)) rfl (by kernel_rfl) (by kernel_rfl) (by kernel_rfl) (by kernel_rfl) (fun _ _ _ h => h) (yields_take rfl (fun w' _ => by go_simp)) HS0.out ?_
      simp only [Act.put, List.setIfInBounds_toArray, List.set_cons_zero, List.set_cons_succ]
      refine wpAnyU_take (i := 5) (oi := { dst := some 22, op := _, type := _, pos := _, after := _, guard := none }) (v := .pointer (some ⟨wr.heap.size, 0, none⟩)) rfl (by kernel_rfl) (by kernel_rfl) (by kernel_rfl) (by kernel_rfl) (fun _ _ _ h => h) (yields_take rfl (fun w' _ => by go_simp)) HS0.out ?_
      simp only [Act.put, List.setIfInBounds_toArray, List.set_cons_zero, List.set_cons_succ]
      refine wpAnyU_take (i := 6) (oi := { dst := some 23, op := _, type := _, pos := _, after := _, guard := none }) (v := .int .i64 (n : Int)) rfl (by kernel_rfl) (by kernel_rfl) (by kernel_rfl) (by kernel_rfl) (fun _ _ _ h => h) (yields_take rfl (fun w' hw => by have hc := hw.const.2.2.1; go_simp)) HS0.out ?_
      simp only [Act.put, List.setIfInBounds_toArray, List.set_cons_zero, List.set_cons_succ]
      refine wpAnyU_take (i := 7) (oi := { dst := some 24, op := _, type := _, pos := _, after := _, guard := none }) (v := .pointer (some ⟨L.g, 0, none⟩)) rfl (by kernel_rfl) (by kernel_rfl) (by kernel_rfl) (by kernel_rfl) (fun _ _ _ h => h) (yields_take rfl (fun w' _ => by go_simp)) HS0.out ?_
      simp only [Act.put, List.setIfInBounds_toArray, List.set_cons_zero, List.set_cons_succ]
      refine wpAnyU_take (i := 8) (oi := { dst := some 25, op := _, type := _, pos := _, after := _, guard := none }) (v := .pointer (some ⟨L.g, 0, none⟩)) rfl (by kernel_rfl) (by kernel_rfl) (by kernel_rfl) (by kernel_rfl) (fun _ _ _ h => h) (yields_take rfl (fun w' _ => by go_simp)) HS0.out ?_
      simp only [Act.put, List.setIfInBounds_toArray, List.set_cons_zero, List.set_cons_succ]
      refine wpAnyU_take (i := 9) (oi := { dst := some 26, op := _, type := _, pos := _, after := _, guard := none }) (v := .pointer (some ⟨L.g, 0, none⟩)) rfl (by kernel_rfl) (by kernel_rfl) (by kernel_rfl) (by kernel_rfl) (fun _ _ _ h => h) (yields_take rfl (fun w' _ => by go_simp)) HS0.out ?_
      simp only [Act.put, List.setIfInBounds_toArray, List.set_cons_zero, List.set_cons_succ]
      refine wpAnyU_take (i := 10) (oi := { dst := some 27, op := _, type := _, pos := _, after := _, guard := none }) (v := .slice (some ⟨L.gs, 0, none⟩) dur.length L.cs) rfl (by kernel_rfl) (by kernel_rfl) (by kernel_rfl) (by kernel_rfl) (fun _ _ _ h => h) (yields_take rfl (fun w' hw => by have hc := hw.const.2.1; go_simp)) HS0.out ?_
      simp only [Act.put, List.setIfInBounds_toArray, List.set_cons_zero, List.set_cons_succ]
      refine wpAnyU_take (i := 11) (oi := { dst := some 28, op := _, type := _, pos := _, after := _, guard := none }) (v := .pointer (some ⟨wr.heap.size, 0, none⟩)) rfl (by kernel_rfl) (by kernel_rfl) (by kernel_rfl) (by kernel_rfl) (fun _ _ _ h => h) (yields_take rfl (fun w' _ => by go_simp)) HS0.out ?_
      simp only [Act.put, List.setIfInBounds_toArray, List.set_cons_zero, List.set_cons_succ]
      refine wpAnyU_take (i := 12) (oi := { dst := some 29, op := _, type := _, pos := _, after := _, guard := none }) (v := .pointer (some ⟨wr.heap.size, 0, none⟩)) rfl (by kernel_rfl) (by kernel_rfl) (by kernel_rfl) (by kernel_rfl) (fun _ _ _ h => h) (yields_take rfl (fun w' _ => by go_simp)) HS0.out ?_
      simp only [Act.put, List.setIfInBounds_toArray, List.set_cons_zero, List.set_cons_succ]
      refine wpAnyU_take (i := 13) (oi := { dst := some 30, op := _, type := _, pos := _, after := _, guard := none }) (v := .int .i64 (n : Int)) rfl (by kernel_rfl) (by kernel_rfl) (by kernel_rfl) (by kernel_rfl) (fun _ _ _ h => h) (yields_take rfl (fun w' hw => by have hc := hw.const.2.2.1; go_simp)) HS0.out ?_
      simp only [Act.put, List.setIfInBounds_toArray, List.set_cons_zero, List.set_cons_succ]
      refine wpAnyU_take (i := 14) (oi := { dst := some 31, op := _, type := _, pos := _, after := _, guard := none }) (v := .pointer (some ⟨L.gs, n * 65, none⟩)) rfl (by kernel_rfl) (by kernel_rfl) (by kernel_rfl) (by kernel_rfl) (fun _ _ _ h => h) (yields_take rfl (fun w' _ => by go_simp)) HS0.out ?_
      simp only [Act.put, List.setIfInBounds_toArray, List.set_cons_zero, List.set_cons_succ]
      refine wpAnyU_take (i := 15) (oi := { dst := some 32, op := _, type := _, pos := _, after := _, guard := none }) (v := .agg (secV ss).toArray) rfl (by kernel_rfl) (by kernel_rfl) (by kernel_rfl) (by kernel_rfl) (fun _ _ _ h => h) (yieldsIf_load_mid rfl _ _ rfl L.gs (n * 65) (by simp [Act.eval]) (secV ss) _ (fun w' hw => hw.const.2.2.2) Tryz.underlying87 rfl (by rw [HSL.out]; exact Tryz.infoSec)) HS0.out ?_
      simp only [Act.put, List.setIfInBounds_toArray, List.set_cons_zero, List.set_cons_succ]
      refine wpAnyU_take (i := 16) (oi := { dst := some 33, op := _, type := _, pos := _, after := _, guard := none }) (v := .pointer (some ⟨L.gd, n * 65, none⟩)) rfl (by kernel_rfl) (by kernel_rfl) (by kernel_rfl) (by kernel_rfl) (fun _ _ _ h => h) (yields_take rfl (fun w' _ => by go_simp)) HS0.out ?_
      simp only [Act.put, List.setIfInBounds_toArray, List.set_cons_zero, List.set_cons_succ]
      refine wpAnyU_one (i := 17) (o := { dst := none, op := .store 87 (.tmp 33) (.tmp 32), type := _, pos := _, after := _, guard := none }) (by kernel_rfl) rfl ?_
      intro K hK
      have z1 : (Tryz.prog.info? 87).map (·.size) = some (secV ss).length := by rw [HSL.out]; exact Tryz.infoSec
      have z2 : n * 65 + (secV ss).length ≤ (syncN (seenOf dur pend) dur pend k).length * 65 := by rw [HSL.out, HLW.out]; have := HN.out; omega
      refine step_store_row (w := W.drew) rfl 87 (.tmp 33) (.tmp 32) rfl L.gd (n * 65) (secV ss) ?hx ?hy HRW.out.1 z1 z2 (secV_one ss) ?_
      case hx => simp [Act.eval]
      case hy => simp [Act.eval]
      clear z1 z2
      intro w3 HO3 HG3 hz3
      have hn3 : n < (syncN (seenOf dur pend) dur pend k).length := by rw [HLW.out]; exact HN.out
      have HR3 : Hid (SR B w3 L.gd L.cd (syncN (seenOf dur pend) dur pend (k + 1))) := hide (by
        rw [syncN, ← HX.out, ← HNX.out, ← HSS.out]
        exact HRW.out.seg hn3 (o := 0) (vs := secV ss) (by rw [HSL.out]; omega) ss HSOK.out (secV_whole _ _ (secAt_ok HRW.out.2 hn3) HSOK.out) HO3.out)
      have hb3 : ∀ b, b < W.heap.size → b ≠ L.gd → w3.heap[b]? = W.heap[b]? := fun b hb' hne => HG3.out.block b hb' (fun e => hne (by injection e with e))
      have HT3 : Hid (Turns w w3 (· = L.gd)) := hide ⟨HG3.out.os.trans HTW.out.os, HG3.out.tape.trans HTW.out.tape, HG3.out.output.trans HTW.out.output, Nat.le_trans HTW.out.size HG3.out.size, fun b hb' hne => (hb3 b (Nat.lt_of_lt_of_le hb' HTW.out.size) hne).trans (HTW.out.block b hb' hne)⟩
      have hNd : wr.heap.size ≠ L.gd := by omega
      have q1 := hb3 L.g (Nat.lt_of_lt_of_le hgl HTW.out.size) HD.out.g_ne_d
      have q2 := hb3 wr.heap.size hWs hNd
      have q3 := hb3 L.gs (Nat.lt_of_lt_of_le hgsl HTW.out.size) HD.out.ne
      refine hK.out _ _ ⟨(World.cell?_of_block (a := ⟨L.g, 1, none⟩) q1).trans HS0.out.1, (World.cell?_of_block (a := ⟨L.g, 0, none⟩) q1).trans HS0.out.2.1, (World.cell?_of_block (a := ⟨wr.heap.size, 0, none⟩) q2).trans HS0.out.2.2.1, fun j v hj => (World.cell?_of_block (a := ⟨L.gs, n * 65 + j, none⟩) q3).trans (HS0.out.2.2.2 j v hj)⟩ (fun _ => ?_)
      clear hK K hb3 q1 q2 q3 hz3 hn3
      refine wpAnyU_done (by kernel_rfl) ?_ _
      go_wp2
      go_roundw
      case rel => exact ⟨k + 1, by omega, by go_num, HR3, HT3⟩
      case measure => simp [intOf]; omega
    · obtain rfl : k = pend.length := by omega
      have HRF : Hid (SR B wr L.gd L.cd (seenOf dur pend)) := hide (by
        have := HR.out
        rwa [sync_all HWN.out] at this)
      have e1 : wr.cell? ⟨L.g, 2, none⟩ = some (.slice pA pend.length pc) := by rw [cell_of_row _ _ _ _ _ _ HTOP.out, ← HPF.out]; rfl
      have e2 : wr.frozen? ⟨L.g, 2, none⟩ = false := frozen_of_row wr _ _ _ _ HTOP.out
      have HB := hide hb
      clear hb htop
      go_wp2
      go_ret
      have hne : ∀ b, b ≠ L.g → (wr.setCell ⟨L.g, 2, none⟩ (.slice none 0 0)).heap[b]? = wr.heap[b]? := fun b hb' => heap_setCell_other wr ⟨L.g, 2, none⟩ b _ hb'
      refine ⟨rfl, ⟨L.g, L.gs, L.cs, L.gd, L.cd, .slice none 0 0⟩, rfl, ⟨HD.out.base, ?_, ?_, ?_, World.ownsRow_nil _ _ _ _, HD.out.ne, by rw [seen_len]; exact HD.out.pos, by rw [seen_len]; exact HD.out.max, HOKS.out, by simp⟩, ⟨HT.out.os, HT.out.tape, HT.out.output, ?_, fun b hb' hn' => ?_⟩, fun b hb' => ?_⟩
      · rw [heap_setCell_same wr L.g 2 _ _ _ HTOP.out, seen_len]; rfl
      · have hs := HD.out.seen
        rw [seen_len]
        refine ownsRow_same hs (fun b hb' => ?_)
        injection hb' with hb'
        subst hb'
        rw [hne _ HD.out.g_ne_s.symm]
        exact HB.out _ (HD.out.lt _ (.inr (.inl rfl))).2 HD.out.ne
      · refine ownsRow_same HRF.out.1 (fun b hb' => ?_)
        injection hb' with hb'
        subst hb'
        exact hne _ HD.out.g_ne_d.symm
      · rw [World.size_setCell]; exact HT.out.size
      · rw [hne b (fun e => hn' (.inl e))]
        exact HB.out b hb' (fun e => hn' (.inr (.inr (.inl e))))
      · rcases hb' with e | e | e | e
        · exact .inl (.inl e)
        · exact .inl (.inr (.inl e))
        · exact .inl (.inr (.inr (.inl e)))
        · cases e
end Go.Proofs.YtapdaeafeejknaaGreatDoor
