/- Contract of Rot of package disks on a disk that is there. -/
import Derived.Test.YtapdaeafeejknaaGreatDoorDiskFail
namespace Go.Proofs.YtapdaeafeejknaaGreatDoor
open Go.RowKit
set_option maxRecDepth 20000
set_option linter.unusedSimpArgs false
set_option linter.unusedVariables false

theorem pend_cell {B : Nat} {w : World} {gp c m : Nat} {q : List Wr} (h : w.ownsRow B 83 67 (.slice (some ⟨gp, 0, none⟩) m c) m (wrsV q)) (hm : m = q.length) (hok : ∀ x ∈ q, OkB x.b) {k o : Nat} {v : Value} (hk : k < q.length) (ho : o < 67) (x : Wr)
    (hv : (wrV k (wrAt q k)).set o v = wrV k x) : (w.setCell ⟨gp, k * 67 + o, none⟩ v).ownsRow B 83 67 (.slice (some ⟨gp, 0, none⟩) m c) m (wrsV (q.set k x)) := by
  have hlen : (wrsV q).length = m * 67 := h.1
  have h2 := (h.stored (k * 67 + o) v).1
  have hlt : k * 67 + o < (wrsV q).length := by omega
  have hr : (wrV k (wrAt q k)).length = 67 := wrV_len (hok _ (wrAt_mem hk))
  rw [set_seg _ _ _ hlt] at h2
  rw [set_seg _ _ _ (by omega)] at hv
  have e := flat_seg (wrs_row hok) (wrs_at hk) o [v] (by simp; omega)
  rw [show o + [v].length = o + 1 from rfl, hv, wrs_set] at e
  have e2 : (wrsV q).take (k * 67 + o) ++ [v] ++ (wrsV q).drop (k * 67 + o + 1) = wrsV (q.set k x) := e
  rw [e2] at h2
  exact h2
theorem wrV_putB {i : Nat} {x : Wr} (h : OkB x.b) {p : Nat} (hp : p < 64) (v : Int) : (wrV i x).set (2 + p) (.int .u8 v) = wrV i ⟨x.n, x.b.set p v, x.old⟩ := by
  have : p < x.b.length := by rw [h.1]; exact hp
  rw [Nat.add_comm 2 p]
  simp only [wrV, List.set_cons_succ]
  rw [List.set_append_left _ _ (by simp [this]), List.map_set]
theorem wrV_putF {i : Nat} {x : Wr} (h : OkB x.b) (f : Bool) : (wrV i x).set 66 (.bool f) = wrV i ⟨x.n, x.b, f⟩ := by
  have e : (x.b.map (Value.int .u8)).length = 64 := by simp [h.1]
  simp only [wrV, List.set_cons_succ]
  rw [List.set_append_right _ _ (by omega), e]
  rfl
theorem secV_putByte {s : Sec} (h : OkB s.b) {p : Nat} (hp : p < 64) (v : Int) : (secV s).set p (.int .u8 v) = secV ⟨s.b.set p v, s.bad⟩ := by
  have : p < s.b.length := by rw [h.1]; exact hp
  simp only [secV]
  rw [List.set_append_left _ _ (by simp [this]), List.map_set]
theorem wrAt_set_self {q : List Wr} {k : Nat} (hk : k < q.length) : q.set k (wrAt q k) = q := by
  have : wrAt q k = q[k] := by simp [wrAt, List.getD, hk]
  rw [this]; exact List.set_getElem_self hk
/-- Where the sectors of a disk are others, and what waits. -/
theorem DiskAt.turned {B : Nat} {w w' : World} {L : Loc} {dur dur' : List Sec} {pend pend' : List Wr} (h : DiskAt B w L dur pend) (ht : w'.heap[L.g]? = w.heap[L.g]?) (hs : SR B w' L.gs L.cs (seenOf dur' pend')) (hd : SR B w' L.gd L.cd dur')
    (hp : w'.ownsRow B 83 67 L.p pend.length (wrsV pend')) (hl : dur'.length = dur.length) (hm : pend'.length = pend.length) (hw : ∀ x ∈ pend', OkB x.b ∧ x.n < dur.length) : DiskAt B w' L dur' pend' := by
  have e := hs.1
  rw [seen_len] at e
  refine ⟨h.base, by rw [ht, h.top, hl], e, hd.1, by rw [hm]; exact hp, h.ne, by rw [hl]; exact h.pos, by rw [hl]; exact h.max, hd.2, fun x hx => by rw [hl]; exact hw x hx⟩
theorem SR.other {B : Nat} {w w' : World} {g c : Nat} {l : List Sec} (h : SR B w g c l) (hb : w'.heap[g]? = w.heap[g]?) : SR B w' g c l := ⟨ownsRow_same h.1 (fun b e => by injection e with e; rw [← e]; exact hb), h.2⟩

set_option maxRecDepth 100000 in
set_option maxHeartbeats 4000000 in
theorem rot_ok {B : Nat} {L : Loc} {dur : List Sec} {pend : List Wr} (n p : Nat) (y : Int) (w : World) (h : DiskAt B w L dur pend) (hn : n < dur.length) (hp64 : p < 64) (hy : 0 ≤ y ∧ y < 256) (hp : pend.length ≤ 1000000000) :
    Calls Tryz.prog 14 #[L.ptr, .int .i64 (n : Int), .int .i64 (p : Int), .int .u8 y] w fun e w' => e = .returned (.int .i64 0) ∧ DiskAt B w' L (rotD n p y dur) (pend.map (rotW n p y)) ∧ Turns w w' L.has := by
  have HD := hide h
  have HC := hide (check_any (n : Int) w h)
  rw [if_neg (by omega)] at HC
  obtain ⟨pA, pc, hpf⟩ := waits_form h.waits
  have HPF := hide hpf
  have hmx := h.max
  have HN := hide hn
  have HY := hide hy
  have HOKS : Hid (∀ s ∈ seenOf dur pend, OkB s.b) := hide (seen_ok h.okS (fun x hx => (h.okW x hx).1))
  have HSS : Hid (SR B w L.gs L.cs (seenOf dur pend)) := hide ⟨by rw [seen_len]; exact h.seen, HOKS.out⟩
  have HSD : Hid (SR B w L.gd L.cd dur) := hide ⟨h.sure, h.okS⟩
  have hn1 : n < (seenOf dur pend).length := by rw [seen_len]; exact hn
  have HN1 := hide hn1
  have h1 := h.cell.1
  obtain ⟨v, hv⟩ : ∃ v, v = (secAt (seenOf dur pend) n).b.getD p 0 := ⟨_, rfl⟩
  obtain ⟨v2, hv2⟩ : ∃ v, v = (secAt dur n).b.getD p 0 := ⟨_, rfl⟩
  have h2 : w.cell? ⟨L.gs, n * 65 + p, none⟩ = some (.int .u8 v) := by rw [hv]; exact HSS.out.cellB hn1 hp64
  have h3 : w.frozen? ⟨L.gs, n * 65 + p, none⟩ = false := HSS.out.1.frozenAt _
  have HV := hide hv
  have HV2 := hide hv2
  have a1 : (0 : Int) ≤ (n : Int) := by omega
  have a2 : (n : Int) < (dur.length : Int) := by omega
  have a3 : (0 : Int) ≤ (p : Int) := by omega
  have a4 : (p : Int) < 64 := by omega
  have HTOP := hide h.top
  clear h hpf hn hn1 hv hv2 hy
  go_enter Tryz.func14, Tryz.ntmps14
  go_wp2_with fail
  refine Calls.mono HC.out ?_
  rintro e w1 ⟨rfl, rfl⟩
  unfold Loc.ptr
  go_wp2
  go_still_tail 15, (by kernel_rfl)
  change wpList _ _ _ _ _ w.drew
  go_wp2
  obtain ⟨W1, hW1⟩ : ∃ W1, W1 = (w.setCell ⟨L.gs, n * 65 + p, none⟩ (.int .u8 (bits .xor .u8 v y))).drew := ⟨_, rfl⟩
  have HB1 : Hid (∀ b, b ≠ L.gs → W1.heap[b]? = w.heap[b]?) := hide (fun b hb => by rw [hW1]; exact heap_setCell_other w ⟨L.gs, n * 65 + p, none⟩ b _ hb)
  have HS1 : Hid (SR B W1 L.gs L.cs (rotD n p y (seenOf dur pend))) := hide (by
    rw [hW1]
    have := HSS.out.cell HN1.out (o := p) (v := .int .u8 (bits .xor .u8 v y)) (by omega) (rotS p y (secAt (seenOf dur pend) n)) (xorB_ok (secAt_ok HSS.out.2 HN1.out) HY.out) (by rw [secV_putByte (secAt_ok HSS.out.2 HN1.out) hp64, HV.out]; rfl)
    exact this)
  have HE1 : Hid (W1.os = w.os ∧ W1.tape = w.tape ∧ W1.output = w.output ∧ W1.heap.size = w.heap.size) := hide (by rw [hW1]; exact ⟨rfl, rfl, rfl, World.size_setCell _ _ _⟩)
  rw [← hW1]
  clear hW1 h1 h2 h3
  have HD1 : Hid (SR B W1 L.gd L.cd dur) := hide (HSD.out.other (HB1.out _ HD.out.ne.symm))
  have t1 := HB1.out L.g HD.out.g_ne_s
  have h1 : W1.cell? ⟨L.g, 1, none⟩ = some (.slice (some ⟨L.gd, 0, none⟩) dur.length L.cd) := by rw [cell_of_row _ _ _ _ _ _ (t1.trans HTOP.out)]; rfl
  have h2 : W1.cell? ⟨L.gd, n * 65 + p, none⟩ = some (.int .u8 v2) := by rw [HV2.out]; exact HD1.out.cellB HN.out hp64
  have h3 : W1.frozen? ⟨L.gd, n * 65 + p, none⟩ = false := HD1.out.1.frozenAt _
  have HT1 := hide t1
  clear t1
  go_still_tail 15, (by kernel_rfl)
  change wpList _ _ _ _ _ W1.drew
  obtain ⟨W2, hW2⟩ : ∃ W2, W2 = (W1.setCell ⟨L.gd, n * 65 + p, none⟩ (.int .u8 (bits .xor .u8 v2 y))).drew := ⟨_, rfl⟩
  have HS2 : Hid (SR B W2 L.gd L.cd (rotD n p y dur)) := hide (by
    rw [hW2]
    have := HD1.out.cell HN.out (o := p) (v := .int .u8 (bits .xor .u8 v2 y)) (by omega) (rotS p y (secAt dur n)) (xorB_ok (secAt_ok HD1.out.2 HN.out) HY.out) (by rw [secV_putByte (secAt_ok HD1.out.2 HN.out) hp64, HV2.out]; rfl)
    exact this)
  have HB2 : Hid (∀ b, b ≠ L.gd → W2.heap[b]? = W1.heap[b]?) := hide (fun b hb => by rw [hW2]; exact heap_setCell_other W1 ⟨L.gd, n * 65 + p, none⟩ b _ hb)
  have HE2 : Hid (W2.os = w.os ∧ W2.tape = w.tape ∧ W2.output = w.output ∧ W2.heap.size = w.heap.size) := hide (by rw [hW2]; exact ⟨HE1.out.1, HE1.out.2.1, HE1.out.2.2.1, (World.size_setCell _ _ _).trans HE1.out.2.2.2⟩)
  have t2 := (HB2.out L.g HD.out.g_ne_d).trans (HT1.out.trans HTOP.out)
  have HT2 := hide t2
  have h4 : W2.cell? ⟨L.g, 2, none⟩ = some (.slice pA pend.length pc) := by rw [cell_of_row _ _ _ _ _ _ t2, ← HPF.out]; rfl
  have h5 : (W1.setCell ⟨L.gd, n * 65 + p, none⟩ (.int .u8 (bits .xor .u8 v2 y))).drew = W2 := hW2.symm
  clear t2 hW2
  go_wp2
  clear h5 h1 h2 h3
  have HPO : Hid (W2.ownsRow B 83 67 (.slice pA pend.length pc) pend.length (wrsV (upTo (rotW n p y) pend 0))) := hide (by
    rw [upTo_zero, ← HPF.out]
    exact ownsRow_same HD.out.waits (fun b hb => by rw [HB2.out b (fun e => HD.out.p_ne_d (e ▸ hb)), HB1.out b (fun e => HD.out.p_ne_s (e ▸ hb))]))
  have HOKU : Hid (∀ k, ∀ x ∈ upTo (rotW n p y) pend k, OkB x.b) := hide (fun k x hx => (upTo_mem (P := fun x => OkB x.b) (fun x hx => ⟨(HD.out.okW x hx).1, rotW_ok (HD.out.okW x hx).1 HY.out⟩) x hx))
  go_loopw [58] (fun i wr => ∃ k : Nat, k ≤ pend.length ∧ i = .int .i64 k ∧ Hid (wr.ownsRow B 83 67 (.slice pA pend.length pc) pend.length (wrsV (upTo (rotW n p y) pend k))) ∧ Hid (∀ b, L.p.ownBlock ≠ some b → wr.heap[b]? = W2.heap[b]?) ∧ Hid (wr.os = w.os ∧ wr.tape = w.tape ∧ wr.output = w.output ∧ wr.heap.size = w.heap.size)) (fun i _ => pend.length - (intOf i).toNat)
  case atStart => exact ⟨0, Nat.zero_le _, rfl, HPO, hide (fun _ _ => rfl), HE2⟩
  case round =>
    obtain ⟨k, hk, rfl, HR, HBR, HE⟩ := hrel
    have ht := (HBR.out L.g HD.out.p_ne_g).trans HT2.out
    have HTR := hide ht
    have h6 : wr.cell? ⟨L.g, 2, none⟩ = some (.slice pA pend.length pc) := by rw [cell_of_row _ _ _ _ _ _ ht, ← HPF.out]; rfl
    clear ht
    by_cases hlt : k < pend.length
    · obtain ⟨gp, hgp⟩ : ∃ gp, pA = some ⟨gp, 0, none⟩ := by
        rcases HD.out.p_form with ⟨_, e⟩ | ⟨g', c', e, _, cur, hh⟩
        · rw [e] at hlt; cases hlt
        · rw [HPF.out] at e; injection e with e _ _; exact ⟨g', e⟩
      subst hgp
      obtain ⟨x, hx⟩ : ∃ x, x = wrAt pend k := ⟨_, rfl⟩
      have HXM : Hid (OkB x.b ∧ x.n < dur.length) := hide (by rw [hx]; exact HD.out.okW _ (wrAt_mem hlt))
      have HXU : Hid (wrAt (upTo (rotW n p y) pend k) k = x) := hide (by rw [upTo_at _ _ _ hlt, hx])
      have hku : k < (upTo (rotW n p y) pend k).length := by rw [upTo_len]; exact hlt
      have HKU := hide hku
      have HX := hide hx
      obtain ⟨xn, hxn⟩ : ∃ xn, xn = x.n := ⟨_, rfl⟩
      have c0 : wr.cell? ⟨gp, k * 67, none⟩ = some (.int .i64 (xn : Int)) := by
        have := waits_at HR.out (upTo_len _ _ _).symm (HOKU.out k) hku 0 (.int .i64 (xn : Int)) (by rw [HXU.out, hxn]; rfl)
        rwa [Nat.add_zero] at this
      have k0 : (0 : Int) ≤ (k : Int) := by omega
      have k1 : (k : Int) < (pend.length : Int) := by omega
      have HXN := hide hxn
      clear hx hku hxn
      by_cases hne : xn = n
      · have e1 : ((xn : Int) == (n : Int)) = true := by rw [hne]; exact beq_self_eq_true _
        have HNE := hide hne
        have HFX : Hid (rotW n p y x = ⟨x.n, xorB x.b p y, x.old⟩) := hide (by unfold rotW; rw [if_pos (HXN.out.symm.trans hne)])
        obtain ⟨b0, hb0⟩ : ∃ b0, b0 = x.b.getD p 0 := ⟨_, rfl⟩
        have c1 : wr.cell? ⟨gp, k * 67 + 2 + p, none⟩ = some (.int .u8 b0) := by
          have := waits_at HR.out (upTo_len _ _ _).symm (HOKU.out k) HKU.out (2 + p) (.int .u8 b0) (by rw [HXU.out, hb0]; exact wrV_get HXM.out.1 hp64)
          rwa [← Nat.add_assoc] at this
        have c2 : wr.frozen? ⟨gp, k * 67 + 2 + p, none⟩ = false := HR.out.frozenAt _
        have HB0 := hide hb0
        clear hne hb0
        go_wp2
        go_still_tail 15, (by kernel_rfl)
        change wpList _ _ _ _ _ wr.drew
        obtain ⟨W3, hW3⟩ : ∃ W3, W3 = (wr.setCell ⟨gp, k * 67 + 2 + p, none⟩ (.int .u8 (bits .xor .u8 b0 y))).drew := ⟨_, rfl⟩
        have HR3 : Hid (W3.ownsRow B 83 67 (.slice (some ⟨gp, 0, none⟩) pend.length pc) pend.length (wrsV (upTo (rotW n p y) pend (k + 1)))) := hide (by
          rw [hW3, upTo_succ _ _ _ hlt, ← HX.out, HFX.out]
          have := pend_cell HR.out (upTo_len _ _ _).symm (HOKU.out k) HKU.out (o := 2 + p) (v := .int .u8 (bits .xor .u8 b0 y)) (by omega) ⟨x.n, xorB x.b p y, x.old⟩ (by rw [HXU.out, wrV_putB HXM.out.1 hp64, HB0.out]; rfl)
          rw [← Nat.add_assoc] at this
          exact this)
        have HB3 : Hid (∀ b, L.p.ownBlock ≠ some b → W3.heap[b]? = W2.heap[b]?) := hide (fun b hb => by
          rw [hW3]
          exact (heap_setCell_other wr ⟨gp, k * 67 + 2 + p, none⟩ b _ (fun e => hb (by rw [HPF.out, e]; rfl))).trans (HBR.out b hb))
        have HE3 : Hid (W3.os = w.os ∧ W3.tape = w.tape ∧ W3.output = w.output ∧ W3.heap.size = w.heap.size) := hide (by rw [hW3]; exact ⟨HE.out.1, HE.out.2.1, HE.out.2.2.1, (World.size_setCell _ _ _).trans HE.out.2.2.2⟩)
        have h7 : (wr.setCell ⟨gp, k * 67 + 2 + p, none⟩ (.int .u8 (bits .xor .u8 b0 y))).drew = W3 := hW3.symm
        clear hW3
        go_wp2
        clear h7
        go_roundw
        case rel => exact ⟨k + 1, by omega, by go_num, HR3, HB3, HE3⟩
        case measure => simp [intOf]; omega
      · have e1 : ((xn : Int) == (n : Int)) = false := beq_eq_false_iff_ne.2 (by omega)
        have HFX : Hid (rotW n p y x = x) := hide (by unfold rotW; rw [if_neg (by rw [← HXN.out]; exact hne)])
        have HR3 : Hid (wr.ownsRow B 83 67 (.slice (some ⟨gp, 0, none⟩) pend.length pc) pend.length (wrsV (upTo (rotW n p y) pend (k + 1)))) := hide (by
          rw [upTo_succ _ _ _ hlt, ← HX.out, HFX.out, ← HXU.out, wrAt_set_self HKU.out]
          exact HR.out)
        clear hne
        go_wp2
        go_roundw
        case rel => exact ⟨k + 1, by omega, by go_num, HR3, HBR, HE⟩
        case measure => simp [intOf]; omega
    · obtain rfl : k = pend.length := by omega
      have HFIN : Hid (DiskAt B wr L (rotD n p y dur) (pend.map (rotW n p y))) := hide (by
        refine HD.out.turned (HTR.out.trans HTOP.out.symm) ?_ (HS2.out.other (HBR.out _ HD.out.p_ne_d)) ?_ rotD_len (by simp) (fun x hx => ?_)
        · rw [rot_seen HN.out (fun x hx => (HD.out.okW x hx).2)]
          exact HS1.out.other ((HBR.out _ HD.out.p_ne_s).trans (HB2.out _ HD.out.ne))
        · have := HR.out
          rw [upTo_all, ← HPF.out] at this
          exact this
        · obtain ⟨z, hz, rfl⟩ := List.mem_map.1 hx
          exact ⟨rotW_ok (HD.out.okW z hz).1 HY.out, by rw [rotW_n]; exact (HD.out.okW z hz).2⟩)
      have HTF : Hid (Turns w wr L.has) := hide ⟨HE.out.1, HE.out.2.1, HE.out.2.2.1, by rw [HE.out.2.2.2]; exact Nat.le_refl _, fun b hb hn => by
        rw [HBR.out b (fun e => hn (.inr (.inr (.inr e)))), HB2.out b (fun e => hn (.inr (.inr (.inl e)))), HB1.out b (fun e => hn (.inr (.inl e)))]⟩
      go_wp2
      go_ret
      exact ⟨rfl, HFIN.out, HTF.out⟩
end Go.Proofs.YtapdaeafeejknaaGreatDoor
