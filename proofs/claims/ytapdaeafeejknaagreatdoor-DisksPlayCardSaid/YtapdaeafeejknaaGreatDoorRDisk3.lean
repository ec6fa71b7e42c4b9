/- Contracts of the document's disk: Bad on a disk that is there. -/
import Derived.Test.YtapdaeafeejknaaGreatDoorRDisk2
namespace Go.Proofs.YtapdaeafeejknaaGreatDoor
open Go.RowKit
set_option maxRecDepth 20000
set_option linter.unusedVariables false
set_option linter.unusedSimpArgs false

theorem rwaits_at {B : Nat} {w : World} {gp c m : Nat} {q : List Wr} (h : w.ownsRow B 89 3 (.slice (some ⟨gp, 0, none⟩) m c) m (rwrsV q)) (hm : m = q.length) {k : Nat} (hk : k < q.length) :
    w.cell? ⟨gp, k * 3, none⟩ = some (.int .i64 ((wrAt q k).n : Int)) ∧ w.cell? ⟨gp, k * 3 + 1, none⟩ = some (strV (wrAt q k).b) ∧ w.cell? ⟨gp, k * 3 + 2, none⟩ = some (.bool (wrAt q k).old) := by
  have g0 := flat_get (rwrs_row q) (rwrs_at hk) (j := 0) (by omega)
  have g1 := flat_get (rwrs_row q) (rwrs_at hk) (j := 1) (by omega)
  have g2 := flat_get (rwrs_row q) (rwrs_at hk) (j := 2) (by omega)
  rw [Nat.add_zero] at g0
  refine ⟨?_, ?_, ?_⟩
  · rw [h.cellAt (k * 3) (by omega), rwrsV, g0]; rfl
  · rw [h.cellAt (k * 3 + 1) (by omega), rwrsV, g1]; rfl
  · rw [h.cellAt (k * 3 + 2) (by omega), rwrsV, g2]; rfl
theorem ritems {q : List Wr} {k : Nat} (x : Wr) (hk : k < q.length) : (q.set k x).length = q.length := by simp

/-- The same disk, its sectors and what waits turned in their places. -/
theorem RAt.turned {B : Nat} {w w' : World} {L : RLoc} {dur dur' : List Sec} {pend pend' : List Wr} (h : RAt B w L dur pend) (ht : w'.heap[L.g]? = w.heap[L.g]?) (hs : RSR B w' L.gs L.cs (seenOf dur' pend')) (hd : RSR B w' L.gd L.cd dur')
    (hw : w'.ownsRow B 89 3 L.p pend.length (rwrsV pend')) (hl : dur'.length = dur.length) (hp : pend'.length = pend.length) (hok : ∀ s ∈ dur', OkB s.b) (hx : ∀ x ∈ pend', OkB x.b ∧ x.n < dur.length) : RAt B w' L dur' pend' :=
  ⟨h.base, by rw [hl]; exact ht.trans h.top, hs, hd, by rw [hp]; exact hw, h.ne, by rw [hl]; exact h.pos, by rw [hl]; exact h.max, hok, fun x hx' => by rw [hl]; exact hx x hx'⟩

set_option maxRecDepth 100000 in
set_option maxHeartbeats 4000000 in
theorem rbad_ok {B : Nat} {L : RLoc} {dur : List Sec} {pend : List Wr} (n : Nat) (w : World) (h : RAt B w L dur pend) (hn : n < dur.length) (hp : pend.length ≤ 1000000000) :
    Calls Tryz.prog 17 #[L.ptr, .int .i64 (n : Int)] w fun e w' => e = .returned (.int .i64 0) ∧ RAt B w' L (badD n dur) (pend.map (badW n)) ∧ Turns w w' L.has := by
  have HD := hide h
  obtain ⟨pA, pc, hpf⟩ := waits_form h.waits
  have HPF := hide hpf
  have hmx := h.max
  have HN := hide hn
  have hn1 : n < (seenOf dur pend).length := by rw [seen_len]; exact hn
  have HN1 := hide hn1
  have hsl : (seenOf dur pend).length = dur.length := seen_len dur pend
  have HSL := hide hsl
  have h1 := h.cell.2.1
  have h2 : w.cell? ⟨L.gs, n * 2 + 1, none⟩ = some (.bool (secAt (seenOf dur pend) n).bad) := h.seen.cellF hn1
  have h3 : w.frozen? ⟨L.gs, n * 2 + 1, none⟩ = false := h.seen.frozen _
  have a1 : (0 : Int) ≤ (n : Int) := by omega
  have a2 : (n : Int) < (dur.length : Int) := by omega
  have HTOP := hide h.top
  obtain ⟨W1, hW1⟩ : ∃ W1, W1 = w.setCell ⟨L.gs, n * 2 + 1, none⟩ (.bool true) := ⟨_, rfl⟩
  have HB1 : Hid (∀ b, b ≠ L.gs → W1.heap[b]? = w.heap[b]?) := hide (fun b hb => by rw [hW1]; exact heap_setCell_other w ⟨L.gs, n * 2 + 1, none⟩ b _ hb)
  have HS1 : Hid (RSR B W1 L.gs L.cs (badD n (seenOf dur pend))) := hide (by rw [hW1]; exact (h.seen.setF HN1.out true).1)
  have HE1 : Hid (W1.os = w.os ∧ W1.tape = w.tape ∧ W1.output = w.output ∧ W1.heap.size = w.heap.size) := hide (by rw [hW1]; exact ⟨rfl, rfl, rfl, World.size_setCell _ _ _⟩)
  have HD1 : Hid (RSR B W1 L.gd L.cd dur) := hide (h.sure.same (HB1.out _ h.ne.symm))
  have t1 := HB1.out L.g h.g_ne_s
  have h11 : W1.cell? ⟨L.g, 0, none⟩ = some (.slice (some ⟨L.gd, 0, none⟩) dur.length L.cd) := by rw [cell_of_row _ _ _ _ _ _ (t1.trans HTOP.out)]; rfl
  have h12 : W1.cell? ⟨L.gd, n * 2 + 1, none⟩ = some (.bool (secAt dur n).bad) := HD1.out.cellF HN.out
  have h13 : W1.frozen? ⟨L.gd, n * 2 + 1, none⟩ = false := HD1.out.frozen _
  obtain ⟨W2, hW2⟩ : ∃ W2, W2 = W1.setCell ⟨L.gd, n * 2 + 1, none⟩ (.bool true) := ⟨_, rfl⟩
  have HS2 : Hid (RSR B W2 L.gd L.cd (badD n dur)) := hide (by rw [hW2]; exact (HD1.out.setF HN.out true).1)
  have HB2 : Hid (∀ b, b ≠ L.gd → W2.heap[b]? = W1.heap[b]?) := hide (fun b hb => by rw [hW2]; exact heap_setCell_other W1 ⟨L.gd, n * 2 + 1, none⟩ b _ hb)
  have HE2 : Hid (W2.os = w.os ∧ W2.tape = w.tape ∧ W2.output = w.output ∧ W2.heap.size = w.heap.size) := hide (by rw [hW2]; exact ⟨HE1.out.1, HE1.out.2.1, HE1.out.2.2.1, (World.size_setCell _ _ _).trans HE1.out.2.2.2⟩)
  have t2 := (HB2.out L.g h.g_ne_d).trans (t1.trans HTOP.out)
  have HT2 := hide t2
  have h4 : W2.cell? ⟨L.g, 2, none⟩ = some (.slice pA pend.length pc) := by rw [cell_of_row _ _ _ _ _ _ t2, ← HPF.out]; rfl
  have h5 : W1.setCell ⟨L.gd, n * 2 + 1, none⟩ (.bool true) = W2 := hW2.symm
  have h15 : w.setCell ⟨L.gs, n * 2 + 1, none⟩ (.bool true) = W1 := hW1.symm
  clear h hpf hn hn1 t1 t2 hW1 hW2 hsl
  go_enter Tryz.func17, Tryz.ntmps17
  unfold RLoc.ptr
  go_wp2
  clear h5 h15 h1 h2 h3 h11 h12 h13
  have HPO : Hid (W2.ownsRow B 89 3 (.slice pA pend.length pc) pend.length (rwrsV (upTo (badW n) pend 0))) := hide (by
    rw [upTo_zero, ← HPF.out]
    exact ownsRow_same HD.out.waits (fun b hb => by rw [HB2.out b (fun e => HD.out.p_ne_d (e ▸ hb)), HB1.out b (fun e => HD.out.p_ne_s (e ▸ hb))]))
  go_loopw [5] (fun i wr => ∃ k : Nat, k ≤ pend.length ∧ i = .int .i64 k ∧ Hid (wr.ownsRow B 89 3 (.slice pA pend.length pc) pend.length (rwrsV (upTo (badW n) pend k))) ∧ Hid (∀ b, L.p.ownBlock ≠ some b → wr.heap[b]? = W2.heap[b]?) ∧ Hid (wr.os = w.os ∧ wr.tape = w.tape ∧ wr.output = w.output ∧ wr.heap.size = w.heap.size)) (fun i _ => pend.length - (intOf i).toNat)
  case atStart => exact ⟨0, Nat.zero_le _, rfl, HPO, hide (fun _ _ => rfl), HE2⟩
  case round =>
    obtain ⟨k, hk, rfl, HR, HBR, HE⟩ := hrel
    have ht := (HBR.out L.g HD.out.p_ne_g).trans HT2.out
    have HTR := hide ht
    have h6 : wr.cell? ⟨L.g, 2, none⟩ = some (.slice pA pend.length pc) := by rw [cell_of_row _ _ _ _ _ _ ht, ← HPF.out]; rfl
    clear ht
    by_cases hlt : k < pend.length
    · obtain ⟨gp, hgp⟩ : ∃ gp, pA = some ⟨gp, 0, none⟩ := by
        rcases HD.out.p_form with ⟨_, e⟩ | ⟨g', c', e, _, cur, hh⟩
        · rw [e] at hlt; cases hlt
        · rw [HPF.out] at e; injection e with e _ _; exact ⟨g', e⟩
      subst hgp
      obtain ⟨x, hx⟩ : ∃ x, x = wrAt pend k := ⟨_, rfl⟩
      have HXU : Hid (wrAt (upTo (badW n) pend k) k = x) := hide (by rw [upTo_at _ _ _ hlt, hx])
      have hku : k < (upTo (badW n) pend k).length := by rw [upTo_len]; exact hlt
      have HKU := hide hku
      have HX := hide hx
      obtain ⟨c0, _, c1⟩ := rwaits_at HR.out (upTo_len _ _ _).symm hku
      rw [HXU.out] at c0 c1
      obtain ⟨xn, hxn⟩ : ∃ xn, xn = x.n := ⟨_, rfl⟩
      rw [← hxn] at c0
      have k0 : (0 : Int) ≤ (k : Int) := by omega
      have k1 : (k : Int) < (pend.length : Int) := by omega
      have HXN := hide hxn
      clear hx hku hxn
      by_cases hne : xn = n
      · have e1 : ((xn : Int) == (n : Int)) = true := by rw [hne]; exact beq_self_eq_true _
        have HFX : Hid (badW n x = ⟨x.n, x.b, true⟩) := hide (by unfold badW; rw [if_pos (HXN.out.symm.trans hne)])
        have c2 : wr.frozen? ⟨gp, k * 3 + 2, none⟩ = false := HR.out.frozenAt _
        obtain ⟨W3, hW3⟩ : ∃ W3, W3 = wr.setCell ⟨gp, k * 3 + 2, none⟩ (.bool true) := ⟨_, rfl⟩
        have HR3 : Hid (W3.ownsRow B 89 3 (.slice (some ⟨gp, 0, none⟩) pend.length pc) pend.length (rwrsV (upTo (badW n) pend (k + 1)))) := hide (by
          have h := (HR.out.stored (k * 3 + 2) (.bool true)).1
          rw [rwrs_set_old HKU.out, HXU.out] at h
          rw [hW3, upTo_succ _ _ _ hlt, ← HX.out, HFX.out]
          exact h)
        have HB3 : Hid (∀ b, L.p.ownBlock ≠ some b → W3.heap[b]? = W2.heap[b]?) := hide (fun b hb => by
          rw [hW3]
          exact (heap_setCell_other wr ⟨gp, k * 3 + 2, none⟩ b _ (fun e => hb (by rw [HPF.out, e]; rfl))).trans (HBR.out b hb))
        have HE3 : Hid (W3.os = w.os ∧ W3.tape = w.tape ∧ W3.output = w.output ∧ W3.heap.size = w.heap.size) := hide (by rw [hW3]; exact ⟨HE.out.1, HE.out.2.1, HE.out.2.2.1, (World.size_setCell _ _ _).trans HE.out.2.2.2⟩)
        have h7 : wr.setCell ⟨gp, k * 3 + 2, none⟩ (.bool true) = W3 := hW3.symm
        clear hW3 hne
        go_wp2
        clear h7
        go_roundw
        case rel => exact ⟨k + 1, by omega, by go_num, HR3, HB3, HE3⟩
        case measure => simp [intOf]; omega
      · have e1 : ((xn : Int) == (n : Int)) = false := beq_eq_false_iff_ne.2 (by omega)
        have HFX : Hid (badW n x = x) := hide (by unfold badW; rw [if_neg (by rw [← HXN.out]; exact hne)])
        have HR3 : Hid (wr.ownsRow B 89 3 (.slice (some ⟨gp, 0, none⟩) pend.length pc) pend.length (rwrsV (upTo (badW n) pend (k + 1)))) := hide (by
          rw [upTo_succ _ _ _ hlt, ← HX.out, HFX.out, ← HXU.out, wrAt_set_self HKU.out]
          exact HR.out)
        clear hne
        go_wp2
        go_roundw
        case rel => exact ⟨k + 1, by omega, by go_num, HR3, HBR, HE⟩
        case measure => simp [intOf]; omega
    · obtain rfl : k = pend.length := by omega
      have HFIN : Hid (RAt B wr L (badD n dur) (pend.map (badW n))) := hide (by
        refine HD.out.turned (HTR.out.trans HTOP.out.symm) ?_ (HS2.out.same (HBR.out _ HD.out.p_ne_d)) ?_ badD_len (by simp) (badD_ok HD.out.okS HN.out) (fun x hx => ?_)
        · rw [bad_seen HN.out (fun x hx => (HD.out.okW x hx).2)]
          exact HS1.out.same ((HBR.out _ HD.out.p_ne_s).trans (HB2.out _ HD.out.ne))
        · have := HR.out
          rw [upTo_all, ← HPF.out] at this
          exact this
        · obtain ⟨z, hz, rfl⟩ := List.mem_map.1 hx
          exact ⟨badW_ok (HD.out.okW z hz).1, by rw [badW_n]; exact (HD.out.okW z hz).2⟩)
      have HTF : Hid (Turns w wr L.has) := hide ⟨HE.out.1, HE.out.2.1, HE.out.2.2.1, by rw [HE.out.2.2.2]; exact Nat.le_refl _, fun b hb hn => by
        rw [HBR.out b (fun e => hn (.inr (.inr (.inr e)))), HB2.out b (fun e => hn (.inr (.inr (.inl e)))), HB1.out b (fun e => hn (.inr (.inl e)))]⟩
      go_wp2
      go_ret
      exact ⟨rfl, HFIN.out, HTF.out⟩
end Go.Proofs.YtapdaeafeejknaaGreatDoor
