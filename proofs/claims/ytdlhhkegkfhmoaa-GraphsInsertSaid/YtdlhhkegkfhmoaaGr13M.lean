/- The contract of graphs.Shapes and of graphs.Check. -/
import Derived.Test.YtdlhhkegkfhmoaaGr12M
import Derived.Outline
import Derived.Laws.EntriesVeiled
namespace Go.Proofs.Ytdlhhkegkfhmoaa
open Go.RowKit
set_option linter.unusedVariables false
set_option linter.unusedSimpArgs false
set_option maxRecDepth 100000

theorem lv_one : ∀ k : Nat, (lv k).oneCell' = true
  | 0 => rfl
  | 1 => rfl
  | _ + 2 => rfl

/-- Each rule's function is entered. -/
theorem rl_call (k : Nat) (h1 : 1 ≤ k) (h13 : k ≤ 13) (args : Array Value) (u : World) : (callFunc (rlT k).f args).run Try.prog u = .ok (.enter (rlT k).f args) u := by
  match k, h1, h13 with
  | 1, _, _ => exact Try.call31 args u
  | 2, _, _ => exact Try.call31 args u
  | 3, _, _ => exact Try.call32 args u
  | 4, _, _ => exact Try.call32 args u
  | 5, _, _ => exact Try.call33 args u
  | 6, _, _ => exact Try.call33 args u
  | 7, _, _ => exact Try.call34 args u
  | 8, _, _ => exact Try.call35 args u
  | 9, _, _ => exact Try.call36 args u
  | 10, _, _ => exact Try.call37 args u
  | 11, _, _ => exact Try.call39 args u
  | 12, _, _ => exact Try.call40 args u
  | 13, _, _ => exact Try.call41 args u

/-- What Shapes answers. -/
def ShAns (w : World) (ns : List Nd) (E : Int) (e : Ending) (w' : World) : Prop := ∃ R m kc gs, e = .returned (.tuple #[.slice R m kc, .int .i64 E]) ∧ Grd w' w.heap.size R m kc gs ∧ gs.map Sg.s = gphS ns ∧ Below w.heap.size w w'

set_option maxHeartbeats 8000000 in
theorem gshapes_any (A : Option Addr) (n c : Nat) (ns : List Nd) (w : World) (h : NsIn w A n ns) (hn : n ≤ 1073741824) (hc : n ≤ c) :
    Calls Try.prog 10 #[.agg #[.slice A n c]] w fun e w' => ShAns w ns (gphE ns) e w' := by
  obtain ⟨W0, hW0⟩ : ∃ W0, W0 = w.alloc (.cells #[.slice A n c] 24) := ⟨_, rfl⟩
  have HB0 : Hid (Below w.heap.size w W0) := hide (by rw [hW0]; exact below_al6 (Below.refl _ _))
  have HG : Hid (∀ v, Below W0.heap.size W0 v → v.cell? ⟨w.heap.size, 0, none⟩ = some (.slice A n c)) := hide (fun v hv => by
    have h : W0.heap[w.heap.size]? = some (.cells #[.slice A n c] 24 (0, 0)) := by rw [hW0]; exact heap_alloc_new w _
    exact cell_of_row _ _ 0 _ _ (0, 0) ((hv.block _ (lt_of_heap h)).trans h))
  have HN := hide (h.below HB0.out)
  have HL : Hid (ns.length = n) := hide h.1
  have HE := hide (hasEnds_any A n c ns W0 HN.out hn hc)
  obtain ⟨E, hE⟩ : ∃ z, z = gphE ns := ⟨_, rfl⟩
  rw [← hE]
  have HEE := hide hE
  have c0 := HG.out W0 (Below.refl _ _)
  have hW0' := hW0.symm
  clear hW0 h hE
  obtain ⟨i0, hi, hz0, hz1, hz2⟩ := info_parts infoS10
  have HI := hide hi
  have HZ0 := hide hz0
  have HZ1 := hide hz1
  have HZ2 := hide hz2
  clear hi hz0 hz1 hz2
  go_enter Try.func10, Try.ntmps10
  go_wp2_with fail
  refine Calls.mono HE.out ?_
  rintro e w1 ⟨rfl, hb⟩
  have HB1 := hide (below_nx6 (Below.refl _ _) hb)
  clear hb HE c0
  obtain ⟨B, hB⟩ : ∃ z, z = endsOk ns := ⟨_, rfl⟩
  rw [← hB]
  have HBE := hide hB
  clear hB
  cases B with
  | false =>
    have hb : gphB ns = false := by rw [gphB, ← HBE.out]; rfl
    obtain rfl : E = 1 := by rw [HEE.out, gphE, hb]; rfl
    have HF := hide (gphS_no hb)
    clear hb
    go_wp2
    go_ret2
    exact ⟨none, 0, 0, [], rfl, Grd.nil _ _, HF.out.symm, below_nx6 HB0.out HB1.out⟩
  | true =>
  have h32 : n ≤ 32 := by have h := (endsOk_parts HBE.out.symm).1; rw [HL.out] at h; exact h
  obtain ⟨V, hV⟩ : ∃ V, V = w1.alloc (.cells #[.slice none 0 0] 52) := ⟨_, rfl⟩
  obtain ⟨p, hp⟩ : ∃ p, p = w1.heap.size := ⟨_, rfl⟩
  have hBV : Below w.heap.size w V := by rw [hV]; exact below_al6 (below_nx6 HB0.out HB1.out)
  have hKV : V.heap[p]? = some (.cells #[.slice none 0 0] 52 (0, 0)) := by rw [hV, hp]; exact heap_alloc_new w1 _
  have HBV := hide hBV
  have HKV := hide hKV
  have HSV : Hid (V.heap.size = p + 1 ∧ w.heap.size ≤ p ∧ W0.heap.size ≤ p) := hide ⟨by rw [hV, hp]; simp, by rw [hp]; exact (below_nx6 HB0.out HB1.out).size, by rw [hp]; exact HB1.out.size⟩
  have HBV0 : Hid (Below W0.heap.size W0 V) := hide (by rw [hV]; exact below_al6 HB1.out)
  have hV' := hV.symm
  have hp' := hp.symm
  clear hV hBV hKV hp
  go_wp2_with fail
  refine Calls.mono (rules_any p _) ?_
  rintro e w2 ⟨b, rfl, hbz, hmb, hb⟩
  have HST : Hid (ShSt w p b (p + 1) ns 0 none 0 [] w2) := hide ⟨(hb.block p (by have := HSV.out; omega)).trans HKV.out, Grd.nil _ _, hmb, by rw [List.take_zero]; rfl, HBV.out.trans (hb.mono HBV.out.size), by have := HSV.out; have := hb.size; omega, by omega, HSV.out.2.1⟩
  have HB2 := hide (below_nx6 HBV0.out hb)
  have c0 := HG.out w2 HB2.out
  have HN2 := hide (HN.out.below HB2.out)
  clear hb hmb hbz HBV HKV HBV0 HB1
  go_wp2
  clear c0
  go_loopw [23] (fun i wr => ∃ (k : Nat) (A2 : Option Addr) (c2 : Nat) (gs : List Sg), k ≤ n ∧ i = .int .i64 k ∧ Hid (ShSt w p b (p + 1) ns k A2 c2 gs wr) ∧ Hid (Below W0.heap.size W0 wr)) (fun i _ => n - (intOf i).toNat)
  case atStart => exact ⟨0, none, 0, [], Nat.zero_le _, rfl, HST, HB2⟩
  case round =>
    obtain ⟨k, A2, c2, gs, hk, rfl, HST2, HBR⟩ := hrel
    by_cases hlt : k < n
    · obtain ⟨bA, oA, x, rfl, hxk, h0, h1, h2, h3, h4, hxo⟩ := (HN.out.below HBR.out).at hlt
      have HXK := hide hxk
      have HXO := hide hxo
      have HGL : Hid ((gs.map Sg.s).length = k) := hide (by rw [List.length_map, HST2.out.2.1.1])
      have f0 : (0 : Int) ≤ (k : Int) := by omega
      have f1 : (k : Int) < (n : Int) := by omega
      obtain ⟨W1, hW1⟩ : ∃ W1, W1 = wr.alloc (.cells #[.int .u8 x.kd, .slice x.I x.ni x.ci, .slice x.S x.ns x.cs, .int .i64 x.N, .int .i64 x.P] 35) := ⟨_, rfl⟩
      have hbw1 : Below wr.heap.size wr W1 := by rw [hW1]; exact below_al6 (Below.refl _ _)
      have HX1 : Hid (BoxN W1 wr.heap.size x) := hide (by rw [hW1]; exact BoxN.new wr x)
      have HS1 := hide (HST2.out.below hbw1)
      have HO1 := hide (HXO.out.below hbw1)
      have HBR1 := hide (below_nx6 HBR.out hbw1)
      obtain ⟨q0, q1, q2, q3, q4⟩ := HX1.out.cs
      have hW1' := hW1.symm
      clear hW1 hbw1 hxk hxo
      by_cases hkd : 1 ≤ x.kd ∧ x.kd ≤ 13
      · obtain ⟨kd, hkd'⟩ := Int.eq_ofNat_of_zero_le (show 0 ≤ x.kd by omega)
        have hk1 : 1 ≤ kd := by omega
        have hk13 : kd ≤ 13 := by omega
        have hlook := look_yes (p := p) HS1.out.2.2.1 hk1 hk13
        rw [← hkd'] at hlook
        unfold Rl.v at hlook
        obtain ⟨r, hr⟩ : ∃ r, r = rlT kd := ⟨_, rfl⟩
        rw [← hr] at hlook
        have HR := hide hr
        have HKD := hide hkd'
        have hst : ∀ (u : World) (a : Addr) (m : Mode), (store a (lv r.lk) m).run Try.prog u = stored Try.prog u a (lv r.lk) m := fun u a m => run_store Try.prog u a _ m (lv_one r.lk)
        obtain ⟨W2, hW2⟩ : ∃ W2, W2 = W1.alloc (.cells #[.int .i64 r.a, .int .i64 r.b, .int .i64 r.nl, .int .i64 r.nm, .int .i64 r.pl, .int .i64 r.pm, lv r.lk, .func (.func r.f) #[.pointer (some ⟨p, 0, none⟩)] #[]] 59) := ⟨_, rfl⟩
        have hbw2 : Below W1.heap.size W1 W2 := by rw [hW2]; exact below_al6 (Below.refl _ _)
        have HX2 := hide (HX1.out.kept hbw2)
        have HR2 : Hid (BoxR W2 W1.heap.size r p) := hide (by rw [hW2]; exact BoxR.new W1 r p)
        have HS2 := hide (HS1.out.below hbw2)
        have HO2 := hide (HO1.out.below hbw2)
        have HBR2 := hide (below_nx6 HBR1.out hbw2)
        obtain ⟨y0, y1, y2, y3, y4⟩ := HX2.out.cs
        obtain ⟨z0, z1, z2, z3, z4, z5, z6, z7⟩ := HR2.out.cs
        have hW2' := hW2.symm
        have HAL := hide (allows_any r p x W2 HO2.out)
        unfold Rl.v Nd.v at HAL
        obtain ⟨B1, hB1⟩ : ∃ z, z = alw r x := ⟨_, rfl⟩
        rw [← hB1] at HAL
        have HB1 := hide hB1
        clear hW2 hbw2 hr hkd' hB1 hkd
        go_wp2_with fail
        refine Calls.mono HAL.out ?_
        rintro e w3 ⟨rfl, hb⟩
        have HX3 := hide (HX2.out.kept hb)
        have HR3 := hide (HR2.out.kept hb)
        have HS3 := hide (HS2.out.below hb)
        have HO3 := hide (HO2.out.below hb)
        have HBR3 := hide (below_nx6 HBR2.out hb)
        clear hb HAL y0 y1 y2 y3 y4 z0 z1 z2 z3 z4 z5 z6 z7 q0 q1 q2 q3 q4 hlook hst
        obtain ⟨y0, y1, y2, y3, y4⟩ := HX3.out.cs
        obtain ⟨z0, z1, z2, z3, z4, z5, z6, z7⟩ := HR3.out.cs
        cases B1 with
        | false =>
          have hff := fitN_no (x := x) (ss := gs.map Sg.s) (fun h => by have h2 := h.2.1; rw [HKD.out, Int.toNat_natCast, ← HR.out, ← HB1.out] at h2; cases h2)
          obtain ⟨e1, e2⟩ := gph_stop HST2.out.2.2.2.1 HXK.out hff
          obtain rfl : E = 1 := by rw [HEE.out]; exact e1
          have HF := hide e2
          clear hff e1 e2
          go_wp2
          go_ret2
          exact ⟨none, 0, 0, [], rfl, Grd.nil _ _, HF.out.symm, HS3.out.2.2.2.2.1⟩
        | true =>
        have HHV := hide (have_any p A2 x.I k c2 x.ni x.ci gs x.xs w3 HS3.out.kn HO3.out.1 (by have := HO3.out.2.2.2.2.1; omega))
        obtain ⟨B2, hB2⟩ : ∃ z, z = allKn x.xs k := ⟨_, rfl⟩
        rw [← hB2] at HHV
        have HB2 := hide hB2
        clear hB2
        go_wp2_with fail
        refine Calls.mono HHV.out ?_
        rintro e w4 ⟨rfl, hb⟩
        have HX4 := hide (HX3.out.kept hb)
        have HR4 := hide (HR3.out.kept hb)
        have HS4 := hide (HS3.out.below hb)
        have HO4 := hide (HO3.out.below hb)
        have HBR4 := hide (below_nx6 HBR3.out hb)
        clear hb HHV y0 y1 y2 y3 y4 z0 z1 z2 z3 z4 z5 z6 z7
        obtain ⟨y0, y1, y2, y3, y4⟩ := HX4.out.cs
        obtain ⟨z0, z1, z2, z3, z4, z5, z6, z7⟩ := HR4.out.cs
        cases B2 with
        | false =>
          have hff := fitN_no (x := x) (ss := gs.map Sg.s) (fun h => by have h2 := h.2.2.1; rw [HGL.out, ← HB2.out] at h2; cases h2)
          obtain ⟨e1, e2⟩ := gph_stop HST2.out.2.2.2.1 HXK.out hff
          obtain rfl : E = 1 := by rw [HEE.out]; exact e1
          have HF := hide e2
          clear hff e1 e2
          go_wp2
          go_ret2
          exact ⟨none, 0, 0, [], rfl, Grd.nil _ _, HF.out.symm, HS4.out.2.2.2.2.1⟩
        | true =>
        have HKR := hide (krule_any kd p A2 k c2 gs x w4 hk1 hk13 HS4.out.kn HO4.out (by rw [← HR.out]; exact HB1.out.symm) HB2.out.symm HS4.out.pos)
        rw [← HR.out] at HKR
        unfold Nd.v at HKR
        obtain ⟨E2, hE2⟩ : ∃ z, z = nodeE x (kn gs x.xs) kd := ⟨_, rfl⟩
        rw [← hE2] at HKR
        have HE2 : Hid (E2 = nodeE x (knL (gs.map Sg.s) x.xs) x.kd.toNat) := hide (by rw [hE2, kn_map, HKD.out, Int.toNat_natCast])
        clear hE2
        have hcf := rl_call kd hk1 hk13
        rw [← HR.out] at hcf
        go_wp2_with fail
        refine Calls.mono HKR.out ?_
        rintro e w5 ⟨R5, m5, c5, rfl, ho5, hm5, hb⟩
        have HO5 := hide ho5
        have HS5 := hide (HS4.out.below hb)
        have HB5 := hide hb
        have HBR5 := hide (below_nx6 HBR4.out hb)
        clear hb HKR ho5 hcf y0 y1 y2 y3 y4 z0 z1 z2 z3 z4 z5 z6 z7
        by_cases hE0 : E2 = 0
        · subst hE0
          have HFT : Hid (fitN x (gs.map Sg.s) = true) := hide (fitN_mk (by have := HKD.out; omega) (by rw [HKD.out, Int.toNat_natCast, ← HR.out]; exact HB1.out.symm) (by rw [HGL.out]; exact HB2.out.symm) HE2.out.symm)
          have hshn : nodeS x (kn gs x.xs) kd = shN x (gs.map Sg.s) := by rw [shN, kn_map, HKD.out, Int.toNat_natCast]
          have HSH := hide hshn
          clear hshn
          have hsz5 : w4.heap.size ≤ w5.heap.size := HB5.out.size
          have hbs : p + 1 ≤ w5.heap.size := HS5.out.2.2.2.2.2.1
          have HSA : Hid (ShSt w p b (p + 1) ns k A2 c2 gs (w5.alloc (.cells #[.slice R5 m5 c5] 33))) := hide (HS5.out.below (below_al6 (Below.refl _ _)))
          have HX3 : Hid ((w5.alloc (.cells #[.slice R5 m5 c5] 33)).cell? ⟨w5.heap.size, 0, none⟩ = some (.slice R5 m5 c5)) := hide (by have h := cells_new w5 [.slice R5 m5 c5] 33 0 _ rfl; rwa [Addr.add_lit] at h)
          have HBA : Hid (Below w4.heap.size w4 (w5.alloc (.cells #[.slice R5 m5 c5] 33))) := hide (below_al6 HB5.out)
          obtain ⟨r0, r1⟩ := HS5.out.cell
          clear hsz5
          go_wp2_with (at_builtin; refine wpList_append_one rfl (.tmp 62) (.tmp 64) 27 rfl 33 i0 (.slice none 0 0) 24 Try.underlying27 HI.out HZ0.out HZ1.out HZ2.out rfl (p + 1) A2 k c2 (gs.map Sg.v) rfl HSA.out.2.1.2.1 HSA.out.2.2.2.2.2.1 ⟨w5.heap.size, 0, none⟩ (.slice R5 m5 c5) rfl HX3.out rfl (by omega) (by unfold maxLen; omega) ?_)
          intro A3 c3 w6 ho6 hm6
          obtain ⟨r2, r3⟩ := HSA.out.moved hm6
          have HNX : Hid (ShSt w p b (p + 1) ns (k + 1) A3 c3 (gs ++ [⟨R5, m5, c5, nodeS x (kn gs x.xs) kd⟩]) (w6.setCell ⟨p, 0, none⟩ (.slice A3 (k + 1) c3))) := hide (HS4.out.push (g := ⟨R5, m5, c5, nodeS x (kn gs x.xs) kd⟩) HBA.out (HO5.out.alloc _) hm5 ho6 hm6 HXK.out HFT.out HSH.out)
          have HBN : Hid (Below W0.heap.size W0 (w6.setCell ⟨p, 0, none⟩ (.slice A3 (k + 1) c3))) := hide ((below_moved (below_al6 HBR5.out) (below_al6 HBR5.out).size HSA.out.2.1.2.1 hm6 (by have := HSV.out; omega)).setCell (by have := HSV.out; dsimp only; omega) _)
          clear ho6 hm6 r0 r1 HX3 HBA HSA hbs
          go_wp2
          go_roundw
          case rel => exact ⟨k + 1, A3, c3, _, by omega, by go_num, HNX, HBN⟩
          case measure => simp [intOf] <;> omega
        · have hff := fitN_no (x := x) (ss := gs.map Sg.s) (fun h => by have h2 := h.2.2.2; rw [← HE2.out] at h2; exact hE0 h2)
          obtain ⟨e1, e2⟩ := gph_stop HST2.out.2.2.2.1 HXK.out hff
          obtain rfl : E = 1 := by rw [HEE.out]; exact e1
          have HF := hide e2
          have g1 : (E2 == 0) = false := by simpa using hE0
          clear hff e1 e2 hE0
          go_wp2
          go_ret2
          exact ⟨none, 0, 0, [], rfl, Grd.nil _ _, HF.out.symm, HS5.out.2.2.2.2.1⟩
      · have hlook := look_no (p := p) (k := x.kd) HS1.out.2.2.1 (by omega)
        unfold zeroR at hlook
        have hff := fitN_no (x := x) (ss := gs.map Sg.s) (fun h => hkd h.1)
        obtain ⟨e1, e2⟩ := gph_stop HST2.out.2.2.2.1 HXK.out hff
        obtain rfl : E = 1 := by rw [HEE.out]; exact e1
        have HF := hide e2
        clear hff e1 e2 hkd
        go_wp2
        go_ret2
        exact ⟨none, 0, 0, [], rfl, Grd.nil _ _, HF.out.symm, (HS1.out.below (below_al6 (Below.refl _ _))).2.2.2.2.1⟩
    · obtain rfl : k = n := by omega
      have f1 : ¬ ((k : Int) < (k : Int)) := by omega
      obtain ⟨r0, r1⟩ := HST2.out.cell
      have hall : ns.take k = ns := List.take_of_length_le (by rw [HL.out]; exact Nat.le_refl _)
      have hA := HST2.out.2.2.2.1
      rw [hall] at hA
      have hb := gphB_mk HBE.out.symm hA
      obtain rfl : E = 0 := by rw [HEE.out]; exact gphE_zero.2 hb
      have HF : Hid (gs.map Sg.s = gphS ns) := hide (by obtain ⟨_, ss, h1, h2⟩ := gphB_parts hb; rw [h2]; rw [hA] at h1; injection h1)
      clear hb hA hall
      go_wp2
      go_ret2
      exact ⟨A2, k, c2, gs, rfl, HST2.out.2.1.base (by have := HSV.out; omega), HF.out, HST2.out.2.2.2.2.1⟩

end Go.Proofs.Ytdlhhkegkfhmoaa
