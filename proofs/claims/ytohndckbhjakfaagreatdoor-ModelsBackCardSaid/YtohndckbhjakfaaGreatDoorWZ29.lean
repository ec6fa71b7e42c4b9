/- Merged: Gr13, Help10, Help11, Pb6. -/
import Derived.Test.YtohndckbhjakfaaGreatDoorWZ26
import Derived.Outline
import Derived.Laws.EntriesVeiled
import Derived.Test.YtohndckbhjakfaaGreatDoorWZ12
import Derived.Test.YtohndckbhjakfaaGreatDoorWZ02
import Derived.Test.YtohndckbhjakfaaGreatDoorWZ08
import Derived.Test.YtohndckbhjakfaaGreatDoorWZ28
import Derived.Test.YtohndckbhjakfaaGreatDoorWZ00
namespace Go.Proofs.YtohndckbhjakfaaGreatDoor

section
open Go.RowKit
set_option linter.unusedVariables false
set_option linter.unusedSimpArgs false
set_option maxRecDepth 100000

theorem lv_one : ∀ k : Nat, (lv k).oneCell' = true
  | 0 => rfl
  | 1 => rfl
  | _ + 2 => rfl

/-- Each rule's function is entered. -/
theorem rl_call (k : Nat) (h1 : 1 ≤ k) (h13 : k ≤ 13) (args : Array Value) (u : World) : (callFunc (rlT k).f args).run Tryz.prog u = .ok (.enter (rlT k).f args) u := by
  match k, h1, h13 with
  | 1, _, _ => exact Tryz.call88 args u
  | 2, _, _ => exact Tryz.call88 args u
  | 3, _, _ => exact Tryz.call89 args u
  | 4, _, _ => exact Tryz.call89 args u
  | 5, _, _ => exact Tryz.call90 args u
  | 6, _, _ => exact Tryz.call90 args u
  | 7, _, _ => exact Tryz.call91 args u
  | 8, _, _ => exact Tryz.call92 args u
  | 9, _, _ => exact Tryz.call93 args u
  | 10, _, _ => exact Tryz.call94 args u
  | 11, _, _ => exact Tryz.call96 args u
  | 12, _, _ => exact Tryz.call97 args u
  | 13, _, _ => exact Tryz.call98 args u

/-- What Shapes answers. -/
def ShAns (w : World) (ns : List Nd) (E : Int) (e : Ending) (w' : World) : Prop := ∃ R m kc gs, e = .returned (.tuple #[.slice R m kc, .int .i64 E]) ∧ Grd w' w.heap.size R m kc gs ∧ gs.map Sg.s = gphS ns ∧ Below w.heap.size w w'

set_option maxHeartbeats 8000000 in
theorem gshapes_any (A : Option Addr) (n c : Nat) (ns : List Nd) (w : World) (h : NsIn w A n ns) (hn : n ≤ 1073741824) (hc : n ≤ c) :
    Calls Tryz.prog 31 #[.agg #[.slice A n c]] w fun e w' => ShAns w ns (gphE ns) e w' := by
  obtain ⟨W0, hW0⟩ : ∃ W0, W0 = w.alloc (.cells #[.slice A n c] 24) := ⟨_, rfl⟩
  have HB0 : Hid (Below w.heap.size w W0) := hide (by rw [hW0]; exact below_al6 (Below.refl _ _))
  have HG : Hid (∀ v, Below W0.heap.size W0 v → v.cell? ⟨w.heap.size, 0, none⟩ = some (.slice A n c)) := hide (fun v hv => by
    have h : W0.heap[w.heap.size]? = some (.cells #[.slice A n c] 24 (0, 0)) := by rw [hW0]; exact heap_alloc_new w _
    exact cell_of_row _ _ 0 _ _ (0, 0) ((hv.block _ (lt_of_heap h)).trans h))
  have HN := hide (h.below HB0.out)
  have HL : Hid (ns.length = n) := hide h.1
  have HE := hide (hasEnds_any A n c ns W0 HN.out hn hc)
  obtain ⟨E, hE⟩ : ∃ z, z = gphE ns := ⟨_, rfl⟩
  rw [← hE]
  have HEE := hide hE
  have c0 := HG.out W0 (Below.refl _ _)
  have hW0' := hW0.symm
  clear hW0 h hE
  obtain ⟨i0, hi, hz0, hz1, hz2⟩ := info_parts infoS10
  have HI := hide hi
  have HZ0 := hide hz0
  have HZ1 := hide hz1
  have HZ2 := hide hz2
  clear hi hz0 hz1 hz2
  go_enter Tryz.func31, Tryz.ntmps31
  go_wp2_with fail
  refine Calls.mono HE.out ?_
  rintro e w1 ⟨rfl, hb⟩
  have HB1 := hide (below_nx6 (Below.refl _ _) hb)
  clear hb HE c0
  obtain ⟨B, hB⟩ : ∃ z, z = endsOk ns := ⟨_, rfl⟩
  rw [← hB]
  have HBE := hide hB
  clear hB
  cases B with
  | false =>
    have hb : gphB ns = false := by rw [gphB, ← HBE.out]; rfl
    obtain rfl : E = 1 := by rw [HEE.out, gphE, hb]; rfl
    have HF := hide (gphS_no hb)
    clear hb
    go_wp2
    go_ret2
    exact ⟨none, 0, 0, [], rfl, Grd.nil _ _, HF.out.symm, below_nx6 HB0.out HB1.out⟩
  | true =>
  have h32 : n ≤ 32 := by have h := (endsOk_parts HBE.out.symm).1; rw [HL.out] at h; exact h
  obtain ⟨V, hV⟩ : ∃ V, V = w1.alloc (.cells #[.slice none 0 0] 113) := ⟨_, rfl⟩
  obtain ⟨p, hp⟩ : ∃ p, p = w1.heap.size := ⟨_, rfl⟩
  have hBV : Below w.heap.size w V := by rw [hV]; exact below_al6 (below_nx6 HB0.out HB1.out)
  have hKV : V.heap[p]? = some (.cells #[.slice none 0 0] 113 (0, 0)) := by rw [hV, hp]; exact heap_alloc_new w1 _
  have HBV := hide hBV
  have HKV := hide hKV
  have HSV : Hid (V.heap.size = p + 1 ∧ w.heap.size ≤ p ∧ W0.heap.size ≤ p) := hide ⟨by rw [hV, hp]; simp, by rw [hp]; exact (below_nx6 HB0.out HB1.out).size, by rw [hp]; exact HB1.out.size⟩
  have HBV0 : Hid (Below W0.heap.size W0 V) := hide (by rw [hV]; exact below_al6 HB1.out)
  have hV' := hV.symm
  have hp' := hp.symm
  clear hV hBV hKV hp
  go_wp2_with fail
  refine Calls.mono (rules_any p _) ?_
  rintro e w2 ⟨b, rfl, hbz, hmb, hb⟩
  have HST : Hid (ShSt w p b (p + 1) ns 0 none 0 [] w2) := hide ⟨(hb.block p (by have := HSV.out; omega)).trans HKV.out, Grd.nil _ _, hmb, by rw [List.take_zero]; rfl, HBV.out.trans (hb.mono HBV.out.size), by have := HSV.out; have := hb.size; omega, by omega, HSV.out.2.1⟩
  have HB2 := hide (below_nx6 HBV0.out hb)
  have c0 := HG.out w2 HB2.out
  have HN2 := hide (HN.out.below HB2.out)
  clear hb hmb hbz HBV HKV HBV0 HB1
  go_wp2
  clear c0
  go_loopw [23] (fun i wr => ∃ (k : Nat) (A2 : Option Addr) (c2 : Nat) (gs : List Sg), k ≤ n ∧ i = .int .i64 k ∧ Hid (ShSt w p b (p + 1) ns k A2 c2 gs wr) ∧ Hid (Below W0.heap.size W0 wr)) (fun i _ => n - (intOf i).toNat)
  case atStart => exact ⟨0, none, 0, [], Nat.zero_le _, rfl, HST, HB2⟩
  case round =>
    obtain ⟨k, A2, c2, gs, hk, rfl, HST2, HBR⟩ := hrel
    by_cases hlt : k < n
    · obtain ⟨bA, oA, x, rfl, hxk, h0, h1, h2, h3, h4, hxo⟩ := (HN.out.below HBR.out).at hlt
      have HXK := hide hxk
      have HXO := hide hxo
      have HGL : Hid ((gs.map Sg.s).length = k) := hide (by rw [List.length_map, HST2.out.2.1.1])
      have f0 : (0 : Int) ≤ (k : Int) := by omega
      have f1 : (k : Int) < (n : Int) := by omega
      obtain ⟨W1, hW1⟩ : ∃ W1, W1 = wr.alloc (.cells #[.int .u8 x.kd, .slice x.I x.ni x.ci, .slice x.S x.ns x.cs, .int .i64 x.N, .int .i64 x.P] 44) := ⟨_, rfl⟩
      have hbw1 : Below wr.heap.size wr W1 := by rw [hW1]; exact below_al6 (Below.refl _ _)
      have HX1 : Hid (BoxN W1 wr.heap.size x) := hide (by rw [hW1]; exact BoxN.new wr x)
      have HS1 := hide (HST2.out.below hbw1)
      have HO1 := hide (HXO.out.below hbw1)
      have HBR1 := hide (below_nx6 HBR.out hbw1)
      obtain ⟨q0, q1, q2, q3, q4⟩ := HX1.out.cs
      have hW1' := hW1.symm
      clear hW1 hbw1 hxk hxo
      by_cases hkd : 1 ≤ x.kd ∧ x.kd ≤ 13
      · obtain ⟨kd, hkd'⟩ := Int.eq_ofNat_of_zero_le (show 0 ≤ x.kd by omega)
        have hk1 : 1 ≤ kd := by omega
        have hk13 : kd ≤ 13 := by omega
        have hlook := look_yes (p := p) HS1.out.2.2.1 hk1 hk13
        rw [← hkd'] at hlook
        unfold Rl.v at hlook
        obtain ⟨r, hr⟩ : ∃ r, r = rlT kd := ⟨_, rfl⟩
        rw [← hr] at hlook
        have HR := hide hr
        have HKD := hide hkd'
        have hst : ∀ (u : World) (a : Addr) (m : Mode), (store a (lv r.lk) m).run Tryz.prog u = stored Tryz.prog u a (lv r.lk) m := fun u a m => run_store Tryz.prog u a _ m (lv_one r.lk)
        obtain ⟨W2, hW2⟩ : ∃ W2, W2 = W1.alloc (.cells #[.int .i64 r.a, .int .i64 r.b, .int .i64 r.nl, .int .i64 r.nm, .int .i64 r.pl, .int .i64 r.pm, lv r.lk, .func (.func r.f) #[.pointer (some ⟨p, 0, none⟩)] #[]] 121) := ⟨_, rfl⟩
        have hbw2 : Below W1.heap.size W1 W2 := by rw [hW2]; exact below_al6 (Below.refl _ _)
        have HX2 := hide (HX1.out.kept hbw2)
        have HR2 : Hid (BoxR W2 W1.heap.size r p) := hide (by rw [hW2]; exact BoxR.new W1 r p)
        have HS2 := hide (HS1.out.below hbw2)
        have HO2 := hide (HO1.out.below hbw2)
        have HBR2 := hide (below_nx6 HBR1.out hbw2)
        obtain ⟨y0, y1, y2, y3, y4⟩ := HX2.out.cs
        obtain ⟨z0, z1, z2, z3, z4, z5, z6, z7⟩ := HR2.out.cs
        have hW2' := hW2.symm
        have HAL := hide (allows_any r p x W2 HO2.out)
        unfold Rl.v Nd.v at HAL
        obtain ⟨B1, hB1⟩ : ∃ z, z = alw r x := ⟨_, rfl⟩
        rw [← hB1] at HAL
        have HB1 := hide hB1
        clear hW2 hbw2 hr hkd' hB1 hkd
        go_wp2_with fail
        refine Calls.mono HAL.out ?_
        rintro e w3 ⟨rfl, hb⟩
        have HX3 := hide (HX2.out.kept hb)
        have HR3 := hide (HR2.out.kept hb)
        have HS3 := hide (HS2.out.below hb)
        have HO3 := hide (HO2.out.below hb)
        have HBR3 := hide (below_nx6 HBR2.out hb)
        clear hb HAL y0 y1 y2 y3 y4 z0 z1 z2 z3 z4 z5 z6 z7 q0 q1 q2 q3 q4 hlook hst
        obtain ⟨y0, y1, y2, y3, y4⟩ := HX3.out.cs
        obtain ⟨z0, z1, z2, z3, z4, z5, z6, z7⟩ := HR3.out.cs
        cases B1 with
        | false =>
          have hff := fitN_no (x := x) (ss := gs.map Sg.s) (fun h => by have h2 := h.2.1; rw [HKD.out, Int.toNat_natCast, ← HR.out, ← HB1.out] at h2; cases h2)
          obtain ⟨e1, e2⟩ := gph_stop HST2.out.2.2.2.1 HXK.out hff
          obtain rfl : E = 1 := by rw [HEE.out]; exact e1
          have HF := hide e2
          clear hff e1 e2
          go_wp2
          go_ret2
          exact ⟨none, 0, 0, [], rfl, Grd.nil _ _, HF.out.symm, HS3.out.2.2.2.2.1⟩
        | true =>
        have HHV := hide (have_any p A2 x.I k c2 x.ni x.ci gs x.xs w3 HS3.out.kn HO3.out.1 (by have := HO3.out.2.2.2.2.1; omega))
        obtain ⟨B2, hB2⟩ : ∃ z, z = allKn x.xs k := ⟨_, rfl⟩
        rw [← hB2] at HHV
        have HB2 := hide hB2
        clear hB2
        go_wp2_with fail
        refine Calls.mono HHV.out ?_
        rintro e w4 ⟨rfl, hb⟩
        have HX4 := hide (HX3.out.kept hb)
        have HR4 := hide (HR3.out.kept hb)
        have HS4 := hide (HS3.out.below hb)
        have HO4 := hide (HO3.out.below hb)
        have HBR4 := hide (below_nx6 HBR3.out hb)
        clear hb HHV y0 y1 y2 y3 y4 z0 z1 z2 z3 z4 z5 z6 z7
        obtain ⟨y0, y1, y2, y3, y4⟩ := HX4.out.cs
        obtain ⟨z0, z1, z2, z3, z4, z5, z6, z7⟩ := HR4.out.cs
        cases B2 with
        | false =>
          have hff := fitN_no (x := x) (ss := gs.map Sg.s) (fun h => by have h2 := h.2.2.1; rw [HGL.out, ← HB2.out] at h2; cases h2)
          obtain ⟨e1, e2⟩ := gph_stop HST2.out.2.2.2.1 HXK.out hff
          obtain rfl : E = 1 := by rw [HEE.out]; exact e1
          have HF := hide e2
          clear hff e1 e2
          go_wp2
          go_ret2
          exact ⟨none, 0, 0, [], rfl, Grd.nil _ _, HF.out.symm, HS4.out.2.2.2.2.1⟩
        | true =>
        have HKR := hide (krule_any kd p A2 k c2 gs x w4 hk1 hk13 HS4.out.kn HO4.out (by rw [← HR.out]; exact HB1.out.symm) HB2.out.symm HS4.out.pos)
        rw [← HR.out] at HKR
        unfold Nd.v at HKR
        obtain ⟨E2, hE2⟩ : ∃ z, z = nodeE x (kn gs x.xs) kd := ⟨_, rfl⟩
        rw [← hE2] at HKR
        have HE2 : Hid (E2 = nodeE x (knL (gs.map Sg.s) x.xs) x.kd.toNat) := hide (by rw [hE2, kn_map, HKD.out, Int.toNat_natCast])
        clear hE2
        have hcf := rl_call kd hk1 hk13
        rw [← HR.out] at hcf
        go_wp2_with fail
        refine Calls.mono HKR.out ?_
        rintro e w5 ⟨R5, m5, c5, rfl, ho5, hm5, hb⟩
        have HO5 := hide ho5
        have HS5 := hide (HS4.out.below hb)
        have HB5 := hide hb
        have HBR5 := hide (below_nx6 HBR4.out hb)
        clear hb HKR ho5 hcf y0 y1 y2 y3 y4 z0 z1 z2 z3 z4 z5 z6 z7
        by_cases hE0 : E2 = 0
        · subst hE0
          have HFT : Hid (fitN x (gs.map Sg.s) = true) := hide (fitN_mk (by have := HKD.out; omega) (by rw [HKD.out, Int.toNat_natCast, ← HR.out]; exact HB1.out.symm) (by rw [HGL.out]; exact HB2.out.symm) HE2.out.symm)
          have hshn : nodeS x (kn gs x.xs) kd = shN x (gs.map Sg.s) := by rw [shN, kn_map, HKD.out, Int.toNat_natCast]
          have HSH := hide hshn
          clear hshn
          have hsz5 : w4.heap.size ≤ w5.heap.size := HB5.out.size
          have hbs : p + 1 ≤ w5.heap.size := HS5.out.2.2.2.2.2.1
          have HSA : Hid (ShSt w p b (p + 1) ns k A2 c2 gs (w5.alloc (.cells #[.slice R5 m5 c5] 35))) := hide (HS5.out.below (below_al6 (Below.refl _ _)))
          have HX3 : Hid ((w5.alloc (.cells #[.slice R5 m5 c5] 35)).cell? ⟨w5.heap.size, 0, none⟩ = some (.slice R5 m5 c5)) := hide (by have h := cells_new w5 [.slice R5 m5 c5] 35 0 _ rfl; rwa [Addr.add_lit] at h)
          have HBA : Hid (Below w4.heap.size w4 (w5.alloc (.cells #[.slice R5 m5 c5] 35))) := hide (below_al6 HB5.out)
          obtain ⟨r0, r1⟩ := HS5.out.cell
          clear hsz5
          go_wp2_with (at_builtin; refine wpList_append_one rfl (.tmp 62) (.tmp 64) 73 rfl 35 i0 (.slice none 0 0) 24 Tryz.underlying73 HI.out HZ0.out HZ1.out HZ2.out rfl (p + 1) A2 k c2 (gs.map Sg.v) rfl HSA.out.2.1.2.1 HSA.out.2.2.2.2.2.1 ⟨w5.heap.size, 0, none⟩ (.slice R5 m5 c5) rfl HX3.out rfl (by omega) (by unfold maxLen; omega) ?_)
          intro A3 c3 w6 ho6 hm6
          obtain ⟨r2, r3⟩ := HSA.out.moved hm6
          have HNX : Hid (ShSt w p b (p + 1) ns (k + 1) A3 c3 (gs ++ [⟨R5, m5, c5, nodeS x (kn gs x.xs) kd⟩]) (w6.setCell ⟨p, 0, none⟩ (.slice A3 (k + 1) c3))) := hide (HS4.out.push (g := ⟨R5, m5, c5, nodeS x (kn gs x.xs) kd⟩) HBA.out (HO5.out.alloc _) hm5 ho6 hm6 HXK.out HFT.out HSH.out)
          have HBN : Hid (Below W0.heap.size W0 (w6.setCell ⟨p, 0, none⟩ (.slice A3 (k + 1) c3))) := hide ((below_moved (below_al6 HBR5.out) (below_al6 HBR5.out).size HSA.out.2.1.2.1 hm6 (by have := HSV.out; omega)).setCell (by have := HSV.out; dsimp only; omega) _)
          clear ho6 hm6 r0 r1 HX3 HBA HSA hbs
          go_wp2
          go_roundw
          case rel => exact ⟨k + 1, A3, c3, _, by omega, by go_num, HNX, HBN⟩
          case measure => simp [intOf] <;> omega
        · have hff := fitN_no (x := x) (ss := gs.map Sg.s) (fun h => by have h2 := h.2.2.2; rw [← HE2.out] at h2; exact hE0 h2)
          obtain ⟨e1, e2⟩ := gph_stop HST2.out.2.2.2.1 HXK.out hff
          obtain rfl : E = 1 := by rw [HEE.out]; exact e1
          have HF := hide e2
          have g1 : (E2 == 0) = false := by simpa using hE0
          clear hff e1 e2 hE0
          go_wp2
          go_ret2
          exact ⟨none, 0, 0, [], rfl, Grd.nil _ _, HF.out.symm, HS5.out.2.2.2.2.1⟩
      · have hlook := look_no (p := p) (k := x.kd) HS1.out.2.2.1 (by omega)
        unfold zeroR at hlook
        have hff := fitN_no (x := x) (ss := gs.map Sg.s) (fun h => hkd h.1)
        obtain ⟨e1, e2⟩ := gph_stop HST2.out.2.2.2.1 HXK.out hff
        obtain rfl : E = 1 := by rw [HEE.out]; exact e1
        have HF := hide e2
        clear hff e1 e2 hkd
        go_wp2
        go_ret2
        exact ⟨none, 0, 0, [], rfl, Grd.nil _ _, HF.out.symm, (HS1.out.below (below_al6 (Below.refl _ _))).2.2.2.2.1⟩
    · obtain rfl : k = n := by omega
      have f1 : ¬ ((k : Int) < (k : Int)) := by omega
      obtain ⟨r0, r1⟩ := HST2.out.cell
      have hall : ns.take k = ns := List.take_of_length_le (by rw [HL.out]; exact Nat.le_refl _)
      have hA := HST2.out.2.2.2.1
      rw [hall] at hA
      have hb := gphB_mk HBE.out.symm hA
      obtain rfl : E = 0 := by rw [HEE.out]; exact gphE_zero.2 hb
      have HF : Hid (gs.map Sg.s = gphS ns) := hide (by obtain ⟨_, ss, h1, h2⟩ := gphB_parts hb; rw [h2]; rw [hA] at h1; injection h1)
      clear hb hA hall
      go_wp2
      go_ret2
      exact ⟨A2, k, c2, gs, rfl, HST2.out.2.1.base (by have := HSV.out; omega), HF.out, HST2.out.2.2.2.2.1⟩

end

section
open Go.RowKit
set_option linter.unusedVariables false
set_option linter.unusedSimpArgs false
set_option maxRecDepth 100000

theorem ints_size (A : Option Addr) (n c : Nat) (w : World) : Calls Tryz.prog 81 #[.slice A n c] w fun e w' => e = .returned (.int .i64 (n : Int)) ∧ w = w' := by
  go_enter Tryz.func81, Tryz.ntmps81
  go_wp2
  go_ret
  exact ⟨rfl, rfl⟩

set_option maxHeartbeats 1000000 in
theorem node_size (x : Nd) (w : World) (h1 : x.ni ≤ 70368744177664) (h2 : x.ns ≤ 70368744177664) : Calls Tryz.prog 80 #[x.v] w fun e w' => ∃ r : Int, e = .returned (.int .i64 r) ∧ 0 ≤ r ∧ r ≤ 281474976710656 ∧ (r ≤ 1048576 → r = 1 + (x.ni : Int) + (x.ns : Int)) ∧ Below w.heap.size w w' := by
  unfold Nd.v
  obtain ⟨W0, hW0⟩ : ∃ W0, W0 = w.alloc (.cells #[.int .u8 x.kd, .slice x.I x.ni x.ci, .slice x.S x.ns x.cs, .int .i64 x.N, .int .i64 x.P] 44) := ⟨_, rfl⟩
  have HB0 : Hid (Below w.heap.size w W0) := hide (by rw [hW0]; exact below_al6 (Below.refl _ _))
  have HX : Hid (BoxN W0 w.heap.size x) := hide (by rw [hW0]; exact BoxN.new w x)
  have hW0' := hW0.symm
  clear hW0
  obtain ⟨c0, c1, c2, c3, c4⟩ := HX.out.cs
  go_enter Tryz.func80, Tryz.ntmps80
  go_wp2_with fail
  refine Calls.mono (ints_size _ _ _ _) ?_
  rintro e w1 ⟨rfl, rfl⟩
  by_cases hm : 1 + (x.ni : Int) ≤ 1048576
  · go_wp2_with fail
    refine Calls.mono (ints_size _ _ _ _) ?_
    rintro e w1 ⟨rfl, rfl⟩
    go_wp2
    go_ret
    exact ⟨_, rfl, by omega, by omega, fun _ => rfl, HB0.out⟩
  · go_wp2
    go_ret
    exact ⟨_, rfl, by omega, by omega, fun h => absurd h (by omega), HB0.out⟩

/-- How much nodes have in them. -/
def szN : List Nd → Nat
  | [] => 0
  | x :: r => x.ni + x.ns + 2 + szN r

theorem szN_len : ∀ ns : List Nd, 2 * ns.length ≤ szN ns
  | [] => Nat.le_refl _
  | x :: r => by have := szN_len r; rw [szN, List.length_cons]; omega

theorem szN_snoc : ∀ (ns : List Nd) (x : Nd), szN (ns ++ [x]) = szN ns + (x.ni + x.ns + 2)
  | [], x => by simp [szN]
  | y :: r, x => by rw [List.cons_append, szN, szN, szN_snoc r x]; omega

set_option maxHeartbeats 2000000 in
theorem nodes_size (A : Option Addr) (n c : Nat) (ns : List Nd) (w : World) (h : NsIn w A n ns) (hn : n ≤ 70368744177664) :
    Calls Tryz.prog 48 #[.slice A n c] w fun e w' => ∃ r : Int, e = .returned (.int .i64 r) ∧ 0 ≤ r ∧ r ≤ 1125899906842624 ∧ (r ≤ 1048576 → r = (szN ns : Int)) ∧ Below w.heap.size w w' := by
  have HN := hide h
  clear h
  go_enter Tryz.func48, Tryz.ntmps48
  go_wp2
  go_loopw [3, 4] (fun s i wr => ∃ (k : Nat) (a : Int), k ≤ n ∧ i = .int .i64 k ∧ s = .int .i64 a ∧ 0 ≤ a ∧ a ≤ 422212465065984 ∧ Hid (a ≤ 1048576 → a = (n : Int) - (k : Int) + (szN (ns.take k) : Int)) ∧ Hid (Below w.heap.size w wr)) (fun _ i _ => n - (intOf i).toNat)
  case atStart => exact ⟨0, (n : Int), Nat.zero_le _, rfl, rfl, by omega, by omega, hide (fun _ => by rw [List.take_zero, szN]; omega), hide (Below.refl _ _)⟩
  case round =>
    obtain ⟨k, a, hk, rfl, rfl, ha0, ha1, HA, HB⟩ := hrel
    by_cases hlt : k < n
    · have f1 : (k : Int) < (n : Int) := by omega
      by_cases hm : a ≤ 1048576
      · obtain ⟨b, o, x, rfl, hxk, h0, h1, h2, h3, h4, hxo⟩ := (HN.out.below HB.out).at hlt
        have HT : Hid (szN (ns.take (k + 1)) = szN (ns.take k) + (x.ni + x.ns + 2)) := hide (by rw [take_oneN hxk, szN_snoc])
        have f0 : (0 : Int) ≤ (k : Int) := by omega
        have HC := hide (fun v => node_size x v hxo.2.2.2.2.1 hxo.2.2.2.2.2.1)
        unfold Nd.v at HC
        clear hxk hxo
        go_wp2_with fail
        refine Calls.mono (HC.out _) ?_
        rintro e w1 ⟨r, rfl, hr0, hr1, hr2, hb⟩
        have HB1 := hide (below_nx6 HB.out hb)
        clear hb h0 h1 h2 h3 h4
        obtain ⟨a2, ha2⟩ : ∃ z : Int, z = a + r := ⟨_, rfl⟩
        have m1 : IntKind.i64.wrap (a + r) = a2 := by rw [IntKind.wrap_i64]; omega
        have HA2 : Hid (a2 ≤ 1048576 → a2 = (n : Int) - ((k + 1 : Nat) : Int) + (szN (ns.take (k + 1)) : Int)) := hide (fun h => by
          have h1 := HA.out hm
          have h2 := hr2 (by omega)
          rw [HT.out]
          omega)
        have hq : 0 ≤ a2 ∧ a2 ≤ 422212465065984 := by omega
        have HQ := hide hq
        clear hq ha2 hr0 hr1 hr2
        go_wp2
        go_roundw
        case rel => exact ⟨k + 1, a2, by omega, by go_num, rfl, HQ.out.1, HQ.out.2, HA2, HB1⟩
        case measure => simp [intOf] <;> omega
      · have hf : a ≤ 1125899906842624 ∧ (a ≤ 1048576 → a = (szN ns : Int)) := ⟨by omega, fun h => absurd h hm⟩
        have HF := hide hf
        clear hf
        go_wp2
        go_ret
        exact ⟨a, rfl, ha0, HF.out.1, HF.out.2, HB.out⟩
    · obtain rfl : k = n := by omega
      have hall : ns.take k = ns := List.take_of_length_le (by rw [HN.out.1]; exact Nat.le_refl _)
      have hf : a ≤ 1125899906842624 ∧ (a ≤ 1048576 → a = (szN ns : Int)) := ⟨by omega, fun h => by have h1 := HA.out h; rw [hall] at h1; omega⟩
      have HF := hide hf
      have f1 : ¬ ((k : Int) < (k : Int)) := by omega
      clear hf hall
      go_wp2
      go_ret
      exact ⟨a, rfl, ha0, HF.out.1, HF.out.2, HB.out⟩

end

section
open Go.RowKit
set_option linter.unusedVariables false
set_option linter.unusedSimpArgs false
set_option maxRecDepth 100000

set_option maxHeartbeats 1000000 in
theorem gcheck_any (A : Option Addr) (n c : Nat) (ns : List Nd) (w : World) (h : NsIn w A n ns) (hn : n ≤ 1073741824) (hc : n ≤ c) :
    Calls Tryz.prog 9 #[.agg #[.slice A n c]] w fun e w' => e = .returned (.bool (gphB ns)) ∧ Below w.heap.size w w' := by
  obtain ⟨W0, hW0⟩ : ∃ W0, W0 = w.alloc (.cells #[.slice A n c] 24) := ⟨_, rfl⟩
  have HB0 : Hid (Below w.heap.size w W0) := hide (by rw [hW0]; exact below_al6 (Below.refl _ _))
  have c0 : W0.cell? ⟨w.heap.size, 0, none⟩ = some (.slice A n c) := by rw [hW0]; exact cell_of_row _ _ 0 _ _ (0, 0) (heap_alloc_new w _)
  have HC := hide (gshapes_any A n c ns W0 (h.below HB0.out) hn hc)
  have hW0' := hW0.symm
  clear hW0 h
  have HE := hide (@gphE_zero ns)
  obtain ⟨E, hE⟩ : ∃ z, z = gphE ns := ⟨_, rfl⟩
  obtain ⟨B, hB⟩ : ∃ z, z = gphB ns := ⟨_, rfl⟩
  rw [← hE] at HC HE
  rw [← hB] at HE ⊢
  clear hE hB
  go_enter Tryz.func9, Tryz.ntmps9
  go_wp2_with fail
  refine Calls.mono HC.out ?_
  rintro e w1 ⟨R, m, kc, gs, rfl, _, _, hb⟩
  have HB := hide (below_nx6 HB0.out hb)
  clear hb c0 HC
  by_cases h0 : E = 0
  · obtain rfl : B = true := HE.out.1 h0
    subst h0
    go_wp2
    go_ret
    exact ⟨rfl, HB.out⟩
  · obtain rfl : B = false := by
      cases B with
      | false => rfl
      | true => exact absurd (HE.out.2 rfl) h0
    have e0 : (E == 0) = false := by simpa using h0
    clear h0
    go_wp2
    go_ret
    exact ⟨rfl, HB.out⟩

theorem sameI_any (A B : Option Addr) (n c m d : Nat) (xs ys : List Int) (w : World) (h : Lies w A n (xs.map (Value.int .i64))) (k : Lies w B m (ys.map (Value.int .i64))) (hm : n ≤ 281474976710656) :
    Calls Tryz.prog 12 #[.slice A n c, .slice B m d] w fun e w' => e = .returned (.bool (decide (xs = ys))) ∧ Below w.heap.size w w' :=
  Calls.mono (sameG_Ints A B n c m d xs ys w h k hm) (fun e w' h => ⟨h.1, by obtain ⟨j, rfl⟩ := h.2; exact below_drewN (Below.refl _ _) j⟩)

end

section
open Go.RowKit
set_option linter.unusedVariables false
set_option linter.unusedSimpArgs false
set_option maxRecDepth 100000

def md0 : Value := .agg #[.slice none 0 0, .slice none 0 0]

set_option maxHeartbeats 8000000 in
theorem get_short (A : Option Addr) (n c : Nat) (bs : List Int) (w : World) (h : Lies w A n (bs.map (Value.int .u8))) (hb : ByteL bs) (hn : n < 4) (hnc : n ≤ c) : Calls Tryz.prog 13 #[.slice A n c] w fun e w' => e = .returned (.tuple #[md0, .int .i64 5]) ∧ Below w.heap.size w w' := by
  have hz : max (0 : Int) ((n : Int) - 4) = 0 := by omega
  obtain ⟨W1, hW1⟩ : ∃ W, W = w.alloc (.cells #[.slice none 0 0, .slice none 0 0] 27) := ⟨_, rfl⟩
  have hB1 : Below w.heap.size w W1 := by rw [hW1]; exact (Below.refl _ _).alloc (Nat.le_refl _) _
  have HL := hide (h.below hB1)
  have hlt : (n : Int) - 4 < 0 := by omega
  have hW1' := hW1.symm
  have HB1 := hide hB1
  have HG1 : Hid (W1.heap[w.heap.size]? = some (.cells #[.slice none 0 0, .slice none 0 0] 27 (0, 0))) := hide (by rw [hW1]; exact heap_alloc_new w _)
  clear hW1 hB1 h
  go_enter Tryz.func13, Tryz.ntmps13
  have c4 := get4_short A n c W1 hn
  go_wp2_with (go_at_call 33; refine c4.mono ?_; rintro e w2 ⟨rfl, rfl⟩; have hb2 := Below.refl W1.heap.size W1; have HG2 := hide ((hb2.block w.heap.size (lt_of_heap HG1.out)).trans HG1.out); have HB2 := hide (HB1.out.trans (hb2.mono HB1.out.size)); have hq0 := cell_of_row _ _ 0 _ _ (0, 0) HG2.out; have hq1 := cell_of_row _ _ 1 _ _ (0, 0) HG2.out; have hf0 := frozen_of_row _ _ 0 _ _ HG2.out; have hf1 := frozen_of_row _ _ 1 _ _ HG2.out; simp only [List.getElem?_toArray, List.getElem?_cons_zero, List.getElem?_cons_succ] at hq0 hq1)
  have hs1 := heap_setCell_same _ w.heap.size 0 _ _ (.slice none 0 0) HG2.out
  have hs2 := heap_setCell_same _ w.heap.size 1 _ _ (.slice none 0 0) hs1
  have d0 := cell_of_row _ _ 0 _ _ (0, 0) hs2
  have d1 := cell_of_row _ _ 1 _ _ (0, 0) hs2
  have hbe := (HB2.out.trans (below_set1 w.heap.size _ 0 (.slice none 0 0))).trans (below_set1 w.heap.size _ 1 (.slice none 0 0))
  simp only [List.setIfInBounds_toArray, List.set_cons_zero, List.set_cons_succ, List.getElem?_toArray, List.getElem?_cons_zero, List.getElem?_cons_succ] at d0 d1
  refine ⟨rfl, .tuple #[md0, .int .i64 5], ?_, rfl, hbe⟩
  have hres : Tryz.f13.results = #[.cell 2 27, .tmp 3] := rfl
  simp [results, hres, go_sem, md0, d0, d1]

/-- What the bytes ahead of the sum are. -/
def bodyL (bs : List Int) : List Int := bs.take (bs.length - 4)

set_option maxHeartbeats 8000000 in
theorem get_sum (A : Option Addr) (n c : Nat) (bs : List Int) (w : World) (h : Lies w A n (bs.map (Value.int .u8))) (hb : ByteL bs) (hn : 4 ≤ n) (hn9 : n ≤ 1000000000) (hnc : n ≤ c) (hc : c ≤ 9223372036854775807) (hsum : head4 (bs.drop (n - 4)) ≠ ((sumOf (bs.take (n - 4)) : Nat) : Int)) : Calls Tryz.prog 13 #[.slice A n c] w fun e w' => e = .returned (.tuple #[md0, .int .i64 11]) ∧ Below w.heap.size w w' := by
  obtain ⟨b, o, rfl, hlt, _⟩ := h.cells (by omega)
  obtain ⟨m, hm⟩ : ∃ m, n = m + 4 := ⟨n - 4, by omega⟩
  subst hm
  simp only [Nat.add_sub_cancel] at hsum
  obtain ⟨W1, hW1⟩ : ∃ W, W = w.alloc (.cells #[.slice none 0 0, .slice none 0 0] 27) := ⟨_, rfl⟩
  have hB1 : Below w.heap.size w W1 := by rw [hW1]; exact (Below.refl _ _).alloc (Nat.le_refl _) _
  have hl1 := h.below hB1
  have hdr := hl1.drop (k := m) (cap := c) (by omega) hnc
  rw [if_neg (by omega)] at hdr
  simp only [Option.map_some, Addr.add, Nat.add_sub_cancel_left] at hdr
  have htk := hl1.take (k := m) (by omega)
  have hif : (if m = 0 then (⟨b, o, none⟩ : Addr) else ⟨b, o + m, none⟩) = ⟨b, o + m, none⟩ := by
    split
    · rename_i h0; rw [h0]; rfl
    · rfl
  rw [← List.map_drop] at hdr
  (try rw [hif] at hdr)
  rw [← List.map_take] at htk
  have hW1' := hW1.symm
  have HB1 := hide hB1
  have HG1 : Hid (W1.heap[w.heap.size]? = some (.cells #[.slice none 0 0, .slice none 0 0] 27 (0, 0))) := hide (by rw [hW1]; exact heap_alloc_new w _)
  have hbd : ByteL (bs.drop m) := fun z hz => hb z (List.mem_of_mem_drop hz)
  have hbt : ByteL (bs.take m) := fun z hz => hb z (List.mem_of_mem_take hz)
  have HC4 := hide (get4_long (some ⟨b, o + m, none⟩) 4 (c - m) (bs.drop m) W1 (by omega) hdr hbd)
  have HTK := hide htk
  obtain ⟨hd, hhd⟩ : ∃ hd, hd = head4 (bs.drop m) := ⟨_, rfl⟩
  obtain ⟨sm, hsm⟩ : ∃ sm : Int, sm = ((sumOf (bs.take m) : Nat) : Int) := ⟨_, rfl⟩
  rw [← hhd] at HC4 hsum
  rw [← hsm] at hsum
  have HSM := hide hsm
  have HBT := hide hbt
  have hne : (hd != sm) = true := by simpa using hsum
  have g0 : (0 : Int) ≤ ((m + 4 : Nat) : Int) - 4 := by omega
  have gmax : max (0 : Int) ((m : Int) + 4 - 4) = (m : Int) := by omega
  have gnc : ¬ c = m := by omega
  have hmc : m ≤ c := by omega
  clear hW1 hB1 h hl1 hdr htk hhd hsm hsum hbd hbt hb
  go_enter Tryz.func13, Tryz.ntmps13
  go_wp2_with (go_at_call 33; refine HC4.out.mono ?_; rintro e w2 ⟨rfl, k2, rfl⟩; have hd2 : Below W1.heap.size W1 (W1.drewN k2) := below_drewN (Below.refl _ _) k2; have HCS := hide (of_any (some ⟨b, o, none⟩) m c (bs.take m) (W1.drewN k2) (HTK.out.below hd2) HBT.out (by omega)))
  rw [← HSM.out] at HCS
  go_wp2_with (go_at_call 30; refine HCS.out.mono ?_; rintro e w3 ⟨rfl, hb3⟩; have hb23 := hd2.trans hb3; have HG2 := hide ((hb23.block w.heap.size (lt_of_heap HG1.out)).trans HG1.out); have HB2 := hide (HB1.out.trans (hb23.mono HB1.out.size)); have hq0 := cell_of_row _ _ 0 _ _ (0, 0) HG2.out; have hq1 := cell_of_row _ _ 1 _ _ (0, 0) HG2.out; have hf0 := frozen_of_row _ _ 0 _ _ HG2.out; have hf1 := frozen_of_row _ _ 1 _ _ HG2.out; simp only [List.getElem?_toArray, List.getElem?_cons_zero, List.getElem?_cons_succ] at hq0 hq1)
  have hs1 := heap_setCell_same _ w.heap.size 0 _ _ (.slice none 0 0) HG2.out
  have hs2 := heap_setCell_same _ w.heap.size 1 _ _ (.slice none 0 0) hs1
  have d0 := cell_of_row _ _ 0 _ _ (0, 0) hs2
  have d1 := cell_of_row _ _ 1 _ _ (0, 0) hs2
  have hbe := (HB2.out.trans (below_set1 w.heap.size _ 0 (.slice none 0 0))).trans (below_set1 w.heap.size _ 1 (.slice none 0 0))
  simp only [List.setIfInBounds_toArray, List.set_cons_zero, List.set_cons_succ, List.getElem?_toArray, List.getElem?_cons_zero, List.getElem?_cons_succ] at d0 d1
  refine ⟨rfl, .tuple #[md0, .int .i64 11], ?_, rfl, hbe⟩
  have hres : Tryz.f13.results = #[.cell 2 27, .tmp 3] := rfl
  simp [results, hres, go_sem, md0, d0, d1]

set_option maxHeartbeats 8000000 in
theorem get_form (A : Option Addr) (n c : Nat) (bs : List Int) (w : World) (h : Lies w A n (bs.map (Value.int .u8))) (hb : ByteL bs) (hn : 4 ≤ n) (hn9 : n ≤ 1000000000) (hnc : n ≤ c) (hc : c ≤ 9223372036854775807) (hsum : head4 (bs.drop (n - 4)) = ((sumOf (bs.take (n - 4)) : Nat) : Int)) (hsh : (tkGraph (bs.take (n - 4), false)).2.2 = true) : Calls Tryz.prog 13 #[.slice A n c] w fun e w' => e = .returned (.tuple #[md0, .int .i64 4]) ∧ Below w.heap.size w w' := by
  obtain ⟨b, o, rfl, hlt, _⟩ := h.cells (by omega)
  obtain ⟨m, hm⟩ : ∃ m, n = m + 4 := ⟨n - 4, by omega⟩
  subst hm
  simp only [Nat.add_sub_cancel] at hsum hsh
  obtain ⟨W1, hW1⟩ : ∃ W, W = w.alloc (.cells #[.slice none 0 0, .slice none 0 0] 27) := ⟨_, rfl⟩
  have hB1 : Below w.heap.size w W1 := by rw [hW1]; exact (Below.refl _ _).alloc (Nat.le_refl _) _
  have hl1 := h.below hB1
  have hdr := hl1.drop (k := m) (cap := c) (by omega) hnc
  rw [if_neg (by omega)] at hdr
  simp only [Option.map_some, Addr.add, Nat.add_sub_cancel_left] at hdr
  have htk := hl1.take (k := m) (by omega)
  have hif : (if m = 0 then (⟨b, o, none⟩ : Addr) else ⟨b, o + m, none⟩) = ⟨b, o + m, none⟩ := by
    split
    · rename_i h0; rw [h0]; rfl
    · rfl
  rw [← List.map_drop] at hdr
  (try rw [hif] at hdr)
  rw [← List.map_take] at htk
  have hW1' := hW1.symm
  have HB1 := hide hB1
  have HG1 : Hid (W1.heap[w.heap.size]? = some (.cells #[.slice none 0 0, .slice none 0 0] 27 (0, 0))) := hide (by rw [hW1]; exact heap_alloc_new w _)
  have hbd : ByteL (bs.drop m) := fun z hz => hb z (List.mem_of_mem_drop hz)
  have hbt : ByteL (bs.take m) := fun z hz => hb z (List.mem_of_mem_take hz)
  have HC4 := hide (get4_long (some ⟨b, o + m, none⟩) 4 (c - m) (bs.drop m) W1 (by omega) hdr hbd)
  have HTK := hide htk
  obtain ⟨hd, hhd⟩ : ∃ hd, hd = head4 (bs.drop m) := ⟨_, rfl⟩
  obtain ⟨sm, hsm⟩ : ∃ sm : Int, sm = ((sumOf (bs.take m) : Nat) : Int) := ⟨_, rfl⟩
  rw [← hhd] at HC4 hsum
  rw [← hsm] at hsum
  have HSM := hide hsm
  have HBT := hide hbt
  have hne : (hd != sm) = false := by simpa using hsum
  have g0 : (0 : Int) ≤ ((m + 4 : Nat) : Int) - 4 := by omega
  have gmax : max (0 : Int) ((m : Int) + 4 - 4) = (m : Int) := by omega
  have gnc : ¬ c = m := by omega
  have hmc : m ≤ c := by omega
  clear hW1 hB1 h hl1 hdr htk hhd hsm hsum hbd hbt hb
  go_enter Tryz.func13, Tryz.ntmps13
  go_wp2_with (go_at_call 33; refine HC4.out.mono ?_; rintro e w2 ⟨rfl, k2, rfl⟩; have hd2 : Below W1.heap.size W1 (W1.drewN k2) := below_drewN (Below.refl _ _) k2; have HCS := hide (of_any (some ⟨b, o, none⟩) m c (bs.take m) (W1.drewN k2) (HTK.out.below hd2) HBT.out (by omega)))
  rw [← HSM.out] at HCS
  go_wp2_with (go_at_call 30; refine HCS.out.mono ?_; rintro e w3 ⟨rfl, hb3⟩; have hb23 := hd2.trans hb3; have HTK3 := hide (HTK.out.below hb23); obtain ⟨W4, hW4⟩ : ∃ W, w3.alloc (.cells #[.slice (some ⟨b, o, none⟩) m c, .bool false] 81) = W := ⟨_, rfl⟩; have hb4 : Below w3.heap.size w3 W4 := (by rw [← hW4]; exact (Below.refl _ _).alloc (Nat.le_refl _) _); have hsc : ScAt W4 w3.heap.size (bs.take m, false) := ⟨some ⟨b, o, none⟩, m, c, (by rw [← hW4]; exact heap_alloc_new w3 _), HTK3.out.below hb4, hmc, hc, (by have := HTK3.out.len; rw [List.length_map] at this; exact this), (fun hm1 a ha => by injection ha with ha; subst ha; obtain ⟨b9, o9, e9, hlt9, _⟩ := HTK3.out.cells hm1; injection e9 with e9; injection e9 with e91 e92; subst e91 e92; exact hlt9), HBT.out⟩; have HSG := hide (sgraph_any w3.heap.size _ W4 hsc))
  have HSH := hide hsh
  have hw34 := hb4.size
  go_wp2_with (go_at_call 34; refine HSG.out.mono ?_; rintro e w5 ⟨ns, A5, c5, htn, rfl, hns, _, _, _, hsc5, hbu5⟩; obtain ⟨W6, hW6⟩ : ∃ W, w5.alloc (.cells #[.slice A5 ns.length c5] 24) = W := ⟨_, rfl⟩)
  have hb6 : Below w5.heap.size w5 W6 := by rw [← hW6]; exact (Below.refl _ _).alloc (Nat.le_refl _) _
  have hw3 : w.heap.size < w3.heap.size := Nat.lt_of_lt_of_le (lt_of_heap HG1.out) hb23.size
  have hb56 : Below w3.heap.size W4 w5 := hbu5.to (Nat.le_refl _) hw34
  have hW : Below w3.heap.size w3 W6 := hb4.trans (hb56.trans (hb6.mono (Nat.le_trans hw34 hbu5.size)))
  have HB2 := hide (HB1.out.trans ((hb23.mono HB1.out.size).trans (hW.mono (Nat.le_of_lt hw3))))
  have HG2 := hide ((hW.block w.heap.size hw3).trans ((hb23.block w.heap.size (lt_of_heap HG1.out)).trans HG1.out))
  have hq0 := cell_of_row _ _ 0 _ _ (0, 0) HG2.out
  have hq1 := cell_of_row _ _ 1 _ _ (0, 0) HG2.out
  have hf0 := frozen_of_row _ _ 0 _ _ HG2.out
  have hf1 := frozen_of_row _ _ 1 _ _ HG2.out
  simp only [List.getElem?_toArray, List.getElem?_cons_zero, List.getElem?_cons_succ] at hq0 hq1
  have hshc : W6.drew.cell? ⟨w3.heap.size, 1, none⟩ = some (.bool true) := by
    obtain ⟨A8, n8, c8, h8, _⟩ := (hsc5.below hb6).below (below_drewN (Below.refl _ _) 1)
    rw [HSH.out] at h8
    exact cell_of_row _ _ 1 _ _ (0, 0) h8
  clear hsc5 hbu5 hns htn hb6 hb56 hW
  go_wp2
  have hS0 : Hid (W6.drew.cell? ⟨w3.heap.size, 1, none⟩ = some (.bool true)) := hide (hshc)
  refine wp_region_U (fun _ v => v.cell? ⟨w3.heap.size, 1, none⟩ = some (.bool true)) 99 (by kernel_rfl) ?_
  refine wpAnyU_take (i := 0) (oi := { dst := some 37, op := _, type := _, pos := _, after := _, guard := none }) (v := .pointer (some ⟨w3.heap.size, 0, none⟩)) rfl (by kernel_rfl) (by kernel_rfl) (by kernel_rfl) (by kernel_rfl) (fun _ _ _ h => h) (yields_take rfl (fun w' hw => by have h1 := hw.const; go_simp)) hS0.out ?_
  simp only [Act.put, List.setIfInBounds_toArray, List.set_cons_zero, List.set_cons_succ]
  refine wpAnyU_take (i := 1) (oi := { dst := some 38, op := _, type := _, pos := _, after := _, guard := none }) (v := .pointer (some ⟨w3.heap.size, 0, none⟩)) rfl (by kernel_rfl) (by kernel_rfl) (by kernel_rfl) (by kernel_rfl) (fun _ _ _ h => h) (yields_take rfl (fun w' hw => by have h1 := hw.const; go_simp)) hS0.out ?_
  simp only [Act.put, List.setIfInBounds_toArray, List.set_cons_zero, List.set_cons_succ]
  refine wpAnyU_take (i := 2) (oi := { dst := some 39, op := _, type := _, pos := _, after := _, guard := none }) (v := .pointer (some ⟨w3.heap.size, 1, none⟩)) rfl (by kernel_rfl) (by kernel_rfl) (by kernel_rfl) (by kernel_rfl) (fun _ _ _ h => h) (yields_take rfl (fun w' hw => by have h1 := hw.const; go_simp)) hS0.out ?_
  simp only [Act.put, List.setIfInBounds_toArray, List.set_cons_zero, List.set_cons_succ]
  refine wpAnyU_take (i := 3) (oi := { dst := some 40, op := _, type := _, pos := _, after := _, guard := none }) (v := .bool true) rfl (by kernel_rfl) (by kernel_rfl) (by kernel_rfl) (by kernel_rfl) (fun _ _ _ h => h) (yields_take rfl (fun w' hw => by have h1 := hw.const; go_simp)) hS0.out ?_
  simp only [Act.put, List.setIfInBounds_toArray, List.set_cons_zero, List.set_cons_succ]
  refine wpAnyU_take (i := 4) (oi := { dst := some 41, op := _, type := _, pos := _, after := _, guard := none }) (v := .bool true) rfl (by kernel_rfl) (by kernel_rfl) (by kernel_rfl) (by kernel_rfl) (fun _ _ _ h => h) (yields_take rfl (fun w' hw => by have h1 := hw.const; go_simp)) hS0.out ?_
  simp only [Act.put, List.setIfInBounds_toArray, List.set_cons_zero, List.set_cons_succ]
  refine wpAnyU_take (i := 5) (oi := { dst := some 42, op := _, type := _, pos := _, after := _, guard := some (4, false) }) (v := undef) rfl (by kernel_rfl) (by kernel_rfl) (by kernel_rfl) (by kernel_rfl) (fun _ _ _ h => h) (.inr ⟨rfl, rfl⟩) hS0.out ?_
  simp only [Act.put, List.setIfInBounds_toArray, List.set_cons_zero, List.set_cons_succ]
  refine wpAnyU_take (i := 6) (oi := { dst := some 43, op := _, type := _, pos := _, after := _, guard := some (4, false) }) (v := undef) rfl (by kernel_rfl) (by kernel_rfl) (by kernel_rfl) (by kernel_rfl) (fun _ _ _ h => h) (.inr ⟨rfl, rfl⟩) hS0.out ?_
  simp only [Act.put, List.setIfInBounds_toArray, List.set_cons_zero, List.set_cons_succ]
  refine wpAnyU_take (i := 7) (oi := { dst := some 44, op := _, type := _, pos := _, after := _, guard := some (4, false) }) (v := undef) rfl (by kernel_rfl) (by kernel_rfl) (by kernel_rfl) (by kernel_rfl) (fun _ _ _ h => h) (.inr ⟨rfl, rfl⟩) hS0.out ?_
  simp only [Act.put, List.setIfInBounds_toArray, List.set_cons_zero, List.set_cons_succ]
  refine wpAnyU_take (i := 8) (oi := { dst := some 45, op := _, type := _, pos := _, after := _, guard := none }) (v := .bool true) rfl (by kernel_rfl) (by kernel_rfl) (by kernel_rfl) (by kernel_rfl) (fun _ _ _ h => h) (yields_take rfl (fun w' hw => by have h1 := hw.const; go_simp)) hS0.out ?_
  simp only [Act.put, List.setIfInBounds_toArray, List.set_cons_zero, List.set_cons_succ]
  refine wpAnyU_take (i := 9) (oi := { dst := some 46, op := _, type := _, pos := _, after := _, guard := none }) (v := .bool true) rfl (by kernel_rfl) (by kernel_rfl) (by kernel_rfl) (by kernel_rfl) (fun _ _ _ h => h) (yields_take rfl (fun w' hw => by have h1 := hw.const; go_simp)) hS0.out ?_
  simp only [Act.put, List.setIfInBounds_toArray, List.set_cons_zero, List.set_cons_succ]
  refine wpAnyU_take (i := 10) (oi := { dst := some 47, op := _, type := _, pos := _, after := _, guard := some (9, false) }) (v := undef) rfl (by kernel_rfl) (by kernel_rfl) (by kernel_rfl) (by kernel_rfl) (fun _ _ _ h => h) (.inr ⟨rfl, rfl⟩) hS0.out ?_
  simp only [Act.put, List.setIfInBounds_toArray, List.set_cons_zero, List.set_cons_succ]
  refine wpAnyU_take (i := 11) (oi := { dst := some 48, op := _, type := _, pos := _, after := _, guard := some (9, false) }) (v := undef) rfl (by kernel_rfl) (by kernel_rfl) (by kernel_rfl) (by kernel_rfl) (fun _ _ _ h => h) (.inr ⟨rfl, rfl⟩) hS0.out ?_
  simp only [Act.put, List.setIfInBounds_toArray, List.set_cons_zero, List.set_cons_succ]
  refine wpAnyU_take (i := 12) (oi := { dst := some 49, op := _, type := _, pos := _, after := _, guard := some (9, false) }) (v := undef) rfl (by kernel_rfl) (by kernel_rfl) (by kernel_rfl) (by kernel_rfl) (fun _ _ _ h => h) (.inr ⟨rfl, rfl⟩) hS0.out ?_
  simp only [Act.put, List.setIfInBounds_toArray, List.set_cons_zero, List.set_cons_succ]
  refine wpAnyU_take (i := 13) (oi := { dst := some 50, op := _, type := _, pos := _, after := _, guard := some (9, false) }) (v := undef) rfl (by kernel_rfl) (by kernel_rfl) (by kernel_rfl) (by kernel_rfl) (fun _ _ _ h => h) (.inr ⟨rfl, rfl⟩) hS0.out ?_
  simp only [Act.put, List.setIfInBounds_toArray, List.set_cons_zero, List.set_cons_succ]
  refine wpAnyU_take (i := 14) (oi := { dst := some 51, op := _, type := _, pos := _, after := _, guard := some (9, false) }) (v := undef) rfl (by kernel_rfl) (by kernel_rfl) (by kernel_rfl) (by kernel_rfl) (fun _ _ _ h => h) (.inr ⟨rfl, rfl⟩) hS0.out ?_
  simp only [Act.put, List.setIfInBounds_toArray, List.set_cons_zero, List.set_cons_succ]
  refine wpAnyU_take (i := 15) (oi := { dst := some 52, op := _, type := _, pos := _, after := _, guard := some (9, false) }) (v := undef) rfl (by kernel_rfl) (by kernel_rfl) (by kernel_rfl) (by kernel_rfl) (fun _ _ _ h => h) (.inr ⟨rfl, rfl⟩) hS0.out ?_
  simp only [Act.put, List.setIfInBounds_toArray, List.set_cons_zero, List.set_cons_succ]
  refine wpAnyU_take (i := 16) (oi := { dst := some 53, op := _, type := _, pos := _, after := _, guard := some (9, false) }) (v := undef) rfl (by kernel_rfl) (by kernel_rfl) (by kernel_rfl) (by kernel_rfl) (fun _ _ _ h => h) (.inr ⟨rfl, rfl⟩) hS0.out ?_
  simp only [Act.put, List.setIfInBounds_toArray, List.set_cons_zero, List.set_cons_succ]
  refine wpAnyU_take (i := 17) (oi := { dst := some 54, op := _, type := _, pos := _, after := _, guard := some (9, false) }) (v := undef) rfl (by kernel_rfl) (by kernel_rfl) (by kernel_rfl) (by kernel_rfl) (fun _ _ _ h => h) (.inr ⟨rfl, rfl⟩) hS0.out ?_
  simp only [Act.put, List.setIfInBounds_toArray, List.set_cons_zero, List.set_cons_succ]
  refine wpAnyU_take (i := 18) (oi := { dst := some 55, op := _, type := _, pos := _, after := _, guard := some (9, false) }) (v := undef) rfl (by kernel_rfl) (by kernel_rfl) (by kernel_rfl) (by kernel_rfl) (fun _ _ _ h => h) (.inr ⟨rfl, rfl⟩) hS0.out ?_
  simp only [Act.put, List.setIfInBounds_toArray, List.set_cons_zero, List.set_cons_succ]
  refine wpAnyU_take (i := 19) (oi := { dst := some 56, op := _, type := _, pos := _, after := _, guard := none }) (v := .bool true) rfl (by kernel_rfl) (by kernel_rfl) (by kernel_rfl) (by kernel_rfl) (fun _ _ _ h => h) (yields_take rfl (fun w' hw => by have h1 := hw.const; go_simp)) hS0.out ?_
  simp only [Act.put, List.setIfInBounds_toArray, List.set_cons_zero, List.set_cons_succ]
  refine wpAnyU_done (by kernel_rfl) ?_ _
  clear hS0
  go_wp2
  have hs1 := heap_setCell_same _ w.heap.size 0 _ _ (.slice none 0 0) HG2.out
  have hs2 := heap_setCell_same _ w.heap.size 1 _ _ (.slice none 0 0) hs1
  have d0 := cell_of_row _ _ 0 _ _ (0, 0) hs2
  have d1 := cell_of_row _ _ 1 _ _ (0, 0) hs2
  have hbe := (HB2.out.trans (below_set1 w.heap.size _ 0 (.slice none 0 0))).trans (below_set1 w.heap.size _ 1 (.slice none 0 0))
  have hbe2 := below_drewN hbe 1
  simp only [List.setIfInBounds_toArray, List.set_cons_zero, List.set_cons_succ, List.getElem?_toArray, List.getElem?_cons_zero, List.getElem?_cons_succ] at d0 d1
  refine ⟨rfl, .tuple #[md0, .int .i64 4], ?_, rfl, hbe2⟩
  have hres : Tryz.f13.results = #[.cell 2 27, .tmp 3] := rfl
  simp [results, hres, go_sem, md0, d0, d1]

end

end Go.Proofs.YtohndckbhjakfaaGreatDoor

