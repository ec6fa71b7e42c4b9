/- Merged: Mo5, Gr13, Help10, Help11. -/
import Derived.Test.YtohndckbhjakfaaGreatDoorWZ31
import Derived.Test.YtohndckbhjakfaaGreatDoorWZ27
import Derived.Outline
import Derived.Laws.EntriesVeiled
import Derived.Test.YtohndckbhjakfaaGreatDoorWZ14
import Derived.Test.YtohndckbhjakfaaGreatDoorWZ03
import Derived.Test.YtohndckbhjakfaaGreatDoorWZ09
namespace Go.Proofs.YtohndckbhjakfaaGreatDoor

section
open Go.RowKit
set_option linter.unusedVariables false
set_option linter.unusedSimpArgs false
set_option maxRecDepth 100000

/-- A plain node as a node that lies nowhere. -/
def tnN (t : Tn) : Nd := ⟨(t.kd : Int), none, 0, 0, none, 0, 0, t.N, t.P, t.xs, t.sh⟩

theorem tnN_pl {x : Nd} (h : 0 ≤ x.kd) : tnN x.tn = pl x := by
  unfold tnN Nd.tn pl
  have : ((x.kd.toNat : Nat) : Int) = x.kd := by omega
  rw [this]

theorem tnN_all : ∀ {ns : List Nd}, (∀ x ∈ ns, 0 ≤ x.kd) → (ns.map Nd.tn).map tnN = ns.map pl
  | [], _ => rfl
  | x :: r, h => by
    rw [List.map_cons, List.map_cons, List.map_cons, tnN_pl (h x (List.mem_cons_self ..)), tnN_all (fun y hy => h y (List.mem_cons_of_mem _ hy))]

theorem shOf_pl (ns : List Nd) (i : Int) : shOf (ns.map pl) i = shOf ns i := by
  unfold shOf
  rw [List.getElem?_map]
  cases ns[i.toNat]? <;> rfl

theorem szW_pl (ns : List Nd) : ∀ is : List Int, szW (ns.map pl) is = szW ns is
  | [] => rfl
  | i :: is => by rw [szW, szW, shOf_pl, szW_pl ns is]

/-- The plain nodes that stand in bytes ahead of their sum, and what is left. -/
def tkN (bs : List Int) : List Tn := (tkGraph (bs.take (bs.length - 4), false)).1

def tkR (bs : List Int) : List Int := (tkGraph (bs.take (bs.length - 4), false)).2.1

def tkS (bs : List Int) : Bool := (tkGraph (bs.take (bs.length - 4), false)).2.2

/-- Which bytes are a model's. -/
def getB (bs : List Int) : Bool := decide (4 ≤ bs.length) && decide (head4 (bs.drop (bs.length - 4)) = ((sumOf (bs.take (bs.length - 4)) : Nat) : Int)) && !(tkS bs) && gphB ((tkN bs).map tnN) && decide ((tkR bs).length = 4 * szW ((tkN bs).map tnN) (wtF 0 ((tkN bs).map tnN)))

theorem getB_parts {bs : List Int} : getB bs = true ↔ 4 ≤ bs.length ∧ head4 (bs.drop (bs.length - 4)) = ((sumOf (bs.take (bs.length - 4)) : Nat) : Int) ∧ tkS bs = false ∧ gphB ((tkN bs).map tnN) = true ∧ (tkR bs).length = 4 * szW ((tkN bs).map tnN) (wtF 0 ((tkN bs).map tnN)) := by
  simp only [getB, Bool.and_eq_true, decide_eq_true_eq, Bool.not_eq_true']
  constructor
  · rintro ⟨⟨⟨⟨h1, h2⟩, h3⟩, h4⟩, h5⟩
    exact ⟨h1, h2, h3, h4, h5⟩
  · rintro ⟨h1, h2, h3, h4, h5⟩
    exact ⟨⟨⟨⟨h1, h2⟩, h3⟩, h4⟩, h5⟩

theorem mdP_body (ns : List Nd) (ts : List Wt) : (mdP ns ts).length = (mdI ns ts).length + 4 ∧ (mdP ns ts).take ((mdP ns ts).length - 4) = mdI ns ts ∧ (mdP ns ts).drop ((mdP ns ts).length - 4) = four ((sumOf (mdI ns ts) : Nat) : Int) := by
  have hl : (mdP ns ts).length = (mdI ns ts).length + 4 := by rw [mdP, List.length_append, four_len]
  refine ⟨hl, ?_, ?_⟩
  · rw [hl, Nat.add_sub_cancel, mdP]
    exact List.take_left' rfl
  · rw [hl, Nat.add_sub_cancel, mdP]
    exact List.drop_left' rfl

/-- What is put is got. -/
theorem getB_put {ns : List Nd} {ts : List Wt} (h : mdB ns ts = true) (hk : ∀ x ∈ ns, 0 ≤ x.kd) (hl : ∀ t ∈ ts, t.l.length = t.m) : getB (mdP ns ts) = true ∧ tkN (mdP ns ts) = ns.map Nd.tn ∧ tkR (mdP ns ts) = wsI ts := by
  obtain ⟨h1, h2⟩ := mdB_parts.1 h
  obtain ⟨b1, b2, b3⟩ := mdP_body ns ts
  have htk : tkGraph ((mdP ns ts).take ((mdP ns ts).length - 4), false) = (ns.map Nd.tn, (wsI ts, false)) := by rw [b2, mdI, tkGraph_app]
  have e1 : tkN (mdP ns ts) = ns.map Nd.tn := by rw [tkN, htk]
  have e2 : tkR (mdP ns ts) = wsI ts := by rw [tkR, htk]
  have e3 : tkS (mdP ns ts) = false := by rw [tkS, htk]
  refine ⟨?_, e1, e2⟩
  rw [getB_parts]
  have hs := sumOf_lt (mdI_bytes (ts := ts) h1)
  refine ⟨by omega, ?_, e3, ?_, ?_⟩
  · rw [b2, b3]
    have := head4_four ((sumOf (mdI ns ts) : Nat) : Int) [] (by omega) (by omega)
    rwa [List.append_nil] at this
  · rw [e1, tnN_all hk, (gph_pl ns).1]
    exact h1
  · rw [e1, e2, tnN_all hk, szW_pl, wtF_pl]
    exact wsI_len h2 hl

/-- Bytes that are a model's are what is put of it. -/
theorem put_getB {bs : List Int} {ns : List Nd} {ts : List Wt} (hb : ByteL bs) (h : getB bs = true) (hn : ns.map Nd.tn = tkN bs) (hk : ∀ x ∈ ns, 0 ≤ x.kd) (hw : wsI ts = tkR bs) (hf : wsFit ns (wtF 0 ns) ts = true) : mdB ns ts = true ∧ mdP ns ts = bs := by
  obtain ⟨h1, h2, h3, h4, h5⟩ := getB_parts.1 h
  have hbt : ByteL (bs.take (bs.length - 4)) := fun z hz => hb z (List.mem_of_mem_take hz)
  obtain ⟨s1, s2, s3⟩ := tkGraph_short (bs.take (bs.length - 4)) hbt h3
  have hI : mdI ns ts = bs.take (bs.length - 4) := by rw [mdI, hn, hw]; exact s1.symm
  refine ⟨?_, ?_⟩
  · rw [mdB_parts]
    refine ⟨?_, hf⟩
    rw [← hn, tnN_all hk, (gph_pl ns).1] at h4
    exact h4
  · rw [mdP, hI, ← h2]
    have hd4 : (bs.drop (bs.length - 4)).length = 4 := by rw [List.length_drop]; omega
    obtain ⟨a, b, c, d, e⟩ : ∃ a b c d, bs.drop (bs.length - 4) = [a, b, c, d] := by
      match hq : bs.drop (bs.length - 4), hd4 with
      | [a, b, c, d], _ => exact ⟨a, b, c, d, rfl⟩
    have hbd : ∀ z ∈ [a, b, c, d], 0 ≤ z ∧ z < 256 := fun z hz => hb z (List.mem_of_mem_drop (e ▸ hz))
    have e4 : four (head4 [a, b, c, d]) = [a, b, c, d] := by
      have ha := hbd a (by simp)
      have hb' := hbd b (by simp)
      have hc := hbd c (by simp)
      have hd := hbd d (by simp)
      simp only [head4, four, word, List.getD_cons_zero, List.getD_cons_succ, List.cons.injEq, and_true]
      omega
    rw [e, e4, ← e, List.take_append_drop]

end

section
open Go.RowKit
set_option linter.unusedVariables false
set_option linter.unusedSimpArgs false
set_option maxRecDepth 100000

theorem lv_one : ∀ k : Nat, (lv k).oneCell' = true
  | 0 => rfl
  | 1 => rfl
  | _ + 2 => rfl

/-- Each rule's function is entered. -/
theorem rl_call (k : Nat) (h1 : 1 ≤ k) (h13 : k ≤ 13) (args : Array Value) (u : World) : (callFunc (rlT k).f args).run Tryz.prog u = .ok (.enter (rlT k).f args) u := by
  match k, h1, h13 with
  | 1, _, _ => exact Tryz.call88 args u
  | 2, _, _ => exact Tryz.call88 args u
  | 3, _, _ => exact Tryz.call89 args u
  | 4, _, _ => exact Tryz.call89 args u
  | 5, _, _ => exact Tryz.call90 args u
  | 6, _, _ => exact Tryz.call90 args u
  | 7, _, _ => exact Tryz.call91 args u
  | 8, _, _ => exact Tryz.call92 args u
  | 9, _, _ => exact Tryz.call93 args u
  | 10, _, _ => exact Tryz.call94 args u
  | 11, _, _ => exact Tryz.call96 args u
  | 12, _, _ => exact Tryz.call97 args u
  | 13, _, _ => exact Tryz.call98 args u

/-- What Shapes answers. -/
def ShAns (w : World) (ns : List Nd) (E : Int) (e : Ending) (w' : World) : Prop := ∃ R m kc gs, e = .returned (.tuple #[.slice R m kc, .int .i64 E]) ∧ Grd w' w.heap.size R m kc gs ∧ gs.map Sg.s = gphS ns ∧ Below w.heap.size w w'

set_option maxHeartbeats 8000000 in
theorem gshapes_any (A : Option Addr) (n c : Nat) (ns : List Nd) (w : World) (h : NsIn w A n ns) (hn : n ≤ 1073741824) (hc : n ≤ c) :
    Calls Tryz.prog 31 #[.agg #[.slice A n c]] w fun e w' => ShAns w ns (gphE ns) e w' := by
  obtain ⟨W0, hW0⟩ : ∃ W0, W0 = w.alloc (.cells #[.slice A n c] 24) := ⟨_, rfl⟩
  have HB0 : Hid (Below w.heap.size w W0) := hide (by rw [hW0]; exact below_al6 (Below.refl _ _))
  have HG : Hid (∀ v, Below W0.heap.size W0 v → v.cell? ⟨w.heap.size, 0, none⟩ = some (.slice A n c)) := hide (fun v hv => by
    have h : W0.heap[w.heap.size]? = some (.cells #[.slice A n c] 24 (0, 0)) := by rw [hW0]; exact heap_alloc_new w _
    exact cell_of_row _ _ 0 _ _ (0, 0) ((hv.block _ (lt_of_heap h)).trans h))
  have HN := hide (h.below HB0.out)
  have HL : Hid (ns.length = n) := hide h.1
  have HE := hide (hasEnds_any A n c ns W0 HN.out hn hc)
  obtain ⟨E, hE⟩ : ∃ z, z = gphE ns := ⟨_, rfl⟩
  rw [← hE]
  have HEE := hide hE
  have c0 := HG.out W0 (Below.refl _ _)
  have hW0' := hW0.symm
  clear hW0 h hE
  obtain ⟨i0, hi, hz0, hz1, hz2⟩ := info_parts infoS10
  have HI := hide hi
  have HZ0 := hide hz0
  have HZ1 := hide hz1
  have HZ2 := hide hz2
  clear hi hz0 hz1 hz2
  go_enter Tryz.func31, Tryz.ntmps31
  go_wp2_with fail
  refine Calls.mono HE.out ?_
  rintro e w1 ⟨rfl, hb⟩
  have HB1 := hide (below_nx6 (Below.refl _ _) hb)
  clear hb HE c0
  obtain ⟨B, hB⟩ : ∃ z, z = endsOk ns := ⟨_, rfl⟩
  rw [← hB]
  have HBE := hide hB
  clear hB
  cases B with
  | false =>
    have hb : gphB ns = false := by rw [gphB, ← HBE.out]; rfl
    obtain rfl : E = 1 := by rw [HEE.out, gphE, hb]; rfl
    have HF := hide (gphS_no hb)
    clear hb
    go_wp2
    go_ret2
    exact ⟨none, 0, 0, [], rfl, Grd.nil _ _, HF.out.symm, below_nx6 HB0.out HB1.out⟩
  | true =>
  have h32 : n ≤ 32 := by have h := (endsOk_parts HBE.out.symm).1; rw [HL.out] at h; exact h
  obtain ⟨V, hV⟩ : ∃ V, V = w1.alloc (.cells #[.slice none 0 0] 113) := ⟨_, rfl⟩
  obtain ⟨p, hp⟩ : ∃ p, p = w1.heap.size := ⟨_, rfl⟩
  have hBV : Below w.heap.size w V := by rw [hV]; exact below_al6 (below_nx6 HB0.out HB1.out)
  have hKV : V.heap[p]? = some (.cells #[.slice none 0 0] 113 (0, 0)) := by rw [hV, hp]; exact heap_alloc_new w1 _
  have HBV := hide hBV
  have HKV := hide hKV
  have HSV : Hid (V.heap.size = p + 1 ∧ w.heap.size ≤ p ∧ W0.heap.size ≤ p) := hide ⟨by rw [hV, hp]; simp, by rw [hp]; exact (below_nx6 HB0.out HB1.out).size, by rw [hp]; exact HB1.out.size⟩
  have HBV0 : Hid (Below W0.heap.size W0 V) := hide (by rw [hV]; exact below_al6 HB1.out)
  have hV' := hV.symm
  have hp' := hp.symm
  clear hV hBV hKV hp
  go_wp2_with fail
  refine Calls.mono (rules_any p _) ?_
  rintro e w2 ⟨b, rfl, hbz, hmb, hb⟩
  have HST : Hid (ShSt w p b (p + 1) ns 0 none 0 [] w2) := hide ⟨(hb.block p (by have := HSV.out; omega)).trans HKV.out, Grd.nil _ _, hmb, by rw [List.take_zero]; rfl, HBV.out.trans (hb.mono HBV.out.size), by have := HSV.out; have := hb.size; omega, by omega, HSV.out.2.1⟩
  have HB2 := hide (below_nx6 HBV0.out hb)
  have c0 := HG.out w2 HB2.out
  have HN2 := hide (HN.out.below HB2.out)
  clear hb hmb hbz HBV HKV HBV0 HB1
  go_wp2
  clear c0
  go_loopw [23] (fun i wr => ∃ (k : Nat) (A2 : Option Addr) (c2 : Nat) (gs : List Sg), k ≤ n ∧ i = .int .i64 k ∧ Hid (ShSt w p b (p + 1) ns k A2 c2 gs wr) ∧ Hid (Below W0.heap.size W0 wr)) (fun i _ => n - (intOf i).toNat)
  case atStart => exact ⟨0, none, 0, [], Nat.zero_le _, rfl, HST, HB2⟩
  case round =>
    obtain ⟨k, A2, c2, gs, hk, rfl, HST2, HBR⟩ := hrel
    by_cases hlt : k < n
    · obtain ⟨bA, oA, x, rfl, hxk, h0, h1, h2, h3, h4, hxo⟩ := (HN.out.below HBR.out).at hlt
      have HXK := hide hxk
      have HXO := hide hxo
      have HGL : Hid ((gs.map Sg.s).length = k) := hide (by rw [List.length_map, HST2.out.2.1.1])
      have f0 : (0 : Int) ≤ (k : Int) := by omega
      have f1 : (k : Int) < (n : Int) := by omega
      obtain ⟨W1, hW1⟩ : ∃ W1, W1 = wr.alloc (.cells #[.int .u8 x.kd, .slice x.I x.ni x.ci, .slice x.S x.ns x.cs, .int .i64 x.N, .int .i64 x.P] 44) := ⟨_, rfl⟩
      have hbw1 : Below wr.heap.size wr W1 := by rw [hW1]; exact below_al6 (Below.refl _ _)
      have HX1 : Hid (BoxN W1 wr.heap.size x) := hide (by rw [hW1]; exact BoxN.new wr x)
      have HS1 := hide (HST2.out.below hbw1)
      have HO1 := hide (HXO.out.below hbw1)
      have HBR1 := hide (below_nx6 HBR.out hbw1)
      obtain ⟨q0, q1, q2, q3, q4⟩ := HX1.out.cs
      have hW1' := hW1.symm
      clear hW1 hbw1 hxk hxo
      by_cases hkd : 1 ≤ x.kd ∧ x.kd ≤ 13
      · obtain ⟨kd, hkd'⟩ := Int.eq_ofNat_of_zero_le (show 0 ≤ x.kd by omega)
        have hk1 : 1 ≤ kd := by omega
        have hk13 : kd ≤ 13 := by omega
        have hlook := look_yes (p := p) HS1.out.2.2.1 hk1 hk13
        rw [← hkd'] at hlook
        unfold Rl.v at hlook
        obtain ⟨r, hr⟩ : ∃ r, r = rlT kd := ⟨_, rfl⟩
        rw [← hr] at hlook
        have HR := hide hr
        have HKD := hide hkd'
        have hst : ∀ (u : World) (a : Addr) (m : Mode), (store a (lv r.lk) m).run Tryz.prog u = stored Tryz.prog u a (lv r.lk) m := fun u a m => run_store Tryz.prog u a _ m (lv_one r.lk)
        obtain ⟨W2, hW2⟩ : ∃ W2, W2 = W1.alloc (.cells #[.int .i64 r.a, .int .i64 r.b, .int .i64 r.nl, .int .i64 r.nm, .int .i64 r.pl, .int .i64 r.pm, lv r.lk, .func (.func r.f) #[.pointer (some ⟨p, 0, none⟩)] #[]] 121) := ⟨_, rfl⟩
        have hbw2 : Below W1.heap.size W1 W2 := by rw [hW2]; exact below_al6 (Below.refl _ _)
        have HX2 := hide (HX1.out.kept hbw2)
        have HR2 : Hid (BoxR W2 W1.heap.size r p) := hide (by rw [hW2]; exact BoxR.new W1 r p)
        have HS2 := hide (HS1.out.below hbw2)
        have HO2 := hide (HO1.out.below hbw2)
        have HBR2 := hide (below_nx6 HBR1.out hbw2)
        obtain ⟨y0, y1, y2, y3, y4⟩ := HX2.out.cs
        obtain ⟨z0, z1, z2, z3, z4, z5, z6, z7⟩ := HR2.out.cs
        have hW2' := hW2.symm
        have HAL := hide (allows_any r p x W2 HO2.out)
        unfold Rl.v Nd.v at HAL
        obtain ⟨B1, hB1⟩ : ∃ z, z = alw r x := ⟨_, rfl⟩
        rw [← hB1] at HAL
        have HB1 := hide hB1
        clear hW2 hbw2 hr hkd' hB1 hkd
        go_wp2_with fail
        refine Calls.mono HAL.out ?_
        rintro e w3 ⟨rfl, hb⟩
        have HX3 := hide (HX2.out.kept hb)
        have HR3 := hide (HR2.out.kept hb)
        have HS3 := hide (HS2.out.below hb)
        have HO3 := hide (HO2.out.below hb)
        have HBR3 := hide (below_nx6 HBR2.out hb)
        clear hb HAL y0 y1 y2 y3 y4 z0 z1 z2 z3 z4 z5 z6 z7 q0 q1 q2 q3 q4 hlook hst
        obtain ⟨y0, y1, y2, y3, y4⟩ := HX3.out.cs
        obtain ⟨z0, z1, z2, z3, z4, z5, z6, z7⟩ := HR3.out.cs
        cases B1 with
        | false =>
          have hff := fitN_no (x := x) (ss := gs.map Sg.s) (fun h => by have h2 := h.2.1; rw [HKD.out, Int.toNat_natCast, ← HR.out, ← HB1.out] at h2; cases h2)
          obtain ⟨e1, e2⟩ := gph_stop HST2.out.2.2.2.1 HXK.out hff
          obtain rfl : E = 1 := by rw [HEE.out]; exact e1
          have HF := hide e2
          clear hff e1 e2
          go_wp2
          go_ret2
          exact ⟨none, 0, 0, [], rfl, Grd.nil _ _, HF.out.symm, HS3.out.2.2.2.2.1⟩
        | true =>
        have HHV := hide (have_any p A2 x.I k c2 x.ni x.ci gs x.xs w3 HS3.out.kn HO3.out.1 (by have := HO3.out.2.2.2.2.1; omega))
        obtain ⟨B2, hB2⟩ : ∃ z, z = allKn x.xs k := ⟨_, rfl⟩
        rw [← hB2] at HHV
        have HB2 := hide hB2
        clear hB2
        go_wp2_with fail
        refine Calls.mono HHV.out ?_
        rintro e w4 ⟨rfl, hb⟩
        have HX4 := hide (HX3.out.kept hb)
        have HR4 := hide (HR3.out.kept hb)
        have HS4 := hide (HS3.out.below hb)
        have HO4 := hide (HO3.out.below hb)
        have HBR4 := hide (below_nx6 HBR3.out hb)
        clear hb HHV y0 y1 y2 y3 y4 z0 z1 z2 z3 z4 z5 z6 z7
        obtain ⟨y0, y1, y2, y3, y4⟩ := HX4.out.cs
        obtain ⟨z0, z1, z2, z3, z4, z5, z6, z7⟩ := HR4.out.cs
        cases B2 with
        | false =>
          have hff := fitN_no (x := x) (ss := gs.map Sg.s) (fun h => by have h2 := h.2.2.1; rw [HGL.out, ← HB2.out] at h2; cases h2)
          obtain ⟨e1, e2⟩ := gph_stop HST2.out.2.2.2.1 HXK.out hff
          obtain rfl : E = 1 := by rw [HEE.out]; exact e1
          have HF := hide e2
          clear hff e1 e2
          go_wp2
          go_ret2
          exact ⟨none, 0, 0, [], rfl, Grd.nil _ _, HF.out.symm, HS4.out.2.2.2.2.1⟩
        | true =>
        have HKR := hide (krule_any kd p A2 k c2 gs x w4 hk1 hk13 HS4.out.kn HO4.out (by rw [← HR.out]; exact HB1.out.symm) HB2.out.symm HS4.out.pos)
        rw [← HR.out] at HKR
        unfold Nd.v at HKR
        obtain ⟨E2, hE2⟩ : ∃ z, z = nodeE x (kn gs x.xs) kd := ⟨_, rfl⟩
        rw [← hE2] at HKR
        have HE2 : Hid (E2 = nodeE x (knL (gs.map Sg.s) x.xs) x.kd.toNat) := hide (by rw [hE2, kn_map, HKD.out, Int.toNat_natCast])
        clear hE2
        have hcf := rl_call kd hk1 hk13
        rw [← HR.out] at hcf
        go_wp2_with fail
        refine Calls.mono HKR.out ?_
        rintro e w5 ⟨R5, m5, c5, rfl, ho5, hm5, hb⟩
        have HO5 := hide ho5
        have HS5 := hide (HS4.out.below hb)
        have HB5 := hide hb
        have HBR5 := hide (below_nx6 HBR4.out hb)
        clear hb HKR ho5 hcf y0 y1 y2 y3 y4 z0 z1 z2 z3 z4 z5 z6 z7
        by_cases hE0 : E2 = 0
        · subst hE0
          have HFT : Hid (fitN x (gs.map Sg.s) = true) := hide (fitN_mk (by have := HKD.out; omega) (by rw [HKD.out, Int.toNat_natCast, ← HR.out]; exact HB1.out.symm) (by rw [HGL.out]; exact HB2.out.symm) HE2.out.symm)
          have hshn : nodeS x (kn gs x.xs) kd = shN x (gs.map Sg.s) := by rw [shN, kn_map, HKD.out, Int.toNat_natCast]
          have HSH := hide hshn
          clear hshn
          have hsz5 : w4.heap.size ≤ w5.heap.size := HB5.out.size
          have hbs : p + 1 ≤ w5.heap.size := HS5.out.2.2.2.2.2.1
          have HSA : Hid (ShSt w p b (p + 1) ns k A2 c2 gs (w5.alloc (.cells #[.slice R5 m5 c5] 35))) := hide (HS5.out.below (below_al6 (Below.refl _ _)))
          have HX3 : Hid ((w5.alloc (.cells #[.slice R5 m5 c5] 35)).cell? ⟨w5.heap.size, 0, none⟩ = some (.slice R5 m5 c5)) := hide (by have h := cells_new w5 [.slice R5 m5 c5] 35 0 _ rfl; rwa [Addr.add_lit] at h)
          have HBA : Hid (Below w4.heap.size w4 (w5.alloc (.cells #[.slice R5 m5 c5] 35))) := hide (below_al6 HB5.out)
          obtain ⟨r0, r1⟩ := HS5.out.cell
          clear hsz5
          go_wp2_with (at_builtin; refine wpList_append_one rfl (.tmp 62) (.tmp 64) 73 rfl 35 i0 (.slice none 0 0) 24 Tryz.underlying73 HI.out HZ0.out HZ1.out HZ2.out rfl (p + 1) A2 k c2 (gs.map Sg.v) rfl HSA.out.2.1.2.1 HSA.out.2.2.2.2.2.1 ⟨w5.heap.size, 0, none⟩ (.slice R5 m5 c5) rfl HX3.out rfl (by omega) (by unfold maxLen; omega) ?_)
          intro A3 c3 w6 ho6 hm6
          obtain ⟨r2, r3⟩ := HSA.out.moved hm6
          have HNX : Hid (ShSt w p b (p + 1) ns (k + 1) A3 c3 (gs ++ [⟨R5, m5, c5, nodeS x (kn gs x.xs) kd⟩]) (w6.setCell ⟨p, 0, none⟩ (.slice A3 (k + 1) c3))) := hide (HS4.out.push (g := ⟨R5, m5, c5, nodeS x (kn gs x.xs) kd⟩) HBA.out (HO5.out.alloc _) hm5 ho6 hm6 HXK.out HFT.out HSH.out)
          have HBN : Hid (Below W0.heap.size W0 (w6.setCell ⟨p, 0, none⟩ (.slice A3 (k + 1) c3))) := hide ((below_moved (below_al6 HBR5.out) (below_al6 HBR5.out).size HSA.out.2.1.2.1 hm6 (by have := HSV.out; omega)).setCell (by have := HSV.out; dsimp only; omega) _)
          clear ho6 hm6 r0 r1 HX3 HBA HSA hbs
          go_wp2
          go_roundw
          case rel => exact ⟨k + 1, A3, c3, _, by omega, by go_num, HNX, HBN⟩
          case measure => simp [intOf] <;> omega
        · have hff := fitN_no (x := x) (ss := gs.map Sg.s) (fun h => by have h2 := h.2.2.2; rw [← HE2.out] at h2; exact hE0 h2)
          obtain ⟨e1, e2⟩ := gph_stop HST2.out.2.2.2.1 HXK.out hff
          obtain rfl : E = 1 := by rw [HEE.out]; exact e1
          have HF := hide e2
          have g1 : (E2 == 0) = false := by simpa using hE0
          clear hff e1 e2 hE0
          go_wp2
          go_ret2
          exact ⟨none, 0, 0, [], rfl, Grd.nil _ _, HF.out.symm, HS5.out.2.2.2.2.1⟩
      · have hlook := look_no (p := p) (k := x.kd) HS1.out.2.2.1 (by omega)
        unfold zeroR at hlook
        have hff := fitN_no (x := x) (ss := gs.map Sg.s) (fun h => hkd h.1)
        obtain ⟨e1, e2⟩ := gph_stop HST2.out.2.2.2.1 HXK.out hff
        obtain rfl : E = 1 := by rw [HEE.out]; exact e1
        have HF := hide e2
        clear hff e1 e2 hkd
        go_wp2
        go_ret2
        exact ⟨none, 0, 0, [], rfl, Grd.nil _ _, HF.out.symm, (HS1.out.below (below_al6 (Below.refl _ _))).2.2.2.2.1⟩
    · obtain rfl : k = n := by omega
      have f1 : ¬ ((k : Int) < (k : Int)) := by omega
      obtain ⟨r0, r1⟩ := HST2.out.cell
      have hall : ns.take k = ns := List.take_of_length_le (by rw [HL.out]; exact Nat.le_refl _)
      have hA := HST2.out.2.2.2.1
      rw [hall] at hA
      have hb := gphB_mk HBE.out.symm hA
      obtain rfl : E = 0 := by rw [HEE.out]; exact gphE_zero.2 hb
      have HF : Hid (gs.map Sg.s = gphS ns) := hide (by obtain ⟨_, ss, h1, h2⟩ := gphB_parts hb; rw [h2]; rw [hA] at h1; injection h1)
      clear hb hA hall
      go_wp2
      go_ret2
      exact ⟨A2, k, c2, gs, rfl, HST2.out.2.1.base (by have := HSV.out; omega), HF.out, HST2.out.2.2.2.2.1⟩

end

section
open Go.RowKit
set_option linter.unusedVariables false
set_option linter.unusedSimpArgs false
set_option maxRecDepth 100000

theorem ints_size (A : Option Addr) (n c : Nat) (w : World) : Calls Tryz.prog 81 #[.slice A n c] w fun e w' => e = .returned (.int .i64 (n : Int)) ∧ w = w' := by
  go_enter Tryz.func81, Tryz.ntmps81
  go_wp2
  go_ret
  exact ⟨rfl, rfl⟩

set_option maxHeartbeats 1000000 in
theorem node_size (x : Nd) (w : World) (h1 : x.ni ≤ 70368744177664) (h2 : x.ns ≤ 70368744177664) : Calls Tryz.prog 80 #[x.v] w fun e w' => ∃ r : Int, e = .returned (.int .i64 r) ∧ 0 ≤ r ∧ r ≤ 281474976710656 ∧ (r ≤ 1048576 → r = 1 + (x.ni : Int) + (x.ns : Int)) ∧ Below w.heap.size w w' := by
  unfold Nd.v
  obtain ⟨W0, hW0⟩ : ∃ W0, W0 = w.alloc (.cells #[.int .u8 x.kd, .slice x.I x.ni x.ci, .slice x.S x.ns x.cs, .int .i64 x.N, .int .i64 x.P] 44) := ⟨_, rfl⟩
  have HB0 : Hid (Below w.heap.size w W0) := hide (by rw [hW0]; exact below_al6 (Below.refl _ _))
  have HX : Hid (BoxN W0 w.heap.size x) := hide (by rw [hW0]; exact BoxN.new w x)
  have hW0' := hW0.symm
  clear hW0
  obtain ⟨c0, c1, c2, c3, c4⟩ := HX.out.cs
  go_enter Tryz.func80, Tryz.ntmps80
  go_wp2_with fail
  refine Calls.mono (ints_size _ _ _ _) ?_
  rintro e w1 ⟨rfl, rfl⟩
  by_cases hm : 1 + (x.ni : Int) ≤ 1048576
  · go_wp2_with fail
    refine Calls.mono (ints_size _ _ _ _) ?_
    rintro e w1 ⟨rfl, rfl⟩
    go_wp2
    go_ret
    exact ⟨_, rfl, by omega, by omega, fun _ => rfl, HB0.out⟩
  · go_wp2
    go_ret
    exact ⟨_, rfl, by omega, by omega, fun h => absurd h (by omega), HB0.out⟩

/-- How much nodes have in them. -/
def szN : List Nd → Nat
  | [] => 0
  | x :: r => x.ni + x.ns + 2 + szN r

theorem szN_len : ∀ ns : List Nd, 2 * ns.length ≤ szN ns
  | [] => Nat.le_refl _
  | x :: r => by have := szN_len r; rw [szN, List.length_cons]; omega

theorem szN_snoc : ∀ (ns : List Nd) (x : Nd), szN (ns ++ [x]) = szN ns + (x.ni + x.ns + 2)
  | [], x => by simp [szN]
  | y :: r, x => by rw [List.cons_append, szN, szN, szN_snoc r x]; omega

set_option maxHeartbeats 2000000 in
theorem nodes_size (A : Option Addr) (n c : Nat) (ns : List Nd) (w : World) (h : NsIn w A n ns) (hn : n ≤ 70368744177664) :
    Calls Tryz.prog 48 #[.slice A n c] w fun e w' => ∃ r : Int, e = .returned (.int .i64 r) ∧ 0 ≤ r ∧ r ≤ 1125899906842624 ∧ (r ≤ 1048576 → r = (szN ns : Int)) ∧ Below w.heap.size w w' := by
  have HN := hide h
  clear h
  go_enter Tryz.func48, Tryz.ntmps48
  go_wp2
  go_loopw [3, 4] (fun s i wr => ∃ (k : Nat) (a : Int), k ≤ n ∧ i = .int .i64 k ∧ s = .int .i64 a ∧ 0 ≤ a ∧ a ≤ 422212465065984 ∧ Hid (a ≤ 1048576 → a = (n : Int) - (k : Int) + (szN (ns.take k) : Int)) ∧ Hid (Below w.heap.size w wr)) (fun _ i _ => n - (intOf i).toNat)
  case atStart => exact ⟨0, (n : Int), Nat.zero_le _, rfl, rfl, by omega, by omega, hide (fun _ => by rw [List.take_zero, szN]; omega), hide (Below.refl _ _)⟩
  case round =>
    obtain ⟨k, a, hk, rfl, rfl, ha0, ha1, HA, HB⟩ := hrel
    by_cases hlt : k < n
    · have f1 : (k : Int) < (n : Int) := by omega
      by_cases hm : a ≤ 1048576
      · obtain ⟨b, o, x, rfl, hxk, h0, h1, h2, h3, h4, hxo⟩ := (HN.out.below HB.out).at hlt
        have HT : Hid (szN (ns.take (k + 1)) = szN (ns.take k) + (x.ni + x.ns + 2)) := hide (by rw [take_oneN hxk, szN_snoc])
        have f0 : (0 : Int) ≤ (k : Int) := by omega
        have HC := hide (fun v => node_size x v hxo.2.2.2.2.1 hxo.2.2.2.2.2.1)
        unfold Nd.v at HC
        clear hxk hxo
        go_wp2_with fail
        refine Calls.mono (HC.out _) ?_
        rintro e w1 ⟨r, rfl, hr0, hr1, hr2, hb⟩
        have HB1 := hide (below_nx6 HB.out hb)
        clear hb h0 h1 h2 h3 h4
        obtain ⟨a2, ha2⟩ : ∃ z : Int, z = a + r := ⟨_, rfl⟩
        have m1 : IntKind.i64.wrap (a + r) = a2 := by rw [IntKind.wrap_i64]; omega
        have HA2 : Hid (a2 ≤ 1048576 → a2 = (n : Int) - ((k + 1 : Nat) : Int) + (szN (ns.take (k + 1)) : Int)) := hide (fun h => by
          have h1 := HA.out hm
          have h2 := hr2 (by omega)
          rw [HT.out]
          omega)
        have hq : 0 ≤ a2 ∧ a2 ≤ 422212465065984 := by omega
        have HQ := hide hq
        clear hq ha2 hr0 hr1 hr2
        go_wp2
        go_roundw
        case rel => exact ⟨k + 1, a2, by omega, by go_num, rfl, HQ.out.1, HQ.out.2, HA2, HB1⟩
        case measure => simp [intOf] <;> omega
      · have hf : a ≤ 1125899906842624 ∧ (a ≤ 1048576 → a = (szN ns : Int)) := ⟨by omega, fun h => absurd h hm⟩
        have HF := hide hf
        clear hf
        go_wp2
        go_ret
        exact ⟨a, rfl, ha0, HF.out.1, HF.out.2, HB.out⟩
    · obtain rfl : k = n := by omega
      have hall : ns.take k = ns := List.take_of_length_le (by rw [HN.out.1]; exact Nat.le_refl _)
      have hf : a ≤ 1125899906842624 ∧ (a ≤ 1048576 → a = (szN ns : Int)) := ⟨by omega, fun h => by have h1 := HA.out h; rw [hall] at h1; omega⟩
      have HF := hide hf
      have f1 : ¬ ((k : Int) < (k : Int)) := by omega
      clear hf hall
      go_wp2
      go_ret
      exact ⟨a, rfl, ha0, HF.out.1, HF.out.2, HB.out⟩

end

section
open Go.RowKit
set_option linter.unusedVariables false
set_option linter.unusedSimpArgs false
set_option maxRecDepth 100000

set_option maxHeartbeats 1000000 in
theorem gcheck_any (A : Option Addr) (n c : Nat) (ns : List Nd) (w : World) (h : NsIn w A n ns) (hn : n ≤ 1073741824) (hc : n ≤ c) :
    Calls Tryz.prog 9 #[.agg #[.slice A n c]] w fun e w' => e = .returned (.bool (gphB ns)) ∧ Below w.heap.size w w' := by
  obtain ⟨W0, hW0⟩ : ∃ W0, W0 = w.alloc (.cells #[.slice A n c] 24) := ⟨_, rfl⟩
  have HB0 : Hid (Below w.heap.size w W0) := hide (by rw [hW0]; exact below_al6 (Below.refl _ _))
  have c0 : W0.cell? ⟨w.heap.size, 0, none⟩ = some (.slice A n c) := by rw [hW0]; exact cell_of_row _ _ 0 _ _ (0, 0) (heap_alloc_new w _)
  have HC := hide (gshapes_any A n c ns W0 (h.below HB0.out) hn hc)
  have hW0' := hW0.symm
  clear hW0 h
  have HE := hide (@gphE_zero ns)
  obtain ⟨E, hE⟩ : ∃ z, z = gphE ns := ⟨_, rfl⟩
  obtain ⟨B, hB⟩ : ∃ z, z = gphB ns := ⟨_, rfl⟩
  rw [← hE] at HC HE
  rw [← hB] at HE ⊢
  clear hE hB
  go_enter Tryz.func9, Tryz.ntmps9
  go_wp2_with fail
  refine Calls.mono HC.out ?_
  rintro e w1 ⟨R, m, kc, gs, rfl, _, _, hb⟩
  have HB := hide (below_nx6 HB0.out hb)
  clear hb c0 HC
  by_cases h0 : E = 0
  · obtain rfl : B = true := HE.out.1 h0
    subst h0
    go_wp2
    go_ret
    exact ⟨rfl, HB.out⟩
  · obtain rfl : B = false := by
      cases B with
      | false => rfl
      | true => exact absurd (HE.out.2 rfl) h0
    have e0 : (E == 0) = false := by simpa using h0
    clear h0
    go_wp2
    go_ret
    exact ⟨rfl, HB.out⟩

end

end Go.Proofs.YtohndckbhjakfaaGreatDoor

