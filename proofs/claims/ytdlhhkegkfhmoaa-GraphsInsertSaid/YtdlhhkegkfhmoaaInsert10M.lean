/- GraphsInsert: for every graph, place and shape the walk of its Go text ends in true. -/
import Derived.Test.YtdlhhkegkfhmoaaAlive10M
import Derived.Test.YtdlhhkegkfhmoaaIn10M
import Derived.Deep.CutBlock
import Derived.Deep.CutRange
namespace Go.Proofs.Ytdlhhkegkfhmoaa
open Go.RowKit
set_option linter.unusedVariables false
set_option linter.unusedSimpArgs false
set_option maxRecDepth 100000

/-- A node of which the first numbers that it takes in are one further on. -/
def uxK (k j : Nat) (u : Nd) : Nd := { u with xs := (u.xs.take j).map (upK k) ++ u.xs.drop j }

theorem ux_zero (k : Nat) (u : Nd) : uxK k 0 u = u := by simp [uxK]

theorem ux_all {k : Nat} {u : Nd} {j : Nat} (h : u.xs.length = j) : uxK k j u = sxK k u := by
  rw [uxK, sxK, List.take_of_length_le (by omega), List.drop_of_length_le (by omega), List.append_nil]

theorem ux_at {k j : Nat} {u : Nd} (h : j < u.xs.length) : (uxK k j u).xs.getD j 0 = u.xs.getD j 0 := by
  have hl : ((u.xs.take j).map (upK k)).length = j := by rw [List.length_map, List.length_take]; omega
  show ((u.xs.take j).map (upK k) ++ u.xs.drop j).getD j 0 = _
  rw [List.getD_eq_getElem?_getD, List.getElem?_append_right (by omega), hl, Nat.sub_self, List.getElem?_drop, Nat.add_zero, List.getD_eq_getElem?_getD]

theorem ux_step {k j : Nat} {u : Nd} (h : j < u.xs.length) : { uxK k j u with xs := (uxK k j u).xs.set j (upK k (u.xs.getD j 0)) } = uxK k (j + 1) u := by
  have hl : ((u.xs.take j).map (upK k)).length = j := by rw [List.length_map, List.length_take]; omega
  have e : u.xs.getD j 0 = u.xs[j] := by simp [List.getD, h]
  have hd : u.xs.drop j = u.xs[j] :: u.xs.drop (j + 1) := List.drop_eq_getElem_cons h
  have ht : u.xs.take (j + 1) = u.xs.take j ++ [u.xs[j]] := List.take_succ_eq_append_getElem h
  simp only [uxK, e, ht, hd, List.map_append, List.map_cons, List.map_nil]
  rw [List.set_append_right _ _ (by omega), hl, Nat.sub_self, List.set_cons_zero]
  simp

theorem ux_keep {k j : Nat} {u : Nd} (h : j < u.xs.length) (hz : ¬ (k : Int) ≤ u.xs.getD j 0) : uxK k j u = uxK k (j + 1) u := by
  rw [← ux_step h, upK, if_neg hz]
  have e := ux_at (k := k) h
  have hl : j < (uxK k j u).xs.length := by simp [uxK]; omega
  have h2 : (uxK k j u).xs.set j (u.xs.getD j 0) = (uxK k j u).xs := by
    rw [← e]
    have : (uxK k j u).xs.getD j 0 = (uxK k j u).xs[j] := by simp [List.getD, hl]
    rw [this, List.set_getElem_self]
  rw [h2]

/-- How far the outer loop is. -/
def InsTo (k i : Nat) (ts us : List Nd) : Prop := ∀ q, us[q]? = if k ≤ q ∧ q < i then (ts[q]?).map (sxK k) else ts[q]?

theorem InsTo.next {k i : Nat} {ts us : List Nd} {u : Nd} (h : InsTo k i ts us) (hi : us[i]? = some u) (hk : k ≤ i) : InsTo k (i + 1) ts (us.set i (sxK k u)) := by
  intro q
  have h1 := h q
  by_cases hq : q = i
  · subst hq
    rw [if_neg (by omega)] at h1
    rw [List.getElem?_set_self (List.getElem?_eq_some_iff.1 hi).1, if_pos ⟨hk, by omega⟩, ← h1, hi]
    rfl
  · rw [List.getElem?_set_ne (fun e => hq e.symm), h1]
    by_cases hq2 : k ≤ q ∧ q < i
    · rw [if_pos hq2, if_pos ⟨hq2.1, by omega⟩]
    · rw [if_neg hq2, if_neg (by omega)]

theorem InsTo.done {k : Nat} {ts us : List Nd} (h : InsTo k ts.length ts us) (hk : k ≤ ts.length) : us.take k = ts.take k ∧ us.drop k = (ts.drop k).map (sxK k) := by
  constructor
  · refine List.ext_getElem? fun q => ?_
    rw [List.getElem?_take, List.getElem?_take]
    by_cases hq : q < k
    · rw [if_pos hq, if_pos hq, h q, if_neg (by omega)]
    · rw [if_neg hq, if_neg hq]
  · refine List.ext_getElem? fun q => ?_
    rw [List.getElem?_drop, List.getElem?_map, List.getElem?_drop, h (k + q)]
    by_cases hq : k + q < ts.length
    · rw [if_pos ⟨by omega, hq⟩]
    · rw [if_neg (by omega), List.getElem?_eq_none (by omega)]; rfl

theorem ins_pl {k : Nat} {ns ts us : List Nd} {y : Nd} (hp : ts.map pl = ns.map pl) (h1 : us.take k = ts.take k) (h2 : us.drop k = (ts.drop k).map (sxK k)) : (us.take k ++ y :: us.drop k).map pl = (ns.take k ++ y :: (ns.drop k).map (sxK k)).map pl := by
  have e1 : (ts.take k).map pl = (ns.take k).map pl := by rw [List.map_take, hp, List.map_take]
  have e2 : ((ts.drop k).map (sxK k)).map pl = ((ns.drop k).map (sxK k)).map pl := by
    have e : ∀ l : List Nd, (l.map (sxK k)).map pl = (l.map pl).map (sxK k) := fun l => by rw [List.map_map, List.map_map]; rfl
    have e3 : (ts.drop k).map pl = (ns.drop k).map pl := by rw [List.map_drop, hp, List.map_drop]
    rw [e, e, e3]
  rw [h1, h2, List.map_append, List.map_append, List.map_cons, List.map_cons, e1, e2]

theorem TwRow.cellIn {w : World} {base g n i : Nat} {us : List Nd} {u : Nd} (h : TwRow w base g n us) (hi : us[i]? = some u) : w.cell? ⟨g, i * 5 + 1, none⟩ = some (.slice u.I u.ni u.ci) := by
  have hl := (List.getElem?_eq_some_iff.1 hi).1
  obtain ⟨b, q, e, _, hx⟩ := h.all.ns.2 (by rw [← h.1]; omega)
  injection e with e
  injection e with e1 e2
  subst e1
  subst e2
  have := (hx i u hi).2.1
  rwa [Nat.zero_add] at this

/-- Shapes in a row of the call's own. -/
theorem SgAt.ofOwn {w : World} {base : Nat} {e : TypeId} {A : Option Addr} {n c : Nat} {gs : List Sg} (h : w.ownsRow base e 1 (.slice A n c) n (gs.map Sg.v)) (hl : gs.length = n) (hg : ∀ g ∈ gs, Lies w g.A g.n (g.s.map (Value.int .i64)) ∧ g.n ≤ g.c ∧ g.n ≤ 4) : SgAt w A n gs :=
  ⟨hl, fun hn => by
    obtain ⟨b, o, e, hlt, hx⟩ := (lies_of_own h).cells (by omega)
    refine ⟨b, o, e, hlt, fun j g hj => ?_⟩
    have hjl := (List.getElem?_eq_some_iff.1 hj).1
    rw [hx j (by omega), List.getElem?_map, hj]
    rfl, hg⟩

theorem SgAt.cells {w : World} {b o n : Nat} {gs : List Sg} (h : SgAt w (some ⟨b, o, none⟩) n gs) (i k : Nat) (hk : i + k ≤ n) : 1 ≤ k → ∃ ad, some (⟨b, o + i, none⟩ : Addr) = some ad ∧ ∀ j u, (((gs.drop i).take k).map Sg.v)[j]? = some u → w.cell? (ad.add j) = some u := by
  intro h1
  obtain ⟨b', o', e, _, hx⟩ := h.2.1 (by omega)
  cases e
  refine ⟨_, rfl, fun j u hj => ?_⟩
  rw [Addr.add_lit, List.getElem?_map] at *
  rw [List.getElem?_take] at hj
  split at hj
  · rw [List.getElem?_drop] at hj
    cases hq : gs[i + j]? with
    | none => rw [hq] at hj; cases hj
    | some q =>
      rw [hq] at hj
      cases hj
      rw [Nat.add_assoc]
      exact hx (i + j) q hq
  · cases hj

theorem NsIn.part {w : World} {b o n : Nat} {ns : List Nd} (h : NsIn w (some ⟨b, o, none⟩) n ns) (k : Nat) (hk : k ≤ n) : NsIn w (some ⟨b, o + k * 5, none⟩) (n - k) (ns.drop k) := h.drop hk

theorem sgv_one : ∀ gs : List Sg, ∀ u ∈ gs.map Sg.v, u.oneCell' = true := fun gs u hu => by
  obtain ⟨g, _, rfl⟩ := List.mem_map.1 hu
  rfl

theorem List.drop_append_of_le_length_aux {α : Type} {l r : List α} {k : Nat} {s : α} (h : l.length = k) : (l ++ s :: r).drop (k + 1) = r := by
  rw [← List.drop_drop, List.drop_left' h]
  rfl

theorem BoxG.ne {w : World} {p base size n : Nat} {v u : Value} {e : TypeId} {xs : List Value} (h : BoxG w p v) (ho : w.ownsRow base e size u n xs) (he : e ≠ 24) : u.ownBlock = none ∨ u.ownBlock ≠ some p := by
  rcases ho.2 with ⟨e', _⟩ | ⟨q, cap, cur, e', _, hh, _⟩
  · left; rw [e']; rfl
  · right
    rw [e']
    intro e1
    injection e1 with e1
    have e2 : q = p := e1
    unfold BoxG at h
    rw [← e2, hh] at h
    injection h with h
    injection h with _ h
    exact he h

theorem more_in {w0 U : World} {base g m k px c9 : Nat} {us : List Nd} {y : Nd} {A9 : Option Addr} {v : Value} (hR : TwRow w0 base g m us) (he : Below w0.heap.size w0 U) (FX : BoxG U px v) (hpx : w0.heap.size ≤ px) (F9 : U.ownsRow w0.heap.size 35 5 (.slice A9 (m + 1) c9) (m + 1) (cellsN (us.take k) ++ y.five ++ cellsN (us.drop k)))
    (hy : ∀ v, Below w0.heap.size w0 v → y.Ok v) (hk : k ≤ m) (u : Value) :
    NsIn (U.setCell ⟨px, 0, none⟩ u) A9 (m + 1) (us.take k ++ y :: us.drop k) ∧ m + 1 ≤ c9 ∧ Below w0.heap.size w0 (U.setCell ⟨px, 0, none⟩ u) := by
  have hb : Below w0.heap.size w0 (U.setCell ⟨px, 0, none⟩ u) := he.setCell (by dsimp only; omega) _
  have h1 := F9.kept (grown_set U px 0 u) (FX.ne F9 (by decide))
  have e : cellsN (us.take k ++ y :: us.drop k) = cellsN (us.take k) ++ y.five ++ cellsN (us.drop k) := by
    rw [cellsN_append, List.append_assoc]
    congr 1
  rw [← e] at h1
  refine ⟨NsIn.ofOwn h1 (by have := hR.1; simp; omega) (fun x hx => ?_), ?_, hb⟩
  · rcases List.mem_append.1 hx with hx | hx
    · exact ((hR.2.2.1 x (List.mem_of_mem_take hx)).ok).below hb
    · rcases List.mem_cons.1 hx with rfl | hx
      · exact hy _ hb
      · exact ((hR.2.2.1 x (List.mem_of_mem_drop hx)).ok).below hb
  · rcases F9.2 with ⟨_, h⟩ | ⟨q, cap, cur, e', _, _, hc, _⟩
    · omega
    · injection e' with _ _ e'; omega

set_option maxHeartbeats 32000000 in
theorem insert10_any (A D : Option Addr) (n c l dc : Nat) (ns : List Nd) (s : List Int) (z0 : Int) (w : World) (h : NsIn w A n ns) (hc : n ≤ c) (hn : n ≤ 70368744177664) (hz0 : 0 ≤ z0 ∧ z0 < 256) (hD : Lies w D l (s.map (Value.int .i64))) (hlc : l ≤ dc) (hl : l ≤ 70368744177664) :
    Calls Try.prog 7 #[.agg #[.slice A n c], .int .u8 z0, .slice D l dc] w fun e w' => e = .returned (.bool true) ∧ Below w.heap.size w w' := by
  obtain ⟨W0, hW0⟩ : ∃ W0, W0 = w.alloc (.cells #[.slice A n c] 24) := ⟨_, rfl⟩
  have HB0 : Hid (Below w.heap.size w W0) := hide (by rw [hW0]; exact below_al6 (Below.refl _ _))
  have HX : Hid (BoxG W0 w.heap.size (.slice A n c)) := hide (by rw [hW0]; exact BoxG.new w _)
  have HN := hide (h.below HB0.out)
  have HL : Hid (ns.length = n) := hide h.1
  have HD := hide (hD.below HB0.out)
  have hW0' := hW0.symm
  clear hW0 h hD
  go_enter Try.func7, Try.ntmps7
  go_wp2_with fail
  refine Calls.mono (alive10_any _) ?_
  rintro e w1 ⟨rfl, hb⟩
  have HBN := hide hb
  clear hb
  have c0 := (HX.out.kept HBN.out).c0
  go_wp2_with fail
  refine Calls.mono (graph_size A n c ns _ (HN.out.below HBN.out) hn) ?_
  rintro e w2 ⟨r, rfl, hr0, hr1, hb⟩
  replace HBN := hide (below_nx6 HBN.out hb)
  clear hb c0
  have c0 := (HX.out.kept HBN.out).c0
  by_cases hbig : 20000 < r
  · have hbig2 : (20000 : Int) < r := hbig
    go_wp2_with fail
    refine Calls.mono (alive10_any _) ?_
    rintro e w3 ⟨rfl, hb⟩
    replace HBN := hide (below_nx6 HBN.out hb)
    clear hb
    go_wp2
    go_ret
    exact ⟨rfl, below_nx6 HB0.out HBN.out⟩
  have HSZ := hide (hr1 (by omega))
  clear hr1 hr0
  by_cases h31 : 31 < n
  · have f31 : (31 : Int) < (n : Int) := by omega
    go_wp2_with fail
    refine Calls.mono (alive10_any _) ?_
    rintro e w3 ⟨rfl, hb⟩
    replace HBN := hide (below_nx6 HBN.out hb)
    clear hb
    go_wp2
    go_ret
    exact ⟨rfl, below_nx6 HB0.out HBN.out⟩
  have f31 : ¬ (31 : Int) < (n : Int) := by omega
  by_cases hl0 : 10000 < l
  · have fl0 : (10000 : Int) < (l : Int) := by omega
    go_wp2_with fail
    refine Calls.mono (alive10_any _) ?_
    rintro e w3 ⟨rfl, hb⟩
    replace HBN := hide (below_nx6 HBN.out hb)
    clear hb
    go_wp2
    go_ret
    exact ⟨rfl, below_nx6 HB0.out HBN.out⟩
  have fl0 : ¬ (10000 : Int) < (l : Int) := by omega
  have HS1 := hide (gshapes_any A n c ns w2 (HN.out.below HBN.out) (by omega) hc)
  obtain ⟨E, hE⟩ : ∃ z, z = gphE ns := ⟨_, rfl⟩
  rw [← hE] at HS1
  have HE := hide hE
  clear hE
  go_wp2_with fail
  refine Calls.mono HS1.out ?_
  rintro e w3 ⟨R, m, kc, gs, rfl, hG, hgs, hb⟩
  have HSG := hide hG.sg
  have HGS := hide hgs
  have HML : Hid (m = (gphS ns).length) := hide (by rw [← hgs, List.length_map, hG.1])
  replace HBN := hide (below_nx6 HBN.out hb)
  clear hb c0 hG hgs HS1 f31 fl0
  by_cases hE0 : ¬ E = 0
  · have e0 : (E == 0) = false := by simpa using hE0
    have e1 : (E != 0) = true := by simpa using hE0
    go_wp2
    go_ret
    exact ⟨rfl, below_nx6 HB0.out HBN.out⟩
  obtain rfl : E = 0 := by omega
  have HGB : Hid (gphB ns = true) := hide (gphE_zero.1 HE.out.symm)
  have HEN := hide (endsOk_parts (gphB_parts HGB.out).1)
  have hn1 : 1 ≤ n := by have h1 := HEN.out.2.1; have h2 := inIx_ge ns; rw [HL.out] at h2; omega
  have hmn : m = n := by rw [HML.out, gphS_len HGB.out, HL.out]
  subst hmn
  have hm31 : m ≤ 31 := by omega
  obtain ⟨Z, rfl⟩ := Int.eq_ofNat_of_zero_le hz0.1
  obtain ⟨k, hk⟩ : ∃ z, z = Z % m := ⟨_, rfl⟩
  have r1 : Int.tmod (Z : Int) (m : Int) = (k : Int) := by rw [hk]; rfl
  have hkm : k < m := by rw [hk]; exact Nat.mod_lt _ (by omega)
  have r4 : ¬ (m : Int) = 0 := by omega
  have r4' : ¬ m = 0 := by omega
  have r7 : IntKind.i64.wrap (k : Int) = (k : Int) := by rw [IntKind.wrap_i64]; omega
  have rz : IntKind.i64.wrap (Z : Int) = (Z : Int) := by rw [IntKind.wrap_i64]; omega
  clear hk hE0
  have c0 := (HX.out.kept HBN.out).c0
  have HTG := hide (twinGraph_any A m c ns w3 (HN.out.below HBN.out) (fun x hx => by have h := szN_mem ns x hx; have := HSZ.out; omega) (by omega))
  go_wp2_with fail
  refine Calls.mono HTG.out ?_
  rintro e w4 ⟨g, ts, rfl, ht, hb⟩
  obtain ⟨pv, hpv⟩ : ∃ q, q = w4.heap.size := ⟨_, rfl⟩
  obtain ⟨V, hV⟩ : ∃ V, V = w4.alloc (.cells #[.slice (some ⟨g, 0, none⟩) m (m + 1)] 24) := ⟨_, rfl⟩
  have hbv : Below w4.heap.size w4 V := by rw [hV]; exact below_al6 (Below.refl _ _)
  have HBX : Hid (BoxG V pv (.slice (some ⟨g, 0, none⟩) m (m + 1))) := hide (by rw [hV, hpv]; exact BoxG.new w4 _)
  have HTP := hide ht.1
  have HTL : Hid (ts.length = m) := hide ht.2.1
  have HTR := hide ((ht.below hbv).row)
  have HBV : Hid (Below w3.heap.size w3 V) := hide (below_nx6 hb hbv)
  have HPV : Hid (w3.heap.size ≤ pv) := hide (by rw [hpv]; exact hb.size)
  have hV' := hV.symm
  have hpv' := hpv.symm
  clear hV hpv hbv ht hb HTG c0
  have HXS : Hid (∀ (i : Nat) (x : Nd), ns[i]? = some x → ∀ t : Nd, ts[i]? = some t → t.xs = x.xs) := hide (fun i x hx t ht => by
    have h1 := congrArg (fun l => l[i]?) HTP.out
    simp only [List.getElem?_map, hx, ht, Option.map_some] at h1
    injection h1 with h1
    have h2 : (pl t).xs = (pl x).xs := by rw [h1]
    exact h2)
  go_wp2
  go_loopw [11] (fun v wr => ∃ (i : Nat) (us : List Nd), k ≤ i ∧ i ≤ m ∧ v = .int .i64 i ∧ Hid (TwRow wr w3.heap.size g m us) ∧ Hid (InsTo k i ts us) ∧ Hid (BoxG wr pv (.slice (some ⟨g, 0, none⟩) m (m + 1))) ∧ Hid (Below w3.heap.size w3 wr)) (fun v _ => m - (intOf v).toNat)
  case atStart => exact ⟨k, ts, Nat.le_refl _, by omega, rfl, HTR, hide (fun q => by rw [if_neg (by omega)]), HBX, HBV⟩
  case round =>
    obtain ⟨i, us, hki, him, rfl, HR, HI, HBXR, HBR⟩ := hrel
    have c0 := HBXR.out.c0
    by_cases hlt : i < m
    · have f1 : (i : Int) < (m : Int) := by omega
      have f0 : (0 : Int) ≤ (i : Int) := by omega
      obtain ⟨u, hu⟩ : ∃ u, us[i]? = some u := ⟨us[i]'(by rw [HR.out.1]; exact hlt), List.getElem?_eq_getElem (by rw [HR.out.1]; exact hlt)⟩
      have HU := hide hu
      have htn := HR.out.2.2.1 u (List.mem_of_getElem? hu)
      obtain ⟨aI, hI, aS, hS, _, hci, _, hxl, _⟩ : ∃ aI, u.I = some ⟨aI, 0, none⟩ ∧ ∃ aS, u.S = some ⟨aS, 0, none⟩ ∧ aI < aS ∧ u.ci = u.ni + 1 ∧ u.cs = u.ns + 1 ∧ u.xs.length = u.ni ∧ True := by
        obtain ⟨a, b, e1, e2, e0, e3, e4, e5, _⟩ := htn
        exact ⟨a, e1, b, e2, e0, e3, e4, e5, trivial⟩
      have hub : u.ni ≤ 1073741824 := by obtain ⟨_, _, _, _, _, _, _, _, _, _, _, q, _⟩ := htn; exact q
      have HUI := hide hI
      have HUL := hide hxl
      have HZB : Hid (∀ j, j < u.ni → 0 ≤ u.xs.getD j 0 ∧ u.xs.getD j 0 < 32) := hide (fun j hj => by
        have ht := HI.out i
        rw [if_neg (by omega), hu] at ht
        obtain ⟨x, hx⟩ : ∃ x, ns[i]? = some x := ⟨ns[i]'(by rw [HL.out]; exact hlt), List.getElem?_eq_getElem (by rw [HL.out]; exact hlt)⟩
        have e := HXS.out i x hx u ht.symm
        obtain ⟨hf, _⟩ := may_fit HGB.out hx
        obtain ⟨_, _, h3, _⟩ := fitN_parts hf
        have hjx : j < x.xs.length := by rw [← e, hxl]; exact hj
        have h4 := List.all_eq_true.1 h3 (x.xs[j]) (List.getElem_mem hjx)
        simp only [Bool.and_eq_true, decide_eq_true_eq, List.length_take] at h4
        have e2 : u.xs.getD j 0 = x.xs[j] := by rw [e]; simp [List.getD, hjx]
        rw [e2]
        have h5 := h4.2
        omega)
      have HR0 : Hid (TwRow wr w3.heap.size g m (us.set i (uxK k 0 u))) := hide (by
        have e : us.set i (uxK k 0 u) = us := by
          rw [ux_zero]
          have h1 := (List.getElem?_eq_some_iff.1 hu)
          have h2 : us[i]'h1.1 = u := h1.2
          rw [← h2, List.set_getElem_self]
        rw [e]
        exact HR.out)
      have HSL := hide (List.getElem?_eq_some_iff.1 hu).1
      clear hu htn hI hS hci hxl
      go_wp2
      obtain ⟨wo, rfl⟩ : ∃ wo : World, wo = wr := ⟨_, rfl⟩
      go_loopw [12] (fun v wr => ∃ j : Nat, j ≤ u.ni ∧ v = .int .i64 j ∧ Hid (TwRow wr w3.heap.size g m (us.set i (uxK k j u))) ∧ Hid (BoxG wr pv (.slice (some ⟨g, 0, none⟩) m (m + 1))) ∧ Hid (Below w3.heap.size w3 wr)) (fun v _ => u.ni - (intOf v).toNat)
      case atStart => exact ⟨0, Nat.zero_le _, rfl, HR0, HBXR, HBR⟩
      case round =>
        obtain ⟨j, hj, rfl, HR, HBXR, HBR⟩ := hrel
        have hq : (us.set i (uxK k j u))[i]? = some (uxK k j u) := List.getElem?_set_self HSL.out
        have HQ := hide hq
        have c0 := HBXR.out.c0
        have c1 := HR.out.cellIn hq
        have e1 : (uxK k j u).I = some ⟨aI, 0, none⟩ := HUI.out
        have e2 : (uxK k j u).ni = u.ni := rfl
        have e3 : (uxK k j u).ci = u.ci := rfl
        rw [e1, e2, e3] at c1
        have HE1 := hide e1
        clear hq e1 e2 e3
        by_cases hjl : j < u.ni
        · have f2 : (j : Int) < (u.ni : Int) := by omega
          have f3 : (0 : Int) ≤ (j : Int) := by omega
          obtain ⟨d0, d1, d2⟩ := (HR.out.2.2.1 _ (List.mem_of_getElem? HQ.out)).cellI (j := j) HE1.out (show j < (uxK k j u).ni from hjl)
          rw [ux_at (by rw [HUL.out]; exact hjl)] at d0
          obtain ⟨z, hz⟩ : ∃ z, z = u.xs.getD j 0 := ⟨_, rfl⟩
          have hzb := HZB.out j hjl
          rw [← hz] at d0 hzb
          have HZ := hide hz
          have HD2 := hide d2
          clear hz d2
          by_cases hkz : (k : Int) ≤ z
          · obtain ⟨z1, hz1⟩ : ∃ y, y = z + 1 := ⟨_, rfl⟩
            have m1 : IntKind.i64.wrap (z + 1) = z1 := by rw [IntKind.wrap_i64]; omega
            have HR2 : Hid (TwRow (wr.setCell ⟨aI, j, none⟩ (.int .i64 z1)) w3.heap.size g m (us.set i (uxK k (j + 1) u))) := hide (by
              have h := HR.out.store (z := z1) HQ.out HE1.out (show j < (uxK k j u).ni from hjl)
              rw [List.set_set] at h
              have e : z1 = upK k (u.xs.getD j 0) := by rw [← HZ.out, upK, if_pos hkz, hz1]
              rw [e, ux_step (by rw [HUL.out]; exact hjl), ← e] at h
              exact h)
            have HBX2 := hide (HBXR.out.setI (j := j) (z := .int .i64 z1) (HR.out.2.2.1 _ (List.mem_of_getElem? HQ.out)) HE1.out)
            have HB2 : Hid (Below w3.heap.size w3 (wr.setCell ⟨aI, j, none⟩ (.int .i64 z1))) := hide (HBR.out.setCell (by have h1 := (HR.out.all.lt).1; have := HD2.out; dsimp only; omega) _)
            clear hz1 hzb
            go_wp2
            go_roundw
            case rel => exact ⟨j + 1, by omega, by go_num, HR2, HBX2, HB2⟩
            case measure => simp [intOf] <;> omega
          · have HR2 : Hid (TwRow wr w3.heap.size g m (us.set i (uxK k (j + 1) u))) := hide (by
              have h := HR.out
              rw [ux_keep (by rw [HUL.out]; exact hjl) (by rw [← HZ.out]; exact hkz)] at h
              exact h)
            clear hzb
            go_wp2
            go_roundw
            case rel => exact ⟨j + 1, by omega, by go_num, HR2, HBXR, HBR⟩
            case measure => simp [intOf] <;> omega
        · obtain rfl : j = u.ni := by omega
          have f2 : ¬ ((u.ni : Int) < (u.ni : Int)) := by omega
          have HR2 : Hid (TwRow wr w3.heap.size g m (us.set i (sxK k u))) := hide (by
            have h := HR.out
            rw [ux_all HUL.out] at h
            exact h)
          have HI2 := hide (HI.out.next HU.out hki)
          go_wp2
          go_roundw
          case rel => exact ⟨i + 1, _, by omega, by omega, by go_num, HR2, HI2, HBXR, HBR⟩
          case measure => simp [intOf] <;> omega
    · obtain rfl : m = i := by omega
      have f1 : ¬ ((m : Int) < (m : Int)) := by omega
      obtain ⟨y, hy⟩ : ∃ y : Nd, y = ⟨2, none, 0, 0, D, l, dc, 0, 0, [], s⟩ := ⟨_, rfl⟩
      have HY := hide hy
      clear hy
      have hdn := InsTo.done (k := k) (ts := ts) (us := us) (by rw [HTL.out]; exact HI.out) (by rw [HTL.out]; omega)
      have hmp := ins_pl (y := y) HTP.out hdn.1 hdn.2
      obtain ⟨more, hmore⟩ : ∃ z, z = us.take k ++ y :: us.drop k := ⟨_, rfl⟩
      rw [← hmore] at hmp
      have hins := gph_ins (k := k) (y := y) HGB.out (by rw [HL.out]; exact hm31) (by rw [HL.out]; exact hkm) (by rw [HY.out]) (by rw [HY.out]) (by rw [HY.out]) (by rw [HY.out])
      have hsm := gph_same hmp
      rw [← hsm.1, ← hsm.2, show y.sh = s by rw [HY.out]] at hins
      have HGM := hide hins
      have HWM : Hid ((wtF 0 more).length = (wtF 0 ns).length + 1) := hide (by rw [← wtF_pl, hmp, wtF_pl, wt_ins (by rw [HY.out])])
      have HMORE := hide hmore
      have HYO : Hid (∀ v, Below wr.heap.size wr v → y.Ok v) := hide (fun v hv => by rw [HY.out]; exact ⟨Lies.nothing, HD.out.below (below_nx6 HBN.out (below_nx6 HBR.out hv)), Nat.le_refl _, hlc, by dsimp only; omega, hl, by dsimp only; omega, by dsimp only; omega, by dsimp only; omega⟩)
      have HYF : Hid (y.five = [.int .u8 2, .slice none 0 0, .slice D l dc, .int .i64 0, .int .i64 0]) := hide (by rw [HY.out]; rfl)
      have HNU := hide HR.out.all.ns
      clear hdn hmp hmore hins hsm
      obtain ⟨iN, hiN, hzN0, hzN1, hzN2⟩ := info_parts infoN10
      have HIN := hide hiN
      have HZ0 := hide hzN0
      have HZ1 := hide hzN1
      have HZ2 := hide hzN2
      clear hiN hzN0 hzN1 hzN2
      obtain ⟨rr, hrr⟩ : ∃ z, z = m - k := ⟨_, rfl⟩
      obtain ⟨rc, hrc⟩ : ∃ z, z = m + 1 - k := ⟨_, rfl⟩
      have k1 : (0 : Int) ≤ (k : Int) := by omega
      have k2 : (k : Int) ≤ (m : Int) + 1 := by omega
      have k3 : (k : Int) ≤ (m : Int) := by omega
      have k4 : k ≤ m := by omega
      have k5 : k ≤ m + 1 := by omega
      have k6 : ¬ m + 1 = k := by omega
      have k7 : m - k = rr := hrr.symm
      have k8 : m + 1 - k = rc := hrc.symm
      have k9 : (m : Int) ≤ (m : Int) + 1 := by omega
      have HRR : Hid (k + 1 + rr = m + 1) := hide (by omega)
      clear hrr hrc
      go_wp2
      go_cut [13] from 92 to 106 (fun s13 wc => ∃ px A9 c9, s13 = .pointer (some ⟨px, 0, none⟩) ∧ Hid (BoxG wc px (.slice A9 (m + 1) c9)) ∧ Hid (NsIn wc A9 (m + 1) more) ∧ Hid (m + 1 ≤ c9) ∧ Hid (Below wr.heap.size wr wc))
      case first =>
        have hS0 : Hid (wr.drew.cell? ⟨pv, 0, none⟩ = some (.slice (some ⟨g, 0, none⟩) m (m + 1))) := hide ((HBXR.out.kept (below_drewN (Below.refl _ _) 1)).c0)
        refine wp_region_U (fun _ v => v.cell? ⟨pv, 0, none⟩ = some (.slice (some ⟨g, 0, none⟩) m (m + 1))) 99 (by kernel_rfl) ?_
        refine wpAnyU_take (i := 0) (oi := { dst := some 92, op := _, type := _, pos := _, after := _, guard := none }) (v := .pointer (some ⟨pv, 0, none⟩)) rfl (by kernel_rfl) (by kernel_rfl) (by kernel_rfl) (by kernel_rfl) (fun _ _ _ h => h) (yields_take rfl (fun w' hw => by have h1 := hw.const; go_simp)) hS0.out ?_
        simp only [Act.put, List.setIfInBounds_toArray, List.set_cons_zero, List.set_cons_succ]
        refine wpAnyU_take (i := 1) (oi := { dst := some 93, op := _, type := _, pos := _, after := _, guard := none }) (v := .slice (some ⟨g, 0, none⟩) m (m + 1)) rfl (by kernel_rfl) (by kernel_rfl) (by kernel_rfl) (by kernel_rfl) (fun _ _ _ h => h) (yields_take rfl (fun w' hw => by have h1 := hw.const; go_simp)) hS0.out ?_
        simp only [Act.put, List.setIfInBounds_toArray, List.set_cons_zero, List.set_cons_succ]
        refine wpAnyU_take (i := 2) (oi := { dst := some 94, op := _, type := _, pos := _, after := _, guard := none }) (v := .int .i64 (k : Int)) rfl (by kernel_rfl) (by kernel_rfl) (by kernel_rfl) (by kernel_rfl) (fun _ _ _ h => h) (yields_take rfl (fun w' hw => by have h1 := hw.const; go_simp)) hS0.out ?_
        simp only [Act.put, List.setIfInBounds_toArray, List.set_cons_zero, List.set_cons_succ]
        refine wpAnyU_take (i := 3) (oi := { dst := some 95, op := _, type := _, pos := _, after := _, guard := none }) (v := .slice (some ⟨g, 0, none⟩) k (m + 1)) rfl (by kernel_rfl) (by kernel_rfl) (by kernel_rfl) (by kernel_rfl) (fun _ _ _ h => h) (yields_take rfl (fun w' hw => by have h1 := hw.const; go_simp)) hS0.out ?_
        simp only [Act.put, List.setIfInBounds_toArray, List.set_cons_zero, List.set_cons_succ]
        refine wpAnyU_take (i := 5) (oi := { dst := some 97, op := _, type := _, pos := _, after := _, guard := none }) (v := .slice D l dc) rfl (by kernel_rfl) (by kernel_rfl) (by kernel_rfl) (by kernel_rfl) (fun _ _ _ h => h) (yields_take rfl (fun w' hw => by have h1 := hw.const; go_simp)) hS0.out ?_
        simp only [Act.put, List.setIfInBounds_toArray, List.set_cons_zero, List.set_cons_succ]
        refine wpAnyU_take (i := 6) (oi := { dst := some 98, op := _, type := _, pos := _, after := _, guard := none }) (v := .agg #[.int .u8 2, .slice none 0 0, .slice D l dc, .int .i64 0, .int .i64 0]) rfl (by kernel_rfl) (by kernel_rfl) (by kernel_rfl) (by kernel_rfl) (fun _ _ _ h => h) (yields_take rfl (fun w' hw => by have h1 := hw.const; go_simp)) hS0.out ?_
        simp only [Act.put, List.setIfInBounds_toArray, List.set_cons_zero, List.set_cons_succ]
        refine wpAnyU_take (i := 9) (oi := { dst := some 101, op := _, type := _, pos := _, after := _, guard := none }) (v := .pointer (some ⟨pv, 0, none⟩)) rfl (by kernel_rfl) (by kernel_rfl) (by kernel_rfl) (by kernel_rfl) (fun _ _ _ h => h) (yields_take rfl (fun w' hw => by have h1 := hw.const; go_simp)) hS0.out ?_
        simp only [Act.put, List.setIfInBounds_toArray, List.set_cons_zero, List.set_cons_succ]
        refine wpAnyU_take (i := 10) (oi := { dst := some 102, op := _, type := _, pos := _, after := _, guard := none }) (v := .slice (some ⟨g, 0, none⟩) m (m + 1)) rfl (by kernel_rfl) (by kernel_rfl) (by kernel_rfl) (by kernel_rfl) (fun _ _ _ h => h) (yields_take rfl (fun w' hw => by have h1 := hw.const; go_simp)) hS0.out ?_
        simp only [Act.put, List.setIfInBounds_toArray, List.set_cons_zero, List.set_cons_succ]
        refine wpAnyU_take (i := 11) (oi := { dst := some 103, op := _, type := _, pos := _, after := _, guard := none }) (v := .int .i64 (k : Int)) rfl (by kernel_rfl) (by kernel_rfl) (by kernel_rfl) (by kernel_rfl) (fun _ _ _ h => h) (yields_take rfl (fun w' hw => by have h1 := hw.const; go_simp)) hS0.out ?_
        simp only [Act.put, List.setIfInBounds_toArray, List.set_cons_zero, List.set_cons_succ]
        refine wpAnyU_take (i := 12) (oi := { dst := some 104, op := _, type := _, pos := _, after := _, guard := none }) (v := .slice (some ⟨g, k * 5, none⟩) rr rc) rfl (by kernel_rfl) (by kernel_rfl) (by kernel_rfl) (by kernel_rfl) (fun _ _ _ h => h) (yields_take rfl (fun w' hw => by have h1 := hw.const; go_simp)) hS0.out ?_
        simp only [Act.put, List.setIfInBounds_toArray, List.set_cons_zero, List.set_cons_succ]
        generalize hU0 : wr.drew = U0
        have he : Below wr.heap.size wr U0 := by rw [← hU0]; exact below_drewN (Below.refl _ _) 1
        rw [hU0] at hS0
        clear hU0
        refine wpAnyU_or3 (i := 4) (j := 7) (k := 15) (by kernel_rfl) rfl rfl rfl ?_ ?_ ?_
        · intro K hK
          refine step_append_nilN rfl _ _ 22 rfl 35 iN _ 5 72 Try.underlying22 HIN.out HZ0.out HZ1.out HZ2.out rfl (by decide) wr.heap.size rfl he.size (some ⟨g, 0, none⟩) k (m + 1) (cellsN (us.take k)) rfl (by rw [cellsN_len, List.length_take, HR.out.1, Nat.min_eq_left k4]) ((HNU.out.below he).pre k4).cells (fun h => by cases h) (cellsN_one _) (by omega) (by unfold maxLen; omega) ?_
          intro A4 c4 U1 F4 hb
          replace he : Below wr.heap.size wr U1 := below_nx6 he hb
          clear hb
          have hT1 : Hid (U1.cell? ⟨pv, 0, none⟩ = some (.slice (some ⟨g, 0, none⟩) m (m + 1))) := hide (HBXR.out.kept he).c0
          refine hK.out _ _ hT1.out (fun _ => ?_)
          clear hK K hS0
          refine wpAnyU_or (i := 7) (j := 15) (by kernel_rfl) rfl rfl ?_ ?_
          · intro K hK
            go_simp
            obtain ⟨U2, hU⟩ : ∃ U, U = U1.alloc (.cells #[.int .u8 2, .slice none 0 0, .slice D l dc, .int .i64 0, .int .i64 0] 35) := ⟨_, rfl⟩
            rw [← hU]
            have hb : Below U1.heap.size U1 U2 := by rw [hU]; exact below_al6 (Below.refl _ _)
            obtain ⟨gy, hgy⟩ : ∃ q, q = U1.heap.size := ⟨_, rfl⟩
            have hg7 : gy < U2.heap.size := by rw [hU, hgy]; simp
            have F7 : ∀ j u, y.five[j]? = some u → U2.cell? ((⟨gy, 0, none⟩ : Addr).add j) = some u := by rw [hU, hgy, HYF.out]; exact cells_new U1 _ 35
            rw [← hgy]
            clear hU hgy
            replace F4 := own_keep10 F4 hb
            replace he : Below wr.heap.size wr U2 := below_nx6 he hb
            clear hb
            have hT2 : Hid (U2.cell? ⟨pv, 0, none⟩ = some (.slice (some ⟨g, 0, none⟩) m (m + 1))) := hide (HBXR.out.kept he).c0
            refine hK.out _ _ hT2.out (fun _ => ?_)
            clear hK K hT1
            refine wpAnyU_or (i := 8) (j := 15) (by kernel_rfl) rfl rfl ?_ ?_
            · intro K hK
              refine step_append_srcN rfl _ _ 22 rfl 35 iN _ 5 72 Try.underlying22 HIN.out HZ0.out HZ1.out HZ2.out rfl (by decide) wr.heap.size (.slice A4 k c4) k (cellsN (us.take k)) rfl F4 he.size (some ⟨gy, 0, none⟩) 1 1 y.five rfl rfl (fun _ => ⟨_, rfl, F7⟩) (fun h => by cases h) (by rw [HYF.out]; intro u hu; simp only [List.mem_cons, List.not_mem_nil, or_false] at hu; rcases hu with rfl | rfl | rfl | rfl | rfl <;> rfl) (by omega) (by unfold maxLen; omega) ?_
              intro A8 c8 U3 F8 hg _
              replace he : Below wr.heap.size wr U3 := below_own10 he F4 hg (Nat.le_refl _)
              clear hg F4 F7 hg7
              have hT3 : Hid (U3.cell? ⟨pv, 0, none⟩ = some (.slice (some ⟨g, 0, none⟩) m (m + 1))) := hide (HBXR.out.kept he).c0
              refine hK.out _ _ hT3.out (fun _ => ?_)
              clear hK K hT2
              refine wpAnyU_or (i := 13) (j := 15) (by kernel_rfl) rfl rfl ?_ ?_
              · intro K hK
                refine step_append_srcN rfl _ _ 22 rfl 35 iN _ 5 72 Try.underlying22 HIN.out HZ0.out HZ1.out HZ2.out rfl (by decide) wr.heap.size (.slice A8 (k + 1) c8) (k + 1) (cellsN (us.take k) ++ y.five) rfl F8 he.size (some ⟨g, k * 5, none⟩) rr rc (cellsN (us.drop k)) rfl (by rw [cellsN_len, List.length_drop, HR.out.1, k7]) (by have h := ((HNU.out.below he).part k k4).cells; rw [k7, Nat.zero_add] at h; exact h) (fun h => by cases h) (cellsN_one _) (by omega) (by unfold maxLen; omega) ?_
                rw [HRR.out]
                intro A9 c9 U4 F9 hg _
                replace he : Below wr.heap.size wr U4 := below_own10 he F8 hg (Nat.le_refl _)
                clear hg F8
                have hT4 : Hid (U4.cell? ⟨pv, 0, none⟩ = some (.slice (some ⟨g, 0, none⟩) m (m + 1))) := hide (HBXR.out.kept he).c0
                refine hK.out _ _ hT4.out (fun _ => ?_)
                clear hK K hT3
                refine wpAnyU_take (i := 14) (oi := { dst := some 106, op := _, type := _, pos := _, after := _, guard := none }) (v := .agg #[.slice A9 (m + 1) c9]) rfl (by kernel_rfl) (by kernel_rfl) (by kernel_rfl) (by kernel_rfl) (fun _ _ _ h => h) (yields_take rfl (fun w' hw => by have h1 := hw.const; go_simp)) hT4.out ?_
                simp only [Act.put, List.setIfInBounds_toArray, List.set_cons_zero, List.set_cons_succ]
                refine wpAnyU_one (i := 15) (by kernel_rfl) rfl ?_
                intro K hK
                go_simp
                obtain ⟨U5, hU⟩ : ∃ U, U = U4.alloc (.cells #[.slice none 0 0] 24) := ⟨_, rfl⟩
                rw [← hU]
                have hb : Below U4.heap.size U4 U5 := by rw [hU]; exact below_al6 (Below.refl _ _)
                obtain ⟨px, hpx⟩ : ∃ q, q = U4.heap.size := ⟨_, rfl⟩
                have hpx2 : wr.heap.size ≤ px := by rw [hpx]; exact he.size
                have FX : BoxG U5 px (.slice none 0 0) := by rw [hU, hpx]; exact BoxG.new U4 _
                rw [← hpx]
                clear hU hpx
                replace F9 := own_keep10 F9 hb
                replace he : Below wr.heap.size wr U5 := below_nx6 he hb
                clear hb
                have hT5 : Hid (U5.cell? ⟨pv, 0, none⟩ = some (.slice (some ⟨g, 0, none⟩) m (m + 1))) := hide (HBXR.out.kept he).c0
                refine hK.out _ _ hT5.out (fun _ => ?_)
                clear hK K hT4
                have z0 := FX.c0
                have z1 := FX.f0 0
                have hpv2 := HBXR.out.lt
                refine wpAnyU_one (i := 16) (by kernel_rfl) rfl ?_
                intro K hK
                go_simp
                have hT : Hid ((U5.setCell ⟨px, 0, none⟩ (.slice A9 (m + 1) c9)).cell? ⟨pv, 0, none⟩ = some (.slice (some ⟨g, 0, none⟩) m (m + 1))) := hide ((World.cell?_setCell_other _ _ _ _ (by simp <;> omega)).trans (HBXR.out.kept he).c0)
                refine hK.out _ _ hT.out (fun _ => ?_)
                clear hK K hT5 z0 z1
                refine wpAnyU_done (by kernel_rfl) ?_ _
                clear hT
                obtain ⟨h1, h2, h3⟩ := more_in HR.out he FX hpx2 F9 HYO.out k4 (.slice A9 (m + 1) c9)
                rw [← HMORE.out] at h1
                have HF1 := hide h1
                have HF2 := hide h2
                have HF3 := hide h3
                have HF0 := hide (FX.set (.slice A9 (m + 1) c9))
                clear h1 h2 h3 F9 FX he hpx2
                go_wp2
                go_meet
                exact ⟨px, A9, c9, rfl, HF0, HF1, HF2, HF3⟩
              · intro K hK
                go_simp
                obtain ⟨U6, hU⟩ : ∃ U, U = U3.alloc (.cells #[.slice none 0 0] 24) := ⟨_, rfl⟩
                rw [← hU]
                have hb : Below U3.heap.size U3 U6 := by rw [hU]; exact below_al6 (Below.refl _ _)
                obtain ⟨px, hpx⟩ : ∃ q, q = U3.heap.size := ⟨_, rfl⟩
                have hpx2 : wr.heap.size ≤ px := by rw [hpx]; exact he.size
                have FX : BoxG U6 px (.slice none 0 0) := by rw [hU, hpx]; exact BoxG.new U3 _
                rw [← hpx]
                clear hU hpx
                replace F8 := own_keep10 F8 hb
                replace he : Below wr.heap.size wr U6 := below_nx6 he hb
                clear hb
                have hT6 : Hid (U6.cell? ⟨pv, 0, none⟩ = some (.slice (some ⟨g, 0, none⟩) m (m + 1))) := hide (HBXR.out.kept he).c0
                refine hK.out _ _ hT6.out (fun _ => ?_)
                clear hK K hT3
                refine wpAnyU_one (i := 13) (by kernel_rfl) rfl ?_
                intro K hK
                refine step_append_srcN rfl _ _ 22 rfl 35 iN _ 5 72 Try.underlying22 HIN.out HZ0.out HZ1.out HZ2.out rfl (by decide) wr.heap.size (.slice A8 (k + 1) c8) (k + 1) (cellsN (us.take k) ++ y.five) rfl F8 he.size (some ⟨g, k * 5, none⟩) rr rc (cellsN (us.drop k)) rfl (by rw [cellsN_len, List.length_drop, HR.out.1, k7]) (by have h := ((HNU.out.below he).part k k4).cells; rw [k7, Nat.zero_add] at h; exact h) (fun h => by cases h) (cellsN_one _) (by omega) (by unfold maxLen; omega) ?_
                rw [HRR.out]
                intro A9 c9 U7 F9 hg _
                replace FX := FX.grown F8 (by decide) hg
                replace he : Below wr.heap.size wr U7 := below_own10 he F8 hg (Nat.le_refl _)
                clear hg F8
                have hT7 : Hid (U7.cell? ⟨pv, 0, none⟩ = some (.slice (some ⟨g, 0, none⟩) m (m + 1))) := hide (HBXR.out.kept he).c0
                refine hK.out _ _ hT7.out (fun _ => ?_)
                clear hK K hT6
                refine wpAnyU_take (i := 14) (oi := { dst := some 106, op := _, type := _, pos := _, after := _, guard := none }) (v := .agg #[.slice A9 (m + 1) c9]) rfl (by kernel_rfl) (by kernel_rfl) (by kernel_rfl) (by kernel_rfl) (fun _ _ _ h => h) (yields_take rfl (fun w' hw => by have h1 := hw.const; go_simp)) hT7.out ?_
                simp only [Act.put, List.setIfInBounds_toArray, List.set_cons_zero, List.set_cons_succ]
                have z0 := FX.c0
                have z1 := FX.f0 0
                have hpv2 := HBXR.out.lt
                refine wpAnyU_one (i := 16) (by kernel_rfl) rfl ?_
                intro K hK
                go_simp
                have hT : Hid ((U7.setCell ⟨px, 0, none⟩ (.slice A9 (m + 1) c9)).cell? ⟨pv, 0, none⟩ = some (.slice (some ⟨g, 0, none⟩) m (m + 1))) := hide ((World.cell?_setCell_other _ _ _ _ (by simp <;> omega)).trans (HBXR.out.kept he).c0)
                refine hK.out _ _ hT.out (fun _ => ?_)
                clear hK K hT7 z0 z1
                refine wpAnyU_done (by kernel_rfl) ?_ _
                clear hT
                obtain ⟨h1, h2, h3⟩ := more_in HR.out he FX hpx2 F9 HYO.out k4 (.slice A9 (m + 1) c9)
                rw [← HMORE.out] at h1
                have HF1 := hide h1
                have HF2 := hide h2
                have HF3 := hide h3
                have HF0 := hide (FX.set (.slice A9 (m + 1) c9))
                clear h1 h2 h3 F9 FX he hpx2
                go_wp2
                go_meet
                exact ⟨px, A9, c9, rfl, HF0, HF1, HF2, HF3⟩
            · intro K hK
              go_simp
              obtain ⟨U8, hU⟩ : ∃ U, U = U2.alloc (.cells #[.slice none 0 0] 24) := ⟨_, rfl⟩
              rw [← hU]
              have hb : Below U2.heap.size U2 U8 := by rw [hU]; exact below_al6 (Below.refl _ _)
              obtain ⟨px, hpx⟩ : ∃ q, q = U2.heap.size := ⟨_, rfl⟩
              have hpx2 : wr.heap.size ≤ px := by rw [hpx]; exact he.size
              have FX : BoxG U8 px (.slice none 0 0) := by rw [hU, hpx]; exact BoxG.new U2 _
              rw [← hpx]
              clear hU hpx
              replace F4 := own_keep10 F4 hb
              replace F7 := five_below F7 hg7 hb
              replace hg7 := Nat.lt_of_lt_of_le hg7 hb.size
              replace he : Below wr.heap.size wr U8 := below_nx6 he hb
              clear hb
              have hT8 : Hid (U8.cell? ⟨pv, 0, none⟩ = some (.slice (some ⟨g, 0, none⟩) m (m + 1))) := hide (HBXR.out.kept he).c0
              refine hK.out _ _ hT8.out (fun _ => ?_)
              clear hK K hT2
              refine wpAnyU_one (i := 8) (by kernel_rfl) rfl ?_
              intro K hK
              refine step_append_srcN rfl _ _ 22 rfl 35 iN _ 5 72 Try.underlying22 HIN.out HZ0.out HZ1.out HZ2.out rfl (by decide) wr.heap.size (.slice A4 k c4) k (cellsN (us.take k)) rfl F4 he.size (some ⟨gy, 0, none⟩) 1 1 y.five rfl rfl (fun _ => ⟨_, rfl, F7⟩) (fun h => by cases h) (by rw [HYF.out]; intro u hu; simp only [List.mem_cons, List.not_mem_nil, or_false] at hu; rcases hu with rfl | rfl | rfl | rfl | rfl <;> rfl) (by omega) (by unfold maxLen; omega) ?_
              intro A8 c8 U9 F8 hg _
              replace FX := FX.grown F4 (by decide) hg
              replace he : Below wr.heap.size wr U9 := below_own10 he F4 hg (Nat.le_refl _)
              clear hg F4 F7 hg7
              have hT9 : Hid (U9.cell? ⟨pv, 0, none⟩ = some (.slice (some ⟨g, 0, none⟩) m (m + 1))) := hide (HBXR.out.kept he).c0
              refine hK.out _ _ hT9.out (fun _ => ?_)
              clear hK K hT8
              refine wpAnyU_one (i := 13) (by kernel_rfl) rfl ?_
              intro K hK
              refine step_append_srcN rfl _ _ 22 rfl 35 iN _ 5 72 Try.underlying22 HIN.out HZ0.out HZ1.out HZ2.out rfl (by decide) wr.heap.size (.slice A8 (k + 1) c8) (k + 1) (cellsN (us.take k) ++ y.five) rfl F8 he.size (some ⟨g, k * 5, none⟩) rr rc (cellsN (us.drop k)) rfl (by rw [cellsN_len, List.length_drop, HR.out.1, k7]) (by have h := ((HNU.out.below he).part k k4).cells; rw [k7, Nat.zero_add] at h; exact h) (fun h => by cases h) (cellsN_one _) (by omega) (by unfold maxLen; omega) ?_
              rw [HRR.out]
              intro A9 c9 U10 F9 hg _
              replace FX := FX.grown F8 (by decide) hg
              replace he : Below wr.heap.size wr U10 := below_own10 he F8 hg (Nat.le_refl _)
              clear hg F8
              have hT10 : Hid (U10.cell? ⟨pv, 0, none⟩ = some (.slice (some ⟨g, 0, none⟩) m (m + 1))) := hide (HBXR.out.kept he).c0
              refine hK.out _ _ hT10.out (fun _ => ?_)
              clear hK K hT9
              refine wpAnyU_take (i := 14) (oi := { dst := some 106, op := _, type := _, pos := _, after := _, guard := none }) (v := .agg #[.slice A9 (m + 1) c9]) rfl (by kernel_rfl) (by kernel_rfl) (by kernel_rfl) (by kernel_rfl) (fun _ _ _ h => h) (yields_take rfl (fun w' hw => by have h1 := hw.const; go_simp)) hT10.out ?_
              simp only [Act.put, List.setIfInBounds_toArray, List.set_cons_zero, List.set_cons_succ]
              have z0 := FX.c0
              have z1 := FX.f0 0
              have hpv2 := HBXR.out.lt
              refine wpAnyU_one (i := 16) (by kernel_rfl) rfl ?_
              intro K hK
              go_simp
              have hT : Hid ((U10.setCell ⟨px, 0, none⟩ (.slice A9 (m + 1) c9)).cell? ⟨pv, 0, none⟩ = some (.slice (some ⟨g, 0, none⟩) m (m + 1))) := hide ((World.cell?_setCell_other _ _ _ _ (by simp <;> omega)).trans (HBXR.out.kept he).c0)
              refine hK.out _ _ hT.out (fun _ => ?_)
              clear hK K hT10 z0 z1
              refine wpAnyU_done (by kernel_rfl) ?_ _
              clear hT
              obtain ⟨h1, h2, h3⟩ := more_in HR.out he FX hpx2 F9 HYO.out k4 (.slice A9 (m + 1) c9)
              rw [← HMORE.out] at h1
              have HF1 := hide h1
              have HF2 := hide h2
              have HF3 := hide h3
              have HF0 := hide (FX.set (.slice A9 (m + 1) c9))
              clear h1 h2 h3 F9 FX he hpx2
              go_wp2
              go_meet
              exact ⟨px, A9, c9, rfl, HF0, HF1, HF2, HF3⟩
          · intro K hK
            go_simp
            obtain ⟨U11, hU⟩ : ∃ U, U = U1.alloc (.cells #[.slice none 0 0] 24) := ⟨_, rfl⟩
            rw [← hU]
            have hb : Below U1.heap.size U1 U11 := by rw [hU]; exact below_al6 (Below.refl _ _)
            obtain ⟨px, hpx⟩ : ∃ q, q = U1.heap.size := ⟨_, rfl⟩
            have hpx2 : wr.heap.size ≤ px := by rw [hpx]; exact he.size
            have FX : BoxG U11 px (.slice none 0 0) := by rw [hU, hpx]; exact BoxG.new U1 _
            rw [← hpx]
            clear hU hpx
            replace F4 := own_keep10 F4 hb
            replace he : Below wr.heap.size wr U11 := below_nx6 he hb
            clear hb
            have hT11 : Hid (U11.cell? ⟨pv, 0, none⟩ = some (.slice (some ⟨g, 0, none⟩) m (m + 1))) := hide (HBXR.out.kept he).c0
            refine hK.out _ _ hT11.out (fun _ => ?_)
            clear hK K hT1
            refine wpAnyU_one (i := 7) (by kernel_rfl) rfl ?_
            intro K hK
            go_simp
            obtain ⟨U12, hU⟩ : ∃ U, U = U11.alloc (.cells #[.int .u8 2, .slice none 0 0, .slice D l dc, .int .i64 0, .int .i64 0] 35) := ⟨_, rfl⟩
            rw [← hU]
            have hb : Below U11.heap.size U11 U12 := by rw [hU]; exact below_al6 (Below.refl _ _)
            obtain ⟨gy, hgy⟩ : ∃ q, q = U11.heap.size := ⟨_, rfl⟩
            have hg7 : gy < U12.heap.size := by rw [hU, hgy]; simp
            have F7 : ∀ j u, y.five[j]? = some u → U12.cell? ((⟨gy, 0, none⟩ : Addr).add j) = some u := by rw [hU, hgy, HYF.out]; exact cells_new U11 _ 35
            rw [← hgy]
            clear hU hgy
            replace F4 := own_keep10 F4 hb
            replace FX := FX.kept hb
            replace he : Below wr.heap.size wr U12 := below_nx6 he hb
            clear hb
            have hT12 : Hid (U12.cell? ⟨pv, 0, none⟩ = some (.slice (some ⟨g, 0, none⟩) m (m + 1))) := hide (HBXR.out.kept he).c0
            refine hK.out _ _ hT12.out (fun _ => ?_)
            clear hK K hT11
            refine wpAnyU_one (i := 8) (by kernel_rfl) rfl ?_
            intro K hK
            refine step_append_srcN rfl _ _ 22 rfl 35 iN _ 5 72 Try.underlying22 HIN.out HZ0.out HZ1.out HZ2.out rfl (by decide) wr.heap.size (.slice A4 k c4) k (cellsN (us.take k)) rfl F4 he.size (some ⟨gy, 0, none⟩) 1 1 y.five rfl rfl (fun _ => ⟨_, rfl, F7⟩) (fun h => by cases h) (by rw [HYF.out]; intro u hu; simp only [List.mem_cons, List.not_mem_nil, or_false] at hu; rcases hu with rfl | rfl | rfl | rfl | rfl <;> rfl) (by omega) (by unfold maxLen; omega) ?_
            intro A8 c8 U13 F8 hg _
            replace FX := FX.grown F4 (by decide) hg
            replace he : Below wr.heap.size wr U13 := below_own10 he F4 hg (Nat.le_refl _)
            clear hg F4 F7 hg7
            have hT13 : Hid (U13.cell? ⟨pv, 0, none⟩ = some (.slice (some ⟨g, 0, none⟩) m (m + 1))) := hide (HBXR.out.kept he).c0
            refine hK.out _ _ hT13.out (fun _ => ?_)
            clear hK K hT12
            refine wpAnyU_one (i := 13) (by kernel_rfl) rfl ?_
            intro K hK
            refine step_append_srcN rfl _ _ 22 rfl 35 iN _ 5 72 Try.underlying22 HIN.out HZ0.out HZ1.out HZ2.out rfl (by decide) wr.heap.size (.slice A8 (k + 1) c8) (k + 1) (cellsN (us.take k) ++ y.five) rfl F8 he.size (some ⟨g, k * 5, none⟩) rr rc (cellsN (us.drop k)) rfl (by rw [cellsN_len, List.length_drop, HR.out.1, k7]) (by have h := ((HNU.out.below he).part k k4).cells; rw [k7, Nat.zero_add] at h; exact h) (fun h => by cases h) (cellsN_one _) (by omega) (by unfold maxLen; omega) ?_
            rw [HRR.out]
            intro A9 c9 U14 F9 hg _
            replace FX := FX.grown F8 (by decide) hg
            replace he : Below wr.heap.size wr U14 := below_own10 he F8 hg (Nat.le_refl _)
            clear hg F8
            have hT14 : Hid (U14.cell? ⟨pv, 0, none⟩ = some (.slice (some ⟨g, 0, none⟩) m (m + 1))) := hide (HBXR.out.kept he).c0
            refine hK.out _ _ hT14.out (fun _ => ?_)
            clear hK K hT13
            refine wpAnyU_take (i := 14) (oi := { dst := some 106, op := _, type := _, pos := _, after := _, guard := none }) (v := .agg #[.slice A9 (m + 1) c9]) rfl (by kernel_rfl) (by kernel_rfl) (by kernel_rfl) (by kernel_rfl) (fun _ _ _ h => h) (yields_take rfl (fun w' hw => by have h1 := hw.const; go_simp)) hT14.out ?_
            simp only [Act.put, List.setIfInBounds_toArray, List.set_cons_zero, List.set_cons_succ]
            have z0 := FX.c0
            have z1 := FX.f0 0
            have hpv2 := HBXR.out.lt
            refine wpAnyU_one (i := 16) (by kernel_rfl) rfl ?_
            intro K hK
            go_simp
            have hT : Hid ((U14.setCell ⟨px, 0, none⟩ (.slice A9 (m + 1) c9)).cell? ⟨pv, 0, none⟩ = some (.slice (some ⟨g, 0, none⟩) m (m + 1))) := hide ((World.cell?_setCell_other _ _ _ _ (by simp <;> omega)).trans (HBXR.out.kept he).c0)
            refine hK.out _ _ hT.out (fun _ => ?_)
            clear hK K hT14 z0 z1
            refine wpAnyU_done (by kernel_rfl) ?_ _
            clear hT
            obtain ⟨h1, h2, h3⟩ := more_in HR.out he FX hpx2 F9 HYO.out k4 (.slice A9 (m + 1) c9)
            rw [← HMORE.out] at h1
            have HF1 := hide h1
            have HF2 := hide h2
            have HF3 := hide h3
            have HF0 := hide (FX.set (.slice A9 (m + 1) c9))
            clear h1 h2 h3 F9 FX he hpx2
            go_wp2
            go_meet
            exact ⟨px, A9, c9, rfl, HF0, HF1, HF2, HF3⟩
        · intro K hK
          go_simp
          obtain ⟨U15, hU⟩ : ∃ U, U = U0.alloc (.cells #[.int .u8 2, .slice none 0 0, .slice D l dc, .int .i64 0, .int .i64 0] 35) := ⟨_, rfl⟩
          rw [← hU]
          have hb : Below U0.heap.size U0 U15 := by rw [hU]; exact below_al6 (Below.refl _ _)
          obtain ⟨gy, hgy⟩ : ∃ q, q = U0.heap.size := ⟨_, rfl⟩
          have hg7 : gy < U15.heap.size := by rw [hU, hgy]; simp
          have F7 : ∀ j u, y.five[j]? = some u → U15.cell? ((⟨gy, 0, none⟩ : Addr).add j) = some u := by rw [hU, hgy, HYF.out]; exact cells_new U0 _ 35
          rw [← hgy]
          clear hU hgy
          replace he : Below wr.heap.size wr U15 := below_nx6 he hb
          clear hb
          have hT15 : Hid (U15.cell? ⟨pv, 0, none⟩ = some (.slice (some ⟨g, 0, none⟩) m (m + 1))) := hide (HBXR.out.kept he).c0
          refine hK.out _ _ hT15.out (fun _ => ?_)
          clear hK K hS0
          refine wpAnyU_or (i := 4) (j := 15) (by kernel_rfl) rfl rfl ?_ ?_
          · intro K hK
            refine step_append_nilN rfl _ _ 22 rfl 35 iN _ 5 72 Try.underlying22 HIN.out HZ0.out HZ1.out HZ2.out rfl (by decide) wr.heap.size rfl he.size (some ⟨g, 0, none⟩) k (m + 1) (cellsN (us.take k)) rfl (by rw [cellsN_len, List.length_take, HR.out.1, Nat.min_eq_left k4]) ((HNU.out.below he).pre k4).cells (fun h => by cases h) (cellsN_one _) (by omega) (by unfold maxLen; omega) ?_
            intro A4 c4 U16 F4 hb
            replace F7 := five_below F7 hg7 hb
            replace hg7 := Nat.lt_of_lt_of_le hg7 hb.size
            replace he : Below wr.heap.size wr U16 := below_nx6 he hb
            clear hb
            have hT16 : Hid (U16.cell? ⟨pv, 0, none⟩ = some (.slice (some ⟨g, 0, none⟩) m (m + 1))) := hide (HBXR.out.kept he).c0
            refine hK.out _ _ hT16.out (fun _ => ?_)
            clear hK K hT15
            refine wpAnyU_or (i := 8) (j := 15) (by kernel_rfl) rfl rfl ?_ ?_
            · intro K hK
              refine step_append_srcN rfl _ _ 22 rfl 35 iN _ 5 72 Try.underlying22 HIN.out HZ0.out HZ1.out HZ2.out rfl (by decide) wr.heap.size (.slice A4 k c4) k (cellsN (us.take k)) rfl F4 he.size (some ⟨gy, 0, none⟩) 1 1 y.five rfl rfl (fun _ => ⟨_, rfl, F7⟩) (fun h => by cases h) (by rw [HYF.out]; intro u hu; simp only [List.mem_cons, List.not_mem_nil, or_false] at hu; rcases hu with rfl | rfl | rfl | rfl | rfl <;> rfl) (by omega) (by unfold maxLen; omega) ?_
              intro A8 c8 U17 F8 hg _
              replace he : Below wr.heap.size wr U17 := below_own10 he F4 hg (Nat.le_refl _)
              clear hg F4 F7 hg7
              have hT17 : Hid (U17.cell? ⟨pv, 0, none⟩ = some (.slice (some ⟨g, 0, none⟩) m (m + 1))) := hide (HBXR.out.kept he).c0
              refine hK.out _ _ hT17.out (fun _ => ?_)
              clear hK K hT16
              refine wpAnyU_or (i := 13) (j := 15) (by kernel_rfl) rfl rfl ?_ ?_
              · intro K hK
                refine step_append_srcN rfl _ _ 22 rfl 35 iN _ 5 72 Try.underlying22 HIN.out HZ0.out HZ1.out HZ2.out rfl (by decide) wr.heap.size (.slice A8 (k + 1) c8) (k + 1) (cellsN (us.take k) ++ y.five) rfl F8 he.size (some ⟨g, k * 5, none⟩) rr rc (cellsN (us.drop k)) rfl (by rw [cellsN_len, List.length_drop, HR.out.1, k7]) (by have h := ((HNU.out.below he).part k k4).cells; rw [k7, Nat.zero_add] at h; exact h) (fun h => by cases h) (cellsN_one _) (by omega) (by unfold maxLen; omega) ?_
                rw [HRR.out]
                intro A9 c9 U18 F9 hg _
                replace he : Below wr.heap.size wr U18 := below_own10 he F8 hg (Nat.le_refl _)
                clear hg F8
                have hT18 : Hid (U18.cell? ⟨pv, 0, none⟩ = some (.slice (some ⟨g, 0, none⟩) m (m + 1))) := hide (HBXR.out.kept he).c0
                refine hK.out _ _ hT18.out (fun _ => ?_)
                clear hK K hT17
                refine wpAnyU_take (i := 14) (oi := { dst := some 106, op := _, type := _, pos := _, after := _, guard := none }) (v := .agg #[.slice A9 (m + 1) c9]) rfl (by kernel_rfl) (by kernel_rfl) (by kernel_rfl) (by kernel_rfl) (fun _ _ _ h => h) (yields_take rfl (fun w' hw => by have h1 := hw.const; go_simp)) hT18.out ?_
                simp only [Act.put, List.setIfInBounds_toArray, List.set_cons_zero, List.set_cons_succ]
                refine wpAnyU_one (i := 15) (by kernel_rfl) rfl ?_
                intro K hK
                go_simp
                obtain ⟨U19, hU⟩ : ∃ U, U = U18.alloc (.cells #[.slice none 0 0] 24) := ⟨_, rfl⟩
                rw [← hU]
                have hb : Below U18.heap.size U18 U19 := by rw [hU]; exact below_al6 (Below.refl _ _)
                obtain ⟨px, hpx⟩ : ∃ q, q = U18.heap.size := ⟨_, rfl⟩
                have hpx2 : wr.heap.size ≤ px := by rw [hpx]; exact he.size
                have FX : BoxG U19 px (.slice none 0 0) := by rw [hU, hpx]; exact BoxG.new U18 _
                rw [← hpx]
                clear hU hpx
                replace F9 := own_keep10 F9 hb
                replace he : Below wr.heap.size wr U19 := below_nx6 he hb
                clear hb
                have hT19 : Hid (U19.cell? ⟨pv, 0, none⟩ = some (.slice (some ⟨g, 0, none⟩) m (m + 1))) := hide (HBXR.out.kept he).c0
                refine hK.out _ _ hT19.out (fun _ => ?_)
                clear hK K hT18
                have z0 := FX.c0
                have z1 := FX.f0 0
                have hpv2 := HBXR.out.lt
                refine wpAnyU_one (i := 16) (by kernel_rfl) rfl ?_
                intro K hK
                go_simp
                have hT : Hid ((U19.setCell ⟨px, 0, none⟩ (.slice A9 (m + 1) c9)).cell? ⟨pv, 0, none⟩ = some (.slice (some ⟨g, 0, none⟩) m (m + 1))) := hide ((World.cell?_setCell_other _ _ _ _ (by simp <;> omega)).trans (HBXR.out.kept he).c0)
                refine hK.out _ _ hT.out (fun _ => ?_)
                clear hK K hT19 z0 z1
                refine wpAnyU_done (by kernel_rfl) ?_ _
                clear hT
                obtain ⟨h1, h2, h3⟩ := more_in HR.out he FX hpx2 F9 HYO.out k4 (.slice A9 (m + 1) c9)
                rw [← HMORE.out] at h1
                have HF1 := hide h1
                have HF2 := hide h2
                have HF3 := hide h3
                have HF0 := hide (FX.set (.slice A9 (m + 1) c9))
                clear h1 h2 h3 F9 FX he hpx2
                go_wp2
                go_meet
                exact ⟨px, A9, c9, rfl, HF0, HF1, HF2, HF3⟩
              · intro K hK
                go_simp
                obtain ⟨U20, hU⟩ : ∃ U, U = U17.alloc (.cells #[.slice none 0 0] 24) := ⟨_, rfl⟩
                rw [← hU]
                have hb : Below U17.heap.size U17 U20 := by rw [hU]; exact below_al6 (Below.refl _ _)
                obtain ⟨px, hpx⟩ : ∃ q, q = U17.heap.size := ⟨_, rfl⟩
                have hpx2 : wr.heap.size ≤ px := by rw [hpx]; exact he.size
                have FX : BoxG U20 px (.slice none 0 0) := by rw [hU, hpx]; exact BoxG.new U17 _
                rw [← hpx]
                clear hU hpx
                replace F8 := own_keep10 F8 hb
                replace he : Below wr.heap.size wr U20 := below_nx6 he hb
                clear hb
                have hT20 : Hid (U20.cell? ⟨pv, 0, none⟩ = some (.slice (some ⟨g, 0, none⟩) m (m + 1))) := hide (HBXR.out.kept he).c0
                refine hK.out _ _ hT20.out (fun _ => ?_)
                clear hK K hT17
                refine wpAnyU_one (i := 13) (by kernel_rfl) rfl ?_
                intro K hK
                refine step_append_srcN rfl _ _ 22 rfl 35 iN _ 5 72 Try.underlying22 HIN.out HZ0.out HZ1.out HZ2.out rfl (by decide) wr.heap.size (.slice A8 (k + 1) c8) (k + 1) (cellsN (us.take k) ++ y.five) rfl F8 he.size (some ⟨g, k * 5, none⟩) rr rc (cellsN (us.drop k)) rfl (by rw [cellsN_len, List.length_drop, HR.out.1, k7]) (by have h := ((HNU.out.below he).part k k4).cells; rw [k7, Nat.zero_add] at h; exact h) (fun h => by cases h) (cellsN_one _) (by omega) (by unfold maxLen; omega) ?_
                rw [HRR.out]
                intro A9 c9 U21 F9 hg _
                replace FX := FX.grown F8 (by decide) hg
                replace he : Below wr.heap.size wr U21 := below_own10 he F8 hg (Nat.le_refl _)
                clear hg F8
                have hT21 : Hid (U21.cell? ⟨pv, 0, none⟩ = some (.slice (some ⟨g, 0, none⟩) m (m + 1))) := hide (HBXR.out.kept he).c0
                refine hK.out _ _ hT21.out (fun _ => ?_)
                clear hK K hT20
                refine wpAnyU_take (i := 14) (oi := { dst := some 106, op := _, type := _, pos := _, after := _, guard := none }) (v := .agg #[.slice A9 (m + 1) c9]) rfl (by kernel_rfl) (by kernel_rfl) (by kernel_rfl) (by kernel_rfl) (fun _ _ _ h => h) (yields_take rfl (fun w' hw => by have h1 := hw.const; go_simp)) hT21.out ?_
                simp only [Act.put, List.setIfInBounds_toArray, List.set_cons_zero, List.set_cons_succ]
                have z0 := FX.c0
                have z1 := FX.f0 0
                have hpv2 := HBXR.out.lt
                refine wpAnyU_one (i := 16) (by kernel_rfl) rfl ?_
                intro K hK
                go_simp
                have hT : Hid ((U21.setCell ⟨px, 0, none⟩ (.slice A9 (m + 1) c9)).cell? ⟨pv, 0, none⟩ = some (.slice (some ⟨g, 0, none⟩) m (m + 1))) := hide ((World.cell?_setCell_other _ _ _ _ (by simp <;> omega)).trans (HBXR.out.kept he).c0)
                refine hK.out _ _ hT.out (fun _ => ?_)
                clear hK K hT21 z0 z1
                refine wpAnyU_done (by kernel_rfl) ?_ _
                clear hT
                obtain ⟨h1, h2, h3⟩ := more_in HR.out he FX hpx2 F9 HYO.out k4 (.slice A9 (m + 1) c9)
                rw [← HMORE.out] at h1
                have HF1 := hide h1
                have HF2 := hide h2
                have HF3 := hide h3
                have HF0 := hide (FX.set (.slice A9 (m + 1) c9))
                clear h1 h2 h3 F9 FX he hpx2
                go_wp2
                go_meet
                exact ⟨px, A9, c9, rfl, HF0, HF1, HF2, HF3⟩
            · intro K hK
              go_simp
              obtain ⟨U22, hU⟩ : ∃ U, U = U16.alloc (.cells #[.slice none 0 0] 24) := ⟨_, rfl⟩
              rw [← hU]
              have hb : Below U16.heap.size U16 U22 := by rw [hU]; exact below_al6 (Below.refl _ _)
              obtain ⟨px, hpx⟩ : ∃ q, q = U16.heap.size := ⟨_, rfl⟩
              have hpx2 : wr.heap.size ≤ px := by rw [hpx]; exact he.size
              have FX : BoxG U22 px (.slice none 0 0) := by rw [hU, hpx]; exact BoxG.new U16 _
              rw [← hpx]
              clear hU hpx
              replace F4 := own_keep10 F4 hb
              replace F7 := five_below F7 hg7 hb
              replace hg7 := Nat.lt_of_lt_of_le hg7 hb.size
              replace he : Below wr.heap.size wr U22 := below_nx6 he hb
              clear hb
              have hT22 : Hid (U22.cell? ⟨pv, 0, none⟩ = some (.slice (some ⟨g, 0, none⟩) m (m + 1))) := hide (HBXR.out.kept he).c0
              refine hK.out _ _ hT22.out (fun _ => ?_)
              clear hK K hT16
              refine wpAnyU_one (i := 8) (by kernel_rfl) rfl ?_
              intro K hK
              refine step_append_srcN rfl _ _ 22 rfl 35 iN _ 5 72 Try.underlying22 HIN.out HZ0.out HZ1.out HZ2.out rfl (by decide) wr.heap.size (.slice A4 k c4) k (cellsN (us.take k)) rfl F4 he.size (some ⟨gy, 0, none⟩) 1 1 y.five rfl rfl (fun _ => ⟨_, rfl, F7⟩) (fun h => by cases h) (by rw [HYF.out]; intro u hu; simp only [List.mem_cons, List.not_mem_nil, or_false] at hu; rcases hu with rfl | rfl | rfl | rfl | rfl <;> rfl) (by omega) (by unfold maxLen; omega) ?_
              intro A8 c8 U23 F8 hg _
              replace FX := FX.grown F4 (by decide) hg
              replace he : Below wr.heap.size wr U23 := below_own10 he F4 hg (Nat.le_refl _)
              clear hg F4 F7 hg7
              have hT23 : Hid (U23.cell? ⟨pv, 0, none⟩ = some (.slice (some ⟨g, 0, none⟩) m (m + 1))) := hide (HBXR.out.kept he).c0
              refine hK.out _ _ hT23.out (fun _ => ?_)
              clear hK K hT22
              refine wpAnyU_one (i := 13) (by kernel_rfl) rfl ?_
              intro K hK
              refine step_append_srcN rfl _ _ 22 rfl 35 iN _ 5 72 Try.underlying22 HIN.out HZ0.out HZ1.out HZ2.out rfl (by decide) wr.heap.size (.slice A8 (k + 1) c8) (k + 1) (cellsN (us.take k) ++ y.five) rfl F8 he.size (some ⟨g, k * 5, none⟩) rr rc (cellsN (us.drop k)) rfl (by rw [cellsN_len, List.length_drop, HR.out.1, k7]) (by have h := ((HNU.out.below he).part k k4).cells; rw [k7, Nat.zero_add] at h; exact h) (fun h => by cases h) (cellsN_one _) (by omega) (by unfold maxLen; omega) ?_
              rw [HRR.out]
              intro A9 c9 U24 F9 hg _
              replace FX := FX.grown F8 (by decide) hg
              replace he : Below wr.heap.size wr U24 := below_own10 he F8 hg (Nat.le_refl _)
              clear hg F8
              have hT24 : Hid (U24.cell? ⟨pv, 0, none⟩ = some (.slice (some ⟨g, 0, none⟩) m (m + 1))) := hide (HBXR.out.kept he).c0
              refine hK.out _ _ hT24.out (fun _ => ?_)
              clear hK K hT23
              refine wpAnyU_take (i := 14) (oi := { dst := some 106, op := _, type := _, pos := _, after := _, guard := none }) (v := .agg #[.slice A9 (m + 1) c9]) rfl (by kernel_rfl) (by kernel_rfl) (by kernel_rfl) (by kernel_rfl) (fun _ _ _ h => h) (yields_take rfl (fun w' hw => by have h1 := hw.const; go_simp)) hT24.out ?_
              simp only [Act.put, List.setIfInBounds_toArray, List.set_cons_zero, List.set_cons_succ]
              have z0 := FX.c0
              have z1 := FX.f0 0
              have hpv2 := HBXR.out.lt
              refine wpAnyU_one (i := 16) (by kernel_rfl) rfl ?_
              intro K hK
              go_simp
              have hT : Hid ((U24.setCell ⟨px, 0, none⟩ (.slice A9 (m + 1) c9)).cell? ⟨pv, 0, none⟩ = some (.slice (some ⟨g, 0, none⟩) m (m + 1))) := hide ((World.cell?_setCell_other _ _ _ _ (by simp <;> omega)).trans (HBXR.out.kept he).c0)
              refine hK.out _ _ hT.out (fun _ => ?_)
              clear hK K hT24 z0 z1
              refine wpAnyU_done (by kernel_rfl) ?_ _
              clear hT
              obtain ⟨h1, h2, h3⟩ := more_in HR.out he FX hpx2 F9 HYO.out k4 (.slice A9 (m + 1) c9)
              rw [← HMORE.out] at h1
              have HF1 := hide h1
              have HF2 := hide h2
              have HF3 := hide h3
              have HF0 := hide (FX.set (.slice A9 (m + 1) c9))
              clear h1 h2 h3 F9 FX he hpx2
              go_wp2
              go_meet
              exact ⟨px, A9, c9, rfl, HF0, HF1, HF2, HF3⟩
          · intro K hK
            go_simp
            obtain ⟨U25, hU⟩ : ∃ U, U = U15.alloc (.cells #[.slice none 0 0] 24) := ⟨_, rfl⟩
            rw [← hU]
            have hb : Below U15.heap.size U15 U25 := by rw [hU]; exact below_al6 (Below.refl _ _)
            obtain ⟨px, hpx⟩ : ∃ q, q = U15.heap.size := ⟨_, rfl⟩
            have hpx2 : wr.heap.size ≤ px := by rw [hpx]; exact he.size
            have FX : BoxG U25 px (.slice none 0 0) := by rw [hU, hpx]; exact BoxG.new U15 _
            rw [← hpx]
            clear hU hpx
            replace F7 := five_below F7 hg7 hb
            replace hg7 := Nat.lt_of_lt_of_le hg7 hb.size
            replace he : Below wr.heap.size wr U25 := below_nx6 he hb
            clear hb
            have hT25 : Hid (U25.cell? ⟨pv, 0, none⟩ = some (.slice (some ⟨g, 0, none⟩) m (m + 1))) := hide (HBXR.out.kept he).c0
            refine hK.out _ _ hT25.out (fun _ => ?_)
            clear hK K hT15
            refine wpAnyU_one (i := 4) (by kernel_rfl) rfl ?_
            intro K hK
            refine step_append_nilN rfl _ _ 22 rfl 35 iN _ 5 72 Try.underlying22 HIN.out HZ0.out HZ1.out HZ2.out rfl (by decide) wr.heap.size rfl he.size (some ⟨g, 0, none⟩) k (m + 1) (cellsN (us.take k)) rfl (by rw [cellsN_len, List.length_take, HR.out.1, Nat.min_eq_left k4]) ((HNU.out.below he).pre k4).cells (fun h => by cases h) (cellsN_one _) (by omega) (by unfold maxLen; omega) ?_
            intro A4 c4 U26 F4 hb
            replace F7 := five_below F7 hg7 hb
            replace hg7 := Nat.lt_of_lt_of_le hg7 hb.size
            replace FX := FX.kept hb
            replace he : Below wr.heap.size wr U26 := below_nx6 he hb
            clear hb
            have hT26 : Hid (U26.cell? ⟨pv, 0, none⟩ = some (.slice (some ⟨g, 0, none⟩) m (m + 1))) := hide (HBXR.out.kept he).c0
            refine hK.out _ _ hT26.out (fun _ => ?_)
            clear hK K hT25
            refine wpAnyU_one (i := 8) (by kernel_rfl) rfl ?_
            intro K hK
            refine step_append_srcN rfl _ _ 22 rfl 35 iN _ 5 72 Try.underlying22 HIN.out HZ0.out HZ1.out HZ2.out rfl (by decide) wr.heap.size (.slice A4 k c4) k (cellsN (us.take k)) rfl F4 he.size (some ⟨gy, 0, none⟩) 1 1 y.five rfl rfl (fun _ => ⟨_, rfl, F7⟩) (fun h => by cases h) (by rw [HYF.out]; intro u hu; simp only [List.mem_cons, List.not_mem_nil, or_false] at hu; rcases hu with rfl | rfl | rfl | rfl | rfl <;> rfl) (by omega) (by unfold maxLen; omega) ?_
            intro A8 c8 U27 F8 hg _
            replace FX := FX.grown F4 (by decide) hg
            replace he : Below wr.heap.size wr U27 := below_own10 he F4 hg (Nat.le_refl _)
            clear hg F4 F7 hg7
            have hT27 : Hid (U27.cell? ⟨pv, 0, none⟩ = some (.slice (some ⟨g, 0, none⟩) m (m + 1))) := hide (HBXR.out.kept he).c0
            refine hK.out _ _ hT27.out (fun _ => ?_)
            clear hK K hT26
            refine wpAnyU_one (i := 13) (by kernel_rfl) rfl ?_
            intro K hK
            refine step_append_srcN rfl _ _ 22 rfl 35 iN _ 5 72 Try.underlying22 HIN.out HZ0.out HZ1.out HZ2.out rfl (by decide) wr.heap.size (.slice A8 (k + 1) c8) (k + 1) (cellsN (us.take k) ++ y.five) rfl F8 he.size (some ⟨g, k * 5, none⟩) rr rc (cellsN (us.drop k)) rfl (by rw [cellsN_len, List.length_drop, HR.out.1, k7]) (by have h := ((HNU.out.below he).part k k4).cells; rw [k7, Nat.zero_add] at h; exact h) (fun h => by cases h) (cellsN_one _) (by omega) (by unfold maxLen; omega) ?_
            rw [HRR.out]
            intro A9 c9 U28 F9 hg _
            replace FX := FX.grown F8 (by decide) hg
            replace he : Below wr.heap.size wr U28 := below_own10 he F8 hg (Nat.le_refl _)
            clear hg F8
            have hT28 : Hid (U28.cell? ⟨pv, 0, none⟩ = some (.slice (some ⟨g, 0, none⟩) m (m + 1))) := hide (HBXR.out.kept he).c0
            refine hK.out _ _ hT28.out (fun _ => ?_)
            clear hK K hT27
            refine wpAnyU_take (i := 14) (oi := { dst := some 106, op := _, type := _, pos := _, after := _, guard := none }) (v := .agg #[.slice A9 (m + 1) c9]) rfl (by kernel_rfl) (by kernel_rfl) (by kernel_rfl) (by kernel_rfl) (fun _ _ _ h => h) (yields_take rfl (fun w' hw => by have h1 := hw.const; go_simp)) hT28.out ?_
            simp only [Act.put, List.setIfInBounds_toArray, List.set_cons_zero, List.set_cons_succ]
            have z0 := FX.c0
            have z1 := FX.f0 0
            have hpv2 := HBXR.out.lt
            refine wpAnyU_one (i := 16) (by kernel_rfl) rfl ?_
            intro K hK
            go_simp
            have hT : Hid ((U28.setCell ⟨px, 0, none⟩ (.slice A9 (m + 1) c9)).cell? ⟨pv, 0, none⟩ = some (.slice (some ⟨g, 0, none⟩) m (m + 1))) := hide ((World.cell?_setCell_other _ _ _ _ (by simp <;> omega)).trans (HBXR.out.kept he).c0)
            refine hK.out _ _ hT.out (fun _ => ?_)
            clear hK K hT28 z0 z1
            refine wpAnyU_done (by kernel_rfl) ?_ _
            clear hT
            obtain ⟨h1, h2, h3⟩ := more_in HR.out he FX hpx2 F9 HYO.out k4 (.slice A9 (m + 1) c9)
            rw [← HMORE.out] at h1
            have HF1 := hide h1
            have HF2 := hide h2
            have HF3 := hide h3
            have HF0 := hide (FX.set (.slice A9 (m + 1) c9))
            clear h1 h2 h3 F9 FX he hpx2
            go_wp2
            go_meet
            exact ⟨px, A9, c9, rfl, HF0, HF1, HF2, HF3⟩
        · intro K hK
          go_simp
          obtain ⟨U29, hU⟩ : ∃ U, U = U0.alloc (.cells #[.slice none 0 0] 24) := ⟨_, rfl⟩
          rw [← hU]
          have hb : Below U0.heap.size U0 U29 := by rw [hU]; exact below_al6 (Below.refl _ _)
          obtain ⟨px, hpx⟩ : ∃ q, q = U0.heap.size := ⟨_, rfl⟩
          have hpx2 : wr.heap.size ≤ px := by rw [hpx]; exact he.size
          have FX : BoxG U29 px (.slice none 0 0) := by rw [hU, hpx]; exact BoxG.new U0 _
          rw [← hpx]
          clear hU hpx
          replace he : Below wr.heap.size wr U29 := below_nx6 he hb
          clear hb
          have hT29 : Hid (U29.cell? ⟨pv, 0, none⟩ = some (.slice (some ⟨g, 0, none⟩) m (m + 1))) := hide (HBXR.out.kept he).c0
          refine hK.out _ _ hT29.out (fun _ => ?_)
          clear hK K hS0
          refine wpAnyU_or (i := 4) (j := 7) (by kernel_rfl) rfl rfl ?_ ?_
          · intro K hK
            refine step_append_nilN rfl _ _ 22 rfl 35 iN _ 5 72 Try.underlying22 HIN.out HZ0.out HZ1.out HZ2.out rfl (by decide) wr.heap.size rfl he.size (some ⟨g, 0, none⟩) k (m + 1) (cellsN (us.take k)) rfl (by rw [cellsN_len, List.length_take, HR.out.1, Nat.min_eq_left k4]) ((HNU.out.below he).pre k4).cells (fun h => by cases h) (cellsN_one _) (by omega) (by unfold maxLen; omega) ?_
            intro A4 c4 U30 F4 hb
            replace FX := FX.kept hb
            replace he : Below wr.heap.size wr U30 := below_nx6 he hb
            clear hb
            have hT30 : Hid (U30.cell? ⟨pv, 0, none⟩ = some (.slice (some ⟨g, 0, none⟩) m (m + 1))) := hide (HBXR.out.kept he).c0
            refine hK.out _ _ hT30.out (fun _ => ?_)
            clear hK K hT29
            refine wpAnyU_one (i := 7) (by kernel_rfl) rfl ?_
            intro K hK
            go_simp
            obtain ⟨U31, hU⟩ : ∃ U, U = U30.alloc (.cells #[.int .u8 2, .slice none 0 0, .slice D l dc, .int .i64 0, .int .i64 0] 35) := ⟨_, rfl⟩
            rw [← hU]
            have hb : Below U30.heap.size U30 U31 := by rw [hU]; exact below_al6 (Below.refl _ _)
            obtain ⟨gy, hgy⟩ : ∃ q, q = U30.heap.size := ⟨_, rfl⟩
            have hg7 : gy < U31.heap.size := by rw [hU, hgy]; simp
            have F7 : ∀ j u, y.five[j]? = some u → U31.cell? ((⟨gy, 0, none⟩ : Addr).add j) = some u := by rw [hU, hgy, HYF.out]; exact cells_new U30 _ 35
            rw [← hgy]
            clear hU hgy
            replace F4 := own_keep10 F4 hb
            replace FX := FX.kept hb
            replace he : Below wr.heap.size wr U31 := below_nx6 he hb
            clear hb
            have hT31 : Hid (U31.cell? ⟨pv, 0, none⟩ = some (.slice (some ⟨g, 0, none⟩) m (m + 1))) := hide (HBXR.out.kept he).c0
            refine hK.out _ _ hT31.out (fun _ => ?_)
            clear hK K hT30
            refine wpAnyU_one (i := 8) (by kernel_rfl) rfl ?_
            intro K hK
            refine step_append_srcN rfl _ _ 22 rfl 35 iN _ 5 72 Try.underlying22 HIN.out HZ0.out HZ1.out HZ2.out rfl (by decide) wr.heap.size (.slice A4 k c4) k (cellsN (us.take k)) rfl F4 he.size (some ⟨gy, 0, none⟩) 1 1 y.five rfl rfl (fun _ => ⟨_, rfl, F7⟩) (fun h => by cases h) (by rw [HYF.out]; intro u hu; simp only [List.mem_cons, List.not_mem_nil, or_false] at hu; rcases hu with rfl | rfl | rfl | rfl | rfl <;> rfl) (by omega) (by unfold maxLen; omega) ?_
            intro A8 c8 U32 F8 hg _
            replace FX := FX.grown F4 (by decide) hg
            replace he : Below wr.heap.size wr U32 := below_own10 he F4 hg (Nat.le_refl _)
            clear hg F4 F7 hg7
            have hT32 : Hid (U32.cell? ⟨pv, 0, none⟩ = some (.slice (some ⟨g, 0, none⟩) m (m + 1))) := hide (HBXR.out.kept he).c0
            refine hK.out _ _ hT32.out (fun _ => ?_)
            clear hK K hT31
            refine wpAnyU_one (i := 13) (by kernel_rfl) rfl ?_
            intro K hK
            refine step_append_srcN rfl _ _ 22 rfl 35 iN _ 5 72 Try.underlying22 HIN.out HZ0.out HZ1.out HZ2.out rfl (by decide) wr.heap.size (.slice A8 (k + 1) c8) (k + 1) (cellsN (us.take k) ++ y.five) rfl F8 he.size (some ⟨g, k * 5, none⟩) rr rc (cellsN (us.drop k)) rfl (by rw [cellsN_len, List.length_drop, HR.out.1, k7]) (by have h := ((HNU.out.below he).part k k4).cells; rw [k7, Nat.zero_add] at h; exact h) (fun h => by cases h) (cellsN_one _) (by omega) (by unfold maxLen; omega) ?_
            rw [HRR.out]
            intro A9 c9 U33 F9 hg _
            replace FX := FX.grown F8 (by decide) hg
            replace he : Below wr.heap.size wr U33 := below_own10 he F8 hg (Nat.le_refl _)
            clear hg F8
            have hT33 : Hid (U33.cell? ⟨pv, 0, none⟩ = some (.slice (some ⟨g, 0, none⟩) m (m + 1))) := hide (HBXR.out.kept he).c0
            refine hK.out _ _ hT33.out (fun _ => ?_)
            clear hK K hT32
            refine wpAnyU_take (i := 14) (oi := { dst := some 106, op := _, type := _, pos := _, after := _, guard := none }) (v := .agg #[.slice A9 (m + 1) c9]) rfl (by kernel_rfl) (by kernel_rfl) (by kernel_rfl) (by kernel_rfl) (fun _ _ _ h => h) (yields_take rfl (fun w' hw => by have h1 := hw.const; go_simp)) hT33.out ?_
            simp only [Act.put, List.setIfInBounds_toArray, List.set_cons_zero, List.set_cons_succ]
            have z0 := FX.c0
            have z1 := FX.f0 0
            have hpv2 := HBXR.out.lt
            refine wpAnyU_one (i := 16) (by kernel_rfl) rfl ?_
            intro K hK
            go_simp
            have hT : Hid ((U33.setCell ⟨px, 0, none⟩ (.slice A9 (m + 1) c9)).cell? ⟨pv, 0, none⟩ = some (.slice (some ⟨g, 0, none⟩) m (m + 1))) := hide ((World.cell?_setCell_other _ _ _ _ (by simp <;> omega)).trans (HBXR.out.kept he).c0)
            refine hK.out _ _ hT.out (fun _ => ?_)
            clear hK K hT33 z0 z1
            refine wpAnyU_done (by kernel_rfl) ?_ _
            clear hT
            obtain ⟨h1, h2, h3⟩ := more_in HR.out he FX hpx2 F9 HYO.out k4 (.slice A9 (m + 1) c9)
            rw [← HMORE.out] at h1
            have HF1 := hide h1
            have HF2 := hide h2
            have HF3 := hide h3
            have HF0 := hide (FX.set (.slice A9 (m + 1) c9))
            clear h1 h2 h3 F9 FX he hpx2
            go_wp2
            go_meet
            exact ⟨px, A9, c9, rfl, HF0, HF1, HF2, HF3⟩
          · intro K hK
            go_simp
            obtain ⟨U34, hU⟩ : ∃ U, U = U29.alloc (.cells #[.int .u8 2, .slice none 0 0, .slice D l dc, .int .i64 0, .int .i64 0] 35) := ⟨_, rfl⟩
            rw [← hU]
            have hb : Below U29.heap.size U29 U34 := by rw [hU]; exact below_al6 (Below.refl _ _)
            obtain ⟨gy, hgy⟩ : ∃ q, q = U29.heap.size := ⟨_, rfl⟩
            have hg7 : gy < U34.heap.size := by rw [hU, hgy]; simp
            have F7 : ∀ j u, y.five[j]? = some u → U34.cell? ((⟨gy, 0, none⟩ : Addr).add j) = some u := by rw [hU, hgy, HYF.out]; exact cells_new U29 _ 35
            rw [← hgy]
            clear hU hgy
            replace FX := FX.kept hb
            replace he : Below wr.heap.size wr U34 := below_nx6 he hb
            clear hb
            have hT34 : Hid (U34.cell? ⟨pv, 0, none⟩ = some (.slice (some ⟨g, 0, none⟩) m (m + 1))) := hide (HBXR.out.kept he).c0
            refine hK.out _ _ hT34.out (fun _ => ?_)
            clear hK K hT29
            refine wpAnyU_one (i := 4) (by kernel_rfl) rfl ?_
            intro K hK
            refine step_append_nilN rfl _ _ 22 rfl 35 iN _ 5 72 Try.underlying22 HIN.out HZ0.out HZ1.out HZ2.out rfl (by decide) wr.heap.size rfl he.size (some ⟨g, 0, none⟩) k (m + 1) (cellsN (us.take k)) rfl (by rw [cellsN_len, List.length_take, HR.out.1, Nat.min_eq_left k4]) ((HNU.out.below he).pre k4).cells (fun h => by cases h) (cellsN_one _) (by omega) (by unfold maxLen; omega) ?_
            intro A4 c4 U35 F4 hb
            replace F7 := five_below F7 hg7 hb
            replace hg7 := Nat.lt_of_lt_of_le hg7 hb.size
            replace FX := FX.kept hb
            replace he : Below wr.heap.size wr U35 := below_nx6 he hb
            clear hb
            have hT35 : Hid (U35.cell? ⟨pv, 0, none⟩ = some (.slice (some ⟨g, 0, none⟩) m (m + 1))) := hide (HBXR.out.kept he).c0
            refine hK.out _ _ hT35.out (fun _ => ?_)
            clear hK K hT34
            refine wpAnyU_one (i := 8) (by kernel_rfl) rfl ?_
            intro K hK
            refine step_append_srcN rfl _ _ 22 rfl 35 iN _ 5 72 Try.underlying22 HIN.out HZ0.out HZ1.out HZ2.out rfl (by decide) wr.heap.size (.slice A4 k c4) k (cellsN (us.take k)) rfl F4 he.size (some ⟨gy, 0, none⟩) 1 1 y.five rfl rfl (fun _ => ⟨_, rfl, F7⟩) (fun h => by cases h) (by rw [HYF.out]; intro u hu; simp only [List.mem_cons, List.not_mem_nil, or_false] at hu; rcases hu with rfl | rfl | rfl | rfl | rfl <;> rfl) (by omega) (by unfold maxLen; omega) ?_
            intro A8 c8 U36 F8 hg _
            replace FX := FX.grown F4 (by decide) hg
            replace he : Below wr.heap.size wr U36 := below_own10 he F4 hg (Nat.le_refl _)
            clear hg F4 F7 hg7
            have hT36 : Hid (U36.cell? ⟨pv, 0, none⟩ = some (.slice (some ⟨g, 0, none⟩) m (m + 1))) := hide (HBXR.out.kept he).c0
            refine hK.out _ _ hT36.out (fun _ => ?_)
            clear hK K hT35
            refine wpAnyU_one (i := 13) (by kernel_rfl) rfl ?_
            intro K hK
            refine step_append_srcN rfl _ _ 22 rfl 35 iN _ 5 72 Try.underlying22 HIN.out HZ0.out HZ1.out HZ2.out rfl (by decide) wr.heap.size (.slice A8 (k + 1) c8) (k + 1) (cellsN (us.take k) ++ y.five) rfl F8 he.size (some ⟨g, k * 5, none⟩) rr rc (cellsN (us.drop k)) rfl (by rw [cellsN_len, List.length_drop, HR.out.1, k7]) (by have h := ((HNU.out.below he).part k k4).cells; rw [k7, Nat.zero_add] at h; exact h) (fun h => by cases h) (cellsN_one _) (by omega) (by unfold maxLen; omega) ?_
            rw [HRR.out]
            intro A9 c9 U37 F9 hg _
            replace FX := FX.grown F8 (by decide) hg
            replace he : Below wr.heap.size wr U37 := below_own10 he F8 hg (Nat.le_refl _)
            clear hg F8
            have hT37 : Hid (U37.cell? ⟨pv, 0, none⟩ = some (.slice (some ⟨g, 0, none⟩) m (m + 1))) := hide (HBXR.out.kept he).c0
            refine hK.out _ _ hT37.out (fun _ => ?_)
            clear hK K hT36
            refine wpAnyU_take (i := 14) (oi := { dst := some 106, op := _, type := _, pos := _, after := _, guard := none }) (v := .agg #[.slice A9 (m + 1) c9]) rfl (by kernel_rfl) (by kernel_rfl) (by kernel_rfl) (by kernel_rfl) (fun _ _ _ h => h) (yields_take rfl (fun w' hw => by have h1 := hw.const; go_simp)) hT37.out ?_
            simp only [Act.put, List.setIfInBounds_toArray, List.set_cons_zero, List.set_cons_succ]
            have z0 := FX.c0
            have z1 := FX.f0 0
            have hpv2 := HBXR.out.lt
            refine wpAnyU_one (i := 16) (by kernel_rfl) rfl ?_
            intro K hK
            go_simp
            have hT : Hid ((U37.setCell ⟨px, 0, none⟩ (.slice A9 (m + 1) c9)).cell? ⟨pv, 0, none⟩ = some (.slice (some ⟨g, 0, none⟩) m (m + 1))) := hide ((World.cell?_setCell_other _ _ _ _ (by simp <;> omega)).trans (HBXR.out.kept he).c0)
            refine hK.out _ _ hT.out (fun _ => ?_)
            clear hK K hT37 z0 z1
            refine wpAnyU_done (by kernel_rfl) ?_ _
            clear hT
            obtain ⟨h1, h2, h3⟩ := more_in HR.out he FX hpx2 F9 HYO.out k4 (.slice A9 (m + 1) c9)
            rw [← HMORE.out] at h1
            have HF1 := hide h1
            have HF2 := hide h2
            have HF3 := hide h3
            have HF0 := hide (FX.set (.slice A9 (m + 1) c9))
            clear h1 h2 h3 F9 FX he hpx2
            go_wp2
            go_meet
            exact ⟨px, A9, c9, rfl, HF0, HF1, HF2, HF3⟩
      case rest =>
        obtain ⟨px, A9, c9, rfl, HBM, HNM, HCM, HBC⟩ := hcut
        have HLT1 : Hid (Below W0.heap.size W0 wc) := hide (below_nx6 HBN.out (below_nx6 HBR.out HBC.out))
        have HB3 : Hid (Below w3.heap.size w3 wc) := hide (below_nx6 HBR.out HBC.out)
        clear HRR k1 k2 k5 k6 k7 k8 k9 HIN HZ0 HZ1 HZ2 HNU HYO HYF
        have c2 := HBM.out.c0
        have HS2 := hide (gshapes_any A9 (m + 1) c9 more wc HNM.out (by omega) HCM.out)
        obtain ⟨E2, hE2⟩ : ∃ z, z = gphE more := ⟨_, rfl⟩
        rw [← hE2] at HS2
        have HE2 := hide hE2
        have HSZP := hide (HGM.out.1)
        clear hE2
        go_wp2_with fail
        refine Calls.mono HS2.out ?_
        rintro e w5 ⟨R2, m2, kc2, gs2, rfl, hG2, hgs2, hb⟩
        have HG2 := hide hG2.sg
        have HKC := hide (own_le10 hG2.2.1)
        have HGS2 := hide hgs2
        have HM2 : Hid (m2 = (gphS more).length) := hide (by rw [← hgs2, List.length_map, hG2.1])
        have HB5 := hide hb
        have HLD := hide (HD.out.below (below_nx6 HLT1.out hb))
        have HCK := hide (check_any D l dc s w5 HLD.out (by omega))
        clear hb hG2 hgs2 HS2 c2
        by_cases hsz : 0 < sizeI s
        · have hfb : gphB more = true := by rw [HGM.out.1]; exact decide_eq_true hsz
          have hE0 : E2 = 0 := by rw [HE2.out]; exact gphE_zero.2 hfb
          subst hE0
          rw [decide_eq_true hsz] at HCK
          have HSI := hide (HGM.out.2 hsz)
          have hm2 : m2 = m + 1 := by rw [HM2.out, HSI.out, insL_len (by rw [gphS_len HGB.out, HL.out]; omega), gphS_len HGB.out, HL.out]
          subst hm2
          have HL4 : Hid (l ≤ 4 ∧ s.length = l) := hide ⟨by have h := (sizeI_pos hsz).2.1; rw [lies_len9 HLD.out] at h; exact h, lies_len9 HLD.out⟩
          clear hfb hsz
          go_wp2_with fail
          refine Calls.mono HCK.out ?_
          rintro e w6 ⟨rfl, hb⟩
          have HB6 := hide (below_nx6 HB5.out hb)
          have HG6 := hide (HG2.out.below hb)
          have HLD6 := hide (HLD.out.below hb)
          clear hb HCK
          obtain ⟨bT, oT, g2, rfl, hg2, hcg2, hlg2, hgn2, hgo2⟩ := HG6.out.at (show k < m + 1 by omega)
          obtain ⟨bS, oS, gx, rfl, _, _, _, _, _⟩ := HSG.out.at hkm
          have HEQ : Hid (g2.s = s) := hide (by
            have h1 : (gs2.map Sg.s)[k]? = some g2.s := by rw [List.getElem?_map, hg2]; rfl
            have hlk : ((gphS ns).take k).length = k := by rw [List.length_take, gphS_len HGB.out, HL.out]; omega
            rw [HGS2.out, HSI.out, insL, List.getElem?_append_right (by omega), hlk, Nat.sub_self] at h1
            injection h1 with h1
            exact h1.symm)
          have HLEFT : Hid ((gs2.take k ++ gs2.drop (k + 1)).map Sg.s = gs.map Sg.s) := hide (by
            have hlk : ((gphS ns).take k).length = k := by rw [List.length_take, gphS_len HGB.out, HL.out]; omega
            rw [List.map_append, List.map_take, List.map_drop, HGS2.out, HSI.out, HGS.out, insL, List.take_left' hlk, List.drop_append_of_le_length_aux hlk]
            exact List.take_append_drop _ _)
          have HG2L : Hid (gs2.length = m + 1) := hide HG6.out.1
          have HCG : Hid (∀ v, Below w6.heap.size w6 v → v.cell? ⟨bT, oT + k, none⟩ = some (.slice g2.A g2.n g2.c)) := hide (fun v hv => (hv.cell (World.block_lt_of_cell? w6 _ hcg2)).trans hcg2)
          have HLG2 := hide hlg2
          have HGN2 := hide hgo2
          clear hg2 hcg2 hlg2 hgn2 hgo2
          obtain ⟨iS, hiS, hzS0, hzS1, hzS2⟩ := info_parts infoS10
          have HIS := hide hiS
          have HS0 := hide hzS0
          have HS1' := hide hzS1
          have HS2' := hide hzS2
          clear hiS hzS0 hzS1 hzS2
          obtain ⟨k1, hk1⟩ : ∃ z, z = k + 1 := ⟨_, rfl⟩
          obtain ⟨rr, hrr⟩ : ∃ z, z = m + 1 - k1 := ⟨_, rfl⟩
          obtain ⟨rc, hrc⟩ : ∃ z, z = kc2 - k1 := ⟨_, rfl⟩
          have hkc := HKC.out
          have p1 : IntKind.i64.wrap ((k : Int) + 1) = (k1 : Int) := by rw [IntKind.wrap_i64]; omega
          have p2 : (0 : Int) ≤ (k : Int) := by omega
          have p3 : (k : Int) ≤ (kc2 : Int) := by omega
          have p4 : (0 : Int) ≤ (k1 : Int) := by omega
          have p5 : (k1 : Int) ≤ (m : Int) + 1 := by omega
          have p6 : (m : Int) + 1 ≤ (kc2 : Int) := by omega
          have p7 : ¬ kc2 = k1 := by omega
          have p8 : m + 1 - k1 = rr := hrr.symm
          have p9 : kc2 - k1 = rc := hrc.symm
          have p10 : k ≤ kc2 := by omega
          have p11 : k1 ≤ m + 1 := by omega
          have p12 : m + 1 ≤ kc2 := hkc
          have p13 : k ≤ m + 1 := by omega
          have HK1 : Hid (k1 = k + 1 ∧ k + rr = m ∧ k1 + rr = m + 1) := hide (by omega)
          clear hk1 hrr hrc hkc
          go_wp2
          have hS0 : Hid (True) := hide (trivial)
          refine wp_region_U (fun _ v => True) 99 (by kernel_rfl) ?_
          refine wpAnyU_take (i := 0) (oi := { dst := some 119, op := _, type := _, pos := _, after := _, guard := none }) (v := .slice (some ⟨bT, oT, none⟩) (m + 1) kc2) rfl (by kernel_rfl) (by kernel_rfl) (by kernel_rfl) (by kernel_rfl) (fun _ _ _ h => h) (yields_take rfl (fun w' hw => by go_simp)) hS0.out ?_
          simp only [Act.put, List.setIfInBounds_toArray, List.set_cons_zero, List.set_cons_succ]
          refine wpAnyU_take (i := 1) (oi := { dst := some 120, op := _, type := _, pos := _, after := _, guard := none }) (v := .int .i64 (k : Int)) rfl (by kernel_rfl) (by kernel_rfl) (by kernel_rfl) (by kernel_rfl) (fun _ _ _ h => h) (yields_take rfl (fun w' hw => by go_simp)) hS0.out ?_
          simp only [Act.put, List.setIfInBounds_toArray, List.set_cons_zero, List.set_cons_succ]
          refine wpAnyU_take (i := 2) (oi := { dst := some 121, op := _, type := _, pos := _, after := _, guard := none }) (v := .slice (some ⟨bT, oT, none⟩) k kc2) rfl (by kernel_rfl) (by kernel_rfl) (by kernel_rfl) (by kernel_rfl) (fun _ _ _ h => h) (yields_take rfl (fun w' hw => by go_simp)) hS0.out ?_
          simp only [Act.put, List.setIfInBounds_toArray, List.set_cons_zero, List.set_cons_succ]
          refine wpAnyU_take (i := 4) (oi := { dst := some 123, op := _, type := _, pos := _, after := _, guard := none }) (v := .slice (some ⟨bT, oT, none⟩) (m + 1) kc2) rfl (by kernel_rfl) (by kernel_rfl) (by kernel_rfl) (by kernel_rfl) (fun _ _ _ h => h) (yields_take rfl (fun w' hw => by go_simp)) hS0.out ?_
          simp only [Act.put, List.setIfInBounds_toArray, List.set_cons_zero, List.set_cons_succ]
          refine wpAnyU_take (i := 5) (oi := { dst := some 124, op := _, type := _, pos := _, after := _, guard := none }) (v := .int .i64 (k : Int)) rfl (by kernel_rfl) (by kernel_rfl) (by kernel_rfl) (by kernel_rfl) (fun _ _ _ h => h) (yields_take rfl (fun w' hw => by go_simp)) hS0.out ?_
          simp only [Act.put, List.setIfInBounds_toArray, List.set_cons_zero, List.set_cons_succ]
          refine wpAnyU_take (i := 6) (oi := { dst := some 125, op := _, type := _, pos := _, after := _, guard := none }) (v := .int .i64 (k1 : Int)) rfl (by kernel_rfl) (by kernel_rfl) (by kernel_rfl) (by kernel_rfl) (fun _ _ _ h => h) (yields_take rfl (fun w' hw => by go_simp)) hS0.out ?_
          simp only [Act.put, List.setIfInBounds_toArray, List.set_cons_zero, List.set_cons_succ]
          refine wpAnyU_take (i := 7) (oi := { dst := some 126, op := _, type := _, pos := _, after := _, guard := none }) (v := .slice (some ⟨bT, oT + k1, none⟩) rr rc) rfl (by kernel_rfl) (by kernel_rfl) (by kernel_rfl) (by kernel_rfl) (fun _ _ _ h => h) (yields_take rfl (fun w' hw => by go_simp)) hS0.out ?_
          simp only [Act.put, List.setIfInBounds_toArray, List.set_cons_zero, List.set_cons_succ]
          have he : Below w6.heap.size w6 w6.drew := below_drewN (Below.refl _ _) 1
          refine wpAnyU_one (i := 3) (o := { dst := some 122, op := _, type := _, pos := _, after := _, guard := none }) (by kernel_rfl) rfl ?_
          intro K hK
          refine step_append_nilN rfl _ _ 27 rfl 33 iS _ 1 24 Try.underlying27 HIS.out HS0.out HS1'.out HS2'.out rfl (by decide) w6.heap.size rfl he.size (some ⟨bT, oT, none⟩) k kc2 ((gs2.take k).map Sg.v) rfl (by rw [List.length_map, List.length_take, HG2L.out, Nat.min_eq_left p13, Nat.mul_one]) (by have h := (HG6.out.below he).cells 0 k (by omega); rw [Nat.add_zero, List.drop_zero] at h; exact h) (fun h => by cases h) (sgv_one _) (by omega) (by unfold maxLen; omega) ?_
          intro A4 c4 U1 F4 hb
          replace he : Below w6.heap.size w6 U1 := below_nx6 he hb
          clear hb
          refine hK.out _ _ trivial (fun _ => ?_)
          clear hK K hS0
          refine wpAnyU_one (i := 8) (o := { dst := some 127, op := _, type := _, pos := _, after := _, guard := none }) (by kernel_rfl) rfl ?_
          intro K hK
          refine step_append_srcN rfl _ _ 27 rfl 33 iS _ 1 24 Try.underlying27 HIS.out HS0.out HS1'.out HS2'.out rfl (by decide) w6.heap.size (.slice A4 k c4) k ((gs2.take k).map Sg.v) rfl F4 he.size (some ⟨bT, oT + k1, none⟩) rr rc ((gs2.drop k1).map Sg.v) rfl (by rw [List.length_map, List.length_drop, HG2L.out, p8, Nat.mul_one]) (by have h := (HG6.out.below he).cells k1 rr (by have := HK1.out; omega); rw [List.take_of_length_le (by rw [List.length_drop, HG2L.out, p8]; exact Nat.le_refl _)] at h; exact h) (fun h => by cases h) (sgv_one _) (by have := HK1.out; omega) (by have := HK1.out; unfold maxLen; omega) ?_
          rw [HK1.out.2.1]
          intro A7 c7 U2 F7 hg _
          replace he : Below w6.heap.size w6 U2 := below_own10 he F4 hg (Nat.le_refl _)
          clear hg F4
          refine hK.out _ _ trivial (fun _ => ?_)
          clear hK K
          have hT1 : Hid True := hide trivial
          refine wpAnyU_take (i := 9) (oi := { dst := some 16, op := _, type := _, pos := _, after := _, guard := none }) (v := .slice A7 m c7) rfl (by kernel_rfl) (by kernel_rfl) (by kernel_rfl) (by kernel_rfl) (fun _ _ _ h => h) (yields_take rfl (fun w' hw => by go_simp)) hT1.out ?_
          simp only [Act.put, List.setIfInBounds_toArray, List.set_cons_zero, List.set_cons_succ]
          refine wpAnyU_done (by kernel_rfl) ?_ _
          clear hT1
          have HSGL : Hid (SgAt U2 A7 m (gs2.take k ++ gs2.drop (k + 1))) := hide (by
            have h := F7
            rw [← List.map_append, HK1.out.1] at h
            refine SgAt.ofOwn h (by rw [List.length_append, List.length_take, List.length_drop, HG2L.out]; omega) (fun q hq => ?_)
            have hqm : q ∈ gs2 := by
              rcases List.mem_append.1 hq with hq | hq
              · exact List.mem_of_mem_take hq
              · exact List.mem_of_mem_drop hq
            have := HG6.out.2.2 q hqm
            exact ⟨this.1.below he, this.2⟩)
          have HB9 := hide (below_nx6 HB6.out he)
          have HSG9 := hide (HSG.out.below (below_nx6 HB3.out (below_nx6 HB6.out he)))
          have HX9 := hide (HX.out.kept (below_nx6 HLT1.out (below_nx6 HB6.out he)))
          have HM9 := hide (HBM.out.kept (below_nx6 HB6.out he))
          have HNM9 := hide (HNM.out.below (below_nx6 HB6.out he))
          have HN9 := hide (HN.out.below (below_nx6 HLT1.out (below_nx6 HB6.out he)))
          have HLG9 := hide (HLG2.out.below he)
          have HLD9 := hide (HLD6.out.below he)
          have HC9 : Hid (∀ v, Below U2.heap.size U2 v → v.cell? ⟨px, 0, none⟩ = some (.slice A9 (m + 1) c9) ∧ v.cell? ⟨w.heap.size, 0, none⟩ = some (.slice A m c) ∧ v.cell? ⟨bT, oT + k, none⟩ = some (.slice g2.A g2.n g2.c)) := hide (fun v hv => ⟨(HM9.out.kept hv).c0, (HX9.out.kept hv).c0, HCG.out v (below_nx6 he hv)⟩)
          have p14 : (k : Int) < (m : Int) + 1 := by omega
          have p15 : k < m + 1 := by omega
          have hd0 : Below U2.heap.size U2 U2.drew := below_drewN (Below.refl _ _) 1
          clear F7 he
          go_wp2
          have hS0 : Hid (U2.drew.cell? ⟨px, 0, none⟩ = some (.slice A9 (m + 1) c9) ∧ U2.drew.cell? ⟨w.heap.size, 0, none⟩ = some (.slice A m c) ∧ U2.drew.cell? ⟨bT, oT + k, none⟩ = some (.slice g2.A g2.n g2.c)) := hide (HC9.out _ hd0)
          refine wp_region_U (fun _ v => v.cell? ⟨px, 0, none⟩ = some (.slice A9 (m + 1) c9) ∧ v.cell? ⟨w.heap.size, 0, none⟩ = some (.slice A m c) ∧ v.cell? ⟨bT, oT + k, none⟩ = some (.slice g2.A g2.n g2.c)) 99 (by kernel_rfl) ?_
          refine wpAnyU_take (i := 0) (oi := { dst := some 128, op := _, type := _, pos := _, after := _, guard := none }) (v := .slice A7 m c7) rfl (by kernel_rfl) (by kernel_rfl) (by kernel_rfl) (by kernel_rfl) (fun _ _ _ h => h) (yields_take rfl (fun w' hw => by obtain ⟨h1, h2, h3⟩ := hw.const; go_simp)) hS0.out ?_
          simp only [Act.put, List.setIfInBounds_toArray, List.set_cons_zero, List.set_cons_succ]
          refine wpAnyU_take (i := 1) (oi := { dst := some 129, op := _, type := _, pos := _, after := _, guard := none }) (v := .slice (some ⟨bS, oS, none⟩) m kc) rfl (by kernel_rfl) (by kernel_rfl) (by kernel_rfl) (by kernel_rfl) (fun _ _ _ h => h) (yields_take rfl (fun w' hw => by obtain ⟨h1, h2, h3⟩ := hw.const; go_simp)) hS0.out ?_
          simp only [Act.put, List.setIfInBounds_toArray, List.set_cons_zero, List.set_cons_succ]
          refine wpAnyU_one (i := 2) (by kernel_rfl) rfl ?_
          intro K hK
          go_simp
          refine Calls.mono (sameGrids_any A7 (some ⟨bS, oS, none⟩) m c7 m kc _ gs _ (HSGL.out.below hd0) (HSG9.out.below hd0) (by omega) (by omega)) ?_
          rintro e x1 ⟨he, hb⟩
          (try dsimp only)
          rw [decide_eq_true HLEFT.out] at he
          subst he
          have hd1 : Below U2.heap.size U2 x1 := below_nx6 hd0 hb
          clear hb
          (try dsimp only)
          have hS1 : Hid (x1.cell? ⟨px, 0, none⟩ = some (.slice A9 (m + 1) c9) ∧ x1.cell? ⟨w.heap.size, 0, none⟩ = some (.slice A m c) ∧ x1.cell? ⟨bT, oT + k, none⟩ = some (.slice g2.A g2.n g2.c)) := hide (HC9.out _ hd1)
          refine hK.out _ _ hS1.out (fun _ => ?_)
          clear hK K hS0
          refine wpAnyU_take (i := 3) (oi := { dst := some 131, op := _, type := _, pos := _, after := _, guard := none }) (v := .bool true) rfl (by kernel_rfl) (by kernel_rfl) (by kernel_rfl) (by kernel_rfl) (fun _ _ _ h => h) (yields_take rfl (fun w' hw => by obtain ⟨h1, h2, h3⟩ := hw.const; go_simp)) hS1.out ?_
          simp only [Act.put, List.setIfInBounds_toArray, List.set_cons_zero, List.set_cons_succ]
          refine wpAnyU_take (i := 4) (oi := { dst := some 132, op := _, type := _, pos := _, after := _, guard := some (3, true) }) (v := .slice (some ⟨bT, oT, none⟩) (m + 1) kc2) rfl (by kernel_rfl) (by kernel_rfl) (by kernel_rfl) (by kernel_rfl) (fun _ _ _ h => h) (yields_take rfl (fun w' hw => by obtain ⟨h1, h2, h3⟩ := hw.const; go_simp)) hS1.out ?_
          simp only [Act.put, List.setIfInBounds_toArray, List.set_cons_zero, List.set_cons_succ]
          refine wpAnyU_take (i := 5) (oi := { dst := some 133, op := _, type := _, pos := _, after := _, guard := some (3, true) }) (v := .int .i64 (k : Int)) rfl (by kernel_rfl) (by kernel_rfl) (by kernel_rfl) (by kernel_rfl) (fun _ _ _ h => h) (yields_take rfl (fun w' hw => by obtain ⟨h1, h2, h3⟩ := hw.const; go_simp)) hS1.out ?_
          simp only [Act.put, List.setIfInBounds_toArray, List.set_cons_zero, List.set_cons_succ]
          refine wpAnyU_take (i := 6) (oi := { dst := some 134, op := _, type := _, pos := _, after := _, guard := some (3, true) }) (v := .pointer (some ⟨bT, oT + k, none⟩)) rfl (by kernel_rfl) (by kernel_rfl) (by kernel_rfl) (by kernel_rfl) (fun _ _ _ h => h) (yields_take rfl (fun w' hw => by obtain ⟨h1, h2, h3⟩ := hw.const; go_simp)) hS1.out ?_
          simp only [Act.put, List.setIfInBounds_toArray, List.set_cons_zero, List.set_cons_succ]
          refine wpAnyU_take (i := 7) (oi := { dst := some 135, op := _, type := _, pos := _, after := _, guard := some (3, true) }) (v := .slice g2.A g2.n g2.c) rfl (by kernel_rfl) (by kernel_rfl) (by kernel_rfl) (by kernel_rfl) (fun _ _ _ h => h) (yields_take rfl (fun w' hw => by obtain ⟨h1, h2, h3⟩ := hw.const; go_simp)) hS1.out ?_
          simp only [Act.put, List.setIfInBounds_toArray, List.set_cons_zero, List.set_cons_succ]
          refine wpAnyU_take (i := 8) (oi := { dst := some 136, op := _, type := _, pos := _, after := _, guard := some (3, true) }) (v := .slice D l dc) rfl (by kernel_rfl) (by kernel_rfl) (by kernel_rfl) (by kernel_rfl) (fun _ _ _ h => h) (yields_take rfl (fun w' hw => by obtain ⟨h1, h2, h3⟩ := hw.const; go_simp)) hS1.out ?_
          simp only [Act.put, List.setIfInBounds_toArray, List.set_cons_zero, List.set_cons_succ]
          refine wpAnyU_one (i := 9) (by kernel_rfl) rfl ?_
          intro K hK
          go_simp
          refine Calls.mono (sameI_any g2.A D g2.n g2.c l dc g2.s s _ (HLG9.out.below hd1) (HLD9.out.below hd1) (by have := HGN2.out; omega)) ?_
          rintro e x2 ⟨he, hb⟩
          (try dsimp only)
          rw [decide_eq_true HEQ.out] at he
          subst he
          have hd2 : Below U2.heap.size U2 x2 := below_nx6 hd1 hb
          clear hb
          (try dsimp only)
          have hS2 : Hid (x2.cell? ⟨px, 0, none⟩ = some (.slice A9 (m + 1) c9) ∧ x2.cell? ⟨w.heap.size, 0, none⟩ = some (.slice A m c) ∧ x2.cell? ⟨bT, oT + k, none⟩ = some (.slice g2.A g2.n g2.c)) := hide (HC9.out _ hd2)
          refine hK.out _ _ hS2.out (fun _ => ?_)
          clear hK K hS1
          refine wpAnyU_take (i := 10) (oi := { dst := some 138, op := _, type := _, pos := _, after := _, guard := none }) (v := .bool true) rfl (by kernel_rfl) (by kernel_rfl) (by kernel_rfl) (by kernel_rfl) (fun _ _ _ h => h) (yields_take rfl (fun w' hw => by obtain ⟨h1, h2, h3⟩ := hw.const; go_simp)) hS2.out ?_
          simp only [Act.put, List.setIfInBounds_toArray, List.set_cons_zero, List.set_cons_succ]
          refine wpAnyU_take (i := 11) (oi := { dst := some 139, op := _, type := _, pos := _, after := _, guard := none }) (v := .bool true) rfl (by kernel_rfl) (by kernel_rfl) (by kernel_rfl) (by kernel_rfl) (fun _ _ _ h => h) (yields_take rfl (fun w' hw => by obtain ⟨h1, h2, h3⟩ := hw.const; go_simp)) hS2.out ?_
          simp only [Act.put, List.setIfInBounds_toArray, List.set_cons_zero, List.set_cons_succ]
          refine wpAnyU_take (i := 12) (oi := { dst := some 140, op := _, type := _, pos := _, after := _, guard := some (11, true) }) (v := .agg #[.slice A9 (m + 1) c9]) rfl (by kernel_rfl) (by kernel_rfl) (by kernel_rfl) (by kernel_rfl) (fun _ _ _ h => h) (yields_take rfl (fun w' hw => by obtain ⟨h1, h2, h3⟩ := hw.const; go_simp)) hS2.out ?_
          simp only [Act.put, List.setIfInBounds_toArray, List.set_cons_zero, List.set_cons_succ]
          refine wpAnyU_take (i := 15) (oi := { dst := some 143, op := _, type := _, pos := _, after := _, guard := some (11, true) }) (v := .agg #[.slice A m c]) rfl (by kernel_rfl) (by kernel_rfl) (by kernel_rfl) (by kernel_rfl) (fun _ _ _ h => h) (yields_take rfl (fun w' hw => by obtain ⟨h1, h2, h3⟩ := hw.const; go_simp)) hS2.out ?_
          simp only [Act.put, List.setIfInBounds_toArray, List.set_cons_zero, List.set_cons_succ]
          refine wpAnyU_one (i := 13) (by kernel_rfl) rfl ?_
          intro K hK
          go_simp
          refine Calls.mono (weights_any A9 (m + 1) c9 more _ (HNM9.out.below hd2) (by omega)) ?_
          rintro e x3 ⟨B1, n1, e1, rfl, ho, hb⟩
          (try dsimp only)
          have hd3 : Below U2.heap.size U2 x3 := below_nx6 hd2 hb
          have HW1 : Hid (n1 = (wtF 0 more).length) := hide (by have h := ho.1; simpa using h.symm)
          clear hb ho
          (try dsimp only)
          have hS3 : Hid (x3.cell? ⟨px, 0, none⟩ = some (.slice A9 (m + 1) c9) ∧ x3.cell? ⟨w.heap.size, 0, none⟩ = some (.slice A m c) ∧ x3.cell? ⟨bT, oT + k, none⟩ = some (.slice g2.A g2.n g2.c)) := hide (HC9.out _ hd3)
          refine hK.out _ _ hS3.out (fun _ => ?_)
          clear hK K hS2
          refine wpAnyU_take (i := 14) (oi := { dst := some 142, op := _, type := _, pos := _, after := _, guard := some (11, true) }) (v := .int .i64 (n1 : Int)) rfl (by kernel_rfl) (by kernel_rfl) (by kernel_rfl) (by kernel_rfl) (fun _ _ _ h => h) (yields_take rfl (fun w' hw => by obtain ⟨h1, h2, h3⟩ := hw.const; go_simp)) hS3.out ?_
          simp only [Act.put, List.setIfInBounds_toArray, List.set_cons_zero, List.set_cons_succ]
          refine wpAnyU_one (i := 16) (by kernel_rfl) rfl ?_
          intro K hK
          go_simp
          refine Calls.mono (weights_any A m c ns _ (HN9.out.below hd3) (by omega)) ?_
          rintro e x4 ⟨B2, n2, e2, rfl, ho, hb⟩
          (try dsimp only)
          have hd4 : Below U2.heap.size U2 x4 := below_nx6 hd3 hb
          have h3 : n2 = (wtF 0 ns).length := by have h := ho.1; simpa using h.symm
          have h2 := wtF_len 0 ns
          rw [HL.out] at h2
          have HW2 : Hid (n2 = (wtF 0 ns).length ∧ n2 ≤ m) := hide ⟨h3, by omega⟩
          clear h3 h2
          clear hb ho
          (try dsimp only)
          have hS4 : Hid (x4.cell? ⟨px, 0, none⟩ = some (.slice A9 (m + 1) c9) ∧ x4.cell? ⟨w.heap.size, 0, none⟩ = some (.slice A m c) ∧ x4.cell? ⟨bT, oT + k, none⟩ = some (.slice g2.A g2.n g2.c)) := hide (HC9.out _ hd4)
          refine hK.out _ _ hS4.out (fun _ => ?_)
          clear hK K hS3
          have hnn : n1 = n2 + 1 := by rw [HW1.out, HWM.out, HW2.out.1]
          subst hnn
          have p20 : IntKind.i64.wrap ((n2 : Int) + 1) = ((n2 + 1 : Nat) : Int) := by rw [IntKind.wrap_i64]; have := HW2.out.2; omega
          refine wpAnyU_take (i := 17) (oi := { dst := some 145, op := _, type := _, pos := _, after := _, guard := some (11, true) }) (v := .int .i64 (n2 : Int)) rfl (by kernel_rfl) (by kernel_rfl) (by kernel_rfl) (by kernel_rfl) (fun _ _ _ h => h) (yields_take rfl (fun w' hw => by obtain ⟨h1, h2, h3⟩ := hw.const; go_simp)) hS4.out ?_
          simp only [Act.put, List.setIfInBounds_toArray, List.set_cons_zero, List.set_cons_succ]
          refine wpAnyU_take (i := 18) (oi := { dst := some 146, op := _, type := _, pos := _, after := _, guard := some (11, true) }) (v := .int .i64 ((n2 + 1 : Nat) : Int)) rfl (by kernel_rfl) (by kernel_rfl) (by kernel_rfl) (by kernel_rfl) (fun _ _ _ h => h) (yields_take rfl (fun w' hw => by obtain ⟨h1, h2, h3⟩ := hw.const; go_simp)) hS4.out ?_
          simp only [Act.put, List.setIfInBounds_toArray, List.set_cons_zero, List.set_cons_succ]
          refine wpAnyU_take (i := 19) (oi := { dst := some 147, op := _, type := _, pos := _, after := _, guard := some (11, true) }) (v := .bool true) rfl (by kernel_rfl) (by kernel_rfl) (by kernel_rfl) (by kernel_rfl) (fun _ _ _ h => h) (yields_take rfl (fun w' hw => by obtain ⟨h1, h2, h3⟩ := hw.const; go_simp)) hS4.out ?_
          simp only [Act.put, List.setIfInBounds_toArray, List.set_cons_zero, List.set_cons_succ]
          refine wpAnyU_take (i := 20) (oi := { dst := some 148, op := _, type := _, pos := _, after := _, guard := none }) (v := .bool true) rfl (by kernel_rfl) (by kernel_rfl) (by kernel_rfl) (by kernel_rfl) (fun _ _ _ h => h) (yields_take rfl (fun w' hw => by obtain ⟨h1, h2, h3⟩ := hw.const; go_simp)) hS4.out ?_
          simp only [Act.put, List.setIfInBounds_toArray, List.set_cons_zero, List.set_cons_succ]
          refine wpAnyU_take (i := 21) (oi := { dst := some 6, op := _, type := _, pos := _, after := _, guard := none }) (v := .bool true) rfl (by kernel_rfl) (by kernel_rfl) (by kernel_rfl) (by kernel_rfl) (fun _ _ _ h => h) (yields_take rfl (fun w' hw => by obtain ⟨h1, h2, h3⟩ := hw.const; go_simp)) hS4.out ?_
          simp only [Act.put, List.setIfInBounds_toArray, List.set_cons_zero, List.set_cons_succ]
          refine wpAnyU_done (by kernel_rfl) ?_ _
          clear hS4
          have HD4 := hide hd4
          go_wp2
          go_ret
          exact ⟨rfl, below_nx6 HB0.out (below_nx6 HLT1.out (below_nx6 HB9.out HD4.out))⟩
        · have hfb : gphB more = false := by rw [HGM.out.1]; exact decide_eq_false hsz
          have hE1 : E2 = 1 := by rw [HE2.out, gphE, hfb]; rfl
          subst hE1
          rw [decide_eq_false hsz] at HCK
          clear hfb hsz
          go_wp2_with fail
          refine Calls.mono HCK.out ?_
          rintro e w6 ⟨rfl, hb⟩
          have HB6 := hide (below_nx6 HB5.out hb)
          clear hb HCK
          go_wp2
          go_ret
          exact ⟨rfl, below_nx6 HB0.out (below_nx6 HLT1.out HB6.out)⟩

end Go.Proofs.Ytdlhhkegkfhmoaa
