/- MovesJoins: for every tensors and every direction the walk of its Go text ends in true. -/
import Derived.Test.YtomhbhhfbbdilaaSums9M
import Derived.Test.YtomhbhhfbbdilaaPm18M
import Derived.Test.YtomhbhhfbbdilaaWB
namespace Go.Proofs.Ytomhbhhfbbdilaa
open Go.RowKit
set_option linter.unusedVariables false
set_option linter.unusedSimpArgs false
set_option maxRecDepth 100000

theorem jnS_ok {ts : List Tn} {a : Nat} (h : jnE ts (a : Int) = 0) : jnS ts (a : Int) = jnSh ts a := by rw [jnS, if_pos h]; rfl

theorem jnL_ok {ts : List Tn} {a : Nat} (h : jnE ts (a : Int) = 0) : jnL ts (a : Int) = joinL ts a := by rw [jnL, if_pos h]; rfl

theorem jnE_all (ts : List Tn) (d : Int) : jnE ts d = 0 ∨ jnE ts d = 1 ∨ jnE ts d = 10 := by
  unfold jnE
  split
  · split <;> omega
  · omega

theorem TsAt.below {w w' : World} {B b o : Nat} {ts : List Tn} (h : TsAt w b o ts) (hb : Below B w w') (hB : b < B) (hs : B = w.heap.size) : TsAt w' b o ts := by
  subst hs
  intro j t ht
  obtain ⟨h1, h2, h3, h4, h5⟩ := h j t ht
  exact ⟨(World.cell?_of_block (hb.block _ hB)).trans h1, (World.cell?_of_block (hb.block _ hB)).trans h2, h3.below hb, h4.below hb, h5⟩

theorem TsAt.pre {w : World} {b o : Nat} {ts : List Tn} (h : TsAt w b o ts) (k : Nat) : TsAt w b o (ts.take k) := by
  intro j t ht
  rw [List.getElem?_take] at ht
  split at ht
  · exact h j t ht
  · cases ht

theorem TenAt.tok {w : World} {p n c m d : Nat} {A B : Option Addr} {s l : List Int} (h : TenAt w p A B n c m d s l) (h1 : n ≤ c) (h2 : m ≤ d) (h3 : n ≤ 70368744177664) (h4 : m ≤ 70368744177664) : Tn.Ok ⟨A, n, c, B, m, d, s, l⟩ w := ⟨h.S, h.L, h1, h2, h3, h4⟩

theorem take_more9 {ts : List Tn} {i : Nat} {t : Tn} (h : ts[i]? = some t) : ts.take (i + 1) = ts.take i ++ [t] := by
  obtain ⟨h1, h2⟩ := List.getElem?_eq_some_iff.1 h
  rw [List.take_succ_eq_append_getElem h1, h2]

theorem jn_pre {ts : List Tn} {a i : Nat} (h : jnE ts (a : Int) = 0) (h1 : 1 ≤ i) (hi : i ≤ ts.length) : jnE (ts.take i) (a : Int) = 0 := by
  have e := List.take_append_drop i ts
  rw [← e] at h
  exact jn_begin h (by rw [List.length_take]; omega)

theorem jn_tOk {ts : List Tn} {t : Tn} {a j : Nat} (h : jnE ts (a : Int) = 0) (ht : ts[j]? = some t) : tenOk t.s t.m = true ∧ a < t.s.length := by
  obtain ⟨P, st, hf⟩ := jn_facts h
  have := hf.2.2.2.2.2.2.2.2 t (List.mem_of_getElem? ht)
  exact ⟨this.2.2.2.2.2.2.1, this.2.2.2.2.2.1⟩

/-- How far the loop of MovesJoins is: what is joined so far, and its sums. -/
def JnR (ps pq a : Nat) (ts : List Tn) (i : Nat) (v : World) : Prop :=
  ∃ A1 n1 c1 B1 m1 d1 A2 n2 c2 B2 m2 d2, TenAt v ps A1 B1 n1 c1 m1 d1 (jnSh (ts.take i) a) (joinL (ts.take i) a) ∧ TenAt v pq A2 B2 n2 c2 m2 d2 (woL (jnSh (ts.take i) a) a) (sumT (jnSh (ts.take i) a) (joinL (ts.take i) a) a) ∧ (n1 ≤ c1 ∧ m1 ≤ d1 ∧ n1 ≤ 70368744177664 ∧ m1 ≤ 70368744177664) ∧ n2 ≤ c2 ∧ n2 ≤ 4 ∧ m2 ≤ 4096

theorem box_apart9 {w : World} {p n : Nat} {A X Y : Option Addr} {x1 x2 y1 y2 : Nat} {k : IntKind} {xs : List Int} (hx : BoxT w p (.slice X x1 x2) (.slice Y y1 y2)) (h : Lies w A n (xs.map (Value.int k))) (hn : 0 < n) : ∀ b o, A = some ⟨b, o, none⟩ → b ≠ p := by
  intro b o e1 e2
  obtain ⟨b', o', e3, _, hc⟩ := h.cells hn
  rw [e1] at e3
  cases e3
  subst e2
  have hl : 0 < xs.length := by have := h.len; simp at this; omega
  have h0 := hc 0 hn
  have hx' : w.heap[b]? = some (.cells #[.slice X x1 x2, .slice Y y1 y2] 49 (0, 0)) := hx
  have e4 : (xs.map (Value.int k)).getD 0 undef = .int k (xs[0]) := by simp [List.getD, hl]
  match o, h0 with
  | 0, h0 => rw [hx.c0] at h0; simp [hl] at h0
  | 1, h0 => rw [hx.c1] at h0; simp [hl] at h0
  | o + 2, h0 => simp [World.cell?, hx', hl] at h0

theorem lies_aside9 {w : World} {p n : Nat} {A X Y : Option Addr} {x1 x2 y1 y2 : Nat} {k : IntKind} {xs : List Int} (hx : BoxT w p (.slice X x1 x2) (.slice Y y1 y2)) (h : Lies w A n (xs.map (Value.int k))) (u v : Value) :
    Lies ((w.setCell ⟨p, 0, none⟩ u).setCell ⟨p, 1, none⟩ v) A n (xs.map (Value.int k)) := by
  by_cases hn : 0 < n
  · have ha := box_apart9 hx h hn
    exact lies_set9 (lies_set9 h ha _) ha _
  · exact ⟨h.len, fun h0 => absurd h0 hn⟩

theorem TenAt.aside {w : World} {p q n c m d x1 x2 y1 y2 : Nat} {A B X Y : Option Addr} {s l : List Int} (h : TenAt w q A B n c m d s l) (hx : BoxT w p (.slice X x1 x2) (.slice Y y1 y2)) (hqp : q ≠ p) (u v : Value) :
    TenAt ((w.setCell ⟨p, 0, none⟩ u).setCell ⟨p, 1, none⟩ v) q A B n c m d s l :=
  ⟨(Below.heap_setCell _ _ _ _ (by dsimp only; exact hqp)).trans ((Below.heap_setCell _ _ _ _ (by dsimp only; exact hqp)).trans h.1), lies_aside9 hx h.2.1 _ _, lies_aside9 hx h.2.2 _ _⟩

set_option maxHeartbeats 16000000 in
theorem joins9_any (U : Option Addr) (q cu : Nat) (ts : List Tn) (z : Int) (w : World) (hl : ts.length = q) (hc : q ≤ cu) (hU : 1 ≤ q → ∃ b o, U = some ⟨b, o, none⟩ ∧ b < w.heap.size ∧ TsAt w b o ts) (hz : 0 ≤ z ∧ z < 256) :
    Calls Try.prog 9 #[.slice U q cu, .int .u8 z] w fun e w' => e = .returned (.bool true) ∧ Below w.heap.size w w' := by
  have HBW := hide (Below.refl w.heap.size w)
  have HL := hide hl
  have HU := hide hU
  clear hl hU
  go_enter Try.func9, Try.ntmps9
  go_wp2_with fail
  refine Calls.mono (alive9_any _) ?_
  rintro e ua1 ⟨rfl, hb⟩
  replace HBW := hide (HBW.out.trans (hb.mono HBW.out.size))
  clear hb
  by_cases hq3 : 3 < q
  · have f1 : (3 : Int) < (q : Int) := by omega
    go_wp2_with fail
    refine Calls.mono (alive9_any _) ?_
    rintro e ua2 ⟨rfl, hb⟩
    replace HBW := hide (HBW.out.trans (hb.mono HBW.out.size))
    clear hb
    go_wp2
    go_ret
    exact ⟨rfl, HBW.out⟩
  have f1 : ¬ ((3 : Int) < (q : Int)) := by omega
  by_cases hq0 : q = 0
  · subst hq0
    go_wp2_with fail
    refine Calls.mono (alive9_any _) ?_
    rintro e ua3 ⟨rfl, hb⟩
    replace HBW := hide (HBW.out.trans (hb.mono HBW.out.size))
    clear hb
    go_wp2
    go_ret
    exact ⟨rfl, HBW.out⟩
  have e1 : ¬ (q : Int) = 0 := by omega
  have e2 : ((q : Int) == 0) = false := by simpa using e1
  have e3 : (0 : Int) < (q : Int) := by omega
  obtain ⟨bU, oU, rfl, hb, hT⟩ := HU.out (by omega)
  have HBL := hide hb
  have HTS := hide hT
  obtain ⟨t0, ht0⟩ : ∃ t, ts[0]? = some t := ⟨ts[0]'(by rw [HL.out]; omega), List.getElem?_eq_getElem (by rw [HL.out]; omega)⟩
  have HT0 := hide ht0
  have HCT : Hid (∀ v, Below w.heap.size w v → ∀ j t, ts[j]? = some t → v.cell? ⟨bU, oU + j * 2, none⟩ = some (.slice t.A t.n t.c) ∧ v.cell? ⟨bU, oU + j * 2 + 1, none⟩ = some (.slice t.B t.m t.d) ∧ t.Ok v) := hide (fun v hv => HTS.out.below hv HBL.out rfl)
  have HC0 : Hid (∀ v, Below w.heap.size w v → v.cell? ⟨bU, oU, none⟩ = some (.slice t0.A t0.n t0.c) ∧ v.cell? ⟨bU, oU + 1, none⟩ = some (.slice t0.B t0.m t0.d)) := hide (fun v hv => by
    obtain ⟨h1, h2, _⟩ := HCT.out v hv 0 t0 HT0.out
    rw [Nat.zero_mul, Nat.add_zero] at h1 h2
    exact ⟨h1, h2⟩)
  have HK0 : Hid (∀ v, Below w.heap.size w v → t0.Ok v) := hide (fun v hv => (HCT.out v hv 0 t0 HT0.out).2.2)
  obtain ⟨_, _, hn0c, hm0d, hn0, hm0⟩ := HK0.out _ HBW.out
  clear hb hT ht0 HU
  obtain ⟨x0, x1⟩ := HC0.out _ HBW.out
  go_wp2_with fail
  refine Calls.mono (small9_any t0.A t0.B t0.n t0.c t0.m t0.d t0.s _ (HK0.out _ HBW.out).1 hn0 hm0) ?_
  rintro e ua4 ⟨rfl, hb⟩
  replace HBW := hide (HBW.out.trans (hb.mono HBW.out.size))
  clear x0 x1 hb
  by_cases hsm : small9 t0.n t0.m t0.s = true
  rotate_left
  · have hno : small9 t0.n t0.m t0.s = false := by simpa using hsm
    rw [hno]
    clear hno hsm
    go_wp2_with fail
    refine Calls.mono (alive9_any _) ?_
    rintro e ua5 ⟨rfl, hb⟩
    replace HBW := hide (HBW.out.trans (hb.mono HBW.out.size))
    clear hb
    go_wp2
    go_ret
    exact ⟨rfl, HBW.out⟩
  rw [hsm]
  have HTK0 : Hid (tenOk t0.s t0.m = true) := hide (by
    rw [small9] at hsm
    exact (Bool.and_eq_true _ _ ▸ hsm).2)
  have HSN : Hid (t0.s.length = t0.n) := hide (lies_len9 (HK0.out _ HBW.out).1)
  have HLM : Hid (t0.l.length = t0.m) := hide (lies_len9 (HK0.out _ HBW.out).2.1)
  have hn4 : 1 ≤ t0.n ∧ t0.n ≤ 4 := by
    obtain ⟨h1, h4, _⟩ := sizeI_pos (tenOk_iff.1 HTK0.out).1
    have := HSN.out
    omega
  have hm4 : t0.m ≤ 4096 := by have := sizeI_le t0.s; have := (tenOk_iff.1 HTK0.out).2; omega
  obtain ⟨Z, rfl⟩ := Int.eq_ofNat_of_zero_le hz.1
  obtain ⟨a, ha⟩ : ∃ z, z = Z % t0.n := ⟨_, rfl⟩
  have r1 : Int.tmod (Z : Int) (t0.n : Int) = (a : Int) := by rw [ha]; rfl
  have han : a < t0.n := by rw [ha]; exact Nat.mod_lt _ (by omega)
  have HAL : Hid (a < t0.s.length) := hide (by rw [HSN.out]; exact han)
  have r2 : ¬ (t0.n : Int) = 0 := by omega
  have r2' : ¬ t0.n = 0 := by omega
  have r3 : IntKind.i64.wrap (a : Int) = (a : Int) := by rw [IntKind.wrap_i64]; omega
  have r4 : (1 : Int) ≤ (cu : Int) := by omega
  have r5 : 1 ≤ cu := by omega
  have HJ1 : Hid (jnE [t0] (a : Int) = 0 ∧ jnS [t0] (a : Int) = t0.s ∧ jnL [t0] (a : Int) = t0.l) := hide (by
    obtain ⟨h1, h2, h3⟩ := jn_one HTK0.out HLM.out HAL.out
    exact ⟨h1, by rw [jnS_ok h1, h2], by rw [jnL_ok h1, h3]⟩)
  have hax : a ≤ 3 := by omega
  clear ha hsm
  obtain ⟨x0, x1⟩ := HC0.out _ HBW.out
  go_wp2_with fail
  have hT1 : TsAt ua4 bU oU [t0] := fun j t ht => by
    match j, ht with
    | 0, ht => cases ht; exact HCT.out _ HBW.out 0 _ HT0.out
    | j + 1, ht => simp at ht
  refine Calls.mono (mjoin_own (some ⟨bU, oU, none⟩) 1 cu [t0] (a : Int) _ rfl (fun _ => ⟨bU, oU, rfl, Nat.lt_of_lt_of_le HBL.out HBW.out.size, hT1⟩) (by omega)) ?_
  rw [HJ1.out.1, HJ1.out.2.1, HJ1.out.2.2]
  clear hT1
  rintro e ua6 ⟨A1one, k1one, c1one, A2one, k2one, c2one, rfl, ho1, ho2, hk1one, hk2one, hb0⟩
  obtain ⟨V7, hV7⟩ : ∃ W, W = ua6.alloc (.cells #[.slice A1one k1one c1one, .slice A2one k2one c2one] 49) := ⟨_, rfl⟩
  have HT_one : Hid (TenAt V7 ua6.heap.size A1one A2one k1one c1one k2one c2one t0.s t0.l) := hide (by rw [hV7]; exact TenAt.own9 ho1 ho2)
  have hcapone := own_cap9 ho1
  have hcbpone := own_cap9 ho2
  have hsz_one := hb0.size
  have hb : Below ua4.heap.size ua4 V7 := by rw [hV7]; exact below_al6 hb0
  replace HBW := hide (HBW.out.trans (hb.mono HBW.out.size))
  have hV7' := hV7.symm
  clear x0 x1 hV7 hb hb0 ho1 ho2
  have hlt_one := HT_one.out.1.lt
  clear r1 r2 r2' r3 r4 r5 hz
  obtain ⟨E, hE⟩ : ∃ z : Int, z = jnE ts (a : Int) := ⟨_, rfl⟩
  have HR_E := hide hE
  clear hE
  obtain ⟨SJ, hSJ⟩ : ∃ z : List Int, z = jnS ts (a : Int) := ⟨_, rfl⟩
  have HR_SJ := hide hSJ
  clear hSJ
  obtain ⟨LJ, hLJ⟩ : ∃ z : List Int, z = jnL ts (a : Int) := ⟨_, rfl⟩
  have HR_LJ := hide hLJ
  clear hLJ
  go_wp2_with fail
  refine Calls.mono (mjoin_own (some ⟨bU, oU, none⟩) q cu ts (a : Int) _ HL.out (fun _ => ⟨bU, oU, rfl, Nat.lt_of_lt_of_le HBL.out HBW.out.size, HTS.out.below HBW.out HBL.out rfl⟩) (by omega)) ?_
  rw [← HR_E.out, ← HR_SJ.out, ← HR_LJ.out]
  rintro e ua8 ⟨A1all, k1all, c1all, A2all, k2all, c2all, rfl, ho1, ho2, hk1all, hk2all, hb0⟩
  obtain ⟨V9, hV9⟩ : ∃ W, W = ua8.alloc (.cells #[.slice A1all k1all c1all, .slice A2all k2all c2all] 49) := ⟨_, rfl⟩
  have HT_all : Hid (TenAt V9 ua8.heap.size A1all A2all k1all c1all k2all c2all SJ LJ) := hide (by rw [hV9]; exact TenAt.own9 ho1 ho2)
  have hcapall := own_cap9 ho1
  have hcbpall := own_cap9 ho2
  have hsz_all := hb0.size
  have hb : Below V7.heap.size V7 V9 := by rw [hV9]; exact below_al6 hb0
  replace HT_one := hide (HT_one.out.kept hb)
  replace HBW := hide (HBW.out.trans (hb.mono HBW.out.size))
  have hV9' := hV9.symm
  clear  hV9 hb hb0 ho1 ho2
  have hlt_all := HT_all.out.1.lt
  go_wp2
  have HC : Hid (∀ v, Below V9.heap.size V9 v → v.cell? ⟨ua6.heap.size, 0, none⟩ = some (.slice A1one k1one c1one) ∧ v.cell? ⟨ua6.heap.size, 1, none⟩ = some (.slice A2one k2one c2one) ∧ v.cell? ⟨bU, oU, none⟩ = some (.slice t0.A t0.n t0.c) ∧ v.cell? ⟨bU, oU + 1, none⟩ = some (.slice t0.B t0.m t0.d)) := hide (fun v hv => by
    obtain ⟨h1, h2⟩ := HC0.out v (HBW.out.trans (hv.mono HBW.out.size))
    exact ⟨(HT_one.out.kept hv).c0, (HT_one.out.kept hv).c1, h1, h2⟩)
  have hd0 : Below V9.heap.size V9 V9.drew := below_drewN (Below.refl _ _) 1
  have hS0 : Hid (V9.drew.cell? ⟨ua6.heap.size, 0, none⟩ = some (.slice A1one k1one c1one) ∧ V9.drew.cell? ⟨ua6.heap.size, 1, none⟩ = some (.slice A2one k2one c2one) ∧ V9.drew.cell? ⟨bU, oU, none⟩ = some (.slice t0.A t0.n t0.c) ∧ V9.drew.cell? ⟨bU, oU + 1, none⟩ = some (.slice t0.B t0.m t0.d)) := hide (HC.out _ hd0)
  refine wp_region_U (fun _ v => v.cell? ⟨ua6.heap.size, 0, none⟩ = some (.slice A1one k1one c1one) ∧ v.cell? ⟨ua6.heap.size, 1, none⟩ = some (.slice A2one k2one c2one) ∧ v.cell? ⟨bU, oU, none⟩ = some (.slice t0.A t0.n t0.c) ∧ v.cell? ⟨bU, oU + 1, none⟩ = some (.slice t0.B t0.m t0.d)) 99 (by kernel_rfl) ?_
  refine wpAnyU_take (i := 0) (oi := { dst := some 59, op := _, type := _, pos := _, after := _, guard := none }) (v := .agg #[.slice A1one k1one c1one, .slice A2one k2one c2one]) rfl (by kernel_rfl) (by kernel_rfl) (by kernel_rfl) (by kernel_rfl) (fun _ _ _ h => h) (yields_take rfl (fun w' hw => by obtain ⟨h1, h2, h3, h4⟩ := hw.const; go_simp)) hS0.out ?_
  simp only [Act.put, List.setIfInBounds_toArray, List.set_cons_zero, List.set_cons_succ]
  refine wpAnyU_take (i := 1) (oi := { dst := some 60, op := _, type := _, pos := _, after := _, guard := none }) (v := .int .i64 (0 : Int)) rfl (by kernel_rfl) (by kernel_rfl) (by kernel_rfl) (by kernel_rfl) (fun _ _ _ h => h) (yields_take rfl (fun w' hw => by obtain ⟨h1, h2, h3, h4⟩ := hw.const; go_simp)) hS0.out ?_
  simp only [Act.put, List.setIfInBounds_toArray, List.set_cons_zero, List.set_cons_succ]
  refine wpAnyU_take (i := 2) (oi := { dst := some 61, op := _, type := _, pos := _, after := _, guard := none }) (v := .slice (some ⟨bU, oU, none⟩) q cu) rfl (by kernel_rfl) (by kernel_rfl) (by kernel_rfl) (by kernel_rfl) (fun _ _ _ h => h) (yields_take rfl (fun w' hw => by obtain ⟨h1, h2, h3, h4⟩ := hw.const; go_simp)) hS0.out ?_
  simp only [Act.put, List.setIfInBounds_toArray, List.set_cons_zero, List.set_cons_succ]
  refine wpAnyU_take (i := 3) (oi := { dst := some 62, op := _, type := _, pos := _, after := _, guard := none }) (v := .pointer (some ⟨bU, oU, none⟩)) rfl (by kernel_rfl) (by kernel_rfl) (by kernel_rfl) (by kernel_rfl) (fun _ _ _ h => h) (yields_take rfl (fun w' hw => by obtain ⟨h1, h2, h3, h4⟩ := hw.const; go_simp)) hS0.out ?_
  simp only [Act.put, List.setIfInBounds_toArray, List.set_cons_zero, List.set_cons_succ]
  refine wpAnyU_take (i := 4) (oi := { dst := some 63, op := _, type := _, pos := _, after := _, guard := none }) (v := .agg #[.slice t0.A t0.n t0.c, .slice t0.B t0.m t0.d]) rfl (by kernel_rfl) (by kernel_rfl) (by kernel_rfl) (by kernel_rfl) (fun _ _ _ h => h) (yields_take rfl (fun w' hw => by obtain ⟨h1, h2, h3, h4⟩ := hw.const; go_simp)) hS0.out ?_
  simp only [Act.put, List.setIfInBounds_toArray, List.set_cons_zero, List.set_cons_succ]
  refine wpAnyU_one (i := 5) (by kernel_rfl) rfl ?_
  intro K hK
  go_simp
  refine Calls.mono (is9_any A1one A2one t0.A t0.B k1one c1one k2one c2one t0.n t0.c t0.m t0.d t0.s t0.l t0.s t0.l 0 _ (HT_one.out.S.below hd0) (HT_one.out.L.below hd0) ((HK0.out _ HBW.out).1.below hd0) ((HK0.out _ HBW.out).2.1.below hd0) (by omega) (by omega) rfl) ?_
  rintro e s0 ⟨rfl, hb⟩
  dsimp only
  rw [show decide (t0.s = t0.s ∧ t0.l = t0.l) = true from decide_eq_true ⟨rfl, rfl⟩]
  have hd1 : Below V9.heap.size V9 s0 := below_nx6 hd0 hb
  clear hb
  have hS1 : Hid (s0.cell? ⟨ua6.heap.size, 0, none⟩ = some (.slice A1one k1one c1one) ∧ s0.cell? ⟨ua6.heap.size, 1, none⟩ = some (.slice A2one k2one c2one) ∧ s0.cell? ⟨bU, oU, none⟩ = some (.slice t0.A t0.n t0.c) ∧ s0.cell? ⟨bU, oU + 1, none⟩ = some (.slice t0.B t0.m t0.d)) := hide (HC.out _ hd1)
  refine hK.out _ _ hS1.out (fun _ => ?_)
  clear hK K hS0
  refine wpAnyU_take (i := 6) (oi := { dst := some 65, op := _, type := _, pos := _, after := _, guard := none }) (v := .bool false) rfl (by kernel_rfl) (by kernel_rfl) (by kernel_rfl) (by kernel_rfl) (fun _ _ _ h => h) (yields_take rfl (fun w' hw => by obtain ⟨h1, h2, h3, h4⟩ := hw.const; go_simp)) hS1.out ?_
  simp only [Act.put, List.setIfInBounds_toArray, List.set_cons_zero, List.set_cons_succ]
  refine wpAnyU_done (by kernel_rfl) ?_ _
  clear hS1
  have hb := hd1
  replace HT_one := hide (HT_one.out.kept hb)
  replace HT_all := hide (HT_all.out.kept hb)
  replace HBW := hide (HBW.out.trans (hb.mono HBW.out.size))
  clear hb hd0 hd1 HC HT_one
  by_cases hE : E = 0
  rotate_left
  · have hL : LJ = [] := by rw [HR_LJ.out, jnL, if_neg (by rw [← HR_E.out]; exact hE)]
    have hk : k2all = 0 := by have h := lies_len9 HT_all.out.L; rw [hL] at h; simpa using h.symm
    have hE3 : E = 1 ∨ E = 10 := by rw [HR_E.out] at hE ⊢; rcases jnE_all ts (a : Int) with h | h | h <;> omega
    subst hk
    clear hL hE
    rcases hE3 with h | h
    · subst h
      have cxall0 := HT_all.out.c0
      have cxall1 := HT_all.out.c1
      go_wp2
      go_ret
      exact ⟨rfl, HBW.out⟩
    · subst h
      have cxall0 := HT_all.out.c0
      have cxall1 := HT_all.out.c1
      go_wp2
      go_ret
      exact ⟨rfl, HBW.out⟩
  have HJE : Hid (jnE ts (a : Int) = 0) := hide (by rw [← HR_E.out]; exact hE)
  have e5 : SJ = jnSh ts a := by rw [HR_SJ.out, jnS_ok HJE.out]
  have e6 : LJ = joinL ts a := by rw [HR_LJ.out, jnL_ok HJE.out]
  clear HR_E HR_SJ HR_LJ
  subst hE
  have HSJ := hide e5
  have HLJ := hide e6
  clear e5 e6
  obtain ⟨x0, x1⟩ := HC0.out _ HBW.out
  obtain ⟨V10, hV10⟩ : ∃ W, W = s0.alloc (.cells #[.slice t0.A t0.n t0.c, .slice t0.B t0.m t0.d] 49) := ⟨_, rfl⟩
  have HT_so : Hid (TenAt V10 s0.heap.size t0.A t0.B t0.n t0.c t0.m t0.d t0.s t0.l) := hide (by
    rw [hV10]
    obtain ⟨h1, h2, _⟩ := HK0.out _ HBW.out
    exact ⟨BoxT.new s0 _ _, h1.alloc _, h2.alloc _⟩)
  have hb : Below s0.heap.size s0 V10 := by rw [hV10]; exact below_al6 (Below.refl _ _)
  have HE0 := hide hb
  have hV10' := hV10.symm
  have HXX : Hid (BoxT s0 ua8.heap.size (.slice A1all k1all c1all) (.slice A2all k2all c2all)) := hide HT_all.out.1
  have HT_allV := HT_all
  have HBV := HBW
  replace HT_all := hide (HT_all.out.kept hb)
  replace HBW := hide (HBW.out.trans (hb.mono HBW.out.size))
  clear x0 x1 hV10 hb
  obtain ⟨x0, x1⟩ := HC0.out _ HBW.out
  have hlt_so := HT_so.out.1.lt
  go_wp2_with fail
  refine Calls.mono (msum_own t0.A t0.B t0.n t0.c t0.m t0.d t0.s t0.l (a : Int) _ (HK0.out _ HBW.out).1 (HK0.out _ HBW.out).2.1 (by omega) (by omega)) ?_
  rw [sm_ok HTK0.out HAL.out, smS_ok HTK0.out HAL.out, smL_ok HTK0.out HAL.out]
  rintro e ua11 ⟨A1sum, k1sum, c1sum, A2sum, k2sum, c2sum, rfl, ho1, ho2, hk1sum, hk2sum, hb0⟩
  obtain ⟨V12, hV12⟩ : ∃ W, W = ua11.alloc (.cells #[.slice A1sum k1sum c1sum, .slice A2sum k2sum c2sum] 49) := ⟨_, rfl⟩
  have HT_sum : Hid (TenAt V12 ua11.heap.size A1sum A2sum k1sum c1sum k2sum c2sum (woL t0.s a) (sumT t0.s t0.l a)) := hide (by rw [hV12]; exact TenAt.own9 ho1 ho2)
  have hcapsum := own_cap9 ho1
  have hcbpsum := own_cap9 ho2
  have hsz_sum := hb0.size
  have hb : Below V10.heap.size V10 V12 := by rw [hV12]; exact below_al6 hb0
  replace HT_all := hide (HT_all.out.kept hb)
  replace HT_so := hide (HT_so.out.kept hb)
  replace HE0 := hide (below_nx6 HE0.out hb)
  replace HBW := hide (HBW.out.trans (hb.mono HBW.out.size))
  have hV12' := hV12.symm
  clear x0 x1 hV12 hb hb0 ho1 ho2
  have hlt_sum := HT_sum.out.1.lt
  have HJR0 : Hid (JnR s0.heap.size ua11.heap.size a ts 1 V12) := hide (by
    have e0 : ts.take 1 = [t0] := take_more9 (ts := ts) (i := 0) HT0.out
    obtain ⟨_, e1, e2⟩ := jn_one HTK0.out HLM.out HAL.out
    refine ⟨t0.A, t0.n, t0.c, t0.B, t0.m, t0.d, A1sum, k1sum, c1sum, A2sum, k2sum, c2sum, ?_, ?_, ⟨hn0c, hm0d, hn0, hm0⟩, hcapsum, hk1sum, hk2sum⟩
    · rw [e0, e1, e2]; exact HT_so.out
    · rw [e0, e1, e2]; exact HT_sum.out)
  clear HT_so HT_sum HT_all
  go_wp2
  go_loopw [13, 12, 7] (fun i g e wr => ∃ k : Nat, 1 ≤ k ∧ k ≤ q ∧ i = .int .i64 k ∧ g = .int .i64 0 ∧ e = .int .i64 0 ∧ Hid (JnR s0.heap.size ua11.heap.size a ts k wr) ∧ Hid (Below s0.heap.size s0 wr)) (fun i _ _ _ => q - (intOf i).toNat)
  case atStart => exact ⟨1, Nat.le_refl _, by omega, rfl, rfl, rfl, HJR0, HE0⟩
  case round =>
    clear HJR0 HE0 HBW
    obtain ⟨k, hk1, hk, rfl, rfl, rfl, HR, HE⟩ := hrel
    have HBW : Hid (Below w.heap.size w wr) := hide (HBV.out.trans (HE.out.mono HBV.out.size))
    obtain ⟨A1, n1, c1, B1, m1, d1, A2, n2, c2, B2, m2, d2, hso, hsu, ⟨g1, g2, g3, g4⟩, g5, g6, g7⟩ := HR.out
    have HT_so := hide hso
    have HT_sum := hide hsu
    clear hso hsu HR
    have hpso : s0.heap.size < wr.heap.size := HT_so.out.1.lt
    have hpsu : ua11.heap.size < wr.heap.size := HT_sum.out.1.lt
    by_cases hlt : k < q
    · have h3 : (k : Int) < (q : Int) := by omega
      have h0 : (0 : Int) ≤ (k : Int) := by omega
      obtain ⟨t, ht⟩ : ∃ t, ts[k]? = some t := ⟨ts[k]'(by rw [HL.out]; exact hlt), List.getElem?_eq_getElem (by rw [HL.out]; exact hlt)⟩
      have HJP : Hid (jnE (ts.take k) (a : Int) = 0) := hide (jn_pre HJE.out hk1 (by rw [HL.out]; exact hk))
      have hN : jnE (ts.take k ++ [t]) (a : Int) = 0 := by rw [← take_more9 ht]; exact jn_pre HJE.out (by omega) (by rw [HL.out]; omega)
      have hlen1 : 1 ≤ (ts.take k).length := by rw [List.length_take, HL.out]; omega
      obtain ⟨S1, hS1⟩ : ∃ z, z = jnSh (ts.take k) a := ⟨_, rfl⟩
      obtain ⟨L1, hL1⟩ : ∃ z, z = joinL (ts.take k) a := ⟨_, rfl⟩
      obtain ⟨S2, hS2⟩ : ∃ z, z = jnSh (ts.take (k + 1)) a := ⟨_, rfl⟩
      obtain ⟨L2, hL2⟩ : ∃ z, z = joinL (ts.take (k + 1)) a := ⟨_, rfl⟩
      rw [← hS1, ← hL1] at HT_so HT_sum
      have hlm1 : L1.length = m1 := lies_len9 HT_so.out.L
      obtain ⟨j1, j2, j3⟩ := jn_two (acc := ⟨A1, n1, c1, B1, m1, d1, S1, L1⟩) hN hlen1 hS1 hL1 hlm1
      obtain ⟨u1, u2, u3⟩ := jn_sum hN hlen1
      obtain ⟨v1, v2⟩ := jn_tOk HJE.out ht
      have hk9 := jn_tenOk HJP.out
      rw [← hS1, ← hL1, hlm1] at hk9
      have ha9 : a < S1.length := by rw [hS1, jnSh, List.length_set]; exact (jnE_iff.1 HJP.out).2.1
      rw [← take_more9 ht, ← hS2] at j2
      rw [← take_more9 ht, ← hL2] at j3
      rw [← take_more9 ht, ← hS2, ← hS1] at u1
      rw [← hS1] at u2
      rw [← take_more9 ht, ← hS2, ← hL2, ← hS1, ← hL1] at u3
      have HJ2 : Hid (jnE [(⟨A1, n1, c1, B1, m1, d1, S1, L1⟩ : Tn), t] (a : Int) = 0 ∧ jnS [(⟨A1, n1, c1, B1, m1, d1, S1, L1⟩ : Tn), t] (a : Int) = S2 ∧ jnL [(⟨A1, n1, c1, B1, m1, d1, S1, L1⟩ : Tn), t] (a : Int) = L2) := hide ⟨j1, by rw [jnS_ok j1, j2], by rw [jnL_ok j1, j3]⟩
      have HU1 := hide u1
      have HU2 := hide u2
      have HU3 := hide u3
      have HV1 := hide v1
      have HV2 := hide v2
      have HK9 := hide hk9
      have HA9 := hide ha9
      have HS2 := hide hS2
      have HL2 := hide hL2
      have HTT := hide ht
      clear hN hlen1 hS1 hL1 hS2 hL2 hlm1 j1 j2 j3 u1 u2 u3 v1 v2 hk9 ha9 ht
      obtain ⟨hnc, hmd, hn7, hm7⟩ : t.n ≤ t.c ∧ t.m ≤ t.d ∧ t.n ≤ 70368744177664 ∧ t.m ≤ 70368744177664 := (HCT.out _ HBW.out k t HTT.out).2.2.2.2
      go_wp2
      have HC : Hid (∀ v, Below wr.heap.size wr v → v.cell? ⟨s0.heap.size, 0, none⟩ = some (.slice A1 n1 c1) ∧ v.cell? ⟨s0.heap.size, 1, none⟩ = some (.slice B1 m1 d1) ∧ v.cell? ⟨bU, oU + k * 2, none⟩ = some (.slice t.A t.n t.c) ∧ v.cell? ⟨bU, oU + k * 2 + 1, none⟩ = some (.slice t.B t.m t.d)) := hide (fun v hv => by
        obtain ⟨h1, h2, _⟩ := HCT.out v (HBW.out.trans (hv.mono HBW.out.size)) k t HTT.out
        exact ⟨(HT_so.out.kept hv).c0, (HT_so.out.kept hv).c1, h1, h2⟩)
      have hd0 : Below wr.heap.size wr wr.drew := below_drewN (Below.refl _ _) 1
      have hS0 : Hid (wr.drew.cell? ⟨s0.heap.size, 0, none⟩ = some (.slice A1 n1 c1) ∧ wr.drew.cell? ⟨s0.heap.size, 1, none⟩ = some (.slice B1 m1 d1) ∧ wr.drew.cell? ⟨bU, oU + k * 2, none⟩ = some (.slice t.A t.n t.c) ∧ wr.drew.cell? ⟨bU, oU + k * 2 + 1, none⟩ = some (.slice t.B t.m t.d)) := hide (HC.out _ hd0)
      refine wp_region_U (fun b v => b = false → v.cell? ⟨s0.heap.size, 0, none⟩ = some (.slice A1 n1 c1) ∧ v.cell? ⟨s0.heap.size, 1, none⟩ = some (.slice B1 m1 d1) ∧ v.cell? ⟨bU, oU + k * 2, none⟩ = some (.slice t.A t.n t.c) ∧ v.cell? ⟨bU, oU + k * 2 + 1, none⟩ = some (.slice t.B t.m t.d)) 11 (by kernel_rfl) ?_
      refine wpAnyU_take (i := 0) (oi := { dst := some 98, op := _, type := _, pos := _, after := _, guard := none }) (v := .agg #[.slice A1 n1 c1, .slice B1 m1 d1]) rfl (by kernel_rfl) (by kernel_rfl) (by kernel_rfl) (by kernel_rfl) (fun _ _ _ h => h) (yields_take rfl (fun w' hw => by obtain ⟨h1, h2, h3, h4⟩ := hw.no (by kernel_rfl) rfl; go_simp)) (fun _ => hS0.out) ?_
      simp only [Act.put, List.setIfInBounds_toArray, List.set_cons_zero, List.set_cons_succ]
      refine wpAnyU_take (i := 1) (oi := { dst := some 99, op := _, type := _, pos := _, after := _, guard := none }) (v := .slice (some ⟨bU, oU, none⟩) q cu) rfl (by kernel_rfl) (by kernel_rfl) (by kernel_rfl) (by kernel_rfl) (fun _ _ _ h => h) (yields_take rfl (fun w' hw => by obtain ⟨h1, h2, h3, h4⟩ := hw.no (by kernel_rfl) rfl; go_simp)) (fun _ => hS0.out) ?_
      simp only [Act.put, List.setIfInBounds_toArray, List.set_cons_zero, List.set_cons_succ]
      refine wpAnyU_take (i := 2) (oi := { dst := some 100, op := _, type := _, pos := _, after := _, guard := none }) (v := .int .i64 (k : Int)) rfl (by kernel_rfl) (by kernel_rfl) (by kernel_rfl) (by kernel_rfl) (fun _ _ _ h => h) (yields_take rfl (fun w' hw => by obtain ⟨h1, h2, h3, h4⟩ := hw.no (by kernel_rfl) rfl; go_simp)) (fun _ => hS0.out) ?_
      simp only [Act.put, List.setIfInBounds_toArray, List.set_cons_zero, List.set_cons_succ]
      refine wpAnyU_take (i := 3) (oi := { dst := some 101, op := _, type := _, pos := _, after := _, guard := none }) (v := .pointer (some ⟨bU, oU + k * 2, none⟩)) rfl (by kernel_rfl) (by kernel_rfl) (by kernel_rfl) (by kernel_rfl) (fun _ _ _ h => h) (yields_take rfl (fun w' hw => by obtain ⟨h1, h2, h3, h4⟩ := hw.no (by kernel_rfl) rfl; go_simp)) (fun _ => hS0.out) ?_
      simp only [Act.put, List.setIfInBounds_toArray, List.set_cons_zero, List.set_cons_succ]
      refine wpAnyU_take (i := 4) (oi := { dst := some 102, op := _, type := _, pos := _, after := _, guard := none }) (v := .agg #[.slice t.A t.n t.c, .slice t.B t.m t.d]) rfl (by kernel_rfl) (by kernel_rfl) (by kernel_rfl) (by kernel_rfl) (fun _ _ _ h => h) (yields_take rfl (fun w' hw => by obtain ⟨h1, h2, h3, h4⟩ := hw.no (by kernel_rfl) rfl; go_simp)) (fun _ => hS0.out) ?_
      simp only [Act.put, List.setIfInBounds_toArray, List.set_cons_zero, List.set_cons_succ]
      refine wpAnyU_take (i := 6) (oi := { dst := some 104, op := _, type := _, pos := _, after := _, guard := none }) (v := .int .i64 (a : Int)) rfl (by kernel_rfl) (by kernel_rfl) (by kernel_rfl) (by kernel_rfl) (fun _ _ _ h => h) (yields_take rfl (fun w' hw => by obtain ⟨h1, h2, h3, h4⟩ := hw.no (by kernel_rfl) rfl; go_simp)) (fun _ => hS0.out) ?_
      simp only [Act.put, List.setIfInBounds_toArray, List.set_cons_zero, List.set_cons_succ]
      refine wpAnyU_one (i := 5) (by kernel_rfl) rfl ?_
      intro K hK
      go_simp
      obtain ⟨wa, hwa⟩ : ∃ W, W = (wr.alloc (.cells #[.slice A1 n1 c1, .slice B1 m1 d1, .slice t.A t.n t.c, .slice t.B t.m t.d] 49)).drew := ⟨_, rfl⟩
      rw [← hwa]
      have hd1 : Below wr.heap.size wr wa := by rw [hwa]; exact below_drewN (below_al6 (Below.refl _ _)) 1
      have hTS : TsAt wa wr.heap.size 0 [⟨A1, n1, c1, B1, m1, d1, S1, L1⟩, t] := by
        have hr : wa.heap[wr.heap.size]? = some (.cells #[.slice A1 n1 c1, .slice B1 m1 d1, .slice t.A t.n t.c, .slice t.B t.m t.d] 49 (0, 0)) := by rw [hwa]; exact heap_alloc_new wr (.cells #[.slice A1 n1 c1, .slice B1 m1 d1, .slice t.A t.n t.c, .slice t.B t.m t.d] 49)
        have hk1 : Tn.Ok ⟨A1, n1, c1, B1, m1, d1, S1, L1⟩ wa := (HT_so.out.kept hd1).tok g1 g2 g3 g4
        have hk2 : Tn.Ok t wa := (HCT.out wa (HBW.out.trans (hd1.mono HBW.out.size)) k t HTT.out).2.2
        intro j t' ht'
        match j, ht' with
        | 0, ht' => cases ht'; exact ⟨cell_of_row _ _ 0 _ _ (0, 0) hr, cell_of_row _ _ 1 _ _ (0, 0) hr, hk1⟩
        | 1, ht' => cases ht'; exact ⟨cell_of_row _ _ 2 _ _ (0, 0) hr, cell_of_row _ _ 3 _ _ (0, 0) hr, hk2⟩
        | j + 2, ht' => simp at ht'
      have hlta : wr.heap.size < wa.heap.size := by rw [hwa, World.size_drew, World.size_alloc]; omega
      clear hwa
      have hSa : Hid (wa.cell? ⟨s0.heap.size, 0, none⟩ = some (.slice A1 n1 c1) ∧ wa.cell? ⟨s0.heap.size, 1, none⟩ = some (.slice B1 m1 d1) ∧ wa.cell? ⟨bU, oU + k * 2, none⟩ = some (.slice t.A t.n t.c) ∧ wa.cell? ⟨bU, oU + k * 2 + 1, none⟩ = some (.slice t.B t.m t.d)) := hide (HC.out _ hd1)
      refine hK _ _ (fun _ => hSa.out) (fun _ => ?_)
      clear hK K hS0
      refine wpAnyU_one (i := 7) (by kernel_rfl) rfl ?_
      intro K hK
      go_simp
      have hcon := mjoin_own (some ⟨wr.heap.size, 0, none⟩) 2 2 [⟨A1, n1, c1, B1, m1, d1, S1, L1⟩, t] (a : Int) wa rfl (fun _ => ⟨_, _, rfl, hlta, hTS⟩) (by omega)
      rw [HJ2.out.1, HJ2.out.2.1, HJ2.out.2.2] at hcon
      refine Calls.mono (hcon) ?_
      rintro e w9 ⟨A3, n3, c3, B3, m3, d3, rfl, ho1, ho2, hn3, hm3, hb⟩
      dsimp only
      have hd9 : Below wr.heap.size wr w9 := below_nx6 hd1 hb
      have hcap3 := own_cap9 ho1
      have hcbp3 := own_cap9 ho2
      clear hb hTS hcon
      have hS1 : Hid (w9.cell? ⟨s0.heap.size, 0, none⟩ = some (.slice A1 n1 c1) ∧ w9.cell? ⟨s0.heap.size, 1, none⟩ = some (.slice B1 m1 d1) ∧ w9.cell? ⟨bU, oU + k * 2, none⟩ = some (.slice t.A t.n t.c) ∧ w9.cell? ⟨bU, oU + k * 2 + 1, none⟩ = some (.slice t.B t.m t.d)) := hide (HC.out _ hd9)
      refine hK _ _ (fun _ => hS1.out) (fun _ => ?_)
      clear hK K hSa
      refine wpAnyU_take (i := 8) (oi := { dst := some 97, op := _, type := _, pos := _, after := _, guard := none }) (v := .tuple #[.agg #[.slice A3 n3 c3, .slice B3 m3 d3], .int .i64 (0 : Int)]) rfl (by kernel_rfl) (by kernel_rfl) (by kernel_rfl) (by kernel_rfl) (fun _ _ _ h => h) (yields_take rfl (fun w' hw => by obtain ⟨h1, h2, h3, h4⟩ := hw.no (by kernel_rfl) rfl; go_simp)) (fun _ => hS1.out) ?_
      simp only [Act.put, List.setIfInBounds_toArray, List.set_cons_zero, List.set_cons_succ]
      refine wpAnyU_take (i := 9) (oi := { dst := some 106, op := _, type := _, pos := _, after := _, guard := none }) (v := .agg #[.slice A3 n3 c3, .slice B3 m3 d3]) rfl (by kernel_rfl) (by kernel_rfl) (by kernel_rfl) (by kernel_rfl) (fun _ _ _ h => h) (yields_take rfl (fun w' hw => by obtain ⟨h1, h2, h3, h4⟩ := hw.no (by kernel_rfl) rfl; go_simp)) (fun _ => hS1.out) ?_
      simp only [Act.put, List.setIfInBounds_toArray, List.set_cons_zero, List.set_cons_succ]
      refine wpAnyU_take (i := 10) (oi := { dst := some 107, op := _, type := _, pos := _, after := _, guard := none }) (v := .int .i64 (0 : Int)) rfl (by kernel_rfl) (by kernel_rfl) (by kernel_rfl) (by kernel_rfl) (fun _ _ _ h => h) (yields_take rfl (fun w' hw => by go_simp)) (fun _ => hS1.out) ?_
      simp only [Act.put, List.setIfInBounds_toArray, List.set_cons_zero, List.set_cons_succ]
      have HBX : Hid (BoxT w9 s0.heap.size (.slice A1 n1 c1) (.slice B1 m1 d1)) := hide (HT_so.out.1.kept hd9)
      have a0 := HBX.out.c0
      have a1 := HBX.out.c1
      have f0 := HBX.out.f0 0
      have f1 := HBX.out.f0 1
      refine wpAnyU_one (i := 11) (by kernel_rfl) rfl ?_
      intro K hK
      go_simp
      refine hK _ _ (fun h => by cases h) (fun _ => ?_)
      clear hK K a0 a1 f0 f1
      refine wpAnyU_take (i := 12) (oi := { dst := some 7, op := _, type := _, pos := _, after := _, guard := none }) (v := .int .i64 (0 : Int)) rfl (by kernel_rfl) (by kernel_rfl) (by kernel_rfl) (by kernel_rfl) (fun _ _ _ h => h) (yields_take rfl (fun w' hw => by go_simp)) (fun h => by cases h) ?_
      simp only [Act.put, List.setIfInBounds_toArray, List.set_cons_zero, List.set_cons_succ]
      refine wpAnyU_done (by kernel_rfl) ?_ _
      clear hS1
      have hd1s := hd1.size
      have hpne : ua11.heap.size ≠ s0.heap.size := by omega
      obtain ⟨wx, hwx⟩ : ∃ W, W = ((w9.setCell ⟨s0.heap.size, 0, none⟩ (.slice A3 n3 c3)).setCell ⟨s0.heap.size, 1, none⟩ (.slice B3 m3 d3)) := ⟨_, rfl⟩
      rw [← hwx]
      have HT_s2 : Hid (TenAt wx s0.heap.size A3 B3 n3 c3 m3 d3 S2 L2) := hide (by rw [hwx]; exact TenAt.put9 HBX.out ho1 ho2 (by omega) (by omega))
      have HT_q2 : Hid (TenAt wx ua11.heap.size A2 B2 n2 c2 m2 d2 (woL S1 a) (sumT S1 L1 a)) := hide (by rw [hwx]; exact TenAt.aside (HT_sum.out.kept hd9) HBX.out hpne _ _)
      have HEX : Hid (Below s0.heap.size s0 wx) := hide (by rw [hwx]; exact ((below_nx6 HE.out hd9).setCell (by dsimp only; omega) _).setCell (by dsimp only; omega) _)
      have HBX2 : Hid (Below w.heap.size w wx) := hide (HBV.out.trans (HEX.out.mono HBV.out.size))
      have HPN := hide hpne
      clear hwx ho1 ho2 HBX HT_so HT_sum HC hd0 hd1 hd9 hd1s hlta HJ2 hpne
      obtain ⟨y0, y1, hkt⟩ := HCT.out _ HBX2.out k t HTT.out
      have HKT := hide hkt
      clear hkt
      go_wp2_with fail
      refine Calls.mono (msum_own t.A t.B t.n t.c t.m t.d t.s t.l (a : Int) _ HKT.out.1 HKT.out.2.1 (by omega) (by omega)) ?_
      rw [sm_ok HV1.out HV2.out, smS_ok HV1.out HV2.out, smL_ok HV1.out HV2.out, HU2.out]
      rintro e wy ⟨A4, n4, c4, B4, m4, d4, rfl, ho1, ho2, hn4', hm4', hb0⟩
      obtain ⟨wz, hwz⟩ : ∃ W, W = wy.alloc (.cells #[.slice A4 n4 c4, .slice B4 m4 d4] 49) := ⟨_, rfl⟩
      have HT_m : Hid (TenAt wz wy.heap.size A4 B4 n4 c4 m4 d4 (woL S1 a) (sumT t.s t.l a)) := hide (by rw [hwz]; exact TenAt.own9 ho1 ho2)
      have hb : Below wx.heap.size wx wz := by rw [hwz]; exact below_al6 hb0
      replace HT_s2 := hide (HT_s2.out.kept hb)
      replace HT_q2 := hide (HT_q2.out.kept hb)
      replace HEX := hide (below_nx6 HEX.out hb)
      have hwz' := hwz.symm
      clear y0 y1 hwz hb hb0 ho1 ho2 HKT HBX2
      have HSM : Hid (tenOk (woL S1 a) m4 = true) := hide (by
        have h := sumT_ok (l := t.l) HV1.out HV2.out
        rw [HU2.out] at h
        rw [← lies_len9 HT_m.out.L]
        exact h)
      have HSQ : Hid (tenOk (woL S1 a) m2 = true) := hide (by
        have h := sumT_ok (l := L1) HK9.out HA9.out
        rw [← lies_len9 HT_q2.out.L]
        exact h)
      have a0 := HT_q2.out.c0
      have a1 := HT_q2.out.c1
      have b0 := HT_m.out.c0
      have b1 := HT_m.out.c1
      go_wp2_with fail
      refine Calls.mono (add_own A2 B2 A4 B4 n2 c2 m2 d2 n4 c4 m4 d4 (woL S1 a) (sumT S1 L1 a) (woL S1 a) (sumT t.s t.l a) _ HT_q2.out.S HT_q2.out.L HT_m.out.S HT_m.out.L (by omega) (by omega)) ?_
      rw [twoE_ok HSQ.out HSM.out rfl, twoS_ok9 HSQ.out HSM.out, twoL_ok9 HSQ.out HSM.out, ← HU3.out, ← HU1.out]
      rintro e wv ⟨A5, n5, c5, B5, m5, d5, rfl, ho1, ho2, hn5, hm5, hb0⟩
      have HO := hide (And.intro ho1 ho2)
      have hcap5 := own_cap9 ho1
      have HBQ : Hid (BoxT wv ua11.heap.size (.slice A2 n2 c2) (.slice B2 m2 d2)) := hide (HT_q2.out.1.kept hb0)
      have HT_s3 : Hid (TenAt wv s0.heap.size A3 B3 n3 c3 m3 d3 S2 L2) := hide (HT_s2.out.kept hb0)
      have HEV := hide (below_nx6 HEX.out hb0)
      have hlz : ua11.heap.size < wz.heap.size := HT_q2.out.1.lt
      have hvs : s0.heap.size ≤ ua11.heap.size := by omega
      clear a0 a1 b0 b1 ho1 ho2 hb0 HSM HSQ HT_m HT_q2 HT_s2
      have a0 := HBQ.out.c0
      have a1 := HBQ.out.c1
      have f0 := HBQ.out.f0 0
      have f1 := HBQ.out.f0 1
      go_wp2
      go_roundw
      case rel =>
        refine ⟨k + 1, by omega, by omega, by go_num, rfl, rfl, hide ?_, hide ((HEV.out.setCell (by dsimp only; omega) _).setCell (by dsimp only; omega) _)⟩
        refine ⟨A3, n3, c3, B3, m3, d3, A5, n5, c5, B5, m5, d5, ?_, ?_, ⟨by omega, by omega, by omega, by omega⟩, hcap5, hn5, hm5⟩
        · rw [← HS2.out, ← HL2.out]
          exact TenAt.aside HT_s3.out HBQ.out (fun h => HPN.out h.symm) _ _
        · rw [← HS2.out, ← HL2.out]
          exact TenAt.put9 HBQ.out HO.out.1 HO.out.2 hlz hlz
      case measure => simp [intOf] <;> omega
    · obtain rfl : q = k := by omega
      have e0 : ts.take q = ts := List.take_of_length_le (by rw [HL.out]; exact Nat.le_refl _)
      rw [e0, ← HSJ.out, ← HLJ.out] at HT_so HT_sum
      clear e0
      have HT_all := hide (HT_allV.out.kept HE.out)
      have HKJ : Hid (tenOk SJ k2all = true) := hide (by rw [← lies_len9 HT_all.out.L, HSJ.out, HLJ.out]; exact jn_tenOk HJE.out)
      have HAJ : Hid (a < SJ.length) := hide (by rw [HSJ.out, jnSh, List.length_set]; exact (jnE_iff.1 HJE.out).2.1)
      have cxall0 := HT_all.out.c0
      have cxall1 := HT_all.out.c1
      go_wp2_with fail
      refine Calls.mono (msum_own A1all A2all k1all c1all k2all c2all SJ LJ (a : Int) _ HT_all.out.S HT_all.out.L (by omega) (by omega)) ?_
      rw [sm_ok HKJ.out HAJ.out, smS_ok HKJ.out HAJ.out, smL_ok HKJ.out HAJ.out]
      rintro e ua13 ⟨A1x, k1x, c1x, A2x, k2x, c2x, rfl, ho1, ho2, hk1x, hk2x, hb0⟩
      obtain ⟨V14, hV14⟩ : ∃ W, W = ua13.alloc (.cells #[.slice A1x k1x c1x, .slice A2x k2x c2x] 49) := ⟨_, rfl⟩
      have HT_x : Hid (TenAt V14 ua13.heap.size A1x A2x k1x c1x k2x c2x (woL SJ a) (sumT SJ LJ a)) := hide (by rw [hV14]; exact TenAt.own9 ho1 ho2)
      have hcapx := own_cap9 ho1
      have hcbpx := own_cap9 ho2
      have hsz_x := hb0.size
      have hb : Below wr.heap.size wr V14 := by rw [hV14]; exact below_al6 hb0
      replace HT_all := hide (HT_all.out.kept hb)
      replace HT_so := hide (HT_so.out.kept hb)
      replace HT_sum := hide (HT_sum.out.kept hb)
      replace HBW := hide (HBW.out.trans (hb.mono HBW.out.size))
      have hV14' := hV14.symm
      clear cxall0 cxall1 hV14 hb hb0 ho1 ho2
      have hlt_x := HT_x.out.1.lt
      have cxso0 := HT_so.out.c0
      have cxso1 := HT_so.out.c1
      have cxall0 := HT_all.out.c0
      have cxall1 := HT_all.out.c1
      go_wp2_with fail
      refine Calls.mono (tsame_any A1 B1 A1all A2all n1 c1 m1 d1 k1all c1all k2all c2all SJ LJ SJ LJ _ HT_so.out.S HT_so.out.L HT_all.out.S HT_all.out.L (by omega) (by omega)) ?_
      rw [show decide (SJ = SJ ∧ LJ = LJ) = true from decide_eq_true ⟨rfl, rfl⟩]
      rintro e ua15 ⟨rfl, hb⟩
      replace HT_all := hide (HT_all.out.kept hb)
      replace HT_so := hide (HT_so.out.kept hb)
      replace HT_sum := hide (HT_sum.out.kept hb)
      replace HT_x := hide (HT_x.out.kept hb)
      replace HBW := hide (HBW.out.trans (hb.mono HBW.out.size))
      clear cxso0 cxso1 cxall0 cxall1 hb
      have cxx0 := HT_x.out.c0
      have cxx1 := HT_x.out.c1
      have cxsum0 := HT_sum.out.c0
      have cxsum1 := HT_sum.out.c1
      go_wp2_with fail
      refine Calls.mono (is9_any A1x A2x A2 B2 k1x c1x k2x c2x n2 c2 m2 d2 (woL SJ a) (sumT SJ LJ a) (woL SJ a) (sumT SJ LJ a) 0 _ HT_x.out.S HT_x.out.L HT_sum.out.S HT_sum.out.L (by omega) (by omega) rfl) ?_
      rw [show decide (woL SJ a = woL SJ a ∧ sumT SJ LJ a = sumT SJ LJ a) = true from decide_eq_true ⟨rfl, rfl⟩]
      rintro e ua16 ⟨rfl, hb⟩
      replace HT_all := hide (HT_all.out.kept hb)
      replace HT_so := hide (HT_so.out.kept hb)
      replace HT_sum := hide (HT_sum.out.kept hb)
      replace HT_x := hide (HT_x.out.kept hb)
      replace HBW := hide (HBW.out.trans (hb.mono HBW.out.size))
      clear cxx0 cxx1 cxsum0 cxsum1 hb
      go_wp2
      go_ret
      exact ⟨rfl, HBW.out⟩

end Go.Proofs.Ytomhbhhfbbdilaa
