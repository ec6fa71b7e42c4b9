/- MovesBehind: for every tensors and every direction the walk of its Go text ends in true. -/
import Derived.Test.YtomhbhhfbbdilaaJoins9M
import Derived.Test.YtomhbhhfbbdilaaPm20M
import Derived.Maps.AppendAt
namespace Go.Proofs.Ytomhbhhfbbdilaa
open Go.RowKit
set_option linter.unusedVariables false
set_option linter.unusedSimpArgs false
set_option maxRecDepth 100000

theorem infoT9 : (Try.prog.info? 49).map (fun i => (i.zero, i.size, i.bytes)) = some (some (.agg #[.slice none 0 0, .slice none 0 0]), 2, 48) := by kernel_rfl

/-- The order as it is filled in. -/
def ordP (n k : Nat) : List Int := (List.range n).map fun j => if j < k then (j : Int) else 0

theorem ordP_len (n k : Nat) : (ordP n k).length = n := by simp [ordP]

theorem ordP_at {n k i : Nat} (hi : i < n) : (ordP n k).getD i 0 = if i < k then (i : Int) else 0 := by simp [ordP, List.getD, hi]

theorem ordP_one (n : Nat) : ordP n 1 = List.replicate n 0 := by
  refine list_ext9 (by rw [ordP_len, List.length_replicate]) fun i hi => ?_
  rw [ordP_len] at hi
  rw [ordP_at hi, List.getD_eq_getElem?_getD, List.getElem?_replicate_of_lt hi, Option.getD_some]
  split <;> omega

theorem getD_set_all {l : List Int} {i k : Nat} {x : Int} (hk : k < l.length) : (l.set k x).getD i 0 = if i = k then x else l.getD i 0 := by
  by_cases e : i = k
  · rw [if_pos e, e, getD_set hk]
  · rw [if_neg e, List.getD_eq_getElem?_getD, List.getD_eq_getElem?_getD, List.getElem?_set_ne (by omega)]

theorem ordP_set {n k : Nat} (hk : k < n) : (ordP n k).set k (k : Int) = ordP n (k + 1) := by
  refine list_ext9 (by rw [List.length_set, ordP_len, ordP_len]) fun i hi => ?_
  rw [List.length_set, ordP_len] at hi
  rw [getD_set_all (by rw [ordP_len]; exact hk), ordP_at hi, ordP_at hi]
  by_cases e : i = k
  · rw [if_pos e, if_pos (by omega), e]
  · rw [if_neg e]
    by_cases h : i < k
    · rw [if_pos h, if_pos (by omega)]
    · rw [if_neg h, if_neg (by omega)]

theorem ordP_swap {n a : Nat} (ha : a < n) : ((ordP n n).set 0 (a : Int)).set a 0 = swapU n a := by
  refine list_ext9 (by rw [List.length_set, List.length_set, ordP_len, swapU_len]) fun i hi => ?_
  rw [List.length_set, List.length_set, ordP_len] at hi
  rw [getD_set_all (by rw [List.length_set, ordP_len]; exact ha), getD_set_all (by rw [ordP_len]; omega), ordP_at hi, swapU_at hi, if_pos hi]
  by_cases h0 : i = 0
  · by_cases h1 : i = a
    · rw [if_pos h1, if_pos h0, ← h1, h0]; rfl
    · rw [if_neg h1, if_pos h0, if_pos h0]
  · by_cases h1 : i = a
    · rw [if_pos h1, if_neg h0, if_pos h1]
    · rw [if_neg h1, if_neg h0, if_neg h0, if_neg h1]

/-- A list of tensors, cell by cell. -/
def cellsT (vs : List Tn) : List Value := vs.flatMap fun t => [.slice t.A t.n t.c, .slice t.B t.m t.d]

theorem cellsT_snoc (vs : List Tn) (t : Tn) : cellsT (vs ++ [t]) = cellsT vs ++ [.slice t.A t.n t.c, .slice t.B t.m t.d] := by simp [cellsT, List.flatMap_append]

theorem cellsT_at : ∀ (vs : List Tn) (j : Nat) (t : Tn), vs[j]? = some t → (cellsT vs)[j * 2]? = some (.slice t.A t.n t.c) ∧ (cellsT vs)[j * 2 + 1]? = some (.slice t.B t.m t.d)
  | [], j, t, h => by simp at h
  | v :: r, 0, t, h => by simp at h; subst h; exact ⟨rfl, rfl⟩
  | v :: r, j + 1, t, h => by
    have ih := cellsT_at r j t (by simpa using h)
    have e : cellsT (v :: r) = .slice v.A v.n v.c :: .slice v.B v.m v.d :: cellsT r := by simp [cellsT]
    rw [e, show (j + 1) * 2 = j * 2 + 1 + 1 by omega]
    simpa using ih

/-- The lists of tensors lie apart from two rows that grow. -/
def VsAt (w : World) (vs : List Tn) (a b : Option Nat) : Prop :=
  ∀ t ∈ vs, t.Ok w ∧ (∀ g o, t.A = some ⟨g, o, none⟩ → g < w.heap.size ∧ some g ≠ a ∧ some g ≠ b) ∧ (∀ g o, t.B = some ⟨g, o, none⟩ → g < w.heap.size ∧ some g ≠ a ∧ some g ≠ b)

theorem VsAt.keep {w w' : World} {vs : List Tn} {a b a' b' row : Option Nat} (h : VsAt w vs a b) (hg : w.grownBy w' row) (hr : row = a ∨ row = b ∨ row = none) (ha : a' = a ∨ a' = some w.heap.size) (hb : b' = b ∨ b' = some w.heap.size) : VsAt w' vs a' b' := by
  intro t ht
  obtain ⟨⟨h1, h2, h3⟩, hA, hB⟩ := h t ht
  have hne : ∀ g, g < w.heap.size ∧ some g ≠ a ∧ some g ≠ b → some g ≠ row := fun g hh => by
    rcases hr with rfl | rfl | rfl
    · exact hh.2.1
    · exact hh.2.2
    · simp
  have hnew : ∀ g, g < w.heap.size ∧ some g ≠ a ∧ some g ≠ b → g < w'.heap.size ∧ some g ≠ a' ∧ some g ≠ b' := fun g hh => by
    refine ⟨Nat.lt_of_lt_of_le hh.1 hg.size, ?_, ?_⟩
    · rcases ha with rfl | rfl
      · exact hh.2.1
      · intro e; injection e with e; omega
    · rcases hb with rfl | rfl
      · exact hh.2.2
      · intro e; injection e with e; omega
  refine ⟨⟨h1.keep hg.size (fun g o e hlt j => World.cell?_of_block (hg.block g hlt (hne g (hA g o e)))), h2.keep hg.size (fun g o e hlt j => World.cell?_of_block (hg.block g hlt (hne g (hB g o e)))), h3⟩, fun g o e => hnew g (hA g o e), fun g o e => hnew g (hB g o e)⟩

theorem grown_of_below {w w' : World} (hb : Below w.heap.size w w') : w.grownBy w' none := ⟨hb.os, hb.tape, hb.output, hb.size, fun i hi _ => hb.block i hi⟩

theorem VsAt.snoc {w : World} {vs : List Tn} {a b : Option Nat} {t : Tn} (h : VsAt w vs a b) (ht : t.Ok w) (hA : ∀ g o, t.A = some ⟨g, o, none⟩ → g < w.heap.size ∧ some g ≠ a ∧ some g ≠ b) (hB : ∀ g o, t.B = some ⟨g, o, none⟩ → g < w.heap.size ∧ some g ≠ a ∧ some g ≠ b) : VsAt w (vs ++ [t]) a b := by
  intro t' ht'
  rcases List.mem_append.1 ht' with h1 | h1
  · exact h t' h1
  · rw [List.mem_singleton] at h1
    subst h1
    exact ⟨ht, hA, hB⟩

theorem own_spot9 {w : World} {base : Nat} {e : TypeId} {A : Option Addr} {n c : Nat} {xs : List Value} (h : w.ownsRow base e 1 (.slice A n c) n xs) {a b : Option Nat} (ha : ∀ k, a = some k → k < base) (hb : ∀ k, b = some k → k < base) :
    ∀ g o, A = some ⟨g, o, none⟩ → g < w.heap.size ∧ some g ≠ a ∧ some g ≠ b := by
  intro g o e1
  have hl := h.lt g (by rw [e1]; rfl)
  refine ⟨hl.2, fun e2 => ?_, fun e2 => ?_⟩
  · have := ha g e2.symm; omega
  · have := hb g e2.symm; omega

theorem own_kept9 {w w' : World} {base size : Nat} {e : TypeId} {v : Value} {n : Nat} {xs : List Value} (h : w.ownsRow base e size v n xs) (hb : Below w.heap.size w w') : w'.ownsRow base e size v n xs :=
  h.kept (row := none) (grown_of_below hb) (by cases v.ownBlock <;> simp)

theorem own_types9 {w : World} {base base' size size' : Nat} {e e' : TypeId} {v v' : Value} {n n' : Nat} {xs xs' : List Value} (h : w.ownsRow base e size v n xs) (h' : w.ownsRow base' e' size' v' n' xs') (he : e ≠ e') : v.ownBlock = none ∨ v.ownBlock ≠ v'.ownBlock := by
  rcases h.2 with ⟨rfl, _⟩ | ⟨g, cap, cur, rfl, _, hg, _⟩
  · exact .inl rfl
  · right
    rcases h'.2 with ⟨rfl, _⟩ | ⟨g', cap', cur', rfl, _, hg', _⟩
    · simp [Value.ownBlock]
    · simp only [Value.ownBlock, ne_eq, Option.some.injEq]
      rintro rfl
      rw [hg] at hg'
      simp at hg'
      exact he hg'.2

theorem below_grow9 {B : Nat} {a w w' : World} {base size : Nat} {e : TypeId} {v : Value} {n : Nat} {xs : List Value} (hb : Below B a w) (hB : B ≤ w.heap.size) (ho : w.ownsRow base e size v n xs) (hg : w.grownBy w' v.ownBlock) (hbb : B ≤ base) : Below B a w' :=
  hb.grown hg hB (fun g hgg => Nat.le_trans hbb (ho.lt g hgg).1)

/-- How far the second loop of MovesBehind is. -/
def BhR (V : World) (n k : Nat) (ts : List Tn) (i : Nat) (vt va : Value) (w : World) : Prop :=
  ∃ (vs : List Tn) (m : Nat), Tds n k (ts.take i) vs ∧ w.ownsRow V.heap.size 49 2 vt i (cellsT vs) ∧ w.ownsRow V.heap.size 21 1 va m ((vs.map Tn.l).flatten.map (Value.int .i32)) ∧ VsAt w vs vt.ownBlock va.ownBlock ∧ (∀ t ∈ vs, t.l.length = t.m ∧ t.m ≤ 4096) ∧ m ≤ i * 4096

theorem tu_no {ts : List Tn} {t0 t : Tn} {a j n : Nat} (h0 : ts[0]? = some t0) (ht : ts[j]? = some t) (hn : t0.s.length = n) (h : ¬ tuE t.s t.m (swapU n a) = 0) (ha : a < n) : ¬ jnE ts (a : Int) = 0 := by
  intro hE
  obtain ⟨P, st, hf⟩ := jn_facts hE
  have := hf.2.2.2.2.2.2.2.2 t (List.mem_of_getElem? ht)
  have e0 : jnS0 ts = t0.s := by rw [jnS0, h0]
  have hl := (alike9_iff.1 this.2.2.2.2.2.2.2).1
  rw [e0, hn] at hl
  exact h (tuE_iff.2 ⟨this.2.2.2.2.2.2.1, by rw [hl]; exact swapU_ok ha⟩)

set_option maxHeartbeats 16000000 in
theorem behind9_any (U : Option Addr) (q cu : Nat) (ts : List Tn) (z : Int) (w : World) (hl : ts.length = q) (hc : q ≤ cu) (hU : 1 ≤ q → ∃ b o, U = some ⟨b, o, none⟩ ∧ b < w.heap.size ∧ TsAt w b o ts) (hz : 0 ≤ z ∧ z < 256) :
    Calls Try.prog 10 #[.slice U q cu, .int .u8 z] w fun e w' => e = .returned (.bool true) ∧ Below w.heap.size w w' := by
  have HBW := hide (Below.refl w.heap.size w)
  have HL := hide hl
  have HU := hide hU
  clear hl hU
  go_enter Try.func10, Try.ntmps10
  go_wp2_with fail
  refine Calls.mono (alive9_any _) ?_
  rintro e ua1 ⟨rfl, hb⟩
  replace HBW := hide (HBW.out.trans (hb.mono HBW.out.size))
  clear hb
  by_cases hq3 : 4 < q
  · have f1 : (4 : Int) < (q : Int) := by omega
    go_wp2_with fail
    refine Calls.mono (alive9_any _) ?_
    rintro e ua2 ⟨rfl, hb⟩
    replace HBW := hide (HBW.out.trans (hb.mono HBW.out.size))
    clear hb
    go_wp2
    go_ret
    exact ⟨rfl, HBW.out⟩
  have f1 : ¬ ((4 : Int) < (q : Int)) := by omega
  by_cases hq0 : q = 0
  · subst hq0
    go_wp2_with fail
    refine Calls.mono (alive9_any _) ?_
    rintro e ua3 ⟨rfl, hb⟩
    replace HBW := hide (HBW.out.trans (hb.mono HBW.out.size))
    clear hb
    go_wp2
    go_ret
    exact ⟨rfl, HBW.out⟩
  have e1 : ¬ (q : Int) = 0 := by omega
  have e2 : ((q : Int) == 0) = false := by simpa using e1
  have e3 : (0 : Int) < (q : Int) := by omega
  obtain ⟨bU, oU, rfl, hb, hT⟩ := HU.out (by omega)
  have HBL := hide hb
  have HTS := hide hT
  obtain ⟨t0, ht0⟩ : ∃ t, ts[0]? = some t := ⟨ts[0]'(by rw [HL.out]; omega), List.getElem?_eq_getElem (by rw [HL.out]; omega)⟩
  have HT0 := hide ht0
  have HCT : Hid (∀ v, Below w.heap.size w v → ∀ j t, ts[j]? = some t → v.cell? ⟨bU, oU + j * 2, none⟩ = some (.slice t.A t.n t.c) ∧ v.cell? ⟨bU, oU + j * 2 + 1, none⟩ = some (.slice t.B t.m t.d) ∧ t.Ok v) := hide (fun v hv => HTS.out.below hv HBL.out rfl)
  have HC0 : Hid (∀ v, Below w.heap.size w v → v.cell? ⟨bU, oU, none⟩ = some (.slice t0.A t0.n t0.c) ∧ v.cell? ⟨bU, oU + 1, none⟩ = some (.slice t0.B t0.m t0.d)) := hide (fun v hv => by
    obtain ⟨h1, h2, _⟩ := HCT.out v hv 0 t0 HT0.out
    rw [Nat.zero_mul, Nat.add_zero] at h1 h2
    exact ⟨h1, h2⟩)
  have HK0 : Hid (∀ v, Below w.heap.size w v → t0.Ok v) := hide (fun v hv => (HCT.out v hv 0 t0 HT0.out).2.2)
  obtain ⟨_, _, hn0c, hm0d, hn0, hm0⟩ := HK0.out _ HBW.out
  clear hb hT ht0 HU
  obtain ⟨x0, x1⟩ := HC0.out _ HBW.out
  go_wp2_with fail
  refine Calls.mono (small9_any t0.A t0.B t0.n t0.c t0.m t0.d t0.s _ (HK0.out _ HBW.out).1 hn0 hm0) ?_
  rintro e ua4 ⟨rfl, hb⟩
  replace HBW := hide (HBW.out.trans (hb.mono HBW.out.size))
  clear x0 x1 hb
  by_cases hsm : small9 t0.n t0.m t0.s = true
  rotate_left
  · have hno : small9 t0.n t0.m t0.s = false := by simpa using hsm
    rw [hno]
    clear hno hsm
    go_wp2_with fail
    refine Calls.mono (alive9_any _) ?_
    rintro e ua5 ⟨rfl, hb⟩
    replace HBW := hide (HBW.out.trans (hb.mono HBW.out.size))
    clear hb
    go_wp2
    go_ret
    exact ⟨rfl, HBW.out⟩
  rw [hsm]
  have HTK0 : Hid (tenOk t0.s t0.m = true) := hide (by
    rw [small9] at hsm
    exact (Bool.and_eq_true _ _ ▸ hsm).2)
  have HSN : Hid (t0.s.length = t0.n) := hide (lies_len9 (HK0.out _ HBW.out).1)
  have HLM : Hid (t0.l.length = t0.m) := hide (lies_len9 (HK0.out _ HBW.out).2.1)
  have hn4 : 1 ≤ t0.n ∧ t0.n ≤ 4 := by
    obtain ⟨h1, h4, _⟩ := sizeI_pos (tenOk_iff.1 HTK0.out).1
    have := HSN.out
    omega
  have hm4 : t0.m ≤ 4096 := by have := sizeI_le t0.s; have := (tenOk_iff.1 HTK0.out).2; omega
  obtain ⟨Z, rfl⟩ := Int.eq_ofNat_of_zero_le hz.1
  obtain ⟨a, ha⟩ : ∃ z, z = Z % t0.n := ⟨_, rfl⟩
  have r1 : Int.tmod (Z : Int) (t0.n : Int) = (a : Int) := by rw [ha]; rfl
  have han : a < t0.n := by rw [ha]; exact Nat.mod_lt _ (by omega)
  have HAL : Hid (a < t0.s.length) := hide (by rw [HSN.out]; exact han)
  have r2 : ¬ (t0.n : Int) = 0 := by omega
  have r2' : ¬ t0.n = 0 := by omega
  have r3 : IntKind.i64.wrap (a : Int) = (a : Int) := by rw [IntKind.wrap_i64]; omega
  have hax : a ≤ 3 := by omega
  clear ha hsm
  obtain ⟨x0, x1⟩ := HC0.out _ HBW.out
  obtain ⟨E, hE⟩ : ∃ z : Int, z = jnE ts (a : Int) := ⟨_, rfl⟩
  have HR_E := hide hE
  clear hE
  obtain ⟨SJ, hSJ⟩ : ∃ z : List Int, z = jnS ts (a : Int) := ⟨_, rfl⟩
  have HR_SJ := hide hSJ
  clear hSJ
  obtain ⟨LJ, hLJ⟩ : ∃ z : List Int, z = jnL ts (a : Int) := ⟨_, rfl⟩
  have HR_LJ := hide hLJ
  clear hLJ
  go_wp2_with fail
  refine Calls.mono (mjoin_own (some ⟨bU, oU, none⟩) q cu ts (a : Int) _ HL.out (fun _ => ⟨bU, oU, rfl, Nat.lt_of_lt_of_le HBL.out HBW.out.size, HTS.out.below HBW.out HBL.out rfl⟩) (by omega)) ?_
  rw [← HR_E.out, ← HR_SJ.out, ← HR_LJ.out]
  rintro e ua6 ⟨A1x, k1x, c1x, A2x, k2x, c2x, rfl, ho1, ho2, hk1x, hk2x, hb0⟩
  obtain ⟨V7, hV7⟩ : ∃ W, W = ua6.alloc (.cells #[.slice A1x k1x c1x, .slice A2x k2x c2x] 49) := ⟨_, rfl⟩
  have HT_x : Hid (TenAt V7 ua6.heap.size A1x A2x k1x c1x k2x c2x SJ LJ) := hide (by rw [hV7]; exact TenAt.own9 ho1 ho2)
  have hcapx := own_cap9 ho1
  have hcbpx := own_cap9 ho2
  have hsz_x := hb0.size
  have hb : Below ua4.heap.size ua4 V7 := by rw [hV7]; exact below_al6 hb0
  replace HBW := hide (HBW.out.trans (hb.mono HBW.out.size))
  have hV7' := hV7.symm
  clear x0 x1 hV7 hb hb0 ho1 ho2
  have hlt_x := HT_x.out.1.lt
  clear  r1 r2 r2' r3 hz
  have hmk := fun v => make_ints9 v t0.n (by omega)
  obtain ⟨V8, hV8⟩ : ∃ W, W = V7.alloc (.cells ((List.replicate t0.n (0 : Int)).map (Value.int .i64)).toArray 3) := ⟨_, rfl⟩
  have HO : Hid (V8.ownsRow V7.heap.size 3 1 (.slice (some ⟨V7.heap.size, 0, none⟩) t0.n t0.n) t0.n ((ordP t0.n 1).map (Value.int .i64))) := hide (by
    rw [ordP_one, hV8]
    exact own_of_block (Nat.le_refl _) (heap_alloc_new _ _) (by simp) (Nat.le_refl _) (by unfold maxLen; omega) (by simp))
  have HE0 : Hid (Below V7.heap.size V7 V8) := hide (by rw [hV8]; exact below_al6 (Below.refl _ _))
  have earr : ((List.replicate t0.n (0 : Int)).map (Value.int .i64)).toArray = Array.replicate t0.n (.int .i64 0) := by simp
  rw [earr] at hV8
  have hV8' := hV8.symm
  have HT_xV := HT_x
  have HBV := HBW
  clear hV8 earr HT_x HBW
  go_wp2
  clear hmk
  go_loopw [10] (fun i wr => ∃ k : Nat, 1 ≤ k ∧ k ≤ t0.n ∧ i = .int .i64 k ∧ Hid (wr.ownsRow V7.heap.size 3 1 (.slice (some ⟨V7.heap.size, 0, none⟩) t0.n t0.n) t0.n ((ordP t0.n k).map (Value.int .i64))) ∧ Hid (Below V7.heap.size V7 wr)) (fun i _ => t0.n - (intOf i).toNat)
  case atStart => exact ⟨1, Nat.le_refl _, hn4.1, rfl, HO, HE0⟩
  case round =>
    clear HO HE0
    obtain ⟨k, hk1, hk, rfl, HO, HE⟩ := hrel
    by_cases hlt : k < t0.n
    · have h3 : (k : Int) < (t0.n : Int) := by omega
      have h0 : (0 : Int) ≤ (k : Int) := by omega
      obtain ⟨hg1, hf1⟩ := own_cells9 HO.out hlt
      obtain ⟨zc, hzc⟩ : ∃ z, z = (ordP t0.n k).getD k 0 := ⟨_, rfl⟩
      rw [← hzc] at hg1
      clear hzc
      go_wp2
      go_roundw
      case rel =>
        refine ⟨k + 1, by omega, by omega, by go_num, hide ?_, hide (HE.out.setCell (by dsimp only; exact Nat.le_refl _) _)⟩
        have h := own_set9 (v := .int .i64 (k : Int)) HO.out hlt
        rwa [← List.map_set, ordP_set hlt] at h
      case measure => simp [intOf] <;> omega
    · obtain rfl : t0.n = k := by omega
      obtain ⟨Wa, hWa⟩ : ∃ W, W = wr.setCell ⟨V7.heap.size, 0, none⟩ (.int .i64 (a : Int)) := ⟨_, rfl⟩
      obtain ⟨Wb, hWb⟩ : ∃ W, W = Wa.setCell ⟨V7.heap.size, a, none⟩ (.int .i64 0) := ⟨_, rfl⟩
      obtain ⟨hg1, hf1⟩ := own_cells9 HO.out (show 0 < t0.n by omega)
      have HO1 : Hid (Wa.ownsRow V7.heap.size 3 1 (.slice (some ⟨V7.heap.size, 0, none⟩) t0.n t0.n) t0.n (((ordP t0.n t0.n).set 0 (a : Int)).map (Value.int .i64))) := hide (by
        rw [hWa, List.map_set]
        exact own_set9 HO.out (by omega))
      obtain ⟨hg2, hf2⟩ := own_cells9 HO1.out han
      have HO2 : Hid (Wb.ownsRow V7.heap.size 3 1 (.slice (some ⟨V7.heap.size, 0, none⟩) t0.n t0.n) t0.n ((swapU t0.n a).map (Value.int .i64))) := hide (by
        rw [hWb, ← ordP_swap han, List.map_set]
        exact own_set9 HO1.out han)
      have HE2 : Hid (Below V7.heap.size V7 Wb) := hide (by rw [hWb, hWa]; exact (HE.out.setCell (by dsimp only; exact Nat.le_refl _) _).setCell (by dsimp only; exact Nat.le_refl _) _)
      obtain ⟨zc, hzc⟩ : ∃ z, z = (ordP t0.n t0.n).getD 0 0 := ⟨_, rfl⟩
      obtain ⟨zd, hzd⟩ : ∃ z, z = ((ordP t0.n t0.n).set 0 (a : Int)).getD a 0 := ⟨_, rfl⟩
      rw [← hzc] at hg1
      rw [← hzd] at hg2
      have h0 : (0 : Int) < (t0.n : Int) := by omega
      have h1 : (a : Int) < (t0.n : Int) := by omega
      have hWa' := hWa.symm
      have hWb' := hWb.symm
      clear hzc hzd hWa hWb HO HO1 HE
      go_wp2
      clear hg1 hg2 hf1 hf2
      have HBV2 : Hid (Below w.heap.size w Wb) := hide (HBV.out.trans (HE2.out.mono HBV.out.size))
      have HOL : Hid (Lies Wb (some ⟨V7.heap.size, 0, none⟩) t0.n ((swapU t0.n a).map (Value.int .i64))) := hide (lies_of_own HO2.out)
      have HT_xW := hide (HT_xV.out.kept HE2.out)
      have HST : Hid (BhR Wb t0.n a ts 0 (.slice none 0 0) (.slice none 0 0) Wb) := hide ⟨[], 0, trivial, World.ownsRow_nil _ _ _ _, World.ownsRow_nil _ _ _ _, (fun t ht => by cases ht), (fun t ht => by cases ht), Nat.le_refl _⟩
      have HEB := hide (Below.refl Wb.heap.size Wb)
      clear HO2 HE2 HT_xV HBV
      go_loopw [13, 11, 12] (fun i vt va wr => ∃ k : Nat, k ≤ q ∧ i = .int .i64 k ∧ Hid (BhR Wb t0.n a ts k vt va wr) ∧ Hid (Below Wb.heap.size Wb wr)) (fun i _ _ _ => q - (intOf i).toNat)
      case atStart => exact ⟨0, Nat.zero_le _, rfl, HST, HEB⟩
      case round =>
        clear HST HEB
        obtain ⟨vt, rfl⟩ : ∃ z, z = u11 := ⟨_, rfl⟩
        obtain ⟨va, rfl⟩ : ∃ z, z = u12 := ⟨_, rfl⟩
        obtain ⟨k, hk, rfl, HR, HE⟩ := hrel
        have HBW : Hid (Below w.heap.size w wr) := hide (HBV2.out.trans (HE.out.mono HBV2.out.size))
        obtain ⟨vs, mm, htd, hot, hoa, hvs, hlv, hmk⟩ := HR.out
        have HTD := hide htd
        have HOT := hide hot
        have HOA := hide hoa
        have HVS := hide hvs
        have HLV := hide hlv
        clear HR htd hot hoa hvs hlv
        have hws : Wb.heap.size ≤ wr.heap.size := HE.out.size
        by_cases hlt : k < q
        · have h3 : (k : Int) < (q : Int) := by omega
          have h0 : (0 : Int) ≤ (k : Int) := by omega
          obtain ⟨t, ht⟩ : ∃ t, ts[k]? = some t := ⟨ts[k]'(by rw [HL.out]; exact hlt), List.getElem?_eq_getElem (by rw [HL.out]; exact hlt)⟩
          have HTT := hide ht
          clear ht
          obtain ⟨y0, y1, hkt⟩ := HCT.out _ HBW.out k t HTT.out
          have HKT := hide hkt
          obtain ⟨hnc, hmd, hn7, hm7⟩ : t.n ≤ t.c ∧ t.m ≤ t.d ∧ t.n ≤ 70368744177664 ∧ t.m ≤ 70368744177664 := hkt.2.2
          clear hkt
          obtain ⟨E2, hE2⟩ : ∃ z, z = tuE t.s t.m (swapU t0.n a) := ⟨_, rfl⟩
          have HE2 := hide hE2
          clear hE2
          go_wp2_with fail
          refine Calls.mono (mturn_own t.A t.B (some ⟨V7.heap.size, 0, none⟩) t.n t.c t.m t.d t0.n t0.n t.s t.l (swapU t0.n a) _ HKT.out.1 HKT.out.2.1 (HOL.out.below HE.out) (by omega) (by omega)) ?_
          rw [← HE2.out]
          rintro e w1 ⟨A3, n3, c3, B3, m3, d3, rfl, ho1, ho2, hn3, hm3, hb0⟩
          by_cases hE2 : E2 = 0
          rotate_left
          · have hne := tu_no (a := a) HT0.out HTT.out HSN.out (by rw [← HE2.out]; exact hE2) han
            rw [← HR_E.out] at hne
            have e1 : (E2 == 0) = false := by simpa using hE2
            have e2 : (E == 0) = false := by simpa using hne
            have e3 : (E != 0) = true := by simpa using hne
            obtain ⟨V2, hV2⟩ : ∃ W, W = w1.alloc (.cells #[.slice A3 n3 c3, .slice B3 m3 d3] 49) := ⟨_, rfl⟩
            have HBN : Hid (Below w.heap.size w V2) := hide (by rw [hV2]; exact HBW.out.trans ((below_al6 hb0).mono HBW.out.size))
            have hV2' := hV2.symm
            clear y0 y1 hV2 hb0 ho1 ho2 HBW
            go_wp2
            go_ret
            exact ⟨rfl, HBN.out⟩
          subst hE2
          have hE0 := HE2.out.symm
          obtain ⟨htk, hod⟩ := tuE_iff.1 hE0
          have hsl : t.s.length = t0.n := by have := (ordOk_iff.1 hod).1; rw [swapU_len] at this; exact this.symm
          rw [tuS, if_pos hE0] at ho1
          rw [tuL, if_pos hE0] at ho2
          have hll : t.l.length = t.m := lies_len9 HKT.out.2.1
          obtain rfl : m3 = t.m := by have h := lies_len9 (lies_of_own ho2); rw [turnL_len] at h; exact h.symm
          have hm1 : 1 ≤ t.m := by have := tenOk_iff.1 htk; omega
          have hm4' : t.m ≤ 4096 := hm3
          obtain ⟨S3, hS3⟩ : ∃ z, z = pickL t.s (swapU t0.n a) := ⟨_, rfl⟩
          obtain ⟨L3, hL3⟩ : ∃ z, z = turnL t.s t.l (swapU t0.n a) t.m := ⟨_, rfl⟩
          rw [← hS3] at ho1
          rw [← hL3] at ho2
          obtain ⟨g3, rfl⟩ : ∃ g3, B3 = some ⟨g3, 0, none⟩ := by
            rcases ho2.2 with ⟨_, h0⟩ | ⟨g, cap, cur, e0, _⟩
            · omega
            · injection e0 with e0; exact ⟨g, e0⟩
          have hcap3 := own_cap9 ho1
          have hcbp3 := own_cap9 ho2
          have HTO : Hid (TdOf t0.n a t ⟨A3, n3, c3, some ⟨g3, 0, none⟩, t.m, d3, S3, L3⟩) := hide ⟨hsl, htk, hll, hS3, hL3, rfl⟩
          have hL3l : L3.length = t.m := by rw [hL3, turnL_len]
          obtain ⟨V2, hV2⟩ : ∃ W, W = w1.alloc (.cells #[.slice A3 n3 c3, .slice (some ⟨g3, 0, none⟩) t.m d3] 49) := ⟨_, rfl⟩
          obtain ⟨V3, hV3⟩ : ∃ W, W = V2.alloc (.cells #[.slice A3 n3 c3, .slice (some ⟨g3, 0, none⟩) t.m d3] 49) := ⟨_, rfl⟩
          have hb2 : Below w1.heap.size w1 V2 := by rw [hV2]; exact below_al6 (Below.refl _ _)
          have hb3 : Below V2.heap.size V2 V3 := by rw [hV3]; exact below_al6 (Below.refl _ _)
          have hbx : Below w1.heap.size w1 V3 := below_nx6 hb2 hb3
          have hby : Below wr.heap.size wr V3 := below_nx6 hb0 hbx
          have hz1 := hby.size
          have HXM : Hid (BoxT V3 w1.heap.size (.slice A3 n3 c3) (.slice (some ⟨g3, 0, none⟩) t.m d3)) := hide (by
            have h : BoxT V2 w1.heap.size (.slice A3 n3 c3) (.slice (some ⟨g3, 0, none⟩) t.m d3) := by rw [hV2]; exact BoxT.new w1 _ _
            exact h.kept hb3)
          have hz0 := hb0.size
          have HNB : Hid (some w1.heap.size ≠ vt.ownBlock) := hide (fun e => by have := (HOT.out.lt _ e.symm).2; omega)
          have hal : ∀ k', vt.ownBlock = some k' → k' < wr.heap.size := fun k' h => (HOT.out.lt k' h).2
          have hbl : ∀ k', va.ownBlock = some k' → k' < wr.heap.size := fun k' h => (HOA.out.lt k' h).2
          have HV3 : Hid (VsAt V3 (vs ++ [⟨A3, n3, c3, some ⟨g3, 0, none⟩, t.m, d3, S3, L3⟩]) vt.ownBlock va.ownBlock) := hide (by
            refine (HVS.out.keep (grown_of_below hby) (.inr (.inr rfl)) (.inl rfl) (.inl rfl)).snoc ⟨lies_of_own (own_kept9 ho1 hbx), lies_of_own (own_kept9 ho2 hbx), hcap3, hcbp3, (show n3 ≤ 70368744177664 by omega), (show t.m ≤ 70368744177664 by omega)⟩ ?_ ?_
            · exact own_spot9 (own_kept9 ho1 hbx) hal hbl
            · exact own_spot9 (own_kept9 ho2 hbx) hal hbl)
          have HOT3 := hide (own_kept9 HOT.out hby)
          have HOA3 := hide (own_kept9 HOA.out hby)
          have HE3 : Hid (Below Wb.heap.size Wb V3) := hide (below_nx6 HE.out hby)
          have hnews : ∀ j u, [Value.slice A3 n3 c3, Value.slice (some ⟨g3, 0, none⟩) t.m d3][j]? = some u → V3.cell? ((⟨V2.heap.size, 0, none⟩ : Addr).add j) = some u := by
            rw [hV3]; exact cells_new V2 _ _
          have hone : ∀ u ∈ [Value.slice A3 n3 c3, Value.slice (some ⟨g3, 0, none⟩) t.m d3], u.oneCell' = true := by
            intro u hu
            simp at hu
            rcases hu with rfl | rfl <;> rfl
          have hws3 : Wb.heap.size ≤ V3.heap.size := by omega
          have hV2' := hV2.symm
          have hV3' := hV3.symm
          have z0 : V2.cell? ⟨w1.heap.size, 0, none⟩ = some (.slice A3 n3 c3) := by rw [hV2]; exact (BoxT.new w1 _ _).c0
          have z1 : V2.cell? ⟨w1.heap.size, 1, none⟩ = some (.slice (some ⟨g3, 0, none⟩) t.m d3) := by rw [hV2]; exact (BoxT.new w1 _ _).c1
          have hvl : vs.length = k := by rw [← HTD.out.len, List.length_take, HL.out]; omega
          have hq4 : q ≤ 4 := by omega
          obtain ⟨iT, hiT, hzT0, hzT1, hzT2⟩ := info_parts infoT9
          obtain ⟨iN, hiN, hzN0, hzN1, hzN2⟩ := info_parts infoN9
          clear ho1 ho2 hb0 hb2 hb3 hbx hby y0 y1 hE0 HE2 htk hod hll hV2 hV3 hS3 hL3 hal hbl HOT HOA HVS HBW
          go_wp2_with (at_builtin; refine wpList_append_own_at _ rfl _ _ 57 rfl Wb.heap.size 49 iT (.agg #[.slice none 0 0, .slice none 0 0]) 2 48 Try.underlying57 hiT hzT0 hzT1 hzT2 rfl (by decide) vt k (cellsT vs) rfl HOT3.out ⟨V2.heap.size, 0, none⟩ 1 1 [.slice A3 n3 c3, .slice (some ⟨g3, 0, none⟩) t.m d3] rfl rfl hnews hone (by unfold maxLen; omega) (by omega) hws3 ?_)
          intro vt2 w4 hot2 hgt2 _ hbt2
          have hoa4 := HOA3.out.kept hgt2 (own_types9 HOA3.out HOT3.out (by decide))
          have hv4 := HV3.out.keep hgt2 (.inl rfl) hbt2 (.inl rfl)
          have HE4 : Hid (Below Wb.heap.size Wb w4) := hide (below_grow9 HE3.out hws3 HOT3.out hgt2 (Nat.le_refl _))
          have HXM4 : Hid (BoxT w4 w1.heap.size (.slice A3 n3 c3) (.slice (some ⟨g3, 0, none⟩) t.m d3)) := hide (by
            have hlt9 := HXM.out.lt
            have h9 : some w1.heap.size ≠ vt.ownBlock := HNB.out
            exact (hgt2.block _ hlt9 h9).trans HXM.out)
          have hws4 : Wb.heap.size ≤ w4.heap.size := HE4.out.size
          have hnew2 : ∀ j u, (L3.map (Value.int .i32))[j]? = some u → w4.cell? ((⟨g3, 0, none⟩ : Addr).add j) = some u := by
            intro j u hj
            have hjl : j < t.m := by have := (List.getElem?_eq_some_iff.1 hj).1; rw [List.length_map, hL3l] at this; exact this
            have hlb : Lies w4 (some ⟨g3, 0, none⟩) t.m (L3.map (Value.int .i32)) := (hv4 ⟨A3, n3, c3, some ⟨g3, 0, none⟩, t.m, d3, S3, L3⟩ (by simp)).1.2.1
            obtain ⟨b, o, e1, _, hx⟩ := hlb.cells (by omega)
            cases e1
            rw [Addr.add_lit, hx j hjl, hj]
          have HOT4 := hide hot2
          have HOA4 := hide hoa4
          have HV4 := hide hv4
          have x1 := HXM4.out.c1
          clear hot2 hoa4 hv4 hnews hone z0 z1 HOT3 HOA3 HV3 hgt2 hbt2 HE3 HXM
          go_wp2_with (at_builtin; refine wpList_append_own_at _ rfl _ _ 47 rfl Wb.heap.size 21 iN (.int .i32 0) 1 4 Try.underlying47 hiN hzN0 hzN1 hzN2 rfl (by decide) va mm _ rfl HOA4.out ⟨g3, 0, none⟩ t.m d3 (L3.map (Value.int .i32)) rfl (by simp [hL3l]) hnew2 (ints_one _ _) (by unfold maxLen; omega) (by omega) hws4 ?_)
          intro va2 w5 hoa2 hga2 _ hba2
          have hot5 := HOT4.out.kept hga2 (own_types9 HOT4.out HOA4.out (by decide))
          have hv5 := HV4.out.keep hga2 (.inr (.inl rfl)) (.inl rfl) hba2
          have HE5 : Hid (Below Wb.heap.size Wb w5) := hide (below_grow9 HE4.out hws4 HOA4.out hga2 (Nat.le_refl _))
          have HN : Hid (BhR Wb t0.n a ts (k + 1) vt2 va2 w5) := hide (by
            refine ⟨vs ++ [⟨A3, n3, c3, some ⟨g3, 0, none⟩, t.m, d3, S3, L3⟩], mm + t.m, ?_, ?_, ?_, hv5, ?_, by omega⟩
            · rw [take_more9 HTT.out]; exact HTD.out.snoc HTO.out
            · rw [cellsT_snoc]; exact hot5
            · have e9 : ((vs ++ [(⟨A3, n3, c3, some ⟨g3, 0, none⟩, t.m, d3, S3, L3⟩ : Tn)]).map Tn.l).flatten = (vs.map Tn.l).flatten ++ L3 := by simp
              rw [e9, List.map_append, List.map_flatten, List.map_map]
              exact hoa2
            · intro t' ht'
              rcases List.mem_append.1 ht' with h | h
              · exact HLV.out t' h
              · rw [List.mem_singleton] at h
                subst h
                exact ⟨hL3l, hm4'⟩)
          clear hoa2 hot5 hv5 hga2 hba2 hnew2 x1 HOT4 HOA4 HV4
          go_wp2
          go_roundw
          case rel => exact ⟨k + 1, by omega, by go_num, HN, HE5⟩
          case measure => simp [intOf] <;> omega
        · obtain rfl : q = k := by omega
          have e0 : ts.take q = ts := List.take_of_length_le (by rw [HL.out]; exact Nat.le_refl _)
          rw [e0] at HTD
          have hvl : vs.length = q := by rw [← HTD.out.len, HL.out]
          have hq1 : 1 ≤ ts.length := by rw [HL.out]; omega
          obtain ⟨gt, ct, rfl⟩ : ∃ gt ct, vt = .slice (some ⟨gt, 0, none⟩) q ct := by
            rcases HOT.out.2 with ⟨_, h0⟩ | ⟨g, cap, cur, e1, _⟩
            · omega
            · exact ⟨g, cap, e1⟩
          obtain ⟨Aa, ca, rfl⟩ : ∃ Aa ca, va = .slice Aa mm ca := by
            rcases HOA.out.2 with ⟨rfl, rfl⟩ | ⟨g, cap, cur, e1, _⟩
            · exact ⟨none, 0, rfl⟩
            · exact ⟨_, cap, e1⟩
          have hTS : TsAt wr gt 0 vs := by
            intro j t ht
            obtain ⟨h1, h2⟩ := cellsT_at vs j t ht
            have c1 := HOT.out.cells (g := gt) rfl _ _ h1
            have c2 := HOT.out.cells (g := gt) rfl _ _ h2
            rw [Addr.add_lit] at c1 c2
            exact ⟨c1, c2, (HVS.out t (List.mem_of_getElem? ht)).1⟩
          have hgt : gt < wr.heap.size := (HOT.out.lt gt rfl).2
          have HLA := hide (lies_of_own HOA.out)
          have HSE : Hid (jnE vs ((0 : Nat) : Int) = E) := hide (by rw [HR_E.out]; exact HTD.out.same_error han hn4.2 hq1 (by rw [HL.out]; omega))
          have HT_x := hide (HT_xW.out.kept HE.out)
          have HOL2 := hide (HOL.out.below HE.out)
          have HTSD := hide hTS
          clear e0 HE HT_xW HOL HOT HOA hTS
          obtain ⟨SY, hSY⟩ : ∃ z, z = jnS vs 0 := ⟨_, rfl⟩
          obtain ⟨LY, hLY⟩ : ∃ z, z = jnL vs 0 := ⟨_, rfl⟩
          have HSY := hide hSY
          have HLY := hide hLY
          have HSE2 : Hid (jnE vs 0 = E) := HSE
          clear hSY hLY
          have HAN := hide (Below.refl wr.heap.size wr)
          go_wp2_with fail
          refine Calls.mono (mjoin_own (some ⟨gt, 0, none⟩) q ct vs 0 _ hvl (fun _ => ⟨gt, 0, rfl, hgt, HTSD.out⟩) (by omega)) ?_
          rw [HSE2.out, ← HSY.out, ← HLY.out]
          rintro e ua9 ⟨A1y, k1y, c1y, A2y, k2y, c2y, rfl, ho1, ho2, hk1y, hk2y, hb0⟩
          obtain ⟨V10, hV10⟩ : ∃ W, W = ua9.alloc (.cells #[.slice A1y k1y c1y, .slice A2y k2y c2y] 49) := ⟨_, rfl⟩
          have HT_y : Hid (TenAt V10 ua9.heap.size A1y A2y k1y c1y k2y c2y SY LY) := hide (by rw [hV10]; exact TenAt.own9 ho1 ho2)
          have hcapy := own_cap9 ho1
          have hcbpy := own_cap9 ho2
          have hsz_y := hb0.size
          have hb : Below wr.heap.size wr V10 := by rw [hV10]; exact below_al6 hb0
          replace HT_x := hide (HT_x.out.kept hb)
          replace HAN := hide (below_nx6 HAN.out hb)
          replace HBW := hide (HBW.out.trans (hb.mono HBW.out.size))
          have hV10' := hV10.symm
          clear  hV10 hb hb0 ho1 ho2
          have hlt_y := HT_y.out.1.lt
          by_cases hE : E = 0
          rotate_left
          · have e1 : (E == 0) = false := by simpa using hE
            have e3 : (E != 0) = true := by simpa using hE
            go_wp2
            go_ret
            exact ⟨rfl, HBW.out⟩
          have HJE : Hid (jnE ts (a : Int) = 0) := hide (by rw [← HR_E.out]; exact hE)
          have HJV : Hid (jnE vs ((0 : Nat) : Int) = 0) := hide (by rw [HSE.out]; exact hE)
          have e5 : SJ = jnSh ts a := by rw [HR_SJ.out, jnS_ok HJE.out]
          have e6 : LJ = joinL ts a := by rw [HR_LJ.out, jnL_ok HJE.out]
          have e7 : SY = jnSh vs 0 := by rw [HSY.out]; exact jnS_ok HJV.out
          have e8 : LY = joinL vs 0 := by rw [HLY.out]; exact jnL_ok HJV.out
          have HTB := hide (turn_back han hn4.2 HTD.out hq1 HJE.out HJV.out)
          have HKY : Hid (tenOk SY k2y = true) := hide (by rw [← lies_len9 HT_y.out.L, e7, e8]; exact jn_tenOk HJV.out)
          have hyl : k2y = (joinL vs 0).length := by rw [← lies_len9 HT_y.out.L, e8]
          have hsy : SY.length = t0.n := by rw [e7, HTD.out.shape han hq1, pick_swap_len]
          have HTE : Hid (tuE SY k2y (swapU t0.n a) = 0 ∧ tuS SY k2y (swapU t0.n a) = SJ ∧ tuL SY k2y LY (swapU t0.n a) = LJ) := hide (by
            have h0 : tuE SY k2y (swapU t0.n a) = 0 := tuE_iff.2 ⟨HKY.out, by rw [hsy]; exact swapU_ok han⟩
            refine ⟨h0, ?_, ?_⟩
            · rw [tuS, if_pos h0, e7, e5]; exact HTB.out.1
            · rw [tuL, if_pos h0, e7, e8, e6, hyl]; exact HTB.out.2)
          have HFL : Hid (LY = (vs.map Tn.l).flatten) := hide (by rw [e8]; exact join_flat HJV.out (fun t ht => (HLV.out t ht).1))
          clear e5 e6 e7 e8 hyl hsy
          subst hE
          have cxy0 := HT_y.out.c0
          have cxy1 := HT_y.out.c1
          go_wp2_with fail
          refine Calls.mono (mturn_own A1y A2y (some ⟨V7.heap.size, 0, none⟩) k1y c1y k2y c2y t0.n t0.n SY LY (swapU t0.n a) _ HT_y.out.S HT_y.out.L (HOL2.out.below HAN.out) (by omega) (by omega)) ?_
          rw [HTE.out.1, HTE.out.2.1, HTE.out.2.2]
          rintro e ua11 ⟨A1z, k1z, c1z, A2z, k2z, c2z, rfl, ho1, ho2, hk1z, hk2z, hb0⟩
          obtain ⟨V12, hV12⟩ : ∃ W, W = ua11.alloc (.cells #[.slice A1z k1z c1z, .slice A2z k2z c2z] 49) := ⟨_, rfl⟩
          have HT_z : Hid (TenAt V12 ua11.heap.size A1z A2z k1z c1z k2z c2z SJ LJ) := hide (by rw [hV12]; exact TenAt.own9 ho1 ho2)
          have hcapz := own_cap9 ho1
          have hcbpz := own_cap9 ho2
          have hsz_z := hb0.size
          have hb : Below V10.heap.size V10 V12 := by rw [hV12]; exact below_al6 hb0
          replace HT_x := hide (HT_x.out.kept hb)
          replace HT_y := hide (HT_y.out.kept hb)
          replace HAN := hide (below_nx6 HAN.out hb)
          replace HBW := hide (HBW.out.trans (hb.mono HBW.out.size))
          have hV12' := hV12.symm
          clear cxy0 cxy1 hV12 hb hb0 ho1 ho2
          have hlt_z := HT_z.out.1.lt
          have cxy0 := HT_y.out.c0
          have cxy1 := HT_y.out.c1
          go_wp2_with fail
          refine Calls.mono (sameG_Numbers A2y Aa k2y c2y mm ca LY (vs.map Tn.l).flatten _ HT_y.out.L (HLA.out.below HAN.out) (by omega)) ?_
          rw [show decide (LY = (vs.map Tn.l).flatten) = true from decide_eq_true HFL.out]
          rintro e ua13 ⟨rfl, j1, hj1⟩
          have hb : Below V12.heap.size V12 ua13 := by rw [hj1]; exact below_drewN (Below.refl _ _) j1
          replace HT_x := hide (HT_x.out.kept hb)
          replace HT_y := hide (HT_y.out.kept hb)
          replace HT_z := hide (HT_z.out.kept hb)
          replace HAN := hide (below_nx6 HAN.out hb)
          replace HBW := hide (HBW.out.trans (hb.mono HBW.out.size))
          clear cxy0 cxy1 hb hj1
          have cxz0 := HT_z.out.c0
          have cxz1 := HT_z.out.c1
          have cxx0 := HT_x.out.c0
          have cxx1 := HT_x.out.c1
          go_wp2_with fail
          refine Calls.mono (is9_any A1z A2z A1x A2x k1z c1z k2z c2z k1x c1x k2x c2x SJ LJ SJ LJ 0 _ HT_z.out.S HT_z.out.L HT_x.out.S HT_x.out.L (by omega) (by omega) rfl) ?_
          rw [show decide (SJ = SJ ∧ LJ = LJ) = true from decide_eq_true ⟨rfl, rfl⟩]
          rintro e ua14 ⟨rfl, hb⟩
          replace HT_x := hide (HT_x.out.kept hb)
          replace HT_y := hide (HT_y.out.kept hb)
          replace HT_z := hide (HT_z.out.kept hb)
          replace HAN := hide (below_nx6 HAN.out hb)
          replace HBW := hide (HBW.out.trans (hb.mono HBW.out.size))
          clear cxz0 cxz1 cxx0 cxx1 hb
          go_wp2
          go_ret
          exact ⟨rfl, HBW.out⟩

end Go.Proofs.Ytomhbhhfbbdilaa
