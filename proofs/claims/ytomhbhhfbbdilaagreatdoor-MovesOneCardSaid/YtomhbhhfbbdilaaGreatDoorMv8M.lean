/- Contract of moves.Sum: sums along a direction, or refused. -/
import Derived.Test.YtomhbhhfbbdilaaGreatDoorMv6M
import Derived.Test.YtomhbhhfbbdilaaGreatDoorWB
namespace Go.Proofs.YtomhbhhfbbdilaaGreatDoor
open Go.RowKit
set_option linter.unusedVariables false
set_option linter.unusedSimpArgs false
set_option maxRecDepth 100000

theorem place_lt9 {M n i j : Nat} (hi : i < M) (hj : j < n) : i * n + j < M * n := by
  have h : i * n + n ≤ M * n := by rw [← Nat.succ_mul]; exact Nat.mul_le_mul_right n hi
  omega

def mix9 (zs l : List Int) (k : Nat) : List Int := zs.take k ++ l.drop k

theorem mix9_zero (zs l : List Int) : mix9 zs l 0 = l := by simp [mix9]

theorem mix9_all {zs l : List Int} (h : zs.length = l.length) : mix9 zs l l.length = zs := by
  rw [mix9, List.drop_length, List.append_nil, List.take_of_length_le (by omega)]

theorem mix9_len {zs l : List Int} {k : Nat} (h : zs.length = l.length) (hk : k ≤ l.length) : (mix9 zs l k).length = l.length := by
  simp [mix9]
  omega

theorem mix9_set {zs l : List Int} {k : Nat} (h : zs.length = l.length) (hk : k < l.length) : (mix9 zs l k).set k (zs.getD k 0) = mix9 zs l (k + 1) := by
  apply List.ext_getElem?
  intro j
  have hl : (zs.take k).length = k := by simp; omega
  by_cases e : j = k
  · subst e
    rw [List.getElem?_set_self (by rw [mix9_len h (by omega)]; exact hk), mix9, List.getElem?_append_left (by simp; omega), List.getElem?_take_of_lt (by omega)]
    simp [List.getD, show j < zs.length by omega]
  · rw [List.getElem?_set_ne (by omega)]
    unfold mix9
    by_cases h1 : j < k
    · rw [List.getElem?_append_left (by simp; omega), List.getElem?_append_left (by simp; omega), List.getElem?_take_of_lt h1, List.getElem?_take_of_lt (by omega)]
    · rw [List.getElem?_append_right (by simp; omega), List.getElem?_append_right (by simp; omega), List.getElem?_drop, List.getElem?_drop]
      congr 1
      simp
      omega

theorem mix9_at {zs l : List Int} {k : Nat} (h : zs.length = l.length) (hk : k < l.length) : (mix9 zs l k).getD k 0 = l.getD k 0 := by
  rw [List.getD_eq_getElem?_getD, List.getD_eq_getElem?_getD, mix9, List.getElem?_append_right (by simp; omega), List.getElem?_drop]
  congr 2
  simp
  omega

/-- What moves.Sum answers. -/
def smE (s : List Int) (m : Nat) (d : Int) : Int := if tenOk s m = true ∧ 0 ≤ d ∧ d < (s.length : Int) then 0 else 1

/-- The first q numbers along the direction, at the k-th place of the others. -/
def sumN9 (l : List Int) (K st k : Nat) : Nat → Int
  | 0 => 0
  | q + 1 => add32 (sumN9 l K st k q) (l.getD ((k / st * K + q) * st + k % st) 0)

def sumL9 (l : List Int) (K st R : Nat) : List Int := (List.range R).map fun k => sumN9 l K st k K

theorem sumL9_len (l : List Int) (K st R : Nat) : (sumL9 l K st R).length = R := by simp [sumL9]

theorem sumL9_at {l : List Int} {K st R k : Nat} (h : k < R) : (sumL9 l K st R).getD k 0 = sumN9 l K st k K := by
  simp [sumL9, List.getD, h]

def smS (s : List Int) (m : Nat) (d : Int) : List Int := if smE s m d = 0 then woL s d.toNat else []

def smL (s : List Int) (m : Nat) (l : List Int) (d : Int) : List Int :=
  if smE s m d = 0 then sumL9 l (s.getD d.toNat 0).toNat (prodZ (s.drop (d.toNat + 1))).toNat ((prodZ (s.take d.toNat)).toNat * (prodZ (s.drop (d.toNat + 1))).toNat) else []

theorem smE_iff {s : List Int} {m : Nat} {d : Int} : smE s m d = 0 ↔ tenOk s m = true ∧ 0 ≤ d ∧ d < (s.length : Int) := by
  unfold smE
  by_cases h : tenOk s m = true ∧ 0 ≤ d ∧ d < (s.length : Int)
  · rw [if_pos h]; exact ⟨fun _ => h, fun _ => rfl⟩
  · rw [if_neg h]; exact ⟨fun e => absurd e (by decide), fun e => absurd e h⟩

theorem wo_facts {s : List Int} {m a : Nat} (h : tenOk s m = true) (ha : a < s.length) : ∃ P KK st : Nat, s.getD a 0 = (KK : Int) ∧ prodZ (s.drop (a + 1)) = (st : Int) ∧ prodZ (s.take a) = (P : Int) ∧ m = P * KK * st ∧ 1 ≤ P ∧ 1 ≤ KK ∧ 1 ≤ st ∧ sizeI (woL s a) = ((P * st : Nat) : Int) ∧ m ≤ 4096 := by
  obtain ⟨q1, q2⟩ := tenOk_iff.1 h
  obtain ⟨l1, l4, hz⟩ := sizeI_pos q1
  have hm4 := sizeI_le s
  have hd := (size_dims q1).at (k := a) ha
  have e1 : prodZ s = prodZ (s.take a) * prodZ (s.drop a) := by rw [← prodZ_append, List.take_append_drop]
  have e2 := prodZ_drop (xs := s) (k := a) ha
  rw [hd.2.2] at e2
  have n1 := prodZ_nonneg (s.take a)
  have n2 := prodZ_nonneg (s.drop (a + 1))
  obtain ⟨P, hP⟩ := Int.eq_ofNat_of_zero_le n1
  obtain ⟨st, hst⟩ := Int.eq_ofNat_of_zero_le n2
  obtain ⟨KK, hKK⟩ := Int.eq_ofNat_of_zero_le (show 0 ≤ s.getD a 0 by omega)
  have em : m = P * KK * st := by
    have e3 : (m : Int) = (P : Int) * ((st : Int) * (KK : Int)) := by rw [← q2, hz, e1, ← e2, hP, hst, hKK]
    rw [← Int.natCast_mul, ← Int.natCast_mul] at e3
    have e4 := Int.ofNat_inj.1 e3
    rw [e4, Nat.mul_comm st KK, Nat.mul_assoc]
  have hm1 : 1 ≤ m := by omega
  have p1 : 1 ≤ P := by
    rcases Nat.eq_zero_or_pos P with e | e
    · rw [e, Nat.zero_mul, Nat.zero_mul] at em; omega
    · exact e
  have s1 : 1 ≤ st := by
    rcases Nat.eq_zero_or_pos st with e | e
    · rw [e, Nat.mul_zero] at em; omega
    · exact e
  have k1 : 1 ≤ KK := by have := hd.1; omega
  have hle : P * st ≤ m := by
    rw [em]
    exact Nat.mul_le_mul_right _ (Nat.le_mul_of_pos_right _ (by omega))
  refine ⟨P, KK, st, hKK, hst, hP, em, p1, k1, s1, ?_, by omega⟩
  by_cases h1 : s.length = 1
  · rw [woL_one h1]
    obtain rfl : a = 0 := by omega
    have t0 : (P : Int) = 1 := by simpa [prodZ] using hP.symm
    have t1 : (st : Int) = 1 := by
      rw [List.drop_eq_nil_of_le (by omega)] at hst
      simpa [prodZ] using hst.symm
    obtain rfl : P = 1 := by omega
    obtain rfl : st = 1 := by omega
    decide
  · rw [woL_more h1]
    have hl : (s.take a ++ s.drop (a + 1)).length = s.length - 1 := by rw [List.length_append, List.length_take, List.length_drop]; omega
    have hpz : prodZ (s.take a ++ s.drop (a + 1)) = ((P * st : Nat) : Int) := by rw [prodZ_append, hP, hst]; rfl
    unfold sizeI
    rw [if_neg (by omega), hpz, if_neg (by omega)]

/-- What the loops of Sum leave as it is. -/
def SumAt (w4 : World) (px po g1 kw c1 g2 R n c gs a st : Nat) (A : Option Addr) (ws : List Int) (v : World) : Prop :=
  BoxT v px (.slice (some ⟨g1, 0, none⟩) kw c1) (.slice (some ⟨g2, 0, none⟩) R R) ∧ BoxL v po (.slice A n c) (.slice (some ⟨gs, 0, none⟩) n n) ∧ v.heap[po + 1]? = some (.cells #[.int .i64 (a : Int)] 3 (0, 0)) ∧ v.heap[po + 2]? = some (.cells #[.int .i64 (st : Int)] 3 (0, 0)) ∧ v.ownsRow w4.heap.size 3 1 (.slice (some ⟨g1, 0, none⟩) kw c1) kw (ws.map (Value.int .i64)) ∧ Below w4.heap.size w4 v

theorem SumAt.below {w4 v v' : World} {px po g1 kw c1 g2 R n c gs a st : Nat} {A : Option Addr} {ws : List Int} (h : SumAt w4 px po g1 kw c1 g2 R n c gs a st A ws v) (hb : Below v.heap.size v v') : SumAt w4 px po g1 kw c1 g2 R n c gs a st A ws v' :=
  ⟨h.1.kept hb, h.2.1.kept hb, (hb.block _ (lt_of_heap h.2.2.1)).trans h.2.2.1, (hb.block _ (lt_of_heap h.2.2.2.1)).trans h.2.2.2.1, own_below h.2.2.2.2.1 hb, below_nx6 h.2.2.2.2.2 hb⟩

theorem SumAt.set {w4 v : World} {px po g1 kw c1 g2 R n c gs a st : Nat} {A : Option Addr} {ws : List Int} (h : SumAt w4 px po g1 kw c1 g2 R n c gs a st A ws v) (h1 : px ≠ g2) (h2 : po ≠ g2) (h3 : po + 1 ≠ g2) (h4 : po + 2 ≠ g2) (h5 : g1 ≠ g2) (h6 : w4.heap.size ≤ g2) (k : Nat) (x : Value) : SumAt w4 px po g1 kw c1 g2 R n c gs a st A ws (v.setCell ⟨g2, k, none⟩ x) :=
  ⟨(Below.heap_setCell _ _ _ _ (by dsimp only; exact h1)).trans h.1, (Below.heap_setCell _ _ _ _ (by dsimp only; exact h2)).trans h.2.1, (Below.heap_setCell _ _ _ _ (by dsimp only; exact h3)).trans h.2.2.1, (Below.heap_setCell _ _ _ _ (by dsimp only; exact h4)).trans h.2.2.2.1, own_setCell' h.2.2.2.2.1 (by dsimp only; exact h5) _, h.2.2.2.2.2.setCell (by dsimp only; exact h6) _⟩

theorem mix9_same {zs l : List Int} {k : Nat} (h : zs.length = l.length) (hk : k < l.length) (h0 : l.getD k 0 = 0) : (mix9 zs l k).set k 0 = mix9 zs l k := by
  have e := mix9_at h hk
  rw [h0, List.getD_eq_getElem?_getD] at e
  have hl : k < (mix9 zs l k).length := by rw [mix9_len h (by omega)]; exact hk
  rw [List.getElem?_eq_getElem hl, Option.getD_some] at e
  rw [← e]
  exact List.set_getElem_self hl

theorem wo_place {P KK st k q : Nat} (hk : k < P * st) (hq : q < KK) (hst : 1 ≤ st) : (k / st * KK + q) * st + k % st < P * KK * st :=
  place_lt9 (place_lt9 (Nat.div_lt_of_lt_mul (by rw [Nat.mul_comm]; exact hk)) hq) (Nat.mod_lt _ hst)

set_option maxHeartbeats 8000000 in
theorem msum_own (A B : Option Addr) (n c m d : Nat) (s l : List Int) (al : Int) (w : World) (hA : Lies w A n (s.map (Value.int .i64))) (hB : Lies w B m (l.map (Value.int .i32))) (hn : n ≤ 281474976710656) (hc : n ≤ c) :
    Calls Tryz.prog 29 #[tenV A n c B m d, .int .i64 al] w fun e w' => ∃ A1 k1 c1 A2 k2 c2, e = .returned (.tuple #[tenV A1 k1 c1 A2 k2 c2, .int .i64 (smE s m al)]) ∧
      w'.ownsRow w.heap.size 3 1 (.slice A1 k1 c1) k1 ((smS s m al).map (Value.int .i64)) ∧ w'.ownsRow w.heap.size 21 1 (.slice A2 k2 c2) k2 ((smL s m l al).map (Value.int .i32)) ∧ k1 ≤ 4 ∧ k2 ≤ 4096 ∧ Below w.heap.size w w' := by
  obtain ⟨W0, hW0⟩ : ∃ W0, W0 = (w.alloc (.cells #[.slice A n c, .slice B m d] 60)).alloc (.cells #[.slice none 0 0, .slice none 0 0] 60) := ⟨_, rfl⟩
  have HB0 : Hid (Below w.heap.size w W0) := hide (by rw [hW0]; exact ((Below.refl w.heap.size w).alloc (Nat.le_refl _) _).alloc (by simp only [World.size_alloc]; omega) _)
  have hs0 : W0.heap.size = w.heap.size + 2 := by rw [hW0]; simp
  have HX0 : Hid (BoxT W0 w.heap.size (.slice A n c) (.slice B m d)) := hide (by rw [hW0]; exact (BoxT.new w _ _).alloc _)
  have HXR : Hid (BoxT W0 (w.heap.size + 1) (.slice none 0 0) (.slice none 0 0)) := hide (by
    rw [hW0]
    have h := BoxT.new (w.alloc (.cells #[.slice A n c, .slice B m d] 60)) (.slice none 0 0) (.slice none 0 0)
    rwa [World.size_alloc] at h)
  have hW0' := hW0.symm
  clear hW0
  have HLL : Hid (s.length = n) := hide (lies_len9 hA)
  have HLM : Hid (l.length = m) := hide (lies_len9 hB)
  have HA := hide (hA.below HB0.out)
  have HB := hide (hB.below HB0.out)
  clear hA hB
  obtain ⟨E, hE⟩ : ∃ z, z = smE s m al := ⟨_, rfl⟩
  rw [← hE]
  have HE := hide hE
  clear hE
  have a0 := HX0.out.c0
  have a1 := HX0.out.c1
  go_enter Tryz.func29, Tryz.ntmps29
  go_wp2_with fail
  refine Calls.mono (tcheck_any A B n c m d s _ HA.out hn) ?_
  rintro e w1 ⟨rfl, hb1⟩
  clear a0 a1
  have HB1 := hide hb1
  clear hb1
  by_cases hok : tenOk s m = true
  rotate_left
  · have hno : tenOk s m = false := by simpa using hok
    rw [hno]
    have HEE : E = 1 := by rw [HE.out, smE, if_neg (fun h => hok h.1)]
    have r0 := (HXR.out.kept HB1.out).c0
    have r1 := (HXR.out.kept HB1.out).c1
    have rf0 := (HXR.out.kept HB1.out).f0 0
    have rf1 := (HXR.out.kept HB1.out).f0 1
    have HBB := hide (HB0.out.trans (HB1.out.mono (by omega)))
    have HXF := hide (HXR.out.kept HB1.out)
    go_wp2
    (try simp only [Exit.inBlock, Exit.then])
    refine ret_ten (p := 4) (u := 5) rfl rfl (w.heap.size + 1) _ rfl (HXF.out.set2 _ _) rfl ?_
    have hne : ¬ E = 0 := by omega
    exact ⟨none, 0, 0, none, 0, 0, by rw [HEE]; rfl, by rw [smS, if_neg (by rw [← HE.out]; exact hne)]; exact World.ownsRow_nil _ _ _ _, by rw [smL, if_neg (by rw [← HE.out]; exact hne)]; exact World.ownsRow_nil _ _ _ _, by omega, by omega, (HBB.out.setCell (by dsimp only; omega) _).setCell (by dsimp only; omega) _⟩
  rw [hok]
  have HOK := hide hok
  clear hok
  obtain ⟨hn1, hn4, _⟩ := sizeI_pos (tenOk_iff.1 HOK.out).1
  rw [HLL.out] at hn1 hn4
  have a0 := (HX0.out.kept HB1.out).c0
  have a1 := (HX0.out.kept HB1.out).c1
  go_wp2_with fail
  refine Calls.mono (layoutOf_ok A n c s _ (HA.out.below HB1.out) (tenOk_iff.1 HOK.out).1) ?_
  rintro e w2 ⟨gs, rfl, hos, hb20⟩
  obtain ⟨V2, hV2⟩ : ∃ W, W = w2.alloc (.cells #[.slice A n c, .slice (some ⟨gs, 0, none⟩) n n] 111) := ⟨_, rfl⟩
  have HB2 : Hid (Below W0.heap.size W0 V2) := hide (by rw [hV2]; exact below_al6 (below_nx6 HB1.out hb20))
  have HXL : Hid (BoxL V2 w2.heap.size (.slice A n c) (.slice (some ⟨gs, 0, none⟩) n n)) := hide (by rw [hV2]; exact BoxL.new w2 _ _)
  have HST : Hid (Lies V2 (some ⟨gs, 0, none⟩) n ((strL s).map (Value.int .i64))) := hide (by rw [hV2]; exact (lies_of_own hos).alloc _)
  have hV2' := hV2.symm
  clear hV2 hb20 hos a0 a1
  have x0 := HXL.out.c0
  have x1 := HXL.out.c1
  go_wp2_with fail
  refine Calls.mono (has_any A n c al _) ?_
  rintro e w3 ⟨rfl, hb30⟩
  have HB3 := hide (below_nx6 HB2.out hb30)
  replace HXL := hide (HXL.out.kept hb30)
  replace HST := hide (HST.out.below hb30)
  clear hb30 x0 x1
  by_cases hal : 0 ≤ al ∧ al < (n : Int)
  rotate_left
  · rw [decide_eq_false hal]
    have HAL := hide hal
    clear hal
    have HEE : E = 1 := by rw [HE.out, smE, if_neg (fun h => HAL.out (by rw [← HLL.out]; exact h.2))]
    have r0 := (HXR.out.kept HB3.out).c0
    have r1 := (HXR.out.kept HB3.out).c1
    have rf0 := (HXR.out.kept HB3.out).f0 0
    have rf1 := (HXR.out.kept HB3.out).f0 1
    have HBB := hide (HB0.out.trans (HB3.out.mono (by omega)))
    have HXF := hide (HXR.out.kept HB3.out)
    go_wp2
    (try simp only [Exit.inBlock, Exit.then])
    refine ret_ten (p := 4) (u := 5) rfl rfl (w.heap.size + 1) _ rfl (HXF.out.set2 _ _) rfl ?_
    have hne : ¬ E = 0 := by omega
    exact ⟨none, 0, 0, none, 0, 0, by rw [HEE]; rfl, by rw [smS, if_neg (by rw [← HE.out]; exact hne)]; exact World.ownsRow_nil _ _ _ _, by rw [smL, if_neg (by rw [← HE.out]; exact hne)]; exact World.ownsRow_nil _ _ _ _, by omega, by omega, (HBB.out.setCell (by dsimp only; omega) _).setCell (by dsimp only; omega) _⟩
  rw [decide_eq_true hal]
  obtain ⟨a, rfl⟩ := Int.eq_ofNat_of_zero_le hal.1
  have han : a < n := by omega
  have hEE : E = 0 := by rw [HE.out]; exact smE_iff.2 ⟨HOK.out, by rw [HLL.out]; exact hal⟩
  have HEE := hide hEE
  clear hal hEE
  obtain ⟨P, KK, st, hKK, hst, hP, hm, hP1, hK1, hst1, hsz, hm4⟩ := wo_facts HOK.out (show a < s.length by rw [HLL.out]; exact han)
  obtain ⟨R, hR⟩ : ∃ z, z = P * st := ⟨_, rfl⟩
  rw [← hR] at hsz
  have hR1 : 1 ≤ R := by rw [hR]; exact Nat.mul_pos hP1 hst1
  have hRm : R ≤ 4096 := by
    have h : R ≤ m := by rw [hR, hm]; exact Nat.mul_le_mul_right _ (Nat.le_mul_of_pos_right _ (by omega))
    omega
  have hm1 : 1 ≤ m := by rw [hm]; exact Nat.mul_pos (Nat.mul_pos hP1 hK1) hst1
  have hKm : KK ≤ 64 := by
    have h := ((size_dims (tenOk_iff.1 HOK.out).1).at (k := a) (by rw [HLL.out]; exact han)).2.1
    omega
  have hstA : (strL s).getD a 0 = (st : Int) := by rw [strL_at s a (by rw [HLL.out]; exact han), hst]
  have HPL : Hid (∀ k q, k < R → q < KK → (k / st * KK + q) * st + k % st < m) := hide (fun k q hk hq => by rw [hm]; rw [hR] at hk; exact wo_place hk hq hst1)
  have HKK := hide hKK
  have HSTA := hide hstA
  have HSM : Hid (smL s m l (a : Int) = sumL9 l KK st R) := hide (by
    rw [smL, if_pos (by rw [← HE.out]; exact HEE.out), Int.toNat_natCast, hKK, hst, hP, Int.toNat_natCast, Int.toNat_natCast, Int.toNat_natCast, hR])
  have HSS : Hid (smS s m (a : Int) = woL s a) := hide (by rw [smS, if_pos (by rw [← HE.out]; exact HEE.out), Int.toNat_natCast])
  have HSZ := hide hsz
  clear hKK hst hP hm hR hstA hsz
  have x0 := HXL.out.c0
  have x1 := HXL.out.c1
  go_wp2_with fail
  refine Calls.mono (without_ok A n c a s _ (HA.out.below HB3.out) han hc hn4) ?_
  rintro e w4 ⟨gw, kw, cw, rfl, hkw, how, hb40⟩
  have HKW := hide hkw
  clear hkw
  have HB4 := hide (below_nx6 HB3.out hb40)
  replace HXL := hide (HXL.out.kept hb40)
  replace HST := hide (HST.out.below hb40)
  have HXL4 := HXL
  have HST4 := HST
  clear hb40 x0 x1
  have x0 := HXL.out.c0
  have x1 := HXL.out.c1
  go_wp2_with fail
  refine Calls.mono (new_ok (some ⟨gw, 0, none⟩) kw cw R (woL s a) _ (lies_of_own how) HSZ.out (by omega)) ?_
  rintro e w5 ⟨g1, c1, g2, rfl, ho1, ho2, hne, hb50⟩
  have hkw4 := (sizeI_pos (xs := woL s a) (by rw [HSZ.out]; omega)).2.1
  rw [← HKW.out] at hkw4
  obtain ⟨V5, hV5⟩ : ∃ W, W = w5.alloc (.cells #[.slice (some ⟨g1, 0, none⟩) kw c1, .slice (some ⟨g2, 0, none⟩) R R] 60) := ⟨_, rfl⟩
  have hlo1 := ho1.lt g1 rfl
  have hlo2 := ho2.lt g2 rfl
  have hsz4 := HB4.out.size
  have HB5 : Hid (Below W0.heap.size W0 V5) := hide (by rw [hV5]; exact below_al6 (below_nx6 HB4.out hb50))
  have hb5 : Below w4.heap.size w4 V5 := by rw [hV5]; exact below_al6 hb50
  have HB45 := hide hb5
  have HXV : Hid (BoxT V5 w5.heap.size (.slice (some ⟨g1, 0, none⟩) kw c1) (.slice (some ⟨g2, 0, none⟩) R R)) := hide (by rw [hV5]; exact BoxT.new w5 _ _)
  have HO1 : Hid (V5.ownsRow w4.heap.size 3 1 (.slice (some ⟨g1, 0, none⟩) kw c1) kw ((woL s a).map (Value.int .i64))) := hide (by rw [hV5]; exact own_below ho1 (below_al6 (Below.refl _ _)))
  have HO2 : Hid (V5.ownsRow w4.heap.size 21 1 (.slice (some ⟨g2, 0, none⟩) R R) R (((List.replicate R (0 : Int)) : List Int).map (Value.int .i32))) := hide (by rw [hV5, List.map_replicate]; exact own_below ho2 (below_al6 (Below.refl _ _)))
  have HNE : Hid (g1 ≠ g2 ∧ w5.heap.size ≠ g2) := hide ⟨hne, by omega⟩
  replace HXL := hide (HXL.out.kept hb5)
  replace HST := hide (HST.out.below hb5)
  have hV5' := hV5.symm
  clear hV5 hb50 hb5 ho1 ho2 how hne x0 x1
  have x0 := HXL.out.c0
  have x1 := HXL.out.c1
  go_wp2_with fail
  refine Calls.mono (sumOrigin_ok A (some ⟨gs, 0, none⟩) n c n n (strL s) a st _ HST.out han HSTA.out) ?_
  rintro e w6 ⟨rfl, hw6⟩
  clear x0 x1
  have hb6 : Below V5.heap.size V5 w6 := by rw [hw6]; exact ((Below.refl V5.heap.size V5).alloc (Nat.le_refl _) _ |>.alloc (by simp only [World.size_alloc]; omega) _).alloc (by simp only [World.size_alloc]; omega) _
  obtain ⟨po, hpo⟩ : ∃ z, z = V5.heap.size := ⟨_, rfl⟩
  have HXO : BoxL w6 po (.slice A n c) (.slice (some ⟨gs, 0, none⟩) n n) := by rw [hw6, hpo]; exact ((BoxL.new V5 _ _).alloc _).alloc _
  have hqa : w6.heap[po + 1]? = some (.cells #[.int .i64 (a : Int)] 3 (0, 0)) := by
    rw [hw6, hpo]
    have h := heap_alloc_new (V5.alloc (.cells #[.slice A n c, .slice (some ⟨gs, 0, none⟩) n n] 111)) (.cells #[.int .i64 (a : Int)] 3)
    rw [World.size_alloc] at h
    exact (Below.heap_alloc _ _ _ (by simp only [World.size_alloc]; omega)).trans h
  have hqs : w6.heap[po + 2]? = some (.cells #[.int .i64 (st : Int)] 3 (0, 0)) := by
    rw [hw6, hpo]
    have h := heap_alloc_new ((V5.alloc (.cells #[.slice A n c, .slice (some ⟨gs, 0, none⟩) n n] 111)).alloc (.cells #[.int .i64 (a : Int)] 3)) (.cells #[.int .i64 (st : Int)] 3)
    rw [World.size_alloc, World.size_alloc] at h
    exact h
  obtain ⟨ws, hws⟩ : ∃ z, z = woL s a := ⟨_, rfl⟩
  have HWS := hide hws
  rw [← hws] at HO1
  have HS : Hid (SumAt w4 w5.heap.size po g1 kw c1 g2 R n c gs a st A ws w6) := hide ⟨HXV.out.kept hb6, HXO, hqa, hqs, own_below HO1.out hb6, HB45.out.trans (hb6.mono HB45.out.size)⟩
  replace HO2 := hide (own_below HO2.out hb6)
  have hlv5 := HXV.out.lt
  have HN5 : Hid (w5.heap.size ≠ g2 ∧ po ≠ g2 ∧ po + 1 ≠ g2 ∧ po + 2 ≠ g2 ∧ g1 ≠ g2 ∧ w4.heap.size ≤ g2) := hide ⟨HNE.out.2, by omega, by omega, by omega, HNE.out.1, hlo2.1⟩
  rw [← hpo]
  clear hws hw6 HXO hqa hqs HXV HO1 HNE hpo hlv5 HXL HST HB5
  obtain ⟨Z, hZ⟩ : ∃ z : List Int, z = sumL9 l KK st R := ⟨_, rfl⟩
  obtain ⟨Z0, hZ0⟩ : ∃ z : List Int, z = List.replicate R 0 := ⟨_, rfl⟩
  have HZL : Hid (Z.length = Z0.length ∧ Z0.length = R ∧ ∀ k, Z0.getD k 0 = 0) := hide ⟨by rw [hZ, hZ0, sumL9_len, List.length_replicate], by rw [hZ0, List.length_replicate], fun k => by rw [hZ0]; simp [List.getD, List.getElem?_replicate]; split <;> rfl⟩
  have HZK : Hid (∀ k, k < R → Z.getD k 0 = sumN9 l KK st k KK) := hide (fun k hk => by rw [hZ]; exact sumL9_at hk)
  have HZ := hide hZ
  replace HO2 : Hid (w6.ownsRow w4.heap.size 21 1 (.slice (some ⟨g2, 0, none⟩) R R) R ((mix9 Z Z0 0).map (Value.int .i32))) := hide (by rw [mix9_zero, hZ0]; exact HO2.out)
  clear hZ hZ0 hb6
  obtain ⟨bB, oB, rfl, _, _⟩ := byte_at HB.out (by omega)
  obtain ⟨bA, oA, rfl, _, _⟩ := byte_at HA.out (by omega)
  have HC : Hid (∀ v, Below w4.heap.size w4 v → v.cell? ⟨w.heap.size, 1, none⟩ = some (.slice (some ⟨bB, oB, none⟩) m d) ∧ v.cell? ⟨w2.heap.size, 0, none⟩ = some (.slice (some ⟨bA, oA, none⟩) n c) ∧ v.cell? ⟨bA, oA + a, none⟩ = some (.int .i64 (KK : Int))) := hide (fun v hv => by
    obtain ⟨_, _, e1, _, x1⟩ := byte_at (HA.out.below (below_nx6 HB4.out hv)) (by omega)
    cases e1
    have h := x1 a han
    rw [HKK.out] at h
    exact ⟨(HX0.out.kept (below_nx6 HB4.out hv)).c1, (HXL4.out.kept hv).c0, h⟩)
  have p1 := HS.out.1.c1
  go_wp2
  clear p1
  go_loopw [39] (fun i wr => ∃ k : Nat, k ≤ R ∧ i = .int .i64 (k : Int) ∧ Hid (SumAt w4 w5.heap.size po g1 kw c1 g2 R n c gs a st (some ⟨bA, oA, none⟩) ws wr) ∧ Hid (wr.ownsRow w4.heap.size 21 1 (.slice (some ⟨g2, 0, none⟩) R R) R ((mix9 Z Z0 k).map (Value.int .i32)))) (fun i _ => R - (intOf i).toNat)
  case atStart => exact ⟨0, Nat.zero_le _, rfl, HS, HO2⟩
  case round =>
    clear HS HO2
    obtain ⟨k, hk, rfl, HS, HO⟩ := hrel
    by_cases hlt : k < R
    · have h0 : (0 : Int) ≤ (k : Int) := by omega
      have h3 : (k : Int) < (R : Int) := by omega
      have ha0 : (0 : Int) ≤ (a : Int) := by omega
      have ha1 : (a : Int) < (n : Int) := by omega
      obtain ⟨_, y0, y1⟩ := HC.out _ HS.out.2.2.2.2.2
      go_wp2
      clear y0 y1
      go_loopw [48] (fun i wr => ∃ q : Nat, q ≤ KK ∧ i = .int .i64 (q : Int) ∧ Hid (SumAt w4 w5.heap.size po g1 kw c1 g2 R n c gs a st (some ⟨bA, oA, none⟩) ws wr) ∧ Hid (wr.ownsRow w4.heap.size 21 1 (.slice (some ⟨g2, 0, none⟩) R R) R (((mix9 Z Z0 k).set k (sumN9 l KK st k q)).map (Value.int .i32)))) (fun i _ => KK - (intOf i).toNat)
      case atStart => exact ⟨0, Nat.zero_le _, rfl, HS, hide (by rw [sumN9, mix9_same HZL.out.1 (by rw [HZL.out.2.1]; exact hlt) (HZL.out.2.2 k)]; exact HO.out)⟩
      case round =>
        clear HS HO
        obtain ⟨q, hq, rfl, HS, HO⟩ := hrel
        by_cases hlq : q < KK
        · have h4 : (0 : Int) ≤ (q : Int) := by omega
          have h5 : (q : Int) < (KK : Int) := by omega
          have hpl := HPL.out k q hlt hlq
          obtain ⟨ix, hix⟩ : ∃ z, z = (k / st * KK + q) * st + k % st := ⟨_, rfl⟩
          have HIX := hide hix
          rw [← hix] at hpl
          obtain ⟨x, hx⟩ : ∃ z, z = sumN9 l KK st k q := ⟨_, rfl⟩
          obtain ⟨y, hy⟩ : ∃ z, z = l.getD ix 0 := ⟨_, rfl⟩
          obtain ⟨z, hz⟩ : ∃ z, z = add32 x y := ⟨_, rfl⟩
          have HV : Hid (sumN9 l KK st k (q + 1) = z) := hide (by rw [sumN9, hz, hx, hy, hix])
          have m1 : IntKind.i32.wrap (x + y) = z := by rw [hz, add32, wrap32, IntKind.wrap_i32]
          have hmx : (mix9 Z Z0 k).length = R := by rw [mix9_len HZL.out.1 (by rw [HZL.out.2.1]; omega), HZL.out.2.1]
          have HGX : Hid (∀ v, Below wr.heap.size wr v → v.cell? ⟨g2, k, none⟩ = some (.int .i32 x) ∧ v.frozen? ⟨g2, k, none⟩ = false) := hide (fun v hv => by
            obtain ⟨h1, h2⟩ := own_cells9 (own_below HO.out hv) hlt
            refine ⟨?_, h2⟩
            rw [h1, hx, List.getD_eq_getElem?_getD, List.getElem?_set_self (by rw [hmx]; exact hlt), Option.getD_some])
          have HF : Hid (∀ v, Below wr.heap.size wr v → v.cell? ⟨w5.heap.size, 1, none⟩ = some (.slice (some ⟨g2, 0, none⟩) R R) ∧ v.cell? ⟨g2, k, none⟩ = some (.int .i32 x) ∧ v.cell? ⟨w.heap.size, 1, none⟩ = some (.slice (some ⟨bB, oB, none⟩) m d) ∧ v.cell? ⟨bB, oB + ix, none⟩ = some (.int .i32 y)) := hide (fun v hv => by
            have hs := HS.out.below hv
            obtain ⟨_, _, e1, _, x1⟩ := byte_at (HB.out.below (below_nx6 HB4.out hs.2.2.2.2.2)) (by omega)
            cases e1
            exact ⟨hs.1.c1, (HGX.out v hv).1, (HC.out v hs.2.2.2.2.2).1, by rw [hy]; exact x1 ix hpl⟩)
          have HCL : Hid (∀ v, Below wr.heap.size wr v → Calls Tryz.prog 194 #[.int .i64 (k : Int), .int .i64 (q : Int), .pointer (some ⟨po, 0, none⟩), .pointer (some ⟨po + 1, 0, none⟩), .pointer (some ⟨po + 2, 0, none⟩)] v fun e' w' => e' = .returned (.int .i64 (ix : Int)) ∧ Below v.heap.size v w') := hide (fun v hv => by
            have hs := HS.out.below hv
            rw [hix]
            exact sumOrig_ok po (po + 1) (po + 2) (some ⟨bA, oA, none⟩) (some ⟨gs, 0, none⟩) n c n n s (strL s) a KK st k q v hs.2.1 hs.2.2.1 hs.2.2.2.1 (HA.out.below (below_nx6 HB4.out hs.2.2.2.2.2)) (HST4.out.below hs.2.2.2.2.2) han han HKK.out HSTA.out hst1 (by omega) (by rw [← hix]; omega))
          have hix0 : (0 : Int) ≤ (ix : Int) := by omega
          have hix1 : (ix : Int) < (m : Int) := by omega
          have hd0 : Below wr.heap.size wr wr.drew := below_drewN (Below.refl _ _) 1
          clear hix hx hy hz hmx
          go_wp2
          have hS0 : Hid (wr.drew.cell? ⟨w5.heap.size, 1, none⟩ = some (.slice (some ⟨g2, 0, none⟩) R R) ∧ wr.drew.cell? ⟨g2, k, none⟩ = some (.int .i32 x) ∧ wr.drew.cell? ⟨w.heap.size, 1, none⟩ = some (.slice (some ⟨bB, oB, none⟩) m d) ∧ wr.drew.cell? ⟨bB, oB + ix, none⟩ = some (.int .i32 y)) := hide (HF.out _ hd0)
          refine wp_region_U (fun b v => b = false → v.cell? ⟨w5.heap.size, 1, none⟩ = some (.slice (some ⟨g2, 0, none⟩) R R) ∧ v.cell? ⟨g2, k, none⟩ = some (.int .i32 x) ∧ v.cell? ⟨w.heap.size, 1, none⟩ = some (.slice (some ⟨bB, oB, none⟩) m d) ∧ v.cell? ⟨bB, oB + ix, none⟩ = some (.int .i32 y)) 15 (by kernel_rfl) ?_
          refine wpAnyU_take (i := 0) (oi := { dst := some 51, op := _, type := _, pos := _, after := _, guard := none }) (v := .pointer (some ⟨w5.heap.size, 1, none⟩)) rfl (by kernel_rfl) (by kernel_rfl) (by kernel_rfl) (by kernel_rfl) (fun _ _ _ h => h) (yields_take rfl (fun w' hw => by obtain ⟨h1, h2, h3, h4⟩ := hw.no (by kernel_rfl) rfl; go_simp)) (fun _ => hS0.out) ?_
          simp only [Act.put, List.setIfInBounds_toArray, List.set_cons_zero, List.set_cons_succ]
          refine wpAnyU_take (i := 1) (oi := { dst := some 52, op := _, type := _, pos := _, after := _, guard := none }) (v := .slice (some ⟨g2, 0, none⟩) R R) rfl (by kernel_rfl) (by kernel_rfl) (by kernel_rfl) (by kernel_rfl) (fun _ _ _ h => h) (yields_take rfl (fun w' hw => by obtain ⟨h1, h2, h3, h4⟩ := hw.no (by kernel_rfl) rfl; go_simp)) (fun _ => hS0.out) ?_
          simp only [Act.put, List.setIfInBounds_toArray, List.set_cons_zero, List.set_cons_succ]
          refine wpAnyU_take (i := 2) (oi := { dst := some 53, op := _, type := _, pos := _, after := _, guard := none }) (v := .int .i64 (k : Int)) rfl (by kernel_rfl) (by kernel_rfl) (by kernel_rfl) (by kernel_rfl) (fun _ _ _ h => h) (yields_take rfl (fun w' hw => by obtain ⟨h1, h2, h3, h4⟩ := hw.no (by kernel_rfl) rfl; go_simp)) (fun _ => hS0.out) ?_
          simp only [Act.put, List.setIfInBounds_toArray, List.set_cons_zero, List.set_cons_succ]
          refine wpAnyU_take (i := 3) (oi := { dst := some 54, op := _, type := _, pos := _, after := _, guard := none }) (v := .pointer (some ⟨g2, k, none⟩)) rfl (by kernel_rfl) (by kernel_rfl) (by kernel_rfl) (by kernel_rfl) (fun _ _ _ h => h) (yields_take rfl (fun w' hw => by obtain ⟨h1, h2, h3, h4⟩ := hw.no (by kernel_rfl) rfl; go_simp)) (fun _ => hS0.out) ?_
          simp only [Act.put, List.setIfInBounds_toArray, List.set_cons_zero, List.set_cons_succ]
          refine wpAnyU_take (i := 4) (oi := { dst := some 55, op := _, type := _, pos := _, after := _, guard := none }) (v := .int .i32 x) rfl (by kernel_rfl) (by kernel_rfl) (by kernel_rfl) (by kernel_rfl) (fun _ _ _ h => h) (yields_take rfl (fun w' hw => by obtain ⟨h1, h2, h3, h4⟩ := hw.no (by kernel_rfl) rfl; go_simp)) (fun _ => hS0.out) ?_
          simp only [Act.put, List.setIfInBounds_toArray, List.set_cons_zero, List.set_cons_succ]
          refine wpAnyU_take (i := 5) (oi := { dst := some 56, op := _, type := _, pos := _, after := _, guard := none }) (v := .pointer (some ⟨w.heap.size, 1, none⟩)) rfl (by kernel_rfl) (by kernel_rfl) (by kernel_rfl) (by kernel_rfl) (fun _ _ _ h => h) (yields_take rfl (fun w' hw => by obtain ⟨h1, h2, h3, h4⟩ := hw.no (by kernel_rfl) rfl; go_simp)) (fun _ => hS0.out) ?_
          simp only [Act.put, List.setIfInBounds_toArray, List.set_cons_zero, List.set_cons_succ]
          refine wpAnyU_take (i := 6) (oi := { dst := some 57, op := _, type := _, pos := _, after := _, guard := none }) (v := .slice (some ⟨bB, oB, none⟩) m d) rfl (by kernel_rfl) (by kernel_rfl) (by kernel_rfl) (by kernel_rfl) (fun _ _ _ h => h) (yields_take rfl (fun w' hw => by obtain ⟨h1, h2, h3, h4⟩ := hw.no (by kernel_rfl) rfl; go_simp)) (fun _ => hS0.out) ?_
          simp only [Act.put, List.setIfInBounds_toArray, List.set_cons_zero, List.set_cons_succ]
          refine wpAnyU_take (i := 7) (oi := { dst := some 58, op := _, type := _, pos := _, after := _, guard := none }) (v := .func (.func 194) #[] #[.pointer (some ⟨po, 0, none⟩), .pointer (some ⟨po + 1, 0, none⟩), .pointer (some ⟨po + 2, 0, none⟩)]) rfl (by kernel_rfl) (by kernel_rfl) (by kernel_rfl) (by kernel_rfl) (fun _ _ _ h => h) (yields_take rfl (fun w' hw => by obtain ⟨h1, h2, h3, h4⟩ := hw.no (by kernel_rfl) rfl; go_simp)) (fun _ => hS0.out) ?_
          simp only [Act.put, List.setIfInBounds_toArray, List.set_cons_zero, List.set_cons_succ]
          refine wpAnyU_take (i := 8) (oi := { dst := some 59, op := _, type := _, pos := _, after := _, guard := none }) (v := .int .i64 (k : Int)) rfl (by kernel_rfl) (by kernel_rfl) (by kernel_rfl) (by kernel_rfl) (fun _ _ _ h => h) (yields_take rfl (fun w' hw => by obtain ⟨h1, h2, h3, h4⟩ := hw.no (by kernel_rfl) rfl; go_simp)) (fun _ => hS0.out) ?_
          simp only [Act.put, List.setIfInBounds_toArray, List.set_cons_zero, List.set_cons_succ]
          refine wpAnyU_take (i := 9) (oi := { dst := some 60, op := _, type := _, pos := _, after := _, guard := none }) (v := .int .i64 (q : Int)) rfl (by kernel_rfl) (by kernel_rfl) (by kernel_rfl) (by kernel_rfl) (fun _ _ _ h => h) (yields_take rfl (fun w' hw => by obtain ⟨h1, h2, h3, h4⟩ := hw.no (by kernel_rfl) rfl; go_simp)) (fun _ => hS0.out) ?_
          simp only [Act.put, List.setIfInBounds_toArray, List.set_cons_zero, List.set_cons_succ]
          refine wpAnyU_one (i := 10) (by kernel_rfl) rfl ?_
          intro K hK
          go_simp
          refine Calls.mono (HCL.out _ hd0) ?_
          rintro e w9 ⟨rfl, hb⟩
          dsimp only
          have hd1 : Below wr.heap.size wr w9 := below_nx6 hd0 hb
          clear hb
          have hS1 : Hid (w9.cell? ⟨w5.heap.size, 1, none⟩ = some (.slice (some ⟨g2, 0, none⟩) R R) ∧ w9.cell? ⟨g2, k, none⟩ = some (.int .i32 x) ∧ w9.cell? ⟨w.heap.size, 1, none⟩ = some (.slice (some ⟨bB, oB, none⟩) m d) ∧ w9.cell? ⟨bB, oB + ix, none⟩ = some (.int .i32 y)) := hide (HF.out _ hd1)
          refine hK _ _ (fun _ => hS1.out) (fun _ => ?_)
          clear hK K hS0
          refine wpAnyU_take (i := 11) (oi := { dst := some 62, op := _, type := _, pos := _, after := _, guard := none }) (v := .pointer (some ⟨bB, oB + ix, none⟩)) rfl (by kernel_rfl) (by kernel_rfl) (by kernel_rfl) (by kernel_rfl) (fun _ _ _ h => h) (yields_take rfl (fun w' hw => by obtain ⟨h1, h2, h3, h4⟩ := hw.no (by kernel_rfl) rfl; go_simp)) (fun _ => hS1.out) ?_
          simp only [Act.put, List.setIfInBounds_toArray, List.set_cons_zero, List.set_cons_succ]
          refine wpAnyU_take (i := 12) (oi := { dst := some 63, op := _, type := _, pos := _, after := _, guard := none }) (v := .int .i32 y) rfl (by kernel_rfl) (by kernel_rfl) (by kernel_rfl) (by kernel_rfl) (fun _ _ _ h => h) (yields_take rfl (fun w' hw => by obtain ⟨h1, h2, h3, h4⟩ := hw.no (by kernel_rfl) rfl; go_simp)) (fun _ => hS1.out) ?_
          simp only [Act.put, List.setIfInBounds_toArray, List.set_cons_zero, List.set_cons_succ]
          refine wpAnyU_take (i := 13) (oi := { dst := some 64, op := _, type := _, pos := _, after := _, guard := none }) (v := .int .i32 z) rfl (by kernel_rfl) (by kernel_rfl) (by kernel_rfl) (by kernel_rfl) (fun _ _ _ h => h) (yields_take rfl (fun w' hw => by obtain ⟨h1, h2, h3, h4⟩ := hw.no (by kernel_rfl) rfl; go_simp)) (fun _ => hS1.out) ?_
          simp only [Act.put, List.setIfInBounds_toArray, List.set_cons_zero, List.set_cons_succ]
          refine wpAnyU_take (i := 14) (oi := { dst := some 65, op := _, type := _, pos := _, after := _, guard := none }) (v := .pointer (some ⟨g2, k, none⟩)) rfl (by kernel_rfl) (by kernel_rfl) (by kernel_rfl) (by kernel_rfl) (fun _ _ _ h => h) (yields_take rfl (fun w' hw => by obtain ⟨h1, h2, h3, h4⟩ := hw.no (by kernel_rfl) rfl; go_simp)) (fun _ => hS1.out) ?_
          simp only [Act.put, List.setIfInBounds_toArray, List.set_cons_zero, List.set_cons_succ]
          obtain ⟨hgx, hfx⟩ := HGX.out _ hd1
          refine wpAnyU_one (i := 15) (by kernel_rfl) rfl ?_
          intro K hK
          go_simp
          refine hK _ _ (fun h => by cases h) (fun _ => ?_)
          clear hK K
          refine wpAnyU_done (by kernel_rfl) ?_ _
          clear hS1
          have HS2 : Hid (SumAt w4 w5.heap.size po g1 kw c1 g2 R n c gs a st (some ⟨bA, oA, none⟩) ws (w9.setCell ⟨g2, k, none⟩ (.int .i32 z))) := hide ((HS.out.below hd1).set HN5.out.1 HN5.out.2.1 HN5.out.2.2.1 HN5.out.2.2.2.1 HN5.out.2.2.2.2.1 HN5.out.2.2.2.2.2 k _)
          have HO2 : Hid ((w9.setCell ⟨g2, k, none⟩ (.int .i32 z)).ownsRow w4.heap.size 21 1 (.slice (some ⟨g2, 0, none⟩) R R) R (((mix9 Z Z0 k).set k (sumN9 l KK st k (q + 1))).map (Value.int .i32))) := hide (by
            have h := own_set9 (v := .int .i32 z) (own_below HO.out hd1) hlt
            rw [← List.map_set, List.set_set] at h
            rw [HV.out]; exact h)
          clear hgx hfx hd0 hd1
          go_wp2
          go_roundw
          case rel => exact ⟨q + 1, by omega, by go_num, HS2, HO2⟩
          case measure => simp [intOf]; omega
        · obtain rfl : KK = q := by omega
          have h5 : ¬ ((KK : Int) < (KK : Int)) := by omega
          have HO2 : Hid (wr.ownsRow w4.heap.size 21 1 (.slice (some ⟨g2, 0, none⟩) R R) R ((mix9 Z Z0 (k + 1)).map (Value.int .i32))) := hide (by
            rw [← mix9_set HZL.out.1 (by rw [HZL.out.2.1]; exact hlt), HZK.out k hlt]
            exact HO.out)
          go_wp2
          go_roundw
          case rel => exact ⟨k + 1, by omega, by go_num, HS, HO2⟩
          case measure => simp [intOf]; omega
    · obtain rfl : R = k := by omega
      have h5 : ¬ ((R : Int) < (R : Int)) := by omega
      have hmx : mix9 Z Z0 R = Z := by rw [← HZL.out.2.1]; exact mix9_all HZL.out.1
      have HO2 := HO.out
      rw [hmx, HZ.out] at HO2
      have HO3 := hide HO2
      have hbw := HS.out.2.2.2.2.2
      have hbW := below_nx6 HB4.out hbw
      have r0 := (HXR.out.kept hbW).c0
      have r1 := (HXR.out.kept hbW).c1
      have rf0 := (HXR.out.kept hbW).f0 0
      have rf1 := (HXR.out.kept hbW).f0 1
      have v0 := HS.out.1.c0
      have v1 := HS.out.1.c1
      have HXF := hide (HXR.out.kept hbW)
      have HBB := hide (HB0.out.trans (hbW.mono (by omega)))
      have hg1b := hlo1.1
      have hg2b := hlo2.1
      clear HO2 hmx hbw hbW
      go_wp2
      (try simp only [Exit.inBlock, Exit.then])
      refine ret_ten (p := 4) (u := 5) rfl rfl (w.heap.size + 1) _ rfl (HXF.out.set2 _ _) rfl ?_
      exact ⟨_, _, _, _, _, _, by rw [HEE.out]; rfl, by rw [HSS.out, ← HWS.out]; exact own_setCell' (own_setCell' (own_base HS.out.2.2.2.2.1 (by omega)) (by dsimp only; omega) _) (by dsimp only; omega) _, by rw [HSM.out]; exact own_setCell' (own_setCell' (own_base HO3.out (by omega)) (by dsimp only; omega) _) (by dsimp only; omega) _, hkw4, hRm, (HBB.out.setCell (by dsimp only; omega) _).setCell (by dsimp only; omega) _⟩

end Go.Proofs.YtomhbhhfbbdilaaGreatDoor
