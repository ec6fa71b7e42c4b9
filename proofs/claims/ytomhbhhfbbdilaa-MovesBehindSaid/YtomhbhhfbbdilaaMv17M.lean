/- What is joined, as plain arithmetic. -/
import Derived.Test.YtomhbhhfbbdilaaMv16M
namespace Go.Proofs.Ytomhbhhfbbdilaa
open Go.RowKit
set_option linter.unusedVariables false
set_option linter.unusedSimpArgs false
set_option maxRecDepth 100000

/-- Which tensor the x-th place along a direction lies in, and where there. -/
def findJ : List Tn → Nat → Nat → Nat × Nat
  | [], _, x => (0, x)
  | t :: l, a, x => if (x : Int) < t.s.getD a 0 then (0, x) else ((findJ l a (x - (t.s.getD a 0).toNat)).1 + 1, (findJ l a (x - (t.s.getD a 0).toNat)).2)

theorem sz9_cons (t : Tn) (l : List Tn) (a j : Nat) : sz9 (t :: l) a (j + 1) = sz9 l a j := by simp [sz9]

theorem sumSz_cons (t : Tn) (l : List Tn) (a : Nat) : ∀ j, sumSz (t :: l) a (j + 1) = t.s.getD a 0 + sumSz l a j
  | 0 => by simp [sumSz, sz9]
  | j + 1 => by rw [sumSz, sumSz_cons t l a j, sz9_cons, sumSz]; omega

theorem findJ_is : ∀ (ts : List Tn) (a X j x : Nat) (t : Tn), (∀ (j : Nat) (t : Tn), ts[j]? = some t → 1 ≤ t.s.getD a 0) → ts[j]? = some t → (x : Int) < t.s.getD a 0 → (X : Int) = sumSz ts a j + (x : Int) → findJ ts a X = (j, x)
  | [], a, X, j, x, t, _, h, _, _ => by simp at h
  | u :: l, a, X, 0, x, t, hall, h, hx, hX => by
    simp at h
    subst h
    have e : X = x := by simp [sumSz] at hX; omega
    rw [findJ, e, if_pos hx]
  | u :: l, a, X, j + 1, x, t, hall, h, hx, hX => by
    have hu := hall 0 u (by simp)
    rw [sumSz_cons] at hX
    have hl : ∀ (j : Nat) (t : Tn), l[j]? = some t → 1 ≤ t.s.getD a 0 := fun j t ht => hall (j + 1) t (by simpa using ht)
    have hn : 0 ≤ sumSz l a j := by
      have : ∀ k, 0 ≤ sumSz l a k := fun k => by
        induction k with
        | zero => simp [sumSz]
        | succ k ih =>
          rw [sumSz]
          have : 0 ≤ sz9 l a k := by
            unfold sz9
            split
            · rename_i t h; have := hl k t h; omega
            · omega
          omega
      exact this j
    have ih := findJ_is l a (X - (u.s.getD a 0).toNat) j x t hl (by simpa using h) hx (by omega)
    rw [findJ, if_neg (by omega), ih]

/-- What moves.Join answers. -/
def jnS0 (ts : List Tn) : List Int := match ts[0]? with
  | some t => t.s
  | none => []

def jnSh (ts : List Tn) (a : Nat) : List Int := (jnS0 ts).set a (sumSz ts a ts.length)

def jnE (ts : List Tn) (d : Int) : Int :=
  if (1 ≤ ts.length ∧ ts.length ≤ 4 ∧ tsOk ts = true) ∧ 0 ≤ d ∧ d < ((jnS0 ts).length : Int) then (if alikes9 ts (jnS0 ts) d.toNat = true ∧ 0 < sizeI (jnSh ts d.toNat) then 0 else 10) else 1

/-- The number at the i-th place of what is joined. -/
def jnN (ts : List Tn) (a KT st i : Nat) : Int := match ts[(findJ ts a (i / st % KT)).1]? with
  | some t => t.l.getD ((i / st / KT * (t.s.getD a 0).toNat + (findJ ts a (i / st % KT)).2) * ((strL t.s).getD a 0).toNat + i % st) 0
  | none => 0

def joinL (ts : List Tn) (a : Nat) : List Int := (List.range (sizeI (jnSh ts a)).toNat).map fun i => jnN ts a (sumSz ts a ts.length).toNat (prodZ ((jnS0 ts).drop (a + 1))).toNat i

def jnS (ts : List Tn) (d : Int) : List Int := if jnE ts d = 0 then jnSh ts d.toNat else []

def jnL (ts : List Tn) (d : Int) : List Int := if jnE ts d = 0 then joinL ts d.toNat else []

theorem drop_same9 {s t : List Int} {a : Nat} (h : alike9 s t a = true) : s.drop (a + 1) = t.drop (a + 1) ∧ s.take a = t.take a := by
  obtain ⟨hl, hd⟩ := alike9_iff.1 h
  have key : ∀ i, i ≠ a → s[i]? = t[i]? := fun i hi => by
    by_cases hlt : i < s.length
    · have e := hd i hlt hi
      rw [List.getD_eq_getElem?_getD, List.getD_eq_getElem?_getD, List.getElem?_eq_getElem hlt, List.getElem?_eq_getElem (by omega)] at e
      rw [List.getElem?_eq_getElem hlt, List.getElem?_eq_getElem (by omega)]
      simpa using e
    · rw [List.getElem?_eq_none (by omega), List.getElem?_eq_none (by omega)]
  constructor
  · apply List.ext_getElem?
    intro i
    rw [List.getElem?_drop, List.getElem?_drop]
    exact key _ (by omega)
  · apply List.ext_getElem?
    intro i
    rw [List.getElem?_take, List.getElem?_take]
    split
    · exact key _ (by omega)
    · rfl

/-- The shape of what is joined, taken apart; and where a number of each tensor lies there. -/
theorem join_facts {ts : List Tn} {t0 : Tn} {a q : Nat} (hl : ts.length = q) (hq : 1 ≤ q) (h0 : ts[0]? = some t0) (hok : tsOk ts = true) (hal : alikes9 ts t0.s a = true) (ha : a < t0.s.length) (hsz : 0 < sizeI (t0.s.set a (sumSz ts a q))) :
    ∃ P KT st R : Nat, (KT : Int) = sumSz ts a q ∧ 1 ≤ KT ∧ 1 ≤ st ∧ prodZ (t0.s.drop (a + 1)) = (st : Int) ∧ sizeI (t0.s.set a (sumSz ts a q)) = (R : Int) ∧ R = P * KT * st ∧ 1 ≤ R ∧ R ≤ 4096 ∧ (t0.s.set a (sumSz ts a q)).getD a 0 = (KT : Int) ∧ (strL (t0.s.set a (sumSz ts a q))).getD a 0 = (st : Int) ∧
      ∀ (j : Nat) (t : Tn), ts[j]? = some t → 1 ≤ t.s.getD a 0 ∧ t.s.getD a 0 ≤ 64 ∧ (strL t.s).getD a 0 = (st : Int) ∧ a < t.s.length ∧ ∀ i x : Nat, i < R → (x : Int) < t.s.getD a 0 → (i / st / KT * (t.s.getD a 0).toNat + x) * st + i % st < t.m := by
  obtain ⟨P, KT, st, f1, f2, f3, f4, f5, f6, f7, _, f9⟩ := wo_facts (s := t0.s.set a (sumSz ts a q)) (m := (sizeI (t0.s.set a (sumSz ts a q))).toNat) (a := a) (tenOk_iff.2 ⟨hsz, by omega⟩) (by rw [List.length_set]; exact ha)
  have g1 : (t0.s.set a (sumSz ts a q)).getD a 0 = sumSz ts a q := by
    rw [List.getD_eq_getElem?_getD, List.getElem?_set_self ha, Option.getD_some]
  have g2 : (t0.s.set a (sumSz ts a q)).drop (a + 1) = t0.s.drop (a + 1) := by rw [List.drop_set_of_lt (by omega)]
  have g3 : (t0.s.set a (sumSz ts a q)).take a = t0.s.take a := by rw [List.take_set_of_le (Nat.le_refl _)]
  rw [g2] at f2
  rw [g3] at f3
  refine ⟨P, KT, st, (sizeI (t0.s.set a (sumSz ts a q))).toNat, by rw [← f1, g1], f6, f7, f2, by omega, f4, by omega, f9, f1, ?_, ?_⟩
  · rw [strL_at _ a (by rw [List.length_set]; exact ha), g2, f2]
  · intro j t ht
    have hm := List.mem_of_getElem? ht
    have htk : tenOk t.s t.m = true := List.all_eq_true.1 hok t hm
    have hta := List.all_eq_true.1 hal t hm
    have hlen := (alike9_iff.1 hta).1
    obtain ⟨d1, d2⟩ := drop_same9 hta
    obtain ⟨P', K', st', e1, e2, e3, e4, _, e6, e7, _, _⟩ := wo_facts htk (show a < t.s.length by omega)
    have hd := (size_dims (tenOk_iff.1 htk).1).at (k := a) (by omega)
    rw [d1, f2] at e2
    rw [d2, f3] at e3
    have hst : st' = st := by omega
    have hP : P' = P := by omega
    subst hst hP
    refine ⟨hd.1, hd.2.1, by rw [strL_at _ a (by omega), d1, f2], by omega, fun i x hi hx => ?_⟩
    rw [e1, Int.toNat_natCast]
    rw [e1] at hx
    rw [e4]
    have hb : i / st' / KT < P' := by
      rw [Nat.div_div_eq_div_mul]
      exact Nat.div_lt_of_lt_mul (by rw [f4] at hi; rw [Nat.mul_comm st' KT, Nat.mul_comm, ← Nat.mul_assoc]; exact hi)
    exact place_lt9 (place_lt9 hb (by omega)) (Nat.mod_lt _ e7)

end Go.Proofs.Ytomhbhhfbbdilaa
