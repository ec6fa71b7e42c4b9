/- Plain facts of what is joined: one alone, in two goes, its sums. -/
import Derived.Test.YtomhbhhfbbdilaaPm17M
import Derived.Test.YtomhbhhfbbdilaaMv17M
namespace Go.Proofs.Ytomhbhhfbbdilaa
open Go.RowKit
set_option linter.unusedVariables false
set_option linter.unusedSimpArgs false

/-- The numbers along a direction of parts that stand one behind the other. -/
def rowsJ (st u w : Nat) : List (Nat × List Int) → Nat → Int
  | [], _ => 0
  | p :: r, y => if y < p.1 then p.2.getD ((u * p.1 + y) * st + w) 0 else rowsJ st u w r (y - p.1)

def lenJ : List (Nat × List Int) → Nat
  | [] => 0
  | p :: r => p.1 + lenJ r

def catJ (P st : Nat) (ps : List (Nat × List Int)) : List Int := (List.range (P * lenJ ps * st)).map fun i => rowsJ st (i / st / lenJ ps) (i % st) ps (i / st % lenJ ps)

theorem catJ_len (P st : Nat) (ps : List (Nat × List Int)) : (catJ P st ps).length = P * lenJ ps * st := by simp [catJ]

theorem lenJ_append (us bs : List (Nat × List Int)) : lenJ (us ++ bs) = lenJ us + lenJ bs := by
  induction us with
  | nil => simp [lenJ]
  | cons p r ih => simp [lenJ, ih, Nat.add_assoc]

theorem rowsJ_append (st u w : Nat) (us bs : List (Nat × List Int)) : ∀ y, rowsJ st u w (us ++ bs) y = if y < lenJ us then rowsJ st u w us y else rowsJ st u w bs (y - lenJ us) := by
  induction us with
  | nil => intro y; simp [lenJ, rowsJ]
  | cons p r ih =>
    intro y
    rw [List.cons_append, rowsJ, rowsJ, lenJ]
    by_cases h : y < p.1
    · rw [if_pos h, if_pos (by omega), if_pos h]
    · rw [if_neg h, ih]
      by_cases h2 : y - p.1 < lenJ r
      · rw [if_pos h2, if_pos (by omega), if_neg h]
      · rw [if_neg h2, if_neg (by omega)]
        congr 1
        omega

theorem spot_parts {K st : Nat} (hst : 1 ≤ st) {u y w : Nat} (hy : y < K) (hw : w < st) : ((u * K + y) * st + w) / st / K = u ∧ ((u * K + y) * st + w) / st % K = y ∧ ((u * K + y) * st + w) % st = w := by
  have e1 : ((u * K + y) * st + w) / st = u * K + y := by rw [Nat.mul_comm, Nat.mul_add_div (by omega), Nat.div_eq_of_lt hw, Nat.add_zero]
  have e2 : ((u * K + y) * st + w) % st = w := by rw [Nat.mul_comm, Nat.mul_add_mod, Nat.mod_eq_of_lt hw]
  rw [e1, e2]
  refine ⟨?_, ?_, rfl⟩
  · rw [Nat.mul_comm, Nat.mul_add_div (by omega), Nat.div_eq_of_lt hy, Nat.add_zero]
  · rw [Nat.mul_comm, Nat.mul_add_mod, Nat.mod_eq_of_lt hy]

theorem spot_is {P K st i : Nat} (hi : i < P * K * st) : (i / st / K * K + i / st % K) * st + i % st = i ∧ i / st / K < P ∧ i / st % K < K ∧ i % st < st := by
  have hst : 0 < st := by rcases Nat.eq_zero_or_pos st with e | e; · rw [e, Nat.mul_zero] at hi; omega
                          · exact e
  have hK : 0 < K := by rcases Nat.eq_zero_or_pos K with e | e; · rw [e, Nat.mul_zero, Nat.zero_mul] at hi; omega
                        · exact e
  have e1 : i / st / K * K + i / st % K = i / st := by rw [Nat.mul_comm]; exact Nat.div_add_mod _ _
  refine ⟨?_, ?_, Nat.mod_lt _ hK, Nat.mod_lt _ hst⟩
  · rw [e1, Nat.mul_comm]; exact Nat.div_add_mod _ _
  · rw [Nat.div_div_eq_div_mul]
    exact Nat.div_lt_of_lt_mul (by rw [Nat.mul_comm st K, Nat.mul_comm, ← Nat.mul_assoc]; exact hi)

theorem catJ_at {P st : Nat} {ps : List (Nat × List Int)} {u y w : Nat} (hu : u < P) (hy : y < lenJ ps) (hw : w < st) : (catJ P st ps).getD ((u * lenJ ps + y) * st + w) 0 = rowsJ st u w ps y := by
  have hlt : (u * lenJ ps + y) * st + w < P * lenJ ps * st := place_lt9 (place_lt9 hu hy) hw
  obtain ⟨e1, e2, e3⟩ := spot_parts (K := lenJ ps) (st := st) (by omega) (u := u) hy hw
  simp only [catJ, List.getD, List.getElem?_map, List.getElem?_range hlt, Option.map_some, Option.getD_some]
  rw [e1, e2, e3]

theorem list_ext_spots {x y : List Int} {P K st : Nat} (hx : x.length = P * K * st) (hy : y.length = P * K * st) (he : ∀ u v w, u < P → v < K → w < st → x.getD ((u * K + v) * st + w) 0 = y.getD ((u * K + v) * st + w) 0) : x = y := by
  refine list_ext9 (by rw [hx, hy]) fun k hk => ?_
  rw [hx] at hk
  obtain ⟨e, h1, h2, h3⟩ := spot_is hk
  have := he _ _ _ h1 h2 h3
  rwa [e] at this

theorem catJ_one {P K st : Nat} {l : List Int} (hl : l.length = P * K * st) : catJ P st [(K, l)] = l := by
  have e : lenJ [(K, l)] = K := by simp [lenJ]
  refine list_ext_spots (P := P) (K := K) (st := st) (by rw [catJ_len, e]) hl fun u v w hu hv hw => ?_
  have h := catJ_at (ps := [(K, l)]) hu (by rw [e]; exact hv) hw
  rw [e] at h
  rw [h, rowsJ, if_pos hv]

theorem catJ_two {P st : Nat} (us : List (Nat × List Int)) (b : Nat × List Int) : catJ P st [(lenJ us, catJ P st us), b] = catJ P st (us ++ [b]) := by
  have e : lenJ [(lenJ us, catJ P st us), b] = lenJ (us ++ [b]) := by simp [lenJ, lenJ_append]
  have e2 : lenJ (us ++ [b]) = lenJ us + b.1 := by simp [lenJ, lenJ_append]
  refine list_ext_spots (P := P) (K := lenJ (us ++ [b])) (st := st) (by rw [catJ_len, e]) (catJ_len _ _ _) fun u v w hu hv hw => ?_
  have h1 := catJ_at (ps := [(lenJ us, catJ P st us), b]) hu (by rw [e]; exact hv) hw
  rw [e] at h1
  rw [h1, catJ_at hu hv hw, rowsJ_append, rowsJ]
  by_cases h : v < lenJ us
  · rw [if_pos h, if_pos h, catJ_at hu h hw]
  · rw [if_neg h, if_neg h]

theorem catJ_sum {P st : Nat} (us : List (Nat × List Int)) (b : Nat × List Int) :
    sumL9 (catJ P st (us ++ [b])) (lenJ (us ++ [b])) st (P * st) = List.zipWith add32 (sumL9 (catJ P st us) (lenJ us) st (P * st)) (sumL9 b.2 b.1 st (P * st)) := by
  have e2 : lenJ (us ++ [b]) = lenJ us + b.1 := by simp [lenJ, lenJ_append]
  refine list_ext9 (by simp [sumL9_len]) fun k hk => ?_
  rw [sumL9_len] at hk
  rw [zip_getD (by rw [sumL9_len, sumL9_len]), sumL9_at hk, sumL9_at hk, sumL9_at hk, sumN9_eq, sumN9_eq, sumN9_eq]
  have hst : 0 < st := by rcases Nat.eq_zero_or_pos st with e | e; · rw [e, Nat.mul_zero] at hk; omega
                          · exact e
  have hu : k / st < P := Nat.div_lt_of_lt_mul (by rw [Nat.mul_comm]; exact hk)
  have hw : k % st < st := Nat.mod_lt _ hst
  obtain ⟨u, hu0⟩ : ∃ u, u = k / st := ⟨_, rfl⟩
  obtain ⟨w, hw0⟩ : ∃ w, w = k % st := ⟨_, rfl⟩
  rw [← hu0] at hu ⊢
  rw [← hw0] at hw ⊢
  rw [sumF_congr (q := lenJ (us ++ [b])) (fun j hj => catJ_at hu hj hw), e2, sumF_more]
  congr 1
  · refine sumF_congr fun j hj => ?_
    rw [rowsJ_append, if_pos hj, catJ_at hu hj hw]
  · refine sumF_congr fun j hj => ?_
    rw [rowsJ_append, if_neg (by omega), show lenJ us + j - lenJ us = j by omega, rowsJ, if_pos hj]

/-- The parts of what is joined. -/
def partsJ (ts : List Tn) (a : Nat) : List (Nat × List Int) := ts.map fun t => ((t.s.getD a 0).toNat, t.l)

theorem partsJ_len {ts : List Tn} {a : Nat} (h : ∀ t ∈ ts, 0 ≤ t.s.getD a 0) : sumSz ts a ts.length = (lenJ (partsJ ts a) : Int) := by
  induction ts with
  | nil => simp [sumSz, partsJ, lenJ]
  | cons t r ih =>
    have h0 := h t (by simp)
    rw [List.length_cons, sumSz_cons, ih (fun x hx => h x (by simp [hx]))]
    simp only [partsJ, List.map_cons, lenJ]
    omega

theorem jnN_rows {a st u w : Nat} : ∀ (ts : List Tn) (X : Nat), (∀ t ∈ ts, ((strL t.s).getD a 0).toNat = st) →
    (match ts[(findJ ts a X).1]? with
      | some t => t.l.getD ((u * (t.s.getD a 0).toNat + (findJ ts a X).2) * ((strL t.s).getD a 0).toNat + w) 0
      | none => 0) = rowsJ st u w (partsJ ts a) X
  | [], X, _ => by simp [findJ, rowsJ, partsJ]
  | t :: r, X, h => by
    have ht := h t (by simp)
    have ih := jnN_rows (u := u) (w := w) r (X - (t.s.getD a 0).toNat) (fun x hx => h x (by simp [hx]))
    rw [partsJ, List.map_cons, rowsJ]
    by_cases hX : (X : Int) < t.s.getD a 0
    · rw [findJ, if_pos hX, if_pos (by dsimp only; omega)]
      simp only [List.getElem?_cons_zero]
      rw [ht]
    · rw [findJ, if_neg hX, if_neg (by dsimp only; omega)]
      simp only [List.getElem?_cons_succ]
      exact ih

theorem jnE_iff {ts : List Tn} {a : Nat} : jnE ts (a : Int) = 0 ↔ (1 ≤ ts.length ∧ ts.length ≤ 4 ∧ tsOk ts = true) ∧ a < (jnS0 ts).length ∧ alikes9 ts (jnS0 ts) a = true ∧ 0 < sizeI (jnSh ts a) := by
  unfold jnE
  rw [Int.toNat_natCast]
  constructor
  · intro h
    split at h
    · rename_i h1
      split at h
      · rename_i h2
        exact ⟨h1.1, by have := h1.2.2; omega, h2.1, h2.2⟩
      · omega
    · omega
  · rintro ⟨h1, h2, h3, h4⟩
    rw [if_pos ⟨h1, by omega, by omega⟩, if_pos ⟨h3, h4⟩]

theorem alike_set {s t : List Int} {a : Nat} (h : alike9 s t a = true) (ha : a < t.length) : s = t.set a (s.getD a 0) := by
  obtain ⟨h1, h2⟩ := alike9_iff.1 h
  refine list_ext9 (by rw [List.length_set]; exact h1) fun k hk => ?_
  by_cases e : k = a
  · subst e
    rw [List.getD_eq_getElem?_getD (l := t.set _ _), List.getElem?_set_self ha, Option.getD_some]
  · rw [h2 k hk e, List.getD_eq_getElem?_getD, List.getD_eq_getElem?_getD, List.getElem?_set_ne (by omega)]

theorem set_alike {t u : List Int} {a : Nat} {x : Int} (h : alike9 u t a = true) : alike9 u (t.set a x) a = true := by
  obtain ⟨h1, h2⟩ := alike9_iff.1 h
  refine alike9_iff.2 ⟨by rw [List.length_set]; exact h1, fun d hd hne => ?_⟩
  rw [h2 d hd hne, List.getD_eq_getElem?_getD, List.getD_eq_getElem?_getD, List.getElem?_set_ne (by omega)]

theorem alike_self (t : List Int) (a : Nat) : alike9 t t a = true := alike9_iff.2 ⟨rfl, fun _ _ _ => rfl⟩

theorem getD_set {t : List Int} {a : Nat} (ha : a < t.length) (x : Int) : (t.set a x).getD a 0 = x := by
  rw [List.getD_eq_getElem?_getD, List.getElem?_set_self ha, Option.getD_some]

theorem take_set9 (t : List Int) (a : Nat) (x : Int) : (t.set a x).take a = t.take a := by rw [List.take_set_of_le (Nat.le_refl _)]

theorem drop_set9 (t : List Int) (a : Nat) (x : Int) : (t.set a x).drop (a + 1) = t.drop (a + 1) := by rw [List.drop_set_of_lt (by omega)]

theorem prodZ_at {s : List Int} {a : Nat} (ha : a < s.length) : prodZ s = prodZ (s.take a) * (prodZ (s.drop (a + 1)) * dz (s.getD a 0)) := by
  rw [prodZ_drop ha, ← prodZ_append, List.take_append_drop]

theorem prodZ_set9 {s : List Int} {a : Nat} (ha : a < s.length) (x : Int) : prodZ (s.set a x) = prodZ (s.take a) * (prodZ (s.drop (a + 1)) * dz x) := by
  rw [prodZ_at (by rw [List.length_set]; exact ha), take_set9, drop_set9, getD_set ha]

theorem size_set_le {s : List Int} {a : Nat} {x y : Int} (ha : a < s.length) (h : 0 < sizeI (s.set a y)) (h1 : 1 ≤ x) (h2 : x ≤ y) : 0 < sizeI (s.set a x) := by
  obtain ⟨l1, l4, hz⟩ := sizeI_pos h
  have hle := sizeI_le (s.set a y)
  have hy := (size_dims h).at (k := a) (by rw [List.length_set]; exact ha)
  rw [getD_set ha] at hy
  have hx : dz x = x := by unfold dz; split <;> omega
  rw [prodZ_set9 ha, hy.2.2] at hz
  have n1 := prodZ_nonneg (s.take a)
  have n2 := prodZ_nonneg (s.drop (a + 1))
  obtain ⟨P, hP⟩ := Int.eq_ofNat_of_zero_le n1
  obtain ⟨st, hst⟩ := Int.eq_ofNat_of_zero_le n2
  obtain ⟨yn, rfl⟩ := Int.eq_ofNat_of_zero_le (show 0 ≤ y by omega)
  obtain ⟨xn, rfl⟩ := Int.eq_ofNat_of_zero_le (show 0 ≤ x by omega)
  rw [hP, hst, ← Int.natCast_mul, ← Int.natCast_mul] at hz
  have hpz : prodZ (s.set a (xn : Int)) = ((P * (st * xn) : Nat) : Int) := by rw [prodZ_set9 ha, hx, hP, hst, Int.natCast_mul, Int.natCast_mul]
  have hxy : P * (st * xn) ≤ P * (st * yn) := Nat.mul_le_mul_left _ (Nat.mul_le_mul_left _ (by omega))
  have hpos : 0 < P * (st * yn) := by omega
  have hP0 : 0 < P := by rcases Nat.eq_zero_or_pos P with e | e; · rw [e, Nat.zero_mul] at hpos; omega
                         · exact e
  have hst0 : 0 < st := by rcases Nat.eq_zero_or_pos st with e | e; · rw [e, Nat.zero_mul, Nat.mul_zero] at hpos; omega
                           · exact e
  have hpx : 0 < P * (st * xn) := Nat.mul_pos hP0 (Nat.mul_pos hst0 (by omega))
  unfold sizeI
  rw [List.length_set] at l1 l4 ⊢
  rw [if_neg (by omega), hpz, if_neg (by omega)]
  omega

/-- What is known of tensors that may be joined. -/
def JF (ts : List Tn) (a P st : Nat) : Prop :=
  1 ≤ P ∧ 1 ≤ st ∧ prodZ ((jnS0 ts).take a) = (P : Int) ∧ prodZ ((jnS0 ts).drop (a + 1)) = (st : Int) ∧ a < (jnS0 ts).length ∧ sizeI (jnSh ts a) = ((P * lenJ (partsJ ts a) * st : Nat) : Int) ∧ sumSz ts a ts.length = (lenJ (partsJ ts a) : Int) ∧ 1 ≤ lenJ (partsJ ts a) ∧
    ∀ t ∈ ts, (strL t.s).getD a 0 = (st : Int) ∧ 1 ≤ t.s.getD a 0 ∧ t.m = P * (t.s.getD a 0).toNat * st ∧ prodZ (t.s.take a) = (P : Int) ∧ prodZ (t.s.drop (a + 1)) = (st : Int) ∧ a < t.s.length ∧ tenOk t.s t.m = true ∧ alike9 t.s (jnS0 ts) a = true

theorem jn_facts {ts : List Tn} {a : Nat} (h : jnE ts (a : Int) = 0) : ∃ P st, JF ts a P st := by
  obtain ⟨⟨h1, h4, hok⟩, ha, hal, hsz⟩ := jnE_iff.1 h
  have hm0 : tenOk (jnSh ts a) (sizeI (jnSh ts a)).toNat = true := tenOk_iff.2 ⟨hsz, by omega⟩
  obtain ⟨P, KT, st, f1, f2, f3, f4, p1, f6, f7, _, _⟩ := wo_facts (a := a) hm0 (by rw [jnSh, List.length_set]; exact ha)
  rw [jnSh, getD_set ha] at f1
  rw [jnSh, drop_set9] at f2
  rw [jnSh, take_set9] at f3
  have hall : ∀ t ∈ ts, (strL t.s).getD a 0 = (st : Int) ∧ 1 ≤ t.s.getD a 0 ∧ t.m = P * (t.s.getD a 0).toNat * st ∧ prodZ (t.s.take a) = (P : Int) ∧ prodZ (t.s.drop (a + 1)) = (st : Int) ∧ a < t.s.length ∧ tenOk t.s t.m = true ∧ alike9 t.s (jnS0 ts) a = true := by
    intro t hm
    have htk : tenOk t.s t.m = true := List.all_eq_true.1 hok t hm
    have hta := List.all_eq_true.1 hal t hm
    have hlen := (alike9_iff.1 hta).1
    obtain ⟨d1, d2⟩ := drop_same9 hta
    obtain ⟨P', K', st', e1, e2, e3, e4, _, e6, e7, _, _⟩ := wo_facts htk (show a < t.s.length by omega)
    have hd := (size_dims (tenOk_iff.1 htk).1).at (k := a) (by omega)
    have e2' := e2
    have e3' := e3
    rw [d1, f2] at e2
    rw [d2, f3] at e3
    have hst : st' = st := by omega
    have hP : P' = P := by omega
    subst hst hP
    exact ⟨by rw [strL_at _ a (by omega), e2'], hd.1, by rw [e1, Int.toNat_natCast]; exact e4, e3', e2', by omega, htk, hta⟩
  have hlen := partsJ_len (ts := ts) (a := a) (fun t ht => by have := (hall t ht).2.1; omega)
  have hKT : lenJ (partsJ ts a) = KT := by omega
  refine ⟨P, st, p1, f7, f3, f2, ha, ?_, hlen, by omega, hall⟩
  rw [hKT, ← f4]
  omega

theorem joinL_cat {ts : List Tn} {a P st : Nat} (h : JF ts a P st) : joinL ts a = catJ P st (partsJ ts a) := by
  obtain ⟨p1, s1, e3, e2, ha, hsz, hlen, hl1, hall⟩ := h
  unfold joinL catJ
  rw [hsz, hlen, e2, Int.toNat_natCast, Int.toNat_natCast, Int.toNat_natCast]
  refine List.map_congr_left fun i _ => ?_
  exact jnN_rows ts _ (fun t ht => by rw [(hall t ht).1, Int.toNat_natCast])

theorem jn_tenOk {ts : List Tn} {a : Nat} (h : jnE ts (a : Int) = 0) : tenOk (jnSh ts a) (joinL ts a).length = true := by
  obtain ⟨_, _, _, hsz⟩ := jnE_iff.1 h
  refine tenOk_iff.2 ⟨hsz, ?_⟩
  rw [joinL, List.length_map, List.length_range]
  omega

/-- One alone, joined, is itself. -/
theorem jn_one {t : Tn} {a : Nat} (hk : tenOk t.s t.m = true) (hl : t.l.length = t.m) (ha : a < t.s.length) : jnE [t] (a : Int) = 0 ∧ jnSh [t] a = t.s ∧ joinL [t] a = t.l := by
  have e0 : jnS0 [t] = t.s := rfl
  have e1 : sumSz [t] a 1 = t.s.getD a 0 := by simp [sumSz, sz9]
  have e2 : jnSh [t] a = t.s := by
    rw [jnSh, e0, List.length_singleton, e1]
    exact (alike_set (alike_self t.s a) ha).symm
  have hE : jnE [t] (a : Int) = 0 := jnE_iff.2 ⟨⟨by simp, by simp, by simp [tsOk, hk]⟩, by rw [e0]; exact ha, by simp [alikes9, e0, alike_self], by rw [e2]; exact (tenOk_iff.1 hk).1⟩
  obtain ⟨P, st, hf⟩ := jn_facts hE
  refine ⟨hE, e2, ?_⟩
  rw [joinL_cat hf]
  exact catJ_one (by rw [hl]; exact (hf.2.2.2.2.2.2.2.2 t (by simp)).2.2.1)

theorem jnS0_append {us bs : List Tn} (h : 1 ≤ us.length) : jnS0 (us ++ bs) = jnS0 us := by
  unfold jnS0
  rw [List.getElem?_append_left (by omega)]

theorem jn_begin {us bs : List Tn} {a : Nat} (h : jnE (us ++ bs) (a : Int) = 0) (h1 : 1 ≤ us.length) : jnE us (a : Int) = 0 := by
  obtain ⟨P, st, hf⟩ := jn_facts h
  obtain ⟨⟨_, l4, hok⟩, ha, hal, hsz⟩ := jnE_iff.1 h
  obtain ⟨_, _, _, _, _, _, hlen, _, hall⟩ := hf
  rw [jnS0_append h1] at ha hal
  rw [List.length_append] at l4
  refine jnE_iff.2 ⟨⟨h1, by omega, ?_⟩, ha, ?_, ?_⟩
  · rw [tsOk, List.all_append, Bool.and_eq_true] at hok; exact hok.1
  · rw [alikes9, List.all_append, Bool.and_eq_true] at hal; exact hal.1
  · have hla := partsJ_len (ts := us) (a := a) (fun t ht => by have := (hall t (by simp [ht])).2.1; omega)
    rw [jnSh, jnS0_append h1, hlen] at hsz
    rw [jnSh, hla]
    have hp : lenJ (partsJ (us ++ bs) a) = lenJ (partsJ us a) + lenJ (partsJ bs a) := by rw [partsJ, List.map_append, lenJ_append]; rfl
    have hx : 1 ≤ lenJ (partsJ us a) := by
      match us, h1, hall with
      | t :: r, _, hall =>
        have := (hall t (by simp)).2.1
        simp only [partsJ, List.map_cons, lenJ]
        omega
    exact size_set_le ha hsz (by omega) (by omega)

/-- Two goes. -/
theorem jn_two {us : List Tn} {t acc : Tn} {a : Nat} (h : jnE (us ++ [t]) (a : Int) = 0) (h1 : 1 ≤ us.length) (hs : acc.s = jnSh us a) (hl : acc.l = joinL us a) (hm : acc.l.length = acc.m) :
    jnE [acc, t] (a : Int) = 0 ∧ jnSh [acc, t] a = jnSh (us ++ [t]) a ∧ joinL [acc, t] a = joinL (us ++ [t]) a := by
  have hb := jn_begin h h1
  obtain ⟨P, st, hf⟩ := jn_facts h
  obtain ⟨P', st', hg⟩ := jn_facts hb
  have hcf := joinL_cat hf
  have hcg := joinL_cat hg
  have hk := jn_tenOk hb
  obtain ⟨⟨_, l4, hok⟩, ha, hal, hsz⟩ := jnE_iff.1 h
  obtain ⟨p1, s1, e3, e2, _, _, hlen, hl1, hall⟩ := hf
  obtain ⟨_, _, e3', e2', ha', _, hlen', hl1', _⟩ := hg
  rw [jnS0_append h1] at e3 e2
  have hP : P' = P := by omega
  have hS : st' = st := by omega
  subst hP hS
  have ht := hall t (by simp)
  rw [jnS0_append h1] at ht
  have hkA : tenOk acc.s acc.m = true := by rw [← hm, hl, hs]; exact hk
  have hp : lenJ (partsJ (us ++ [t]) a) = lenJ (partsJ us a) + (t.s.getD a 0).toNat := by rw [partsJ, List.map_append, lenJ_append]; simp [lenJ, partsJ]
  have hgA : acc.s.getD a 0 = (lenJ (partsJ us a) : Int) := by rw [hs, jnSh, getD_set ha', hlen']
  have hSh : jnSh [acc, t] a = jnSh (us ++ [t]) a := by
    have e1 : sumSz [acc, t] a 2 = (lenJ (partsJ (us ++ [t]) a) : Int) := by
      have := ht.2.1
      simp only [sumSz, sz9, List.getElem?_cons_zero, List.getElem?_cons_succ]
      rw [hgA, hp]
      omega
    have e0 : jnS0 [acc, t] = acc.s := rfl
    rw [jnSh, e0, show [acc, t].length = 2 from rfl, e1, jnSh, hlen, jnS0_append h1, hs, jnSh, List.set_set]
  have hE : jnE [acc, t] (a : Int) = 0 := by
    refine jnE_iff.2 ⟨⟨by simp, by simp, by simp [tsOk, hkA, ht.2.2.2.2.2.2.1]⟩, ?_, ?_, by rw [hSh]; exact hsz⟩
    · show a < acc.s.length
      rw [hs, jnSh, List.length_set]
      exact ha'
    · have ht8 := ht.2.2.2.2.2.2.2
      have : alike9 t.s acc.s a = true := by rw [hs, jnSh]; exact set_alike ht8
      simp [alikes9, jnS0, alike_self, this]
  obtain ⟨P2, st2, hq⟩ := jn_facts hE
  have hcq := joinL_cat hq
  have hP2 : P2 = P' := by
    have := hq.2.2.1
    have e0 : jnS0 [acc, t] = acc.s := rfl
    rw [e0, hs, jnSh, take_set9] at this
    omega
  have hS2 : st2 = st' := by
    have := hq.2.2.2.1
    have e0 : jnS0 [acc, t] = acc.s := rfl
    rw [e0, hs, jnSh, drop_set9] at this
    omega
  subst hP2 hS2
  refine ⟨hE, hSh, ?_⟩
  rw [hcq, hcf]
  have e5 : partsJ [acc, t] a = [(lenJ (partsJ us a), catJ P2 st2 (partsJ us a)), ((t.s.getD a 0).toNat, t.l)] := by
    simp only [partsJ, List.map_cons, List.map_nil]
    rw [hgA, Int.toNat_natCast, hl, hcg]
    rfl
  have e6 : partsJ (us ++ [t]) a = partsJ us a ++ [((t.s.getD a 0).toNat, t.l)] := by simp [partsJ]
  rw [e5, e6]
  exact catJ_two _ _

/-- The sums of what is joined. -/
theorem jn_sum {us : List Tn} {t : Tn} {a : Nat} (h : jnE (us ++ [t]) (a : Int) = 0) (h1 : 1 ≤ us.length) :
    woL (jnSh (us ++ [t]) a) a = woL (jnSh us a) a ∧ woL t.s a = woL (jnSh us a) a ∧ sumT (jnSh (us ++ [t]) a) (joinL (us ++ [t]) a) a = List.zipWith add32 (sumT (jnSh us a) (joinL us a) a) (sumT t.s t.l a) := by
  have hb := jn_begin h h1
  obtain ⟨P, st, hf⟩ := jn_facts h
  obtain ⟨P', st', hg⟩ := jn_facts hb
  have hcf := joinL_cat hf
  have hcg := joinL_cat hg
  obtain ⟨p1, s1, e3, e2, ha, _, hlen, hl1, hall⟩ := hf
  obtain ⟨_, _, e3', e2', ha', _, hlen', hl1', _⟩ := hg
  rw [jnS0_append h1] at e3 e2
  have hP : P' = P := by omega
  have hS : st' = st := by omega
  subst hP hS
  have ht := hall t (by simp)
  rw [jnS0_append h1] at ht
  have hwo : ∀ (s : List Int) (x : Int), a < s.length → woL (s.set a x) a = woL s a := by
    intro s x hs
    by_cases h2 : s.length = 1
    · rw [woL_one h2, woL_one (by rw [List.length_set]; exact h2)]
    · rw [woL_more h2, woL_more (by rw [List.length_set]; exact h2), take_set9, drop_set9]
  refine ⟨?_, ?_, ?_⟩
  · rw [jnSh, jnSh, jnS0_append h1, hwo _ _ ha', hwo _ _ ha']
  · rw [alike_set ht.2.2.2.2.2.2.2 ha', jnSh, hwo _ _ ha', hwo _ _ ha']
  · have e6 : partsJ (us ++ [t]) a = partsJ us a ++ [((t.s.getD a 0).toNat, t.l)] := by simp [partsJ]
    unfold sumT
    rw [jnSh, jnS0_append h1, getD_set ha', take_set9, drop_set9, jnSh, getD_set ha', take_set9, drop_set9, e3, e2, hlen, hlen', ht.2.2.2.1, ht.2.2.2.2.1, Int.toNat_natCast, Int.toNat_natCast, Int.toNat_natCast, Int.toNat_natCast, hcf, hcg, e6]
    exact catJ_sum _ _

end Go.Proofs.Ytomhbhhfbbdilaa
