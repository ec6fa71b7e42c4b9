/- Plain facts of tensors that are turned, joined along the first direction, and turned back. -/
import Derived.Test.YtomhbhhfbbdilaaPm19M
namespace Go.Proofs.Ytomhbhhfbbdilaa
open Go.RowKit
set_option linter.unusedVariables false
set_option linter.unusedSimpArgs false

/-- One is another one, turned so that the direction k comes first. -/
def TdOf (n k : Nat) (t t' : Tn) : Prop := t.s.length = n ∧ tenOk t.s t.m = true ∧ t.l.length = t.m ∧ t'.s = pickL t.s (swapU n k) ∧ t'.l = turnL t.s t.l (swapU n k) t.m ∧ t'.m = t.m

def Tds (n k : Nat) : List Tn → List Tn → Prop
  | [], [] => True
  | t :: r, t' :: r' => TdOf n k t t' ∧ Tds n k r r'
  | _, _ => False

theorem Tds.len {n k : Nat} : ∀ {us vs : List Tn}, Tds n k us vs → us.length = vs.length
  | [], [], _ => rfl
  | _ :: _, _ :: _, h => by rw [List.length_cons, List.length_cons, h.2.len]
  | [], _ :: _, h => h.elim
  | _ :: _, [], h => h.elim

theorem Tds.snoc {n k : Nat} {t t' : Tn} (ht : TdOf n k t t') : ∀ {us vs : List Tn}, Tds n k us vs → Tds n k (us ++ [t]) (vs ++ [t'])
  | [], [], _ => ⟨ht, trivial⟩
  | _ :: _, _ :: _, h => ⟨h.1, h.2.snoc ht⟩
  | [], _ :: _, h => h.elim
  | _ :: _, [], h => h.elim

theorem TdOf.ok {n k : Nat} {t t' : Tn} (h : TdOf n k t t') (hk : k < n) : tenOk t'.s t'.m = true := by
  obtain ⟨h1, h2, _, h4, _, h6⟩ := h
  obtain ⟨q1, q2⟩ := tenOk_iff.1 h2
  obtain ⟨_, hn4, _⟩ := sizeI_pos q1
  have e := pick_size h1 (swapU_ok hk) (by omega)
  exact tenOk_iff.2 ⟨by rw [h4, e]; exact q1, by rw [h4, h6, e]; exact q2⟩

theorem Tds.oks {n k : Nat} (hk : k < n) : ∀ {us vs : List Tn}, Tds n k us vs → tsOk us = true ∧ tsOk vs = true
  | [], [], _ => ⟨rfl, rfl⟩
  | t :: r, t' :: r', h => by
    obtain ⟨h1, h2⟩ := h.2.oks hk
    have h3 := h.1.2.1
    have h4 := h.1.ok hk
    unfold tsOk at *
    rw [List.all_cons, List.all_cons, h1, h2, h3, h4]
    exact ⟨rfl, rfl⟩
  | [], _ :: _, h => h.elim
  | _ :: _, [], h => h.elim

theorem Tds.sums {n k : Nat} (hk : k < n) : ∀ {us vs : List Tn}, Tds n k us vs → sumSz us k us.length = sumSz vs 0 vs.length
  | [], [], _ => rfl
  | t :: r, t' :: r', h => by
    rw [List.length_cons, List.length_cons, sumSz_cons, sumSz_cons, h.2.sums hk, h.1.2.2.2.1, pick_swap_at (by omega), if_pos rfl]
  | [], _ :: _, h => h.elim
  | _ :: _, [], h => h.elim

theorem alike_swap {s s0 : List Int} {n k : Nat} (hs : s.length = n) (h0 : s0.length = n) (hk : k < n) : alike9 (pickL s (swapU n k)) (pickL s0 (swapU n k)) 0 = alike9 s s0 k := by
  rw [Bool.eq_iff_iff, alike9_iff, alike9_iff, pick_swap_len, pick_swap_len, hs, h0]
  constructor
  · rintro ⟨_, h⟩
    refine ⟨rfl, fun d hd hne => ?_⟩
    by_cases e : d = 0
    · have hk0 : ¬ k = 0 := by omega
      have := h k hk hk0
      rw [pick_swap_at hk, pick_swap_at hk, if_neg hk0, if_neg hk0, if_pos rfl, if_pos rfl] at this
      rw [e]; exact this
    · have := h d hd e
      rwa [pick_swap_at hd, pick_swap_at hd, if_neg e, if_neg e, if_neg hne, if_neg hne] at this
  · rintro ⟨_, h⟩
    refine ⟨rfl, fun d hd hne => ?_⟩
    rw [pick_swap_at hd, pick_swap_at hd, if_neg hne, if_neg hne]
    by_cases e : d = k
    · rw [if_pos e, if_pos e]; exact h 0 (by omega) (by omega)
    · rw [if_neg e, if_neg e]; exact h d hd e

theorem Tds.alikes {n k : Nat} (hk : k < n) {s0 : List Int} (h0 : s0.length = n) : ∀ {us vs : List Tn}, Tds n k us vs → alikes9 vs (pickL s0 (swapU n k)) 0 = alikes9 us s0 k
  | [], [], _ => rfl
  | t :: r, t' :: r', h => by
    have ih := h.2.alikes hk h0
    unfold alikes9 at *
    rw [List.all_cons, List.all_cons, ih, h.1.2.2.2.1, alike_swap h.1.1 h0 hk]
  | [], _ :: _, h => h.elim
  | _ :: _, [], h => h.elim

theorem Tds.first {n k : Nat} : ∀ {us vs : List Tn}, Tds n k us vs → 1 ≤ us.length → jnS0 vs = pickL (jnS0 us) (swapU n k) ∧ (jnS0 us).length = n
  | [], [], _, h1 => by simp at h1
  | t :: r, t' :: r', h, _ => ⟨h.1.2.2.2.1, h.1.1⟩
  | [], _ :: _, h, _ => h.elim
  | _ :: _, [], h, _ => h.elim

theorem Tds.shape {n k : Nat} (hk : k < n) {us vs : List Tn} (h : Tds n k us vs) (h1 : 1 ≤ us.length) : jnSh vs 0 = pickL (jnSh us k) (swapU n k) := by
  obtain ⟨e0, el⟩ := h.first h1
  rw [jnSh, jnSh, e0, ← h.sums hk, pick_swap_set el hk]

theorem Tds.same_error {n k : Nat} (hk : k < n) (hn4 : n ≤ 4) {us vs : List Tn} (h : Tds n k us vs) (h1 : 1 ≤ us.length) (h4 : us.length ≤ 4) : jnE vs ((0 : Nat) : Int) = jnE us (k : Int) := by
  obtain ⟨e0, el⟩ := h.first h1
  obtain ⟨o1, o2⟩ := h.oks hk
  have hsz : sizeI (jnSh vs 0) = sizeI (jnSh us k) := by
    rw [h.shape hk h1]
    exact pick_size (by rw [jnSh, List.length_set, el]) (swapU_ok hk) hn4
  have hal := h.alikes hk el
  have hl := h.len
  unfold jnE
  have c1 : (1 ≤ vs.length ∧ vs.length ≤ 4 ∧ tsOk vs = true) ∧ (0 : Int) ≤ ((0 : Nat) : Int) ∧ ((0 : Nat) : Int) < (n : Int) := ⟨⟨by omega, by omega, o2⟩, by omega, by omega⟩
  have c2 : (1 ≤ us.length ∧ us.length ≤ 4 ∧ tsOk us = true) ∧ (0 : Int) ≤ (k : Int) ∧ (k : Int) < (n : Int) := ⟨⟨h1, h4, o1⟩, by omega, by omega⟩
  rw [Int.toNat_natCast, Int.toNat_natCast, hsz, e0, hal, pick_swap_len, el, if_pos c1, if_pos c2]

/-- A shape that is alike another one, taken apart. -/
theorem parts_set {x K K' : Int} {M B : List Int} : ((x :: (M ++ K :: B)) : List Int).set (M.length + 1) K' = x :: (M ++ K' :: B) := by
  rw [List.set_cons_succ, List.set_append_right _ _ (Nat.le_refl _), Nat.sub_self, List.set_cons_zero]

theorem pick_parts {x K : Int} {M B : List Int} {n k : Nat} (hn : n = M.length + B.length + 2) (hk : k = M.length + 1) : pickL (x :: (M ++ K :: B)) (swapU n k) = K :: (M ++ x :: B) := by
  subst hn hk
  refine list_ext9 (by rw [pick_swap_len]; simp; omega) fun i hi => ?_
  rw [pick_swap_len] at hi
  rw [pick_swap_at hi]
  by_cases h0 : i = 0
  · subst h0
    rw [if_pos rfl]
    simp [List.getD]
  · obtain ⟨j, rfl⟩ : ∃ j, i = j + 1 := ⟨i - 1, by omega⟩
    rw [if_neg h0]
    by_cases h1 : j = M.length
    · subst h1
      rw [if_pos rfl]
      simp [List.getD]
    · rw [if_neg (by omega), List.getD_cons_succ, List.getD_cons_succ, List.getD_eq_getElem?_getD, List.getD_eq_getElem?_getD]
      by_cases h2 : j < M.length
      · rw [List.getElem?_append_left h2, List.getElem?_append_left h2]
      · rw [List.getElem?_append_right (by omega), List.getElem?_append_right (by omega)]
        obtain ⟨r, hr⟩ : ∃ r, j - M.length = r + 1 := ⟨j - M.length - 1, by omega⟩
        rw [hr, List.getElem?_cons_succ, List.getElem?_cons_succ]

theorem prodZ_cons_nat {x : Nat} {l : List Int} {p : Nat} (hx : dz (x : Int) = x) (hp : prodZ l = (p : Int)) : prodZ ((x : Int) :: l) = ((x * p : Nat) : Int) := by rw [prodZ, hx, hp, Int.natCast_mul]

theorem catJ_flat {st : Nat} (hst : 1 ≤ st) : ∀ ps : List (Nat × List Int), (∀ p ∈ ps, p.2.length = p.1 * st) → catJ 1 st ps = (ps.map Prod.snd).flatten
  | [], _ => by simp [catJ, lenJ]
  | p :: r, h => by
    have ih := catJ_flat hst r (fun q hq => h q (by simp [hq]))
    have hp := h p (by simp)
    rw [List.map_cons, List.flatten_cons, ← ih]
    have el : lenJ (p :: r) = p.1 + lenJ r := rfl
    refine list_ext_spots (P := 1) (K := lenJ (p :: r)) (st := st) (catJ_len _ _ _) (by rw [List.length_append, catJ_len, hp, el]; grind) fun u v w hu hv hw => ?_
    obtain rfl : u = 0 := by omega
    rw [catJ_at hu hv hw, rowsJ, List.getD_eq_getElem?_getD (l := p.2 ++ _)]
    by_cases hlt : v < p.1
    · have h1 : (0 * lenJ (p :: r) + v) * st + w < p.2.length := by rw [hp, Nat.zero_mul, Nat.zero_add]; exact place_lt9 hlt hw
      rw [if_pos hlt, List.getElem?_append_left h1, ← List.getD_eq_getElem?_getD, Nat.zero_mul, Nat.zero_mul]
    · obtain ⟨v', rfl⟩ : ∃ v', v = p.1 + v' := ⟨v - p.1, by omega⟩
      have h1 : (0 * lenJ (p :: r) + (p.1 + v')) * st + w = p.2.length + ((0 * lenJ r + v') * st + w) := by rw [hp]; grind
      rw [if_neg hlt, h1, List.getElem?_append_right (by omega)]
      simp only [Nat.add_sub_cancel_left]
      rw [← List.getD_eq_getElem?_getD, catJ_at hu (by omega) hw]

theorem Tds.rows {n k x p st : Nat} {M B : List Int} (hn : n = M.length + B.length + 2) (hk : k = M.length + 1) (hn4 : n ≤ 4) (hp : prodZ M = (p : Int)) (hst : prodZ B = (st : Int)) {m i w : Nat} (hm : m < p) (hi : i < x) (hw : w < st) :
    ∀ {us vs : List Tn}, Tds n k us vs → (∀ t ∈ us, ∃ K : Nat, t.s = (x : Int) :: (M ++ (K : Int) :: B)) → ∀ Y, rowsJ (p * x * st) 0 ((m * x + i) * st + w) (partsJ vs 0) Y = rowsJ st (i * p + m) w (partsJ us k) Y
  | [], [], _, _, _ => rfl
  | t :: r, t' :: r', h, hall, Y => by
    have ih := h.2.rows hn hk hn4 hp hst hm hi hw (fun q hq => hall q (by simp [hq])) (Y - (t.s.getD k 0).toNat)
    obtain ⟨K, hK⟩ := hall t (by simp)
    obtain ⟨h1, h2, h3, h4, h5, h6⟩ := h.1
    have hgk : t.s.getD k 0 = (K : Int) := by rw [hK, hk]; simp [List.getD]
    have hg0 : t'.s.getD 0 0 = (K : Int) := by rw [h4, pick_swap_at (by omega), if_pos rfl, hgk]
    rw [hgk, Int.toNat_natCast] at ih
    unfold partsJ at *
    rw [List.map_cons, List.map_cons, rowsJ, rowsJ, hgk, hg0, Int.toNat_natCast, ih]
    by_cases hlt : Y < K
    · rw [if_pos hlt, if_pos hlt]
      dsimp only
      have hd := size_dims (tenOk_iff.1 h2).1
      rw [hK] at hd
      have hx := (hd (x : Int) (by simp)).2.2
      have hKz := (hd (K : Int) (by simp)).2.2
      have hpr : prodZ ((x : Int) :: (M ++ (K : Int) :: B)) = ((x * (p * (K * st)) : Nat) : Int) := by
        rw [prodZ, hx, prodZ_append, hp, prodZ, hKz, hst, Int.natCast_mul, Int.natCast_mul, Int.natCast_mul]
      have hmm : t.m = x * (p * (K * st)) := by
        have e := (tenOk_iff.1 h2).2
        rw [(sizeI_pos (tenOk_iff.1 h2).1).2.2, hK, hpr] at e
        omega
      have hR : (m * x + i) * st + w < p * x * st := place_lt9 (place_lt9 hm hi) hw
      have hidx : ((Y * p + m) * x + i) * st + w < t.m := by
        have h9 := place_lt9 (place_lt9 (place_lt9 hlt hm) hi) hw
        rw [hmm]
        have e : x * (p * (K * st)) = K * p * x * st := by grind
        rw [e]
        exact h9
      have hpos : (0 * K + Y) * (p * x * st) + ((m * x + i) * st + w) = ((Y * p + m) * x + i) * st + w := by grind
      rw [hpos, h5, turnL_at hidx, h1, hK, pick_parts hn hk]
      subst hn hk
      rw [tr_swap hd (by omega) hp hst hlt hm hi hw]
    · rw [if_neg hlt, if_neg hlt]
  | [], _ :: _, h, _, _ => h.elim
  | _ :: _, [], h, _, _ => h.elim

theorem Tds.same {n : Nat} : ∀ {us vs : List Tn}, Tds n 0 us vs → partsJ vs 0 = partsJ us 0
  | [], [], _ => rfl
  | t :: r, t' :: r', h => by
    have ih := h.2.same
    obtain ⟨h1, h2, h3, h4, h5, h6⟩ := h.1
    obtain ⟨e1, e2⟩ := turn_same h2 h1 h3
    unfold partsJ at *
    rw [List.map_cons, List.map_cons, ih, h4, h5, e1, e2]
  | [], _ :: _, h => h.elim
  | _ :: _, [], h => h.elim

/-- Joined behind a turn, and turned back, is joined along the direction k. -/
theorem turn_back {n k : Nat} (hk : k < n) (hn4 : n ≤ 4) {us vs : List Tn} (h : Tds n k us vs) (h1 : 1 ≤ us.length) (hE : jnE us (k : Int) = 0) (hE' : jnE vs ((0 : Nat) : Int) = 0) :
    pickL (jnSh vs 0) (swapU n k) = jnSh us k ∧ turnL (jnSh vs 0) (joinL vs 0) (swapU n k) (joinL vs 0).length = joinL us k := by
  obtain ⟨e0, el⟩ := h.first h1
  have hsh := h.shape hk h1
  have hl9 : (jnSh us k).length = n := by rw [jnSh, List.length_set, el]
  have hps : pickL (jnSh vs 0) (swapU n k) = jnSh us k := by rw [hsh]; exact pick_swap_twice hl9 hk
  refine ⟨hps, ?_⟩
  obtain ⟨P, st, hf⟩ := jn_facts hE
  obtain ⟨P', st', hf'⟩ := jn_facts hE'
  have hc := joinL_cat hf
  have hc' := joinL_cat hf'
  have hk' := jn_tenOk hE'
  by_cases hk0 : k = 0
  · subst hk0
    have hsv : jnSh vs 0 = jnSh us 0 := by
      have := (turn_same (l := joinL us 0) (jn_tenOk hE) hl9 rfl).1
      rw [hsh, this]
    obtain ⟨_, r2⟩ := turn_same hk' (by rw [hsv, hl9]) rfl
    rw [r2, hc', hc, h.same]
    have q1 := hf.2.2.1
    have q2 := hf'.2.2.1
    have q3 := hf.2.2.2.1
    have q4 := hf'.2.2.2.1
    have hS0 : jnS0 vs = jnS0 us := by
      match us, vs, h, h1 with
      | t :: r, t' :: r', h, _ =>
        obtain ⟨g1, g2, g3, g4, _, _⟩ := h.1
        show t'.s = t.s
        rw [g4, (turn_same g2 g1 g3).1]
    rw [hS0] at q2 q4
    rw [show P' = P by omega, show st' = st by omega]
  · obtain ⟨A, x0, M, K0, B, hs0, hA, hM⟩ := two_parts (s := jnS0 us) (a := 0) (b := k) (by omega) (by omega)
    obtain rfl : A = [] := List.eq_nil_of_length_eq_zero hA
    rw [List.nil_append] at hs0
    have hkM : k = M.length + 1 := by simp at hM; omega
    have hnB : n = M.length + B.length + 2 := by rw [← el, hs0]; simp; omega
    obtain ⟨_, _, hP, hst, _, hsz, hsum, hl1, hall⟩ := hf
    obtain ⟨_, _, hP', hst', _, hsz', hsum', hl1', _⟩ := hf'
    have htk : (jnS0 us).take k = x0 :: M := by rw [hs0, hkM]; simp
    have hdr : (jnS0 us).drop (k + 1) = B := by rw [hs0, hkM]; simp [List.drop_append]
    rw [htk] at hP
    rw [hdr] at hst
    have hdj := size_dims (tenOk_iff.1 (jn_tenOk hE)).1
    have hj : jnSh us k = x0 :: (M ++ (lenJ (partsJ us k) : Int) :: B) := by rw [jnSh, hsum, hs0, hkM, parts_set]
    rw [hj] at hdj
    have hx1 := hdj x0 (by simp)
    obtain ⟨x, rfl⟩ := Int.eq_ofNat_of_zero_le (show 0 ≤ x0 by omega)
    obtain ⟨p, hp, hp1⟩ := nat_prod (l := M) (fun d hd => hdj d (by simp [hd]))
    have hP2 : P = x * p := by rw [prodZ_cons_nat hx1.2.2 hp] at hP; omega
    have hP3 : P' = 1 := by
      have : prodZ (((jnS0 vs)).take 0) = 1 := rfl
      omega
    have hst2 : st' = p * x * st := by
      rw [e0, hs0, pick_parts hnB hkM] at hst'
      have : (((K0 : Int) :: (M ++ (x : Int) :: B)).drop (0 + 1)) = M ++ (x : Int) :: B := rfl
      rw [this, prodZ_append, hp, prodZ_cons_nat hx1.2.2 hst, ← Int.natCast_mul] at hst'
      have := Int.ofNat_inj.1 hst'
      rw [← this]; grind
    have hlen : lenJ (partsJ vs 0) = lenJ (partsJ us k) := by
      have := h.sums hk
      omega
    obtain ⟨KT, hKT⟩ : ∃ z, z = lenJ (partsJ us k) := ⟨_, rfl⟩
    rw [← hKT] at hj hdj hlen hsz hl1
    have hxs : ∀ t ∈ us, ∃ K : Nat, t.s = (x : Int) :: (M ++ (K : Int) :: B) := by
      intro t ht
      obtain ⟨_, b1, _, _, _, _, _, b7⟩ := hall t ht
      obtain ⟨K, hK⟩ := Int.eq_ofNat_of_zero_le (show 0 ≤ t.s.getD k 0 by omega)
      have := alike_set b7 (by omega)
      rw [hK, hs0, hkM, parts_set] at this
      exact ⟨K, this⟩
    have hjv : jnSh vs 0 = (KT : Int) :: (M ++ (x : Int) :: B) := by rw [hsh, hj, pick_parts hnB hkM]
    have hlv : (joinL vs 0).length = x * p * KT * st := by
      rw [hc', catJ_len, hlen, hP3, hst2]
      grind
    have hsw : pickL ((KT : Int) :: (M ++ (x : Int) :: B)) (swapU n k) = (x : Int) :: (M ++ (KT : Int) :: B) := pick_parts hnB hkM
    have hdv : AllDim ((KT : Int) :: (M ++ (x : Int) :: B)) := by rw [← hjv]; exact size_dims (tenOk_iff.1 hk').1
    have hlz : (jnSh vs 0).length = M.length + B.length + 2 := by rw [hjv]; simp; omega
    refine list_ext_spots (P := x * p) (K := KT) (st := st) (by rw [turnL_len]; exact hlv) (by rw [hc, catJ_len, hP2, hKT]) fun U Y w hU hY hw => ?_
    obtain ⟨i, hi⟩ : ∃ z, z = U / p := ⟨_, rfl⟩
    obtain ⟨m, hm⟩ : ∃ z, z = U % p := ⟨_, rfl⟩
    have eU : U = i * p + m := by rw [hi, hm, Nat.mul_comm]; exact (Nat.div_add_mod U p).symm
    have hix : i < x := by rw [hi]; exact Nat.div_lt_of_lt_mul (by rw [Nat.mul_comm]; exact hU)
    have hmp : m < p := by rw [hm]; exact Nat.mod_lt _ (by omega)
    clear hi hm
    subst eU
    have hlt : ((i * p + m) * KT + Y) * st + w < (joinL vs 0).length := by rw [hlv]; exact place_lt9 (place_lt9 hU hY) hw
    rw [turnL_at hlt, hps, hj, hlz, hjv]
    have hsw9 : swapU n k = swapU (M.length + B.length + 2) (M.length + 1) := by rw [hnB, hkM]
    rw [hsw9, tr_swap hdv (by omega) hp hst hix hmp hY hw, hc', hP3, hst2]
    have hR : (m * x + i) * st + w < p * x * st := place_lt9 (place_lt9 hmp hix) hw
    have hpos : ((Y * p + m) * x + i) * st + w = (0 * lenJ (partsJ vs 0) + Y) * (p * x * st) + ((m * x + i) * st + w) := by grind
    rw [hpos, catJ_at (by omega) (by rw [hlen]; exact hY) hR, h.rows hnB hkM hn4 hp hst hmp hix hw hxs, hc, hP2]
    rw [hKT] at hY ⊢
    rw [catJ_at hU hY hw]

/-- What is joined along the first direction stands one behind the other. -/
theorem join_flat {us : List Tn} (h : jnE us ((0 : Nat) : Int) = 0) (hl : ∀ t ∈ us, t.l.length = t.m) : joinL us 0 = (us.map Tn.l).flatten := by
  obtain ⟨P, st, hf⟩ := jn_facts h
  have hc := joinL_cat hf
  obtain ⟨_, s1, hP, _, _, _, _, _, hall⟩ := hf
  have hP1 : P = 1 := by
    have : prodZ ((jnS0 us).take 0) = 1 := rfl
    omega
  subst hP1
  rw [hc, catJ_flat s1 _ (fun p hp => ?_)]
  · congr 1
    simp [partsJ]
  · obtain ⟨t, ht, rfl⟩ := List.mem_map.1 hp
    dsimp only
    rw [hl t ht, (hall t ht).2.2.1, Nat.one_mul]

end Go.Proofs.Ytomhbhhfbbdilaa
