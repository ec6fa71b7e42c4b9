/- A weight more ahead of a node, as plain lists. -/
import Derived.Test.YtdlhhkegkfhmoaaGp3M
namespace Go.Proofs.Ytdlhhkegkfhmoaa
open Go.RowKit
set_option linter.unusedVariables false
set_option linter.unusedSimpArgs false
set_option maxRecDepth 100000

/-- One further on, from k on. -/
def upK (k : Nat) (z : Int) : Int := if (k : Int) ≤ z then z + 1 else z

def sxK (k : Nat) (x : Nd) : Nd := { x with xs := x.xs.map (upK k) }

def insL {α : Type} (us : List α) (k : Nat) (s : α) : List α := us.take k ++ s :: us.drop k

theorem jA_congr {K K' : Nat → List Int} {d : Nat} : ∀ n, (∀ j, j ≤ n → K j = K' j) → jA K d n = jA K' d n
  | 0, h => by rw [jA, jA, h 0 (Nat.le_refl _)]
  | n + 1, h => by rw [jA, jA, jA_congr n (fun j hj => h j (by omega)), h (n + 1) (Nat.le_refl _)]

theorem jE_congr {K K' : Nat → List Int} {m : Nat} (hm : 1 ≤ m) (h : ∀ j, j < m → K j = K' j) (d : Int) : jE K m d = jE K' m d ∧ jS K m d = jS K' m d := by
  have h0 := h 0 (by omega)
  have hA : ∀ d', jAll K d' (m - 1) = jAll K' d' (m - 1) := fun d' => by
    rw [jAll, jAll, Bool.eq_iff_iff, List.all_eq_true, List.all_eq_true]
    constructor
    · intro hh j hj
      have h1 := h (j + 1) (by have := List.mem_range.1 hj; omega)
      rw [← h1, ← h0]; exact hh j hj
    · intro hh j hj
      have h1 := h (j + 1) (by have := List.mem_range.1 hj; omega)
      rw [h1, h0]; exact hh j hj
  have hZ : ∀ d', jZ K d' (m - 1) = jZ K' d' (m - 1) := fun d' => by rw [jZ, jZ, h0, jA_congr (m - 1) (fun j hj => h j (by omega))]
  have hE : jE K m d = jE K' m d := by rw [jE, jE, h0, hA, hZ]
  exact ⟨hE, by rw [jS, jS, hE, hZ]⟩

/-- A node's shape hangs on the shapes of what it takes in alone. -/
theorem node_congr {x y : Nd} {K K' : Nat → List Int} {d : Nat} (h1 : 1 ≤ d) (h13 : d ≤ 13) (ha : alw (rlT d) x = true) (hl : y.xs.length = x.xs.length) (hN : y.N = x.N) (hP : y.P = x.P) (hs : y.sh = x.sh) (h : ∀ j, j < x.xs.length → K' j = K j) : nodeE y K' d = nodeE x K d ∧ nodeS y K' d = nodeS x K d := by
  obtain ⟨ha1, _⟩ := alw_parts ha
  match d, h1, h13 with
  | 1, _, _ => exact ⟨rfl, hs⟩
  | 2, _, _ => exact ⟨rfl, hs⟩
  | 3, _, _ => simp only [rlT] at ha1; have q0 := h 0 (by omega); have q1 := h 1 (by omega); simp only [nodeE, nodeS, q0, q1, and_self]
  | 4, _, _ => simp only [rlT] at ha1; have q0 := h 0 (by omega); have q1 := h 1 (by omega); simp only [nodeE, nodeS, q0, q1, and_self]
  | 5, _, _ => simp only [rlT] at ha1; have q0 := h 0 (by omega); simp only [nodeE, nodeS, q0, and_self]
  | 6, _, _ => simp only [rlT] at ha1; have q0 := h 0 (by omega); simp only [nodeE, nodeS, q0, and_self]
  | 7, _, _ => simp only [rlT] at ha1; have q0 := h 0 (by omega); have q1 := h 1 (by omega); simp only [nodeE, nodeS, q0, q1, and_self]
  | 8, _, _ => simp only [rlT] at ha1; have q0 := h 0 (by omega); have q1 := h 1 (by omega); simp only [nodeE, nodeS, q0, q1, hN, hP, and_self]
  | 9, _, _ => simp only [rlT] at ha1; have q0 := h 0 (by omega); simp only [nodeE, nodeS, q0, hN, and_self]
  | 10, _, _ => simp only [rlT] at ha1; have q0 := h 0 (by omega); simp only [nodeE, nodeS, q0, hs, and_self]
  | 11, _, _ => simp only [rlT] at ha1; have q0 := h 0 (by omega); simp only [nodeE, nodeS, q0, hs, and_self]
  | 12, _, _ => simp only [rlT] at ha1; simp only [nodeE, nodeS, hN, hl]; exact jE_congr (by omega) (fun j hj => h j (by omega)) x.N
  | 13, _, _ => simp only [rlT] at ha1; have q0 := h 0 (by omega); simp only [nodeE, nodeS, q0, hN, and_self]

theorem insL_at {α : Type} {us : List α} {k i : Nat} {s : α} (hk : k ≤ us.length) (hi : i < us.length) : (insL us k s)[if k ≤ i then i + 1 else i]? = us[i]? := by
  have hl : (us.take k).length = k := by rw [List.length_take]; omega
  rw [insL]
  by_cases h : k ≤ i
  · rw [if_pos h, List.getElem?_append_right (by omega), hl, show i + 1 - k = (i - k) + 1 by omega, List.getElem?_cons_succ, List.getElem?_drop]
    congr 1
    omega
  · rw [if_neg h, List.getElem?_append_left (by omega), List.getElem?_take, if_pos (by omega)]

theorem knL_ins {us : List (List Int)} {xs : List Int} {k j : Nat} {s : List Int} (hk : k ≤ us.length) (hal : allKn xs us.length = true) (hj : j < xs.length) : knL (insL us k s) (xs.map (upK k)) j = knL us xs j := by
  have hx := List.all_eq_true.1 hal (xs[j]) (List.getElem_mem hj)
  simp only [Bool.and_eq_true, decide_eq_true_eq] at hx
  obtain ⟨i, hi⟩ := Int.eq_ofNat_of_zero_le hx.1
  have hin : i < us.length := by omega
  have e : xs.getD j 0 = (i : Int) := by rw [← hi]; simp [List.getD, hj]
  have e2 : (xs.map (upK k)).getD j 0 = ((if k ≤ i then i + 1 else i : Nat) : Int) := by
    have : (xs.map (upK k)).getD j 0 = upK k xs[j] := by simp [List.getD, hj]
    rw [this, hi, upK]
    by_cases h : k ≤ i
    · rw [if_pos (by omega), if_pos h]; omega
    · rw [if_neg (by omega), if_neg h]
  rw [knL, knL, e, e2, Int.toNat_natCast, Int.toNat_natCast, insL_at hk hin]

theorem insL_len {α : Type} {us : List α} {k : Nat} {s : α} (hk : k ≤ us.length) : (insL us k s).length = us.length + 1 := by
  simp [insL]; omega

theorem fit_ins {x : Nd} {us : List (List Int)} {k : Nat} {s : List Int} (hk : k ≤ us.length) (h : fitN x us = true) : fitN (sxK k x) (insL us k s) = true ∧ shN (sxK k x) (insL us k s) = shN x us := by
  obtain ⟨h1, h2, h3, h4⟩ := fitN_parts h
  have hl : (sxK k x).xs.length = x.xs.length := List.length_map _
  obtain ⟨c1, c2⟩ := node_congr (y := sxK k x) (K := knL us x.xs) (K' := knL (insL us k s) (sxK k x).xs) (by omega) (by omega) h2 hl rfl rfl rfl (fun j hj => knL_ins hk h3 hj)
  refine ⟨fitN_mk h1 ?_ ?_ (c1.trans h4), c2⟩
  · simp only [alw, hl] at h2 ⊢; exact h2
  · refine List.all_eq_true.2 fun z hz => ?_
    obtain ⟨y, hy, rfl⟩ := List.mem_map.1 hz
    have hx := List.all_eq_true.1 h3 y hy
    simp only [Bool.and_eq_true, decide_eq_true_eq] at hx ⊢
    rw [insL_len hk, upK]
    split <;> omega

theorem allSh_ins : ∀ (r : List Nd) (us ts : List (List Int)) (k : Nat) (s : List Int), k ≤ us.length → allSh r us = some ts → allSh (r.map (sxK k)) (insL us k s) = some (insL ts k s)
  | [], us, ts, k, s, hk, h => by rw [allSh] at h; cases h; rfl
  | x :: r, us, ts, k, s, hk, h => by
    rw [allSh] at h
    split at h
    · next hf =>
      obtain ⟨f1, f2⟩ := fit_ins (s := s) hk hf
      rw [List.map_cons, allSh, if_pos f1, f2]
      have e : insL us k s ++ [shN x us] = insL (us ++ [shN x us]) k s := by
        rw [insL, insL, List.take_append_of_le_length hk, List.drop_append_of_le_length hk]
        simp
      rw [e]
      exact allSh_ins r _ ts k s (by simp; omega) h
    · cases h

/-- How many nodes of a kind there are. -/
def ctN (d : Int) : List Nd → Nat
  | [] => 0
  | x :: r => (if x.kd = d then 1 else 0) + ctN d r

theorem ctN_append (d : Int) : ∀ a b : List Nd, ctN d (a ++ b) = ctN d a + ctN d b
  | [], b => by simp [ctN]
  | x :: r, b => by rw [List.cons_append, ctN, ctN, ctN_append d r b]; omega

theorem ctN_map (d : Int) (k : Nat) : ∀ a : List Nd, ctN d (a.map (sxK k)) = ctN d a
  | [] => rfl
  | x :: r => by rw [List.map_cons, ctN, ctN, ctN_map d k r]; rfl

theorem wt_ct : ∀ (i : Nat) (ns : List Nd), (wtF i ns).length = ctN 2 ns
  | _, [] => rfl
  | i, x :: r => by
    rw [wtF, ctN]
    by_cases h : x.kd = 2
    · rw [if_pos h, if_pos h, List.length_cons, wt_ct (i + 1) r]; omega
    · rw [if_neg h, if_neg h, wt_ct (i + 1) r]; omega

theorem in_ct0 : ∀ ns : List Nd, inIx ns < 0 ↔ ctN 1 ns = 0
  | [] => by simp [inIx, ctN]
  | x :: r => by
    have ih := in_ct0 r
    have h2 := inIx_ge r
    rw [inIx, ctN]
    by_cases h : x.kd = 1
    · rw [if_pos h, if_pos h]; omega
    · rw [if_neg h, if_neg h]
      by_cases h3 : inIx r = -1
      · rw [if_pos h3]; omega
      · rw [if_neg h3]; omega

theorem in_ct1 : ∀ ns : List Nd, (0 ≤ inIx ns ∧ inIx (ns.drop ((inIx ns).toNat + 1)) < 0) ↔ ctN 1 ns = 1
  | [] => by simp [inIx, ctN]
  | x :: r => by
    have ih := in_ct1 r
    have h0 := in_ct0 r
    have h2 := inIx_ge r
    rw [inIx, ctN]
    by_cases h : x.kd = 1
    · rw [if_pos h, if_pos h]
      simp only [Int.toNat_zero, Nat.zero_add, List.drop_succ_cons, List.drop_zero]
      omega
    · rw [if_neg h, if_neg h]
      by_cases h3 : inIx r = -1
      · rw [if_pos h3]; omega
      · rw [if_neg h3, Int.toNat_add (by omega) (by omega), show (inIx r).toNat + Int.toNat 1 + 1 = ((inIx r).toNat + 1) + 1 from rfl, List.drop_succ_cons]
        constructor
        · intro hh; have := ih.1 ⟨by omega, hh.2⟩; omega
        · intro hh; have := ih.2 (by omega); omega

theorem fit_weight {y : Nd} (h1 : y.kd = 2) (h2 : y.xs = []) (h3 : y.N = 0) (h4 : y.P = 0) (ss : List (List Int)) : fitN y ss = decide (0 < sizeI y.sh) ∧ shN y ss = y.sh := by
  have e : (2 : Int).toNat = 2 := rfl
  constructor
  · rw [fitN, h1, e]
    simp [alw, rlT, lOk, allKn, nodeE, h2, h3, h4]
  · rw [shN, h1, e]; rfl

/-- A weight more ahead of the k-th node. -/
theorem gph_ins {ns : List Nd} {k : Nat} {y : Nd} (hb : gphB ns = true) (h31 : ns.length ≤ 31) (hk : k < ns.length) (h1 : y.kd = 2) (h2 : y.xs = []) (h3 : y.N = 0) (h4 : y.P = 0) :
    gphB (ns.take k ++ y :: (ns.drop k).map (sxK k)) = decide (0 < sizeI y.sh) ∧ (0 < sizeI y.sh → gphS (ns.take k ++ y :: (ns.drop k).map (sxK k)) = insL (gphS ns) k y.sh) := by
  obtain ⟨he, ss, hs, e⟩ := gphB_parts hb
  obtain ⟨e1, e2, e3, e4⟩ := endsOk_parts he
  obtain ⟨f1, f2⟩ := fit_weight h1 h2 h3 h4 (ss.take k)
  have hsl := allSh_len hs
  have hall : allSh (ns.take k ++ y :: (ns.drop k).map (sxK k)) [] = if 0 < sizeI y.sh then some (insL ss k y.sh) else none := by
    rw [allSh_append, allSh_take hs k (by omega)]
    show allSh (y :: (ns.drop k).map (sxK k)) (ss.take k) = _
    rw [allSh, f1, f2]
    by_cases hz : 0 < sizeI y.sh
    · rw [if_pos (decide_eq_true hz), if_pos hz]
      have hd : allSh (ns.drop k) (ss.take k) = some ss := by
        have h := hs
        rw [← List.take_append_drop k ns, allSh_append, allSh_take hs k (by omega)] at h
        exact h
      have hi := allSh_ins (ns.drop k) (ss.take k) ss k y.sh (by rw [List.length_take]; omega) hd
      have e9 : insL (ss.take k) k y.sh = ss.take k ++ [y.sh] := by
        rw [insL, List.take_of_length_le (by rw [List.length_take]; omega), List.drop_of_length_le (by rw [List.length_take]; omega)]
      rw [e9] at hi
      exact hi
    · rw [if_neg hz, decide_eq_false hz]; rfl
  have hends : endsOk (ns.take k ++ y :: (ns.drop k).map (sxK k)) = true := by
    have hc : ctN 1 (ns.take k ++ y :: (ns.drop k).map (sxK k)) = 1 := by
      rw [ctN_append, ctN, ctN_map, h1, if_neg (by omega), Nat.zero_add, ← ctN_append, List.take_append_drop]
      exact (in_ct1 ns).1 ⟨e2, e3⟩
    obtain ⟨c1, c2⟩ := (in_ct1 _).2 hc
    refine endsOk_mk (by simp; omega) c1 c2 ?_
    have hla : ∃ x, ns[ns.length - 1]? = some x := ⟨ns[ns.length - 1]'(by omega), List.getElem?_eq_getElem (by omega)⟩
    obtain ⟨x, hx⟩ := hla
    rw [lastOk_at hx] at e4
    have hl2 : (ns.take k ++ y :: (ns.drop k).map (sxK k)).length = ns.length + 1 := by simp; omega
    rw [lastOk_at (x := sxK k x) ?_]
    · exact e4
    · rw [hl2, List.getElem?_append_right (by rw [List.length_take]; omega), List.length_take, Nat.min_eq_left (by omega), show ns.length + 1 - 1 - k = (ns.length - 1 - k) + 1 by omega, List.getElem?_cons_succ, List.getElem?_map, List.getElem?_drop, show k + (ns.length - 1 - k) = ns.length - 1 by omega, hx]
      rfl
  refine ⟨?_, fun hz => ?_⟩
  · rw [gphB, hends, hall]
    by_cases hz : 0 < sizeI y.sh
    · rw [if_pos hz, decide_eq_true hz]; rfl
    · rw [if_neg hz, decide_eq_false hz]; rfl
  · rw [gphS, if_pos (by rw [gphB, hends, hall, if_pos hz]; rfl), hall, if_pos hz, e]
    rfl

theorem wt_ins {ns : List Nd} {k : Nat} {y : Nd} (h1 : y.kd = 2) : (wtF 0 (ns.take k ++ y :: (ns.drop k).map (sxK k))).length = (wtF 0 ns).length + 1 := by
  rw [wt_ct, wt_ct, ctN_append, ctN, ctN_map, h1, if_pos rfl]
  have h := ctN_append 2 (ns.take k) (ns.drop k)
  rw [List.take_append_drop] at h
  omega

end Go.Proofs.Ytdlhhkegkfhmoaa
