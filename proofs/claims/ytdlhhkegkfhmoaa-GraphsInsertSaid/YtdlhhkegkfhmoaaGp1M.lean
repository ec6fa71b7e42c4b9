/- The shapes of a graph, as plain lists: which node fits, all shapes, a beginning of a graph. -/
import Derived.Test.YtdlhhkegkfhmoaaGr11M
namespace Go.Proofs.Ytdlhhkegkfhmoaa
open Go.RowKit
set_option linter.unusedVariables false
set_option linter.unusedSimpArgs false
set_option maxRecDepth 100000

/-- The shape of the j-th node that is taken in. -/
def knL (ss : List (List Int)) (xs : List Int) (j : Nat) : List Int := match ss[(xs.getD j 0).toNat]? with
  | some s => s
  | none => []

theorem kn_map (gs : List Sg) (xs : List Int) : kn gs xs = knL (gs.map Sg.s) xs := by
  funext j
  rw [kn, knL, List.getElem?_map]
  cases gs[(xs.getD j 0).toNat]? <;> rfl

/-- Does a node fit behind nodes of these shapes? -/
def fitN (x : Nd) (ss : List (List Int)) : Bool := decide (1 ≤ x.kd ∧ x.kd ≤ 13) && alw (rlT x.kd.toNat) x && allKn x.xs ss.length && decide (nodeE x (knL ss x.xs) x.kd.toNat = 0)

/-- Its shape. -/
def shN (x : Nd) (ss : List (List Int)) : List Int := nodeS x (knL ss x.xs) x.kd.toNat

/-- The shapes of all nodes behind those. -/
def allSh : List Nd → List (List Int) → Option (List (List Int))
  | [], ss => some ss
  | x :: r, ss => if fitN x ss = true then allSh r (ss ++ [shN x ss]) else none

/-- The error of a graph, its shapes. -/
def gphB (ns : List Nd) : Bool := endsOk ns && (allSh ns []).isSome

def gphE (ns : List Nd) : Int := if gphB ns = true then 0 else 1

def gphS (ns : List Nd) : List (List Int) := if gphB ns = true then (allSh ns []).getD [] else []

theorem fitN_parts {x : Nd} {ss : List (List Int)} (h : fitN x ss = true) : (1 ≤ x.kd ∧ x.kd ≤ 13) ∧ alw (rlT x.kd.toNat) x = true ∧ allKn x.xs ss.length = true ∧ nodeE x (knL ss x.xs) x.kd.toNat = 0 := by
  simp only [fitN, Bool.and_eq_true, decide_eq_true_eq] at h
  exact ⟨h.1.1.1, h.1.1.2, h.1.2, h.2⟩

theorem fitN_mk {x : Nd} {ss : List (List Int)} (h1 : 1 ≤ x.kd ∧ x.kd ≤ 13) (h2 : alw (rlT x.kd.toNat) x = true) (h3 : allKn x.xs ss.length = true) (h4 : nodeE x (knL ss x.xs) x.kd.toNat = 0) : fitN x ss = true := by
  simp only [fitN, Bool.and_eq_true, decide_eq_true_eq]
  exact ⟨⟨⟨h1, h2⟩, h3⟩, h4⟩

theorem allSh_append : ∀ (a b : List Nd) (ss : List (List Int)), allSh (a ++ b) ss = (allSh a ss).bind (allSh b)
  | [], b, ss => rfl
  | x :: r, b, ss => by
    rw [List.cons_append, allSh, allSh]
    split
    · exact allSh_append r b _
    · rfl

theorem allSh_ext : ∀ (a : List Nd) (ss ts : List (List Int)), allSh a ss = some ts → ∃ us, ts = ss ++ us ∧ us.length = a.length
  | [], ss, ts, h => ⟨[], by rw [allSh] at h; cases h; simp, rfl⟩
  | x :: r, ss, ts, h => by
    rw [allSh] at h
    split at h
    · obtain ⟨us, e, hl⟩ := allSh_ext r _ _ h
      exact ⟨shN x ss :: us, by rw [e]; simp, by simp [hl]⟩
    · cases h

theorem allSh_len {a : List Nd} {ts : List (List Int)} (h : allSh a [] = some ts) : ts.length = a.length := by
  obtain ⟨us, e, hl⟩ := allSh_ext a [] ts h
  rw [e, List.nil_append, hl]

/-- A beginning of a graph has a beginning of its shapes. -/
theorem allSh_take {a : List Nd} {ts : List (List Int)} (h : allSh a [] = some ts) (k : Nat) (hk : k ≤ a.length) : allSh (a.take k) [] = some (ts.take k) := by
  rw [← List.take_append_drop k a, allSh_append] at h
  cases h2 : allSh (a.take k) [] with
  | none => rw [h2] at h; cases h
  | some us =>
    rw [h2] at h
    obtain ⟨vs, e, _⟩ := allSh_ext _ _ _ (show allSh (a.drop k) us = some ts from h)
    have hl := allSh_len h2
    rw [List.length_take, Nat.min_eq_left hk] at hl
    rw [e, List.take_left' hl]

theorem gphB_parts {ns : List Nd} (h : gphB ns = true) : endsOk ns = true ∧ ∃ ss, allSh ns [] = some ss ∧ gphS ns = ss := by
  have h0 := h
  simp only [gphB, Bool.and_eq_true] at h
  obtain ⟨ss, hs⟩ := Option.isSome_iff_exists.1 h.2
  exact ⟨h.1, ss, hs, by rw [gphS, if_pos h0, hs]; rfl⟩

theorem gphB_mk {ns : List Nd} {ss : List (List Int)} (h1 : endsOk ns = true) (h2 : allSh ns [] = some ss) : gphB ns = true := by
  simp only [gphB, h1, h2]; rfl

theorem gphE_zero {ns : List Nd} : gphE ns = 0 ↔ gphB ns = true := by
  rw [gphE]
  split <;> simp [*]

theorem gphE_cases (ns : List Nd) : gphE ns = 0 ∨ gphE ns = 1 := by
  rw [gphE]
  split <;> simp

theorem gphS_no {ns : List Nd} (h : gphB ns = false) : gphS ns = [] := by rw [gphS, h]; rfl

theorem endsOk_parts {ns : List Nd} (h : endsOk ns = true) : ns.length ≤ 32 ∧ 0 ≤ inIx ns ∧ inIx (ns.drop ((inIx ns).toNat + 1)) < 0 ∧ lastOk ns = true := by
  simp only [endsOk, Bool.and_eq_true, Bool.not_eq_true', decide_eq_true_eq, decide_eq_false_iff_not] at h
  exact ⟨h.1.1.1, h.1.1.2, by omega, h.2⟩

theorem endsOk_mk {ns : List Nd} (h1 : ns.length ≤ 32) (h2 : 0 ≤ inIx ns) (h3 : inIx (ns.drop ((inIx ns).toNat + 1)) < 0) (h4 : lastOk ns = true) : endsOk ns = true := by
  simp only [endsOk, Bool.and_eq_true, Bool.not_eq_true', decide_eq_true_eq, decide_eq_false_iff_not]
  exact ⟨⟨⟨h1, h2⟩, by omega⟩, h4⟩

/-- The shapes of what is taken in are shapes. -/
theorem knL_pos {ss : List (List Int)} {xs : List Int} (h : ∀ s ∈ ss, 0 < sizeI s) (hal : allKn xs ss.length = true) (j : Nat) (hj : j < xs.length) : 0 < sizeI (knL ss xs j) := by
  have hx := List.all_eq_true.1 hal (xs[j]) (List.getElem_mem hj)
  simp only [Bool.and_eq_true, decide_eq_true_eq] at hx
  have e : xs.getD j 0 = xs[j] := by simp [List.getD, hj]
  obtain ⟨i, hi⟩ := Int.eq_ofNat_of_zero_le hx.1
  have hin : i < ss.length := by omega
  rw [knL, e, hi, Int.toNat_natCast, List.getElem?_eq_getElem hin]
  exact h _ (List.getElem_mem hin)

theorem shN_pos {x : Nd} {ss : List (List Int)} (h : ∀ s ∈ ss, 0 < sizeI s) (hf : fitN x ss = true) : 0 < sizeI (shN x ss) := by
  obtain ⟨h1, h2, h3, h4⟩ := fitN_parts hf
  exact nodeS_pos (by omega) (by omega) h2 (fun j hj => knL_pos h h3 j hj) h4

theorem allSh_pos : ∀ (a : List Nd) (ss ts : List (List Int)), (∀ s ∈ ss, 0 < sizeI s) → allSh a ss = some ts → ∀ s ∈ ts, 0 < sizeI s
  | [], ss, ts, h, e => by rw [allSh] at e; cases e; exact h
  | x :: r, ss, ts, h, e => by
    rw [allSh] at e
    split at e
    · next hf =>
      refine allSh_pos r _ ts (fun s hs => ?_) e
      rcases List.mem_append.1 hs with hs | hs
      · exact h s hs
      · rw [List.mem_singleton.1 hs]; exact shN_pos h hf
    · cases e

theorem gphS_pos (ns : List Nd) : ∀ s ∈ gphS ns, 0 < sizeI s := by
  cases h : gphB ns with
  | false => rw [gphS_no h]; intro s hs; cases hs
  | true =>
    obtain ⟨_, ss, hs, e⟩ := gphB_parts h
    rw [e]
    exact allSh_pos ns [] ss (fun s hs => by cases hs) hs

theorem gphS_len {ns : List Nd} (h : gphB ns = true) : (gphS ns).length = ns.length := by
  obtain ⟨_, ss, hs, e⟩ := gphB_parts h
  rw [e]
  exact allSh_len hs

theorem lastOk_at {ns : List Nd} {x : Nd} (h : ns[ns.length - 1]? = some x) : lastOk ns = (!(x.kd == 1) && (x.kd != 2)) := by rw [lastOk, h]

/-- Where the first input is, of a beginning. -/
theorem inIx_take : ∀ (ns : List Nd) (k : Nat), inIx (ns.take k) = if 0 ≤ inIx ns ∧ inIx ns < (k : Int) then inIx ns else -1
  | [], k => by simp [inIx]
  | x :: r, 0 => by
    have := inIx_ge (x :: r)
    rw [List.take_zero, if_neg (by omega)]; rfl
  | x :: r, k + 1 => by
    have ih := inIx_take r k
    have h2 := inIx_ge r
    rw [List.take_succ_cons, inIx, inIx]
    by_cases hx : x.kd = 1
    · rw [if_pos hx, if_pos hx, if_pos (by omega)]
    · rw [if_neg hx, if_neg hx]
      by_cases h3 : inIx r = -1
      · rw [h3] at ih
        rw [if_neg (by omega)] at ih
        simp [ih, h3]
      · rw [if_neg h3]
        by_cases h4 : inIx r < (k : Int)
        · rw [if_pos (by omega)] at ih
          rw [ih, if_neg h3, if_pos (by omega)]
        · rw [if_neg (by omega)] at ih
          rw [ih, if_pos rfl, if_neg (by omega)]

/-- A node in which nothing but a weight takes the first place. -/
theorem inIx_kd : ∀ (ns : List Nd) (j : Nat), inIx ns = (j : Int) → ∃ x, ns[j]? = some x ∧ x.kd = 1
  | [], j, h => by rw [inIx] at h; omega
  | x :: r, j, h => by
    rw [inIx] at h
    by_cases hx : x.kd = 1
    · rw [if_pos hx] at h
      obtain rfl : j = 0 := by omega
      exact ⟨x, rfl, hx⟩
    · rw [if_neg hx] at h
      by_cases h2 : inIx r = -1
      · rw [if_pos h2] at h; omega
      · rw [if_neg h2] at h
        have h3 := inIx_ge r
        obtain ⟨i, hi⟩ := Int.eq_ofNat_of_zero_le (show 0 ≤ inIx r by omega)
        obtain ⟨y, hy, hk⟩ := inIx_kd r i hi
        obtain rfl : j = i + 1 := by omega
        exact ⟨y, by simpa using hy, hk⟩

theorem inIx_neg : ∀ (ns : List Nd), inIx ns = -1 → ∀ x ∈ ns, x.kd ≠ 1
  | [], _, x, hx => by cases hx
  | y :: r, h, x, hx => by
    rw [inIx] at h
    have h3 := inIx_ge r
    by_cases hy : y.kd = 1
    · rw [if_pos hy] at h; omega
    · rw [if_neg hy] at h
      by_cases h2 : inIx r = -1
      · rcases List.mem_cons.1 hx with rfl | hx
        · exact hy
        · exact inIx_neg r h2 x hx
      · rw [if_neg h2] at h; omega

/-- A beginning of a graph that may be. -/
theorem gph_take {ns : List Nd} {k : Nat} {x : Nd} (h : gphB ns = true) (hk1 : 1 ≤ k) (hk : k ≤ ns.length) (hin : inIx ns < (k : Int)) (hx : ns[k - 1]? = some x) (h1 : x.kd ≠ 1) (h2 : x.kd ≠ 2) : gphB (ns.take k) = true ∧ gphS (ns.take k) = (gphS ns).take k := by
  obtain ⟨he, ss, hs, e⟩ := gphB_parts h
  obtain ⟨e1, e2, e3, e4⟩ := endsOk_parts he
  have hl : (ns.take k).length = k := by rw [List.length_take]; omega
  have hi := inIx_take ns k
  rw [if_pos ⟨e2, hin⟩] at hi
  have hb : gphB (ns.take k) = true := by
    refine gphB_mk (endsOk_mk (by omega) (by omega) ?_ ?_) (allSh_take hs k hk)
    · rw [hi, List.drop_take, inIx_take]
      rw [if_neg (by omega)]
      omega
    · rw [lastOk_at (x := x) (by rw [hl, List.getElem?_take, if_pos (by omega)]; exact hx)]
      simp [h1, h2]
  refine ⟨hb, ?_⟩
  obtain ⟨_, ts, ht, et⟩ := gphB_parts hb
  rw [allSh_take hs k hk] at ht
  cases ht
  rw [et, e]

end Go.Proofs.Ytdlhhkegkfhmoaa
