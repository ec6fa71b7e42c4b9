/- Which nodes a graph has, as plain lists: inputs, weights, each node that fits. -/
import Derived.Test.YtdlhhkegkfhmoaaGr12M
namespace Go.Proofs.Ytdlhhkegkfhmoaa
open Go.RowKit
set_option linter.unusedVariables false
set_option linter.unusedSimpArgs false
set_option maxRecDepth 100000

theorem inIx_snoc : ∀ (us : List Nd) (x : Nd), inIx (us ++ [x]) = if inIx us = -1 then (if x.kd = 1 then (us.length : Int) else -1) else inIx us
  | [], x => by
    simp only [List.nil_append, inIx, List.length_nil]
    by_cases hx : x.kd = 1 <;> simp [hx]
  | y :: r, x => by
    have ih := inIx_snoc r x
    have h2 := inIx_ge r
    rw [List.cons_append, inIx, inIx]
    by_cases hy : y.kd = 1
    · rw [if_pos hy, if_pos hy, if_neg (by omega)]
    · rw [if_neg hy, if_neg hy, ih]
      by_cases h3 : inIx r = -1
      · rw [if_pos h3, if_pos h3, if_pos rfl]
        by_cases hx : x.kd = 1
        · rw [if_pos hx, if_pos hx, if_neg (by omega), List.length_cons]; omega
        · rw [if_neg hx, if_neg hx, if_pos rfl]
      · rw [if_neg h3, if_neg h3, if_neg (by omega)]

theorem wtF_append : ∀ (i : Nat) (a b : List Nd), wtF i (a ++ b) = wtF i a ++ wtF (i + a.length) b
  | i, [], b => by simp [wtF]
  | i, y :: r, b => by
    rw [List.cons_append, wtF, wtF, wtF_append (i + 1) r b, List.length_cons, show i + 1 + r.length = i + (r.length + 1) by omega]
    split <;> simp

/-- Where a weight stands among the weights. -/
theorem wt_at {ns : List Nd} {k : Nat} {x : Nd} (h : ns[k]? = some x) (hx : x.kd = 2) : (wtF 0 (ns.take k)).length < (wtF 0 ns).length ∧ (wtF 0 ns).getD (wtF 0 (ns.take k)).length 0 = (k : Int) := by
  obtain ⟨hl, he⟩ := List.getElem?_eq_some_iff.1 h
  have e : ns.drop k = x :: ns.drop (k + 1) := by rw [List.drop_eq_getElem_cons hl, he]
  have h1 : wtF 0 ns = wtF 0 (ns.take k) ++ ((k : Int) :: wtF (k + 1) (ns.drop (k + 1))) := by
    have h2 := wtF_append 0 (ns.take k) (ns.drop k)
    rw [List.take_append_drop, e, wtF, if_pos hx, List.length_take, Nat.min_eq_left (by omega), Nat.zero_add] at h2
    exact h2
  rw [h1]
  refine ⟨by simp, ?_⟩
  simp [List.getD]

theorem wt_snoc {ns : List Nd} {k : Nat} {x : Nd} (h : ns[k]? = some x) : (wtF 0 (ns.take (k + 1))).length = (wtF 0 (ns.take k)).length + (if x.kd = 2 then 1 else 0) := by
  rw [take_oneN h, wtF_snoc]
  split <;> simp

theorem in_snoc {ns : List Nd} {k : Nat} {x : Nd} (h : ns[k]? = some x) : inIx (ns.take (k + 1)) = if inIx (ns.take k) = -1 then (if x.kd = 1 then (k : Int) else -1) else inIx (ns.take k) := by
  have hl := (List.getElem?_eq_some_iff.1 h).1
  rw [take_oneN h, inIx_snoc, List.length_take, Nat.min_eq_left (by omega)]

/-- One input alone. -/
theorem may_input {ns : List Nd} {k : Nat} {x : Nd} (hb : gphB ns = true) (h : ns[k]? = some x) (hx : x.kd = 1) : inIx (ns.take k) = -1 := by
  obtain ⟨he, _⟩ := gphB_parts hb
  obtain ⟨e1, e2, e3, e4⟩ := endsOk_parts he
  rw [inIx_take]
  by_cases hf : inIx ns < (k : Int)
  · exfalso
    have h3 := inIx_ge (ns.drop ((inIx ns).toNat + 1))
    have h4 : inIx (ns.drop ((inIx ns).toNat + 1)) = -1 := by omega
    refine inIx_neg _ h4 x (List.mem_of_getElem? (i := k - ((inIx ns).toNat + 1)) ?_) hx
    rw [List.getElem?_drop, show (inIx ns).toNat + 1 + (k - ((inIx ns).toNat + 1)) = k by omega]
    exact h
  · rw [if_neg (by omega)]

/-- Each node of a graph that may be fits. -/
theorem allSh_fit {ns : List Nd} {ts : List (List Int)} {k : Nat} {x : Nd} (h : allSh ns [] = some ts) (hx : ns[k]? = some x) : fitN x (ts.take k) = true ∧ ts[k]? = some (shN x (ts.take k)) := by
  have hl := (List.getElem?_eq_some_iff.1 hx).1
  have h1 := allSh_take h k (by omega)
  have hf : fitN x (ts.take k) = true := by
    cases hf : fitN x (ts.take k) with
    | true => rfl
    | false => rw [allSh_stop h1 hx hf] at h; cases h
  refine ⟨hf, ?_⟩
  have h2 := allSh_take h (k + 1) (by omega)
  rw [allSh_next h1 hx hf] at h2
  injection h2 with h2
  have hlt := allSh_len h
  have h3 : (ts.take (k + 1))[k]? = ts[k]? := by rw [List.getElem?_take, if_pos (by omega)]
  rw [← h3, ← h2, List.getElem?_append_right (by rw [List.length_take]; omega), List.length_take, Nat.min_eq_left (by omega), Nat.sub_self]
  rfl

theorem may_fit {ns : List Nd} {k : Nat} {x : Nd} (hb : gphB ns = true) (hx : ns[k]? = some x) : fitN x ((gphS ns).take k) = true ∧ (gphS ns)[k]? = some (shN x ((gphS ns).take k)) := by
  obtain ⟨_, ss, hs, e⟩ := gphB_parts hb
  rw [e]
  exact allSh_fit hs hx

theorem fit_none {x : Nd} {ss : List (List Int)} (h : fitN x ss = true) : x.xs.length = 0 ↔ (x.kd = 2 ∨ x.kd = 1) := by
  obtain ⟨h1, h2, _, _⟩ := fitN_parts h
  obtain ⟨h3, _⟩ := alw_parts h2
  obtain ⟨d, hd⟩ := Int.eq_ofNat_of_zero_le (show 0 ≤ x.kd by omega)
  rw [hd, Int.toNat_natCast] at h3
  rw [hd]
  rw [hd] at h1
  have h1' : 1 ≤ d ∧ d ≤ 13 := by omega
  clear h1 h2 hd
  match d, h1' with
  | 1, _ => simp only [rlT] at h3; omega
  | 2, _ => simp only [rlT] at h3; omega
  | 3, _ => simp only [rlT] at h3; omega
  | 4, _ => simp only [rlT] at h3; omega
  | 5, _ => simp only [rlT] at h3; omega
  | 6, _ => simp only [rlT] at h3; omega
  | 7, _ => simp only [rlT] at h3; omega
  | 8, _ => simp only [rlT] at h3; omega
  | 9, _ => simp only [rlT] at h3; omega
  | 10, _ => simp only [rlT] at h3; omega
  | 11, _ => simp only [rlT] at h3; omega
  | 12, _ => simp only [rlT] at h3; omega
  | 13, _ => simp only [rlT] at h3; omega

end Go.Proofs.Ytdlhhkegkfhmoaa
