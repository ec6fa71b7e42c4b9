/- A byte that turned, and what is left of a disk that fails: as if it had turned behind. -/
import Derived.Test.YtphfakjodddilaaDiskDoes2
namespace Go.Proofs.Ytphfakjodddilaa
open Go.RowKit
set_option linter.unusedVariables false

theorem xorB_len (b : List Int) (p : Nat) (y : Int) : (xorB b p y).length = b.length := by simp [xorB]
theorem xorB_at (b : List Int) (p : Nat) (y : Int) (i : Nat) (hi : i < b.length) : (xorB b p y).getD i 0 = if i = p then bits .xor .u8 (b.getD i 0) y else b.getD i 0 := by
  unfold xorB
  by_cases h : i = p
  · subst h
    rw [if_pos rfl]
    simp [List.getD, hi]
  · rw [if_neg h]
    simp [List.getD, Ne.symm h]
theorem getD_ext {a b : List Int} (hl : a.length = b.length) (h : ∀ i, i < a.length → a.getD i 0 = b.getD i 0) : a = b := by
  apply List.ext_getElem hl
  intro n h1 h2
  have := h n h1
  simpa [List.getD, h1, h2] using this
theorem mix_at (a b : List Int) (ha : a.length = 64) (hb : b.length = 64) (i : Nat) (hi : i < 64) : (a.take 32 ++ b.drop 32).getD i 0 = if i < 32 then a.getD i 0 else b.getD i 0 := by
  by_cases h : i < 32
  · rw [if_pos h]
    simp only [List.getD]
    rw [List.getElem?_append_left (by simp; omega), List.getElem?_take, if_pos h]
  · rw [if_neg h]
    simp only [List.getD]
    rw [List.getElem?_append_right (by simp; omega), List.getElem?_drop]
    have e : 32 + (i - (a.take 32).length) = i := by simp; omega
    rw [e]
theorem xorB_mix {a b : List Int} {p : Nat} {y : Int} (ha : a.length = 64) (hb : b.length = 64) : (xorB a p y).take 32 ++ (xorB b p y).drop 32 = xorB (a.take 32 ++ b.drop 32) p y := by
  have hm : (a.take 32 ++ b.drop 32).length = 64 := by simp; omega
  refine getD_ext (by rw [xorB_len, hm]; simp [xorB_len]; omega) (fun i hi => ?_)
  have hi64 : i < 64 := by simp [xorB_len] at hi; omega
  rw [mix_at _ _ (by rw [xorB_len, ha]) (by rw [xorB_len, hb]) i hi64, xorB_at _ _ _ _ (by omega), xorB_at _ _ _ _ (by omega), xorB_at _ _ _ _ (by omega), mix_at _ _ ha hb i hi64]
  by_cases h : i < 32
  · simp only [if_pos h]
  · simp only [if_neg h]
section
variable {l dur : List Sec} {pend : List Wr} {k p : Nat} {y : Int}
theorem tear_at {x : Wr} {n : Nat} (hx : x.n < l.length) : secAt (tearW l x) n = if x.n = n then ⟨x.b.take 32 ++ (secAt l x.n).b.drop 32, (secAt l x.n).bad⟩ else secAt l n := secAt_set hx
theorem rot_tear (hk : k < l.length) (hl : ∀ s ∈ l, OkB s.b) (x : Wr) (hx : OkB x.b ∧ x.n < l.length) : tearW (rotD k p y l) (rotW k p y x) = rotD k p y (tearW l x) := by
  refine secs_ext (by simp [tear_len, rotD_len]) (fun n _ => ?_)
  rw [tear_at (by rw [rotW_n, rotD_len]; exact hx.2), rotW_n]
  unfold rotD
  rw [secAt_set (l := tearW l x) (by rw [tear_len]; exact hk), secAt_set (l := l) (m := x.n) hk, secAt_set (l := l) (m := n) hk, tear_at (n := k) hx.2, tear_at (n := n) hx.2]
  by_cases h1 : x.n = k
  · have e1 : (rotW k p y x) = ⟨x.n, xorB x.b p y, x.old⟩ := by unfold rotW; rw [if_pos h1]
    rw [e1]
    by_cases h2 : x.n = n
    · rw [if_pos h2, if_pos (by omega), if_pos (by omega), if_pos h1]
      simp only [rotS, h1]
      rw [xorB_mix hx.1.1 (secAt_ok hl hk).1]
    · rw [if_neg h2, if_neg (by omega), if_neg (by omega), if_neg h2]
  · have e1 : (rotW k p y x) = x := by unfold rotW; rw [if_neg h1]
    rw [e1]
    by_cases h2 : x.n = n
    · rw [if_pos h2, if_neg (by omega), if_neg (by omega), if_pos h2]
    · rw [if_neg h2, if_neg h1]
      by_cases h3 : k = n
      · rw [if_pos h3, if_pos h3]
      · rw [if_neg h3, if_neg h3, if_neg h2]
theorem rot_step {keep : Nat} {torn : Int} {i : Nat} (hk : k < l.length) (hl : ∀ s ∈ l, OkB s.b) (x : Wr) (hx : OkB x.b ∧ x.n < l.length) : stepF keep torn i (rotD k p y l) (rotW k p y x) = rotD k p y (stepF keep torn i l x) := by
  unfold stepF
  split
  · exact rot_tear hk hl x hx
  · split
    · exact rot_apply hk x hx.2
    · rfl
theorem map_at (f : Wr → Wr) (j : Nat) (hj : j < pend.length) : wrAt (pend.map f) j = f (wrAt pend j) := by
  simp [wrAt, List.getD, hj]
theorem rot_left {keep : Nat} {torn : Int} (hk : k < dur.length) (hd : ∀ s ∈ dur, OkB s.b) (hp : ∀ x ∈ pend, OkB x.b ∧ x.n < dur.length) : leftOf keep torn (rotD k p y dur) (pend.map (rotW k p y)) = rotD k p y (leftOf keep torn dur pend) := by
  have key : ∀ j, j ≤ pend.length → leftN keep torn (rotD k p y dur) (pend.map (rotW k p y)) j = rotD k p y (leftN keep torn dur pend j) := by
    intro j
    induction j with
    | zero => intro _; rfl
    | succ j ih =>
      intro hj
      have hm := hp _ (wrAt_mem (l := pend) (n := j) (by omega))
      rw [leftN, leftN, ih (by omega), map_at _ _ (by omega), rot_step (by rw [left_len]; exact hk) (left_ok hd hp j (by omega)) _ ⟨hm.1, by rw [left_len]; exact hm.2⟩]
  unfold leftOf
  rw [List.length_map]
  exact key _ (Nat.le_refl _)
theorem rotS_back {s : Sec} (h : OkB s.b) (hy : 0 ≤ y ∧ y < 256) : rotS p y (rotS p y s) = s := by
  unfold rotS
  rw [xorB_back h hy]
theorem rotD_at (hk : k < l.length) : secAt (rotD k p y l) k = rotS p y (secAt l k) := by
  unfold rotD; rw [secAt_set hk, if_pos rfl]
theorem rotD_back (hk : k < l.length) (hl : ∀ s ∈ l, OkB s.b) (hy : 0 ≤ y ∧ y < 256) : rotD k p y (rotD k p y l) = l := by
  have e := rotD_at (p := p) (y := y) hk
  rw [rotD, e, rotS_back (secAt_ok hl hk) hy]
  unfold rotD
  rw [List.set_set]
  have : secAt l k = l[k] := by simp [secAt, List.getD, hk]
  rw [this]
  exact List.set_getElem_self hk
theorem rotW_back {x : Wr} (hx : OkB x.b) (hy : 0 ≤ y ∧ y < 256) : rotW k p y (rotW k p y x) = x := by
  by_cases h : x.n = k
  · have e1 : (rotW k p y x) = ⟨x.n, xorB x.b p y, x.old⟩ := by unfold rotW; rw [if_pos h]
    rw [e1]
    unfold rotW
    rw [if_pos h]
    show (⟨x.n, xorB (xorB x.b p y) p y, x.old⟩ : Wr) = x
    rw [xorB_back hx hy]
  · have e1 : (rotW k p y x) = x := by unfold rotW; rw [if_neg h]
    rw [e1, e1]
theorem rotM_back (hp : ∀ x ∈ pend, OkB x.b ∧ x.n < dur.length) (hy : 0 ≤ y ∧ y < 256) : (pend.map (rotW k p y)).map (rotW k p y) = pend := by
  rw [List.map_map]
  conv => rhs; rw [← List.map_id pend]
  refine List.map_congr_left (fun x hx => ?_)
  exact rotW_back (hp x hx).1 hy
end
end Go.Proofs.Ytphfakjodddilaa
