/- What each call of package disks makes of a disk, in plain words: all made sure, a byte turned, a sector bad; and what follows. -/
import Derived.Test.YtapdaeafeejknaaGreatDoorDiskNew
namespace Go.Proofs.YtapdaeafeejknaaGreatDoor
open Go.RowKit

section
variable {l dur : List Sec} {pend : List Wr}
theorem secAt_set {n m : Nat} {s : Sec} (hn : n < l.length) : secAt (l.set n s) m = if n = m then s else secAt l m := by
  unfold secAt
  by_cases h : n = m
  · subst h; rw [if_pos rfl]; simp [List.getD, hn]
  · rw [if_neg h]; simp [List.getD, h]
theorem secs_ext {a b : List Sec} (hl : a.length = b.length) (h : ∀ n, n < a.length → secAt a n = secAt b n) : a = b := by
  apply List.ext_getElem hl
  intro n h1 h2
  have := h n h1
  simpa [secAt, List.getD, h1, h2] using this

/-- The sectors of k writes that wait, as they are seen. -/
def syncN (seen : List Sec) (dur : List Sec) (pend : List Wr) : Nat → List Sec
  | 0 => dur
  | k + 1 => (syncN seen dur pend k).set (wrAt pend k).n (secAt seen (wrAt pend k).n)
theorem sync_len (seen : List Sec) (k : Nat) : (syncN seen dur pend k).length = dur.length := by
  induction k with
  | zero => rfl
  | succ k ih => rw [syncN, List.length_set, ih]
theorem sync_ok {seen : List Sec} (hs : ∀ s ∈ seen, OkB s.b) (hl : seen.length = dur.length) (hd : ∀ s ∈ dur, OkB s.b) (hw : ∀ x ∈ pend, x.n < dur.length) (k : Nat) (hk : k ≤ pend.length) : ∀ s ∈ syncN seen dur pend k, OkB s.b := by
  induction k with
  | zero => exact hd
  | succ k ih => exact set_ok (ih (by omega)) (secAt_ok hs (by rw [hl]; exact hw _ (wrAt_mem (by omega))))
theorem sync_at {seen : List Sec} (hw : ∀ x ∈ pend, x.n < dur.length) (n : Nat) (k : Nat) (hk : k ≤ pend.length) : secAt (syncN seen dur pend k) n = if ∃ j, j < k ∧ (wrAt pend j).n = n then secAt seen n else secAt dur n := by
  induction k with
  | zero => simp [syncN]
  | succ k ih =>
    rw [syncN, secAt_set (by rw [sync_len]; exact hw _ (wrAt_mem (by omega)))]
    by_cases h : (wrAt pend k).n = n
    · rw [if_pos h, if_pos ⟨k, by omega, h⟩, h]
    · rw [if_neg h, ih (by omega)]
      by_cases h2 : ∃ j, j < k ∧ (wrAt pend j).n = n
      · obtain ⟨j, hj, e⟩ := h2
        rw [if_pos ⟨j, hj, e⟩, if_pos ⟨j, by omega, e⟩]
      · rw [if_neg h2, if_neg]
        rintro ⟨j, hj, e⟩
        by_cases hjk : j = k
        · subst hjk; exact h e
        · exact h2 ⟨j, by omega, e⟩
theorem apply_at {x : Wr} {n : Nat} (hx : x.n < l.length) : secAt (applyW l x) n = if x.n = n then ⟨x.b, (secAt l x.n).bad && x.old⟩ else secAt l n := secAt_set hx
theorem seen_same {n : Nat} (hw : ∀ x ∈ pend, x.n < dur.length) (h : ∀ x ∈ pend, x.n ≠ n) : secAt (seenOf dur pend) n = secAt dur n := by
  induction pend generalizing dur with
  | nil => rfl
  | cons x r ih =>
    rw [seenOf, List.foldl_cons]
    have e := ih (dur := applyW dur x) (fun y hy => by rw [apply_len]; exact hw y (List.mem_cons_of_mem _ hy)) (fun y hy => h y (List.mem_cons_of_mem _ hy))
    rw [seenOf] at e
    rw [e, apply_at (hw x List.mem_cons_self), if_neg (h x List.mem_cons_self)]
theorem sync_all (hw : ∀ x ∈ pend, x.n < dur.length) : syncN (seenOf dur pend) dur pend pend.length = seenOf dur pend := by
  refine secs_ext (by rw [sync_len, seen_len]) (fun n _ => ?_)
  rw [sync_at hw n _ (Nat.le_refl _)]
  by_cases h : ∃ j, j < pend.length ∧ (wrAt pend j).n = n
  · rw [if_pos h]
  · rw [if_neg h, seen_same hw]
    intro x hx e
    obtain ⟨j, hj, rfl⟩ := List.getElem_of_mem hx
    exact h ⟨j, hj, by simpa [wrAt, List.getD, hj] using e⟩
end

/-- A byte that turns. -/
def xorB (b : List Int) (p : Nat) (y : Int) : List Int := b.set p (bits .xor .u8 (b.getD p 0) y)
def rotS (p : Nat) (y : Int) (s : Sec) : Sec := ⟨xorB s.b p y, s.bad⟩
def rotD (k p : Nat) (y : Int) (l : List Sec) : List Sec := l.set k (rotS p y (secAt l k))
def rotW (k p : Nat) (y : Int) (x : Wr) : Wr := if x.n = k then ⟨x.n, xorB x.b p y, x.old⟩ else x
/-- A sector that is bad. -/
def badD (k : Nat) (l : List Sec) : List Sec := l.set k ⟨(secAt l k).b, true⟩
def badW (k : Nat) (x : Wr) : Wr := if x.n = k then ⟨x.n, x.b, true⟩ else x

theorem xor_u8_lt (a y : Int) (h1 : 0 ≤ a ∧ a < 256) (h2 : 0 ≤ y ∧ y < 256) : 0 ≤ bits .xor .u8 a y ∧ bits .xor .u8 a y < 256 := by
  rw [u8_xor a y h1.1 h1.2 h2.1 h2.2]
  have : a.toNat ^^^ y.toNat < 2 ^ 8 := Nat.xor_lt_two_pow (by omega) (by omega)
  omega
theorem xor_u8_back (a y : Int) (h1 : 0 ≤ a ∧ a < 256) (h2 : 0 ≤ y ∧ y < 256) : bits .xor .u8 (bits .xor .u8 a y) y = a := by
  have hlt := xor_u8_lt a y h1 h2
  rw [u8_xor (bits .xor .u8 a y) y hlt.1 hlt.2 h2.1 h2.2, u8_xor a y h1.1 h1.2 h2.1 h2.2]
  simp only [Int.toNat_natCast]
  rw [Nat.xor_assoc, Nat.xor_self, Nat.xor_zero]
  omega
theorem getD_in (b : List Int) {p : Nat} (hp : p < b.length) : b.getD p 0 = b[p] := by simp [List.getD, hp]
theorem okB_at {b : List Int} (h : OkB b) {p : Nat} : 0 ≤ b.getD p 0 ∧ b.getD p 0 < 256 := by
  by_cases hp : p < b.length
  · rw [getD_in b hp]; exact h.2 _ (List.getElem_mem _)
  · simp [List.getD, List.getElem?_eq_none (Nat.le_of_not_lt hp)]
theorem xorB_ok {b : List Int} (h : OkB b) {p : Nat} {y : Int} (hy : 0 ≤ y ∧ y < 256) : OkB (xorB b p y) := by
  refine ⟨by simp [xorB, h.1], fun x hx => ?_⟩
  rcases List.mem_or_eq_of_mem_set hx with hx | rfl
  · exact h.2 x hx
  · exact xor_u8_lt _ _ (okB_at h) hy
theorem xorB_back {b : List Int} (h : OkB b) {p : Nat} {y : Int} (hy : 0 ≤ y ∧ y < 256) : xorB (xorB b p y) p y = b := by
  by_cases hp : p < b.length
  · unfold xorB
    rw [List.set_set]
    have e : (b.set p (bits .xor .u8 (b.getD p 0) y)).getD p 0 = bits .xor .u8 (b.getD p 0) y := by simp [List.getD, hp]
    rw [e, xor_u8_back _ _ (okB_at h) hy]
    rw [getD_in b hp]
    exact List.set_getElem_self hp
  · unfold xorB
    rw [List.set_eq_of_length_le (by simp; omega), List.set_eq_of_length_le (by omega)]
section
variable {l dur : List Sec} {pend : List Wr} {k p : Nat} {y : Int}
theorem rotD_len : (rotD k p y l).length = l.length := by simp [rotD]
theorem badD_len : (badD k l).length = l.length := by simp [badD]
theorem rotW_n (x : Wr) : (rotW k p y x).n = x.n := by unfold rotW; split <;> rfl
theorem badW_n (x : Wr) : (badW k x).n = x.n := by unfold badW; split <;> rfl
theorem rot_apply (hk : k < l.length) (x : Wr) (hx : x.n < l.length) : applyW (rotD k p y l) (rotW k p y x) = rotD k p y (applyW l x) := by
  refine secs_ext (by simp [apply_len, rotD_len]) (fun n _ => ?_)
  rw [apply_at (by rw [rotW_n, rotD_len]; exact hx), rotW_n]
  unfold rotD
  rw [secAt_set (l := applyW l x) (by rw [apply_len]; exact hk), secAt_set (l := l) (m := x.n) hk, secAt_set (l := l) (m := n) hk, apply_at (n := k) hx, apply_at (n := n) hx]
  by_cases h1 : x.n = k
  · have e1 : (rotW k p y x) = ⟨x.n, xorB x.b p y, x.old⟩ := by unfold rotW; rw [if_pos h1]
    rw [e1]
    by_cases h2 : x.n = n
    · rw [if_pos h2, if_pos (by omega), if_pos (by omega), if_pos h1]; simp [rotS, h1]
    · rw [if_neg h2, if_neg (by omega), if_neg (by omega), if_neg h2]
  · have e1 : (rotW k p y x) = x := by unfold rotW; rw [if_neg h1]
    rw [e1]
    by_cases h2 : x.n = n
    · rw [if_pos h2, if_neg (by omega), if_neg (by omega), if_pos h2]
    · rw [if_neg h2, if_neg h1]
      by_cases h3 : k = n
      · rw [if_pos h3, if_pos h3]
      · rw [if_neg h3, if_neg h3, if_neg h2]
theorem rot_seen (hk : k < dur.length) (hw : ∀ x ∈ pend, x.n < dur.length) : seenOf (rotD k p y dur) (pend.map (rotW k p y)) = rotD k p y (seenOf dur pend) := by
  induction pend generalizing dur with
  | nil => rfl
  | cons x r ih =>
    unfold seenOf at ih ⊢
    rw [List.map_cons, List.foldl_cons, List.foldl_cons, rot_apply hk x (hw x List.mem_cons_self)]
    exact ih (by rw [apply_len]; exact hk) (fun z hz => by rw [apply_len]; exact hw z (List.mem_cons_of_mem _ hz))
theorem bad_apply (hk : k < l.length) (x : Wr) (hx : x.n < l.length) : applyW (badD k l) (badW k x) = badD k (applyW l x) := by
  refine secs_ext (by simp [apply_len, badD_len]) (fun n _ => ?_)
  rw [apply_at (by rw [badW_n, badD_len]; exact hx), badW_n]
  unfold badD
  rw [secAt_set (l := applyW l x) (by rw [apply_len]; exact hk), secAt_set (l := l) (m := x.n) hk, secAt_set (l := l) (m := n) hk, apply_at (n := k) hx, apply_at (n := n) hx]
  by_cases h1 : x.n = k
  · have e1 : (badW k x) = ⟨x.n, x.b, true⟩ := by unfold badW; rw [if_pos h1]
    rw [e1]
    by_cases h2 : x.n = n
    · rw [if_pos h2, if_pos (by omega), if_pos (by omega), if_pos h1]; simp
    · rw [if_neg h2, if_neg (by omega), if_neg (by omega), if_neg h2]
  · have e1 : (badW k x) = x := by unfold badW; rw [if_neg h1]
    rw [e1]
    by_cases h2 : x.n = n
    · rw [if_pos h2, if_neg (by omega), if_neg (by omega), if_pos h2]
    · rw [if_neg h2, if_neg h1]
      by_cases h3 : k = n
      · rw [if_pos h3, if_pos h3]
      · rw [if_neg h3, if_neg h3, if_neg h2]
theorem bad_seen (hk : k < dur.length) (hw : ∀ x ∈ pend, x.n < dur.length) : seenOf (badD k dur) (pend.map (badW k)) = badD k (seenOf dur pend) := by
  induction pend generalizing dur with
  | nil => rfl
  | cons x r ih =>
    unfold seenOf at ih ⊢
    rw [List.map_cons, List.foldl_cons, List.foldl_cons, bad_apply hk x (hw x List.mem_cons_self)]
    exact ih (by rw [apply_len]; exact hk) (fun z hz => by rw [apply_len]; exact hw z (List.mem_cons_of_mem _ hz))
theorem rotD_ok (h : ∀ s ∈ l, OkB s.b) (hk : k < l.length) (hy : 0 ≤ y ∧ y < 256) : ∀ s ∈ rotD k p y l, OkB s.b := set_ok h (xorB_ok (secAt_ok h hk) hy)
theorem badD_ok (h : ∀ s ∈ l, OkB s.b) (hk : k < l.length) : ∀ s ∈ badD k l, OkB s.b := set_ok h (secAt_ok h hk)
theorem rotW_ok {x : Wr} (h : OkB x.b) (hy : 0 ≤ y ∧ y < 256) : OkB (rotW k p y x).b := by
  unfold rotW; split
  · exact xorB_ok h hy
  · exact h
theorem badW_ok {x : Wr} (h : OkB x.b) : OkB (badW k x).b := by
  unfold badW; split
  · exact h
  · exact h
end
/-- A list, its first k turned. -/
def upTo (f : Wr → Wr) (pend : List Wr) (k : Nat) : List Wr := (pend.take k).map f ++ pend.drop k
theorem upTo_len (f : Wr → Wr) (pend : List Wr) (k : Nat) : (upTo f pend k).length = pend.length := by simp [upTo]; omega
theorem upTo_zero (f : Wr → Wr) (pend : List Wr) : upTo f pend 0 = pend := by simp [upTo]
theorem upTo_all (f : Wr → Wr) (pend : List Wr) : upTo f pend pend.length = pend.map f := by simp [upTo]
theorem upTo_at (f : Wr → Wr) (pend : List Wr) (k : Nat) (hk : k < pend.length) : wrAt (upTo f pend k) k = wrAt pend k := by
  unfold wrAt upTo
  have : ((pend.take k).map f).length = k := by simp; omega
  simp only [List.getD]
  rw [List.getElem?_append_right (by omega), this, Nat.sub_self, List.getElem?_drop]
  simp
theorem upTo_succ (f : Wr → Wr) (pend : List Wr) (k : Nat) (hk : k < pend.length) : upTo f pend (k + 1) = (upTo f pend k).set k (f (wrAt pend k)) := by
  have e : wrAt pend k = pend[k] := by simp [wrAt, List.getD, hk]
  unfold upTo
  have hl : ((pend.take k).map f).length = k := by simp; omega
  rw [List.set_append_right _ _ (by omega), hl, Nat.sub_self, List.drop_eq_getElem_cons hk, List.set_cons_zero, e]
  rw [List.take_succ_eq_append_getElem hk, List.map_append]
  simp
theorem upTo_mem {f : Wr → Wr} {pend : List Wr} {k : Nat} {P : Wr → Prop} (h : ∀ x ∈ pend, P x ∧ P (f x)) : ∀ x ∈ upTo f pend k, P x := by
  intro x hx
  rcases List.mem_append.1 hx with hx | hx
  · obtain ⟨y, hy, rfl⟩ := List.mem_map.1 hx
    exact (h y (List.mem_of_mem_take hy)).2
  · exact (h x (List.mem_of_mem_drop hx)).1
end Go.Proofs.YtapdaeafeejknaaGreatDoor
