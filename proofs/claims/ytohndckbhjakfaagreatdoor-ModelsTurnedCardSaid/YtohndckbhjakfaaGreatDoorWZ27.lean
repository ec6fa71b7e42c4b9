/- Merged: Gr12, Gp2, Crc, Crc2. -/
import Derived.Test.YtohndckbhjakfaaGreatDoorWZ26
import Derived.WalkKit
import Derived.Laws.BitsAllLaws
import Derived.Test.YtohndckbhjakfaaGreatDoorWZ00
namespace Go.Proofs.YtohndckbhjakfaaGreatDoor

section
open Go.RowKit
set_option linter.unusedVariables false
set_option linter.unusedSimpArgs false
set_option maxRecDepth 100000

def Sg.v (g : Sg) : Value := .slice g.A g.n g.c

/-- A list of shapes of the call's own, all its shapes too, no two of which share memory. -/
def Grd (w : World) (base : Nat) (A : Option Addr) (n c : Nat) (gs : List Sg) : Prop :=
  gs.length = n ∧ w.ownsRow base 35 1 (.slice A n c) n (gs.map Sg.v) ∧ (∀ g ∈ gs, w.ownsRow base 3 1 (.slice g.A g.n g.c) g.n (g.s.map (Value.int .i64)) ∧ g.n ≤ 4) ∧ gs.Pairwise (fun g h => ∀ a b, Value.ownBlock (.slice g.A g.n g.c) = some a → Value.ownBlock (.slice h.A h.n h.c) = some b → a < b)

theorem Grd.nil (w : World) (base : Nat) : Grd w base none 0 0 [] := ⟨rfl, World.ownsRow_nil _ _ _ _, (fun g hg => by cases hg), List.Pairwise.nil⟩

theorem own_types10 {w : World} {base base' size size' : Nat} {e e' : TypeId} {v v' : Value} {n n' : Nat} {xs xs' : List Value} (h : w.ownsRow base e size v n xs) (h' : w.ownsRow base' e' size' v' n' xs') (he : e ≠ e') : v.ownBlock = none ∨ v.ownBlock ≠ v'.ownBlock := by
  rcases h.2 with ⟨rfl, _⟩ | ⟨g, cap, cur, rfl, _, hg, _⟩
  · exact .inl rfl
  · right
    rcases h'.2 with ⟨rfl, _⟩ | ⟨g', cap', cur', rfl, _, hg', _⟩
    · simp [Value.ownBlock]
    · simp only [Value.ownBlock, ne_eq, Option.some.injEq]
      rintro rfl
      rw [hg] at hg'
      simp at hg'
      exact he hg'.2

theorem Grd.kept {w w' : World} {base : Nat} {A : Option Addr} {n c : Nat} {gs : List Sg} {row : Option Nat} (h : Grd w base A n c gs) (hg : w.grownBy w' row) (hr : ∀ k, row = some k → k < base) : Grd w' base A n c gs := by
  have hne : ∀ {e : TypeId} {v : Value} {m : Nat} {xs : List Value}, w.ownsRow base e 1 v m xs → v.ownBlock = none ∨ v.ownBlock ≠ row := fun {e v m xs} ho => by
    rcases hv : v.ownBlock with _ | g
    · exact .inl rfl
    · right
      intro h2
      have h1 := (ho.lt g hv).1
      have h3 := hr g h2.symm
      omega
  exact ⟨h.1, h.2.1.kept hg (hne h.2.1), fun g hgm => ⟨(h.2.2.1 g hgm).1.kept hg (hne (h.2.2.1 g hgm).1), (h.2.2.1 g hgm).2⟩, h.2.2.2⟩

theorem Grd.below {w w' : World} {base : Nat} {A : Option Addr} {n c : Nat} {gs : List Sg} (h : Grd w base A n c gs) (hb : Below w.heap.size w w') : Grd w' base A n c gs :=
  h.kept (row := none) ⟨hb.os, hb.tape, hb.output, hb.size, fun i hi _ => hb.block i hi⟩ (fun k hk => by cases hk)

theorem Grd.set {w : World} {base p : Nat} {A : Option Addr} {n c : Nat} {gs : List Sg} (h : Grd w base A n c gs) (hp : p < base) (u : Value) : Grd (w.setCell ⟨p, 0, none⟩ u) base A n c gs :=
  h.kept (row := some p) ⟨rfl, rfl, rfl, by simp [World.setCell], fun k _ hk => heap_setCell_other _ _ _ _ (by simpa using hk)⟩ (fun k hk => by cases hk; exact hp)

theorem Grd.base {w : World} {base base' : Nat} {A : Option Addr} {n c : Nat} {gs : List Sg} (h : Grd w base A n c gs) (hb : base' ≤ base) : Grd w base' A n c gs :=
  ⟨h.1, own_base h.2.1 hb, fun g hg => ⟨own_base (h.2.2.1 g hg).1 hb, (h.2.2.1 g hg).2⟩, h.2.2.2⟩

theorem own_le10 {w : World} {base : Nat} {e : TypeId} {A : Option Addr} {n c : Nat} {xs : List Value} (h : w.ownsRow base e 1 (.slice A n c) n xs) : n ≤ c := by
  rcases h.2 with ⟨e0, h0⟩ | ⟨g, cap, cur, e0, _, _, hc, _⟩
  · omega
  · injection e0 with _ _ e0; omega

theorem Grd.sg {w : World} {base : Nat} {A : Option Addr} {n c : Nat} {gs : List Sg} (h : Grd w base A n c gs) : SgAt w A n gs :=
  ⟨h.1, fun hn => by
    obtain ⟨b, o, e, hlt, hx⟩ := (lies_of_own h.2.1).cells (by omega)
    refine ⟨b, o, e, hlt, fun j g hj => ?_⟩
    have hjl := (List.getElem?_eq_some_iff.1 hj).1
    rw [hx j (by rw [← h.1]; exact hjl), List.getElem?_map, hj]
    rfl, fun g hg => ⟨lies_of_own (h.2.2.1 g hg).1, own_le10 (h.2.2.1 g hg).1, (h.2.2.1 g hg).2⟩⟩

theorem Grd.push {w w' : World} {base B : Nat} {A A' : Option Addr} {n c c' : Nat} {gs : List Sg} {g : Sg} (h : Grd w base A n c gs) (hB : ∀ h ∈ gs, ∀ a, Value.ownBlock (.slice h.A h.n h.c) = some a → a < B) (hbb : base ≤ B) (hg : w.ownsRow B 3 1 (.slice g.A g.n g.c) g.n (g.s.map (Value.int .i64))) (hg4 : g.n ≤ 4)
    (ho : w'.ownsRow base 35 1 (.slice A' (n + 1) c') (n + 1) (gs.map Sg.v ++ [Sg.v g])) (hm : Moved w w' (.slice A n c) (.slice A' (n + 1) c')) : Grd w' base A' (n + 1) c' (gs ++ [g]) := by
  have hk : ∀ {bs : Nat} {v : Value} {m : Nat} {xs : List Value}, w.ownsRow bs 3 1 v m xs → w'.ownsRow bs 3 1 v m xs := fun {bs v m xs} hv => by
    rcases hm with ⟨_, hgr⟩ | ⟨hgr, _⟩
    · exact hv.kept hgr (own_types10 hv h.2.1 (by decide))
    · exact hv.kept hgr (by cases v.ownBlock <;> simp)
  refine ⟨by simp [h.1], by rw [List.map_append]; exact ho, fun x hx => ?_, ?_⟩
  · rcases List.mem_append.1 hx with hx | hx
    · exact ⟨hk (h.2.2.1 x hx).1, (h.2.2.1 x hx).2⟩
    · rw [List.mem_singleton.1 hx]; exact ⟨own_base (hk hg) hbb, hg4⟩
  · rw [List.pairwise_append]
    refine ⟨h.2.2.2, List.pairwise_singleton _ _, fun x hx y hy a b ha hb => ?_⟩
    rw [List.mem_singleton.1 hy] at hb
    have h1 := hB x hx a ha
    have h2 := (hg.lt b hb).1
    omega

theorem allSh_stop {ns : List Nd} {k : Nat} {x : Nd} {ss : List (List Int)} (h : allSh (ns.take k) [] = some ss) (hx : ns[k]? = some x) (hf : fitN x ss = false) : allSh ns [] = none := by
  have hl := (List.getElem?_eq_some_iff.1 hx).1
  have e : ns.drop k = x :: ns.drop (k + 1) := by rw [List.drop_eq_getElem_cons hl]; congr 1; exact (List.getElem?_eq_some_iff.1 hx).2
  rw [← List.take_append_drop k ns, allSh_append, h, e]
  show allSh (x :: ns.drop (k + 1)) ss = none
  rw [allSh, hf]
  rfl

theorem allSh_next {ns : List Nd} {k : Nat} {x : Nd} {ss : List (List Int)} (h : allSh (ns.take k) [] = some ss) (hx : ns[k]? = some x) (hf : fitN x ss = true) : allSh (ns.take (k + 1)) [] = some (ss ++ [shN x ss]) := by
  rw [take_oneN hx, allSh_append, h]
  show allSh [x] ss = _
  rw [allSh, if_pos hf, allSh]

theorem gph_stop {ns : List Nd} {k : Nat} {x : Nd} {ss : List (List Int)} (h : allSh (ns.take k) [] = some ss) (hx : ns[k]? = some x) (hf : fitN x ss = false) : gphE ns = 1 ∧ gphS ns = [] := by
  have hb : gphB ns = false := by rw [gphB, allSh_stop h hx hf]; simp
  exact ⟨by rw [gphE, hb]; rfl, gphS_no hb⟩

theorem fitN_no {x : Nd} {ss : List (List Int)} (h : ¬ ((1 ≤ x.kd ∧ x.kd ≤ 13) ∧ alw (rlT x.kd.toNat) x = true ∧ allKn x.xs ss.length = true ∧ nodeE x (knL ss x.xs) x.kd.toNat = 0)) : fitN x ss = false := by
  cases hf : fitN x ss with
  | false => rfl
  | true => exact absurd (fitN_parts hf) h

/-- How far the loop of Shapes is. -/
def ShSt (w0 : World) (p b base : Nat) (ns : List Nd) (k : Nat) (A : Option Addr) (c : Nat) (gs : List Sg) (w : World) : Prop :=
  w.heap[p]? = some (.cells #[.slice A k c] 113 (0, 0)) ∧ Grd w base A k c gs ∧ w.heap[b]? = some (.map (ruEs p 13) 13) ∧ allSh (ns.take k) [] = some (gs.map Sg.s) ∧ Below w0.heap.size w0 w ∧ base ≤ w.heap.size ∧ p < base ∧ w0.heap.size ≤ p

theorem ShSt.below {w0 w w' : World} {p b base : Nat} {ns : List Nd} {k : Nat} {A : Option Addr} {c : Nat} {gs : List Sg} (h : ShSt w0 p b base ns k A c gs w) (hb : Below w.heap.size w w') : ShSt w0 p b base ns k A c gs w' :=
  ⟨(hb.block p (lt_of_heap h.1)).trans h.1, h.2.1.below hb, (hb.block b (lt_of_heap h.2.2.1)).trans h.2.2.1, h.2.2.2.1, h.2.2.2.2.1.trans (hb.mono h.2.2.2.2.1.size), Nat.le_trans h.2.2.2.2.2.1 hb.size, h.2.2.2.2.2.2⟩

theorem ShSt.kn {w0 w : World} {p b base : Nat} {ns : List Nd} {k : Nat} {A : Option Addr} {c : Nat} {gs : List Sg} (h : ShSt w0 p b base ns k A c gs w) : KnAt w p A k c gs := ⟨h.1, h.2.1.sg⟩

theorem ShSt.pos {w0 w : World} {p b base : Nat} {ns : List Nd} {k : Nat} {A : Option Addr} {c : Nat} {gs : List Sg} (h : ShSt w0 p b base ns k A c gs w) : ∀ g ∈ gs, 0 < sizeI g.s := fun g hg =>
  allSh_pos (ns.take k) [] _ (fun s hs => by cases hs) h.2.2.2.1 g.s (List.mem_map.2 ⟨g, hg, rfl⟩)

theorem ShSt.cell {w0 w : World} {p b base : Nat} {ns : List Nd} {k : Nat} {A : Option Addr} {c : Nat} {gs : List Sg} (h : ShSt w0 p b base ns k A c gs w) : w.cell? ⟨p, 0, none⟩ = some (.slice A k c) ∧ w.frozen? ⟨p, 0, none⟩ = false := ⟨cell_of_row _ _ 0 _ _ (0, 0) h.1, frozen_of_row w p 0 _ _ h.1⟩

theorem ShSt.moved {w0 w w2 : World} {p b base : Nat} {ns : List Nd} {k : Nat} {A : Option Addr} {c : Nat} {gs : List Sg} {v' : Value} (h : ShSt w0 p b base ns k A c gs w) (hm : Moved w w2 (.slice A k c) v') : w2.cell? ⟨p, 0, none⟩ = some (.slice A k c) ∧ w2.frozen? ⟨p, 0, none⟩ = false := by
  have hgr : w.grownBy w2 (Value.ownBlock (.slice A k c)) := by
    rcases hm with ⟨_, hgr⟩ | ⟨hgr, _⟩
    · exact hgr
    · exact ⟨hgr.os, hgr.tape, hgr.output, hgr.size, fun i hi _ => hgr.block i hi (by simp)⟩
  have hpr : some p ≠ Value.ownBlock (.slice A k c) := fun e => by have := (h.2.1.2.1.lt p e.symm).1; have := h.2.2.2.2.2.2.1; omega
  have p2 := (hgr.block p (lt_of_heap h.1) hpr).trans h.1
  exact ⟨cell_of_row _ _ 0 _ _ (0, 0) p2, frozen_of_row w2 p 0 _ _ p2⟩

/-- One shape more: behind the append and the store. -/
theorem ShSt.push {w0 w w1 w2 : World} {p b base : Nat} {ns : List Nd} {k : Nat} {A A' : Option Addr} {c c' : Nat} {gs : List Sg} {x : Nd} {g : Sg} (h : ShSt w0 p b base ns k A c gs w) (hb : Below w.heap.size w w1) (hg : w1.ownsRow w.heap.size 3 1 (.slice g.A g.n g.c) g.n (g.s.map (Value.int .i64))) (hg4 : g.n ≤ 4)
    (ho : w2.ownsRow base 35 1 (.slice A' (k + 1) c') (k + 1) (gs.map Sg.v ++ [Sg.v g])) (hm : Moved w1 w2 (.slice A k c) (.slice A' (k + 1) c')) (hx : ns[k]? = some x) (hf : fitN x (gs.map Sg.s) = true) (hs : g.s = shN x (gs.map Sg.s)) :
    ShSt w0 p b base ns (k + 1) A' c' (gs ++ [g]) (w2.setCell ⟨p, 0, none⟩ (.slice A' (k + 1) c')) := by
  have h1 := h.below hb
  obtain ⟨a1, a2, a3, a4, a5, a6, a7, a8⟩ := h1
  have hgr : w1.grownBy w2 (Value.ownBlock (.slice A k c)) := by
    rcases hm with ⟨_, hgr⟩ | ⟨hgr, _⟩
    · exact hgr
    · exact ⟨hgr.os, hgr.tape, hgr.output, hgr.size, fun i hi _ => hgr.block i hi (by simp)⟩
  have hpr : some p ≠ Value.ownBlock (.slice A k c) := fun e => by have := (a2.2.1.lt p e.symm).1; omega
  have hbr : some b ≠ Value.ownBlock (.slice A k c) := fun e => by
    rcases a2.2.1.2 with ⟨h0, _⟩ | ⟨g', cap, cur, h0, _, hh, _⟩
    · rw [h0] at e; cases e
    · rw [h0] at e; injection e with e; have e' : b = g' := e; rw [← e', a3] at hh; cases hh
  have p2 := (hgr.block p (lt_of_heap a1) hpr).trans a1
  have b2 := (hgr.block b (lt_of_heap a3) hbr).trans a3
  have hpb : b ≠ p := fun e => by rw [e, a1] at a3; cases a3
  have hG : Grd w2 base A' (k + 1) c' (gs ++ [g]) := a2.push (fun q hq a ha => ((h.2.1.2.2.1 q hq).1.lt a ha).2) h.2.2.2.2.2.1 hg hg4 ho hm
  refine ⟨?_, hG.set a7 _, ?_, ?_, ?_, ?_, a7, a8⟩
  · have := heap_setCell_same w2 p 0 _ _ (.slice A' (k + 1) c') p2; simpa using this
  · exact (heap_setCell_other _ _ _ _ (by simpa using hpb)).trans b2
  · rw [List.map_append, List.map_cons, List.map_nil, hs]; exact allSh_next a4 hx hf
  · exact (a5.grown hgr a5.size (fun q hq => by have := (a2.2.1.lt q hq).1; omega)).setCell (by dsimp only; omega) _
  · have := hgr.size; simp only [World.setCell, Array.size_modify]; omega

theorem infoS10 : (Tryz.prog.info? 35).map (fun i => (i.zero, i.size, i.bytes)) = some (some (.slice none 0 0), 1, 24) := by kernel_rfl

end

section
open Go.RowKit
set_option linter.unusedVariables false
set_option linter.unusedSimpArgs false
set_option maxRecDepth 100000

end

section

/-- One bit shifted out of the register. -/
def step (r : Nat) : Nat := if r % 2 = 1 then r / 2 ^^^ 3988292384 else r / 2

def steps : Nat → Nat → Nat
  | 0, r => r
  | n + 1, r => steps n (step r)

theorem steps_add (m n r : Nat) : steps (m + n) r = steps n (steps m r) := by
  induction m generalizing r with
  | zero => simp [steps]
  | succ m ih => rw [Nat.succ_add]; exact ih _

theorem steps_succ (n r : Nat) : steps (n + 1) r = step (steps n r) := steps_add n 1 r

theorem step_lt {r : Nat} (h : r < 4294967296) : step r < 4294967296 := by
  unfold step
  split
  · exact Nat.xor_lt_two_pow (n := 32) (by omega) (by omega)
  · omega

theorem steps_lt (n : Nat) {r : Nat} (h : r < 4294967296) : steps n r < 4294967296 := by
  induction n generalizing r with
  | zero => exact h
  | succ n ih => exact ih (step_lt h)

theorem xor_lt {a b : Nat} (ha : a < 4294967296) (hb : b < 4294967296) : a ^^^ b < 4294967296 := Nat.xor_lt_two_pow (n := 32) ha hb

theorem xor_nought {a b : Nat} (h : a ^^^ b = 0) : a = b := by
  have h1 := congrArg (· ^^^ b) h
  simp only [Nat.xor_assoc, Nat.xor_self, Nat.xor_zero, Nat.zero_xor] at h1
  exact h1

theorem step_xor (a b : Nat) : step (a ^^^ b) = step a ^^^ step b := by
  have h0 : (a ^^^ b) % 2 = a % 2 ^^^ b % 2 := Nat.xor_mod_two_pow (n := 1)
  have h1 : (a ^^^ b) % 2 = (a + b) % 2 := by
    rw [h0]
    rcases Nat.mod_two_eq_zero_or_one a with ha | ha <;> rcases Nat.mod_two_eq_zero_or_one b with hb | hb <;> rw [ha, hb]
    · show 0 = _; omega
    · show 1 = _; omega
    · show 1 = _; omega
    · show 0 = _; omega
  have h2 : (a ^^^ b) / 2 = a / 2 ^^^ b / 2 := Nat.xor_div_two
  unfold step
  rw [h1, h2]
  rcases Nat.mod_two_eq_zero_or_one a with ha | ha <;> rcases Nat.mod_two_eq_zero_or_one b with hb | hb
  · rw [if_neg (by omega), if_neg (by omega), if_neg (by omega)]
  · rw [if_pos (by omega), if_neg (by omega), if_pos (by omega), Nat.xor_assoc]
  · rw [if_pos (by omega), if_pos (by omega), if_neg (by omega), Nat.xor_assoc, Nat.xor_comm (b / 2), ← Nat.xor_assoc]
  · rw [if_neg (by omega), if_pos (by omega), if_pos (by omega), Nat.xor_assoc (a / 2), Nat.xor_comm (b / 2), ← Nat.xor_assoc 3988292384, Nat.xor_self, Nat.zero_xor]

theorem steps_xor (n a b : Nat) : steps n (a ^^^ b) = steps n a ^^^ steps n b := by
  induction n generalizing a b with
  | zero => rfl
  | succ n ih => show steps n (step (a ^^^ b)) = _; rw [step_xor, ih]; rfl

theorem step_zero {r : Nat} (h : r < 4294967296) (hz : step r = 0) : r = 0 := by
  unfold step at hz
  split at hz
  · have := xor_nought hz
    omega
  · omega

theorem steps_zero (n : Nat) {r : Nat} (h : r < 4294967296) (hz : steps n r = 0) : r = 0 := by
  induction n generalizing r with
  | zero => exact hz
  | succ n ih => exact step_zero h (ih (step_lt h) hz)

theorem steps_nought (n : Nat) : steps n 0 = 0 := by
  induction n with
  | zero => rfl
  | succ n ih => exact ih

theorem steps_inj (n : Nat) {a b : Nat} (ha : a < 4294967296) (hb : b < 4294967296) : steps n a = steps n b ↔ a = b := by
  constructor
  · intro h
    have h1 : steps n (a ^^^ b) = 0 := by rw [steps_xor, h, Nat.xor_self]
    exact xor_nought (steps_zero n (xor_lt ha hb) h1)
  · intro h; rw [h]

/-- What lies above the bits that are shifted out only moves. -/
theorem steps_mul (n q : Nat) : steps n (2 ^ n * q) = q := by
  induction n with
  | zero => simp [steps]
  | succ n ih =>
    have e : 2 ^ (n + 1) * q = 2 * (2 ^ n * q) := by rw [Nat.pow_succ, Nat.mul_comm (2 ^ n) 2, Nat.mul_assoc]
    show steps n (step (2 ^ (n + 1) * q)) = q
    rw [e]
    have : step (2 * (2 ^ n * q)) = 2 ^ n * q := by unfold step; rw [if_neg (by omega)]; omega
    rw [this, ih]

theorem parted (n r : Nat) : r = (2 ^ n * (r / 2 ^ n)) ^^^ (r % 2 ^ n) := by
  apply Nat.eq_of_testBit_eq
  intro i
  rw [Nat.testBit_xor, Nat.testBit_two_pow_mul, Nat.testBit_mod_two_pow, Nat.testBit_div_two_pow]
  by_cases h : n ≤ i
  · have e2 : i - n + n = i := by omega
    have h2 : ¬ i < n := by omega
    simp [h, h2, e2]
  · have h2 : i < n := by omega
    simp [h, h2]

theorem steps_parted (n r : Nat) : steps n r = r / 2 ^ n ^^^ steps n (r % 2 ^ n) := by
  conv => lhs; rw [parted n r]
  rw [steps_xor, steps_mul]

theorem steps_four (r : Nat) : r / 16 ^^^ steps 4 (r % 16) = steps 4 r := (steps_parted 4 r).symm

theorem steps_eight (r : Nat) : (r / 16 ^^^ steps 4 (r % 16)) / 16 ^^^ steps 4 ((r / 16 ^^^ steps 4 (r % 16)) % 16) = steps 8 r := by
  rw [steps_four, steps_four]
  exact (steps_add 4 4 r).symm

/-- The register behind one byte more, and behind bytes. -/
def byteOn (r : Nat) (z : Int) : Nat := steps 8 (r ^^^ z.toNat)

def reg (r : Nat) (zs : List Int) : Nat := zs.foldl byteOn r

/-- All bits inverted. -/
def inv (r : Nat) : Nat := r ^^^ 4294967295

/-- The checksum that goes on from another one; that of bytes. -/
def sumOn (s : Nat) (zs : List Int) : Nat := inv (reg (inv s) zs)

def sumOf (zs : List Int) : Nat := sumOn 0 zs

def ByteL (zs : List Int) : Prop := ∀ z ∈ zs, 0 ≤ z ∧ z < 256

theorem byteOn_lt {r : Nat} {z : Int} (h : r < 4294967296) (hz : 0 ≤ z ∧ z < 256) : byteOn r z < 4294967296 := steps_lt 8 (xor_lt h (by omega))

theorem reg_lt {r : Nat} {zs : List Int} (h : r < 4294967296) (hz : ByteL zs) : reg r zs < 4294967296 := by
  induction zs generalizing r with
  | nil => exact h
  | cons z zs ih => exact ih (byteOn_lt h (hz z (by simp))) (fun x hx => hz x (by simp [hx]))

theorem inv_lt {r : Nat} (h : r < 4294967296) : inv r < 4294967296 := xor_lt h (by omega)

theorem inv_inv (r : Nat) : inv (inv r) = r := by unfold inv; rw [Nat.xor_assoc, Nat.xor_self, Nat.xor_zero]

theorem inv_inj {a b : Nat} : inv a = inv b ↔ a = b := by
  constructor
  · intro h; have := congrArg inv h; rwa [inv_inv, inv_inv] at this
  · intro h; rw [h]

theorem sumOn_lt {s : Nat} {zs : List Int} (h : s < 4294967296) (hz : ByteL zs) : sumOn s zs < 4294967296 := inv_lt (reg_lt (inv_lt h) hz)

theorem reg_append (r : Nat) (xs ys : List Int) : reg r (xs ++ ys) = reg (reg r xs) ys := by unfold reg; rw [List.foldl_append]

theorem sumOn_nil (s : Nat) : sumOn s [] = s := inv_inv s

theorem reg_snoc (r : Nat) (zs : List Int) (k : Nat) (h : k < zs.length) : reg r (zs.take (k + 1)) = byteOn (reg r (zs.take k)) (zs.getD k 0) := by
  have e : zs.getD k 0 = zs[k] := by simp [List.getD, h]
  rw [e, List.take_succ_eq_append_getElem h, reg_append]
  rfl

/-- Bytes of two lists of one length, xored. -/
def xorL : List Int → List Int → List Int
  | x :: xs, y :: ys => ((x.toNat ^^^ y.toNat : Nat) : Int) :: xorL xs ys
  | _, _ => []

/-- The register goes with exclusive or. -/
theorem reg_xor (r s : Nat) (xs ys : List Int) (h : xs.length = ys.length) : reg (r ^^^ s) (xorL xs ys) = reg r xs ^^^ reg s ys := by
  induction xs generalizing r s ys with
  | nil =>
    cases ys with
    | nil => rfl
    | cons y ys => simp at h
  | cons x xs ih =>
    cases ys with
    | nil => simp at h
    | cons y ys =>
      have e : byteOn (r ^^^ s) ((x.toNat ^^^ y.toNat : Nat) : Int) = byteOn r x ^^^ byteOn s y := by
        unfold byteOn
        rw [← steps_xor, Int.toNat_natCast]
        congr 1
        rw [Nat.xor_assoc r s, ← Nat.xor_assoc s, Nat.xor_comm s x.toNat, Nat.xor_assoc x.toNat, ← Nat.xor_assoc r]
      show reg (byteOn (r ^^^ s) _) (xorL xs ys) = reg (byteOn r x) xs ^^^ reg (byteOn s y) ys
      rw [e]
      exact ih _ _ ys (by simpa using h)

theorem xorL_len (xs ys : List Int) (h : xs.length = ys.length) : (xorL xs ys).length = xs.length := by
  induction xs generalizing ys with
  | nil => cases ys with | nil => rfl | cons y ys => simp at h
  | cons x xs ih => cases ys with | nil => simp at h | cons y ys => simp only [xorL, List.length_cons]; rw [ih ys (by simpa using h)]

theorem xorL_getD (xs ys : List Int) (h : xs.length = ys.length) (k : Nat) : (xorL xs ys).getD k 0 = (((xs.getD k 0).toNat ^^^ (ys.getD k 0).toNat : Nat) : Int) := by
  induction xs generalizing ys k with
  | nil => cases ys with | nil => simp [xorL] | cons y ys => simp at h
  | cons x xs ih =>
    cases ys with
    | nil => simp at h
    | cons y ys =>
      cases k with
      | zero => simp [xorL]
      | succ k => simpa [xorL] using ih ys (by simpa using h) k

theorem reg_inj {r s : Nat} {zs : List Int} (hr : r < 4294967296) (hs : s < 4294967296) (hz : ByteL zs) : reg r zs = reg s zs ↔ r = s := by
  induction zs generalizing r s with
  | nil => exact Iff.rfl
  | cons z zs ih =>
    have hb := hz z (by simp)
    have h2 := ih (byteOn_lt hr hb) (byteOn_lt hs hb) (fun x hx => hz x (by simp [hx]))
    show reg (byteOn r z) zs = reg (byteOn s z) zs ↔ _
    rw [h2]
    unfold byteOn
    rw [steps_inj 8 (xor_lt hr (by omega)) (xor_lt hs (by omega))]
    constructor
    · intro h
      have := congrArg (· ^^^ z.toNat) h
      simpa only [Nat.xor_assoc, Nat.xor_self, Nat.xor_zero] using this
    · intro h; rw [h]

/-- Four bytes at once: the word that they are goes into the register, and 32 bits are shifted out. -/
theorem steps_shift (r m b : Nat) : steps 8 (steps (8 * m) r ^^^ b) = steps (8 * (m + 1)) (r ^^^ 2 ^ (8 * m) * b) := by
  rw [Nat.mul_add, steps_add, steps_xor (8 * m), steps_mul]

theorem joined {a b n : Nat} (h : a < 2 ^ n) : a ^^^ 2 ^ n * b = a + 2 ^ n * b := by
  have h1 := parted n (a + 2 ^ n * b)
  rw [Nat.add_mul_div_left _ _ (Nat.two_pow_pos n), Nat.add_mul_mod_self_left, Nat.div_eq_of_lt h, Nat.mod_eq_of_lt h, Nat.zero_add, Nat.xor_comm] at h1
  exact h1.symm

theorem reg_four (r : Nat) (a b c d : Nat) (ha : a < 256) (hb : b < 256) (hc : c < 256) :
    reg r [(a : Int), (b : Int), (c : Int), (d : Int)] = steps 32 (r ^^^ (a + 256 * b + 65536 * c + 16777216 * d)) := by
  have e1 : reg r [(a : Int), (b : Int), (c : Int), (d : Int)] = steps 8 (steps 8 (steps 8 (steps 8 (r ^^^ a) ^^^ b) ^^^ c) ^^^ d) := rfl
  have s1 := steps_shift (r ^^^ a) 1 b
  have s2 := steps_shift ((r ^^^ a) ^^^ 256 * b) 2 c
  have s3 := steps_shift (((r ^^^ a) ^^^ 256 * b) ^^^ 65536 * c) 3 d
  simp only [Nat.reduceMul, Nat.reduceAdd, Nat.reducePow] at s1 s2 s3
  rw [e1, s1, s2, s3]
  congr 1
  have j1 := joined (a := a) (b := b) (n := 8) (by omega)
  have j2 := joined (a := a + 256 * b) (b := c) (n := 16) (by omega)
  have j3 := joined (a := a + 256 * b + 65536 * c) (b := d) (n := 24) (by omega)
  simp only [Nat.reducePow] at j1 j2 j3
  rw [Nat.xor_assoc (r ^^^ a ^^^ 256 * b), Nat.xor_assoc (r ^^^ a), Nat.xor_assoc r, ← Nat.xor_assoc (256 * b), ← Nat.xor_assoc a, ← Nat.xor_assoc a, j1, j2, j3]

end

section

theorem reg_word (r x : Nat) (hx : x < 4294967296) : reg r (four (x : Int)) = steps 32 (r ^^^ x) := by
  have e : four (x : Int) = [((x % 256 : Nat) : Int), ((x / 256 % 256 : Nat) : Int), ((x / 65536 % 256 : Nat) : Int), ((x / 16777216 % 256 : Nat) : Int)] := by
    unfold four
    simp
  rw [e, reg_four r _ _ _ _ (by omega) (by omega) (by omega)]
  congr 2
  omega

theorem four_byteL (n : Int) : ByteL (four n) := four_bytes n

theorem byteL_append {xs ys : List Int} (h : ByteL xs) (k : ByteL ys) : ByteL (xs ++ ys) := fun z hz => by
  rcases List.mem_append.1 hz with hz | hz
  · exact h z hz
  · exact k z hz

theorem sumOf_lt {zs : List Int} (hz : ByteL zs) : sumOf zs < 4294967296 := sumOn_lt (by omega) hz

theorem xor_same_left {a b : Nat} (h : a ^^^ b = a) : b = 0 := by
  have h1 := congrArg (a ^^^ ·) h
  simp only [← Nat.xor_assoc, Nat.xor_self, Nat.zero_xor] at h1
  exact h1

theorem reg_zero_noughts (k : Nat) : reg 0 (List.replicate k 0) = 0 := by
  induction k with
  | zero => rfl
  | succ k ih => rw [List.replicate_succ]; exact ih

theorem noughts_byteL (k : Nat) : ByteL (List.replicate k 0) := fun z hz => by rw [List.eq_of_mem_replicate hz]; omega

/-- SumsUnlike, within. -/
def turnC (k : Nat) (b : Int) (m : Nat) : List Int := List.replicate k 0 ++ (four b ++ List.replicate m 0)

theorem turn_iff (zs : List Int) (k m b : Nat) (hl : zs.length = k + 4 + m) (hb : b < 4294967296) : sumOf zs = sumOf (xorL zs (turnC k (b : Int) m)) ↔ b = 0 := by
  have h1 : reg (inv 0 ^^^ 0) (xorL zs (turnC k (b : Int) m)) = reg (inv 0) zs ^^^ reg 0 (turnC k (b : Int) m) := reg_xor _ _ _ _ (by simp [turnC, four_len]; omega)
  rw [Nat.xor_zero] at h1
  have h2 : reg 0 (turnC k (b : Int) m) = reg (steps 32 b) (List.replicate m 0) := by
    unfold turnC
    rw [reg_append, reg_append, reg_zero_noughts, reg_word _ _ hb, Nat.zero_xor]
  have h3 : reg (steps 32 b) (List.replicate m 0) = 0 ↔ b = 0 := by
    have := reg_inj (r := steps 32 b) (s := 0) (steps_lt 32 hb) (by omega) (noughts_byteL m)
    rw [reg_zero_noughts] at this
    rw [this]
    constructor
    · exact fun h => steps_zero 32 hb h
    · intro h; rw [h, steps_nought]
  rw [← h3, ← h2]
  show inv (reg (inv 0) zs) = inv (reg (inv 0) (xorL zs (turnC k (b : Int) m))) ↔ _
  rw [inv_inj, h1]
  constructor
  · intro h; exact xor_same_left h.symm
  · intro h; rw [h, Nat.xor_zero]

end

end Go.Proofs.YtohndckbhjakfaaGreatDoor

