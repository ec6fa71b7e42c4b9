/- Plain words for the book's grow: one more behind a list of the call's own, whether it fits or moves; what stays of the list itself; many lists, one behind the other. No function of the program is named here. -/
import Derived.Test.YtlalfjlcgabnnaaGreatDoorFill
import Derived.Test.YtlalfjlcgabnnaaGreatDoorOwn
namespace Go.Proofs.YtlalfjlcgabnnaaGreatDoor
open Go.RowKit

/-- In the middle of one list's growing: k marks stand behind it. -/
structure GrowIn (W0 wi : World) (base : Nat) (e : TypeId) (x : Value) (A : Option Addr) (n c k : Nat) (A2 : Option Addr) (c2 : Nat) : Prop where
  own : wi.ownsRow base e 1 (.slice A2 (n + k) c2) (n + k) (List.replicate (n + k) x)
  lies : Lies wi A n (List.replicate n x)
  only : W0.grownBy wi (Value.slice A n c).ownBlock
  loc : (Value.slice A2 (n + k) c2).ownBlock = (Value.slice A n c).ownBlock ∨ ∀ g, (Value.slice A2 (n + k) c2).ownBlock = some g → W0.heap.size ≤ g
  typ : ∀ g, (Value.slice A n c).ownBlock = some g → ∃ cur, wi.heap[g]? = some (.cells cur e (0, 0))

theorem GrowIn.start {W0 : World} {base : Nat} {e : TypeId} {x : Value} {A : Option Addr} {n c : Nat} (h : W0.ownsRow base e 1 (.slice A n c) n (List.replicate n x)) : GrowIn W0 W0 base e x A n c 0 A c :=
  ⟨h, lies_of_own h, World.grownBy.refl _ _, .inl (by cases A <;> rfl), fun _ hg => own_type h hg⟩

theorem GrowIn.step {W0 wi w1 w' : World} {base : Nat} {e : TypeId} {x : Value} {A : Option Addr} {n c k : Nat} {A2 A3 : Option Addr} {c2 c3 : Nat} (h : GrowIn W0 wi base e x A n c k A2 c2) (h01 : W0.ownsRow base e 1 (.slice A n c) n (List.replicate n x))
    (hb : Below wi.heap.size wi w1) (ho : w'.ownsRow base e 1 (.slice A3 (n + k + 1) c3) (n + k + 1) (List.replicate (n + k) x ++ [x])) (hm : Moved w1 w' (.slice A2 (n + k) c2) (.slice A3 (n + k + 1) c3)) :
    GrowIn W0 w' base e x A n c (k + 1) A3 c3 := by
  have hrep : List.replicate (n + k) x ++ [x] = List.replicate (n + (k + 1)) x := by rw [← Nat.add_assoc, List.replicate_succ']
  rw [hrep] at ho
  have hl1 : Lies w1 A n (List.replicate n x) := h.lies.below hb
  have hs1 : W0.heap.size ≤ w1.heap.size := Nat.le_trans h.only.size hb.size
  have honly1 : W0.grownBy w1 (Value.slice A n c).ownBlock := grown_trans h.only (grown_below hb _)
  have htyp1 : ∀ g, (Value.slice A n c).ownBlock = some g → g < w1.heap.size ∧ ∃ cur, w1.heap[g]? = some (.cells cur e (0, 0)) := fun g hgg => by
    obtain ⟨cur, hc⟩ := h.typ g hgg
    have hc1 := (hb.block g (lt_of_heap hc)).trans hc
    exact ⟨lt_of_heap hc1, cur, hc1⟩
  rcases hm with ⟨hv, hg⟩ | ⟨hg, hnew⟩
  · refine ⟨ho, ?_, ?_, ?_, ?_⟩
    · refine ⟨h.lies.len, fun hn => ?_⟩
      obtain ⟨b, o, rfl, hlt, hc⟩ := hl1.cells hn
      obtain ⟨g, e1⟩ : ∃ g, (some ⟨b, o, none⟩ : Option Addr) = some ⟨g, 0, none⟩ := by rcases own_addr h01 with h2 | h2; cases h2; exact h2
      injection e1 with e1
      injection e1 with e1 e2
      subst e2
      refine ⟨b, 0, rfl, Nat.lt_of_lt_of_le hlt hg.size, fun j hj => ?_⟩
      by_cases hsame : (Value.slice A2 (n + k) c2).ownBlock = some b
      · rcases own_addr ho with rfl | ⟨g3, rfl⟩
        · rw [hsame] at hv; cases hv
        · have e3 : g3 = b := by rw [hsame] at hv; simpa [Value.ownBlock] using hv
          subst e3
          rw [Nat.zero_add, World.ownsRow.cellAt ho j (by omega)]
          simp [show j < n by omega, show j < n + (k + 1) by omega]
      · rw [World.cell?_of_block (w := w1) (hg.block b hlt (fun e3 => hsame e3.symm))]
        exact hc j hj
    · refine ⟨hg.os.trans honly1.os, hg.tape.trans honly1.tape, hg.output.trans honly1.output, Nat.le_trans hs1 hg.size, fun i hi hne => ?_⟩
      rw [hg.block i (Nat.lt_of_lt_of_le hi hs1) (fun e3 => ?_), honly1.block i hi hne]
      rcases h.loc with h4 | h4
      · exact hne (e3.trans h4)
      · have := h4 i e3.symm; omega
    · rcases h.loc with h4 | h4
      · exact .inl (hv.trans h4)
      · exact .inr fun g hgg => h4 g (by rw [← hv]; exact hgg)
    · intro g hgg
      obtain ⟨hlt, cur, hc⟩ := htyp1 g hgg
      by_cases hsame : (Value.slice A2 (n + k) c2).ownBlock = some g
      · exact own_type ho (hv.trans hsame)
      · exact ⟨cur, (hg.block g hlt (fun e3 => hsame e3.symm)).trans hc⟩
  · refine ⟨ho, hl1.grown hg (by simp), ?_, .inr fun g hgg => Nat.le_trans hs1 (hnew g hgg), fun g hgg => ?_⟩
    rotate_left
    · obtain ⟨hlt, cur, hc⟩ := htyp1 g hgg
      exact ⟨cur, (hg.block g hlt (by simp)).trans hc⟩
    exact grown_trans honly1 ⟨hg.os, hg.tape, hg.output, hg.size, fun i hi _ => hg.block i hi (by simp)⟩

/-- The first k lists have their marks behind them; what stands in the held row tells where. -/
structure GrowTo (w wr : World) (base : Nat) (e hT : TypeId) (mk : Nat → Value) (H : Option Addr) (c : Nat) (its0 its : List It) (k : Nat) : Prop where
  keep : KeepT [e, hT] w wr
  below : Below base w wr
  row : wr.ownsRow base hT 3 (.slice H its.length c) its.length (held its)
  len : its.length = its0.length
  same : ∀ (i : Nat) (t t0 : It), its[i]? = some t → its0[i]? = some t0 → t.A = t0.A ∧ t.n = t0.n ∧ t.c = t0.c ∧ t.m = t0.m
  done : ∀ (i : Nat) (t : It), i < k → its[i]? = some t → t.n2 = t.n + 40 ∧ Lies wr t.A t.n (List.replicate t.n (mk t.m)) ∧ wr.ownsRow base e 1 t.long (t.n + 40) (List.replicate (t.n + 40) (mk t.m)) ∧ (t.long.ownBlock = t.l.ownBlock ∨ ∀ g, t.long.ownBlock = some g → w.heap.size ≤ g) ∧ ∀ g, t.l.ownBlock = some g → ∃ cur, wr.heap[g]? = some (.cells cur e (0, 0))
  todo : ∀ (i : Nat) (t : It), k ≤ i → its[i]? = some t → wr.ownsRow base e 1 t.l t.n (List.replicate t.n (mk t.m))
  apart : ∀ (i j : Nat) (t u : It), i ≠ j → its[i]? = some t → its[j]? = some u → t.l.ownBlock = none ∨ t.l.ownBlock ≠ u.l.ownBlock
  old : ∀ (i : Nat) (t : It) (g : Nat), its[i]? = some t → t.l.ownBlock = some g → g < w.heap.size
  neH : ∀ (i : Nat) (t : It) (g : Nat), its[i]? = some t → t.l.ownBlock = some g → (Value.slice H 0 0).ownBlock ≠ some g

theorem GrowTo.start {w : World} {base : Nat} {e hT : TypeId} (hne : e ≠ hT) {mk : Nat → Value} {H : Option Addr} {c : Nat} {its : List It} (hr : w.ownsRow base hT 3 (.slice H its.length c) its.length (held its))
    (hd : ∀ (i : Nat) (t : It), its[i]? = some t → w.ownsRow base e 1 t.l t.n (List.replicate t.n (mk t.m)))
    (ha : ∀ (i j : Nat) (t u : It), i ≠ j → its[i]? = some t → its[j]? = some u → t.l.ownBlock = none ∨ t.l.ownBlock ≠ u.l.ownBlock) : GrowTo w w base e hT mk H c its its 0 :=
  ⟨KeepT.refl _ _, Below.refl _ _, hr, rfl, fun i t t0 h h0 => by rw [h] at h0; injection h0 with h0; subst h0; exact ⟨rfl, rfl, rfl, rfl⟩, fun i t hi _ => absurd hi (by omega), fun i t _ ht => hd i t ht, ha,
    fun i t g ht hg => (own_lt (hd i t ht) hg).2, fun i t g ht hg e1 => by
      rcases own_neT (hd i t ht) hr hne with h2 | h2
      · rw [h2] at hg; cases hg
      · refine h2 (hg.trans ?_)
        cases H with
        | none => cases e1
        | some a => exact e1.symm⟩

theorem block_of_addr {A : Option Addr} {n c b o : Nat} (h : A = some ⟨b, o, none⟩) : (Value.slice A n c).ownBlock = some b := by subst h; rfl

theorem GrowTo.step {w wr w2 : World} {base : Nat} {e hT : TypeId} {mk : Nat → Value} {gH c : Nat} {its0 its : List It} {k : Nat} {t : It} {A2 : Option Addr} {c2 : Nat} (hne : e ≠ hT)
    (h : GrowTo w wr base e hT mk (some ⟨gH, 0, none⟩) c its0 its k) (hb : base ≤ w.heap.size) (ht : its[k]? = some t)
    (hg : wr.grownBy w2 t.l.ownBlock) (hl : Lies w2 t.A t.n (List.replicate t.n (mk t.m))) (ho : w2.ownsRow base e 1 (.slice A2 (t.n + 40) c2) (t.n + 40) (List.replicate (t.n + 40) (mk t.m)))
    (hloc : (Value.slice A2 (t.n + 40) c2).ownBlock = t.l.ownBlock ∨ ∀ g, (Value.slice A2 (t.n + 40) c2).ownBlock = some g → wr.heap.size ≤ g)
    (htyp : ∀ g, t.l.ownBlock = some g → ∃ cur, w2.heap[g]? = some (.cells cur e (0, 0))) :
    GrowTo w (w2.setCell ⟨gH, k * 3 + 1, none⟩ (.slice A2 (t.n + 40) c2)) base e hT mk (some ⟨gH, 0, none⟩) c its0 (its.set k { t with A2 := A2, n2 := t.n + 40, c2 := c2 }) (k + 1) := by
  have hkl : k < its.length := (List.getElem?_eq_some_iff.1 ht).1
  have hown := h.todo k t (Nat.le_refl _) ht
  have hrow2 : w2.ownsRow base hT 3 (.slice (some ⟨gH, 0, none⟩) its.length c) its.length (held its) := h.row.kept hg (own_neT h.row hown (Ne.symm hne))
  have hrowB : (Value.slice (some ⟨gH, 0, none⟩) its.length c).ownBlock = some gH := rfl
  have hs3 := grown_setCell w2 ⟨gH, k * 3 + 1, none⟩ (.slice A2 (t.n + 40) c2)
  have hst := (hrow2.stored (k * 3 + 1) (.slice A2 (t.n + 40) c2)).1
  rw [held_set its k t A2 (t.n + 40) c2 ht] at hst
  -- a row of elements e stays, whatever is stored in the held row
  have stay : ∀ {v : Value} {n : Nat} {xs : List Value}, w2.ownsRow base e 1 v n xs → (w2.setCell ⟨gH, k * 3 + 1, none⟩ (.slice A2 (t.n + 40) c2)).ownsRow base e 1 v n xs :=
    fun hv => hv.kept hs3 (own_neT hv hrow2 hne)
  have lstay : ∀ {A : Option Addr} {n : Nat} {xs : List Value}, (∀ b o, A = some ⟨b, o, none⟩ → b ≠ gH) → Lies w2 A n xs → Lies (w2.setCell ⟨gH, k * 3 + 1, none⟩ (.slice A2 (t.n + 40) c2)) A n xs :=
    fun hA hv => hv.grown hs3 (fun b o e1 e2 => hA b o e1 (by injection e2))
  have lneH : ∀ (i : Nat) (u : It), its[i]? = some u → ∀ b o, u.A = some ⟨b, o, none⟩ → b ≠ gH := by
    intro i u hu b o e1 e2
    subst e2
    exact h.neH i u b hu (block_of_addr e1) rfl
  have hat : ∀ (i : Nat) (u : It), (its.set k { t with A2 := A2, n2 := t.n + 40, c2 := c2 })[i]? = some u → (i = k ∧ u = { t with A2 := A2, n2 := t.n + 40, c2 := c2 }) ∨ (i ≠ k ∧ its[i]? = some u) := by
    intro i u hu
    by_cases e1 : i = k
    · subst e1
      rw [List.getElem?_set_self hkl] at hu
      injection hu with hu
      exact .inl ⟨rfl, hu.symm⟩
    · rw [List.getElem?_set_ne (Ne.symm e1)] at hu
      exact .inr ⟨e1, hu⟩
  have hlow : ∀ (i : Nat) (u : It), (its.set k { t with A2 := A2, n2 := t.n + 40, c2 := c2 })[i]? = some u → ∃ u0, its[i]? = some u0 ∧ u0.l = u.l ∧ u0.A = u.A ∧ u0.n = u.n ∧ u0.c = u.c ∧ u0.m = u.m := by
    intro i u hu
    rcases hat i u hu with ⟨rfl, rfl⟩ | ⟨_, h1⟩
    · exact ⟨t, ht, rfl, rfl, rfl, rfl, rfl⟩
    · exact ⟨u, h1, rfl, rfl, rfl, rfl, rfl⟩
  refine ⟨?_, ?_, ?_, by rw [List.length_set]; exact h.len, ?_, ?_, ?_, ?_, ?_, ?_⟩
  · refine (h.keep.trans (KeepT.grown hg (fun g hgg => ?_))).trans (KeepT.grown hs3 (fun g hgg => ?_))
    · obtain ⟨cur, hc⟩ := own_type hown hgg
      exact ⟨cur, e, (0, 0), hc, by simp⟩
    · injection hgg with hgg
      subst hgg
      obtain ⟨cur, hc⟩ := own_type hrow2 hrowB
      exact ⟨cur, hT, (0, 0), hc, by simp⟩
  · refine (h.below.grown hg (Nat.le_trans hb h.keep.size) (fun g hgg => (own_lt hown hgg).1)).grown hs3 (Nat.le_trans hb (Nat.le_trans h.keep.size hg.size)) (fun g hgg => ?_)
    injection hgg with hgg
    subst hgg
    exact (own_lt hrow2 hrowB).1
  · rw [List.length_set]
    exact hst
  · intro i u u0 hu hu0
    obtain ⟨v, hv, _, e1, e2, e3, e4⟩ := hlow i u hu
    obtain ⟨s1, s2, s3, s4⟩ := h.same i v u0 hv hu0
    exact ⟨e1 ▸ s1, e2 ▸ s2, e3 ▸ s3, e4 ▸ s4⟩
  · intro i u hi hu
    rcases hat i u hu with ⟨rfl, rfl⟩ | ⟨hik, h1⟩
    · refine ⟨rfl, lstay (lneH i t ht) hl, stay ho, ?_, fun g hgg => ?_⟩
      rotate_left
      · obtain ⟨cur, hc⟩ := htyp g hgg
        exact ⟨cur, (hs3.block g (lt_of_heap hc) (fun e6 => h.neH i t g ht hgg e6.symm)).trans hc⟩
      rcases hloc with h4 | h4
      · exact .inl h4
      · exact .inr fun g hgg => Nat.le_trans h.keep.size (h4 g hgg)
    · obtain ⟨e1, e2, e3, e4, e9⟩ := h.done i u (by omega) h1
      have hl2 : Lies w2 u.A u.n (List.replicate u.n (mk u.m)) := e2.grown hg (fun b o e5 e6 => by
        rcases h.apart i k u t hik h1 ht with h7 | h7
        · rw [It.l, block_of_addr e5] at h7; cases h7
        · exact h7 (by rw [It.l, block_of_addr e5]; exact e6))
      have ho2 : w2.ownsRow base e 1 u.long (u.n + 40) (List.replicate (u.n + 40) (mk u.m)) := e3.kept hg (by
        rcases hv : u.long.ownBlock with _ | g
        · exact .inl rfl
        · refine .inr fun e6 => ?_
          rcases e4 with h7 | h7
          · rcases h.apart i k u t hik h1 ht with h8 | h8
            · rw [← h7, hv] at h8; cases h8
            · exact h8 (by rw [← h7, hv]; exact e6)
          · have := h7 g hv
            have := h.old k t g ht e6.symm
            omega)
      refine ⟨e1, lstay (lneH i u h1) hl2, stay ho2, e4, fun g hgg => ?_⟩
      obtain ⟨cur, hc⟩ := e9 g hgg
      have hc2 := (hg.block g (lt_of_heap hc) (fun e6 => by
        rcases h.apart i k u t hik h1 ht with h7 | h7
        · rw [hgg] at h7; cases h7
        · exact h7 (hgg.trans e6))).trans hc
      exact ⟨cur, (hs3.block g (lt_of_heap hc2) (fun e6 => h.neH i u g h1 hgg e6.symm)).trans hc2⟩
  · intro i u hi hu
    rcases hat i u hu with ⟨rfl, _⟩ | ⟨hik, h1⟩
    · omega
    · exact stay ((h.todo i u (by omega) h1).kept hg (h.apart i k u t hik h1 ht))
  · intro i j u v hij hu hv
    obtain ⟨u0, hu0, e1, _⟩ := hlow i u hu
    obtain ⟨v0, hv0, e2, _⟩ := hlow j v hv
    rw [← e1, ← e2]
    exact h.apart i j u0 v0 hij hu0 hv0
  · intro i u g hu hgg
    obtain ⟨u0, hu0, e1, _⟩ := hlow i u hu
    exact h.old i u0 g hu0 (by rw [e1]; exact hgg)
  · intro i u g hu hgg
    obtain ⟨u0, hu0, e1, _⟩ := hlow i u hu
    exact h.neH i u0 g hu0 (by rw [e1]; exact hgg)

theorem Lies.keepT {T : List TypeId} {w w' : World} {A : Option Addr} {n : Nat} {xs : List Value} {e : TypeId} {c : Nat} (h : Lies w A n xs) (hk : KeepT T w w') (ht : ∀ g, (Value.slice A n c).ownBlock = some g → ∃ cur, w.heap[g]? = some (.cells cur e (0, 0))) (he : e ∉ T) : Lies w' A n xs :=
  h.keep hk.size fun b o e1 hlt j => by
    obtain ⟨cur, hc⟩ := ht b (block_of_addr e1)
    refine World.cell?_of_block (w := w) (hk.block b hlt (fun cur' e' fr' hh => ?_))
    rw [hc] at hh
    injection hh with hh
    injection hh with _ hh
    exact hh ▸ he

end Go.Proofs.YtlalfjlcgabnnaaGreatDoor
