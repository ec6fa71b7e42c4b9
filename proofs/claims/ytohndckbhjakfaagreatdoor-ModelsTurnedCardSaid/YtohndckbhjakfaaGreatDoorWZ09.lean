/- Merged: Alive6, RegU, RegV. -/
import Derived.Test.YtohndckbhjakfaaGreatDoorWZ08
import Derived.Test.YtohndckbhjakfaaGreatDoorWZ03
import Derived.Deep.RegionHeld
import Derived.NoCompiler
import Derived.Great.BuildSlice
import Derived.Test.YtohndckbhjakfaaGreatDoorWZ00
import Derived.Deep.Cut
namespace Go.Proofs.YtohndckbhjakfaaGreatDoor

section
open Go.RowKit
set_option linter.unusedVariables false
set_option linter.unusedSimpArgs false
set_option maxRecDepth 100000

theorem below_al6 {W v : World} {o : Obj} (h : Below W.heap.size W v) : Below W.heap.size W (v.alloc o) := h.alloc h.size o

theorem below_nx6 {W v w' : World} (h : Below W.heap.size W v) (k : Below v.heap.size v w') : Below W.heap.size W w' := h.trans (k.mono h.size)

end

section
open Go.RowKit

section
variable {P : Program} {ops : Array Oper} {Q : Exit → Act → World → Prop} {md : Region.Mode} {S : Bool → World → Prop} {t : Nat}

/-- Does operation t wait for operation i? -/
def waitsB (md : Region.Mode) (ops : Array Oper) (t i : Nat) : Bool :=
  match ops[t]? with
  | some o => o.after.any fun e => Region.binds md e && e.on == i
  | none => false

/-- What holds where operation i has not come up. -/
def Yet (md : Region.Mode) (ops : Array Oper) (S : Bool → World → Prop) (t i : Nat) (w : World) : Prop := ∃ b, (b = true → waitsB md ops t i = false) ∧ S b w

def wpAnyU (P : Program) (md : Region.Mode) (ops : Array Oper) (Q : Exit → Act → World → Prop) (S : Bool → World → Prop) (t : Nat) : Nat → Array Bool → Act → World → Prop
  | 0, listed, a, w => Region.ready md ops listed = [] ∧ Q .normal a w
  | fuel + 1, listed, a, w =>
    (Region.ready md ops listed = [] → Q .normal a w) ∧
    ∀ i ∈ Region.ready md ops listed, wpOp P ops Q i (fun a' w' => S ((listed.setIfInBounds i true).getD t true) w' ∧ wpAnyU P md ops Q S t fuel (listed.setIfInBounds i true) a' w') a w

theorem wpAny_of_U : ∀ (fuel : Nat) (listed : Array Bool) (a : Act) (w : World), wpAnyU P md ops Q S t fuel listed a w → wpAny P md ops Q fuel listed a w
  | 0, _, _, _, h => h
  | fuel + 1, _, _, _, h => ⟨h.1, fun i hi => wpOp_mono (fun a' w' h' => wpAny_of_U fuel _ a' w' h'.2) (h.2 i hi)⟩

theorem wpAnyU_first {i : Nat} {oi : Oper} {v : Value} (hi : ops[i]? = some oi) (hsel : ∀ (j : Nat) (o : Oper) cs b, ops[j]? = some o → o.op ≠ .select cs b)
    (hQ : ∀ c a w, Q (.panic c) (a.put oi.dst v) w → Q (.panic c) a w) (hit : i ≠ t) :
    ∀ (fuel : Nat) (listed : Array Bool) (a : Act) (w : World),
      (∀ j oj, ops[j]? = some oj → j ≠ i → listed.getD j true = false → (∀ e ∈ oj.after, Region.binds md e = true → e.on ≠ i) → oi.apart ops oj = true) →
      i ∈ Region.ready md ops listed → YieldsIf P ops (Yet md ops S t i) oi v a → (listed.getD t true = true → waitsB md ops t i = false) → S (listed.getD t true) w →
      wpAnyU P md ops Q S t fuel (listed.setIfInBounds i true) (a.put oi.dst v) w → wpAnyU P md ops Q S t (fuel + 1) listed a w := by
  intro fuel
  induction fuel with
  | zero =>
    intro listed a w _ hr hy hw hS H
    refine ⟨fun h => (by rw [h] at hr; cases hr), fun j hj => ?_⟩
    by_cases hji : j = i
    · subst hji; exact hy.wpOp hi ⟨_, hw, hS⟩ ⟨by rw [getD_set_ne true hit]; exact hS, H⟩
    · have := ready_mono hj hji
      rw [H.1] at this
      cases this
  | succ fuel ih =>
    intro listed a w hfree hr hy hw hS H
    refine ⟨fun h => (by rw [h] at hr; cases hr), fun j hj => ?_⟩
    by_cases hji : j = i
    · subst hji; exact hy.wpOp hi ⟨_, hw, hS⟩ ⟨by rw [getD_set_ne true hit]; exact hS, H⟩
    · have h1 := H.2 j (ready_mono hj hji)
      obtain ⟨hjun, oj, hoj, hall⟩ := mem_ready.1 hj
      have hnot : ∀ e ∈ oj.after, Region.binds md e = true → e.on ≠ i := fun e he hb heq => by
        have h1 := hall e he hb
        have h0 := (mem_ready.1 hr).1
        rw [heq] at h1
        rcases Nat.lt_or_ge i listed.size with h' | h'
        · simp [h'] at h0 h1; rw [h0] at h1; cases h1
        · simp [Array.getElem?_eq_none h'] at h1
      have h2 := wpOp_putIf hoj (hfree j oj hoj hji hjun hnot) (fun cs b => hsel i oi cs b hi) (fun cs b => hsel j oj cs b hoj) hQ hy h1
      have hfree' : ∀ k ok, ops[k]? = some ok → k ≠ i → (listed.setIfInBounds j true).getD k true = false →
          (∀ e ∈ ok.after, Region.binds md e = true → e.on ≠ i) → oi.apart ops ok = true := fun k ok hk hki hun hno => by
        refine hfree k ok hk hki ?_ hno
        by_cases hjk : j = k
        · subst hjk; exact hjun
        · rw [getD_set_ne true hjk] at hun; exact hun
      have hw' : (listed.setIfInBounds j true).getD t true = true → waitsB md ops t i = false := fun hl => by
        by_cases hjt : j = t
        · subst hjt
          unfold waitsB
          rw [hoj]
          simp only [Array.any_eq_false']
          intro e he hb
          simp only [Bool.and_eq_true, beq_iff_eq] at hb
          exact hnot e he hb.1 hb.2
        · rw [getD_set_ne true hjt] at hl
          exact hw hl
      have hS2 : ∀ w', S (((listed.setIfInBounds i true).setIfInBounds j true).getD t true) w' → S ((listed.setIfInBounds j true).getD t true) w' := fun w' h => by
        rw [Array.setIfInBounds_comm _ _ (Ne.symm hji), getD_set_ne true hit] at h
        exact h
      refine wpOp_mono (fun a' w' h3 => ⟨hS2 w' h3.2.1, ih (listed.setIfInBounds j true) a' w' hfree' (ready_mono hr (Ne.symm hji)) h3.1 hw' (hS2 w' h3.2.1) ?_⟩) h2
      rw [Array.setIfInBounds_comm _ _ hji]
      exact h3.2.2

theorem wpAnyU_take {i : Nat} {oi : Oper} {v : Value} {fuel : Nat} {listed : Array Bool} {a : Act} {w : World} (hi : ops[i]? = some oi)
    (hs : Region.noSelect ops = true) (hf : Region.free md ops listed i = true) (hr : (Region.ready md ops listed).contains i = true) (ht : (i != t && (!listed.getD t true || !waitsB md ops t i)) = true)
    (hQ : ∀ c a w, Q (.panic c) (a.put oi.dst v) w → Q (.panic c) a w) (hy : YieldsIf P ops (Yet md ops S t i) oi v a) (hS : S (listed.getD t true) w)
    (h : wpAnyU P md ops Q S t fuel (listed.setIfInBounds i true) (a.put oi.dst v) w) : wpAnyU P md ops Q S t (fuel + 1) listed a w := by
  simp only [Bool.and_eq_true, bne_iff_ne, ne_eq, Bool.or_eq_true, Bool.not_eq_true'] at ht
  exact wpAnyU_first hi (Region.noSelect_spec hs) hQ ht.1 fuel listed a w (Region.free_spec hi hf) (by simpa using hr) hy (fun hl => ht.2.resolve_left (by rw [hl]; simp)) hS h

/-- One operation alone may come up. -/
theorem wpAnyU_one {i : Nat} {o : Oper} {fuel : Nat} {listed : Array Bool} {a : Act} {w : World} (hr : Region.ready md ops listed = [i]) (ho : ops[i]? = some o)
    (h : ∀ K' : Act → World → Prop, Shut (∀ a w, S ((listed.setIfInBounds i true).getD t true) w → (S ((listed.setIfInBounds i true).getD t true) w → wpAnyU P md ops Q S t fuel (listed.setIfInBounds i true) a w) → K' a w) → if Region.wanted o (yielded ops a.tmps) = true then Oper.wp P o a w K' Q else K' (a.put o.dst undef) w) :
    wpAnyU P md ops Q S t (fuel + 1) listed a w := by
  refine ⟨(fun h0 => by rw [hr] at h0; cases h0), fun j hj => ?_⟩
  rw [hr] at hj
  obtain rfl : j = i := by simpa using hj
  exact wpOp_step ho (fun K' hK => h K' (fun a w hS hW => hK a w ⟨hS, hW hS⟩))

theorem wpAnyU_done {listed : Array Bool} {a : Act} {w : World} (hr : Region.ready md ops listed = []) (h : Q .normal a w) :
    ∀ fuel, wpAnyU P md ops Q S t fuel listed a w
  | 0 => ⟨hr, h⟩
  | _ + 1 => ⟨fun _ => h, by rw [hr]; simp⟩

theorem wp_region_U {id : Nat} {a : Act} {w : World} (S : Bool → World → Prop) (t : Nat) (hm : P.follows .mixedOrders = true)
    (h : wpAnyU P .any ops Q S t ops.size (Array.replicate ops.size false) a w.drew) : (Code.region id ops true).wp P Q a w :=
  wp_region_any hm (wpAny_of_U _ _ _ _ h)

theorem yields_take {o : Oper} {v : Value} {a : Act} {S : World → Prop} (hw : Region.wanted o (yielded ops a.tmps) = true) (h : ∀ w, S w → (execOp a.eval o).run P w = .ok (.value v) w) : YieldsIf P ops S o v a := .inl ⟨hw, h⟩

theorem Yet.no {i : Nat} {w : World} (h : Yet md ops S t i w) (hw : waitsB md ops t i = true) : S false w := by
  obtain ⟨b, hb, hs⟩ := h
  cases b
  · exact hs
  · rw [hb rfl] at hw; cases hw

theorem Yet.const {S : World → Prop} {i : Nat} {w : World} (h : Yet md ops (fun _ => S) t i w) : S w := by
  obtain ⟨_, _, hs⟩ := h
  exact hs

/-- Two literals of numbers, each in a new block. -/
def TwoL (W : World) (k k' : IntKind) (xs ys : List Int) (x y : Value) (v : World) : Prop :=
  ∃ gx gy, x = .slice (some ⟨gx, 0, none⟩) xs.length xs.length ∧ y = .slice (some ⟨gy, 0, none⟩) ys.length ys.length ∧ Lies v (some ⟨gx, 0, none⟩) xs.length (xs.map (Value.int k)) ∧ Lies v (some ⟨gy, 0, none⟩) ys.length (ys.map (Value.int k')) ∧ Below W.heap.size W v

theorem lit_lies (w : World) (k : IntKind) (zs : List Int) (t : TypeId) : Lies (w.alloc (.cells (zs.map (Value.int k)).toArray t)) (some ⟨w.heap.size, 0, none⟩) zs.length (zs.map (Value.int k)) :=
  ⟨by simp, fun _ => ⟨w.heap.size, 0, rfl, by simp, fun j hj => by rw [Nat.zero_add, cell_of_row _ _ j _ _ (0, 0) (heap_alloc_new w _)]; simp⟩⟩

theorem TwoL.fst {W u : World} {k k' : IntKind} {xs ys : List Int} (t t' : TypeId) (hb : Below W.heap.size W u) :
    TwoL W k k' xs ys (.slice (some ⟨u.heap.size, 0, none⟩) xs.length xs.length) (.slice (some ⟨u.heap.size + 1, 0, none⟩) ys.length ys.length) ((u.alloc (.cells (xs.map (Value.int k)).toArray t)).alloc (.cells (ys.map (Value.int k')).toArray t')) :=
  ⟨_, _, rfl, rfl, (lit_lies u k xs t).alloc _, by have h := lit_lies (u.alloc (.cells (xs.map (Value.int k)).toArray t)) k' ys t'; rwa [World.size_alloc] at h, (hb.alloc hb.size _).alloc (by simp; have := hb.size; omega) _⟩

end

end

section
open Go.RowKit

section
variable {P : Program} {ops : Array Oper} {Q : Exit → Act → World → Prop} {md : Region.Mode} {S : Bool → World → Prop} {t : Nat}

end

end

end Go.Proofs.YtohndckbhjakfaaGreatDoor

