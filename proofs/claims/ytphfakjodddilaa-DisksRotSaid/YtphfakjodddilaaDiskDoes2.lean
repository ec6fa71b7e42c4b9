/- does again: what the disk holds does not hang on where it lies; one more disk beside others. -/
import Derived.Test.YtphfakjodddilaaDiskKd
namespace Go.Proofs.Ytphfakjodddilaa
open Go.RowKit
set_option linter.unusedSimpArgs false
set_option linter.unusedVariables false

theorem step_ind (g : Nat) (d : List Sec) (p : List Wr) (x : Act1) : actStep ⟨g, d, p⟩ x = ⟨g, (actStep ⟨0, d, p⟩ x).dur, (actStep ⟨0, d, p⟩ x).pend⟩ := by
  unfold actStep
  split
  · rfl
  split
  · rfl
  split
  · unfold rotP; dsimp only; split <;> rfl
  split
  · unfold badP; dsimp only; split <;> rfl
  · rfl
def durN (l : List Act1) (j : Nat) : List Sec := (doesK 0 l j).dur
def pendN (l : List Act1) (j : Nat) : List Wr := (doesK 0 l j).pend
theorem doesK_ind (g : Nat) (l : List Act1) (j : Nat) (hj : j ≤ l.length) : doesK g l j = ⟨g, durN l j, pendN l j⟩ := by
  induction j with
  | zero => rfl
  | succ j ih =>
    have e := ih (by omega)
    have e0 : doesK 0 l j = ⟨0, durN l j, pendN l j⟩ := by
      have h := (doesK_facts 0 l j (by omega)).1
      show _ = (⟨0, (doesK 0 l j).dur, (doesK 0 l j).pend⟩ : Dk)
      rw [← h]; simp only [h]
      have : (doesK 0 l j) = ⟨(doesK 0 l j).g, (doesK 0 l j).dur, (doesK 0 l j).pend⟩ := rfl
      rw [h] at this
      exact this
    unfold durN pendN at *
    rw [doesK_succ g l (by omega), doesK_succ 0 l (by omega), e, e0, step_ind]
theorem durN_len (l : List Act1) (j : Nat) (hj : j ≤ l.length) : (durN l j).length = 8 := (doesK_facts 0 l j hj).2.2
theorem pendN_len (l : List Act1) (j : Nat) (hj : j ≤ l.length) : (pendN l j).length ≤ j := (doesK_facts 0 l j hj).2.1
theorem Ks.add {B : Nat} {w w' : World} {l : List Dk} {k : Dk} (h : Ks B w l) (hb : Below w.heap.size w w') (hB : B ≤ w.heap.size) (hk : Ks w.heap.size w' [k]) : Ks B w' (k :: l) := by
  obtain ⟨L, hg, hd, _⟩ := Ks.at (a := []) hk
  have := h.cons hb hB hd (fun x hx => (hd.lt x hx).1)
  rw [hg] at this
  exact this
/-- One more disk, behind acts. -/
theorem does_more {B : Nat} {ks : List Dk} (A : Option Addr) (n c : Nat) (l : List Act1) (w : World) (h : ActsAt w A n l) (hn : n ≤ 150) (hk : Ks B w ks) (hB : B ≤ w.heap.size) :
    Calls Try.prog 22 #[.slice A n c] w fun e w' => ∃ g, e = .returned (.pointer (some ⟨g, 0, none⟩)) ∧ Ks B w' (⟨g, durN l n, pendN l n⟩ :: ks) ∧ Below w.heap.size w w' := by
  refine (does_any A n c l w h hn).mono ?_
  rintro e w' ⟨g, rfl, hk', hb⟩
  rw [doesK_ind g l n (by rw [h.len]; exact Nat.le_refl _)] at hk'
  exact ⟨g, rfl, hk.add hb hB hk', hb⟩
end Go.Proofs.Ytphfakjodddilaa
