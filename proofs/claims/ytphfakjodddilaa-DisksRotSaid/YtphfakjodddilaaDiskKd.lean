/- A disk among others, as it is read: contracts of what leaves it as it is. -/
import Derived.Test.YtphfakjodddilaaDiskAlive
namespace Go.Proofs.Ytphfakjodddilaa
open Go.RowKit
set_option linter.unusedSimpArgs false
set_option linter.unusedVariables false

/-- A disk lies in memory, maybe among others. -/
def Kd (B : Nat) (w : World) (g : Nat) (dur : List Sec) (pend : List Wr) : Prop := ∃ a b, Ks B w (a ++ ⟨g, dur, pend⟩ :: b)
section
variable {B g g' : Nat} {w w' : World} {dur dur' : List Sec} {pend pend' : List Wr}
theorem Ks.kd {a b : List Dk} {k : Dk} (h : Ks B w (a ++ k :: b)) : Kd B w k.g k.dur k.pend := ⟨a, b, h⟩
theorem Kd.below (h : Kd B w g dur pend) (hb : Below w.heap.size w w') : Kd B w' g dur pend := by
  obtain ⟨a, b, h⟩ := h
  exact ⟨a, b, h.below hb⟩
theorem Kd.alloc (h : Kd B w g dur pend) (o : Obj) : Kd B (w.alloc o) g dur pend := h.below ((Below.refl _ _).alloc (Nat.le_refl _) o)
theorem Kd.facts (h : Kd B w g dur pend) : 0 < dur.length ∧ dur.length ≤ 16384 ∧ (∀ s ∈ dur, OkB s.b) ∧ (∀ x ∈ pend, OkB x.b ∧ x.n < dur.length) := by
  obtain ⟨a, b, h⟩ := h
  exact h.facts
theorem kd_first (n : Nat) (w : World) (h : Kd B w g dur pend) (hn : n < dur.length) :
    Calls Try.prog 27 #[.pointer (some ⟨g, 0, none⟩), .int .i64 (n : Int)] w fun e w' => e = .returned (.int .i64 (firstI (secAt (seenOf dur pend) n))) ∧ Below w.heap.size w w' := by
  obtain ⟨a, b, h⟩ := h
  exact first_any n w h hn
theorem kd_left (keep : Nat) (torn : Int) (w : World) (h : Kd B w g dur pend) (hkeep : keep < 18446744073709551616) (hp : pend.length ≤ 1000000000) :
    Calls Try.prog 23 #[.pointer (some ⟨g, 0, none⟩), .int .u64 (keep : Int), .int .i64 torn] w fun e w' => ∃ g', e = .returned (.pointer (some ⟨g', 0, none⟩)) ∧ Kd B w' g' (leftOf keep torn dur pend) [] ∧ Below w.heap.size w w' := by
  obtain ⟨a, b, h⟩ := h
  refine (left_any keep torn w h hkeep hp).mono ?_
  rintro e w' ⟨g', rfl, hk, hb⟩
  exact ⟨g', rfl, ⟨[], _, hk⟩, hb⟩
theorem kd_alike (w : World) (h : Kd B w g dur pend) (h' : Kd B w g' dur' pend') (hs : SameL (seenOf dur pend) (seenOf dur' pend')) :
    Calls Try.prog 24 #[.pointer (some ⟨g, 0, none⟩), .pointer (some ⟨g', 0, none⟩)] w fun e w' => e = .returned (.bool true) ∧ Below w.heap.size w w' := by
  obtain ⟨a, b, h⟩ := h
  obtain ⟨a', b', h'⟩ := h'
  exact alike_any (k := ⟨g, dur, pend⟩) (k' := ⟨g', dur', pend'⟩) w h h' hs
theorem kd_waits (w : World) (h : Kd B w g dur pend) : Calls Try.prog 19 #[.pointer (some ⟨g, 0, none⟩)] w fun e w' => e = .returned (.int .i64 (pend.length : Int)) ∧ w = w' := by
  obtain ⟨a, b, h⟩ := h
  exact k_waits w h
theorem kd_read (n : Nat) (w : World) (h : Kd B w g dur pend) (hn : n < dur.length) (s : Sec) (hs : s = secAt (seenOf dur pend) n) :
    Calls Try.prog 12 #[.pointer (some ⟨g, 0, none⟩), .int .i64 (n : Int)] w fun e w' => e = .returned (.tuple #[rdV s.bad w.heap.size, rdE s.bad]) ∧ w' = w.alloc (.cells (secV s).toArray 64) := by
  obtain ⟨a, b, h⟩ := h
  exact k_read n w h hn s hs
end
theorem left_none (keep : Nat) (torn : Int) (dur : List Sec) : leftOf keep torn dur [] = dur := rfl
theorem seen_none (dur : List Sec) : seenOf dur [] = dur := rfl
end Go.Proofs.Ytphfakjodddilaa
