/- Each call on either disk, as one contract however it comes out: what it answers, in the same plain words for both. -/
import Derived.Test.YtapdaeafeejknaaGreatDoorRDisk9
import Derived.Test.YtapdaeafeejknaaGreatDoorApartR
namespace Go.Proofs.YtapdaeafeejknaaGreatDoor
open Go.RowKit
set_option maxRecDepth 20000
set_option linter.unusedVariables false
set_option linter.unusedSimpArgs false

def rotDur (n p y : Int) (dur : List Sec) : List Sec := if rotOk dur.length n p then rotD n.toNat p.toNat y dur else dur
def rotPend (n p y : Int) (dur : List Sec) (pend : List Wr) : List Wr := if rotOk dur.length n p then pend.map (rotW n.toNat p.toNat y) else pend
def badDur (n : Int) (dur : List Sec) : List Sec := if badOk dur.length n then badD n.toNat dur else dur
def badPend (n : Int) (dur : List Sec) (pend : List Wr) : List Wr := if badOk dur.length n then pend.map (badW n.toNat) else pend
def rdL (l : List Sec) (n : Int) : List Int := if n < 0 ∨ (l.length : Int) ≤ n then [] else if (secAt l n.toNat).bad then [] else (secAt l n.toNat).b
def rdEr (l : List Sec) (n : Int) : Int := if n < 0 ∨ (l.length : Int) ≤ n then 1 else if (secAt l n.toNat).bad then 12 else 0
theorem step_id (w : World) (L : Loc) : Step w w L L := ⟨Turns.refl _ _, fun _ h => .inl h⟩
theorem rstep_id (w : World) (L : RLoc) : RStep w w L L := ⟨Turns.refl _ _, fun _ h => .inl h⟩

section
variable {B : Nat} {L : Loc} {M : RLoc} {dur : List Sec} {pend : List Wr}
theorem d_write (n : Int) (A : Option Addr) (m c : Nat) (bs : List Int) (w : World) (h : DiskAt B w L dur pend) (hl : Lies w A m (bs.map (Value.int .u8))) (hb : ∀ x ∈ bs, 0 ≤ x ∧ x < 256) (hp : pend.length ≤ 1000000000) :
    Calls Tryz.prog 8 #[L.ptr, .int .i64 n, .slice A m c] w fun e w' => e = .returned (.int .i64 (errI (wrOk dur.length n m))) ∧ ∃ L', L'.g = L.g ∧ DiskAt B w' L' dur (wrP dur.length n bs pend) ∧ Step w w' L L' := by
  have hbl : bs.length = m := by have := hl.len; simpa using this
  by_cases h1 : n < 0 ∨ (dur.length : Int) ≤ n
  · have e1 : wrOk dur.length n m = false := decide_eq_false (by omega)
    refine (write_arg n A m c w h h1).mono ?_
    rintro e w' ⟨rfl, rfl⟩
    exact ⟨by rw [e1]; rfl, L, rfl, by unfold wrP; rw [hbl, e1]; exact h, step_id _ _⟩
  · obtain ⟨j, rfl⟩ := Int.eq_ofNat_of_zero_le (show 0 ≤ n by omega)
    by_cases h2 : m ≤ 64
    · have e1 : wrOk dur.length j m = true := decide_eq_true (by omega)
      refine (write_ok j A m c bs w h (by omega) hl h2 hb hp).mono ?_
      rintro e w' ⟨rfl, L', hg', hd', hs⟩
      exact ⟨by rw [e1]; rfl, L', hg', by unfold wrP; rw [hbl, e1]; exact hd', hs⟩
    · have e1 : wrOk dur.length j m = false := decide_eq_false (by omega)
      refine (write_long j A m c w h (by omega) (by omega)).mono ?_
      rintro e w' ⟨rfl, rfl⟩
      exact ⟨by rw [e1]; rfl, L, rfl, by unfold wrP; rw [hbl, e1]; exact h, step_id _ _⟩
theorem r_write (n : Int) (A : Option Addr) (m c : Nat) (bs : List Int) (w : World) (h : RAt B w M dur pend) (hl : Lies w A m (bs.map (Value.int .u8))) (hb : ∀ x ∈ bs, 0 ≤ x ∧ x < 256) (hp : pend.length ≤ 1000000000) :
    Calls Tryz.prog 9 #[M.ptr, .int .i64 n, .slice A m c] w fun e w' => e = .returned (.int .i64 (errI (wrOk dur.length n m))) ∧ ∃ L', L'.g = M.g ∧ RAt B w' L' dur (wrP dur.length n bs pend) ∧ RStep w w' M L' := by
  have hbl : bs.length = m := by have := hl.len; simpa using this
  by_cases h1 : n < 0 ∨ (dur.length : Int) ≤ n
  · have e1 : wrOk dur.length n m = false := decide_eq_false (by omega)
    refine (rwrite_arg n A m c w h h1).mono ?_
    rintro e w' ⟨rfl, rfl⟩
    exact ⟨by rw [e1]; rfl, M, rfl, by unfold wrP; rw [hbl, e1]; exact h, rstep_id _ _⟩
  · obtain ⟨j, rfl⟩ := Int.eq_ofNat_of_zero_le (show 0 ≤ n by omega)
    by_cases h2 : m ≤ 64
    · have e1 : wrOk dur.length j m = true := decide_eq_true (by omega)
      refine (rwrite_ok j A m c bs w h (by omega) hl h2 hb hp).mono ?_
      rintro e w' ⟨rfl, L', hg', hd', hs⟩
      exact ⟨by rw [e1]; rfl, L', hg', by unfold wrP; rw [hbl, e1]; exact hd', hs⟩
    · have e1 : wrOk dur.length j m = false := decide_eq_false (by omega)
      refine (rwrite_long j A m c w h (by omega) (by omega)).mono ?_
      rintro e w' ⟨rfl, rfl⟩
      exact ⟨by rw [e1]; rfl, M, rfl, by unfold wrP; rw [hbl, e1]; exact h, rstep_id _ _⟩
theorem d_rot (n p y : Int) (w : World) (h : DiskAt B w L dur pend) (hy : 0 ≤ y ∧ y < 256) (hp : pend.length ≤ 1000000000) :
    Calls Tryz.prog 14 #[L.ptr, .int .i64 n, .int .i64 p, .int .u8 y] w fun e w' => e = .returned (.int .i64 (errI (rotOk dur.length n p))) ∧ DiskAt B w' L (rotDur n p y dur) (rotPend n p y dur pend) ∧ Step w w' L L := by
  unfold rotDur rotPend
  by_cases h1 : n < 0 ∨ (dur.length : Int) ≤ n
  · have e1 : rotOk dur.length n p = false := decide_eq_false (by omega)
    refine (rot_arg n p y w h h1).mono ?_
    rintro e w' ⟨rfl, rfl⟩
    rw [e1]
    exact ⟨rfl, h, step_id _ _⟩
  · obtain ⟨j, rfl⟩ := Int.eq_ofNat_of_zero_le (show 0 ≤ n by omega)
    by_cases h2 : p < 0 ∨ 64 ≤ p
    · have e1 : rotOk dur.length j p = false := decide_eq_false (by omega)
      refine (rot_byte j p y w h (by omega) h2).mono ?_
      rintro e w' ⟨rfl, rfl⟩
      rw [e1]
      exact ⟨rfl, h, step_id _ _⟩
    · obtain ⟨q, rfl⟩ := Int.eq_ofNat_of_zero_le (show 0 ≤ p by omega)
      have e1 : rotOk dur.length j q = true := decide_eq_true (by omega)
      refine (rot_ok j q y w h (by omega) (by omega) hy hp).mono ?_
      rintro e w' ⟨rfl, hd', ht⟩
      rw [e1]
      exact ⟨rfl, hd', step_same ht⟩
theorem r_rot (n p y : Int) (w : World) (h : RAt B w M dur pend) (hy : 0 ≤ y ∧ y < 256) (hp : pend.length ≤ 1000000000) :
    Calls Tryz.prog 15 #[M.ptr, .int .i64 n, .int .i64 p, .int .u8 y] w fun e w' => e = .returned (.int .i64 (errI (rotOk dur.length n p))) ∧ RAt B w' M (rotDur n p y dur) (rotPend n p y dur pend) ∧ RStep w w' M M := by
  unfold rotDur rotPend
  by_cases h1 : n < 0 ∨ (dur.length : Int) ≤ n ∨ p < 0 ∨ 64 ≤ p
  · have e1 : rotOk dur.length n p = false := decide_eq_false (by omega)
    refine (rrot_arg n p y w h h1).mono ?_
    rintro e w' ⟨rfl, rfl⟩
    rw [e1]
    exact ⟨rfl, h, rstep_id _ _⟩
  · obtain ⟨j, rfl⟩ := Int.eq_ofNat_of_zero_le (show 0 ≤ n by omega)
    obtain ⟨q, rfl⟩ := Int.eq_ofNat_of_zero_le (show 0 ≤ p by omega)
    have e1 : rotOk dur.length j q = true := decide_eq_true (by omega)
    refine (rrot_ok j q y w h (by omega) (by omega) hy hp).mono ?_
    rintro e w' ⟨rfl, hd', ht⟩
    rw [e1]
    exact ⟨rfl, hd', ht, fun _ h => .inl h⟩
theorem d_bad (n : Int) (w : World) (h : DiskAt B w L dur pend) (hp : pend.length ≤ 1000000000) :
    Calls Tryz.prog 16 #[L.ptr, .int .i64 n] w fun e w' => e = .returned (.int .i64 (errI (badOk dur.length n))) ∧ DiskAt B w' L (badDur n dur) (badPend n dur pend) ∧ Step w w' L L := by
  unfold badDur badPend
  by_cases h1 : n < 0 ∨ (dur.length : Int) ≤ n
  · have e1 : badOk dur.length n = false := decide_eq_false (by omega)
    refine (bad_arg n w h h1).mono ?_
    rintro e w' ⟨rfl, rfl⟩
    rw [e1]
    exact ⟨rfl, h, step_id _ _⟩
  · obtain ⟨j, rfl⟩ := Int.eq_ofNat_of_zero_le (show 0 ≤ n by omega)
    have e1 : badOk dur.length j = true := decide_eq_true (by omega)
    refine (bad_ok j w h (by omega) hp).mono ?_
    rintro e w' ⟨rfl, hd', ht⟩
    rw [e1]
    exact ⟨rfl, hd', step_same ht⟩
theorem r_bad (n : Int) (w : World) (h : RAt B w M dur pend) (hp : pend.length ≤ 1000000000) :
    Calls Tryz.prog 17 #[M.ptr, .int .i64 n] w fun e w' => e = .returned (.int .i64 (errI (badOk dur.length n))) ∧ RAt B w' M (badDur n dur) (badPend n dur pend) ∧ RStep w w' M M := by
  unfold badDur badPend
  by_cases h1 : n < 0 ∨ (dur.length : Int) ≤ n
  · have e1 : badOk dur.length n = false := decide_eq_false (by omega)
    refine (rbad_arg n w h h1).mono ?_
    rintro e w' ⟨rfl, rfl⟩
    rw [e1]
    exact ⟨rfl, h, rstep_id _ _⟩
  · obtain ⟨j, rfl⟩ := Int.eq_ofNat_of_zero_le (show 0 ≤ n by omega)
    have e1 : badOk dur.length j = true := decide_eq_true (by omega)
    refine (rbad_ok j w h (by omega) hp).mono ?_
    rintro e w' ⟨rfl, hd', ht⟩
    rw [e1]
    exact ⟨rfl, hd', ht, fun _ h => .inl h⟩
theorem d_read (n : Int) (w : World) (h : DiskAt B w L dur pend) :
    Calls Tryz.prog 23 #[L.ptr, .int .i64 n] w fun e w' => ∃ A c, e = .returned (.tuple #[.slice A (rdL (seenOf dur pend) n).length c, .int .i64 (rdEr (seenOf dur pend) n)]) ∧
      Rw w' w.heap.size 5 ES (.slice A (rdL (seenOf dur pend) n).length c) (rdL (seenOf dur pend) n).length ((rdL (seenOf dur pend) n).map (Value.int .u8)) ∧ Below w.heap.size w w' := by
  have hsl := seen_len dur pend
  by_cases h1 : n < 0 ∨ (dur.length : Int) ≤ n
  · have e1 : rdL (seenOf dur pend) n = [] := by rw [rdL, if_pos (by omega)]
    have e2 : rdEr (seenOf dur pend) n = 1 := by rw [rdEr, if_pos (by omega)]
    refine (read_arg n w h h1).mono ?_
    rintro e w' ⟨rfl, rfl⟩
    rw [e1, e2]
    exact ⟨none, 0, rfl, Rw.nil, Below.refl _ _⟩
  · obtain ⟨j, rfl⟩ := Int.eq_ofNat_of_zero_le (show 0 ≤ n by omega)
    have hok := secAt_ok (seen_ok h.okS (fun x hx => (h.okW x hx).1)) (n := j) (by omega)
    refine (read_ok j w h (by omega) _ rfl).mono ?_
    rintro e w' ⟨rfl, rfl⟩
    obtain ⟨s, hs⟩ : ∃ s, s = secAt (seenOf dur pend) j := ⟨_, rfl⟩
    have e1 : rdL (seenOf dur pend) j = if s.bad then [] else s.b := by rw [rdL, if_neg (by omega), hs]; rfl
    have e2 : rdEr (seenOf dur pend) j = if s.bad then 12 else 0 := by rw [rdEr, if_neg (by omega), hs]; rfl
    rw [← hs] at hok ⊢
    rw [e1, e2]
    have hbel : Below w.heap.size w (w.alloc (.cells (secV s).toArray 87)) := (Below.refl _ _).alloc (Nat.le_refl _) _
    cases hb : s.bad
    · refine ⟨some ⟨w.heap.size, 0, none⟩, 64, ?_, ?_, hbel⟩
      · simp only [Bool.false_eq_true, if_false, hok.1]
        rfl
      · simp only [Bool.false_eq_true, if_false, hok.1]
        refine ⟨by simp [hok.1], .inr ⟨w.heap.size, 64, (secV s).toArray, 87, rfl, Nat.le_refl _, heap_alloc_new w _, by decide, Nat.le_refl _, by unfold maxLen; omega, by rw [List.size_toArray, secV_len hok]; omega, .inl rfl, ?_⟩⟩
        simp [secV, hok.1]
    · exact ⟨none, 0, rfl, Rw.nil, hbel⟩
theorem r_read (n : Int) (w : World) (h : RAt B w M dur pend) :
    Calls Tryz.prog 24 #[M.ptr, .int .i64 n] w fun e w' => ∃ A c, e = .returned (.tuple #[.slice A (rdL (seenOf dur pend) n).length c, .int .i64 (rdEr (seenOf dur pend) n)]) ∧
      Lies w' A (rdL (seenOf dur pend) n).length ((rdL (seenOf dur pend) n).map (Value.int .u8)) ∧ Below w.heap.size w w' := by
  have hsl := seen_len dur pend
  by_cases h1 : n < 0 ∨ (dur.length : Int) ≤ n
  · have e1 : rdL (seenOf dur pend) n = [] := by rw [rdL, if_pos (by omega)]
    have e2 : rdEr (seenOf dur pend) n = 1 := by rw [rdEr, if_pos (by omega)]
    refine (rread_arg n w h h1).mono ?_
    rintro e w' ⟨rfl, rfl⟩
    rw [e1, e2]
    exact ⟨none, 0, rfl, Lies.nothing, Below.refl _ _⟩
  · obtain ⟨j, rfl⟩ := Int.eq_ofNat_of_zero_le (show 0 ≤ n by omega)
    have hok := secAt_ok (seen_ok h.okS (fun x hx => (h.okW x hx).1)) (n := j) (by omega)
    have e1 : rdL (seenOf dur pend) j = if (secAt (seenOf dur pend) j).bad then [] else (secAt (seenOf dur pend) j).b := by rw [rdL, if_neg (by omega)]; rfl
    have e2 : rdEr (seenOf dur pend) j = if (secAt (seenOf dur pend) j).bad then 12 else 0 := by rw [rdEr, if_neg (by omega)]; rfl
    cases hb : (secAt (seenOf dur pend) j).bad
    · refine (rread_ok j w h (by omega) hb).mono ?_
      rintro e w' ⟨A, c, rfl, hl, hbel⟩
      rw [e1, e2, hb]
      simp only [Bool.false_eq_true, if_false, hok.1]
      exact ⟨A, c, rfl, hl, hbel⟩
    · refine (rread_bad j w h (by omega) hb).mono ?_
      rintro e w' ⟨rfl, rfl⟩
      rw [e1, e2, hb]
      exact ⟨none, 0, rfl, Lies.nothing, Below.refl _ _⟩
end
end Go.Proofs.YtapdaeafeejknaaGreatDoor
