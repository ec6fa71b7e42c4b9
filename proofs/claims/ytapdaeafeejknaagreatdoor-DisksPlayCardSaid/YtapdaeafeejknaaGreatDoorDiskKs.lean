/- Several disks at once, apart from each other, and what each call makes of one of them; the calls' contracts, said so. -/
import Derived.Test.YtapdaeafeejknaaGreatDoorDiskBad
namespace Go.Proofs.YtapdaeafeejknaaGreatDoor
open Go.RowKit
set_option maxRecDepth 20000
set_option linter.unusedVariables false

structure Dk where
  g : Nat
  dur : List Sec
  pend : List Wr
abbrev Dk.ptr (k : Dk) : Value := .pointer (some ⟨k.g, 0, none⟩)
def Dk.seen (k : Dk) : List Sec := seenOf k.dur k.pend
def FitsDk (B : Nat) (w : World) (p : Loc × Dk) : Prop := p.1.g = p.2.g ∧ DiskAt B w p.1 p.2.dur p.2.pend
def ApartL (p q : Loc × Dk) : Prop := ∀ b, p.1.has b → ¬ q.1.has b
/-- The disks of a list lie in memory, each in blocks of its own, from block B on. -/
def Ks (B : Nat) (w : World) (l : List Dk) : Prop := ∃ Ls : List (Loc × Dk), Ls.map (·.2) = l ∧ (∀ p ∈ Ls, FitsDk B w p) ∧ Ls.Pairwise ApartL

section
variable {B : Nat} {w w' : World} {a b l : List Dk} {k : Dk}
theorem Ks.nil : Ks B w [] := ⟨[], rfl, by simp, .nil⟩
theorem Ks.below (h : Ks B w l) (hb : Below w.heap.size w w') : Ks B w' l := by
  obtain ⟨Ls, e, hf, hp⟩ := h
  exact ⟨Ls, e, fun p hp => ⟨(hf p hp).1, (hf p hp).2.below hb⟩, hp⟩
theorem Ks.alloc (h : Ks B w l) (o : Obj) : Ks B (w.alloc o) l := h.below ((Below.refl _ _).alloc (Nat.le_refl _) o)
theorem Ks.cons (h : Ks B w l) (hb : Below w.heap.size w w') {L : Loc} {dur : List Sec} {pend : List Wr} (hB : B ≤ w.heap.size) (hd : DiskAt w.heap.size w' L dur pend) (hn : ∀ x, L.has x → w.heap.size ≤ x) : Ks B w' (⟨L.g, dur, pend⟩ :: l) := by
  obtain ⟨Ls, e, hf, hp⟩ := h
  refine ⟨(L, ⟨L.g, dur, pend⟩) :: Ls, by rw [List.map_cons, e], ?_, .cons (fun q hq x hx hq2 => ?_) hp⟩
  · intro p hp
    rcases List.mem_cons.1 hp with rfl | hp
    · exact ⟨rfl, ⟨Nat.le_trans hB hd.base, hd.top, own_base' hd.seen hB, own_base' hd.sure hB, own_base' hd.waits hB, hd.ne, hd.pos, hd.max, hd.okS, hd.okW⟩⟩
    · exact ⟨(hf p hp).1, (hf p hp).2.below hb⟩
  · have h1 := hn x hx
    have h2 := ((hf q hq).2.lt x hq2).2
    omega
theorem Ks.drop (h : Ks B w (k :: l)) : Ks B w l := by
  obtain ⟨Ls, e, hf, hp⟩ := h
  obtain ⟨p, Ms, rfl, rfl, rfl⟩ := List.map_eq_cons_iff.1 e
  exact ⟨Ms, rfl, fun q hq => hf q (List.mem_cons_of_mem _ hq), (List.pairwise_cons.1 hp).2⟩
/-- One of them by itself, and what is to be shown of it to have them all again. -/
theorem Ks.at (h : Ks B w (a ++ k :: b)) : ∃ L : Loc, L.g = k.g ∧ DiskAt B w L k.dur k.pend ∧
    ∀ w' (L' : Loc) dur' pend', L'.g = k.g → DiskAt B w' L' dur' pend' → Step w w' L L' → Ks B w' (a ++ ⟨k.g, dur', pend'⟩ :: b) ∧ Below B w w' := by
  obtain ⟨Ls, e, hf, hp⟩ := h
  obtain ⟨As, Cs, rfl, rfl, e2⟩ := List.map_eq_append_iff.1 e
  obtain ⟨p, Bs, rfl, rfl, rfl⟩ := List.map_eq_cons_iff.1 e2
  obtain ⟨h1, h2⟩ := hf p (by simp)
  refine ⟨p.1, h1, h2, fun w' L' dur' pend' hg hd hs => ⟨?_, ?_⟩⟩
  · have hne : ∀ q, q ∈ As ∨ q ∈ Bs → ∀ x, q.1.has x → ¬ p.1.has x := by
      rintro q (hq | hq) x hx hx2
      · exact (List.pairwise_append.1 hp).2.2 q hq p List.mem_cons_self x hx hx2
      · exact (List.pairwise_cons.1 (List.pairwise_append.1 hp).2.1).1 q hq x hx2 hx
    have hnew : ∀ q, q ∈ As ∨ q ∈ Bs → ∀ x, q.1.has x → ¬ L'.has x := by
      intro q hq x hx hx2
      rcases hs.2 x hx2 with e | e
      · exact hne q hq x hx e
      · have hq2 : q ∈ As ++ p :: Bs := by rcases hq with hq | hq <;> simp [hq]
        have := ((hf q hq2).2.lt x hx).2
        omega
    refine ⟨As ++ (L', ⟨p.2.g, dur', pend'⟩) :: Bs, by simp, ?_, ?_⟩
    · intro q hq
      rcases List.mem_append.1 hq with hq | hq
      · exact ⟨(hf q (by simp [hq])).1, (hf q (by simp [hq])).2.turns hs.1 (hne q (.inl hq))⟩
      · rcases List.mem_cons.1 hq with rfl | hq
        · exact ⟨hg, hd⟩
        · exact ⟨(hf q (by simp [hq])).1, (hf q (by simp [hq])).2.turns hs.1 (hne q (.inr hq))⟩
    · have h3 := List.pairwise_append.1 hp
      have h4 := List.pairwise_cons.1 h3.2.1
      refine List.pairwise_append.2 ⟨h3.1, List.pairwise_cons.2 ⟨fun q hq x hx hx2 => hnew q (.inr hq) x hx2 hx, h4.2⟩, fun q hq r hr => ?_⟩
      rcases List.mem_cons.1 hr with rfl | hr
      · exact fun x hx hx2 => hnew q (.inl hq) x hx hx2
      · exact h3.2.2 q hq r (by simp [hr])
  · exact hs.1.below (Below.refl _ _) (Nat.le_trans h2.base (Nat.le_of_lt (lt_of_heap h2.top))) (fun x hx => (h2.lt x hx).1)
theorem Ks.one (h : Ks B w (a ++ k :: b)) : ∃ L : Loc, L.g = k.g ∧ DiskAt B w L k.dur k.pend := by
  obtain ⟨L, h1, h2, _⟩ := h.at
  exact ⟨L, h1, h2⟩
theorem Ks.base (h : Ks B w (a ++ k :: b)) : B ≤ w.heap.size := by
  obtain ⟨L, _, h2, _⟩ := h.at
  exact Nat.le_trans h2.base (Nat.le_of_lt (lt_of_heap h2.top))
theorem step_same {L : Loc} (ht : Turns w w' L.has) : Step w w' L L := ⟨ht, fun _ h => .inl h⟩

def wrOk (len : Nat) (n : Int) (m : Nat) : Bool := decide (0 ≤ n ∧ n < len ∧ m ≤ 64)
def wrP (len : Nat) (n : Int) (bs : List Int) (pend : List Wr) : List Wr := if wrOk len n bs.length then pend ++ [⟨n.toNat, padB bs, false⟩] else pend
def errI (ok : Bool) : Int := if ok then 0 else 1
theorem k_write (n : Int) (A : Option Addr) (m c : Nat) (bs : List Int) (w : World) (h : Ks B w (a ++ k :: b)) (hl : Lies w A m (bs.map (Value.int .u8))) (hb : ∀ x ∈ bs, 0 ≤ x ∧ x < 256) (hp : k.pend.length ≤ 1000000000) :
    Calls Tryz.prog 8 #[k.ptr, .int .i64 n, .slice A m c] w fun e w' => e = .returned (.int .i64 (errI (wrOk k.dur.length n m))) ∧ Ks B w' (a ++ ⟨k.g, k.dur, wrP k.dur.length n bs k.pend⟩ :: b) ∧ Below B w w' := by
  obtain ⟨L, hg, hd, hk⟩ := h.at
  have hbl : bs.length = m := by have := hl.len; simpa using this
  have hkp : k.ptr = L.ptr := by unfold Dk.ptr Loc.ptr; rw [hg]
  rw [hkp]
  have hsame : ∀ pend', pend' = k.pend → Ks B w (a ++ ⟨k.g, k.dur, pend'⟩ :: b) := fun p e => by subst e; exact h
  by_cases h1 : n < 0 ∨ (k.dur.length : Int) ≤ n
  · have e1 : wrOk k.dur.length n m = false := decide_eq_false (by omega)
    refine (write_arg n A m c w hd h1).mono ?_
    rintro e w' ⟨rfl, rfl⟩
    refine ⟨by rw [e1]; rfl, hsame _ ?_, Below.refl _ _⟩
    unfold wrP; rw [hbl, e1]; rfl
  · obtain ⟨j, rfl⟩ := Int.eq_ofNat_of_zero_le (show 0 ≤ n by omega)
    by_cases h2 : m ≤ 64
    · have e1 : wrOk k.dur.length j m = true := decide_eq_true (by omega)
      refine (write_ok j A m c bs w hd (by omega) hl h2 hb hp).mono ?_
      rintro e w' ⟨rfl, L', hg', hd', hs⟩
      obtain ⟨h3, h4⟩ := hk w' L' _ _ (hg'.trans hg) hd' hs
      refine ⟨by rw [e1]; rfl, ?_, h4⟩
      unfold wrP; rw [hbl, e1]
      exact h3
    · have e1 : wrOk k.dur.length j m = false := decide_eq_false (by omega)
      refine (write_long j A m c w hd (by omega) (by omega)).mono ?_
      rintro e w' ⟨rfl, rfl⟩
      refine ⟨by rw [e1]; rfl, hsame _ ?_, Below.refl _ _⟩
      unfold wrP; rw [hbl, e1]; rfl
theorem k_sync (w : World) (h : Ks B w (a ++ k :: b)) (hp : k.pend.length ≤ 1000000000) :
    Calls Tryz.prog 10 #[k.ptr] w fun e w' => e = .returned (.int .i64 0) ∧ Ks B w' (a ++ ⟨k.g, k.seen, []⟩ :: b) ∧ Below B w w' := by
  obtain ⟨L, hg, hd, hk⟩ := h.at
  have hkp : k.ptr = L.ptr := by unfold Dk.ptr Loc.ptr; rw [hg]
  rw [hkp]
  refine (sync_any w hd hp).mono ?_
  rintro e w' ⟨rfl, L', hg', hd', hs⟩
  exact ⟨rfl, hk w' L' _ _ (hg'.trans hg) hd' hs⟩
def rotOk (len : Nat) (n p : Int) : Bool := decide (0 ≤ n ∧ n < len ∧ 0 ≤ p ∧ p < 64)
def rotP (n p y : Int) (k : Dk) : Dk := if rotOk k.dur.length n p then ⟨k.g, rotD n.toNat p.toNat y k.dur, k.pend.map (rotW n.toNat p.toNat y)⟩ else k
theorem k_rot (n p y : Int) (w : World) (h : Ks B w (a ++ k :: b)) (hy : 0 ≤ y ∧ y < 256) (hp : k.pend.length ≤ 1000000000) :
    Calls Tryz.prog 14 #[k.ptr, .int .i64 n, .int .i64 p, .int .u8 y] w fun e w' => e = .returned (.int .i64 (errI (rotOk k.dur.length n p))) ∧ Ks B w' (a ++ rotP n p y k :: b) ∧ Below B w w' := by
  obtain ⟨L, hg, hd, hk⟩ := h.at
  have hkp : k.ptr = L.ptr := by unfold Dk.ptr Loc.ptr; rw [hg]
  rw [hkp]
  by_cases h1 : n < 0 ∨ (k.dur.length : Int) ≤ n
  · have e1 : rotOk k.dur.length n p = false := decide_eq_false (by omega)
    refine (rot_arg n p y w hd h1).mono ?_
    rintro e w' ⟨rfl, rfl⟩
    exact ⟨by rw [e1]; rfl, by unfold rotP; rw [e1]; exact h, Below.refl _ _⟩
  · obtain ⟨j, rfl⟩ := Int.eq_ofNat_of_zero_le (show 0 ≤ n by omega)
    by_cases h2 : p < 0 ∨ 64 ≤ p
    · have e1 : rotOk k.dur.length j p = false := decide_eq_false (by omega)
      refine (rot_byte j p y w hd (by omega) h2).mono ?_
      rintro e w' ⟨rfl, rfl⟩
      exact ⟨by rw [e1]; rfl, by unfold rotP; rw [e1]; exact h, Below.refl _ _⟩
    · obtain ⟨q, rfl⟩ := Int.eq_ofNat_of_zero_le (show 0 ≤ p by omega)
      have e1 : rotOk k.dur.length j q = true := decide_eq_true (by omega)
      refine (rot_ok j q y w hd (by omega) (by omega) hy hp).mono ?_
      rintro e w' ⟨rfl, hd', ht⟩
      refine ⟨by rw [e1]; rfl, ?_⟩
      unfold rotP; rw [e1]
      exact hk w' L _ _ hg hd' (step_same ht)
def badOk (len : Nat) (n : Int) : Bool := decide (0 ≤ n ∧ n < len)
def badP (n : Int) (k : Dk) : Dk := if badOk k.dur.length n then ⟨k.g, badD n.toNat k.dur, k.pend.map (badW n.toNat)⟩ else k
theorem k_bad (n : Int) (w : World) (h : Ks B w (a ++ k :: b)) (hp : k.pend.length ≤ 1000000000) :
    Calls Tryz.prog 16 #[k.ptr, .int .i64 n] w fun e w' => e = .returned (.int .i64 (errI (badOk k.dur.length n))) ∧ Ks B w' (a ++ badP n k :: b) ∧ Below B w w' := by
  obtain ⟨L, hg, hd, hk⟩ := h.at
  have hkp : k.ptr = L.ptr := by unfold Dk.ptr Loc.ptr; rw [hg]
  rw [hkp]
  by_cases h1 : n < 0 ∨ (k.dur.length : Int) ≤ n
  · have e1 : badOk k.dur.length n = false := decide_eq_false (by omega)
    refine (bad_arg n w hd h1).mono ?_
    rintro e w' ⟨rfl, rfl⟩
    exact ⟨by rw [e1]; rfl, by unfold badP; rw [e1]; exact h, Below.refl _ _⟩
  · obtain ⟨j, rfl⟩ := Int.eq_ofNat_of_zero_le (show 0 ≤ n by omega)
    have e1 : badOk k.dur.length j = true := decide_eq_true (by omega)
    refine (bad_ok j w hd (by omega) hp).mono ?_
    rintro e w' ⟨rfl, hd', ht⟩
    refine ⟨by rw [e1]; rfl, ?_⟩
    unfold badP; rw [e1]
    exact hk w' L _ _ hg hd' (step_same ht)
theorem k_fail (keep : Nat) (torn : Int) (w : World) (h : Ks B w (a ++ k :: b)) (hkeep : keep < 18446744073709551616) (hp : k.pend.length ≤ 1000000000) :
    Calls Tryz.prog 12 #[k.ptr, .int .u64 (keep : Int), .int .i64 torn] w fun e w' => ∃ g, e = .returned (.tuple #[.pointer (some ⟨g, 0, none⟩), .int .i64 0]) ∧ Ks B w' (⟨g, leftOf keep torn k.dur k.pend, []⟩ :: (a ++ k :: b)) ∧ Below w.heap.size w w' := by
  obtain ⟨L, hg, hd, hk⟩ := h.at
  have hkp : k.ptr = L.ptr := by unfold Dk.ptr Loc.ptr; rw [hg]
  rw [hkp]
  refine (fail_any keep torn w hd hkeep hp).mono ?_
  rintro e w' ⟨L', rfl, hd', hn, hb⟩
  exact ⟨L'.g, rfl, h.cons hb h.base hd' hn, hb⟩
theorem k_read (n : Nat) (w : World) (h : Ks B w (a ++ k :: b)) (hn : n < k.dur.length) (s : Sec) (hs : s = secAt k.seen n) :
    Calls Tryz.prog 23 #[k.ptr, .int .i64 (n : Int)] w fun e w' => e = .returned (.tuple #[rdV s.bad w.heap.size, rdE s.bad]) ∧ w' = w.alloc (.cells (secV s).toArray 87) := by
  obtain ⟨L, hg, hd, hk⟩ := h.at
  have hkp : k.ptr = L.ptr := by unfold Dk.ptr Loc.ptr; rw [hg]
  rw [hkp]
  exact read_ok n w hd hn s hs
theorem k_read_arg (n : Int) (w : World) (h : Ks B w (a ++ k :: b)) (hn : n < 0 ∨ (k.dur.length : Int) ≤ n) :
    Calls Tryz.prog 23 #[k.ptr, .int .i64 n] w fun e w' => e = .returned (.tuple #[.slice none 0 0, .int .i64 1]) ∧ w = w' := by
  obtain ⟨L, hg, hd, hk⟩ := h.at
  have hkp : k.ptr = L.ptr := by unfold Dk.ptr Loc.ptr; rw [hg]
  rw [hkp]
  exact read_arg n w hd hn
theorem k_len (w : World) (h : Ks B w (a ++ k :: b)) : Calls Tryz.prog 18 #[k.ptr] w fun e w' => e = .returned (.int .i64 (k.dur.length : Int)) ∧ w = w' := by
  obtain ⟨L, hg, hd, hk⟩ := h.at
  have hkp : k.ptr = L.ptr := by unfold Dk.ptr Loc.ptr; rw [hg]
  rw [hkp]
  exact len_any w hd
theorem k_waits (w : World) (h : Ks B w (a ++ k :: b)) : Calls Tryz.prog 20 #[k.ptr] w fun e w' => e = .returned (.int .i64 (k.pend.length : Int)) ∧ w = w' := by
  obtain ⟨L, hg, hd, hk⟩ := h.at
  have hkp : k.ptr = L.ptr := by unfold Dk.ptr Loc.ptr; rw [hg]
  rw [hkp]
  exact waits_any w hd
theorem k_new (n : Nat) (w : World) (h : Ks B w l) (hB : B ≤ w.heap.size) (h1 : 1 ≤ n) (h2 : n ≤ 16384) : Calls Tryz.prog 5 #[.int .i64 (n : Int)] w fun e w' => ∃ g, e = .returned (.tuple #[.pointer (some ⟨g, 0, none⟩), .int .i64 0]) ∧ Ks B w' (⟨g, List.replicate n zeroSec, []⟩ :: l) ∧ Below w.heap.size w w' := by
  refine (new_ok n w h1 h2).mono ?_
  rintro e w' ⟨L, rfl, hd, hn, hb⟩
  exact ⟨L.g, rfl, h.cons hb hB hd hn, hb⟩
end
end Go.Proofs.YtapdaeafeejknaaGreatDoor
