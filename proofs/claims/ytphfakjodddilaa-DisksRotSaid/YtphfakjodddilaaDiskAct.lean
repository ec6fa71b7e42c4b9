/- Acts in memory, and contracts of the statements' own helpers of layer 3: first, left, alike, great. -/
import Derived.Test.YtphfakjodddilaaDiskKs
import Derived.Test.YtphfakjodddilaaSameB
namespace Go.Proofs.Ytphfakjodddilaa
open Go.RowKit
set_option linter.unusedSimpArgs false
set_option linter.unusedVariables false

structure Act1 where
  kind : Int
  n : Int
  p : Int
  A : Option Addr
  m : Nat
  c : Nat
  bs : List Int
  keep : Int
def noAct : Act1 := ⟨0, 0, 0, none, 0, 0, [], 0⟩
def actV (x : Act1) : List Value := [.int .u8 x.kind, .int .i64 x.n, .int .i64 x.p, .slice x.A x.m x.c, .int .u64 x.keep]
def actAt (l : List Act1) (i : Nat) : Act1 := l.getD i noAct
structure OkAct (w : World) (x : Act1) : Prop where
  lies : Lies w x.A x.m (x.bs.map (Value.int .u8))
  bytes : ∀ z ∈ x.bs, 0 ≤ z ∧ z < 256
  kind : 0 ≤ x.kind ∧ x.kind < 256
  keep : 0 ≤ x.keep ∧ x.keep < 18446744073709551616
  size : x.m ≤ 140737488355328
/-- The acts of a slice. -/
structure ActsAt (w : World) (A : Option Addr) (n : Nat) (l : List Act1) : Prop where
  len : l.length = n
  cells : 0 < n → ∃ b o, A = some ⟨b, o, none⟩ ∧ b < w.heap.size ∧ ∀ i, i < n → ∀ j v, (actV (actAt l i))[j]? = some v → w.cell? ⟨b, o + i * 5 + j, none⟩ = some v
  each : ∀ x ∈ l, OkAct w x
section
variable {w w' : World} {A : Option Addr} {n : Nat} {l : List Act1}
theorem OkAct.below {x : Act1} (h : OkAct w x) (hb : Below w.heap.size w w') : OkAct w' x := ⟨h.lies.below hb, h.bytes, h.kind, h.keep, h.size⟩
theorem ActsAt.below (h : ActsAt w A n l) (hb : Below w.heap.size w w') : ActsAt w' A n l :=
  ⟨h.len, fun hn => by
    obtain ⟨b, o, e, hlt, hc⟩ := h.cells hn
    exact ⟨b, o, e, Nat.lt_of_lt_of_le hlt hb.size, fun i hi j v hj => (hb.cell (p := ⟨b, o + i * 5 + j, none⟩) hlt).trans (hc i hi j v hj)⟩, fun x hx => (h.each x hx).below hb⟩
theorem actAt_mem {i : Nat} (hi : i < l.length) : actAt l i ∈ l := by
  have : actAt l i = l[i] := by simp [actAt, List.getD, hi]
  rw [this]; exact List.getElem_mem _
end

def firstI (s : Sec) : Int := if s.bad then 256 else s.b.getD 0 0
theorem lies_read (w : World) (s : Sec) (h : OkB s.b) : Lies (w.alloc (.cells (secV s).toArray 64)) (some ⟨w.heap.size, 0, none⟩) 64 (s.b.map (Value.int .u8)) := by
  refine ⟨by simp [h.1], fun _ => ⟨w.heap.size, 0, rfl, by simp, fun j hj => ?_⟩⟩
  have hj2 : j < s.b.length := by rw [h.1]; exact hj
  have := cells_new w (secV s) 64 j (.int .u8 (s.b.getD j 0)) (secV_getB s h hj)
  rw [Addr.add_lit] at this
  rw [this]
  simp [hj2, List.getD]
section
variable {B : Nat} {a b a' b' : List Dk} {k k' : Dk}
theorem Ks.okSeen {w : World} (h : Ks B w (a ++ k :: b)) : ∀ s ∈ k.seen, OkB s.b := by
  obtain ⟨L, _, hd⟩ := h.one
  exact seen_ok hd.okS (fun x hx => (hd.okW x hx).1)
theorem Ks.facts {w : World} (h : Ks B w (a ++ k :: b)) : 0 < k.dur.length ∧ k.dur.length ≤ 16384 ∧ (∀ s ∈ k.dur, OkB s.b) ∧ (∀ x ∈ k.pend, OkB x.b ∧ x.n < k.dur.length) := by
  obtain ⟨L, _, hd⟩ := h.one
  exact ⟨hd.pos, hd.max, hd.okS, hd.okW⟩
theorem Dk.seen_len (k : Dk) : k.seen.length = k.dur.length := Go.Proofs.Ytphfakjodddilaa.seen_len _ _
set_option maxHeartbeats 800000 in
theorem first_any (n : Nat) (w : World) (h : Ks B w (a ++ k :: b)) (hn : n < k.dur.length) :
    Calls Try.prog 27 #[k.ptr, .int .i64 (n : Int)] w fun e w' => e = .returned (.int .i64 (firstI (secAt k.seen n))) ∧ Below w.heap.size w w' := by
  obtain ⟨s, hs⟩ : ∃ s, s = secAt k.seen n := ⟨_, rfl⟩
  have HC := hide (k_read n w h hn s hs)
  have hok : OkB s.b := by rw [hs]; exact secAt_ok h.okSeen (by rw [Dk.seen_len]; exact hn)
  have HB := hide ((Below.refl w.heap.size w).alloc (Nat.le_refl _) (.cells (secV s).toArray 64))
  have hc : (w.alloc (.cells (secV s).toArray 64)).cell? ⟨w.heap.size, 0, none⟩ = some (.int .u8 (s.b.getD 0 0)) := by
    have := cells_new w (secV s) 64 0 (.int .u8 (s.b.getD 0 0)) (secV_getB s hok (by omega))
    exact this
  have hy := okB_at hok (p := 0)
  rw [← hs]
  have HE : Hid (firstI s = if s.bad then 256 else s.b.getD 0 0) := hide rfl
  obtain ⟨y, hyy⟩ : ∃ y, y = s.b.getD 0 0 := ⟨_, rfl⟩
  rw [← hyy] at hc hy HE
  obtain ⟨f, hf⟩ : ∃ f, f = firstI s := ⟨_, rfl⟩
  rw [← hf] at HE ⊢
  obtain ⟨bad, hbad⟩ : ∃ bad, bad = s.bad := ⟨_, rfl⟩
  rw [← hbad] at HE HC
  clear hs hok hyy hf hbad h
  obtain ⟨y0, y1⟩ := hy
  generalize w.alloc (.cells (secV s).toArray 64) = W at *
  cases bad
  · have e := HE.out
    simp at e
    subst e
    go_enter Try.func27, Try.ntmps27
    go_wp2_with fail
    refine Calls.mono HC.out ?_
    rintro e w1 ⟨rfl, rfl⟩
    unfold rdV rdE
    go_wp2
    go_ret
    exact ⟨rfl, HB.out⟩
  · have e := HE.out
    simp at e
    subst e
    go_enter Try.func27, Try.ntmps27
    go_wp2_with fail
    refine Calls.mono HC.out ?_
    rintro e w1 ⟨rfl, rfl⟩
    unfold rdV rdE
    go_wp2
    go_ret
    exact ⟨rfl, HB.out⟩
set_option maxHeartbeats 800000 in
theorem left_any (keep : Nat) (torn : Int) (w : World) (h : Ks B w (a ++ k :: b)) (hkeep : keep < 18446744073709551616) (hp : k.pend.length ≤ 1000000000) :
    Calls Try.prog 23 #[k.ptr, .int .u64 (keep : Int), .int .i64 torn] w fun e w' => ∃ g, e = .returned (.pointer (some ⟨g, 0, none⟩)) ∧ Ks B w' (⟨g, leftOf keep torn k.dur k.pend, []⟩ :: (a ++ k :: b)) ∧ Below w.heap.size w w' := by
  have HC := hide (k_fail keep torn w h hkeep hp)
  clear h
  go_enter Try.func23, Try.ntmps23
  go_wp2_with fail
  refine Calls.mono HC.out ?_
  rintro e w1 ⟨g, rfl, hk, hb⟩
  have HK := hide hk
  have HB := hide hb
  clear hk hb
  go_wp2
  go_ret
  exact ⟨g, rfl, HK.out, HB.out⟩
def SameS (s t : Sec) : Prop := s.bad = t.bad ∧ (s.bad = false → s.b = t.b)
def SameL (s t : List Sec) : Prop := s.length = t.length ∧ ∀ n, n < s.length → SameS (secAt s n) (secAt t n)
theorem SameL.refl (s : List Sec) : SameL s s := ⟨rfl, fun _ _ => ⟨rfl, fun _ => rfl⟩⟩
set_option maxRecDepth 100000 in
set_option maxHeartbeats 2000000 in
theorem alike_any (w : World) (h : Ks B w (a ++ k :: b)) (h' : Ks B w (a' ++ k' :: b')) (hs : SameL k.seen k'.seen) :
    Calls Try.prog 24 #[k.ptr, k'.ptr] w fun e w' => e = .returned (.bool true) ∧ Below w.heap.size w w' := by
  have hl : k.dur.length = k'.dur.length := by have := hs.1; rwa [Dk.seen_len, Dk.seen_len] at this
  obtain ⟨N, hN⟩ : ∃ N, N = k.dur.length := ⟨_, rfl⟩
  have hmx : N ≤ 16384 := by rw [hN]; exact h.facts.2.1
  have HK := hide h
  have HK' := hide h'
  have HS := hide hs
  have HL1 : Hid (∀ w', Below w.heap.size w w' → Calls Try.prog 18 #[k.ptr] w' fun e w2 => e = .returned (.int .i64 (N : Int)) ∧ w' = w2) := hide (fun w' hb => by rw [hN]; exact k_len w' (h.below hb))
  have HL2 : Hid (∀ w', Below w.heap.size w w' → Calls Try.prog 18 #[k'.ptr] w' fun e w2 => e = .returned (.int .i64 (N : Int)) ∧ w' = w2) := hide (fun w' hb => by rw [hN, hl]; exact k_len w' (h'.below hb))
  have HN := hide hN
  have HLL := hide hl
  clear h h' hs hl hN
  go_enter Try.func24, Try.ntmps24
  go_wp2_with fail
  refine Calls.mono (HL1.out w (Below.refl _ _)) ?_
  rintro e w1 ⟨rfl, rfl⟩
  go_wp2_with fail
  refine Calls.mono (HL2.out w (Below.refl _ _)) ?_
  rintro e w1 ⟨rfl, rfl⟩
  go_wp2
  go_loopw [5] (fun i wr => ∃ j : Nat, j ≤ N ∧ i = .int .i64 j ∧ Hid (Below w.heap.size w wr)) (fun i _ => N - (intOf i).toNat)
  case atStart => exact ⟨0, Nat.zero_le _, rfl, hide (Below.refl _ _)⟩
  case round =>
    obtain ⟨j, hj, rfl, HB⟩ := hrel
    have HLJ := hide (HL1.out wr HB.out)
    by_cases hlt : j < N
    · obtain ⟨s, hs⟩ : ∃ s, s = secAt k.seen j := ⟨_, rfl⟩
      obtain ⟨t, ht⟩ : ∃ t, t = secAt k'.seen j := ⟨_, rfl⟩
      have hjk : j < k.dur.length := by rw [← HN.out]; exact hlt
      have hjk' : j < k'.dur.length := by rw [← HLL.out]; exact hjk
      have hst : SameS s t := by rw [hs, ht]; exact HS.out.2 j (by rw [Dk.seen_len]; exact hjk)
      have HR1 := hide (k_read j wr (HK.out.below HB.out) hjk s hs)
      have hoks : OkB s.b := by rw [hs]; exact secAt_ok HK.out.okSeen (by rw [Dk.seen_len]; exact hjk)
      have hokt : OkB t.b := by rw [ht]; exact secAt_ok HK'.out.okSeen (by rw [Dk.seen_len]; exact hjk')
      obtain ⟨W1, hW1⟩ : ∃ W1, W1 = wr.alloc (.cells (secV s).toArray 64) := ⟨_, rfl⟩
      have HBW1 : Hid (Below w.heap.size w W1) := hide (by rw [hW1]; exact HB.out.alloc HB.out.size _)
      have HR2 := hide (k_read j W1 (HK'.out.below HBW1.out) hjk' t ht)
      obtain ⟨W2, hW2⟩ : ∃ W2, W2 = W1.alloc (.cells (secV t).toArray 64) := ⟨_, rfl⟩
      have HBW2 : Hid (Below w.heap.size w W2) := hide (by rw [hW2]; exact HBW1.out.alloc HBW1.out.size _)
      have HLS : Hid (Lies W2 (some ⟨wr.heap.size, 0, none⟩) 64 (s.b.map (Value.int .u8))) := hide (by
        rw [hW2]; exact Lies.alloc (by rw [hW1]; exact lies_read wr s hoks) _)
      have HLT : Hid (Lies W2 (some ⟨W1.heap.size, 0, none⟩) 64 (t.b.map (Value.int .u8))) := hide (by
        rw [hW2]; exact lies_read W1 t hokt)
      rw [← hW1] at HR1
      rw [← hW2] at HR2
      obtain ⟨hb, hbb⟩ := hst
      obtain ⟨bad, hbad⟩ : ∃ bad, bad = s.bad := ⟨_, rfl⟩
      rw [← hb, ← hbad] at HR2
      rw [← hbad] at HR1 hbb
      have j0 : (0 : Int) ≤ (j : Int) := by omega
      have j1 : (j : Int) < (N : Int) := by omega
      have HBB := hide hbb
      clear hs ht hjk hjk' hoks hokt hW1 hW2 hb hbad hbb
      cases bad
      · have HSB : Hid (s.b = t.b) := hide (HBB.out rfl)
        go_wp2_with fail
        ((with_reducible refine Calls.mono HLJ.out ?_))
        rintro e w1 ⟨rfl, rfl⟩
        go_wp2_with fail
        refine Calls.mono HR1.out ?_
        rintro e w1 ⟨rfl, rfl⟩
        go_wp2_with fail
        refine Calls.mono HR2.out ?_
        rintro e w1 ⟨rfl, rfl⟩
        unfold rdV rdE
        go_wp2_with fail
        refine Calls.mono (same_u8 _ _ 64 64 64 s.b _ HLS.out (by rw [HSB.out]; exact HLT.out) (by omega)) ?_
        rintro e w1 ⟨rfl, d, rfl⟩
        have HBD : Hid (Below w.heap.size w (w1.drewN d)) := hide (below_drewN HBW2.out d)
        go_wp2
        go_roundw
        case rel => exact ⟨j + 1, by omega, by go_num, HBD⟩
        case measure => simp [intOf]; omega
      · go_wp2_with fail
        ((with_reducible refine Calls.mono HLJ.out ?_))
        rintro e w1 ⟨rfl, rfl⟩
        go_wp2_with fail
        refine Calls.mono HR1.out ?_
        rintro e w1 ⟨rfl, rfl⟩
        go_wp2_with fail
        refine Calls.mono HR2.out ?_
        rintro e w1 ⟨rfl, rfl⟩
        unfold rdV rdE
        go_wp2_with fail
        refine Calls.mono (same_u8 none none 0 0 0 [] _ Lies.nothing Lies.nothing (by omega)) ?_
        rintro e w1 ⟨rfl, d, rfl⟩
        have HBD : Hid (Below w.heap.size w (w1.drewN d)) := hide (below_drewN HBW2.out d)
        go_wp2
        go_roundw
        case rel => exact ⟨j + 1, by omega, by go_num, HBD⟩
        case measure => simp [intOf]; omega
    · obtain rfl : j = N := by omega
      go_wp2_with fail
      ((with_reducible refine Calls.mono HLJ.out ?_))
      rintro e w1 ⟨rfl, rfl⟩
      go_wp2
      go_ret
      exact ⟨rfl, HB.out⟩
end
end Go.Proofs.Ytphfakjodddilaa
