/- Contracts of the statements' own helpers great, does and alive of layer 3. -/
import Derived.Test.YtphfakjodddilaaDiskAct
namespace Go.Proofs.Ytphfakjodddilaa
open Go.RowKit
set_option linter.unusedSimpArgs false
set_option linter.unusedVariables false

def sumTo (l : List Act1) (k : Nat) : Nat := ((l.take k).map fun x => 1 + x.m).sum
theorem sumTo_succ (l : List Act1) (k : Nat) (hk : k < l.length) : sumTo l (k + 1) = sumTo l k + 1 + (actAt l k).m := by
  have e : actAt l k = l[k] := by simp [actAt, List.getD, hk]
  unfold sumTo
  rw [List.take_succ_eq_append_getElem hk, List.map_append, List.sum_append, e]
  simp
  omega
def GreatP (n : Nat) (w : World) (e : Ending) (w' : World) : Prop := ∃ bd, e = .returned (.bool bd) ∧ (bd = false → n ≤ 150) ∧ w = w'
set_option maxHeartbeats 800000 in
theorem great_any (A : Option Addr) (n c : Nat) (l : List Act1) (w : World) (h : ActsAt w A n l) (hn : n ≤ 140737488355328) :
    Calls Try.prog 21 #[.slice A n c] w fun e w' => GreatP n w e w' := by
  have HA := hide h
  clear h
  go_enter Try.func21, Try.ntmps21
  go_wp2
  go_loop [3, 4] (fun s i => ∃ k : Nat, k ≤ n ∧ i = .int .i64 k ∧ s = .int .i64 (sumTo l k : Nat) ∧ sumTo l k ≤ 30000) (fun _ i => n - (intOf i).toNat)
  case atStart => exact ⟨0, Nat.zero_le _, rfl, rfl, by simp [sumTo]⟩
  case round =>
    obtain ⟨k, hk, rfl, rfl, hs⟩ := hrel
    by_cases hlt : k < n
    · obtain ⟨b, o, rfl, _, hc⟩ := HA.out.cells (by omega)
      have hkl : k < l.length := by rw [HA.out.len]; exact hlt
      obtain ⟨x, hx⟩ : ∃ x, x = actAt l k := ⟨_, rfl⟩
      have hox : OkAct w x := by rw [hx]; exact HA.out.each _ (actAt_mem hkl)
      have hm := hox.size
      have c3 : w.cell? ⟨b, o + k * 5 + 3, none⟩ = some (.slice x.A x.m x.c) := hc k hlt 3 _ (by rw [← hx]; rfl)
      have hsu : sumTo l (k + 1) = sumTo l k + 1 + x.m := by rw [sumTo_succ l k hkl, hx]
      obtain ⟨s0, hs0⟩ : ∃ s0, s0 = sumTo l k := ⟨_, rfl⟩
      rw [← hs0] at hs hsu ⊢
      have HSU := hide hsu
      have k0 : (0 : Int) ≤ (k : Int) := by omega
      have k1 : (k : Int) < (n : Int) := by omega
      clear hc hox hx hs0 hsu
      by_cases hg : 30000 < s0 + 1 + x.m
      · have g1 : (30000 : Int) < (s0 : Int) + 1 + (x.m : Int) := by omega
        go_wp2
        go_ret
        exact ⟨true, rfl, (fun h => by cases h), rfl⟩
      · have g1 : (s0 : Int) + 1 + (x.m : Int) ≤ 30000 := by omega
        go_wp2
        go_round
        case rel => exact ⟨k + 1, by omega, by go_num, by rw [HSU.out]; go_num, by rw [HSU.out]; omega⟩
        case measure => simp [intOf]; omega
    · obtain rfl : k = n := by omega
      by_cases hg : 150 < k
      · have g1 : (150 : Int) < (k : Int) := by omega
        go_wp2
        go_ret
        exact ⟨true, by simp [Act.eval, g1], (fun h => by cases h), rfl⟩
      · have g1 : (k : Int) ≤ 150 := by omega
        go_wp2
        go_ret
        exact ⟨false, by simp [Act.eval]; omega, (fun _ => by omega), rfl⟩

def actStep (k : Dk) (x : Act1) : Dk :=
  if x.kind % 9 < 4 then ⟨k.g, k.dur, wrP k.dur.length x.n x.bs k.pend⟩
  else if x.kind % 9 = 4 then ⟨k.g, k.seen, []⟩
  else if x.kind % 9 = 6 then rotP x.n x.p (x.keep % 256) k
  else if x.kind % 9 = 7 then badP x.n k
  else k
def doesK (g : Nat) (l : List Act1) (j : Nat) : Dk := (l.take j).foldl actStep ⟨g, List.replicate 8 zeroSec, []⟩
theorem rotP_g (n p y : Int) (k : Dk) : (rotP n p y k).g = k.g := by unfold rotP; split <;> rfl
theorem badP_g (n : Int) (k : Dk) : (badP n k).g = k.g := by unfold badP; split <;> rfl
theorem step_g (k : Dk) (x : Act1) : (actStep k x).g = k.g := by
  unfold actStep
  split
  · rfl
  split
  · rfl
  split
  · exact rotP_g _ _ _ _
  split
  · exact badP_g _ _
  · rfl
theorem doesK_succ (g : Nat) (l : List Act1) {j : Nat} (hj : j < l.length) : doesK g l (j + 1) = actStep (doesK g l j) (actAt l j) := by
  have e : actAt l j = l[j] := by simp [actAt, List.getD, hj]
  unfold doesK
  rw [List.take_succ_eq_append_getElem hj, List.foldl_append, e]
  rfl
theorem wrP_len (n : Nat) (m : Int) (bs : List Int) (pend : List Wr) : (wrP n m bs pend).length ≤ pend.length + 1 := by
  unfold wrP; split
  · simp
  · omega
theorem stepP_len (k : Dk) (x : Act1) : (actStep k x).pend.length ≤ k.pend.length + 1 := by
  unfold actStep
  split
  · exact wrP_len _ _ _ _
  split
  · simp
  split
  · unfold rotP; split <;> simp
  split
  · unfold badP; split <;> simp
  · omega
theorem stepD_len (k : Dk) (x : Act1) : (actStep k x).dur.length = k.dur.length := by
  unfold actStep
  split
  · rfl
  split
  · exact Dk.seen_len k
  split
  · unfold rotP; split
    · exact rotD_len
    · rfl
  split
  · unfold badP; split
    · exact badD_len
    · rfl
  · rfl
theorem doesK_facts (g : Nat) (l : List Act1) (j : Nat) (hj : j ≤ l.length) : (doesK g l j).g = g ∧ (doesK g l j).pend.length ≤ j ∧ (doesK g l j).dur.length = 8 := by
  induction j with
  | zero => exact ⟨rfl, Nat.le_refl _, by simp [doesK]⟩
  | succ j ih =>
    obtain ⟨h1, h2, h3⟩ := ih (by omega)
    rw [doesK_succ g l (by omega)]
    refine ⟨(step_g _ _).trans h1, ?_, (stepD_len _ _).trans h3⟩
    have := stepP_len (doesK g l j) (actAt l j)
    omega
theorem Dk.eta (k : Dk) : k = ⟨k.g, k.dur, k.pend⟩ := rfl
theorem actV_one (x : Act1) : ∀ v ∈ actV x, v.oneCell' = true := by
  intro v hv
  simp [actV] at hv
  rcases hv with rfl | rfl | rfl | rfl | rfl <;> rfl
theorem rotK {B : Nat} {w : World} {n p y : Int} {g : Nat} {d : List Sec} {q : List Wr} (h : Ks B w [rotP n p y ⟨g, d, q⟩]) : Ks B w [⟨g, (rotP n p y ⟨g, d, q⟩).dur, (rotP n p y ⟨g, d, q⟩).pend⟩] := by
  have e : rotP n p y ⟨g, d, q⟩ = ⟨g, (rotP n p y ⟨g, d, q⟩).dur, (rotP n p y ⟨g, d, q⟩).pend⟩ := by unfold rotP; split <;> rfl
  rw [← e]; exact h
theorem badK {B : Nat} {w : World} {n : Int} {g : Nat} {d : List Sec} {q : List Wr} (h : Ks B w [badP n ⟨g, d, q⟩]) : Ks B w [⟨g, (badP n ⟨g, d, q⟩).dur, (badP n ⟨g, d, q⟩).pend⟩] := by
  have e : badP n ⟨g, d, q⟩ = ⟨g, (badP n ⟨g, d, q⟩).dur, (badP n ⟨g, d, q⟩).pend⟩ := by unfold badP; split <;> rfl
  rw [← e]; exact h

theorem Try.infoAct : (Try.prog.info? 50).map (fun i => (i.zero, i.size, i.bytes)) = some (some (.agg #[.int .u8 0, .int .i64 0, .int .i64 0, .slice none 0 0, .int .u64 0]), 5, 56) := by kernel_rfl
set_option maxRecDepth 100000 in
set_option maxHeartbeats 4000000 in
theorem does_any (A : Option Addr) (n c : Nat) (l : List Act1) (w : World) (h : ActsAt w A n l) (hn : n ≤ 150) :
    Calls Try.prog 22 #[.slice A n c] w fun e w' => ∃ g, e = .returned (.pointer (some ⟨g, 0, none⟩)) ∧ Ks w.heap.size w' [⟨g, (doesK g l n).dur, (doesK g l n).pend⟩] ∧ Below w.heap.size w w' := by
  have HA := hide h
  have HN := hide (k_new (B := w.heap.size) (l := []) 8 w Ks.nil (Nat.le_refl _) (by omega) (by omega))
  obtain ⟨i, hi, hz0, hz1, hz2⟩ := info_parts Try.infoAct
  have HI := hide hi
  have HZ0 := hide hz0
  have HZS : Hid ((#[.int .u8 0, .int .i64 0, .int .i64 0, .slice none 0 0, .int .u64 0] : Array Value).size = i.size) := hide (by rw [hz1]; rfl)
  have HZ1 := hide hz1
  clear h hi hz0 hz1 hz2
  go_enter Try.func22, Try.ntmps22
  go_wp2_with fail
  refine Calls.mono HN.out ?_
  rintro e w1 ⟨g, rfl, hk1, hb1⟩
  have HK1 : Hid (Ks w.heap.size w1 [⟨g, (doesK g l 0).dur, (doesK g l 0).pend⟩]) := hide hk1
  have HB1 := hide hb1
  clear hk1 hb1
  go_wp2
  go_loopw [5] (fun i wr => ∃ j : Nat, j ≤ n ∧ i = .int .i64 j ∧ Hid (Ks w.heap.size wr [⟨g, (doesK g l j).dur, (doesK g l j).pend⟩]) ∧ Hid (Below w.heap.size w wr)) (fun i _ => n - (intOf i).toNat)
  case atStart => exact ⟨0, Nat.zero_le _, rfl, HK1, HB1⟩
  case round =>
    obtain ⟨j, hj, rfl, HK, HB⟩ := hrel
    by_cases hlt : j < n
    · obtain ⟨b, o, rfl, _, hc⟩ := (HA.out.below HB.out).cells (by omega)
      have hjl : j < l.length := by rw [HA.out.len]; exact hlt
      obtain ⟨x, hx⟩ : ∃ x, x = actAt l j := ⟨_, rfl⟩
      have HX := hide hx
      have HOX : Hid (OkAct w x) := hide (by rw [hx]; exact HA.out.each _ (actAt_mem hjl))
      have hcc := hc j hlt
      rw [← hx] at hcc
      have HCELL : Hid (∀ i u, (actV x)[i]? = some u → wr.cell? ⟨b, o + j * 5 + i, none⟩ = some u) := hide hcc
      have hf := doesK_facts g l j (by omega)
      obtain ⟨dj, hdj⟩ : ∃ dj, dj = (doesK g l j).dur := ⟨_, rfl⟩
      obtain ⟨pj, hpj⟩ : ∃ pj, pj = (doesK g l j).pend := ⟨_, rfl⟩
      have HDK : Hid (doesK g l j = ⟨g, dj, pj⟩) := hide (by rw [hdj, hpj]; exact (show doesK g l j = ⟨(doesK g l j).g, _, _⟩ from rfl).trans (by rw [hf.1]; rfl))
      have HPL : Hid (pj.length ≤ 1000000000) := hide (by rw [hpj]; omega)
      rw [← hdj, ← hpj] at HK
      obtain ⟨W, hW⟩ : ∃ W, W = wr.alloc (.cells (actV x).toArray 50) := ⟨_, rfl⟩
      have HKW : Hid (Ks w.heap.size W [⟨g, dj, pj⟩]) := hide (by rw [hW]; exact HK.out.alloc _)
      have HBW : Hid (Below w.heap.size w W) := hide (by rw [hW]; exact HB.out.alloc HB.out.size _)
      have c0 : W.cell? ⟨wr.heap.size, 0, none⟩ = some (.int .u8 x.kind) := by rw [hW]; exact cells_new wr (actV x) 50 0 _ rfl
      have c1 : W.cell? ⟨wr.heap.size, 1, none⟩ = some (.int .i64 x.n) := by rw [hW]; exact cells_new wr (actV x) 50 1 _ rfl
      have c2 : W.cell? ⟨wr.heap.size, 2, none⟩ = some (.int .i64 x.p) := by rw [hW]; exact cells_new wr (actV x) 50 2 _ rfl
      have c3 : W.cell? ⟨wr.heap.size, 3, none⟩ = some (.slice x.A x.m x.c) := by rw [hW]; exact cells_new wr (actV x) 50 3 _ rfl
      have c4 : W.cell? ⟨wr.heap.size, 4, none⟩ = some (.int .u64 x.keep) := by rw [hW]; exact cells_new wr (actV x) 50 4 _ rfl
      have HIS : Hid (i.size = (actV x).length) := hide (by rw [HZ1.out]; rfl)
      have HWW : Hid (wr.alloc (.cells (actV x).toArray 50) = W) := hide hW.symm
      obtain ⟨q0, q1⟩ := HOX.out.kind
      obtain ⟨q2, q3⟩ := HOX.out.keep
      have k0 : (0 : Int) ≤ (j : Int) := by omega
      have k1 : (j : Int) < (n : Int) := by omega
      obtain ⟨r, hr⟩ : ∃ r, x.kind % 9 = r := ⟨_, rfl⟩
      have hr9 : r = 0 ∨ r = 1 ∨ r = 2 ∨ r = 3 ∨ r = 4 ∨ r = 5 ∨ r = 6 ∨ r = 7 ∨ r = 8 := by omega
      clear hx hc hcc hf hdj hpj hW
      rcases hr9 with rfl | rfl | rfl | rfl | rfl | rfl | rfl | rfl | rfl
      · have hk9 : actStep ⟨g, dj, pj⟩ x = ⟨g, dj, wrP dj.length x.n x.bs pj⟩ := by unfold actStep; rw [if_pos (by omega)]
        have HK9 := hide hk9
        clear hk9
        go_wp2_with (first | (refine wpList_load_mid rfl 50 _ rfl _ _ (actV x) _ rfl HCELL.out Try.underlying50 rfl (by kernel_rfl) ?_) | (refine wpList_alloc_store rfl rfl 50 rfl _ _ rfl _ i HI.out HZ0.out HZS.out (actV x) rfl rfl HIS.out (actV_one x) ?_; rw [HWW.out]))
        refine Calls.mono (k_write (a := []) (b := []) (k := ⟨g, dj, pj⟩) x.n x.A x.m x.c x.bs _ HKW.out (HOX.out.lies.below HBW.out) HOX.out.bytes HPL.out) ?_
        rintro e w5 ⟨rfl, hk5, hb5⟩
        have HK5 : Hid (Ks w.heap.size w5 [⟨g, (doesK g l (j + 1)).dur, (doesK g l (j + 1)).pend⟩]) := hide (by
          rw [doesK_succ g l hjl, ← HX.out, HDK.out, HK9.out]
          exact hk5)
        have HB5 : Hid (Below w.heap.size w w5) := hide (HBW.out.trans hb5)
        clear hk5 hb5
        go_wp2
        go_roundw
        case rel => exact ⟨j + 1, by omega, by go_num, HK5, HB5⟩
        case measure => simp [intOf]; omega
      · have hk9 : actStep ⟨g, dj, pj⟩ x = ⟨g, dj, wrP dj.length x.n x.bs pj⟩ := by unfold actStep; rw [if_pos (by omega)]
        have HK9 := hide hk9
        clear hk9
        go_wp2_with (first | (refine wpList_load_mid rfl 50 _ rfl _ _ (actV x) _ rfl HCELL.out Try.underlying50 rfl (by kernel_rfl) ?_) | (refine wpList_alloc_store rfl rfl 50 rfl _ _ rfl _ i HI.out HZ0.out HZS.out (actV x) rfl rfl HIS.out (actV_one x) ?_; rw [HWW.out]))
        refine Calls.mono (k_write (a := []) (b := []) (k := ⟨g, dj, pj⟩) x.n x.A x.m x.c x.bs _ HKW.out (HOX.out.lies.below HBW.out) HOX.out.bytes HPL.out) ?_
        rintro e w5 ⟨rfl, hk5, hb5⟩
        have HK5 : Hid (Ks w.heap.size w5 [⟨g, (doesK g l (j + 1)).dur, (doesK g l (j + 1)).pend⟩]) := hide (by
          rw [doesK_succ g l hjl, ← HX.out, HDK.out, HK9.out]
          exact hk5)
        have HB5 : Hid (Below w.heap.size w w5) := hide (HBW.out.trans hb5)
        clear hk5 hb5
        go_wp2
        go_roundw
        case rel => exact ⟨j + 1, by omega, by go_num, HK5, HB5⟩
        case measure => simp [intOf]; omega
      · have hk9 : actStep ⟨g, dj, pj⟩ x = ⟨g, dj, wrP dj.length x.n x.bs pj⟩ := by unfold actStep; rw [if_pos (by omega)]
        have HK9 := hide hk9
        clear hk9
        go_wp2_with (first | (refine wpList_load_mid rfl 50 _ rfl _ _ (actV x) _ rfl HCELL.out Try.underlying50 rfl (by kernel_rfl) ?_) | (refine wpList_alloc_store rfl rfl 50 rfl _ _ rfl _ i HI.out HZ0.out HZS.out (actV x) rfl rfl HIS.out (actV_one x) ?_; rw [HWW.out]))
        refine Calls.mono (k_write (a := []) (b := []) (k := ⟨g, dj, pj⟩) x.n x.A x.m x.c x.bs _ HKW.out (HOX.out.lies.below HBW.out) HOX.out.bytes HPL.out) ?_
        rintro e w5 ⟨rfl, hk5, hb5⟩
        have HK5 : Hid (Ks w.heap.size w5 [⟨g, (doesK g l (j + 1)).dur, (doesK g l (j + 1)).pend⟩]) := hide (by
          rw [doesK_succ g l hjl, ← HX.out, HDK.out, HK9.out]
          exact hk5)
        have HB5 : Hid (Below w.heap.size w w5) := hide (HBW.out.trans hb5)
        clear hk5 hb5
        go_wp2
        go_roundw
        case rel => exact ⟨j + 1, by omega, by go_num, HK5, HB5⟩
        case measure => simp [intOf]; omega
      · have hk9 : actStep ⟨g, dj, pj⟩ x = ⟨g, dj, wrP dj.length x.n x.bs pj⟩ := by unfold actStep; rw [if_pos (by omega)]
        have HK9 := hide hk9
        clear hk9
        go_wp2_with (first | (refine wpList_load_mid rfl 50 _ rfl _ _ (actV x) _ rfl HCELL.out Try.underlying50 rfl (by kernel_rfl) ?_) | (refine wpList_alloc_store rfl rfl 50 rfl _ _ rfl _ i HI.out HZ0.out HZS.out (actV x) rfl rfl HIS.out (actV_one x) ?_; rw [HWW.out]))
        refine Calls.mono (k_write (a := []) (b := []) (k := ⟨g, dj, pj⟩) x.n x.A x.m x.c x.bs _ HKW.out (HOX.out.lies.below HBW.out) HOX.out.bytes HPL.out) ?_
        rintro e w5 ⟨rfl, hk5, hb5⟩
        have HK5 : Hid (Ks w.heap.size w5 [⟨g, (doesK g l (j + 1)).dur, (doesK g l (j + 1)).pend⟩]) := hide (by
          rw [doesK_succ g l hjl, ← HX.out, HDK.out, HK9.out]
          exact hk5)
        have HB5 : Hid (Below w.heap.size w w5) := hide (HBW.out.trans hb5)
        clear hk5 hb5
        go_wp2
        go_roundw
        case rel => exact ⟨j + 1, by omega, by go_num, HK5, HB5⟩
        case measure => simp [intOf]; omega
      · have hk9 : actStep ⟨g, dj, pj⟩ x = ⟨g, seenOf dj pj, []⟩ := by unfold actStep; rw [if_neg (by omega), if_pos (by omega)]; rfl
        have HK9 := hide hk9
        clear hk9
        go_wp2_with (first | (refine wpList_load_mid rfl 50 _ rfl _ _ (actV x) _ rfl HCELL.out Try.underlying50 rfl (by kernel_rfl) ?_) | (refine wpList_alloc_store rfl rfl 50 rfl _ _ rfl _ i HI.out HZ0.out HZS.out (actV x) rfl rfl HIS.out (actV_one x) ?_; rw [HWW.out]))
        refine Calls.mono (k_sync (a := []) (b := []) (k := ⟨g, dj, pj⟩) _ HKW.out HPL.out) ?_
        rintro e w5 ⟨rfl, hk5, hb5⟩
        have HK5 : Hid (Ks w.heap.size w5 [⟨g, (doesK g l (j + 1)).dur, (doesK g l (j + 1)).pend⟩]) := hide (by
          rw [doesK_succ g l hjl, ← HX.out, HDK.out, HK9.out]
          exact hk5)
        have HB5 : Hid (Below w.heap.size w w5) := hide (HBW.out.trans hb5)
        clear hk5 hb5
        go_wp2
        go_roundw
        case rel => exact ⟨j + 1, by omega, by go_num, HK5, HB5⟩
        case measure => simp [intOf]; omega
      · have hk9 : actStep ⟨g, dj, pj⟩ x = ⟨g, dj, pj⟩ := by unfold actStep; rw [if_neg (by omega), if_neg (by omega), if_neg (by omega), if_neg (by omega)]
        have HK5 : Hid (Ks w.heap.size W [⟨g, (doesK g l (j + 1)).dur, (doesK g l (j + 1)).pend⟩]) := hide (by
          rw [doesK_succ g l hjl, ← HX.out, HDK.out, hk9]
          exact HKW.out)
        clear hk9
        go_wp2_with (first | (refine wpList_load_mid rfl 50 _ rfl _ _ (actV x) _ rfl HCELL.out Try.underlying50 rfl (by kernel_rfl) ?_) | (refine wpList_alloc_store rfl rfl 50 rfl _ _ rfl _ i HI.out HZ0.out HZS.out (actV x) rfl rfl HIS.out (actV_one x) ?_; rw [HWW.out]))
        go_roundw
        case rel => exact ⟨j + 1, by omega, by go_num, HK5, HBW⟩
        case measure => simp [intOf]; omega
      · have hk9 : actStep ⟨g, dj, pj⟩ x = rotP x.n x.p (x.keep % 256) ⟨g, dj, pj⟩ := by unfold actStep; rw [if_neg (by omega), if_neg (by omega), if_pos (by omega)]
        have HK9 := hide hk9
        clear hk9
        go_wp2_with (first | (refine wpList_load_mid rfl 50 _ rfl _ _ (actV x) _ rfl HCELL.out Try.underlying50 rfl (by kernel_rfl) ?_) | (refine wpList_alloc_store rfl rfl 50 rfl _ _ rfl _ i HI.out HZ0.out HZS.out (actV x) rfl rfl HIS.out (actV_one x) ?_; rw [HWW.out]))
        refine Calls.mono (k_rot (a := []) (b := []) (k := ⟨g, dj, pj⟩) x.n x.p (x.keep % 256) _ HKW.out (by omega) HPL.out) ?_
        rintro e w5 ⟨rfl, hk5, hb5⟩
        have HK5 : Hid (Ks w.heap.size w5 [⟨g, (doesK g l (j + 1)).dur, (doesK g l (j + 1)).pend⟩]) := hide (by
          rw [doesK_succ g l hjl, ← HX.out, HDK.out, HK9.out]
          exact rotK hk5)
        have HB5 : Hid (Below w.heap.size w w5) := hide (HBW.out.trans hb5)
        clear hk5 hb5
        go_wp2
        go_roundw
        case rel => exact ⟨j + 1, by omega, by go_num, HK5, HB5⟩
        case measure => simp [intOf]; omega
      · have hk9 : actStep ⟨g, dj, pj⟩ x = badP x.n ⟨g, dj, pj⟩ := by unfold actStep; rw [if_neg (by omega), if_neg (by omega), if_neg (by omega), if_pos (by omega)]
        have HK9 := hide hk9
        clear hk9
        go_wp2_with (first | (refine wpList_load_mid rfl 50 _ rfl _ _ (actV x) _ rfl HCELL.out Try.underlying50 rfl (by kernel_rfl) ?_) | (refine wpList_alloc_store rfl rfl 50 rfl _ _ rfl _ i HI.out HZ0.out HZS.out (actV x) rfl rfl HIS.out (actV_one x) ?_; rw [HWW.out]))
        refine Calls.mono (k_bad (a := []) (b := []) (k := ⟨g, dj, pj⟩) x.n _ HKW.out HPL.out) ?_
        rintro e w5 ⟨rfl, hk5, hb5⟩
        have HK5 : Hid (Ks w.heap.size w5 [⟨g, (doesK g l (j + 1)).dur, (doesK g l (j + 1)).pend⟩]) := hide (by
          rw [doesK_succ g l hjl, ← HX.out, HDK.out, HK9.out]
          exact badK hk5)
        have HB5 : Hid (Below w.heap.size w w5) := hide (HBW.out.trans hb5)
        clear hk5 hb5
        go_wp2
        go_roundw
        case rel => exact ⟨j + 1, by omega, by go_num, HK5, HB5⟩
        case measure => simp [intOf]; omega
      · have hk9 : actStep ⟨g, dj, pj⟩ x = ⟨g, dj, pj⟩ := by unfold actStep; rw [if_neg (by omega), if_neg (by omega), if_neg (by omega), if_neg (by omega)]
        have HK5 : Hid (Ks w.heap.size W [⟨g, (doesK g l (j + 1)).dur, (doesK g l (j + 1)).pend⟩]) := hide (by
          rw [doesK_succ g l hjl, ← HX.out, HDK.out, hk9]
          exact HKW.out)
        clear hk9
        go_wp2_with (first | (refine wpList_load_mid rfl 50 _ rfl _ _ (actV x) _ rfl HCELL.out Try.underlying50 rfl (by kernel_rfl) ?_) | (refine wpList_alloc_store rfl rfl 50 rfl _ _ rfl _ i HI.out HZ0.out HZS.out (actV x) rfl rfl HIS.out (actV_one x) ?_; rw [HWW.out]))
        go_roundw
        case rel => exact ⟨j + 1, by omega, by go_num, HK5, HBW⟩
        case measure => simp [intOf]; omega
    · obtain rfl : j = n := by omega
      go_wp2
      go_ret
      exact ⟨g, rfl, HK.out, HB.out⟩
end Go.Proofs.Ytphfakjodddilaa
