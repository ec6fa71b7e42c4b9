/- Merged: Tx9, Tx10, Tx11, Pb2, Tx13, Pb3. -/
import Derived.Test.YtohndckbhjakfaaGreatDoorWZ36
import Derived.Defers
import Derived.Recover
import Derived.Tactics2
import Derived.Laws.Pointers
import Derived.Test.YtohndckbhjakfaaGreatDoorWZ28
import Derived.Test.YtohndckbhjakfaaGreatDoorWZ29
import Derived.Test.YtohndckbhjakfaaGreatDoorWZ35
import Derived.Test.YtohndckbhjakfaaGreatDoorWZ13
namespace Go.Proofs.YtohndckbhjakfaaGreatDoor

section
open Go.RowKit
set_option linter.unusedVariables false
set_option linter.unusedSimpArgs false
set_option maxRecDepth 100000

theorem splitC_short (c : UInt8) : ∀ s : Wd, (∀ x ∈ splitC c s, x.length ≤ s.length) ∧ (splitC c s).length ≤ s.length + 1
  | [] => by simp [splitC]
  | b :: l => by
    obtain ⟨h1, h2⟩ := splitC_short c l
    rw [splitC]
    split
    · refine ⟨fun x hx => ?_, by simp only [List.length_cons]; omega⟩
      rcases List.mem_cons.1 hx with e | e
      · subst e; simp
      · have := h1 x e; simp only [List.length_cons]; omega
    · cases hs : splitC c l with
      | nil => exact absurd hs (splitC_ne c l)
      | cons y r =>
        rw [hs] at h1 h2
        simp only
        refine ⟨fun x hx => ?_, by simp only [List.length_cons] at h2 ⊢; omega⟩
        rcases List.mem_cons.1 hx with e | e
        · subst e; have := h1 y (by simp); simp only [List.length_cons]; omega
        · have := h1 x (by simp [e]); simp only [List.length_cons]; omega

theorem split_any (s : Wd) (c : UInt8) (hs : s.length ≤ 1000000) (w : World) (hv : LaidV w) : Calls Tryz.prog 76 #[strV s, .string ⟨#[c]⟩] w fun e w' => e = .returned (.slice (some ⟨w.heap.size, 0, none⟩) (Lib.split s [c]).length (Lib.split s [c]).length) ∧ w' = w.alloc (.cells ((Lib.split s [c]).map strV).toArray 9) := by
  obtain ⟨m, hm⟩ := hv.maxl
  have hd : (⟨s.toArray⟩ : ByteArray).data.toList = s := by simp
  have hc : (⟨#[c]⟩ : ByteArray).data.toList = [c] := rfl
  have hsz : (⟨s.toArray⟩ : ByteArray).size < 4294967281 := by simp only [ByteArray.size, List.size_toArray]; omega
  have hk := Tryz.strings_Split ⟨s.toArray⟩ ⟨#[c]⟩ m w hsz hm (by simp [ByteArray.size])
  have hcn : Lib.countB ⟨s.toArray⟩ ⟨#[c]⟩ = Lib.count s [c] := by simp [Lib.countB]
  have hdat := Lib.splitB_data ⟨#[c]⟩ 0 (Lib.countB ⟨s.toArray⟩ ⟨#[c]⟩) ⟨s.toArray⟩
  rw [hd, hc, hcn] at hdat
  have hmap : (Lib.splitB ⟨#[c]⟩ 0 (Lib.countB ⟨s.toArray⟩ ⟨#[c]⟩) ⟨s.toArray⟩).map Value.string = (Lib.split s [c]).map strV := by
    rw [Lib.split, ← hdat, List.map_map, hcn]
    apply List.map_congr_left
    intro x _
    simp [strV]
  have hlen : Lib.countB ⟨s.toArray⟩ ⟨#[c]⟩ + 1 = (Lib.split s [c]).length := by
    rw [← Lib.splitB_all ⟨#[c]⟩ (by simp [ByteArray.size]) 0 _ ⟨s.toArray⟩ rfl, Lib.split, ← hdat, List.length_map, hcn]
  rw [hmap, hlen] at hk
  exact hk

theorem split_short (s : Wd) (c : UInt8) (hs : s.length ≤ 900000) : Short (Lib.split s [c]) ∧ (Lib.split s [c]).length ≤ 1000000 ∧ 1 ≤ (Lib.split s [c]).length := by
  rw [split_eq]
  obtain ⟨h1, h2⟩ := splitC_short c s
  exact ⟨fun x hx => by have := h1 x hx; omega, by omega, List.length_pos_iff.2 (splitC_ne c s)⟩

/-- What is deferred: where the frame panics. -/
theorem catch_up (b0 b1 : Nat) (hne : b0 ≠ b1) (x : Nd) (ok : Bool) (u : TypeId) (pv : Value) (older : List PanicEntry) (w : World) (h0 : BoxN w b0 x) (h1 : w.heap[b1]? = some (.cells #[.bool ok] 4 (0, 0))) :
    CallsD Tryz.prog 77 #[.pointer (some ⟨b0, 0, none⟩), .pointer (some ⟨b1, 0, none⟩)] (.panicking ({ v := .iface u pv, recovered := false } :: older)) w fun e u' w' =>
      e = .returned (.tuple #[]) ∧ u' = .panicking ({ v := .iface u pv, recovered := true } :: older) ∧ BoxN w' b0 ⟨0, none, 0, 0, none, 0, 0, 0, 0, [], []⟩ ∧ w'.heap[b1]? = some (.cells #[.bool false] 4 (0, 0)) ∧ ∀ B, B ≤ b0 → B ≤ b1 → Below B w w' := by
  obtain ⟨c0, c1, c2, c3, c4⟩ := h0.cs
  have f0 := h0.frozen 0
  have f1 := h0.frozen 1
  have f2 := h0.frozen 2
  have f3 := h0.frozen 3
  have f4 := h0.frozen 4
  have d0 := cell_of_row _ _ 0 _ _ (0, 0) h1
  have g0 := frozen_of_row w b1 0 _ _ h1
  refine callsD_of_wpS Tryz.func77 rfl fun c₀ cs hu => ?_
  apply wpS_seq
  apply wpS_region
  simp [wpOpsS, go_sem, recoverD, hu, Tryz.ntmps77, Exit.thenS]
  refine wpS_cond (t := true) (by simp [Act.eval, Array.replicate]) ?_
  simp only [if_true]
  have d0' : w.cell? ⟨b1, 0, none⟩ = some (.bool ok) := d0
  have hne' : b1 ≠ b0 := hne.symm
  clear d0
  refine wpS_of_wp ?_
  go_wp2
  have e0 := heap_setCell_same w b0 0 _ _ (.int .u8 0) h0
  have e1 := heap_setCell_same _ b0 1 _ _ (.slice none 0 0) e0
  have e2 := heap_setCell_same _ b0 2 _ _ (.slice none 0 0) e1
  have e3 := heap_setCell_same _ b0 3 _ _ (.int .i64 0) e2
  have e4 := heap_setCell_same _ b0 4 _ _ (.int .i64 0) e3
  have hb5 := below_set5 w b0 (.int .u8 0) (.slice none 0 0) (.slice none 0 0) (.int .i64 0) (.int .i64 0)
  have k1 : ∀ (u : World) (i : Nat) (v : Value), (u.setCell ⟨b0, i, none⟩ v).heap[b1]? = u.heap[b1]? := fun u i v => Below.heap_setCell u _ v b1 hne'
  have hb1 := ((k1 (((( w.setCell ⟨b0, 0, none⟩ (.int .u8 0)).setCell ⟨b0, 1, none⟩ (.slice none 0 0)).setCell ⟨b0, 2, none⟩ (.slice none 0 0)).setCell ⟨b0, 3, none⟩ (.int .i64 0)) 4 (.int .i64 0)).trans ((k1 _ 3 _).trans ((k1 _ 2 _).trans ((k1 _ 1 _).trans (k1 _ 0 _))))).trans h1
  obtain ⟨W5, hW5⟩ : ∃ W, W = (((((w.setCell ⟨b0, 0, none⟩ (.int .u8 0)).setCell ⟨b0, 1, none⟩ (.slice none 0 0)).setCell ⟨b0, 2, none⟩ (.slice none 0 0)).setCell ⟨b0, 3, none⟩ (.int .i64 0)).setCell ⟨b0, 4, none⟩ (.int .i64 0)) := ⟨_, rfl⟩
  rw [← hW5] at hb1 hb5 e4
  rw [← hW5]
  have hn : BoxN W5 b0 ⟨0, none, 0, 0, none, 0, 0, 0, 0, [], []⟩ := by simpa [BoxN] using e4
  have hs := heap_setCell_same W5 b1 0 _ _ (.bool false) hb1
  have hb6 := below_set1 b1 W5 0 (.bool false)
  have hn6 : BoxN (W5.setCell ⟨b1, 0, none⟩ (.bool false)) b0 ⟨0, none, 0, 0, none, 0, 0, 0, 0, [], []⟩ := (Below.heap_setCell W5 ⟨b1, 0, none⟩ _ b0 hne).trans hn
  have hs6 : (W5.setCell ⟨b1, 0, none⟩ (.bool false)).heap[b1]? = some (.cells #[.bool false] 4 (0, 0)) := by simpa using hs
  have hB : ∀ B, B ≤ b0 → B ≤ b1 → Below B w (W5.setCell ⟨b1, 0, none⟩ (.bool false)) := fun B h0 h1 => (hb5.mono h0).trans (hb6.mono h1)
  have hres : Tryz.f77.results = #[] := rfl
  obtain ⟨W6, hW6⟩ : ∃ W, W = W5.setCell ⟨b1, 0, none⟩ (.bool false) := ⟨_, rfl⟩
  rw [← hW6] at hn6 hs6 hB
  rw [← hW6]
  clear hW6 hs hb6 hn hW5 hb1 e0 e1 e2 e3 e4 k1 hb5
  simp [bodyPostS, results, hres, go_sem]
  exact ⟨hn6, hs6, hB⟩

theorem catch_quiet (b0 b1 : Nat) (w : World) :
    CallsD Tryz.prog 77 #[.pointer (some ⟨b0, 0, none⟩), .pointer (some ⟨b1, 0, none⟩)] .returning w fun e u' w' => e = .returned (.tuple #[]) ∧ u' = .returning ∧ w' = w := by
  refine callsD_of_wpS Tryz.func77 rfl fun c₀ cs hu => ?_
  apply wpS_seq
  apply wpS_region
  simp [wpOpsS, go_sem, recoverD, hu, Tryz.ntmps77, Exit.thenS]
  refine wpS_cond (t := false) (by simp [Act.eval, Array.replicate]) ?_
  simp only [Bool.false_eq_true, if_false]
  refine wpS_of_wp (wp_skip ?_)
  cases c₀
  have hres : Tryz.f77.results = #[] := rfl
  simp_all [bodyPostS, results]

end

section
open Go.RowKit
set_option linter.unusedVariables false
set_option linter.unusedSimpArgs false
set_option maxRecDepth 100000

def nd0 : Nd := ⟨0, none, 0, 0, none, 0, 0, 0, 0, [], []⟩

/-- What the node of a line comes to. -/
def NofE (s : Wd) (w : World) (e : Ending) (w' : World) : Prop :=
  (∃ x : Nd, nodeB s = some x.tn ∧ e = .returned (.tuple #[x.v, .bool true]) ∧ x.Ok w' ∧ w'.ownsRow w.heap.size 3 1 (.slice x.I x.ni x.ci) x.ni (x.xs.map (Value.int .i64)) ∧ w'.ownsRow w.heap.size 3 1 (.slice x.S x.ns x.cs) x.ns (x.sh.map (Value.int .i64)) ∧ (∀ g, (Value.slice x.I x.ni x.ci).ownBlock = some g → (Value.slice x.S x.ns x.cs).ownBlock ≠ some g) ∧ Below w.heap.size w w') ∨
  (nodeB s = none ∧ e = .returned (.tuple #[nd0.v, .bool false]) ∧ Below w.heap.size w w')

theorem head_drop {ws : List Wd} (h : 1 ≤ ws.length) : ∃ x t, ws = x :: t := by
  cases ws with
  | nil => simp at h
  | cons x t => exact ⟨x, t, rfl⟩

theorem six_set {w : World} {b0 b1 : Nat} {x y : Nd} {v : Value} {t : TypeId} (h0 : BoxN w b0 y) (h1 : w.heap[b1]? = some (.cells #[v] t (0, 0))) (hne : b1 ≠ b0 := by omega) :
    BoxN (((((w.setCell ⟨b0, 0, none⟩ (.int .u8 x.kd)).setCell ⟨b0, 1, none⟩ (.slice x.I x.ni x.ci)).setCell ⟨b0, 2, none⟩ (.slice x.S x.ns x.cs)).setCell ⟨b0, 3, none⟩ (.int .i64 x.N)).setCell ⟨b0, 4, none⟩ (.int .i64 x.P)) b0 x ∧
    (((((w.setCell ⟨b0, 0, none⟩ (.int .u8 x.kd)).setCell ⟨b0, 1, none⟩ (.slice x.I x.ni x.ci)).setCell ⟨b0, 2, none⟩ (.slice x.S x.ns x.cs)).setCell ⟨b0, 3, none⟩ (.int .i64 x.N)).setCell ⟨b0, 4, none⟩ (.int .i64 x.P)).heap[b1]? = some (.cells #[v] t (0, 0)) := by
  have e0 := heap_setCell_same w b0 0 _ _ (.int .u8 x.kd) h0
  have e1 := heap_setCell_same _ b0 1 _ _ (.slice x.I x.ni x.ci) e0
  have e2 := heap_setCell_same _ b0 2 _ _ (.slice x.S x.ns x.cs) e1
  have e3 := heap_setCell_same _ b0 3 _ _ (.int .i64 x.N) e2
  have e4 := heap_setCell_same _ b0 4 _ _ (.int .i64 x.P) e3
  have k1 : ∀ (u : World) (i : Nat) (v : Value), (u.setCell ⟨b0, i, none⟩ v).heap[b1]? = u.heap[b1]? := fun u i v => Below.heap_setCell u _ v b1 hne
  refine ⟨by simpa [BoxN] using e4, ?_⟩
  rw [k1, k1, k1, k1, k1]
  exact h1

set_option maxHeartbeats 8000000 in
theorem nodeOf_any (s : Wd) (hs : s.length ≤ 900000) (kb : Nat) (w : World) (hv : LaidV w) (hk : w.heap[kb]? = some (.map (kdEs 14) 14)) : Calls Tryz.prog 47 #[strV s, .map (some kb)] w (NofE s w) := by
  have hmf : ∀ (fn : Fn) (first cap : Array Value) (w : World), (Instr.makeFunc fn first cap).run Tryz.prog w = .ok (.func fn first cap) w := fun _ _ _ _ => rfl
  obtain ⟨hsh, hsl, hs1⟩ := split_short s 32 hs
  obtain ⟨x0, t0, hws⟩ := head_drop hs1
  obtain ⟨ws, hW⟩ : ∃ ws, ws = Lib.split s [32] := ⟨_, rfl⟩
  have hnb : nodeB s = nodeW ws := by rw [nodeB, hW]
  rw [← hW] at hsh hsl hs1 hws
  obtain ⟨b0, hb0⟩ : ∃ b, b = w.heap.size := ⟨_, rfl⟩
  obtain ⟨W2, hW2⟩ : ∃ W, W = (w.alloc (.cells #[.int .u8 0, .slice none 0 0, .slice none 0 0, .int .i64 0, .int .i64 0] 44)).alloc (.cells #[.bool false] 4) := ⟨_, rfl⟩
  have hB2 : Below w.heap.size w W2 := by rw [hW2]; exact ((Below.refl _ _).alloc (Nat.le_refl _) _).alloc (by simp) _
  have hs2 : W2.heap.size = b0 + 2 := by rw [hW2, hb0]; simp
  have hn2 : BoxN W2 b0 nd0 := by
    rw [hW2, hb0]
    exact (Below.heap_alloc _ _ _ (by simp)).trans (heap_alloc_new w _)
  have hk2 : W2.heap[b0 + 1]? = some (.cells #[.bool false] 4 (0, 0)) := by
    rw [hW2, hb0]
    have := heap_alloc_new (w.alloc (.cells #[.int .u8 0, .slice none 0 0, .slice none 0 0, .int .i64 0, .int .i64 0] 44)) (.cells #[.bool false] 4)
    simpa using this
  have hv2 := hv.below hB2
  have HSP := hide (split_any s 32 (by omega) W2 hv2)
  rw [← hW] at HSP
  obtain ⟨n, hn⟩ : ∃ n, n = ws.length := ⟨_, rfl⟩
  rw [← hn] at HSP
  obtain ⟨W3, hW3⟩ : ∃ W, W = W2.alloc (.cells (ws.map strV).toArray 9) := ⟨_, rfl⟩
  rw [← hW3] at HSP
  have hB3 : Below W2.heap.size W2 W3 := by rw [hW3]; exact (Below.refl _ _).alloc (Nat.le_refl _) _
  have hs3 : W3.heap.size = b0 + 3 := by rw [hW3]; simp [hs2]
  have hg3 : W3.heap[b0 + 2]? = some (.cells (ws.map strV).toArray 9 (0, 0)) := by rw [hW3, ← hs2]; exact heap_alloc_new W2 _
  have hx0 : W3.cell? ⟨b0 + 2, 0, none⟩ = some (strV x0) := by
    rw [cell_of_row _ _ 0 _ _ (0, 0) hg3, hws]
    rfl
  have hL3 : Lies W3 (some ⟨b0 + 2, 0, none⟩) n (ws.map strV) := ⟨by rw [List.length_map, hn], fun _ => ⟨b0 + 2, 0, rfl, lt_of_heap hg3, fun j _ => by rw [cell_of_row _ _ _ _ _ (0, 0) hg3]; simp⟩⟩
  have hBw3 : Below w.heap.size w W3 := hB2.trans (hB3.mono (by omega))
  have hlk := kd_lookup ((hBw3.block kb (lt_of_heap hk)).trans hk) x0
  obtain ⟨kd, hkd⟩ : ∃ kd, kd = kindB x0 := ⟨_, rfl⟩
  rw [← hkd] at hlk
  have hk14 : kd < 14 := by rw [hkd]; exact kind_lt x0
  have hn3 : BoxN W3 b0 nd0 := (hB3.block b0 (by omega)).trans hn2
  have hok3 : W3.heap[b0 + 1]? = some (.cells #[.bool false] 4 (0, 0)) := (hB3.block _ (by omega)).trans hk2
  have hn1 : 1 ≤ n := by omega
  have hn0 : ¬ ((n : Int) = 0) := by omega
  have hnp : ((0 : Int) < (n : Int)) := by omega
  obtain ⟨sv, hsv⟩ : ∃ sv, sv = strV x0 := ⟨_, rfl⟩
  rw [← hsv] at hx0 hlk
  unfold strV at HSP ⊢
  go_enter_defers Tryz.func47, Tryz.ntmps47
  go_wp2_with (go_at_call 76; fail)
  rw [hs2, hW2] at HSP
  refine HSP.out.mono ?_
  rintro e w3 ⟨rfl, rfl⟩
  rw [← hb0]
  have HBB := hide hb0
  have HKD := hide hkd
  have HWS := hide hws
  have HNN := hide hn
  have HNB := hide hnb
  have HSV := hide hsv
  have HWW := hide hW
  have HN3 := hide hn3
  have HO3 := hide hok3
  have HB3 := hide hBw3
  have HV3 := hide (hv.below hBw3)
  have HVW := hide hv
  clear hb0 hkd hws hn hnb hsv hW hW3 hW2 HSP hB2 hs2 hn2 hk2 hv2 hB3 hg3 hk hv hn3 hok3
  by_cases hkz : kd = 0
  · have hno : nodeB s = none := by rw [HNB.out, nodeW, HWS.out]; simp [← HKD.out, hkz]
    subst hkz
    go_wp2_with (go_at_call 78; have c := up_any w3; unfold upX at c; refine c.mono ?_; rintro e w' ⟨rfl, rfl⟩)
    refine leaves_cons (f := 77) (args := #[.pointer (some ⟨b0, 0, none⟩), .pointer (some ⟨b0 + 1, 0, none⟩)]) (by simp) (by simp [go_sem]) ?_
    refine (catch_up b0 (b0 + 1) (by omega) nd0 false 31 (.int .i64 4) [] _ HN3.out HO3.out).mono ?_
    rintro e u' w'' ⟨rfl, rfl, hb1, hb2, hbl⟩
    obtain ⟨d0, d1, d2, d3, d4⟩ := hb1.cs
    have d5 := cell_of_row _ _ 0 _ _ (0, 0) hb2
    have hBB := HB3.out.trans (hbl w.heap.size (by rw [HBB.out]; exact Nat.le_refl _) (by rw [HBB.out]; omega))
    have hres : Tryz.f47.results = #[.cell 4 44, .cell 5 4] := rfl
    simp [Leaves, settle, results, hres, go_sem, d0, d1, d2, d3, d4, d5]
    exact .inr ⟨hno, rfl, hBB⟩
  · have hkne : ((kd : Int) == 0) = false := by simpa using hkz
    obtain ⟨W4, hW4⟩ : ∃ W, W = w3.alloc (.cells #[.slice (some ⟨b0 + 2, 0, none⟩) n n] 145) := ⟨_, rfl⟩
    have hB4 : Below w3.heap.size w3 W4 := by rw [hW4]; exact (Below.refl _ _).alloc (Nat.le_refl _) _
    have hRd : RdAt W4 (b0 + 3) ws := ⟨some ⟨b0 + 2, 0, none⟩, n, n, by rw [hW4, ← hs3]; exact heap_alloc_new w3 _, hL3.below hB4, Nat.le_refl _, by rw [HNN.out]; omega, HNN.out.symm, fun _ a ha => by injection ha with ha; subst ha; simp⟩
    have hB4w := HB3.out.trans (hB4.mono HB3.out.size)
    have HN4 := hide (show BoxN W4 b0 nd0 from (hB4.block b0 (by omega)).trans HN3.out)
    have HO4 := hide ((hB4.block (b0 + 1) (by omega)).trans HO3.out)
    have c := node_any (b0 + 3) kd ws w W4 hRd hsh hsl HVW.out (by rw [HBB.out]; omega) hB4w (by omega) hk14
    have HC := hide c
    have HB4 := hide hB4w
    have hW4' := hW4.symm
    clear c hB4w hB4 hRd hW4 HN3 HO3
    go_wp2_with (go_at_call 79; fail)
    refine HC.out.mono ?_
    rintro e w5 hE
    have hkdB : kindB (ws.headD []) = kd := by rw [HWS.out, HKD.out]; rfl
    have hnw : ∀ R, readB (partsB kd) ⟨[], [], 0, 0, ws⟩ = R → nodeB s = R.bind fun r => if r.rest = [] then some ⟨kd, r.xs, r.sh, r.N, r.P⟩ else none := by
      intro R hR
      rw [HNB.out, nodeW, hkdB, if_neg hkz, hR]
    have HNW := hide hnw
    have hres : Tryz.f47.results = #[.cell 4 44, .cell 5 4] := rfl
    clear hkdB hnw
    rcases hE with ⟨rd, x, hrd, hend, hxk, hxs, hxsh, hxN, hxP, rfl, hok, hoi, hos, hdj, hbut⟩ | ⟨hno, rfl, hbut⟩
    · have h4s : W4.heap.size = b0 + 4 := by rw [← hW4']; simp [hs3]
      have hyes : nodeB s = some x.tn := by
        rw [HNW.out _ hrd]
        simp only [Option.bind_some]
        rw [if_pos hend]
        have hkd2 : x.kd.toNat = kd := by rw [hxk]; simp
        rw [Nd.tn, hkd2, hxs, hxsh, hxN, hxP]
      have hn5 : BoxN w5 b0 nd0 := (hbut.block b0 (by omega) (by omega)).trans HN4.out
      have hk5 : w5.heap[b0 + 1]? = some (.cells #[.bool false] 4 (0, 0)) := (hbut.block (b0 + 1) (by omega) (by omega)).trans HO4.out
      obtain ⟨c0, c1, c2, c3, c4⟩ := hn5.cs
      have g0 := hn5.frozen 0
      have g1 := hn5.frozen 1
      have g2 := hn5.frozen 2
      have g3 := hn5.frozen 3
      have g4 := hn5.frozen 4
      have c5 : w5.cell? ⟨b0 + 1, 0, none⟩ = some (.bool false) := cell_of_row _ _ 0 _ _ (0, 0) hk5
      have g5 := frozen_of_row w5 (b0 + 1) 0 _ _ hk5
      have HN5 := hide hn5
      have HK5 := hide hk5
      have HYES := hide hyes
      have HOK := hide hok
      have HOI := hide hoi
      have HOS := hide hos
      have HDJ := hide hdj
      have HBUT := hide hbut
      clear hn5 hk5 hyes hok hoi hos hdj hbut hrd hend hxk hxs hxsh hxN hxP HC HNW hL3 hBw3 hlk hx0
      (try dsimp only)
      unfold Nd.v
      go_wp2
      obtain ⟨W5, hW5⟩ : ∃ W, W = (((((w5.setCell ⟨b0, 0, none⟩ (.int .u8 x.kd)).setCell ⟨b0, 1, none⟩ (.slice x.I x.ni x.ci)).setCell ⟨b0, 2, none⟩ (.slice x.S x.ns x.cs)).setCell ⟨b0, 3, none⟩ (.int .i64 x.N)).setCell ⟨b0, 4, none⟩ (.int .i64 x.P)) := ⟨_, rfl⟩
      have hb5 := below_set5 w5 b0 (.int .u8 x.kd) (.slice x.I x.ni x.ci) (.slice x.S x.ns x.cs) (.int .i64 x.N) (.int .i64 x.P)
      have hs5 := six_set (x := x) HN5.out HK5.out
      have hoi5 := own_set5 HOI.out (show b0 < W4.heap.size by omega) (.int .u8 x.kd) (.slice x.I x.ni x.ci) (.slice x.S x.ns x.cs) (.int .i64 x.N) (.int .i64 x.P)
      have hos5 := own_set5 HOS.out (show b0 < W4.heap.size by omega) (.int .u8 x.kd) (.slice x.I x.ni x.ci) (.slice x.S x.ns x.cs) (.int .i64 x.N) (.int .i64 x.P)
      rw [← hW5] at hb5 hs5 hoi5 hos5
      rw [← hW5]
      clear hW5 c0 c1 c2 c3 c4 c5 g0 g1 g2 g3 g4 g5
      have hb6 := below_set1 (b0 + 1) W5 0 (.bool true)
      have hoi6 := own_set hoi5 (show b0 + 1 < W4.heap.size by omega) 0 (.bool true)
      have hos6 := own_set hos5 (show b0 + 1 < W4.heap.size by omega) 0 (.bool true)
      have hbx6 : BoxN (W5.setCell ⟨b0 + 1, 0, none⟩ (.bool true)) b0 x := (Below.heap_setCell W5 ⟨b0 + 1, 0, none⟩ _ b0 (by simp)).trans hs5.1
      have hbk6 : (W5.setCell ⟨b0 + 1, 0, none⟩ (.bool true)).heap[b0 + 1]? = some (.cells #[.bool true] 4 (0, 0)) := by
        have := heap_setCell_same W5 (b0 + 1) 0 _ _ (.bool true) hs5.2
        simpa using this
      obtain ⟨W6, hW6⟩ : ∃ W, W = W5.setCell ⟨b0 + 1, 0, none⟩ (.bool true) := ⟨_, rfl⟩
      rw [← hW6] at hb6 hoi6 hos6 hbx6 hbk6
      rw [← hW6]
      have hB6 : Below w.heap.size w W6 := (HB4.out.trans (HBUT.out.to (by rw [HBB.out]; omega) HB4.out.size)).trans ((hb5.mono (by rw [HBB.out]; exact Nat.le_refl _)).trans (hb6.mono (by rw [HBB.out]; omega)))
      have hok6 : x.Ok W6 := ⟨lies_of_own hoi6, lies_of_own hos6, HOK.out.2.2⟩
      clear hW6 hb5 hs5 hoi5 hos5 hb6
      refine leaves_cons (f := 77) (args := #[.pointer (some ⟨b0, 0, none⟩), .pointer (some ⟨b0 + 1, 0, none⟩)]) (by simp) (by simp [go_sem]) ?_
      refine (catch_quiet b0 (b0 + 1) _).mono ?_
      rintro e u' w'' ⟨rfl, rfl, rfl⟩
      obtain ⟨d0, d1, d2, d3, d4⟩ := hbx6.cs
      have d5 := cell_of_row _ _ 0 _ _ (0, 0) hbk6
      have hb4w : w.heap.size ≤ W4.heap.size := HB4.out.size
      simp [Leaves, settle, results, hres, go_sem, d0, d1, d2, d3, d4, d5]
      exact .inl ⟨x, HYES.out, rfl, hok6, own_base hoi6 hb4w, own_base hos6 hb4w, HDJ.out, hB6⟩
    · have hno2 : nodeB s = none := by
        rw [HNW.out _ rfl]
        cases hR : readB (partsB kd) ⟨[], [], 0, 0, ws⟩ with
        | none => rfl
        | some rd => simp only [Option.bind_some]; rw [if_neg (hno rd hR)]
      have hn5 : BoxN w5 b0 nd0 := (hbut.block b0 (lt_of_heap HN4.out) (by omega)).trans HN4.out
      have hk5 : w5.heap[b0 + 1]? = some (.cells #[.bool false] 4 (0, 0)) := (hbut.block (b0 + 1) (lt_of_heap HO4.out) (by omega)).trans HO4.out
      have hB5 : Below w.heap.size w w5 := HB4.out.trans (hbut.to (by rw [HBB.out]; omega) HB4.out.size)
      (try dsimp only)
      go_wp2
      refine leaves_cons (f := 77) (args := #[.pointer (some ⟨b0, 0, none⟩), .pointer (some ⟨b0 + 1, 0, none⟩)]) (by simp) (by simp [go_sem]) ?_
      refine (catch_up b0 (b0 + 1) (by omega) nd0 false 31 (.int .i64 4) [] _ hn5 hk5).mono ?_
      rintro e u' w'' ⟨rfl, rfl, hb1, hb2, hbl⟩
      obtain ⟨d0, d1, d2, d3, d4⟩ := hb1.cs
      have d5 := cell_of_row _ _ 0 _ _ (0, 0) hb2
      have hBB := hB5.trans (hbl w.heap.size (by rw [HBB.out]; exact Nat.le_refl _) (by rw [HBB.out]; omega))
      simp [Leaves, settle, results, hres, go_sem, d0, d1, d2, d3, d4, d5]
      exact .inr ⟨hno2, rfl, hBB⟩

end

section
open Go.RowKit
set_option linter.unusedVariables false
set_option linter.unusedSimpArgs false
set_option maxRecDepth 100000

theorem lines_ne (s : Wd) : 1 ≤ (Lib.split s [10]).length := by rw [split_eq]; exact List.length_pos_iff.2 (splitC_ne 10 s)

set_option maxHeartbeats 4000000 in
theorem linesOf_any (s : Wd) (hs : s.length ≤ 900000) (w : World) (hv : LaidV w) : Calls Tryz.prog 46 #[strV s] w fun e w' => ∃ b n c, e = .returned (.slice (some ⟨b, 0, none⟩) n c) ∧ w.heap.size ≤ b ∧ b < w'.heap.size ∧ Lies w' (some ⟨b, 0, none⟩) n ((linesB s).map strV) ∧ n ≤ c ∧ n = (linesB s).length ∧ Below w.heap.size w w' := by
  obtain ⟨ls, hls⟩ : ∃ ls, ls = Lib.split s [10] := ⟨_, rfl⟩
  have h1 := lines_ne s
  have hlen := (split_short s 10 hs).2.1
  have c := split_any s 10 (by omega) w hv
  have hlb : linesB s = if ls.getLast? = some [] then ls.dropLast else ls := by rw [linesB, hls]
  rw [← hls] at h1 hlen c
  rw [hlb]
  clear hlb hls
  obtain ⟨n, hn⟩ : ∃ n, n = ls.length := ⟨_, rfl⟩
  rw [← hn] at h1 hlen c
  obtain ⟨b, hb⟩ : ∃ b, b = w.heap.size := ⟨_, rfl⟩
  obtain ⟨W1, hW1⟩ : ∃ W, W = w.alloc (.cells (ls.map strV).toArray 9) := ⟨_, rfl⟩
  rw [← hW1, ← hb] at c
  have hg : W1.heap[b]? = some (.cells (ls.map strV).toArray 9 (0, 0)) := by rw [hW1, hb]; exact heap_alloc_new w _
  have hB : Below w.heap.size w W1 := by rw [hW1]; exact (Below.refl _ _).alloc (Nat.le_refl _) _
  have hL : Lies W1 (some ⟨b, 0, none⟩) n (ls.map strV) := ⟨by rw [List.length_map, hn], fun _ => ⟨b, 0, rfl, lt_of_heap hg, fun j _ => by rw [cell_of_row _ _ _ _ _ (0, 0) hg]; simp⟩⟩
  obtain ⟨y, hy⟩ : ∃ y, ls[n - 1]? = some y := ⟨_, List.getElem?_eq_getElem (by omega)⟩
  have hcell : W1.cell? ⟨b, n - 1, none⟩ = some (strV y) := by rw [cell_of_row _ _ _ _ _ (0, 0) hg]; simp [hy]
  have hlast : ls.getLast? = some y := by rw [List.getLast?_eq_getElem?, ← hn]; exact hy
  have hidx : ((n : Int) - 1).toNat = n - 1 := by omega
  have f0 : (0 : Int) ≤ (n : Int) - 1 := by omega
  have f1 : (n : Int) - 1 < (n : Int) := by omega
  have hcast : ((n - 1 : Nat) : Int) = (n : Int) - 1 := by omega
  have HL := hide hL
  have HB := hide hB
  have HC := hide c
  have HG := hide (lt_of_heap hg)
  have HBB := hide hb
  have HN := hide hn
  clear hW1 hL hB c hg hb hy hn
  unfold strV at hcell
  have c2 : Calls Tryz.prog 76 #[.string ⟨s.toArray⟩, .string ⟨#[10]⟩] w fun e w' => e = .returned (.slice (some ⟨b, 0, none⟩) n n) ∧ w' = W1 := HC.out
  show Calls Tryz.prog 46 #[.string ⟨s.toArray⟩] w _
  by_cases hye : y = []
  · rw [if_pos (by rw [hlast, hye])]
    have hcmp : (y == []) = true := by simp [hye]
    clear hlast hye
    go_enter Tryz.func46, Tryz.ntmps46
    go_wp2_with (go_at_call 76; refine c2.mono ?_; rintro e w' ⟨rfl, rfl⟩)
    go_ret
    have ht := HL.out.take (k := n - 1) (by omega)
    have hd : (ls.map strV).take (n - 1) = ls.dropLast.map strV := by rw [List.dropLast_eq_take, List.map_take, HN.out]
    rw [hd] at ht
    exact ⟨b, n - 1, n, rfl, by rw [HBB.out]; exact Nat.le_refl _, HG.out, ht, by omega, by rw [List.length_dropLast, HN.out], HB.out⟩
  · rw [if_neg (by rw [hlast]; simpa using hye)]
    have hcmp : (y == []) = false := by simpa using hye
    clear hlast hye
    go_enter Tryz.func46, Tryz.ntmps46
    go_wp2_with (go_at_call 76; refine c2.mono ?_; rintro e w' ⟨rfl, rfl⟩)
    go_ret
    exact ⟨b, n, n, rfl, by rw [HBB.out]; exact Nat.le_refl _, HG.out, HL.out, Nat.le_refl _, HN.out, HB.out⟩

/-- A node's own rows. -/
def Blk (x : Nd) (g : Nat) : Prop := (Value.slice x.I x.ni x.ci).ownBlock = some g ∨ (Value.slice x.S x.ns x.cs).ownBlock = some g

def OwnN (w : World) (B : Nat) (x : Nd) : Prop := w.ownsRow B 3 1 (.slice x.I x.ni x.ci) x.ni (x.xs.map (Value.int .i64)) ∧ w.ownsRow B 3 1 (.slice x.S x.ns x.cs) x.ns (x.sh.map (Value.int .i64)) ∧ ∀ g, (Value.slice x.I x.ni x.ci).ownBlock = some g → (Value.slice x.S x.ns x.cs).ownBlock ≠ some g

def Bnd (x : Nd) : Prop := x.ni ≤ x.ci ∧ x.ns ≤ x.cs ∧ x.ni ≤ 70368744177664 ∧ x.ns ≤ 70368744177664 ∧ (0 ≤ x.kd ∧ x.kd < 256) ∧ (-9223372036854775808 ≤ x.N ∧ x.N < 9223372036854775808) ∧ (-9223372036854775808 ≤ x.P ∧ x.P < 9223372036854775808)

theorem OwnN.ok {w : World} {B : Nat} {x : Nd} (h : OwnN w B x) (hb : Bnd x) : x.Ok w := ⟨lies_of_own h.1, lies_of_own h.2.1, hb⟩

theorem OwnN.base {w : World} {B B' : Nat} {x : Nd} (h : OwnN w B x) (hb : B' ≤ B) : OwnN w B' x := ⟨own_base h.1 hb, own_base h.2.1 hb, h.2.2⟩

theorem OwnN.kept {w w' : World} {B : Nat} {x : Nd} {row : Option Nat} (h : OwnN w B x) (hg : w.grownBy w' row) (hr : ∀ g, row = some g → ¬ Blk x g) : OwnN w' B x := by
  refine ⟨h.1.kept hg ?_, h.2.1.kept hg ?_, h.2.2⟩
  · cases hv : (Value.slice x.I x.ni x.ci).ownBlock with
    | none => exact .inl rfl
    | some g => exact .inr fun e => hr g e.symm (.inl hv)
  · cases hv : (Value.slice x.S x.ns x.cs).ownBlock with
    | none => exact .inl rfl
    | some g => exact .inr fun e => hr g e.symm (.inr hv)

theorem OwnN.below {w w' : World} {B : Nat} {x : Nd} (h : OwnN w B x) (hb : Below w.heap.size w w') : OwnN w' B x := ⟨own_below h.1 hb, own_below h.2.1 hb, h.2.2⟩

theorem OwnN.lt {w : World} {B : Nat} {x : Nd} (h : OwnN w B x) {g : Nat} (hg : Blk x g) : B ≤ g ∧ g < w.heap.size := by
  rcases hg with hg | hg
  · exact h.1.lt g hg
  · exact h.2.1.lt g hg

theorem own_typ {w : World} {B e s n g : Nat} {v : Value} {xs : List Value} (h : w.ownsRow B e s v n xs) (hv : v.ownBlock = some g) : ∃ cur, w.heap[g]? = some (.cells cur e (0, 0)) := by
  rcases h.2 with ⟨rfl, _⟩ | ⟨g', cap, cur, rfl, _, hg, _⟩
  · simp [Value.ownBlock] at hv
  · simp [Value.ownBlock] at hv
    subst hv
    exact ⟨cur, hg⟩

theorem OwnN.typ {w : World} {B : Nat} {x : Nd} (h : OwnN w B x) {g : Nat} (hg : Blk x g) : ∃ cur, w.heap[g]? = some (.cells cur 3 (0, 0)) := by
  rcases hg with hg | hg
  · exact own_typ h.1 hg
  · exact own_typ h.2.1 hg

/-- Nodes that are gathered in a row of their own. -/
structure PsAt (B b0 : Nat) (W3 w : World) (A : Option Addr) (c : Nat) (ns : List Nd) : Prop where
  big : B ≤ w.heap.size
  b3 : B = W3.heap.size
  lb : b0 < B
  bx : w.heap[b0]? = some (.cells #[.slice A ns.length c] 24 (0, 0))
  ro : w.ownsRow B 44 5 (.slice A ns.length c) ns.length (cellsN ns)
  ow : ∀ (j : Nat) (x : Nd), ns[j]? = some x → OwnN w B x ∧ Bnd x
  od : ∀ (i j : Nat) (x y : Nd) (g h : Nat), i < j → ns[i]? = some x → ns[j]? = some y → Blk x g → Blk y h → g < h
  kp : But b0 W3 w

theorem PsAt.below {B b0 : Nat} {W3 w w' : World} {A : Option Addr} {c : Nat} {ns : List Nd} (h : PsAt B b0 W3 w A c ns) (hb : Below w.heap.size w w') : PsAt B b0 W3 w' A c ns :=
  ⟨Nat.le_trans h.big hb.size, h.b3, h.lb, (hb.block b0 (lt_of_heap h.bx)).trans h.bx, own_keep10 h.ro hb, fun j x hj => ⟨(h.ow j x hj).1.below hb, (h.ow j x hj).2⟩, h.od, h.kp.below hb⟩

/-- One node more. -/
theorem PsAt.push {B b0 lo : Nat} {W3 w w' : World} {A A' : Option Addr} {c c' : Nat} {ns : List Nd} {x : Nd} (h : PsAt B b0 W3 w A c ns) (hx : OwnN w lo x) (hb : Bnd x) (hlo : ∀ (j : Nat) (y : Nd) (g : Nat), ns[j]? = some y → Blk y g → g < lo) (hB : B ≤ lo)
    (ho : w'.ownsRow B 44 5 (.slice A' (ns.length + 1) c') (ns.length + 1) (cellsN (ns ++ [x]))) (hg : w.grownBy w' (Value.slice A ns.length c).ownBlock) :
    PsAt B b0 W3 (w'.setCell ⟨b0, 0, none⟩ (.slice A' (ns.length + 1) c')) A' c' (ns ++ [x]) := by
  have hne : ∀ g, (Value.slice A ns.length c).ownBlock = some g → B ≤ g := fun g e => (h.ro.lt g e).1
  have hbel : Below B w w' := (Below.refl B w).grown hg h.big hne
  have hbx : w'.heap[b0]? = some (.cells #[.slice A ns.length c] 24 (0, 0)) := (hbel.block b0 h.lb).trans h.bx
  have htyp : ∀ (y : Nd) (B2 : Nat), OwnN w B2 y → ∀ g, (Value.slice A ns.length c).ownBlock = some g → ¬ Blk y g := by
    intro y B2 hy g hgg hby
    obtain ⟨c1, e1⟩ := own_typ h.ro hgg
    obtain ⟨c2, e2⟩ := hy.typ hby
    rw [e1] at e2
    injection e2 with e2
    injection e2 with _ e2
    exact absurd e2 (by decide)
  have hset : ∀ (y : Nd) (B2 : Nat), B ≤ B2 → OwnN w' B2 y → OwnN (w'.setCell ⟨b0, 0, none⟩ (.slice A' (ns.length + 1) c')) B2 y := fun y B2 hB2 hy =>
    ⟨own_set hy.1 (Nat.lt_of_lt_of_le h.lb hB2) _ _, own_set hy.2.1 (Nat.lt_of_lt_of_le h.lb hB2) _ _, hy.2.2⟩
  have hlen : (ns ++ [x]).length = ns.length + 1 := by simp
  refine ⟨by rw [set_size]; exact Nat.le_trans h.big hbel.size, h.b3, h.lb, ?_, ?_, ?_, ?_, ?_⟩
  · have := heap_setCell_same w' b0 0 _ _ (.slice A' (ns.length + 1) c') hbx
    rw [hlen]
    simpa using this
  · rw [hlen]; exact own_set ho h.lb _ _
  · intro j y hj
    by_cases hjl : j < ns.length
    · rw [List.getElem?_append_left hjl] at hj
      obtain ⟨h1, h2⟩ := h.ow j y hj
      exact ⟨hset y B (Nat.le_refl _) (h1.kept hg (htyp y B h1)), h2⟩
    · rw [List.getElem?_append_right (by omega)] at hj
      have : j - ns.length = 0 := by
        rcases Nat.eq_zero_or_pos (j - ns.length) with e | e
        · exact e
        · rw [List.getElem?_eq_none (by simp; omega)] at hj; cases hj
      rw [this] at hj
      injection hj with hj
      subst hj
      exact ⟨(hset x lo hB (hx.kept hg (htyp x lo hx))).base hB, hb⟩
  · intro i j y z g k hij hi hj hgy hkz
    by_cases hjl : j < ns.length
    · rw [List.getElem?_append_left hjl] at hj
      rw [List.getElem?_append_left (by omega)] at hi
      exact h.od i j y z g k hij hi hj hgy hkz
    · rw [List.getElem?_append_right (by omega)] at hj
      have : j - ns.length = 0 := by
        rcases Nat.eq_zero_or_pos (j - ns.length) with e | e
        · exact e
        · rw [List.getElem?_eq_none (by simp; omega)] at hj; cases hj
      rw [this] at hj
      injection hj with hj
      subst hj
      rw [List.getElem?_append_left (by omega)] at hi
      have h1 := hlo i y g hi hgy
      have h2 := (hx.lt hkz).1
      omega
  · have h1 : But b0 W3 w' := h.kp.on (by rw [← h.b3]; exact hbel)
    exact ⟨h1.os, h1.tape, h1.output, Nat.le_trans h1.size (by simp [World.setCell]), fun k hk hn => (Below.heap_setCell w' _ _ k hn).trans (h1.block k hk hn)⟩

theorem PsAt.nsIn {B b0 : Nat} {W3 w : World} {A : Option Addr} {c : Nat} {ns : List Nd} (h : PsAt B b0 W3 w A c ns) : NsIn w A ns.length ns := by
  refine ⟨rfl, fun hn => ?_⟩
  obtain ⟨g, hA, _, hlt, hcs⟩ := ownN_cells h.ro hn
  refine ⟨g, 0, hA, hlt, fun j x hj => ?_⟩
  have ha := cellsN_at ns j x hj
  obtain ⟨a0, a1, a2, a3, a4⟩ := ha
  simp only [Nat.zero_add]
  exact ⟨hcs _ _ a0, hcs _ _ a1, hcs _ _ a2, hcs _ _ a3, hcs _ _ a4, (h.ow j x hj).1.ok (h.ow j x hj).2⟩

end

section
open Go.RowKit
set_option linter.unusedVariables false
set_option linter.unusedSimpArgs false
set_option maxRecDepth 100000

/-- A source in a block, and the bytes that it has left. -/
def ScBox (w : World) (r : Nat) (A : Option Addr) (n c : Nat) (sh : Bool) : Prop := w.heap[r]? = some (.cells #[.slice A n c, .bool sh] 81 (0, 0))

def ScAt (w : World) (r : Nat) (s : Sc) : Prop := ∃ A n c, ScBox w r A n c s.2 ∧ Lies w A n (s.1.map (Value.int .u8)) ∧ n ≤ c ∧ c ≤ 9223372036854775807 ∧ s.1.length = n ∧ (1 ≤ n → ∀ a, A = some a → a.block < r) ∧ ByteL s.1

theorem ScAt.below {w w' : World} {r : Nat} {s : Sc} (h : ScAt w r s) (hb : Below w.heap.size w w') : ScAt w' r s := by
  obtain ⟨A, n, c, h1, h2, h3⟩ := h
  exact ⟨A, n, c, (hb.block r (lt_of_heap h1)).trans h1, h2.below hb, h3⟩

theorem ScAt.lt {w : World} {r : Nat} {s : Sc} (h : ScAt w r s) : r < w.heap.size := by
  obtain ⟨A, n, c, h1, _⟩ := h
  exact lt_of_heap h1

theorem ScAt.up {w w' : World} {r : Nat} {s : Sc} (h : ScAt w r s) (hb : Below (r + 1) w w') : ScAt w' r s := by
  obtain ⟨A, n, c, h1, h2, h3, h4, h5, h6, h7⟩ := h
  refine ⟨A, n, c, (hb.block r (by omega)).trans h1, ⟨h2.len, fun hn => ?_⟩, h3, h4, h5, h6, h7⟩
  obtain ⟨b, o, e, hlt, hcs⟩ := h2.cells hn
  have := h6 hn _ e
  simp only at this
  exact ⟨b, o, e, Nat.lt_of_lt_of_le hlt hb.size, fun j hj => (World.cell?_of_block (hb.block b (by omega))).trans (hcs j hj)⟩

theorem ScAt.moved {w w' : World} {r base : Nat} {e : TypeId} {v v' : Value} {n : Nat} {xs : List Value} {s : Sc} (h : ScAt w r s) (ho : w.ownsRow base e 1 v n xs) (hr : r < base) (hm : Moved w w' v v') : ScAt w' r s :=
  h.up (below_moved (Below.refl _ _) h.lt ho hm hr)

theorem ScAt.set {w : World} {r q : Nat} {s : Sc} (h : ScAt w r s) (hq : r < q) (i : Nat) (v : Value) : ScAt (w.setCell ⟨q, i, none⟩ v) r s :=
  h.up ⟨rfl, rfl, rfl, by simp [World.setCell], fun k hk => Below.heap_setCell w _ v k (by simp only; omega)⟩

theorem but_set (w : World) (r i : Nat) (v : Value) : But r w (w.setCell ⟨r, i, none⟩ v) := ⟨rfl, rfl, rfl, by simp [World.setCell], fun k hk hn => Below.heap_setCell w _ v k hn⟩

set_option maxHeartbeats 1000000 in
theorem snum_any (r : Nat) (s : Sc) (w : World) (h : ScAt w r s) : Calls Tryz.prog 64 #[.pointer (some ⟨r, 0, none⟩)] w fun e w' => e = .returned (.int .i64 (tk s).1) ∧ ScAt w' r (tk s).2 ∧ But r w w' := by
  obtain ⟨bs, sh⟩ := s
  obtain ⟨A, n, c, hb, hl, hnc, hc2, hlen, hbr, hby⟩ := h
  simp only at hb hl hlen hby
  have hc := cell_of_row _ _ 0 _ _ (0, 0) hb
  have hc1 := cell_of_row _ _ 1 _ _ (0, 0) hb
  have hz0 := frozen_of_row w r 0 _ _ hb
  have hz1 := frozen_of_row w r 1 _ _ hb
  cases bs with
  | nil =>
    rw [List.length_nil] at hlen
    subst hlen
    have hs := heap_setCell_same w r 1 _ _ (.bool true) hb
    have hat : ScAt (w.setCell ⟨r, 1, none⟩ (.bool true)) r ([], true) := ⟨A, 0, c, by simpa [ScBox] using hs, Lies.nothing, hnc, hc2, rfl, fun h => absurd h (by omega), by intro z hz; simp at hz⟩
    have HAT := hide hat
    have HBU := hide (but_set w r 1 (.bool true))
    clear hs hat hb hl hbr
    go_enter Tryz.func64, Tryz.ntmps64
    go_wp2
    go_ret
    exact ⟨rfl, HAT.out, HBU.out⟩
  | cons x t =>
    rw [List.length_cons] at hlen
    subst hlen
    obtain ⟨b, o, e, hlt, hcs⟩ := hl.cells (by omega)
    subst e
    have hx := hcs 0 (by omega)
    simp only [Nat.add_zero, List.map_cons, List.getElem?_cons_zero] at hx
    have hbr2 := hbr (by omega) _ rfl
    simp only at hbr2
    have hxb := hby x (by simp)
    have hpos : ¬ ((t.length : Int) + 1 = 0) := by omega
    have hsl := hl.drop (k := 1) (cap := c) (by omega) hnc
    simp only [List.map_cons, List.drop_succ_cons, List.drop_zero, Nat.add_sub_cancel] at hsl
    have HAT : ∀ A' c', (A' = (if c = 1 then some ⟨b, o, none⟩ else some ⟨b, o + 1, none⟩)) → c' = c - 1 → ScAt (w.setCell ⟨r, 0, none⟩ (.slice A' t.length c')) r (t, sh) := by
      rintro A' c' hA rfl
      have hs := heap_setCell_same w r 0 _ _ (.slice A' t.length (c - 1)) hb
      refine ⟨A', t.length, c - 1, by simpa [ScBox] using hs, ?_, by omega, by omega, rfl, ?_, fun z hz => hby z (by simp [hz])⟩
      · by_cases hn : t.length = 0
        · have e : t = [] := List.length_eq_zero_iff.1 hn
          subst e
          exact Lies.nothing
        · refine ⟨by simp, fun h0 => ?_⟩
          obtain ⟨b', o', e, hlt2, hcs2⟩ := hsl.cells h0
          have hc9 : ¬ c = 1 := by omega
          rw [if_neg hc9] at hA
          subst hA
          simp only [if_neg hc9, Option.map_some, Addr.add] at e
          injection e with e
          injection e with e1 e2
          subst e1 e2
          refine ⟨b, o + 1, rfl, Nat.lt_of_lt_of_le hlt2 (but_set w r 0 _).size, fun j hj => ?_⟩
          rw [← hcs2 j hj]
          exact World.cell?_of_block ((but_set w r 0 _).block b hlt2 (by omega))
      · intro hn a ha
        rw [hA] at ha
        split at ha <;> (injection ha with ha; subst ha; exact hbr2)
    have HAH := hide HAT
    have HBU := hide (but_set w r 0)
    clear hb hl hbr hcs hsl HAT
    by_cases hone : c = 1
    · subst hone
      have h0 : t.length = 0 := by omega
      go_enter Tryz.func64, Tryz.ntmps64
      go_wp2
      go_ret
      refine ⟨by simp [tk], ?_, HBU.out _⟩
      have := HAH.out (some ⟨b, o, none⟩) 0 (by simp) (by simp)
      rw [h0] at this
      exact this
    · go_enter Tryz.func64, Tryz.ntmps64
      go_wp2
      go_ret
      refine ⟨by simp [tk], HAH.out _ _ (by simp [hone]) rfl, HBU.out _⟩

end

section
open Go.RowKit
set_option linter.unusedVariables false
set_option linter.unusedSimpArgs false
set_option maxRecDepth 100000

theorem Lies.movedOff {w w' : World} {D : Option Addr} {m n base : Nat} {e : TypeId} {xs zs : List Value} {v v' : Value} (h : Lies w D m xs) (ho : w.ownsRow base e 1 v n zs) (hm : Moved w w' v v') (hne : ∀ b o, D = some ⟨b, o, none⟩ → v.ownBlock ≠ some b) : Lies w' D m xs := by
  rcases hm with ⟨_, hg⟩ | ⟨hg, _⟩
  · exact h.grown hg (fun b o e => by intro e2; exact hne b o e e2.symm)
  · exact h.grown hg (fun b o e => by simp)

/-- Numbers that an int holds. -/
def Ints (l : List Int) : Prop := ∀ z ∈ l, -9223372036854775808 ≤ z ∧ z ≤ 9223372036854775807

theorem infoS : (Tryz.prog.info? 9).map (fun i => (i.zero, i.size, i.bytes)) = some (some (.string ByteArray.empty), 1, 16) := by kernel_rfl

theorem cell_new1 (w : World) (v : Value) (t : TypeId) : (w.alloc (.cells #[v] t)).cell? ⟨w.heap.size, 0, none⟩ = some v := cell_of_row _ _ 0 _ _ (0, 0) (heap_alloc_new w (.cells #[v] t))

set_option maxHeartbeats 4000000 in
theorem appN_any (base : Nat) (A D : Option Addr) (n c m d : Nat) (ws : List Wd) (l : List Int) (w0 w : World) (ho : w.ownsRow base 9 1 (.slice A n c) n (ws.map strV)) (hl : Lies w D m (l.map (Value.int .i64))) (hi : Ints l) (hbase : base ≤ w.heap.size) (hv : LaidV w0) (hb0 : Below w0.heap.size w0 w) (h0 : w0.heap.size ≤ base)
    (hne : ∀ b o, D = some ⟨b, o, none⟩ → (Value.slice A n c).ownBlock ≠ some b) (hnm : n + m ≤ 2000000) (hmd : m ≤ d) :
    Calls Tryz.prog 71 #[.slice A n c, .slice D m d] w fun e w' => ∃ A' c', e = .returned (.slice A' (n + m) c') ∧ w'.ownsRow base 9 1 (.slice A' (n + m) c') (n + m) ((ws ++ l.map Lib.itoa).map strV) ∧ Below base w w' := by
  have hlen := lies_len9 hl
  obtain ⟨i0, hi0, hz0, hz1, hz2⟩ := info_parts infoS
  have HI := hide hi0
  have HZ0 := hide hz0
  have HZ1 := hide hz1
  have HZ2 := hide hz2
  have HL := hide hl
  have HLEN := hide hlen
  have HNUM := hide hi
  have HV := hide hv
  have HB0 := hide hb0
  have HO0 : Hid (w.ownsRow base 9 1 (.slice A (n + 0) c) (n + 0) ((ws ++ (l.take 0).map Lib.itoa).map strV)) := hide (by simpa using ho)
  have HNE := hide hne
  clear hi0 hz0 hz1 hz2 hl hlen hi hv hb0 ho hne
  go_enter Tryz.func71, Tryz.ntmps71
  go_wp2
  go_loopw [0, 9] (fun v i wr => ∃ (k : Nat) (A2 : Option Addr) (c2 : Nat), k ≤ m ∧ i = .int .i64 k ∧ v = .slice A2 (n + k) c2 ∧ Hid (wr.ownsRow base 9 1 (.slice A2 (n + k) c2) (n + k) ((ws ++ (l.take k).map Lib.itoa).map strV)) ∧ Hid (Lies wr D m (l.map (Value.int .i64))) ∧ Hid (∀ b o, D = some ⟨b, o, none⟩ → (Value.slice A2 (n + k) c2).ownBlock ≠ some b) ∧ Hid (Below base w wr)) (fun _ i _ => m - (intOf i).toNat)
  case atStart => exact ⟨0, A, c, Nat.zero_le _, rfl, rfl, HO0, HL, by simpa using HNE, hide (Below.refl _ _)⟩
  case round =>
    obtain ⟨k, A2, c2, hkm, rfl, rfl, HR, HLr, HN, HB⟩ := hrel
    by_cases hlt : k < m
    · obtain ⟨z, hz⟩ : ∃ z, l[k]? = some z := ⟨_, List.getElem?_eq_getElem (by rw [HLEN.out]; exact hlt)⟩
      obtain ⟨b, o, hD, hbl, hcs⟩ := HLr.out.cells (by omega)
      have hcell : wr.cell? ⟨b, o + k, none⟩ = some (.int .i64 z) := by rw [hcs k hlt, List.getElem?_map, hz]; rfl
      have hzz := HNUM.out z (List.mem_of_getElem? hz)
      have htk : (l.take (k + 1)).map Lib.itoa = (l.take k).map Lib.itoa ++ [Lib.itoa z] := by rw [List.take_add_one, hz, List.map_append]; rfl
      have HTK := hide htk
      have HBW := hide (HB0.out.trans (HB.out.mono h0))
      have HC := hide (itoa_any z hzz.1 hzz.2 wr (HV.out.below HBW.out))
      have HD := hide hD
      have hszw := HB.out.size
      have HCS := hide hcs
      clear hcs hz htk hzz
      subst hD
      have f0 : (0 : Int) ≤ (k : Int) := by omega
      have f1 : (k : Int) < (m : Int) := by omega
      obtain ⟨ba, hba⟩ : ∃ ba : ByteArray, ba = ⟨(Lib.itoa z).toArray⟩ := ⟨_, rfl⟩
      have hsz : strV (Lib.itoa z) = .string ba := by rw [hba]; rfl
      rw [hsz] at HC
      have HSZ := hide hsz
      clear hsz hba
      go_wp2_with (first | (go_at_call 108; refine HC.out.mono ?_; rintro e w2 ⟨rfl, hb2⟩; have HR2 := hide (own_below HR.out hb2)) | (at_builtin; refine wpList_append_one rfl (.tmp 13) (.tmp 16) 93 rfl 9 i0 (.string ByteArray.empty) 16 Tryz.underlying93 HI.out HZ0.out HZ1.out HZ2.out rfl base A2 (n + k) c2 ((ws ++ (l.take k).map Lib.itoa).map strV) rfl (HR2.out.alloc _) (Nat.le_trans hbase (Nat.le_trans hszw (Nat.le_trans hb2.size (by simp)))) ⟨w2.heap.size, 0, none⟩ (.string ba) rfl (cell_new1 w2 (.string ba) _) rfl (by omega) (by unfold maxLen; omega) ?_))
      intro A3 c3 w3 ho3 hm3
      have hb3 : Below w2.heap.size w2 (w2.alloc (.cells #[.string ba] 9)) := (Below.refl _ _).alloc (Nat.le_refl _) _
      have hbl2 : Below wr.heap.size wr (w2.alloc (.cells #[.string ba] 9)) := hb2.trans (hb3.mono hb2.size)
      have HR4 : Hid (w3.ownsRow base 9 1 (.slice A3 (n + (k + 1)) c3) (n + (k + 1)) ((ws ++ (l.take (k + 1)).map Lib.itoa).map strV)) := hide (by
        rw [HTK.out, ← List.append_assoc, List.map_append (l₂ := [Lib.itoa z]), ← Nat.add_assoc]
        show w3.ownsRow base 9 1 (.slice A3 (n + k + 1) c3) (n + k + 1) ((ws ++ (l.take k).map Lib.itoa).map strV ++ [strV (Lib.itoa z)])
        rw [HSZ.out]
        simpa using ho3)
      have HB4 : Hid (Below base w w3) := hide (below_moved (HB.out.trans (hbl2.mono (Nat.le_trans hbase hszw))) (Nat.le_trans hbase (Nat.le_trans hszw hbl2.size)) (own_below HR.out hbl2) hm3)
      have HN4 : Hid (∀ b' o', some (⟨b, o, none⟩ : Addr) = some ⟨b', o', none⟩ → (Value.slice A3 (n + (k + 1)) c3).ownBlock ≠ some b') := hide (by
        intro b' o' e
        injection e with e
        injection e with e1 e2
        subst e1 e2
        rw [← Nat.add_assoc]
        rcases hm3 with ⟨he, _⟩ | ⟨_, hnew⟩
        · rw [he]; exact HN.out b o rfl
        · intro hv
          have := hnew b hv
          have := hbl2.size
          omega)
      have HL4 : Hid (Lies w3 (some ⟨b, o, none⟩) m (l.map (Value.int .i64))) := hide ((HLr.out.below hbl2).movedOff (own_below HR.out hbl2) hm3 (fun b' o' e => HN.out b' o' e))
      rw [Nat.add_assoc]
      clear ho3 hm3 hb3 hbl2 HR2 hcell
      go_wp2
      go_roundw
      case rel => exact ⟨k + 1, A3, c3, by omega, by go_num, rfl, HR4, HL4, HN4, HB4⟩
      case measure => simp [intOf]; omega
    · obtain rfl : k = m := by omega
      go_wp2
      go_ret
      have hall : l.take k = l := List.take_of_length_le (by rw [HLEN.out]; exact Nat.le_refl _)
      have h9 := HR.out
      rw [hall] at h9
      exact ⟨A2, c2, rfl, h9, HB.out⟩

end

section
open Go.RowKit
set_option linter.unusedVariables false
set_option linter.unusedSimpArgs false
set_option maxRecDepth 100000

theorem tkNums_snoc : ∀ (k : Nat) (s : Sc), tkNums (k + 1) s = ((tkNums k s).1 ++ [(tk (tkNums k s).2).1], (tk (tkNums k s).2).2)
  | 0, s => rfl
  | k + 1, s => by
    rw [tkNums, tkNums_snoc k (tk s).2]
    rw [tkNums]
    rfl

theorem tkNums_len : ∀ (k : Nat) (s : Sc), (tkNums k s).1.length = k
  | 0, s => rfl
  | k + 1, s => by rw [tkNums]; simp only [List.length_cons]; rw [tkNums_len k]

theorem tk_byte {s : Sc} (h : ByteL s.1) : (0 ≤ (tk s).1 ∧ (tk s).1 < 256) ∧ ByteL (tk s).2.1 := by
  obtain ⟨l, b⟩ := s
  cases l with
  | nil => simp only [tk]; exact ⟨⟨by omega, by omega⟩, fun z hz => by simp at hz⟩
  | cons c r => exact ⟨h c (by simp), fun z hz => h z (by simp only [tk] at hz; simp [hz])⟩

theorem ScAt.byte {w : World} {r : Nat} {s : Sc} (h : ScAt w r s) : ByteL s.1 := by
  obtain ⟨A, n, c, _, _, _, _, _, _, h7⟩ := h
  exact h7

set_option maxHeartbeats 4000000 in
theorem slist_any (r : Nat) (s : Sc) (w : World) (h : ScAt w r s) : Calls Tryz.prog 101 #[.pointer (some ⟨r, 0, none⟩)] w fun e w' => ∃ A c, e = .returned (.slice A (tkList s).1.length c) ∧ w'.ownsRow w.heap.size 3 1 (.slice A (tkList s).1.length c) (tkList s).1.length ((tkList s).1.map (Value.int .i64)) ∧ ScAt w' r (tkList s).2 ∧ But r w w' := by
  have hrl := h.lt
  have hby := h.byte
  obtain ⟨h1, h2⟩ := tk_byte hby
  obtain ⟨n, hn⟩ : ∃ n : Nat, (tk s).1 = (n : Int) := ⟨(tk s).1.toNat, by omega⟩
  have hn6 : n < 256 := by omega
  have c := snum_any r s w h
  rw [hn] at c
  obtain ⟨s1, hs1⟩ : ∃ s1, s1 = (tk s).2 := ⟨_, rfl⟩
  have htl : tkList s = tkNums n s1 := by rw [tkList, hn, hs1]; simp
  rw [htl, tkNums_len]
  rw [← hs1] at c
  obtain ⟨i0, hi, hz0, hz1, hz2⟩ := info_parts Tryz.infoI
  have HI := hide hi
  have HZ0 := hide hz0
  have HZ1 := hide hz1
  have HZ2 := hide hz2
  have HC := hide c
  clear hi hz0 hz1 hz2 c htl hs1 hn h1 h2 hby h
  go_enter Tryz.func101, Tryz.ntmps101
  go_wp2_with (go_at_call 64; refine HC.out.mono ?_; rintro e w1 ⟨rfl, hS1, hb1⟩)
  have HS1 : Hid (ScAt w1 r (tkNums 0 s1).2) := hide hS1
  have HB1 := hide hb1
  clear hS1 hb1 HC
  go_loopw [3, 6] (fun v i wr => ∃ (k : Nat) (A2 : Option Addr) (c2 : Nat), k ≤ n ∧ i = .int .i64 k ∧ v = .slice A2 k c2 ∧ Hid (wr.ownsRow w.heap.size 3 1 (.slice A2 k c2) k ((tkNums k s1).1.map (Value.int .i64))) ∧ Hid (ScAt wr r (tkNums k s1).2) ∧ Hid (But r w wr)) (fun _ i _ => n - (intOf i).toNat)
  case atStart => exact ⟨0, none, 0, Nat.zero_le _, rfl, rfl, hide (World.ownsRow_nil _ _ _ _), HS1, HB1⟩
  case round =>
    obtain ⟨k, A2, c2, hkn, rfl, rfl, HR, HS, HB⟩ := hrel
    by_cases hlt : k < n
    · have f0 : (0 : Int) ≤ (k : Int) := by omega
      have f1 : (k : Int) < (n : Int) := by omega
      have hsn := tkNums_snoc k s1
      have HSN := hide hsn
      have HC := hide (snum_any r _ wr HS.out)
      obtain ⟨z, hz⟩ : ∃ z, z = (tk (tkNums k s1).2).1 := ⟨_, rfl⟩
      obtain ⟨s2, hs2⟩ : ∃ s2, s2 = (tk (tkNums k s1).2).2 := ⟨_, rfl⟩
      rw [← hz, ← hs2] at HC HSN
      have hsz := HB.out.size
      clear hsn hz hs2
      go_wp2_with (first | (go_at_call 64; refine HC.out.mono ?_; rintro e w3 ⟨rfl, hS3, hb3⟩) | (at_builtin; refine wpList_append_one rfl (.tmp 8) (.tmp 11) 35 rfl 3 i0 (.int .i64 0) 8 Tryz.underlying35 HI.out HZ0.out HZ1.out HZ2.out rfl w.heap.size A2 k c2 ((tkNums k s1).1.map (Value.int .i64)) rfl ((own_but HR.out hb3 hrl).alloc _) (Nat.le_trans (HB.out.trans hb3).size (by simp)) ⟨w3.heap.size, 0, none⟩ (.int .i64 z) rfl (cell_new1 w3 (.int .i64 z) _) rfl (by omega) (by unfold maxLen; omega) ?_))
      intro A3 c3 w4 ho4 hm4
      have hbm : Below w3.heap.size w3 (w3.alloc (.cells #[.int .i64 z] 3)) := (Below.refl _ _).alloc (Nat.le_refl _) _
      have HR4 : Hid (w4.ownsRow w.heap.size 3 1 (.slice A3 (k + 1) c3) (k + 1) ((tkNums (k + 1) s1).1.map (Value.int .i64))) := hide (by
        rw [HSN.out, List.map_append]
        exact ho4)
      have HD4 : Hid (ScAt w4 r (tkNums (k + 1) s1).2) := hide (by rw [HSN.out]; exact ScAt.moved (hS3.below hbm) ((own_but HR.out hb3 hrl).alloc _) hrl hm4)
      have HB4 := hide (But.moved ((HB.out.trans hb3).below hbm) ((own_but HR.out hb3 hrl).alloc _) hm4)
      clear ho4 hm4 hS3 hb3 hbm HC
      go_wp2
      go_roundw
      case rel => exact ⟨k + 1, A3, c3, by omega, by go_num, rfl, HR4, HD4, HB4⟩
      case measure => simp [intOf]; omega
    · obtain rfl : k = n := by omega
      go_wp2
      go_ret
      exact ⟨A2, c2, rfl, HR.out, HS.out, HB.out⟩

end

end Go.Proofs.YtohndckbhjakfaaGreatDoor

