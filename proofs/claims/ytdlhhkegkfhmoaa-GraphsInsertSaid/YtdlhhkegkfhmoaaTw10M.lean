/- Contracts of TwinNode, TwinNodes and TwinGraph: copies of graphs in memory of their own. -/
import Derived.Test.YtdlhhkegkfhmoaaWi12M
import Derived.Test.YtdlhhkegkfhmoaaWA
namespace Go.Proofs.Ytdlhhkegkfhmoaa
open Go.RowKit
set_option linter.unusedVariables false
set_option linter.unusedSimpArgs false
set_option maxRecDepth 100000

/-- A copy of a node, its lists in the blocks g and h. -/
def twN (g h : Nat) (x : Nd) : Nd := ⟨x.kd, some ⟨g, 0, none⟩, x.ni, x.ni + 1, some ⟨h, 0, none⟩, x.ns, x.ns + 1, x.N, x.P, x.xs, x.sh⟩

/-- A list of numbers with the mark behind it, in a block of the call's own. -/
def MarkAt (w : World) (base g n : Nat) (zs : List Int) : Prop := w.ownsRow base 3 1 (.slice (some ⟨g, 0, none⟩) (n + 1) (n + 1)) (n + 1) (zs.map (Value.int .i64) ++ [.int .i64 77])

theorem MarkAt.kept {w w' : World} {base g n : Nat} {zs : List Int} {row : Option Nat} (h : MarkAt w base g n zs) (hg : w.grownBy w' row) (hr : row ≠ some g) : MarkAt w' base g n zs :=
  World.ownsRow.kept h hg (.inr (by simp only [Value.ownBlock]; exact fun e => hr e.symm))

theorem MarkAt.below {w w' : World} {base g n : Nat} {zs : List Int} (h : MarkAt w base g n zs) (hb : Below w.heap.size w w') : MarkAt w' base g n zs := own_below h hb

theorem MarkAt.base {w : World} {b b' g n : Nat} {zs : List Int} (h : MarkAt w b g n zs) (hb : b' ≤ b) : MarkAt w b' g n zs := own_base h hb

theorem MarkAt.lt {w : World} {base g n : Nat} {zs : List Int} (h : MarkAt w base g n zs) : base ≤ g ∧ g < w.heap.size := World.ownsRow.lt h g rfl

theorem MarkAt.lies {w : World} {base g n : Nat} {zs : List Int} (h : MarkAt w base g n zs) (hl : zs.length = n) : Lies w (some ⟨g, 0, none⟩) n (zs.map (Value.int .i64)) := by
  have h1 := (lies_of_own h).take (k := n) (by omega)
  rw [List.take_left' (by simp [hl])] at h1
  exact h1

/-- A node whose lists lie in blocks of the call's own, with marks. -/
def TwNd (w : World) (base : Nat) (t : Nd) : Prop := ∃ g h, t.I = some ⟨g, 0, none⟩ ∧ t.S = some ⟨h, 0, none⟩ ∧ g < h ∧ t.ci = t.ni + 1 ∧ t.cs = t.ns + 1 ∧ t.xs.length = t.ni ∧ t.sh.length = t.ns ∧ MarkAt w base g t.ni t.xs ∧ MarkAt w base h t.ns t.sh ∧ t.ni ≤ 1073741824 ∧ t.ns ≤ 1073741824 ∧ (0 ≤ t.kd ∧ t.kd < 256) ∧ (-9223372036854775808 ≤ t.N ∧ t.N < 9223372036854775808) ∧ (-9223372036854775808 ≤ t.P ∧ t.P < 9223372036854775808)

theorem TwNd.ok {w : World} {base : Nat} {t : Nd} (h : TwNd w base t) : t.Ok w := by
  obtain ⟨g, k, e1, e2, _, e3, e4, e5, e6, m1, m2, l1, l2, b1, b2, b3⟩ := h
  exact ⟨by rw [e1]; exact m1.lies e5, by rw [e2]; exact m2.lies e6, by omega, by omega, by omega, by omega, b1, b2, b3⟩

theorem TwNd.kept {w w' : World} {base : Nat} {t : Nd} {row : Option Nat} (h : TwNd w base t) (hg : w.grownBy w' row) (hr : ∀ k, row = some k → (t.I ≠ some ⟨k, 0, none⟩ ∧ t.S ≠ some ⟨k, 0, none⟩)) : TwNd w' base t := by
  obtain ⟨g, k, e1, e2, e0, e3, e4, e5, e6, m1, m2, r⟩ := h
  refine ⟨g, k, e1, e2, e0, e3, e4, e5, e6, m1.kept hg (fun e => (hr g e).1 e1), m2.kept hg (fun e => (hr k e).2 e2), r⟩

theorem TwNd.below {w w' : World} {base : Nat} {t : Nd} (h : TwNd w base t) (hb : Below w.heap.size w w') : TwNd w' base t :=
  h.kept (row := none) ⟨hb.os, hb.tape, hb.output, hb.size, fun i hi _ => hb.block i hi⟩ (fun k hk => by cases hk)

theorem TwNd.base {w : World} {b b' : Nat} {t : Nd} (h : TwNd w b t) (hb : b' ≤ b) : TwNd w b' t := by
  obtain ⟨g, k, e1, e2, e0, e3, e4, e5, e6, m1, m2, r⟩ := h
  exact ⟨g, k, e1, e2, e0, e3, e4, e5, e6, m1.base hb, m2.base hb, r⟩

theorem TwNd.spot {w : World} {base : Nat} {t : Nd} (h : TwNd w base t) : ∀ k, (t.I = some ⟨k, 0, none⟩ ∨ t.S = some ⟨k, 0, none⟩) → base ≤ k ∧ k < w.heap.size := by
  obtain ⟨g, q, e1, e2, _, _, _, _, _, m1, m2, _⟩ := h
  intro k hk
  rcases hk with hk | hk
  · rw [e1] at hk; injection hk with hk; injection hk with hk; subst hk; exact m1.lt
  · rw [e2] at hk; injection hk with hk; injection hk with hk; subst hk; exact m2.lt

/-- Five stores into a node's block. -/
theorem BoxN.set5 {w : World} {p : Nat} {x y : Nd} (h : BoxN w p x) : BoxN (((((w.setCell ⟨p, 0, none⟩ (.int .u8 y.kd)).setCell ⟨p, 1, none⟩ (.slice y.I y.ni y.ci)).setCell ⟨p, 2, none⟩ (.slice y.S y.ns y.cs)).setCell ⟨p, 3, none⟩ (.int .i64 y.N)).setCell ⟨p, 4, none⟩ (.int .i64 y.P)) p y := by
  unfold BoxN at h ⊢
  have h1 := heap_setCell_same w p 0 _ _ (.int .u8 y.kd) h
  have h2 := heap_setCell_same _ p 1 _ _ (.slice y.I y.ni y.ci) h1
  have h3 := heap_setCell_same _ p 2 _ _ (.slice y.S y.ns y.cs) h2
  have h4 := heap_setCell_same _ p 3 _ _ (.int .i64 y.N) h3
  have h5 := heap_setCell_same _ p 4 _ _ (.int .i64 y.P) h4
  simpa using h5

theorem grown_set (w : World) (p k : Nat) (v : Value) : w.grownBy (w.setCell ⟨p, k, none⟩ v) (some p) :=
  ⟨rfl, rfl, rfl, by simp [World.setCell], fun i _ hi => heap_setCell_other _ _ _ _ (by simpa using hi)⟩

theorem grown_set5 (w : World) (p : Nat) (a b c d e : Value) : w.grownBy (((((w.setCell ⟨p, 0, none⟩ a).setCell ⟨p, 1, none⟩ b).setCell ⟨p, 2, none⟩ c).setCell ⟨p, 3, none⟩ d).setCell ⟨p, 4, none⟩ e) (some p) :=
  grown_trans (grown_trans (grown_trans (grown_trans (grown_set w p 0 a) (grown_set _ p 1 b)) (grown_set _ p 2 c)) (grown_set _ p 3 d)) (grown_set _ p 4 e)

theorem results_nd {fn : Func} {p : Tmp} (h : fn.results = #[.cell p 35]) (tmps : Array Value) (w : World) (g : Nat) (cs : Array Value)
    (hp : tmps.getD p undef = .pointer (some ⟨g, 0, none⟩)) (hg : w.heap[g]? = some (.cells cs 35 (0, 0))) (hs : cs.size = 5) :
    (results fn tmps).run Try.prog w = .ok (.agg cs) w :=
  results_cell_row h tmps w g 35 cs (0, 0) _ hp hg Try.underlying35 rfl (by rw [hs]; kernel_rfl)

theorem ret_nd {fn : Func} {p : Tmp} {R : Ending → World → Prop} {a : Act} {w : World} (h : fn.results = #[.cell p 35]) (hd : a.defers = []) (g : Nat) (cs : Array Value)
    (hp : a.tmps.getD p undef = .pointer (some ⟨g, 0, none⟩)) (hg : w.heap[g]? = some (.cells cs 35 (0, 0))) (hs : cs.size = 5) (hR : R (.returned (.agg cs)) w) : bodyPost Try.prog fn R .ret a w :=
  bodyPost_ret (results_nd h _ w g cs hp hg hs) hd hR

set_option maxHeartbeats 4000000 in
theorem twinNode_any (x : Nd) (w : World) (hx : x.Ok w) (h1 : x.ni ≤ 1073741824) (h2 : x.ns ≤ 1073741824) :
    Calls Try.prog 47 #[x.v] w fun e w' => ∃ g h, e = .returned (twN g h x).v ∧ TwNd w' w.heap.size (twN g h x) ∧ Below w.heap.size w w' := by
  unfold Nd.v
  obtain ⟨W1, hW1⟩ : ∃ W, W = w.alloc (.cells #[.int .u8 x.kd, .slice x.I x.ni x.ci, .slice x.S x.ns x.cs, .int .i64 x.N, .int .i64 x.P] 35) := ⟨_, rfl⟩
  obtain ⟨W0, hW0⟩ : ∃ W, W = W1.alloc (.cells #[.int .u8 0, .slice none 0 0, .slice none 0 0, .int .i64 0, .int .i64 0] 35) := ⟨_, rfl⟩
  have s1 : W1.heap.size = w.heap.size + 1 := by rw [hW1]; simp
  have s0 : W0.heap.size = w.heap.size + 1 + 1 := by rw [hW0]; simp [s1]
  have b1 : Below W1.heap.size W1 W0 := by rw [hW0]; exact below_al6 (Below.refl _ _)
  have HB0 : Hid (Below w.heap.size w W0) := hide (by rw [hW0, hW1]; exact below_al6 (below_al6 (Below.refl _ _)))
  have g2 : BoxN W1 w.heap.size x := by rw [hW1]; exact BoxN.new w x
  have g3 : BoxN W0 (w.heap.size + 1) ⟨0, none, 0, 0, none, 0, 0, 0, 0, [], []⟩ := by rw [← s1, hW0]; exact BoxN.new W1 ⟨0, none, 0, 0, none, 0, 0, 0, 0, [], []⟩
  have HX := hide (g2.kept b1)
  have HR := hide g3
  have HO := hide (hx.below HB0.out)
  have HS0 := hide s0
  have HLI : Hid (x.xs.length = x.ni) := hide (lies_len9 hx.1)
  have HLS : Hid (x.sh.length = x.ns) := hide (lies_len9 hx.2.1)
  rw [hW1] at hW0
  have hW0' := hW0.symm
  clear hW0 hW1 s0 s1 b1 g2 g3 hx
  have HC : Hid (∀ v, Below W0.heap.size W0 v → v.cell? ⟨w.heap.size, 0, none⟩ = some (.int .u8 x.kd) ∧ v.cell? ⟨w.heap.size, 1, none⟩ = some (.slice x.I x.ni x.ci) ∧ v.cell? ⟨w.heap.size, 2, none⟩ = some (.slice x.S x.ns x.cs) ∧ v.cell? ⟨w.heap.size, 3, none⟩ = some (.int .i64 x.N) ∧ v.cell? ⟨w.heap.size, 4, none⟩ = some (.int .i64 x.P)) := hide (fun v hv => (HX.out.kept hv).cs)
  have hd0 : Below W0.heap.size W0 W0.drew := below_drewN (Below.refl _ _) 1
  go_enter Try.func47, Try.ntmps47
  go_wp2
  have hS0 : Hid (W0.drew.cell? ⟨w.heap.size, 0, none⟩ = some (.int .u8 x.kd) ∧ W0.drew.cell? ⟨w.heap.size, 1, none⟩ = some (.slice x.I x.ni x.ci) ∧ W0.drew.cell? ⟨w.heap.size, 2, none⟩ = some (.slice x.S x.ns x.cs) ∧ W0.drew.cell? ⟨w.heap.size, 3, none⟩ = some (.int .i64 x.N) ∧ W0.drew.cell? ⟨w.heap.size, 4, none⟩ = some (.int .i64 x.P)) := hide (HC.out _ hd0)
  refine wp_region_U (fun _ v => v.cell? ⟨w.heap.size, 0, none⟩ = some (.int .u8 x.kd) ∧ v.cell? ⟨w.heap.size, 1, none⟩ = some (.slice x.I x.ni x.ci) ∧ v.cell? ⟨w.heap.size, 2, none⟩ = some (.slice x.S x.ns x.cs) ∧ v.cell? ⟨w.heap.size, 3, none⟩ = some (.int .i64 x.N) ∧ v.cell? ⟨w.heap.size, 4, none⟩ = some (.int .i64 x.P)) 99 (by kernel_rfl) ?_
  refine wpAnyU_take (i := 0) (oi := { dst := some 3, op := _, type := _, pos := _, after := _, guard := none }) (v := .pointer (some ⟨w.heap.size, 0, none⟩)) rfl (by kernel_rfl) (by kernel_rfl) (by kernel_rfl) (by kernel_rfl) (fun _ _ _ h => h) (yields_take rfl (fun w' hw => by obtain ⟨h1, h2, h3, h4, h5⟩ := hw.const; go_simp)) hS0.out ?_
  simp only [Act.put, List.setIfInBounds_toArray, List.set_cons_zero, List.set_cons_succ]
  refine wpAnyU_take (i := 1) (oi := { dst := some 4, op := _, type := _, pos := _, after := _, guard := none }) (v := .int .u8 x.kd) rfl (by kernel_rfl) (by kernel_rfl) (by kernel_rfl) (by kernel_rfl) (fun _ _ _ h => h) (yields_take rfl (fun w' hw => by obtain ⟨h1, h2, h3, h4, h5⟩ := hw.const; go_simp)) hS0.out ?_
  simp only [Act.put, List.setIfInBounds_toArray, List.set_cons_zero, List.set_cons_succ]
  refine wpAnyU_take (i := 2) (oi := { dst := some 5, op := _, type := _, pos := _, after := _, guard := none }) (v := .pointer (some ⟨w.heap.size, 1, none⟩)) rfl (by kernel_rfl) (by kernel_rfl) (by kernel_rfl) (by kernel_rfl) (fun _ _ _ h => h) (yields_take rfl (fun w' hw => by obtain ⟨h1, h2, h3, h4, h5⟩ := hw.const; go_simp)) hS0.out ?_
  simp only [Act.put, List.setIfInBounds_toArray, List.set_cons_zero, List.set_cons_succ]
  refine wpAnyU_take (i := 3) (oi := { dst := some 6, op := _, type := _, pos := _, after := _, guard := none }) (v := .slice x.I x.ni x.ci) rfl (by kernel_rfl) (by kernel_rfl) (by kernel_rfl) (by kernel_rfl) (fun _ _ _ h => h) (yields_take rfl (fun w' hw => by obtain ⟨h1, h2, h3, h4, h5⟩ := hw.const; go_simp)) hS0.out ?_
  simp only [Act.put, List.setIfInBounds_toArray, List.set_cons_zero, List.set_cons_succ]
  refine wpAnyU_take (i := 5) (oi := { dst := some 8, op := _, type := _, pos := _, after := _, guard := none }) (v := .pointer (some ⟨w.heap.size, 2, none⟩)) rfl (by kernel_rfl) (by kernel_rfl) (by kernel_rfl) (by kernel_rfl) (fun _ _ _ h => h) (yields_take rfl (fun w' hw => by obtain ⟨h1, h2, h3, h4, h5⟩ := hw.const; go_simp)) hS0.out ?_
  simp only [Act.put, List.setIfInBounds_toArray, List.set_cons_zero, List.set_cons_succ]
  refine wpAnyU_take (i := 6) (oi := { dst := some 9, op := _, type := _, pos := _, after := _, guard := none }) (v := .slice x.S x.ns x.cs) rfl (by kernel_rfl) (by kernel_rfl) (by kernel_rfl) (by kernel_rfl) (fun _ _ _ h => h) (yields_take rfl (fun w' hw => by obtain ⟨h1, h2, h3, h4, h5⟩ := hw.const; go_simp)) hS0.out ?_
  simp only [Act.put, List.setIfInBounds_toArray, List.set_cons_zero, List.set_cons_succ]
  refine wpAnyU_take (i := 8) (oi := { dst := some 11, op := _, type := _, pos := _, after := _, guard := none }) (v := .pointer (some ⟨w.heap.size, 3, none⟩)) rfl (by kernel_rfl) (by kernel_rfl) (by kernel_rfl) (by kernel_rfl) (fun _ _ _ h => h) (yields_take rfl (fun w' hw => by obtain ⟨h1, h2, h3, h4, h5⟩ := hw.const; go_simp)) hS0.out ?_
  simp only [Act.put, List.setIfInBounds_toArray, List.set_cons_zero, List.set_cons_succ]
  refine wpAnyU_take (i := 9) (oi := { dst := some 12, op := _, type := _, pos := _, after := _, guard := none }) (v := .int .i64 x.N) rfl (by kernel_rfl) (by kernel_rfl) (by kernel_rfl) (by kernel_rfl) (fun _ _ _ h => h) (yields_take rfl (fun w' hw => by obtain ⟨h1, h2, h3, h4, h5⟩ := hw.const; go_simp)) hS0.out ?_
  simp only [Act.put, List.setIfInBounds_toArray, List.set_cons_zero, List.set_cons_succ]
  refine wpAnyU_take (i := 10) (oi := { dst := some 13, op := _, type := _, pos := _, after := _, guard := none }) (v := .pointer (some ⟨w.heap.size, 4, none⟩)) rfl (by kernel_rfl) (by kernel_rfl) (by kernel_rfl) (by kernel_rfl) (fun _ _ _ h => h) (yields_take rfl (fun w' hw => by obtain ⟨h1, h2, h3, h4, h5⟩ := hw.const; go_simp)) hS0.out ?_
  simp only [Act.put, List.setIfInBounds_toArray, List.set_cons_zero, List.set_cons_succ]
  refine wpAnyU_take (i := 11) (oi := { dst := some 14, op := _, type := _, pos := _, after := _, guard := none }) (v := .int .i64 x.P) rfl (by kernel_rfl) (by kernel_rfl) (by kernel_rfl) (by kernel_rfl) (fun _ _ _ h => h) (yields_take rfl (fun w' hw => by obtain ⟨h1, h2, h3, h4, h5⟩ := hw.const; go_simp)) hS0.out ?_
  simp only [Act.put, List.setIfInBounds_toArray, List.set_cons_zero, List.set_cons_succ]
  refine wpAnyU_one (i := 4) (by kernel_rfl) rfl ?_
  intro K hK
  go_simp
  refine Calls.mono (twin_Ints x.I x.ni x.ci x.xs _ (HO.out.1.below hd0) h1) ?_
  rintro e w1 ⟨rfl, hoI, hb⟩
  (try dsimp only)
  have hd1 : Below W0.heap.size W0 w1 := below_nx6 hd0 hb
  obtain ⟨g, hg⟩ : ∃ g, g = W0.drew.heap.size := ⟨_, rfl⟩
  rw [← hg] at hoI ⊢
  have hgs : g = W0.heap.size := hg
  have HMI : Hid (MarkAt w1 W0.heap.size g x.ni x.xs) := hide (by rw [← hgs]; exact hoI)
  clear hb hoI hg hgs
  (try dsimp only)
  have hS1 : Hid (w1.cell? ⟨w.heap.size, 0, none⟩ = some (.int .u8 x.kd) ∧ w1.cell? ⟨w.heap.size, 1, none⟩ = some (.slice x.I x.ni x.ci) ∧ w1.cell? ⟨w.heap.size, 2, none⟩ = some (.slice x.S x.ns x.cs) ∧ w1.cell? ⟨w.heap.size, 3, none⟩ = some (.int .i64 x.N) ∧ w1.cell? ⟨w.heap.size, 4, none⟩ = some (.int .i64 x.P)) := hide (HC.out _ hd1)
  refine hK.out _ _ hS1.out (fun _ => ?_)
  clear hK K hS0
  refine wpAnyU_one (i := 7) (by kernel_rfl) rfl ?_
  intro K hK
  go_simp
  refine Calls.mono (twin_Ints x.S x.ns x.cs x.sh _ (HO.out.2.1.below hd1) h2) ?_
  rintro e w2 ⟨rfl, hoS, hb⟩
  (try dsimp only)
  have hd2 : Below W0.heap.size W0 w2 := below_nx6 hd1 hb
  have hlg := HMI.out.lt
  replace HMI := hide (HMI.out.below hb)
  obtain ⟨h, hh⟩ : ∃ g, g = w1.heap.size := ⟨_, rfl⟩
  rw [← hh] at hoS ⊢
  have hgh : g < h := by omega
  have HMS : Hid (MarkAt w2 W0.heap.size h x.ns x.sh) := hide (MarkAt.base hoS (by rw [hh]; exact hd1.size))
  clear hb hoS hh hlg
  (try dsimp only)
  have hS2 : Hid (w2.cell? ⟨w.heap.size, 0, none⟩ = some (.int .u8 x.kd) ∧ w2.cell? ⟨w.heap.size, 1, none⟩ = some (.slice x.I x.ni x.ci) ∧ w2.cell? ⟨w.heap.size, 2, none⟩ = some (.slice x.S x.ns x.cs) ∧ w2.cell? ⟨w.heap.size, 3, none⟩ = some (.int .i64 x.N) ∧ w2.cell? ⟨w.heap.size, 4, none⟩ = some (.int .i64 x.P)) := hide (HC.out _ hd2)
  refine hK.out _ _ hS2.out (fun _ => ?_)
  clear hK K hS1
  refine wpAnyU_take (i := 12) (oi := { dst := some 15, op := _, type := _, pos := _, after := _, guard := none }) (v := .agg #[.int .u8 x.kd, .slice (some ⟨g, 0, none⟩) x.ni (x.ni + 1), .slice (some ⟨h, 0, none⟩) x.ns (x.ns + 1), .int .i64 x.N, .int .i64 x.P]) rfl (by kernel_rfl) (by kernel_rfl) (by kernel_rfl) (by kernel_rfl) (fun _ _ _ h => h) (yields_take rfl (fun w' hw => by obtain ⟨h1, h2, h3, h4, h5⟩ := hw.const; go_simp)) hS2.out ?_
  simp only [Act.put, List.setIfInBounds_toArray, List.set_cons_zero, List.set_cons_succ]
  have HR2 := hide (HR.out.kept hd2)
  obtain ⟨z0, z1, z2, z3, z4⟩ := HR2.out.cs
  have hfz := fun k => frozen_of_row w2 (w.heap.size + 1) k _ _ HR2.out
  have z5 := hfz 0
  have z6 := hfz 1
  have z7 := hfz 2
  have z8 := hfz 3
  have z9 := hfz 4
  refine wpAnyU_one (i := 13) (by kernel_rfl) rfl ?_
  intro K hK
  go_simp
  have hgr := grown_set5 w2 (w.heap.size + 1) (.int .u8 x.kd) (.slice (some ⟨g, 0, none⟩) x.ni (x.ni + 1)) (.slice (some ⟨h, 0, none⟩) x.ns (x.ns + 1)) (.int .i64 x.N) (.int .i64 x.P)
  have hS9 : Hid ((((((w2.setCell ⟨w.heap.size + 1, 0, none⟩ (.int .u8 x.kd)).setCell ⟨w.heap.size + 1, 1, none⟩ (.slice (some ⟨g, 0, none⟩) x.ni (x.ni + 1))).setCell ⟨w.heap.size + 1, 2, none⟩ (.slice (some ⟨h, 0, none⟩) x.ns (x.ns + 1))).setCell ⟨w.heap.size + 1, 3, none⟩ (.int .i64 x.N)).setCell ⟨w.heap.size + 1, 4, none⟩ (.int .i64 x.P)).cell? ⟨w.heap.size, 0, none⟩ = some (.int .u8 x.kd) ∧ (((((w2.setCell ⟨w.heap.size + 1, 0, none⟩ (.int .u8 x.kd)).setCell ⟨w.heap.size + 1, 1, none⟩ (.slice (some ⟨g, 0, none⟩) x.ni (x.ni + 1))).setCell ⟨w.heap.size + 1, 2, none⟩ (.slice (some ⟨h, 0, none⟩) x.ns (x.ns + 1))).setCell ⟨w.heap.size + 1, 3, none⟩ (.int .i64 x.N)).setCell ⟨w.heap.size + 1, 4, none⟩ (.int .i64 x.P)).cell? ⟨w.heap.size, 1, none⟩ = some (.slice x.I x.ni x.ci) ∧ (((((w2.setCell ⟨w.heap.size + 1, 0, none⟩ (.int .u8 x.kd)).setCell ⟨w.heap.size + 1, 1, none⟩ (.slice (some ⟨g, 0, none⟩) x.ni (x.ni + 1))).setCell ⟨w.heap.size + 1, 2, none⟩ (.slice (some ⟨h, 0, none⟩) x.ns (x.ns + 1))).setCell ⟨w.heap.size + 1, 3, none⟩ (.int .i64 x.N)).setCell ⟨w.heap.size + 1, 4, none⟩ (.int .i64 x.P)).cell? ⟨w.heap.size, 2, none⟩ = some (.slice x.S x.ns x.cs) ∧ (((((w2.setCell ⟨w.heap.size + 1, 0, none⟩ (.int .u8 x.kd)).setCell ⟨w.heap.size + 1, 1, none⟩ (.slice (some ⟨g, 0, none⟩) x.ni (x.ni + 1))).setCell ⟨w.heap.size + 1, 2, none⟩ (.slice (some ⟨h, 0, none⟩) x.ns (x.ns + 1))).setCell ⟨w.heap.size + 1, 3, none⟩ (.int .i64 x.N)).setCell ⟨w.heap.size + 1, 4, none⟩ (.int .i64 x.P)).cell? ⟨w.heap.size, 3, none⟩ = some (.int .i64 x.N) ∧ (((((w2.setCell ⟨w.heap.size + 1, 0, none⟩ (.int .u8 x.kd)).setCell ⟨w.heap.size + 1, 1, none⟩ (.slice (some ⟨g, 0, none⟩) x.ni (x.ni + 1))).setCell ⟨w.heap.size + 1, 2, none⟩ (.slice (some ⟨h, 0, none⟩) x.ns (x.ns + 1))).setCell ⟨w.heap.size + 1, 3, none⟩ (.int .i64 x.N)).setCell ⟨w.heap.size + 1, 4, none⟩ (.int .i64 x.P)).cell? ⟨w.heap.size, 4, none⟩ = some (.int .i64 x.P)) := hide (by
    have hk : ∀ k, ((((((w2.setCell ⟨w.heap.size + 1, 0, none⟩ (.int .u8 x.kd)).setCell ⟨w.heap.size + 1, 1, none⟩ (.slice (some ⟨g, 0, none⟩) x.ni (x.ni + 1))).setCell ⟨w.heap.size + 1, 2, none⟩ (.slice (some ⟨h, 0, none⟩) x.ns (x.ns + 1))).setCell ⟨w.heap.size + 1, 3, none⟩ (.int .i64 x.N)).setCell ⟨w.heap.size + 1, 4, none⟩ (.int .i64 x.P))).cell? ⟨w.heap.size, k, none⟩ = w2.cell? ⟨w.heap.size, k, none⟩ := fun k => World.cell?_of_block (hgr.block w.heap.size (by have := (HC.out _ hd2).1; exact World.block_lt_of_cell? w2 _ this) (by simp))
    obtain ⟨e0, e1, e2, e3, e4⟩ := HC.out _ hd2
    exact ⟨(hk 0).trans e0, (hk 1).trans e1, (hk 2).trans e2, (hk 3).trans e3, (hk 4).trans e4⟩)
  refine hK.out _ _ hS9.out (fun _ => ?_)
  clear hK K hS2 z0 z1 z2 z3 z4 z5 z6 z7 z8 z9 hfz
  refine wpAnyU_done (by kernel_rfl) ?_ _
  clear hS9
  have HF : Hid (TwNd (((((w2.setCell ⟨w.heap.size + 1, 0, none⟩ (.int .u8 x.kd)).setCell ⟨w.heap.size + 1, 1, none⟩ (.slice (some ⟨g, 0, none⟩) x.ni (x.ni + 1))).setCell ⟨w.heap.size + 1, 2, none⟩ (.slice (some ⟨h, 0, none⟩) x.ns (x.ns + 1))).setCell ⟨w.heap.size + 1, 3, none⟩ (.int .i64 x.N)).setCell ⟨w.heap.size + 1, 4, none⟩ (.int .i64 x.P)) w.heap.size (twN g h x) ∧ Below w.heap.size w (((((w2.setCell ⟨w.heap.size + 1, 0, none⟩ (.int .u8 x.kd)).setCell ⟨w.heap.size + 1, 1, none⟩ (.slice (some ⟨g, 0, none⟩) x.ni (x.ni + 1))).setCell ⟨w.heap.size + 1, 2, none⟩ (.slice (some ⟨h, 0, none⟩) x.ns (x.ns + 1))).setCell ⟨w.heap.size + 1, 3, none⟩ (.int .i64 x.N)).setCell ⟨w.heap.size + 1, 4, none⟩ (.int .i64 x.P))) := hide (by
    have hs := HS0.out
    have l1 := HMI.out.lt
    have l2 := HMS.out.lt
    refine ⟨⟨g, h, rfl, rfl, hgh, rfl, rfl, HLI.out, HLS.out, (HMI.out.kept hgr (by intro e; injection e with e; omega)).base (by omega), (HMS.out.kept hgr (by intro e; injection e with e; omega)).base (by omega), h1, h2, HO.out.2.2.2.2.2.2⟩, ?_⟩
    exact (HB0.out.trans (hd2.mono HB0.out.size)).grown hgr (HB0.out.trans (hd2.mono HB0.out.size)).size (fun k hk => by injection hk with hk; omega))
  clear hgr HC
  go_wp2
  (try simp only [Exit.inBlock, Exit.then])
  refine ret_nd (p := 2) rfl rfl (w.heap.size + 1) _ rfl (BoxN.set5 (y := twN g h x) HR2.out) rfl ?_
  exact ⟨g, h, rfl, HF.out⟩

end Go.Proofs.Ytdlhhkegkfhmoaa
