/- Contract of With: a graph with one node more. -/
import Derived.Test.YtdlhhkegkfhmoaaWi11M
namespace Go.Proofs.Ytdlhhkegkfhmoaa
open Go.RowKit
set_option linter.unusedVariables false
set_option linter.unusedSimpArgs false
set_option maxRecDepth 100000

/-- What the copy of the nodes and the new one come to, in either order. -/
def WithR (W : World) (x : Nd) (ns : List Nd) (n : Nat) (v1 v2 : Value) (u : World) : Prop :=
  ∃ A1 c1 g, v1 = .slice A1 n c1 ∧ v2 = .slice (some ⟨g, 0, none⟩) 1 1 ∧ u.ownsRow W.heap.size 35 5 (.slice A1 n c1) n (cellsN ns) ∧ (∀ j y, x.five[j]? = some y → u.cell? ((⟨g, 0, none⟩ : Addr).add j) = some y) ∧ Below W.heap.size W u

theorem five_new (w : World) (x : Nd) : ∀ j y, x.five[j]? = some y → (w.alloc (.cells #[.int .u8 x.kd, .slice x.I x.ni x.ci, .slice x.S x.ns x.cs, .int .i64 x.N, .int .i64 x.P] 35)).cell? ((⟨w.heap.size, 0, none⟩ : Addr).add j) = some y := cells_new w x.five 35

theorem five_below {w w' : World} {x : Nd} {g : Nat} (h : ∀ j y, x.five[j]? = some y → w.cell? ((⟨g, 0, none⟩ : Addr).add j) = some y) (hg : g < w.heap.size) (hb : Below w.heap.size w w') : ∀ j y, x.five[j]? = some y → w'.cell? ((⟨g, 0, none⟩ : Addr).add j) = some y := fun j y hj => by
  have := h j y hj
  rw [Addr.add_lit] at this ⊢
  exact (World.cell?_of_block (hb.block g hg)).trans this

theorem own_keep10 {w w' : World} {base size : Nat} {e : TypeId} {v : Value} {n : Nat} {xs : List Value} (h : w.ownsRow base e size v n xs) (hb : Below w.heap.size w w') : w'.ownsRow base e size v n xs :=
  h.kept (row := none) ⟨hb.os, hb.tape, hb.output, hb.size, fun i hi _ => hb.block i hi⟩ (by cases v.ownBlock <;> simp)

theorem below_own10 {W w w' : World} {base size : Nat} {e : TypeId} {v : Value} {n : Nat} {xs : List Value} (hb : Below W.heap.size W w) (ho : w.ownsRow base e size v n xs) (hg : w.grownBy w' v.ownBlock) (hbb : W.heap.size ≤ base) : Below W.heap.size W w' :=
  hb.grown hg hb.size (fun g hgg => Nat.le_trans hbb (ho.lt g hgg).1)

set_option maxHeartbeats 4000000 in
theorem with_any (A : Option Addr) (n c : Nat) (ns : List Nd) (x : Nd) (w : World) (h : NsIn w A n ns) (hnil : A = none → c = 0) (hx : x.Ok w) (hn : n ≤ 1000000) :
    Calls Try.prog 15 #[.agg #[.slice A n c], x.v] w fun e w' => ∃ A' c', e = .returned (.agg #[.slice A' (n + 1) c']) ∧ NsIn w' A' (n + 1) (ns ++ [x]) ∧ n + 1 ≤ c' ∧ (A' = none → c' = 0) ∧ Below w.heap.size w w' := by
  unfold Nd.v
  obtain ⟨W1, hW1⟩ : ∃ W, W = w.alloc (.cells #[.slice A n c] 24) := ⟨_, rfl⟩
  obtain ⟨W2, hW2⟩ : ∃ W, W = W1.alloc (.cells #[.int .u8 x.kd, .slice x.I x.ni x.ci, .slice x.S x.ns x.cs, .int .i64 x.N, .int .i64 x.P] 35) := ⟨_, rfl⟩
  obtain ⟨W0, hW0⟩ : ∃ W, W = W2.alloc (.cells #[.slice none 0 0] 24) := ⟨_, rfl⟩
  have s1 : W1.heap.size = w.heap.size + 1 := by rw [hW1]; simp
  have s2 : W2.heap.size = w.heap.size + 1 + 1 := by rw [hW2]; simp [s1]
  have s0 : W0.heap.size = w.heap.size + 1 + 1 + 1 := by rw [hW0]; simp [s2]
  have b1 : Below W1.heap.size W1 W0 := by rw [hW0, hW2]; exact below_al6 (below_al6 (Below.refl _ _))
  have b2 : Below W2.heap.size W2 W0 := by rw [hW0]; exact below_al6 (Below.refl _ _)
  have HB0 : Hid (Below w.heap.size w W0) := hide (by rw [hW0, hW2, hW1]; exact below_al6 (below_al6 (below_al6 (Below.refl _ _))))
  have g1 : BoxG W1 w.heap.size (.slice A n c) := by rw [hW1]; exact BoxG.new w _
  have g2 : BoxN W2 W1.heap.size x := by rw [hW2]; exact BoxN.new W1 x
  have g3 : BoxG W0 W2.heap.size (.slice none 0 0) := by rw [hW0]; exact BoxG.new W2 _
  rw [s1] at g2
  rw [s2] at g3
  have HG1 := hide (g1.kept b1)
  have HX := hide (g2.kept b2)
  have HGR := hide g3
  have HN := hide (h.below HB0.out)
  have HNW := hide h
  have HOW := hide hx
  have HO := hide (hx.below HB0.out)
  have HS0 := hide s0
  rw [hW2, hW1] at hW0
  have hW0' := hW0.symm
  clear hW0 hW1 hW2 s0 s1 s2 b1 b2 h hx g1 g2 g3
  have HC : Hid (∀ v, Below W0.heap.size W0 v → v.cell? ⟨w.heap.size, 0, none⟩ = some (.slice A n c) ∧ v.cell? ⟨w.heap.size + 1, 0, none⟩ = some (.int .u8 x.kd) ∧ v.cell? ⟨w.heap.size + 1, 1, none⟩ = some (.slice x.I x.ni x.ci) ∧ v.cell? ⟨w.heap.size + 1, 2, none⟩ = some (.slice x.S x.ns x.cs) ∧ v.cell? ⟨w.heap.size + 1, 3, none⟩ = some (.int .i64 x.N) ∧ v.cell? ⟨w.heap.size + 1, 4, none⟩ = some (.int .i64 x.P)) := hide (fun v hv => by
    obtain ⟨q0, q1, q2, q3, q4⟩ := (HX.out.kept hv).cs
    exact ⟨(HG1.out.kept hv).c0, q0, q1, q2, q3, q4⟩)
  obtain ⟨iN, hiN, hzN0, hzN1, hzN2⟩ := info_parts infoN10
  have HIN := hide hiN
  have HZ0 := hide hzN0
  have HZ1 := hide hzN1
  have HZ2 := hide hzN2
  clear hiN hzN0 hzN1 hzN2
  have hd0 : Below W0.heap.size W0 W0.drew := below_drewN (Below.refl _ _) 1
  have HAP : Hid (∀ v, Below W0.heap.size W0 v → ∃ A1 c1 v', (Builtin.append_ #[22, 22] 22 #[.slice none 0 0, .slice A n c]).run Try.prog v = .ok (.slice A1 n c1) v' ∧ v'.ownsRow W0.heap.size 35 5 (.slice A1 n c1) n (cellsN ns) ∧ Below v.heap.size v v') := hide (fun v hv => by
    obtain ⟨A1, c1, v', h1, h2, h3, _⟩ := run_append_srcN (P := Try.prog) (w := v) 22 22 35 iN _ 5 72 Try.underlying22 HIN.out HZ0.out HZ1.out HZ2.out rfl (by decide) W0.heap.size (.slice none 0 0) 0 [] (World.ownsRow_nil _ _ _ _) hv.size A n c (cellsN ns) (by rw [cellsN_len, HN.out.1]) (HN.out.below (hv.mono (Nat.le_refl _))).cells hnil (cellsN_one ns) (by omega) (by unfold maxLen; omega)
    rw [Nat.zero_add] at h1 h2
    exact ⟨A1, c1, v', h1, by simpa using h2, ⟨h3.os, h3.tape, h3.output, h3.size, fun k hk => h3.block k hk (by simp [Value.ownBlock])⟩⟩)
  clear hnil
  go_enter Try.func15, Try.ntmps15
  go_wp2
  have hS0 : Hid (W0.drew.cell? ⟨w.heap.size, 0, none⟩ = some (.slice A n c) ∧ W0.drew.cell? ⟨w.heap.size + 1, 0, none⟩ = some (.int .u8 x.kd) ∧ W0.drew.cell? ⟨w.heap.size + 1, 1, none⟩ = some (.slice x.I x.ni x.ci) ∧ W0.drew.cell? ⟨w.heap.size + 1, 2, none⟩ = some (.slice x.S x.ns x.cs) ∧ W0.drew.cell? ⟨w.heap.size + 1, 3, none⟩ = some (.int .i64 x.N) ∧ W0.drew.cell? ⟨w.heap.size + 1, 4, none⟩ = some (.int .i64 x.P)) := hide (HC.out _ hd0)
  refine wp_region_U (fun _ v => v.cell? ⟨w.heap.size, 0, none⟩ = some (.slice A n c) ∧ v.cell? ⟨w.heap.size + 1, 0, none⟩ = some (.int .u8 x.kd) ∧ v.cell? ⟨w.heap.size + 1, 1, none⟩ = some (.slice x.I x.ni x.ci) ∧ v.cell? ⟨w.heap.size + 1, 2, none⟩ = some (.slice x.S x.ns x.cs) ∧ v.cell? ⟨w.heap.size + 1, 3, none⟩ = some (.int .i64 x.N) ∧ v.cell? ⟨w.heap.size + 1, 4, none⟩ = some (.int .i64 x.P)) 99 (by kernel_rfl) ?_
  refine wpAnyU_take (i := 0) (oi := { dst := some 5, op := _, type := _, pos := _, after := _, guard := none }) (v := .pointer (some ⟨w.heap.size, 0, none⟩)) rfl (by kernel_rfl) (by kernel_rfl) (by kernel_rfl) (by kernel_rfl) (fun _ _ _ h => h) (yields_take rfl (fun w' hw => by obtain ⟨h1, h2, h3, h4, h5, h6⟩ := hw.const; go_simp)) hS0.out ?_
  simp only [Act.put, List.setIfInBounds_toArray, List.set_cons_zero, List.set_cons_succ]
  refine wpAnyU_take (i := 1) (oi := { dst := some 6, op := _, type := _, pos := _, after := _, guard := none }) (v := .slice A n c) rfl (by kernel_rfl) (by kernel_rfl) (by kernel_rfl) (by kernel_rfl) (fun _ _ _ h => h) (yields_take rfl (fun w' hw => by obtain ⟨h1, h2, h3, h4, h5, h6⟩ := hw.const; go_simp)) hS0.out ?_
  simp only [Act.put, List.setIfInBounds_toArray, List.set_cons_zero, List.set_cons_succ]
  refine wpAnyU_take (i := 3) (oi := { dst := some 8, op := _, type := _, pos := _, after := _, guard := none }) (v := .agg #[.int .u8 x.kd, .slice x.I x.ni x.ci, .slice x.S x.ns x.cs, .int .i64 x.N, .int .i64 x.P]) rfl (by kernel_rfl) (by kernel_rfl) (by kernel_rfl) (by kernel_rfl) (fun _ _ _ h => h) (yields_take rfl (fun w' hw => by obtain ⟨h1, h2, h3, h4, h5, h6⟩ := hw.const; go_simp)) hS0.out ?_
  simp only [Act.put, List.setIfInBounds_toArray, List.set_cons_zero, List.set_cons_succ]
  obtain ⟨A1, c1, wa, hr1, ho1, hb1⟩ := HAP.out _ hd0
  have hda : Below W0.heap.size W0 wa := below_nx6 hd0 hb1
  obtain ⟨A2, c2, wb, hr2, ho2, hb2⟩ := HAP.out _ (below_al6 (o := (.cells #[.int .u8 x.kd, .slice x.I x.ni x.ci, .slice x.S x.ns x.cs, .int .i64 x.N, .int .i64 x.P] 35)) hd0)
  have hdb : Below W0.heap.size W0 wb := below_nx6 (below_al6 hd0) hb2
  refine wpAnyU_two (i := 2) (j := 4) (oi := { dst := some 7, op := _, type := _, pos := _, after := _, guard := none }) (oj := { dst := some 9, op := _, type := _, pos := _, after := _, guard := none }) (WithR W0 x ns n) (by kernel_rfl) (by kernel_rfl) (by kernel_rfl) rfl rfl rfl rfl (by decide) (by decide) (by kernel_rfl) (by kernel_rfl) (fun _ => by kernel_rfl) (fun _ => by kernel_rfl) ⟨.slice A1 n c1, wa, ?a1, HC.out _ hda, .slice (some ⟨wa.heap.size, 0, none⟩) 1 1, wa.alloc (.cells #[.int .u8 x.kd, .slice x.I x.ni x.ci, .slice x.S x.ns x.cs, .int .i64 x.N, .int .i64 x.P] 35), ?a2, ⟨A1, c1, wa.heap.size, rfl, rfl, own_keep10 ho1 (below_al6 (Below.refl _ _)), five_new wa x, below_al6 hda⟩⟩ ⟨.slice (some ⟨W0.drew.heap.size, 0, none⟩) 1 1, W0.drew.alloc (.cells #[.int .u8 x.kd, .slice x.I x.ni x.ci, .slice x.S x.ns x.cs, .int .i64 x.N, .int .i64 x.P] 35), ?b1, HC.out _ (below_al6 hd0), .slice A2 n c2, wb, ?b2, ⟨A2, c2, W0.drew.heap.size, rfl, rfl, ho2, five_below (five_new W0.drew x) (by simp) hb2, hdb⟩⟩ (fun _ _ _ hr => by obtain ⟨_, _, _, _, _, _, _, hv⟩ := hr; exact HC.out _ hv) ?rest
  case a1 => simp [execOp, resolve, invoke, builtin, hr1, Result.andThen, Act.eval]
  case a2 => go_simp
  case b1 => go_simp
  case b2 =>
    simp only [Act.put, List.setIfInBounds_toArray, List.set_cons_zero, List.set_cons_succ]
    simp [execOp, resolve, invoke, builtin, hr2, Result.andThen, Act.eval]
  case rest =>
  rintro _ _ u ⟨Au, cu, gu, rfl, rfl, hou, hfu, hbu⟩
  simp only [Act.put, List.setIfInBounds_toArray, List.set_cons_zero, List.set_cons_succ]
  clear hr1 ho1 hb1 hda hr2 ho2 hb2 hdb
  have HOU := hide hou
  have HFU := hide hfu
  clear hou hfu hS0
  have hS1 : Hid (u.cell? ⟨w.heap.size, 0, none⟩ = some (.slice A n c) ∧ u.cell? ⟨w.heap.size + 1, 0, none⟩ = some (.int .u8 x.kd) ∧ u.cell? ⟨w.heap.size + 1, 1, none⟩ = some (.slice x.I x.ni x.ci) ∧ u.cell? ⟨w.heap.size + 1, 2, none⟩ = some (.slice x.S x.ns x.cs) ∧ u.cell? ⟨w.heap.size + 1, 3, none⟩ = some (.int .i64 x.N) ∧ u.cell? ⟨w.heap.size + 1, 4, none⟩ = some (.int .i64 x.P)) := hide (HC.out _ hbu)
  refine wpAnyU_one (i := 5) (by kernel_rfl) rfl ?_
  intro K hK
  refine step_append_srcN rfl _ _ 22 rfl 35 iN _ 5 72 Try.underlying22 HIN.out HZ0.out HZ1.out HZ2.out rfl (by decide) W0.heap.size (.slice Au n cu) n (cellsN ns) rfl HOU.out hbu.size (some ⟨gu, 0, none⟩) 1 1 x.five rfl rfl (fun _ => ⟨_, rfl, HFU.out⟩) (fun h => by cases h) (fun y hy => by simp only [Nd.five, List.mem_cons, List.not_mem_nil, or_false] at hy; rcases hy with rfl | rfl | rfl | rfl | rfl <;> rfl) (by omega) (by unfold maxLen; omega) ?_
  intro A3 c3 w3 ho3 hg3 _
  have hb3 : Below W0.heap.size W0 w3 := below_own10 hbu HOU.out hg3 (Nat.le_refl _)
  have HO3 := hide ho3
  clear ho3 hg3 HFU HOU hbu
  have hS2 : Hid (w3.cell? ⟨w.heap.size, 0, none⟩ = some (.slice A n c) ∧ w3.cell? ⟨w.heap.size + 1, 0, none⟩ = some (.int .u8 x.kd) ∧ w3.cell? ⟨w.heap.size + 1, 1, none⟩ = some (.slice x.I x.ni x.ci) ∧ w3.cell? ⟨w.heap.size + 1, 2, none⟩ = some (.slice x.S x.ns x.cs) ∧ w3.cell? ⟨w.heap.size + 1, 3, none⟩ = some (.int .i64 x.N) ∧ w3.cell? ⟨w.heap.size + 1, 4, none⟩ = some (.int .i64 x.P)) := hide (HC.out _ hb3)
  refine hK.out _ _ hS2.out (fun _ => ?_)
  clear hK K hS1
  refine wpAnyU_take (i := 6) (oi := { dst := some 11, op := _, type := _, pos := _, after := _, guard := none }) (v := .agg #[.slice A3 (n + 1) c3]) rfl (by kernel_rfl) (by kernel_rfl) (by kernel_rfl) (by kernel_rfl) (fun _ _ _ h => h) (yields_take rfl (fun w' hw => by obtain ⟨h1, h2, h3, h4, h5, h6⟩ := hw.const; go_simp)) hS2.out ?_
  simp only [Act.put, List.setIfInBounds_toArray, List.set_cons_zero, List.set_cons_succ]
  have HGR3 := hide (HGR.out.kept hb3)
  have hq6 := HGR3.out.c0
  have hq7 := HGR3.out.f0 0
  refine wpAnyU_one (i := 7) (by kernel_rfl) rfl ?_
  intro K hK
  go_simp
  have hS3 : Hid ((w3.setCell ⟨w.heap.size + 1 + 1, 0, none⟩ (.slice A3 (n + 1) c3)).cell? ⟨w.heap.size, 0, none⟩ = some (.slice A n c) ∧ (w3.setCell ⟨w.heap.size + 1 + 1, 0, none⟩ (.slice A3 (n + 1) c3)).cell? ⟨w.heap.size + 1, 0, none⟩ = some (.int .u8 x.kd) ∧ (w3.setCell ⟨w.heap.size + 1 + 1, 0, none⟩ (.slice A3 (n + 1) c3)).cell? ⟨w.heap.size + 1, 1, none⟩ = some (.slice x.I x.ni x.ci) ∧ (w3.setCell ⟨w.heap.size + 1 + 1, 0, none⟩ (.slice A3 (n + 1) c3)).cell? ⟨w.heap.size + 1, 2, none⟩ = some (.slice x.S x.ns x.cs) ∧ (w3.setCell ⟨w.heap.size + 1 + 1, 0, none⟩ (.slice A3 (n + 1) c3)).cell? ⟨w.heap.size + 1, 3, none⟩ = some (.int .i64 x.N) ∧ (w3.setCell ⟨w.heap.size + 1 + 1, 0, none⟩ (.slice A3 (n + 1) c3)).cell? ⟨w.heap.size + 1, 4, none⟩ = some (.int .i64 x.P)) := hide (by obtain ⟨e0, e1, e2, e3, e4, e5⟩ := hS2.out; exact ⟨(World.cell?_setCell_other _ _ _ _ (by simp)).trans e0, (World.cell?_setCell_other _ _ _ _ (by simp)).trans e1, (World.cell?_setCell_other _ _ _ _ (by simp)).trans e2, (World.cell?_setCell_other _ _ _ _ (by simp)).trans e3, (World.cell?_setCell_other _ _ _ _ (by simp)).trans e4, (World.cell?_setCell_other _ _ _ _ (by simp)).trans e5⟩)
  refine hK.out _ _ hS3.out (fun _ => ?_)
  clear hK K hS2 hq6 hq7
  refine wpAnyU_done (by kernel_rfl) ?_ _
  clear hS3
  have HB3 := hide hb3
  have HF : Hid (NsIn (w3.setCell ⟨w.heap.size + 1 + 1, 0, none⟩ (.slice A3 (n + 1) c3)) A3 (n + 1) (ns ++ [x]) ∧ n + 1 ≤ c3 ∧ (A3 = none → c3 = 0) ∧ Below w.heap.size w (w3.setCell ⟨w.heap.size + 1 + 1, 0, none⟩ (.slice A3 (n + 1) c3))) := hide (by
    have hs : W0.heap.size ≤ w3.heap.size := hb3.size
    have h0 := HS0.out
    have h1 : (w3.setCell ⟨w.heap.size + 1 + 1, 0, none⟩ (.slice A3 (n + 1) c3)).ownsRow W0.heap.size 35 5 (.slice A3 (n + 1) c3) (n + 1) (cellsN (ns ++ [x])) := by
      have h := HO3.out.kept (w' := w3.setCell ⟨w.heap.size + 1 + 1, 0, none⟩ (.slice A3 (n + 1) c3)) (row := some (w.heap.size + 1 + 1)) ⟨rfl, rfl, rfl, by simp [World.setCell], fun k _ hk => heap_setCell_other _ _ _ _ (by simpa using hk)⟩ (by
        rcases hv : Value.ownBlock (.slice A3 (n + 1) c3) with _ | g
        · exact .inl rfl
        · right
          have := (HO3.out.lt g hv).1
          intro e
          injection e with e
          omega)
      rw [cellsN_append]
      simpa [cellsN] using h
    have h2 : Below w.heap.size w (w3.setCell ⟨w.heap.size + 1 + 1, 0, none⟩ (.slice A3 (n + 1) c3)) := (HB0.out.trans (hb3.mono HB0.out.size)).setCell (by dsimp only; omega) _
    refine ⟨NsIn.ofOwn h1 (by rw [List.length_append, HN.out.1]; rfl) (fun y hy => ?_), ?_, ?_, h2⟩
    · rcases List.mem_append.1 hy with hy | hy
      · exact (HNW.out.oks y hy).below h2
      · rw [List.mem_singleton.1 hy]; exact HOW.out.below h2
    · rcases h1.2 with ⟨_, h⟩ | ⟨g, cap, cur, e, _, _, hc, _⟩
      · omega
      · injection e with _ _ e; omega
    · rcases h1.2 with ⟨_, h⟩ | ⟨g, cap, cur, e, _, _, hc, _⟩
      · omega
      · injection e with e _ _; rw [e]; intro h; cases h)
  clear HO3 HAP HC hb3
  go_wp2
  (try simp only [Exit.inBlock, Exit.then])
  refine ret_gr (p := 4) rfl rfl (w.heap.size + 1 + 1) _ rfl (HGR3.out.set _) rfl ?_
  exact ⟨A3, c3, rfl, HF.out⟩

end Go.Proofs.Ytdlhhkegkfhmoaa
