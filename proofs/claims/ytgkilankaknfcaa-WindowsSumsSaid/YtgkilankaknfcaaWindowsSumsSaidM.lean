/- For every two pictures with windows, steps and pads WindowsSums returns true, does not panic, and leaves all that was there as it was. Conditions: none. -/
import Derived.Test.YtgkilankaknfcaaSums8M
import Derived.Test.YtgkilankaknfcaaWF
namespace Go.Proofs.Ytgkilankaknfcaa.windowsSums
open Go.ChangeShapes Go.WideShapes Go.ChangeAt Go.RowKit
set_option linter.unusedVariables false

theorem own : ownKnob Try.prog.godebug = none := by kernel_rfl

theorem laidOut : laidOutB Try.prog = true := by kernel_rfl

set_option maxRecDepth 100000 in
theorem lifted (os : Os) (started : os.Started) (H : Type) (enc : TypeId × Value → H) :
    ReturnsInHanded {} Try.checked os 3 .any (Rows.windowsSumsSpec.pre6 enc Try.prog Try.f3 Rows.windowsSumsRow.domain false) (Rows.windowsSumsSpec.post enc Try.prog Try.f3 false true false false) := by
  refine returnsInHanded_of_change_sized (C := Try.checked) own started (by kernel_rfl) Try.func3
    (ChangeSpec.witness6 (enc := enc) (C := Try.checked) false ⟨#[], #[.agg #[.slice none 0 0, .slice none 0 0, .slice none 0 0, .slice none 0 0, .int .i64 0, .int .i64 0, .int .i64 0], .agg #[.slice none 0 0, .slice none 0 0, .slice none 0 0, .slice none 0 0, .int .i64 0, .int .i64 0, .int .i64 0]], []⟩ 8 (by kernel_rfl) (by kernel_rfl) (by kernel_rfl) (by kernel_rfl)) ?_
  intro W base args ds gs before hval0 hW hcnd hsz0 _
  have hsz : (DataW.weightsEach Try.prog (Try.f3.params.toList ++ Rows.windowsSumsSpec.plain.varTypes Try.prog) (ds ++ gs)).all (· ≤ reachBytes) = true := hsz0
  have hval : ∀ (j : Nat) t v, Try.f3.params[j]? = some t → args[j]? = some v → Value.okWide Try.prog W .any base t v := hval0
  have hW' := hW
  obtain ⟨p, q, hA0, hV, rfl, hfz, hnd⟩ := hW
  have hA : DataW.TrodAll enc Try.prog W 0 (fun _ => true) true Try.f3.params.toList args.toList ds p := hA0
  rw [Try.params3] at hA hval hsz
  obtain ⟨v0, vs0, d0, ds0, p0, q0, hargs, rfl, rfl, h0, r0⟩ := trodAll_cons hA
  obtain ⟨v1, vs1, d1, ds1, p1, q1, rfl, rfl, rfl, h1, r1⟩ := trodAll_cons r0
  obtain ⟨rfl, rfl, rfl⟩ := trodAll_nil r1
  obtain rfl : args = #[v0, v1] := by cases args; simp_all
  obtain ⟨rfl, rfl⟩ := trodVars_none hV
  obtain ⟨g0, g0r⟩ := reach_cons hsz
  obtain ⟨g1, g1r⟩ := reach_cons g0r
  have k0 := h0
  have lt0 : ∀ x ∈ p0, x.block < W.heap.size := by obtain ⟨m, hm⟩ := k0; exact DataW.trod_lt m _ _ _ hm
  obtain ⟨A0, B0, A0', B0', n0, c0, m0, e0, n0', c0', m0', e0', s0, l0, s0', l0', x0, y0, z0, rfl, ⟨tA0, tB0, tc0, td0, tn0, tm0, ts0, tl0, tr0, tq0⟩, ⟨tA0', tB0', tc0', td0', tn0', tm0', ts0', tl0', tr0', tq0'⟩, tx0, ty0, tz0⟩ := slide_read (hval 0 27 v0 rfl rfl) h0 g0
  have k1 := h1
  have lt1 : ∀ x ∈ p1, x.block < W.heap.size := by obtain ⟨m, hm⟩ := k1; exact DataW.trod_lt m _ _ _ hm
  obtain ⟨A1, B1, A1', B1', n1, c1, m1, e1, n1', c1', m1', e1', s1, l1, s1', l1', x1, y1, z1, rfl, ⟨tA1, tB1, tc1, td1, tn1, tm1, ts1, tl1, tr1, tq1⟩, ⟨tA1', tB1', tc1', td1', tn1', tm1', ts1', tl1', tr1', tq1'⟩, tx1, ty1, tz1⟩ := slide_read (hval 1 27 v1 rfl rfl) h1 g1
  clear hA0 hval0
  refine (sums8_any A0 B0 A0' B0' n0 c0 m0 e0 n0' c0' m0' e0' s0 l0 s0' l0' x0 y0 z0 A1 B1 A1' B1' n1 c1 m1 e1 n1' c1' m1' e1' s1 l1 s1' l1' x1 y1 z1 W tA0 tB0 tA0' tB0' tA1 tB1 tA1' tB1' (by omega) (by omega) (by omega) (by omega) (by omega) (by omega) (by omega) (by omega) td0' td1').mono fun e W' ⟨he, bel⟩ => ?_
  subst he
  exact ⟨_, rfl, _, _, _, [], _, [], hW', trodAll_mk1 (shut_bool Try.underlying4 _), (trodAll_cons_mk (Below.trod laidOut (by kernel_rfl) (of_decide_eq_true (by kernel_rfl)) k0 bel lt0) (trodAll_cons_mk (Below.trod laidOut (by kernel_rfl) (of_decide_eq_true (by kernel_rfl)) k1 bel lt1) trodAll_mk0)), rfl, bel.frame _, fun h => by cases h⟩

theorem over : Rows.windowsSumsRow.holds Try.pinned (OpenSpec.ofChange Rows.windowsSumsSpec) :=
  OpenClaim.holds_of_wide 3 Try.f3 rfl rfl rfl rfl rfl rfl rfl ⟨rfl, rfl, rfl, rfl, rfl⟩ rfl rfl rfl rfl rfl (by kernel_rfl) Try.func3 (by kernel_rfl)
    (of_decide_eq_true (by kernel_rfl)) (by unfold Func.isWrapper; first | (rw [if_pos (by decide +kernel)]; kernel_rfl) | (rw [if_neg (by decide +kernel)]; exact ⟨rfl, rfl⟩))
    (fun os started H enc _ => lifted os started H enc)

theorem proved : Rows.WindowsSumsSaid := over
#print axioms proved

end Go.Proofs.Ytgkilankaknfcaa.windowsSums
