/- For every model, all bytes and every turn ModelsTurned returns true, does not panic, and leaves all that was there as it was. Conditions: none; the listed variables hold what their initialisers lay. -/
import Derived.Test.YtohndckbhjakfaaGreatDoorWZ43
import Derived.Test.YtohndckbhjakfaaGreatDoorWZ44
import Derived.ChangeMaps5
namespace Go.Proofs.YtohndckbhjakfaaGreatDoor.modelsTurned
open Go.ChangeShapes Go.WideShapes Go.ChangeAt Go.RowKit
open Go.ChangeMaps (open_string shut_string)
set_option linter.unusedVariables false

theorem own : ownKnob Tryz.prog.godebug = none := by kernel_rfl

theorem laidOut : laidOutB Tryz.prog = true := by kernel_rfl

theorem reads (os : Os) {H : Type} (enc : TypeId × Value → H) : ∃ places, DataW.whole enc Tryz.prog ((laidWorld os).forCall (fun _ _ => 0) ⟨#[], #[.agg #[.slice none 0 0, .slice none 0 0], .slice none 0 0, .agg #[.int .u16 0, .int .u32 0]], []⟩).memory Tryz.f4.params.toList Rows.modelsTurnedSpec.vars false #[Value.agg #[.slice none 0 0, .slice none 0 0], .slice none 0 0, .agg #[.int .u16 0, .int .u32 0]].toList 8 = some ([.agg [.agg [.nil], .nil], .nil, .agg [.lit (.int .u16 0), .lit (.int .u32 0)]], [], places) :=
  ⟨[], by kernel_rfl⟩

theorem okWide_cap {P : Program} {W : World} {r : Reach} {base : Nat} {t e : TypeId} {A : Option Addr} {n c : Nat} (ht : P.underlying t = some (.slice e)) (h : Value.okWide P W r base t (.slice A n c)) : c ≤ 9223372036854775807 := by
  cases A with
  | none =>
    by_cases h0 : n = 0 ∧ c = 0
    · omega
    · exfalso
      unfold Value.okWide at h
      rw [ht] at h
      unfold Cell.okWide at h
      rw [ht] at h
      unfold Cell.ok at h
      rw [ht] at h
      simp only at h
      split at h
      all_goals simp_all
  | some a =>
    simp only [Value.okWide, ht, Cell.okWide, Cell.ok] at h
    have h1 := h.2.1
    rw [show IntKind.i64.max = 9223372036854775807 from rfl] at h1
    omega

set_option maxRecDepth 100000 in
theorem turn_read {H : Type} {enc : TypeId × Value → H} {W : World} {r : Reach} {base : Nat} {v : Value} {d : DataW H} {ps : List MemPlace} (hv : Value.okWide Tryz.prog W r base 54 v) (h : DataW.Trod enc Tryz.prog W 0 (fun _ => true) true 54 v d ps) :
    ∃ x y : Nat, v = .agg #[.int .u16 (x : Int), .int .u32 (y : Int)] ∧ x < 65536 ∧ y < 4294967296 := by
  obtain ⟨cs, rfl, hsz⟩ := okWide_struct Tryz.underlying54 hv
  have k0 : Tryz.prog.cellsOf 54 = 2 := by kernel_rfl
  have k5 : Tryz.prog.cellsOf 51 = 1 := by kernel_rfl
  have k6 : Tryz.prog.cellsOf 52 = 1 := by kernel_rfl
  obtain ⟨l⟩ := cs
  obtain ⟨c0, c1, rfl⟩ := list2T (hsz.trans k0)
  obtain ⟨fuel, hf⟩ := h
  obtain ⟨ys, n, _, _, _, hyl, hg⟩ := DataW.trod_struct Tryz.underlying54 hf
  obtain ⟨y0, y1, rfl⟩ := list2T hyl
  have g0 : DataW.trod enc Tryz.prog W 0 (fun _ => true) true n 51 (([c0, c1].drop 0).take (Tryz.prog.cellsOf 51)) = some y0 := hg 0 _ rfl
  have g1 : DataW.trod enc Tryz.prog W 0 (fun _ => true) true n 52 (([c0, c1].drop 1).take (Tryz.prog.cellsOf 52)) = some y1 := hg 1 _ rfl
  simp only [k5, k6, List.drop_zero, List.drop_succ_cons, List.take_succ_cons, List.take_zero] at g0 g1
  obtain ⟨z0, q0, _, w0⟩ := DataW.trod_int Tryz.underlying51 g0
  obtain ⟨z1, q1, _, w1⟩ := DataW.trod_int Tryz.underlying52 g1
  simp only [List.cons.injEq, and_true] at q0 q1
  subst q0 q1
  have b0 := bounds_u16 w0
  have b1 := fits_u32 w1
  obtain ⟨x, rfl⟩ := Int.eq_ofNat_of_zero_le (show 0 ≤ z0 by omega)
  obtain ⟨y, rfl⟩ := Int.eq_ofNat_of_zero_le b1.1
  exact ⟨x, y, rfl, by omega, by omega⟩

set_option maxRecDepth 100000 in
theorem contract (H : Type) (enc : TypeId × Value → H) (W : World) (base : Nat) (args : Array Value) (ds gs : List (DataW H)) (before : List MemPlace)
    (hval : ∀ (j : Nat) t v, Tryz.f4.params[j]? = some t → args[j]? = some v → Value.okWide Tryz.prog W .any base t v)
    (hW : DataW.Whole enc Tryz.prog Tryz.f4.params.toList Rows.modelsTurnedSpec.vars false W args.toList ds gs before)
    (hsz : (DataW.weightsEach Tryz.prog (Tryz.f4.params.toList ++ (OpenSpec.ofChange Rows.modelsTurnedSpec).bare.plain.varTypes Tryz.prog) (ds ++ gs)).all (· ≤ reachBytes) = true) (hv : LaidV W) :
    Calls Tryz.prog 4 args W fun e W' => ∃ v, e = .returned v ∧ Rows.modelsTurnedSpec.post enc Tryz.prog Tryz.f4 false true false false W args v W' := by
  have hW' := hW
  obtain ⟨p, q, hA0, hV, rfl, hfz, hnd⟩ := hW
  have hA : DataW.TrodAll enc Tryz.prog W 0 (fun _ => true) true Tryz.f4.params.toList args.toList ds p := hA0
  rw [Tryz.params4] at hA hval hsz
  obtain ⟨v0, vs0, d0, ds0, p0, q0, hargs, rfl, rfl, h0, r0⟩ := trodAll_cons hA
  obtain ⟨v1, vs1, d1, ds1, p1, q1, rfl, rfl, rfl, h1, r1⟩ := trodAll_cons r0
  obtain ⟨v2, vs2, d2, ds2, p2, q2, rfl, rfl, rfl, h2, r2⟩ := trodAll_cons r1
  obtain ⟨rfl, rfl, rfl⟩ := trodAll_nil r2
  obtain rfl : args = #[v0, v1, v2] := by cases args; simp_all
  obtain ⟨rfl, rfl⟩ := trodVars_none hV
  obtain ⟨g0, g0r⟩ := reach_cons hsz
  obtain ⟨g1, g1r⟩ := reach_cons g0r
  obtain ⟨g2, g2r⟩ := reach_cons g1r
  have k0 := h0
  have lt0 : ∀ x ∈ p0, x.block < W.heap.size := by obtain ⟨m, hm⟩ := k0; exact DataW.trod_lt m _ _ _ hm
  obtain ⟨a0, b0, len0, cap0, mm0, kk0, z0, ts0, rfl, r0_, c0, w0_, l0, l0_⟩ := model_read (hval 0 27 v0 rfl rfl) h0 g0
  have k1 := h1
  have lt1 : ∀ x ∈ p1, x.block < W.heap.size := by obtain ⟨m, hm⟩ := k1; exact DataW.trod_lt m _ _ _ hm
  obtain ⟨a1, len1, cap1, rfl⟩ := okWide_slice Tryz.underlying30 (hval 1 30 v1 rfl rfl)
  have m1 := okWide_cap Tryz.underlying30 (hval 1 30 _ rfl rfl)
  have l1 := len_reach (k := 1) Tryz.underlying30 (by kernel_rfl) h1 g1
  obtain ⟨z1, r1_, c1, f1⟩ := row_read Tryz.underlying30 Tryz.underlying5 (by kernel_rfl) h1
  have k2 := h2
  have lt2 : ∀ x ∈ p2, x.block < W.heap.size := by obtain ⟨m, hm⟩ := k2; exact DataW.trod_lt m _ _ _ hm
  obtain ⟨x2, y2, rfl, u2, w2⟩ := turn_read (hval 2 54 v2 rfl rfl) h2
  clear hA0
  refine (modelsTurned_any a0 b0 a1 len0 cap0 mm0 kk0 len1 cap1 z0 ts0 z1 x2 y2 W r0_ c0 (by omega) w0_ (by omega) r1_ (fun z hz => fits_u8 (f1 z hz)) c1 m1 u2 w2 hv).mono fun e W' ⟨he, bel⟩ => ?_
  subst he
  exact ⟨_, rfl, _, _, _, [], _, [], hW', trodAll_mk1 (shut_bool Tryz.underlying4 _), (trodAll_cons_mk (Below.trod laidOut (by kernel_rfl) (of_decide_eq_true (by kernel_rfl)) k0 bel lt0) (trodAll_cons_mk (Below.trod laidOut (by kernel_rfl) (of_decide_eq_true (by kernel_rfl)) k1 bel lt1) (trodAll_cons_mk (Below.trod laidOut (by kernel_rfl) (of_decide_eq_true (by kernel_rfl)) k2 bel lt2) trodAll_mk0))), rfl, bel.frame _, fun h => by cases h⟩

set_option maxRecDepth 100000 in
theorem lifted (os : Os) (started : os.Started) (H : Type) (enc : TypeId × Value → H) (F : Stop.Interp) :
    ReturnsInHanded {} Tryz.checked os 4 .any ((OpenSpec.ofChange Rows.modelsTurnedSpec).preRow enc Tryz.prog Tryz.f4 Rows.modelsTurnedRow.domain false Rows.modelsTurnedRow.laid) (((OpenSpec.ofChange Rows.modelsTurnedSpec).at F).post enc Tryz.prog Tryz.f4 false true false false) := by
  obtain ⟨places, hx⟩ := reads os enc
  have hok : Input.okWideB Tryz.checked.prog ((laidWorld os).forCall (fun _ _ => 0) ⟨#[], #[.agg #[.slice none 0 0, .slice none 0 0], .slice none 0 0, .agg #[.int .u16 0, .int .u32 0]], []⟩) 4 ⟨#[], #[.agg #[.slice none 0 0, .slice none 0 0], .slice none 0 0, .agg #[.int .u16 0, .int .u32 0]], []⟩ = true := by kernel_rfl
  refine returnsInHanded_of_row (C := Tryz.checked) (s := OpenSpec.ofChange Rows.modelsTurnedSpec) own started (by kernel_rfl) Tryz.func4
    ⟨laidWorld os, fun _ _ => 0, ⟨#[], #[.agg #[.slice none 0 0, .slice none 0 0], .slice none 0 0, .agg #[.int .u16 0, .int .u32 0]], []⟩, World.laidAll_os _ _ _, World.shaped_of_ZipB (by kernel_rfl) (by kernel_rfl), (Input.okWide_of_okWideB (base := 0) hok).1, (Input.okWide_of_okWideB hok).2,
      OpenSpec.preRow_of_cond 8 hx (by kernel_rfl) (fun k hk => by cases hk) (by kernel_rfl) (laid_met os _), by
        simp only [Assume.holds]
        exact ⟨by simp, by simp, fun _ => Modest.zero, by simp, by simp⟩⟩ ?_
  intro W base args ds gs before hval hW _ _ hsz hL hS _
  exact contract H enc W base args ds gs before hval hW hsz (laidv_of hL hS)

end Go.Proofs.YtohndckbhjakfaaGreatDoor.modelsTurned
