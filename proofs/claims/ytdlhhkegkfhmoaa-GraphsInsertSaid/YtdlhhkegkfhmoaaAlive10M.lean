/- alive of the statements on graphs: it is true. -/
import Derived.Test.YtdlhhkegkfhmoaaHelp11M
import Derived.Test.YtdlhhkegkfhmoaaWi12M
namespace Go.Proofs.Ytdlhhkegkfhmoaa
open Go.RowKit
set_option linter.unusedVariables false
set_option linter.unusedSimpArgs false
set_option maxRecDepth 100000

theorem kn_alive (q : Nat) : gphE (knN q) = 0 ∧ gphS (knN q) = [[2, 3], [3, 2], [2, 2], [2, 2]] ∧ gphB (knN q) = true ∧ wtF 0 (knN q) = [1] ∧ inIx (knN q) = 0 ∧ gphB ((knN q).take 2) = false := ⟨by kernel_rfl, by kernel_rfl, by kernel_rfl, by kernel_rfl, by kernel_rfl, by kernel_rfl⟩

theorem kn_alive2 (q : Nat) (a b : Option Addr) : gphB (knN q ++ [⟨7, a, 2, 2, none, 0, 0, 0, 0, [1, 2], []⟩]) = true ∧ gphB (knN q ++ [⟨13, b, 1, 1, none, 0, 0, 2, 0, [3], []⟩]) = false := ⟨by kernel_rfl, by kernel_rfl⟩

theorem none_alive : gphB [] = false ∧ inIx [] = -1 := ⟨by kernel_rfl, by kernel_rfl⟩

theorem NsIn.pre {w : World} {A : Option Addr} {n k : Nat} {ns : List Nd} (h : NsIn w A n ns) (hk : k ≤ n) : NsIn w A k (ns.take k) :=
  ⟨by rw [List.length_take, h.1]; omega, fun h1 => by
    obtain ⟨b, o, e, hb, hx⟩ := h.2 (by omega)
    refine ⟨b, o, e, hb, fun j x hj => hx j x ?_⟩
    rw [List.getElem?_take] at hj
    split at hj
    · exact hj
    · cases hj⟩

/-- A literal of lists of numbers. -/
theorem grid_lit {w u : World} {a b c d : Nat} {xs ys zs us : List Int} {t : TypeId} (hu : u.heap[w.heap.size]? = some (.cells #[.slice (some ⟨a, 0, none⟩) 2 2, .slice (some ⟨b, 0, none⟩) 2 2, .slice (some ⟨c, 0, none⟩) 2 2, .slice (some ⟨d, 0, none⟩) 2 2] t (0, 0)))
    (h1 : Lies u (some ⟨a, 0, none⟩) 2 (xs.map (Value.int .i64))) (h2 : Lies u (some ⟨b, 0, none⟩) 2 (ys.map (Value.int .i64))) (h3 : Lies u (some ⟨c, 0, none⟩) 2 (zs.map (Value.int .i64))) (h4 : Lies u (some ⟨d, 0, none⟩) 2 (us.map (Value.int .i64))) :
    SgAt u (some ⟨w.heap.size, 0, none⟩) 4 [⟨some ⟨a, 0, none⟩, 2, 2, xs⟩, ⟨some ⟨b, 0, none⟩, 2, 2, ys⟩, ⟨some ⟨c, 0, none⟩, 2, 2, zs⟩, ⟨some ⟨d, 0, none⟩, 2, 2, us⟩] :=
  ⟨rfl, fun _ => ⟨w.heap.size, 0, rfl, lt_of_heap hu, fun j g hj => by
    rw [Nat.zero_add, cell_of_row _ _ j _ _ (0, 0) hu]
    match j, hj with
    | 0, hj => cases hj; rfl
    | 1, hj => cases hj; rfl
    | 2, hj => cases hj; rfl
    | 3, hj => cases hj; rfl
    | j + 4, hj => simp at hj⟩, fun g hg => by
    simp only [List.mem_cons, List.not_mem_nil, or_false] at hg
    rcases hg with rfl | rfl | rfl | rfl
    · exact ⟨h1, Nat.le_refl _, (show (2 : Nat) ≤ 4 by omega)⟩
    · exact ⟨h2, Nat.le_refl _, (show (2 : Nat) ≤ 4 by omega)⟩
    · exact ⟨h3, Nat.le_refl _, (show (2 : Nat) ≤ 4 by omega)⟩
    · exact ⟨h4, Nat.le_refl _, (show (2 : Nat) ≤ 4 by omega)⟩⟩

set_option maxHeartbeats 16000000 in
theorem alive10_any (w : World) : Calls Try.prog 8 #[] w fun e w' => e = .returned (.bool true) ∧ Below w.heap.size w w' := by
  obtain ⟨q, hq⟩ : ∃ q, q = w.heap.size := ⟨_, rfl⟩
  obtain ⟨a1, a2, a3, a4, a5, a6⟩ := kn_alive q
  have HK := hide (known_any w)
  rw [← hq] at HK
  have HA := hide a1
  have HA2 := hide a2
  have HA3 := hide a3
  have HA4 := hide a4
  have HA5 := hide a5
  have HA6 := hide a6
  clear a1 a2 a3 a4 a5 a6
  have HQ := hide hq
  clear hq
  go_enter Try.func8, Try.ntmps8
  go_wp2_with fail
  refine Calls.mono HK.out ?_
  rintro e w1 ⟨rfl, hn, hb⟩
  rw [HQ.out] at hb
  obtain ⟨p, hp⟩ : ∃ p, p = w1.heap.size := ⟨_, rfl⟩
  obtain ⟨V, hV⟩ : ∃ V, V = w1.alloc (.cells #[.slice (some ⟨q + 5, 0, none⟩) 4 4] 24) := ⟨_, rfl⟩
  have hbx : BoxG V p (.slice (some ⟨q + 5, 0, none⟩) 4 4) := by rw [hV, hp]; exact BoxG.new w1 _
  have hbv : Below w1.heap.size w1 V := by rw [hV]; exact below_al6 (Below.refl _ _)
  have HX := hide hbx
  have HN := hide (hn.below hbv)
  have HB := hide (hb.trans (hbv.mono hb.size))
  have hV' := hV.symm
  have hp' := hp.symm
  clear hV hp hbx hbv hn hb HK
  have cx := HX.out.c0
  go_wp2_with fail
  refine Calls.mono (gshapes_any (some ⟨q + 5, 0, none⟩) 4 4 (knN q) V HN.out (by omega) (by omega)) ?_
  rintro e v1 ⟨R, m, kc, gs, he, hG, hgs, hb⟩
  have hz : Below V.heap.size V v1 := hb
  replace HX := hide (HX.out.kept hz)
  replace HN := hide (HN.out.below hz)
  replace HB := hide (HB.out.trans (hz.mono HB.out.size))
  rw [HA.out] at he
  subst he
  have HG := hide hG
  have HS := hide (hgs.trans HA2.out)
  have HGN : Hid (m = 4) := hide (by have h := congrArg List.length HS.out; rw [List.length_map, hG.1] at h; exact h)
  clear hb hG hgs
  clear hz cx
  have cx := HX.out.c0
  go_wp2_with fail
  refine Calls.mono (gcheck_any (some ⟨q + 5, 0, none⟩) 4 4 (knN q) v1 HN.out (by omega) (by omega)) ?_
  rintro e v2 ⟨he, hb⟩
  have hz : Below v1.heap.size v1 v2 := hb
  replace HX := hide (HX.out.kept hz)
  replace HN := hide (HN.out.below hz)
  replace HB := hide (HB.out.trans (hz.mono HB.out.size))
  rw [HA3.out] at he
  subst he
  replace HG := hide (HG.out.below hz)
  clear hb
  clear hz cx
  obtain ⟨y1, hy1⟩ : ∃ u, u = v2.alloc (.cells #[.int .i64 2, .int .i64 3] 3) := ⟨_, rfl⟩
  obtain ⟨y2, hy2⟩ : ∃ u, u = y1.alloc (.cells #[.int .i64 3, .int .i64 2] 3) := ⟨_, rfl⟩
  obtain ⟨y3, hy3⟩ : ∃ u, u = y2.alloc (.cells #[.int .i64 2, .int .i64 2] 3) := ⟨_, rfl⟩
  obtain ⟨y4, hy4⟩ : ∃ u, u = y3.alloc (.cells #[.int .i64 2, .int .i64 2] 3) := ⟨_, rfl⟩
  have s1 : y1.heap.size = v2.heap.size + 1 := by rw [hy1]; simp
  have s2 : y2.heap.size = v2.heap.size + 1 + 1 := by rw [hy2]; simp [s1]
  have s3 : y3.heap.size = v2.heap.size + 1 + 1 + 1 := by rw [hy3]; simp [s2]
  have s4 : y4.heap.size = v2.heap.size + 1 + 1 + 1 + 1 := by rw [hy4]; simp [s3]
  obtain ⟨y5, hy5⟩ : ∃ u, u = y4.alloc (.cells #[.slice (some ⟨v2.heap.size, 0, none⟩) 2 2, .slice (some ⟨v2.heap.size + 1, 0, none⟩) 2 2, .slice (some ⟨v2.heap.size + 1 + 1, 0, none⟩) 2 2, .slice (some ⟨v2.heap.size + 1 + 1 + 1, 0, none⟩) 2 2] 33) := ⟨_, rfl⟩
  have b1 : Below v2.heap.size v2 y1 := by rw [hy1]; exact below_al6 (Below.refl _ _)
  have b2 : Below y1.heap.size y1 y2 := by rw [hy2]; exact below_al6 (Below.refl _ _)
  have b3 : Below y2.heap.size y2 y3 := by rw [hy3]; exact below_al6 (Below.refl _ _)
  have b4 : Below y3.heap.size y3 y4 := by rw [hy4]; exact below_al6 (Below.refl _ _)
  have b5 : Below y4.heap.size y4 y5 := by rw [hy5]; exact below_al6 (Below.refl _ _)
  have l1 : Lies y1 (some ⟨v2.heap.size, 0, none⟩) 2 (([2, 3] : List Int).map (Value.int .i64)) := by rw [hy1]; exact lit_lies v2 .i64 [2, 3] 3
  have l2 : Lies y2 (some ⟨v2.heap.size + 1, 0, none⟩) 2 (([3, 2] : List Int).map (Value.int .i64)) := by rw [hy2, ← s1]; exact lit_lies y1 .i64 [3, 2] 3
  have l3 : Lies y3 (some ⟨v2.heap.size + 1 + 1, 0, none⟩) 2 (([2, 2] : List Int).map (Value.int .i64)) := by rw [hy3, ← s2]; exact lit_lies y2 .i64 [2, 2] 3
  have l4 : Lies y4 (some ⟨v2.heap.size + 1 + 1 + 1, 0, none⟩) 2 (([2, 2] : List Int).map (Value.int .i64)) := by rw [hy4, ← s3]; exact lit_lies y3 .i64 [2, 2] 3
  have e5 : y5.heap[y4.heap.size]? = some (.cells #[.slice (some ⟨v2.heap.size, 0, none⟩) 2 2, .slice (some ⟨v2.heap.size + 1, 0, none⟩) 2 2, .slice (some ⟨v2.heap.size + 1 + 1, 0, none⟩) 2 2, .slice (some ⟨v2.heap.size + 1 + 1 + 1, 0, none⟩) 2 2] 33 (0, 0)) := by rw [hy5]; exact heap_alloc_new y4 _
  have hgl := grid_lit e5 ((((l1.below b2).below b3).below b4).below b5) (((l2.below b3).below b4).below b5) ((l3.below b4).below b5) (l4.below b5)
  rw [s4] at hgl
  have HGL := hide hgl
  have hyb : Below v2.heap.size v2 y5 := below_nx6 (below_nx6 (below_nx6 (below_nx6 b1 b2) b3) b4) b5
  have HGY := hide (HG.out.below hyb)
  rw [hy4, hy3, hy2, hy1] at hy5
  have hy5' := hy5.symm
  have HYB := hide hyb
  clear l1 l2 l3 l4 e5 hgl s1 s2 s3 s4 b1 b2 b3 b4 b5 hy1 hy2 hy3 hy4 hy5 hyb
  have cx := HX.out.c0
  go_wp2_with fail
  refine Calls.mono (sameGrids_any R (some ⟨v2.heap.size + 1 + 1 + 1 + 1, 0, none⟩) m kc 4 4 gs _ y5 HGY.out.sg HGL.out (by have := HGN.out; omega) (by omega)) ?_
  rintro e v3 ⟨he, hb⟩
  have hz : Below v2.heap.size v2 v3 := below_nx6 HYB.out hb
  replace HX := hide (HX.out.kept hz)
  replace HN := hide (HN.out.below hz)
  replace HB := hide (HB.out.trans (hz.mono HB.out.size))
  rw [HS.out] at he
  replace he := he.trans (congrArg (fun b => Ending.returned (Value.bool b)) (decide_eq_true rfl))
  subst he
  clear hb hy5' HYB HGY HGL HG
  clear hz cx
  have cx := HX.out.c0
  go_wp2_with fail
  refine Calls.mono (weights_any (some ⟨q + 5, 0, none⟩) 4 4 (knN q) v3 HN.out (by omega)) ?_
  rintro e v4 ⟨A4, k4, c4, rfl, ho, hb⟩
  have hz : Below v3.heap.size v3 v4 := hb
  replace HX := hide (HX.out.kept hz)
  replace HN := hide (HN.out.below hz)
  replace HB := hide (HB.out.trans (hz.mono HB.out.size))
  rw [HA4.out] at ho
  have HO4 : Hid (Lies v4 A4 k4 (([1] : List Int).map (Value.int .i64)) ∧ k4 = 1) := hide ⟨lies_of_own ho, by have h := ho.1; simpa using h.symm⟩
  clear hb ho
  clear hz cx
  have hlt : Below v4.heap.size v4 (v4.alloc (.cells #[.int .i64 1] 3)) := below_al6 (Below.refl _ _)
  have HLT := hide hlt
  have HLL := hide (lit_lies v4 .i64 [1] 3)
  clear hlt
  have cx := HX.out.c0
  go_wp2_with fail
  refine Calls.mono (sameI_any A4 (some ⟨v4.heap.size, 0, none⟩) k4 c4 1 1 [1] [1] _ (HO4.out.1.below HLT.out) HLL.out (by have := HO4.out.2; omega)) ?_
  rintro e v5 ⟨he, hb⟩
  have hz : Below v4.heap.size v4 v5 := below_nx6 HLT.out hb
  replace HX := hide (HX.out.kept hz)
  replace HN := hide (HN.out.below hz)
  replace HB := hide (HB.out.trans (hz.mono HB.out.size))
  replace he := he.trans (congrArg (fun b => Ending.returned (Value.bool b)) (decide_eq_true rfl))
  subst he
  clear hb HLT HLL HO4
  clear hz cx
  have cx := HX.out.c0
  go_wp2_with fail
  refine Calls.mono (input_any (some ⟨q + 5, 0, none⟩) 4 4 (knN q) v5 HN.out (by omega)) ?_
  rintro e v6 ⟨he, hb⟩
  have hz : Below v5.heap.size v5 v6 := hb
  replace HX := hide (HX.out.kept hz)
  replace HN := hide (HN.out.below hz)
  replace HB := hide (HB.out.trans (hz.mono HB.out.size))
  rw [HA5.out] at he
  subst he
  clear hb
  clear hz cx
  have cx := HX.out.c0
  go_wp2_with fail
  refine Calls.mono (gcheck_any (some ⟨q + 5, 0, none⟩) 2 4 ((knN q).take 2) v6 (HN.out.pre (by omega)) (by omega) (by omega)) ?_
  rintro e v7 ⟨he, hb⟩
  have hz : Below v6.heap.size v6 v7 := hb
  replace HX := hide (HX.out.kept hz)
  replace HN := hide (HN.out.below hz)
  replace HB := hide (HB.out.trans (hz.mono HB.out.size))
  rw [HA6.out] at he
  subst he
  clear hb
  clear hz cx
  have hlt : Below v7.heap.size v7 (v7.alloc (.cells #[.int .i64 1, .int .i64 2] 3)) := below_al6 (Below.refl _ _)
  have HLT := hide hlt
  have HWC := hide (with_any (some ⟨q + 5, 0, none⟩) 4 4 (knN q) ⟨7, some ⟨v7.heap.size, 0, none⟩, 2, 2, none, 0, 0, 0, 0, [1, 2], []⟩ _ (HN.out.below hlt) (fun h => by cases h) ⟨lit_lies v7 .i64 [1, 2] 3, Lies.nothing, Nat.le_refl _, Nat.le_refl _, by dsimp only; omega, by dsimp only; omega, by dsimp only; omega, by dsimp only; omega, by dsimp only; omega⟩ (by omega))
  unfold Nd.v at HWC
  clear hlt
  have cx := HX.out.c0
  go_wp2_with fail
  refine Calls.mono (HWC.out) ?_
  rintro e v8 ⟨AW, cW, rfl, hnw, hcw, hnl, hb⟩
  have hz : Below v7.heap.size v7 v8 := below_nx6 HLT.out hb
  replace HX := hide (HX.out.kept hz)
  replace HN := hide (HN.out.below hz)
  replace HB := hide (HB.out.trans (hz.mono HB.out.size))
  have HNW := hide hnw
  have HCW := hide hcw
  clear hb hnw hcw hnl HLT HWC
  clear hz cx
  have cx := HX.out.c0
  go_wp2_with fail
  refine Calls.mono (gcheck_any AW 5 cW _ v8 HNW.out (by omega) HCW.out) ?_
  rintro e v9 ⟨he, hb⟩
  have hz : Below v8.heap.size v8 v9 := hb
  replace HX := hide (HX.out.kept hz)
  replace HN := hide (HN.out.below hz)
  replace HB := hide (HB.out.trans (hz.mono HB.out.size))
  rw [(kn_alive2 q _ none).1] at he
  subst he
  clear hb HNW HCW
  clear hz cx
  have hlt : Below v9.heap.size v9 (v9.alloc (.cells #[.int .i64 3] 3)) := below_al6 (Below.refl _ _)
  have HLT := hide hlt
  have HWC := hide (with_any (some ⟨q + 5, 0, none⟩) 4 4 (knN q) ⟨13, some ⟨v9.heap.size, 0, none⟩, 1, 1, none, 0, 0, 2, 0, [3], []⟩ _ (HN.out.below hlt) (fun h => by cases h) ⟨lit_lies v9 .i64 [3] 3, Lies.nothing, Nat.le_refl _, Nat.le_refl _, by dsimp only; omega, by dsimp only; omega, by dsimp only; omega, by dsimp only; omega, by dsimp only; omega⟩ (by omega))
  unfold Nd.v at HWC
  clear hlt
  have cx := HX.out.c0
  go_wp2_with fail
  refine Calls.mono (HWC.out) ?_
  rintro e v10 ⟨AW, cW, rfl, hnw, hcw, hnl, hb⟩
  have hz : Below v9.heap.size v9 v10 := below_nx6 HLT.out hb
  replace HX := hide (HX.out.kept hz)
  replace HN := hide (HN.out.below hz)
  replace HB := hide (HB.out.trans (hz.mono HB.out.size))
  have HNW := hide hnw
  have HCW := hide hcw
  clear hb hnw hcw hnl HLT HWC
  clear hz cx
  have cx := HX.out.c0
  go_wp2_with fail
  refine Calls.mono (gcheck_any AW 5 cW _ v10 HNW.out (by omega) HCW.out) ?_
  rintro e v11 ⟨he, hb⟩
  have hz : Below v10.heap.size v10 v11 := hb
  replace HX := hide (HX.out.kept hz)
  replace HN := hide (HN.out.below hz)
  replace HB := hide (HB.out.trans (hz.mono HB.out.size))
  rw [(kn_alive2 q none _).2] at he
  subst he
  clear hb HNW HCW
  clear hz cx
  have cx := HX.out.c0
  go_wp2_with fail
  refine Calls.mono (gcheck_any none 0 0 [] v11 ⟨rfl, fun h => absurd h (by omega)⟩ (by omega) (by omega)) ?_
  rintro e v12 ⟨he, hb⟩
  have hz : Below v11.heap.size v11 v12 := hb
  replace HX := hide (HX.out.kept hz)
  replace HN := hide (HN.out.below hz)
  replace HB := hide (HB.out.trans (hz.mono HB.out.size))
  rw [none_alive.1] at he
  subst he
  clear hb
  clear hz cx
  have cx := HX.out.c0
  go_wp2_with fail
  refine Calls.mono (input_any none 0 0 [] v12 ⟨rfl, fun h => absurd h (by omega)⟩ (by omega)) ?_
  rintro e v13 ⟨he, hb⟩
  have hz : Below v12.heap.size v12 v13 := hb
  replace HX := hide (HX.out.kept hz)
  replace HN := hide (HN.out.below hz)
  replace HB := hide (HB.out.trans (hz.mono HB.out.size))
  rw [none_alive.2] at he
  subst he
  clear hb
  clear hz cx
  go_wp2
  go_ret
  exact ⟨rfl, HB.out⟩

end Go.Proofs.Ytdlhhkegkfhmoaa
