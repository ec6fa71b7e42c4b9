/- Merged: Ml11, Lw11, Lv11, Frame, Frame6, Frame12. -/
import Derived.Test.YteagmlaahnpkhaaGreatDoorWZ32
import Derived.Test.YteagmlaahnpkhaaGreatDoorWZ24
import Derived.Test.YteagmlaahnpkhaaGreatDoorCards
import Derived.Deep.DeepHandedRow
import Derived.Lay
import Derived.Stop.LaidErr
import Derived.Lib.LaidTab
import Derived.Lib.LaidU8
import Derived.OpenShut
import Derived.Shelf.Vars
import Derived.Test.YteagmlaahnpkhaaGreatDoorWZ00
import Derived.ProofKit
import Derived.ShutString
import Derived.ChangeOld
import Derived.Below
import Derived.SizedLaws
import Derived.Lib.SmallJoins
import Derived.Test.YteagmlaahnpkhaaGreatDoorWZ01
import Derived.Deep.Fields
import Derived.Test.YteagmlaahnpkhaaGreatDoorWZ11
import Derived.Deep.Slices
namespace Go.Proofs.YteagmlaahnpkhaaGreatDoor

section
open Go.RowKit
set_option linter.unusedVariables false
set_option linter.unusedSimpArgs false
set_option maxRecDepth 100000

theorem cat_nl (s : Wd) : ((⟨s.toArray⟩ : ByteArray) ++ (⟨#[10]⟩ : ByteArray)).toList = s ++ [10] := by
  rw [ByteArray.toList_eq, ByteArray.data_append]; simp

theorem gph_ne {ns : List Nd} (h : gphB ns = true) : ns ≠ [] := by
  rintro rfl
  revert h
  decide

theorem parse_text {ns : List Nd} (h : gphB ns = true) : parseR (textB (ns.map Nd.tn)) = .inl (ns.map Nd.tn) := by
  have hf := gph_form h
  have hall : ∀ t ∈ ns.map Nd.tn, FormT t := fun t ht => by
    obtain ⟨x, hx, rfl⟩ := List.mem_map.1 ht
    exact (hf.2 x hx).1
  rw [parseR, lines_text _ hall, goP_lines _ 0 [] hall (by rw [List.length_map]; omega), List.nil_append]

theorem parse_cut {ns : List Nd} (h : gphB ns = true) : parseR ((textB (ns.map Nd.tn)).take ((textB (ns.map Nd.tn)).length - 1)) = .inl (ns.map Nd.tn) := by
  have hf := gph_form h
  have hall : ∀ t ∈ ns.map Nd.tn, FormT t := fun t ht => by
    obtain ⟨x, hx, rfl⟩ := List.mem_map.1 ht
    exact (hf.2 x hx).1
  rw [parseR, lines_cut _ (by simpa using gph_ne h) hall, goP_lines _ 0 [] hall (by rw [List.length_map]; omega), List.nil_append]

theorem gph_back {ns : List Nd} (h : gphB ns = true) (hk : ∀ x ∈ ns, 0 ≤ x.kd) : gphB ((ns.map Nd.tn).map nodeT) = true := by rw [← gph_tn rfl hk]; exact h

theorem text_pos {ns : List Nd} (h : gphB ns = true) : 1 ≤ (textB (ns.map Nd.tn)).length := by
  cases ns with
  | nil => exact absurd rfl (gph_ne h)
  | cons x r => rw [List.map_cons, text_cons, List.length_append, List.length_cons]; omega

theorem NsIn.kd {w : World} {A : Option Addr} {n : Nat} {ns : List Nd} (h : NsIn w A n ns) : ∀ x ∈ ns, 0 ≤ x.kd := by
  intro x hx
  obtain ⟨j, hj, e⟩ := List.getElem_of_mem hx
  have hl := h.1
  obtain ⟨b, o, y, _, hy, _, _, _, _, _, hok⟩ := h.at (k := j) (by omega)
  rw [List.getElem?_eq_getElem hj, e] at hy
  injection hy with hy
  subst hy
  exact hok.2.2.2.2.2.2.1.1

set_option maxHeartbeats 16000000 in
theorem lines_any (A : Option Addr) (n c : Nat) (ns : List Nd) (s : Wd) (w : World) (h : NsIn w A n ns) (hc : n ≤ c) (hn : n ≤ 70368744177664) (hs : s.length ≤ 281474976710656) (hv : LaidV w) :
    Calls Tryz.prog 3 #[.agg #[.slice A n c], strV s] w fun e w' => e = .returned (.bool true) ∧ Below w.heap.size w w' := by
  obtain ⟨W0, hW0⟩ : ∃ W0, W0 = w.alloc (.cells #[.slice A n c] 24) := ⟨_, rfl⟩
  have HB0 : Hid (Below w.heap.size w W0) := hide (by rw [hW0]; exact below_al6 (Below.refl _ _))
  have HX : Hid (BoxG W0 w.heap.size (.slice A n c)) := hide (by rw [hW0]; exact BoxG.new w _)
  have HN := hide (h.below HB0.out)
  have HV := hide (hv.below HB0.out)
  have HL : Hid (ns.length = n) := hide h.1
  have HKD := hide h.kd
  have hz : (⟨s.toArray⟩ : ByteArray).size = s.length := by simp [ByteArray.size]
  have hW0' := hW0.symm
  unfold strV
  clear hW0 h hv
  go_enter Tryz.func3, Tryz.ntmps3
  go_wp2_with fail
  refine Calls.mono (alive11_any _ HV.out) ?_
  rintro e w1 ⟨rfl, hb⟩
  have HBN := hide hb
  clear hb
  have c0 := (HX.out.kept HBN.out).c0
  go_wp2_with fail
  refine Calls.mono (graph_size A n c ns _ (HN.out.below HBN.out) hn) ?_
  rintro e w2 ⟨r, rfl, hr0, hr1, hb⟩
  replace HBN := hide (below_nx6 HBN.out hb)
  clear hb c0
  by_cases hbig : 20000 < r
  · go_wp2_with fail
    refine Calls.mono (alive11_any _ (HV.out.below HBN.out)) ?_
    rintro e w3 ⟨rfl, hb⟩
    replace HBN := hide (below_nx6 HBN.out hb)
    clear hb
    go_wp2
    go_ret
    exact ⟨rfl, below_nx6 HB0.out HBN.out⟩
  by_cases hlong : (100000 : Int) < (s.length : Int)
  · go_wp2_with fail
    refine Calls.mono (alive11_any _ (HV.out.below HBN.out)) ?_
    rintro e w3 ⟨rfl, hb⟩
    replace HBN := hide (below_nx6 HBN.out hb)
    clear hb
    go_wp2
    go_ret
    exact ⟨rfl, below_nx6 HB0.out HBN.out⟩
  have hsz := hr1 (by omega)
  have hn2 : n ≤ 10000 := by have h1 := szN_len ns; rw [HL.out] at h1; omega
  clear hr1 hsz hr0
  have c0 := (HX.out.kept HBN.out).c0
  go_wp2_with fail
  refine Calls.mono (text_any A n c ns _ (HN.out.below HBN.out) (by omega) hc (HV.out.below HBN.out)) ?_
  rintro e w3 ⟨hb, hE⟩
  replace HBN := hide (below_nx6 HBN.out hb)
  clear hb c0 hbig
  have c0 := (HX.out.kept HBN.out).c0
  have HG := hide (fun v (hb : Below W0.heap.size W0 v) => gcheck_any A n c ns v (HN.out.below hb) (by omega) hc)
  rcases hE with ⟨hg, rfl⟩ | ⟨hg, rfl⟩
  · have HP1 := hide (fun v (hb : Below W0.heap.size W0 v) => parse_ok (s := textB (ns.map Nd.tn)) (by have := gph_short hg; omega) (parse_text hg) (gph_back hg HKD.out) (by intro x hx; exact Int.natCast_nonneg _) v (HV.out.below hb))
    have HP2 := hide (fun v (hb : Below W0.heap.size W0 v) => parse_ok (s := (textB (ns.map Nd.tn)).take ((textB (ns.map Nd.tn)).length - 1)) (by have := gph_short hg; rw [List.length_take]; omega) (parse_cut hg) (gph_back hg HKD.out) (by intro x hx; exact Int.natCast_nonneg _) v (HV.out.below hb))
    have hpos := text_pos hg
    have hsho := gph_short hg
    obtain ⟨T, hT⟩ : ∃ T, T = textB (ns.map Nd.tn) := ⟨_, rfl⟩
    rw [← hT] at HP1 HP2 hpos hsho ⊢
    have hzt : (⟨T.toArray⟩ : ByteArray).size = T.length := by simp [ByteArray.size]
    have hcut : (⟨T.toArray⟩ : ByteArray).extract 0 (T.length - 1) = ⟨(T.take (T.length - 1)).toArray⟩ := by
      apply ByteArray.ext
      rw [ByteArray.data_extract]; simp [List.dropLast_eq_take]
    clear hT
    unfold strV at HP1 HP2 ⊢
    go_wp2_with fail
    refine Calls.mono (HG.out _ HBN.out) ?_
    rintro e w4 ⟨rfl, hb⟩
    rw [hg]
    replace HBN := hide (below_nx6 HBN.out hb)
    clear hb c0 HG
    clear hg
    go_wp2_with fail
    refine Calls.mono (HP1.out _ HBN.out) ?_
    rintro e w5 ⟨n1, A1, c1, hn1, hg1, rfl, hi1, hc1, _, hb⟩
    have hl1 : n1.length = n := by rw [← HL.out, ← List.length_map (f := Nd.tn), hn1, List.length_map]
    rw [hl1] at hi1 hc1 ⊢
    obtain ⟨W5, hW5⟩ : ∃ W, w5.alloc (.cells #[.slice A1 n c1] 24) = W := ⟨_, rfl⟩
    have hb5 : Below w5.heap.size w5 W5 := by rw [← hW5]; exact below_al6 (Below.refl _ _)
    have hg5 : W5.heap[w5.heap.size]? = some (.cells #[.slice A1 n c1] 24 (0, 0)) := by rw [← hW5]; exact heap_alloc_new w5 _
    replace HBN := hide (below_nx6 (below_nx6 HBN.out hb) hb5)
    have HI1 := hide (hi1.below hb5)
    have HE1 : Hid (n1.map Nd.tn = ns.map Nd.tn) := hide hn1
    have HG5 := hide hg5
    clear hb hb5 hg5 hn1 hg1 hi1 hc1 hl1 HP1
    have k1 : (0 : Int) ≤ (T.length : Int) - 1 := by omega
    go_wp2_with fail
    refine Calls.mono (HP2.out _ HBN.out) ?_
    rintro e w6 ⟨n2, A2, c2, hn2', hg2, rfl, hi2, hc2, _, hb⟩
    have hl2 : n2.length = n := by rw [← HL.out, ← List.length_map (f := Nd.tn), hn2', List.length_map]
    rw [hl2] at hi2 hc2 ⊢
    obtain ⟨W6, hW6⟩ : ∃ W, w6.alloc (.cells #[.slice A2 n c2] 24) = W := ⟨_, rfl⟩
    have hb6 : Below w6.heap.size w6 W6 := by rw [← hW6]; exact below_al6 (Below.refl _ _)
    have hg6 : W6.heap[w6.heap.size]? = some (.cells #[.slice A2 n c2] 24 (0, 0)) := by rw [← hW6]; exact heap_alloc_new w6 _
    have hb56 := hb.trans (hb6.mono hb.size)
    have HG6 : Hid (∀ v, Below W6.heap.size W6 v → v.cell? ⟨w.heap.size, 0, none⟩ = some (.slice A n c) ∧ v.cell? ⟨w5.heap.size, 0, none⟩ = some (.slice A1 n c1) ∧ v.cell? ⟨w6.heap.size, 0, none⟩ = some (.slice A2 n c2)) := hide (fun v hv => by
      have hb5v : Below W5.heap.size W5 v := hb56.trans (hv.mono hb56.size)
      exact ⟨(HX.out.kept (HBN.out.trans (hb5v.mono HBN.out.size))).c0, cell_of_row v _ 0 _ _ (0, 0) ((hb5v.block _ (lt_of_heap HG5.out)).trans HG5.out), cell_of_row v _ 0 _ _ (0, 0) ((hv.block _ (lt_of_heap hg6)).trans hg6)⟩)
    replace HBN := hide (HBN.out.trans (hb56.mono HBN.out.size))
    have HI1' := hide (HI1.out.below hb56)
    have HI2 := hide (hi2.below hb6)
    have HE2 : Hid (n2.map Nd.tn = ns.map Nd.tn) := hide hn2'
    obtain ⟨q0, q5, q6⟩ := HG6.out _ (Below.refl _ _)
    clear hb hb6 hg6 hb56 hn2' hg2 hi2 hc2 hl2 HP2 HI1 HG5 k1 hcut hzt hpos hsho
    go_wp2_with fail
    refine Calls.mono (sameGraph_true A1 A n c1 c n1 ns _ HI1'.out (HN.out.below HBN.out) (by omega) HE1.out) ?_
    rintro e w7 ⟨rfl, hb⟩
    obtain ⟨q0, q5, q6⟩ := HG6.out _ hb
    have HI2' := hide (HI2.out.below hb)
    replace HBN := hide (below_nx6 HBN.out hb)
    clear hb
    go_wp2_with fail
    refine Calls.mono (sameGraph_true A2 A n c2 c n2 ns _ HI2'.out (HN.out.below HBN.out) (by omega) HE2.out) ?_
    rintro e w7b ⟨rfl, hb⟩
    replace HBN := hide (below_nx6 HBN.out hb)
    clear hb q0 q5 q6 HG6 HI1' HI2 HI2' HE1 HE2
    go_wp2_with fail
    refine Calls.mono (parse_any s _ (HV.out.below HBN.out) (by omega)) ?_
    rintro e w8 ⟨hb, hE⟩
    replace HBN := hide (below_nx6 HBN.out hb)
    rcases hE with ⟨h1, rfl⟩ | ⟨_, k', _, rfl⟩ | ⟨_, ms, _, _, rfl, _⟩ | ⟨h6, ms, A5, c5, hpr, hgb, rfl, hin, hro, _⟩
    iterate 3
      · clear hb
        unfold gr0
        have hb8 : Below w8.heap.size w8 (w8.alloc (.cells #[.slice none 0 0] 24)) := below_al6 (Below.refl _ _)
        have q8 := cell_of_row _ _ 0 _ _ (0, 0) (heap_alloc_new w8 (.cells #[.slice none 0 0] 24))
        replace HBN := hide (below_nx6 HBN.out hb8)
        clear hb8
        go_wp2
        go_ret
        exact ⟨rfl, below_nx6 HB0.out HBN.out⟩
    · obtain ⟨W8, hW8⟩ : ∃ W, w8.alloc (.cells #[.slice A5 ms.length c5] 24) = W := ⟨_, rfl⟩
      have hb8 : Below w8.heap.size w8 W8 := by rw [← hW8]; exact below_al6 (Below.refl _ _)
      have hg8 : W8.heap[w8.heap.size]? = some (.cells #[.slice A5 ms.length c5] 24 (0, 0)) := by rw [← hW8]; exact heap_alloc_new w8 _
      have q8 := cell_of_row W8 _ 0 _ _ (0, 0) hg8
      replace HBN := hide (below_nx6 HBN.out hb8)
      have HM := hide (text_any A5 ms.length c5 ms W8 (hin.below hb8) (by have := (gph_form hgb).1; omega) (ownN_le hro) (HV.out.below HBN.out))
      have HTX := hide (text_of s (ms.map Nd.tn) hpr)
      have HGB := hide hgb
      clear hb hb8 hg8 hpr hgb hin hro
      go_wp2_with fail
      refine Calls.mono HM.out ?_
      rintro e w9 ⟨hb, hE⟩
      replace HBN := hide (below_nx6 HBN.out hb)
      rcases hE with ⟨_, rfl⟩ | ⟨hf, _⟩
      rotate_left
      · rw [HGB.out] at hf; cases hf
      clear hb q8 HM HGB
      rcases HTX.out with e5 | e5
      · rw [e5]
        unfold strV
        clear HTX e5
        go_wp2
        go_ret
        exact ⟨rfl, below_nx6 HB0.out HBN.out⟩
      · rw [e5]
        unfold strV
        clear HTX e5
        have hcat := cat_nl s
        go_wp2
        go_ret
        exact ⟨rfl, below_nx6 HB0.out HBN.out⟩
  · (try dsimp only)
    go_wp2_with fail
    refine Calls.mono (HG.out _ HBN.out) ?_
    rintro e w4 ⟨rfl, hb⟩
    rw [hg]
    replace HBN := hide (below_nx6 HBN.out hb)
    clear hb c0 HG
    clear hg
    go_wp2_with fail
    refine Calls.mono (parse_any s _ (HV.out.below HBN.out) (by omega)) ?_
    rintro e w8 ⟨hb, hE⟩
    replace HBN := hide (below_nx6 HBN.out hb)
    rcases hE with ⟨h1, rfl⟩ | ⟨_, k', _, rfl⟩ | ⟨_, ms, _, _, rfl, _⟩ | ⟨h6, ms, A5, c5, hpr, hgb, rfl, hin, hro, _⟩
    iterate 3
      · clear hb
        unfold gr0
        have hb8 : Below w8.heap.size w8 (w8.alloc (.cells #[.slice none 0 0] 24)) := below_al6 (Below.refl _ _)
        have q8 := cell_of_row _ _ 0 _ _ (0, 0) (heap_alloc_new w8 (.cells #[.slice none 0 0] 24))
        replace HBN := hide (below_nx6 HBN.out hb8)
        clear hb8
        go_wp2
        go_ret
        exact ⟨rfl, below_nx6 HB0.out HBN.out⟩
    · obtain ⟨W8, hW8⟩ : ∃ W, w8.alloc (.cells #[.slice A5 ms.length c5] 24) = W := ⟨_, rfl⟩
      have hb8 : Below w8.heap.size w8 W8 := by rw [← hW8]; exact below_al6 (Below.refl _ _)
      have hg8 : W8.heap[w8.heap.size]? = some (.cells #[.slice A5 ms.length c5] 24 (0, 0)) := by rw [← hW8]; exact heap_alloc_new w8 _
      have q8 := cell_of_row W8 _ 0 _ _ (0, 0) hg8
      replace HBN := hide (below_nx6 HBN.out hb8)
      have HM := hide (text_any A5 ms.length c5 ms W8 (hin.below hb8) (by have := (gph_form hgb).1; omega) (ownN_le hro) (HV.out.below HBN.out))
      have HTX := hide (text_of s (ms.map Nd.tn) hpr)
      have HGB := hide hgb
      clear hb hb8 hg8 hpr hgb hin hro
      go_wp2_with fail
      refine Calls.mono HM.out ?_
      rintro e w9 ⟨hb, hE⟩
      replace HBN := hide (below_nx6 HBN.out hb)
      rcases hE with ⟨_, rfl⟩ | ⟨hf, _⟩
      rotate_left
      · rw [HGB.out] at hf; cases hf
      clear hb q8 HM HGB
      rcases HTX.out with e5 | e5
      · rw [e5]
        unfold strV
        clear HTX e5
        go_wp2
        go_ret
        exact ⟨rfl, below_nx6 HB0.out HBN.out⟩
      · rw [e5]
        unfold strV
        clear HTX e5
        have hcat := cat_nl s
        go_wp2
        go_ret
        exact ⟨rfl, below_nx6 HB0.out HBN.out⟩

end

section
open Go.ChangeShapes Go.WideShapes Go.ChangeAt Go.RowKit
set_option linter.unusedVariables false
set_option maxRecDepth 100000

noncomputable def laidWorld (os : Os) : World := World.laidAll Tryz.prog os Rows.modelsLinesRow.laid

theorem laid_met (os : Os) (args : Array Value) : laidMet Tryz.prog Rows.modelsLinesRow.laid ((laidWorld os).forCall (fun _ _ => 0) ⟨#[], args, []⟩).memory :=
  laidMet_laidAll args (by kernel_rfl) (by kernel_rfl)

end

section
open Go.ChangeShapes Go.WideShapes Go.ChangeAt Go.RowKit
set_option linter.unusedVariables false
set_option maxRecDepth 100000

theorem three16 {w : World} {fuel : Nat} {cs : List Value} {x y z : Int} {p : List MemPlace}
    (h : DataW.trod (fun _ => ()) Tryz.prog w 0 (fun _ => true) false fuel 160 cs = some (.agg [.lit (.int .u16 x), .lit (.int .u16 y), .lit (.int .u16 z)], p)) : cs = [.int .u16 x, .int .u16 y, .int .u16 z] := by
  have hu : Tryz.prog.underlying 160 = some (TypeDesc.struct #[{ name := "Lo", type := 158, offset := 0, embedded := false, tag := "", pkgPath := "", byteOffset := 0 }, { name := "Hi", type := 158, offset := 1, embedded := false, tag := "", pkgPath := "", byteOffset := 2 }, { name := "Stride", type := 158, offset := 2, embedded := false, tag := "", pkgPath := "", byteOffset := 4 }]) := by kernel_rfl
  have h16 : Tryz.prog.underlying 158 = some (.int .u16) := by kernel_rfl
  have c16 : Tryz.prog.cellsOf 158 = 1 := by kernel_rfl
  exact Lib.ints_of_struct (zs := [x, y, z]) hu (fun q f hq => by
    match q, hq with
    | 0, hq => simp at hq; subst hq; exact ⟨h16, rfl, c16⟩
    | 1, hq => simp at hq; subst hq; exact ⟨h16, rfl, c16⟩
    | 2, hq => simp at hq; subst hq; exact ⟨h16, rfl, c16⟩
    | q + 3, hq => simp at hq) (by kernel_rfl) h

def whiteD : List (DataW Unit) := (List.range 7).map fun i => .agg [.lit (.int .u16 ((Lib.whiteT.getD (i * 3) 0 : Nat) : Int)), .lit (.int .u16 ((Lib.whiteT.getD (i * 3 + 1) 0 : Nat) : Int)), .lit (.int .u16 ((Lib.whiteT.getD (i * 3 + 2) 0 : Nat) : Int))]

theorem white_of {w : World} (h : Lib.VarReads Tryz.prog w "unicode.White_Space" Rows.laid_unicode_White_Space) : Lib.WhiteTab 2 w := by
  obtain ⟨g', t, cs, fuel, p, hg, hty, hvar, hd⟩ := h
  obtain rfl := Option.some.inj ((show Tryz.prog.globalNamed "unicode.White_Space" = some 2 by kernel_rfl).symm.trans hg)
  obtain rfl := Option.some.inj ((show (Tryz.prog.globals[2]?).map (·.type) = some 143 by kernel_rfl).symm.trans hty)
  have hdat : (Rows.laid_unicode_White_Space : DataW Unit) = .ptr (.agg [.slice whiteD [], .nil, .lit (.int .i64 2)]) := by kernel_rfl
  rw [hdat] at hd
  have up : Tryz.prog.underlying 143 = some (.pointer 157) := by kernel_rfl
  have us : Tryz.prog.underlying 157 = some (TypeDesc.struct #[{ name := "R16", type := 154, offset := 0, embedded := false, tag := "", pkgPath := "", byteOffset := 0 }, { name := "R32", type := 155, offset := 1, embedded := false, tag := "", pkgPath := "", byteOffset := 24 }, { name := "LatinOffset", type := 3, offset := 2, embedded := false, tag := "", pkgPath := "", byteOffset := 48 }]) := by kernel_rfl
  have u16 : Tryz.prog.underlying 154 = some (.slice 160) := by kernel_rfl
  have u32 : Tryz.prog.underlying 155 = some (.slice 163) := by kernel_rfl
  have ui : Tryz.prog.underlying 3 = some (.int .i64) := by kernel_rfl
  have ct : Tryz.prog.cellsOf 157 = 3 := by kernel_rfl
  have c1 : Tryz.prog.cellsOf 154 = 1 := by kernel_rfl
  have c2 : Tryz.prog.cellsOf 155 = 1 := by kernel_rfl
  have c3 : Tryz.prog.cellsOf 3 = 1 := by kernel_rfl
  have c4 : Tryz.prog.cellsOf 160 = 3 := by kernel_rfl
  rcases DataW.trod_pointer up hd with ⟨_, hx⟩ | ⟨a, cs', y, n, rfl, hcs, hx, hcells, hy⟩
  · cases hx
  have hy1 : y.1 = .agg [.slice whiteD [], .nil, .lit (.int .i64 2)] := by
    have := congrArg Prod.fst hx
    simpa using this.symm
  rw [ct] at hcells
  obtain ⟨_, hl', hc'⟩ := World.cells?_some hcells
  obtain ⟨xs, n', rfl, hxs, _, hxl, hall⟩ := DataW.trod_struct us hy
  have hx3 : xs.map (·.1) = [.slice whiteD [], .nil, .lit (.int .i64 2)] := by
    rw [hxs] at hy1
    simpa using hy1
  obtain ⟨x0, x1, x2, rfl⟩ : ∃ x0 x1 x2, xs = [x0, x1, x2] := by
    match xs, hx3 with
    | [x0, x1, x2], _ => exact ⟨x0, x1, x2, rfl⟩
  simp only [List.map_cons, List.map_nil, List.cons.injEq, and_true] at hx3
  obtain ⟨e0, e1, e2⟩ := hx3
  have f0 := hall 0 _ rfl
  have f1 := hall 1 _ rfl
  have f2 := hall 2 _ rfl
  obtain ⟨y0, y1, y2, rfl⟩ : ∃ y0 y1 y2, cs' = [y0, y1, y2] := by
    match cs', hl' with
    | [y0, y1, y2], _ => exact ⟨y0, y1, y2, rfl⟩
  change DataW.trod _ _ _ _ _ _ _ 154 (([y0, y1, y2].drop 0).take (Tryz.prog.cellsOf 154)) = some x0 at f0
  change DataW.trod _ _ _ _ _ _ _ 155 (([y0, y1, y2].drop 1).take (Tryz.prog.cellsOf 155)) = some x1 at f1
  change DataW.trod _ _ _ _ _ _ _ 3 (([y0, y1, y2].drop 2).take (Tryz.prog.cellsOf 3)) = some x2 at f2
  rw [c1] at f0
  rw [c2] at f1
  rw [c3] at f2
  simp only [List.drop_zero, List.drop_succ_cons, List.take_succ_cons, List.take_zero] at f0 f1 f2
  rcases DataW.trod_slice u16 f0 with ⟨_, hx0⟩ | ⟨b, len, cap, el, rs, m, rfl, hc0, hx0, _, hlc, _, hel, helem, hsp, _⟩
  · rw [hx0] at e0; cases e0
  rw [hx0] at e0
  simp only [DataW.slice.injEq] at e0
  obtain ⟨eE, eR⟩ := e0
  have hlen : len = 7 := by
    have := congrArg List.length eE
    simp [whiteD] at this
    omega
  subst hlen
  have hcap : cap = 7 := by
    have h1 := (hsp rfl).1
    have h2 := congrArg List.length eR
    simp at h2
    subst h2
    simp at h1
    omega
  subst hcap
  rcases DataW.trod_slice u32 f1 with ⟨hc1, _⟩ | ⟨b', _, _, _, _, _, _, _, hx1, _⟩
  rotate_left
  · rw [hx1] at e1; cases e1
  obtain ⟨i2, hc2, hx2, _⟩ := DataW.trod_int ui f2
  rw [hx2] at e2
  simp only [DataW.lit.injEq, Lit.int.injEq, true_and] at e2
  subst e2
  have hrange : ∀ i, i < 7 → ∀ j, j < 3 → w.cell? ((b.add (i * 3)).add j) = some (.int .u16 ((Lib.whiteT.getD (i * 3 + j) 0 : Nat) : Int)) := by
    intro i hi j hj
    have h1 := helem i hi
    rw [c4] at h1
    obtain ⟨bb, hb⟩ : ∃ bb, el[i]? = some bb := ⟨el[i]'(by omega), List.getElem?_eq_getElem (by omega)⟩
    rw [hb] at h1
    obtain ⟨ce, hce, hte⟩ := Option.bind_eq_some_iff.1 h1
    have hb1 : bb.1 = .agg [.lit (.int .u16 ((Lib.whiteT.getD (i * 3) 0 : Nat) : Int)), .lit (.int .u16 ((Lib.whiteT.getD (i * 3 + 1) 0 : Nat) : Int)), .lit (.int .u16 ((Lib.whiteT.getD (i * 3 + 2) 0 : Nat) : Int))] := by
      have := congrArg (·[i]?) eE
      simp only [List.getElem?_map, hb, whiteD, Option.map_some, List.getElem?_range hi, Option.some.injEq] at this
      exact this
    obtain ⟨bb1, bb2⟩ := bb
    simp only at hb1
    subst hb1
    have hcs := three16 hte
    subst hcs
    obtain ⟨_, _, hcc⟩ := World.cells?_some hce
    rw [hcc j hj]
    match j, hj with
    | 0, _ => rfl
    | 1, _ => rfl
    | 2, _ => rfl
  obtain ⟨R, oR, sR⟩ := b
  obtain rfl : sR = none := by
    have h00 := hrange 0 (by omega) 0 (by omega)
    have : (Addr.add (Addr.add ⟨R, oR, sR⟩ (0 * 3)) 0) = ⟨R, oR, sR⟩ := by simp [Addr.add]
    rw [this] at h00
    exact cell_spot h00
  obtain ⟨T, oT, sT⟩ := a
  have k0 := hc' 0 (by omega)
  obtain rfl : sT = none := by
    have : (Addr.add ⟨T, oT, sT⟩ 0) = ⟨T, oT, sT⟩ := by simp [Addr.add]
    rw [this] at k0
    exact cell_spot k0
  have k1 := hc' 1 (by omega)
  have k2 := hc' 2 (by omega)
  rw [Addr.add_lit] at k0 k1 k2
  simp only [List.cons.injEq, and_true] at hc0 hc1 hc2
  subst hc0 hc1 hc2
  refine ⟨T, oT, R, oR, ?_, by simpa using k0, by simpa using k1, by simpa using k2, fun i hi => ?_⟩
  · rw [World.var?_cell hg hvar 0, ← Array.getElem?_toList, hcs]
    rfl
  · have := hrange (i / 3) (by omega) (i % 3) (by omega)
    rw [Addr.add_lit, Addr.add_lit] at this
    have e : i / 3 * 3 + i % 3 = i := by omega
    rw [Nat.add_assoc, e] at this
    exact this

def rowsD : List (DataW Unit) := (List.range 14).map fun k => .lit (.string (rowB k))

theorem rows_of {w : World} (h : Lib.VarReads Tryz.prog w "drydock/models.rows" Rows.laid_drydock_models_rows) : ∀ k, k < 14 → w.cell? ⟨0, k, none⟩ = some (strV (rowB k)) := by
  obtain ⟨g', t, cs, fuel, p, hg, hty, hvar, hd⟩ := h
  obtain rfl := Option.some.inj ((show Tryz.prog.globalNamed "drydock/models.rows" = some 0 by kernel_rfl).symm.trans hg)
  obtain rfl := Option.some.inj ((show (Tryz.prog.globals[0]?).map (·.type) = some 81 by kernel_rfl).symm.trans hty)
  have hdat : (Rows.laid_drydock_models_rows : DataW Unit) = .agg rowsD := by kernel_rfl
  rw [hdat] at hd
  have ua : Tryz.prog.underlying 81 = some (.array 14 9) := by kernel_rfl
  have us : Tryz.prog.underlying 9 = some .string := by kernel_rfl
  have c1 : Tryz.prog.cellsOf 9 = 1 := by kernel_rfl
  obtain ⟨xs, m, rfl, hx, hl, hxl, hall⟩ := DataW.trod_array ua hd
  have hx1 : xs.map (·.1) = rowsD := by
    have := congrArg Prod.fst hx
    simpa using this.symm
  intro k hk
  have h1 := hall k hk
  obtain ⟨b, hb⟩ : ∃ b, xs[k]? = some b := ⟨xs[k]'(by omega), List.getElem?_eq_getElem (by omega)⟩
  rw [hb] at h1
  obtain ⟨s, hs, hxs, _⟩ := DataW.trod_string us h1
  have hb1 : b.1 = .lit (.string (rowB k)) := by
    have := congrArg (·[k]?) hx1
    simp only [List.getElem?_map, hb, rowsD, Option.map_some, List.getElem?_range hk, Option.some.injEq] at this
    exact this
  rw [hxs] at hb1
  simp only [DataW.lit.injEq, Lit.string.injEq] at hb1
  rw [c1] at hs
  have hcell : cs.toList[k]? = some (.string s) := by
    have := congrArg (·[0]?) hs
    simpa using this
  rw [World.var?_cell hg hvar k, ← Array.getElem?_toList, hcell, strV, ← hb1]

theorem laidv_of {w : World} (hL : laidMet Tryz.prog Rows.modelsLinesRow.laid w) (hS : w.ShapedOpen Tryz.prog) : LaidV w := by
  have star : "*" ++ "errors.errorString" = "*errors.errorString" := by decide
  have hE : ∀ u, Tryz.prog.typeName? 3 u = some "*errors.errorString" → u = 208 := fun u h =>
    typeName_ptr_named (nm := "errors.errorString") (by rw [star]; kernel_rfl) (by kernel_rfl) (by decide) u (by rw [star]; exact h)
  have t2 := hL.tail.tail
  have t4 := t2.tail.tail
  have t5 := t4.tail
  have t7 := t5.tail.tail
  refine ⟨?_, ?_, ?_, ?_, ?_, white_of (Lib.laidMet.reads hL (.tail _ (.tail _ (.tail _ (.tail _ (.tail _ (.tail _ (.head _)))))))), rows_of (Lib.laidMet.reads hL (.tail _ (.tail _ (.tail _ (.tail _ (.tail _ (.tail _ (.tail _ (.tail _ (.head _)))))))))), ?_⟩
  · obtain ⟨cs, hh, _⟩ := hS.1 11 #[.pointer none] 143 (by decide +kernel) (by kernel_rfl)
    have := (Array.getElem?_eq_some_iff.1 hh).1
    omega
  · obtain ⟨a, s, hv, _⟩ := laid_sentinel (g := 7) (ti := 54) (ms := #[("Error", 60)]) (tp := 208) (te := 210) (ts := 9) (f := { name := "s", type := 9, offset := 0, embedded := false, tag := "", pkgPath := "errors", byteOffset := 0 }) t5 (by kernel_rfl) (by kernel_rfl) (by kernel_rfl) hE (by kernel_rfl) (by kernel_rfl) rfl rfl (by kernel_rfl) (by kernel_rfl) (by kernel_rfl)
    exact ⟨_, _, hv⟩
  · obtain ⟨a, s, hv, _⟩ := laid_sentinel (g := 8) (ti := 54) (ms := #[("Error", 60)]) (tp := 208) (te := 210) (ts := 9) (f := { name := "s", type := 9, offset := 0, embedded := false, tag := "", pkgPath := "errors", byteOffset := 0 }) t4 (by kernel_rfl) (by kernel_rfl) (by kernel_rfl) hE (by kernel_rfl) (by kernel_rfl) rfl rfl (by kernel_rfl) (by kernel_rfl) (by kernel_rfl)
    exact ⟨_, _, hv⟩
  · exact Lib.tabIs_of_head (g := 4) (t := 185) (e := 176) (n := 20) (by kernel_rfl) (by kernel_rfl) (by kernel_rfl) (by kernel_rfl) (by kernel_rfl) (by kernel_rfl) t2
  · exact Lib.tabIs_of_head (g := 1) (t := 120) (e := 5) (n := 256) (by kernel_rfl) (by kernel_rfl) (by kernel_rfl) (by kernel_rfl) (by kernel_rfl) (by kernel_rfl) t7
  · exact cell_of_shapedOpen_int (t := 3) (zero := #[.int .i64 0]) hS (by decide +kernel) (by kernel_rfl) rfl (by kernel_rfl) (by kernel_rfl) (by kernel_rfl)

end

section
open Go.ChangeShapes Go.WideShapes Go.ChangeAt Go.RowKit

theorem row_read {H : Type} {enc : TypeId × Value → H} {P : Program} {W : World} {t e : TypeId} {k : IntKind} {a : Option Addr} {len cap : Nat} {d : DataW H} {ps : List MemPlace}
    (ht : P.underlying t = some (.slice e)) (he : P.underlying e = some (.int k)) (hc : P.cellsOf e = 1) (h : DataW.Trod enc P W 0 (fun _ => true) true t (.slice a len cap) d ps) :
    ∃ zs : List Int, Lies W a len (zs.map (Value.int k)) ∧ len ≤ cap ∧ ∀ z ∈ zs, (Lit.int k z).wf = true := by
  obtain ⟨fuel, hf⟩ := h
  rcases open_ints ht he hc hf with ⟨hcs, _⟩ | ⟨x, l, c, zs, hcs, _, hl, hm, hz, _, hcell, hwz⟩
  · simp [Value.cells] at hcs
    obtain ⟨rfl, rfl, rfl⟩ := hcs
    exact ⟨[], Lies.nothing, Nat.le_refl _, by simp⟩
  · simp [Value.cells] at hcs
    obtain ⟨rfl, rfl, rfl⟩ := hcs
    have hzl : zs.length = cap := by simpa using hz
    refine ⟨zs.take len, ⟨by simp; omega, fun hn => ?_⟩, hl, fun z hz => hwz z (List.mem_of_mem_take hz)⟩
    obtain ⟨b, o, rfl, hx⟩ := ints_at hcell (by omega)
    refine ⟨b, o, rfl, ?_, fun j hj => ?_⟩
    · exact World.block_lt_of_cell? W _ (hx 0 (by omega))
    · rw [hx j (by omega), List.getElem?_map, List.getElem?_take, if_pos hj, List.getElem?_eq_getElem (by omega)]
      simp [List.getD, show j < zs.length by omega]

theorem row_nil {H : Type} {enc : TypeId × Value → H} {P : Program} {W : World} {t e : TypeId} {k : IntKind} {a : Option Addr} {len cap : Nat} {d : DataW H} {ps : List MemPlace}
    (ht : P.underlying t = some (.slice e)) (he : P.underlying e = some (.int k)) (hc : P.cellsOf e = 1) (h : DataW.Trod enc P W 0 (fun _ => true) true t (.slice a len cap) d ps) : a = none → cap = 0 := by
  intro ha
  subst ha
  obtain ⟨fuel, hf⟩ := h
  rcases open_ints ht he hc hf with ⟨hcs, _⟩ | ⟨x, l, c, zs, hcs, _⟩
  · simp [Value.cells] at hcs
    exact hcs.2
  · simp [Value.cells] at hcs

theorem fits_u8 {n : Int} (h : (Lit.int .u8 n).wf = true) : 0 ≤ n ∧ n < 256 := by have := bounds_u8 h; omega

theorem fits_u32 {n : Int} (h : (Lit.int .u32 n).wf = true) : 0 ≤ n ∧ n < 4294967296 := by have := bounds_u32 h; omega

theorem fits_i32 {n : Int} (h : (Lit.int .i32 n).wf = true) : -2147483648 ≤ n ∧ n < 2147483648 := by have := bounds_i32 h; omega

/-- The form's own reach, of a slice that was read. -/
theorem len_reach {H : Type} {enc : TypeId × Value → H} {P : Program} {W : World} {t e : TypeId} {a : Option Addr} {len cap k : Nat} {d : DataW H} {ps : List MemPlace}
    (ht : P.underlying t = some (.slice e)) (hk : P.bytesOf e = k) (h : DataW.Trod enc P W 0 (fun _ => true) true t (.slice a len cap) d ps) (hw : (DataW.weights P t d).all (· ≤ reachBytes) = true) : len * k ≤ 140737488351232 := by
  have hl := Go.Joins.sliceLen_Trod ht h
  cases d with
  | slice el sp =>
    simp only [DataW.weights, ht, List.all_cons, Bool.and_eq_true, hk, reachBytes] at hw
    have hl' : el.length = len := hl
    have h1 : (el.length + sp.length) * k ≤ 140737488351232 := of_decide_eq_true hw.1
    rw [hl', Nat.add_mul] at h1
    exact Nat.le_trans (Nat.le_add_right _ _) h1
  | _ =>
    have h0 : 0 = len := hl
    rw [← h0, Nat.zero_mul]
    omega

theorem reach_cons {H : Type} {P : Program} {t : TypeId} {ts : List TypeId} {d : DataW H} {ds : List (DataW H)} (h : (DataW.weightsEach P (t :: ts) (d :: ds)).all (· ≤ reachBytes) = true) :
    (DataW.weights P t d).all (· ≤ reachBytes) = true ∧ (DataW.weightsEach P ts ds).all (· ≤ reachBytes) = true := by
  simpa only [DataW.weightsEach, List.all_append, Bool.and_eq_true] using h

theorem reach_array2 {H : Type} {P : Program} {t e : TypeId} {n : Nat} {d0 d1 : DataW H} (ht : P.underlying t = some (.array n e)) (h : (DataW.weights P t (.agg [d0, d1])).all (· ≤ reachBytes) = true) :
    (DataW.weights P e d0).all (· ≤ reachBytes) = true ∧ (DataW.weights P e d1).all (· ≤ reachBytes) = true := by
  simpa only [DataW.weights, ht, DataW.weightsAll, List.all_append, Bool.and_eq_true, List.append_nil] using h

/-- An array of two slices, by value, opened. -/
theorem array2_read {H : Type} {enc : TypeId × Value → H} {P : Program} {W : World} {r : Reach} {base : Nat} {t e q : TypeId} {v : Value} {d : DataW H} {ps : List MemPlace}
    (ht : P.underlying t = some (.array 2 e)) (he : P.underlying e = some (.slice q)) (hc : P.cellsOf t = 2) (hc1 : P.cellsOf e = 1) (hv : Value.okWide P W r base t v) (h : DataW.Trod enc P W 0 (fun _ => true) true t v d ps) :
    ∃ (a0 a1 : Option Addr) (l0 c0 l1 c1 : Nat) (d0 d1 : DataW H) (p0 p1 : List MemPlace), v = .agg #[.slice a0 l0 c0, .slice a1 l1 c1] ∧ d = .agg [d0, d1] ∧ ps = p0 ++ p1 ∧
      DataW.Trod enc P W 0 (fun _ => true) true e (.slice a0 l0 c0) d0 p0 ∧ DataW.Trod enc P W 0 (fun _ => true) true e (.slice a1 l1 c1) d1 p1 := by
  obtain ⟨cs, rfl, hsz⟩ : ∃ cs, v = .agg cs ∧ cs.size = P.cellsOf t := by
    cases v <;> simp_all [Value.okWide]
  obtain ⟨x0, x1, rfl⟩ := Go.Joins.array2 (hsz.trans hc)
  obtain ⟨fuel, hf⟩ := h
  obtain ⟨xs, m, _, hx, _, hl, hel⟩ := DataW.trod_array ht hf
  have e0 := hel 0 (by omega)
  have e1 := hel 1 (by omega)
  rw [hc1] at e0 e1
  match xs, hl with
  | [y0, y1], _ =>
    simp [Value.cells] at e0 e1 hx
    obtain ⟨a0, l0, c0, h0⟩ := Go.Joins.slice_form he e0
    obtain ⟨a1, l1, c1, h1⟩ := Go.Joins.slice_form he e1
    simp only [List.cons.injEq, and_true] at h0 h1
    subst h0
    subst h1
    exact ⟨a0, a1, l0, c0, l1, c1, y0.1, y1.1, y0.2, y1.2, rfl, hx.1, hx.2, ⟨m, by simpa [Value.cells] using e0⟩, ⟨m, by simpa [Value.cells] using e1⟩⟩

end

section
open Go.ChangeShapes Go.WideShapes Go.ChangeAt Go.RowKit
set_option maxRecDepth 100000

theorem list2T {α : Type} {l : List α} (h : l.length = 2) : ∃ a b, l = [a, b] := by
  match l, h with
  | [a, b], _ => exact ⟨a, b, rfl⟩

theorem ten_read {H : Type} {enc : TypeId × Value → H} {W : World} {r : Reach} {base : Nat} {v : Value} {d : DataW H} {ps : List MemPlace} (hv : Value.okWide Tryz.prog W r base 114 v) (h : DataW.Trod enc Tryz.prog W 0 (fun _ => true) true 114 v d ps)
    (hw : (DataW.weights Tryz.prog 114 d).all (· ≤ reachBytes) = true) :
    ∃ (A B : Option Addr) (n c m k : Nat) (s l : List Int), v = tenV A n c B m k ∧ Lies W A n (s.map (Value.int .i64)) ∧ Lies W B m (l.map (Value.int .i32)) ∧ n ≤ c ∧ m ≤ k ∧ (∀ z ∈ s, -9223372036854775808 ≤ z ∧ z < 9223372036854775808) ∧ (∀ z ∈ l, -2147483648 ≤ z ∧ z < 2147483648) ∧ n * 8 ≤ 140737488351232 ∧ m * 4 ≤ 140737488351232 := by
  obtain ⟨cs, rfl, hsz⟩ := okWide_struct Tryz.underlying114 hv
  have k0 : Tryz.prog.cellsOf 114 = 2 := by kernel_rfl
  have k1 : Tryz.prog.cellsOf 50 = 1 := by kernel_rfl
  have k2 : Tryz.prog.cellsOf 112 = 1 := by kernel_rfl
  have k3 : Tryz.prog.cellsOf 3 = 1 := by kernel_rfl
  have k4 : Tryz.prog.cellsOf 21 = 1 := by kernel_rfl
  obtain ⟨l⟩ := cs
  obtain ⟨c0, c1, rfl⟩ := list2T (hsz.trans k0)
  obtain ⟨fuel, hf⟩ := h
  obtain ⟨ys, n, _, hy, _, hyl, hg⟩ := DataW.trod_struct Tryz.underlying114 hf
  obtain ⟨y0, y1, rfl⟩ := list2T hyl
  have g0 : DataW.trod enc Tryz.prog W 0 (fun _ => true) true n 50 (([c0, c1].drop 0).take (Tryz.prog.cellsOf 50)) = some y0 := hg 0 _ rfl
  have g1 : DataW.trod enc Tryz.prog W 0 (fun _ => true) true n 112 (([c0, c1].drop 1).take (Tryz.prog.cellsOf 112)) = some y1 := hg 1 _ rfl
  simp only [k1, k2, List.drop_zero, List.drop_succ_cons, List.take_succ_cons, List.take_zero] at g0 g1
  have hd := congrArg Prod.fst hy
  have hd' : d = .agg [y0.1, y1.1] := hd
  subst hd'
  have hw2 : (DataW.weightsEach Tryz.prog [50, 112] [y0.1, y1.1]).all (· ≤ reachBytes) = true := by
    have e : DataW.weights Tryz.prog 114 (.agg [y0.1, y1.1]) = DataW.weightsEach Tryz.prog [50, 112] [y0.1, y1.1] := by
      rw [DataW.weights, Tryz.underlying114]
      rfl
    rw [← e]
    exact hw
  obtain ⟨q0, q1⟩ := reach_cons hw2
  obtain ⟨q2, _⟩ := reach_cons q1
  obtain ⟨a0, l0, d0, e0⟩ := Go.Joins.slice_form Tryz.underlying50 g0
  obtain ⟨a1, l1, d1, e1⟩ := Go.Joins.slice_form Tryz.underlying112 g1
  simp only [List.cons.injEq, and_true] at e0 e1
  subst e0 e1
  obtain ⟨zs, hl, hc, hfi⟩ := row_read Tryz.underlying50 Tryz.underlying3 k3 ⟨n, g0⟩
  obtain ⟨zs', hl', hc', hfi'⟩ := row_read Tryz.underlying112 Tryz.underlying21 k4 ⟨n, g1⟩
  have hr := len_reach (k := 8) Tryz.underlying50 (by kernel_rfl) ⟨n, g0⟩ q0
  have hr' := len_reach (k := 4) Tryz.underlying112 (by kernel_rfl) ⟨n, g1⟩ q2
  exact ⟨a0, a1, l0, d0, l1, d1, zs, zs', rfl, hl, hl', hc, hc', fun z hz => by have := bounds_i64 (hfi z hz); omega, fun z hz => fits_i32 (hfi' z hz), hr, hr'⟩

end

section
open Go.ChangeShapes Go.WideShapes Go.ChangeAt Go.RowKit
set_option linter.unusedVariables false
set_option linter.unusedSimpArgs false
set_option maxRecDepth 100000

theorem weights_elem10 {H : Type} {P : Program} {e : TypeId} {elems : List (DataW H)} {d : DataW H} (h : (DataW.weightsAll P e elems).all (· ≤ reachBytes) = true) (hd : d ∈ elems) : (DataW.weights P e d).all (· ≤ reachBytes) = true := by
  induction elems with
  | nil => cases hd
  | cons x r ih =>
    simp only [DataW.weightsAll, List.all_append, Bool.and_eq_true] at h
    rcases List.mem_cons.1 hd with rfl | hd
    · exact h.1
    · exact ih h.2 hd

theorem list5N {α : Type} {l : List α} (h : l.length = 5) : ∃ a b c d e, l = [a, b, c, d, e] := by
  match l, h with
  | [a, b, c, d, e], _ => exact ⟨a, b, c, d, e, rfl⟩

theorem list1N {α : Type} {l : List α} (h : l.length = 1) : ∃ a, l = [a] := by
  match l, h with
  | [a], _ => exact ⟨a, rfl⟩

/-- Its lists' numbers are such numbers. -/
def Nd.Fit (x : Nd) : Prop := (∀ z ∈ x.xs, -9223372036854775808 ≤ z ∧ z < 9223372036854775808) ∧ (∀ z ∈ x.sh, -9223372036854775808 ≤ z ∧ z < 9223372036854775808) ∧ (x.I = none → x.ci = 0) ∧ (x.S = none → x.cs = 0)

section
variable {H : Type} {enc : TypeId × Value → H} {W : World}

theorem nodeC10 : Tryz.prog.cellsOf 52 = 5 := by kernel_rfl

theorem node_one10 {A : Addr} {cs : List Value} {fuel : Nat} {y : DataW H × List MemPlace} (hc : W.cells? 0 A 5 = some cs) (h : DataW.trod enc Tryz.prog W 0 (fun _ => true) true fuel 52 cs = some y)
    (hw : (DataW.weights Tryz.prog 52 y.1).all (· ≤ reachBytes) = true) : ∃ x : Nd, x.Ok W ∧ x.Fit ∧ W.cell? (A.add 0) = some (.int .u8 x.kd) ∧ W.cell? (A.add 1) = some (.slice x.I x.ni x.ci) ∧ W.cell? (A.add 2) = some (.slice x.S x.ns x.cs) ∧ W.cell? (A.add 3) = some (.int .i64 x.N) ∧ W.cell? (A.add 4) = some (.int .i64 x.P) := by
  obtain ⟨_, hcl, hat⟩ := World.cells?_some hc
  have k1 : Tryz.prog.cellsOf 50 = 1 := by kernel_rfl
  have k2 : Tryz.prog.cellsOf 49 = 1 := by kernel_rfl
  have k3 : Tryz.prog.cellsOf 3 = 1 := by kernel_rfl
  obtain ⟨ys, n, _, hy, _, hyl, hg⟩ := DataW.trod_struct Tryz.underlying52 h
  obtain ⟨y0, y1, y2, y3, y4, rfl⟩ := list5N hyl
  obtain ⟨c0, c1, c2, c3, c4, rfl⟩ := list5N hcl
  have g0 : DataW.trod enc Tryz.prog W 0 (fun _ => true) true n 49 (([c0, c1, c2, c3, c4].drop 0).take (Tryz.prog.cellsOf 49)) = some y0 := hg 0 _ rfl
  have g1 : DataW.trod enc Tryz.prog W 0 (fun _ => true) true n 50 (([c0, c1, c2, c3, c4].drop 1).take (Tryz.prog.cellsOf 50)) = some y1 := hg 1 _ rfl
  have g2 : DataW.trod enc Tryz.prog W 0 (fun _ => true) true n 50 (([c0, c1, c2, c3, c4].drop 2).take (Tryz.prog.cellsOf 50)) = some y2 := hg 2 _ rfl
  have g3 : DataW.trod enc Tryz.prog W 0 (fun _ => true) true n 3 (([c0, c1, c2, c3, c4].drop 3).take (Tryz.prog.cellsOf 3)) = some y3 := hg 3 _ rfl
  have g4 : DataW.trod enc Tryz.prog W 0 (fun _ => true) true n 3 (([c0, c1, c2, c3, c4].drop 4).take (Tryz.prog.cellsOf 3)) = some y4 := hg 4 _ rfl
  simp only [k1, k2, k3, List.drop_zero, List.drop_succ_cons, List.take_succ_cons, List.take_zero] at g0 g1 g2 g3 g4
  subst hy
  have hw2 : (DataW.weightsEach Tryz.prog [49, 50, 50, 3, 3] [y0.1, y1.1, y2.1, y3.1, y4.1]).all (· ≤ reachBytes) = true := by
    have e : DataW.weights Tryz.prog 52 (.agg [y0.1, y1.1, y2.1, y3.1, y4.1]) = DataW.weightsEach Tryz.prog [49, 50, 50, 3, 3] [y0.1, y1.1, y2.1, y3.1, y4.1] := by
      rw [DataW.weights, Tryz.underlying52]
      rfl
    rw [← e]
    exact hw
  obtain ⟨_, q1⟩ := reach_cons hw2
  obtain ⟨q2, q3⟩ := reach_cons q1
  obtain ⟨q4, _⟩ := reach_cons q3
  obtain ⟨a0, l0, d0, e0⟩ := Go.Joins.slice_form Tryz.underlying50 g1
  obtain ⟨a1, l1, d1, e1⟩ := Go.Joins.slice_form Tryz.underlying50 g2
  obtain ⟨z0, e2, _, w0⟩ := DataW.trod_int Tryz.underlying49 g0
  obtain ⟨z3, e3, _, w3⟩ := DataW.trod_int Tryz.underlying3 g3
  obtain ⟨z4, e4, _, w4⟩ := DataW.trod_int Tryz.underlying3 g4
  simp only [List.cons.injEq, and_true] at e0 e1 e2 e3 e4
  subst e0 e1 e2 e3 e4
  obtain ⟨zs, hl, hcp, hfi⟩ := row_read Tryz.underlying50 Tryz.underlying3 k3 ⟨n, g1⟩
  obtain ⟨zs', hl', hcp', hfi'⟩ := row_read Tryz.underlying50 Tryz.underlying3 k3 ⟨n, g2⟩
  have hr := len_reach (k := 8) Tryz.underlying50 (by kernel_rfl) ⟨n, g1⟩ q2
  have hr' := len_reach (k := 8) Tryz.underlying50 (by kernel_rfl) ⟨n, g2⟩ q4
  have b0 := fits_u8 w0
  have b3 := bounds_i64 w3
  have b4 := bounds_i64 w4
  have b3' : -9223372036854775808 ≤ z3 ∧ z3 < 9223372036854775808 := by omega
  have b4' : -9223372036854775808 ≤ z4 ∧ z4 < 9223372036854775808 := by omega
  exact ⟨⟨z0, a0, l0, d0, a1, l1, d1, z3, z4, zs, zs'⟩, ⟨hl, hl', hcp, hcp', (show l0 ≤ _ by omega), (show l1 ≤ _ by omega), b0, b3', b4'⟩,
    ⟨fun z hz => by have := bounds_i64 (hfi z hz); omega, fun z hz => by have := bounds_i64 (hfi' z hz); omega, row_nil Tryz.underlying50 Tryz.underlying3 k3 ⟨n, g1⟩, row_nil Tryz.underlying50 Tryz.underlying3 k3 ⟨n, g2⟩⟩,
    hat 0 (by omega), hat 1 (by omega), hat 2 (by omega), hat 3 (by omega), hat 4 (by omega)⟩

end

theorem nodes_read {H : Type} {enc : TypeId × Value → H} {W : World} {a : Option Addr} {len cap : Nat} {d : DataW H} {ps : List MemPlace}
    (h : DataW.Trod enc Tryz.prog W 0 (fun _ => true) true 22 (.slice a len cap) d ps) (hw : (DataW.weights Tryz.prog 22 d).all (· ≤ reachBytes) = true) :
    ∃ ns : List Nd, NsIn W a len ns ∧ len ≤ cap ∧ (a = none → cap = 0) ∧ (∀ x ∈ ns, x.Fit) := by
  obtain ⟨fuel, hf⟩ := h
  rcases Go.Deep.open_slice Tryz.underlying22 hf with ⟨hcs, _⟩ | ⟨ad, l, c, m, n, D, Pl, hcs, _, hl, hm, hmm, hx, hi⟩
  · simp [Value.cells] at hcs
    obtain ⟨rfl, rfl, rfl⟩ := hcs
    exact ⟨[], ⟨rfl, fun h => absurd h (by omega)⟩, Nat.le_refl _, fun _ => rfl, fun x hx => by cases hx⟩
  · simp [Value.cells] at hcs
    obtain ⟨rfl, rfl, rfl⟩ := hcs
    simp at hmm
    have hd := congrArg Prod.fst hx
    simp only at hd
    subst hd
    simp only [DataW.weights, Tryz.underlying22, List.all_cons, List.all_append, Bool.and_eq_true] at hw
    have hone : ∀ i, i < len → ∃ x : Nd, x.Ok W ∧ x.Fit ∧ W.cell? (ad.add (i * 5 + 0)) = some (.int .u8 x.kd) ∧ W.cell? (ad.add (i * 5 + 1)) = some (.slice x.I x.ni x.ci) ∧ W.cell? (ad.add (i * 5 + 2)) = some (.slice x.S x.ns x.cs) ∧ W.cell? (ad.add (i * 5 + 3)) = some (.int .i64 x.N) ∧ W.cell? (ad.add (i * 5 + 4)) = some (.int .i64 x.P) := by
      intro i hil
      obtain ⟨cs', hc, ht⟩ := hi i (by omega)
      rw [nodeC10] at hc
      obtain ⟨x, hx1, hx2, hx3, hx4, hx5, hx6, hx7⟩ := node_one10 hc ht (weights_elem10 hw.2.1 (List.mem_map.2 ⟨i, List.mem_range.2 hil, rfl⟩))
      rw [Go.Deep.add_add] at hx3 hx4 hx5 hx6 hx7
      exact ⟨x, hx1, hx2, hx3, hx4, hx5, hx6, hx7⟩
    have hall : ∃ f : Nat → Nd, ∀ i, i < len → (f i).Ok W ∧ (f i).Fit ∧ W.cell? (ad.add (i * 5 + 0)) = some (.int .u8 (f i).kd) ∧ W.cell? (ad.add (i * 5 + 1)) = some (.slice (f i).I (f i).ni (f i).ci) ∧ W.cell? (ad.add (i * 5 + 2)) = some (.slice (f i).S (f i).ns (f i).cs) ∧ W.cell? (ad.add (i * 5 + 3)) = some (.int .i64 (f i).N) ∧ W.cell? (ad.add (i * 5 + 4)) = some (.int .i64 (f i).P) :=
      ⟨fun i => if hil : i < len then Classical.choose (hone i hil) else ⟨0, none, 0, 0, none, 0, 0, 0, 0, [], []⟩, fun i hil => by
        simp only [dif_pos hil]
        exact Classical.choose_spec (hone i hil)⟩
    obtain ⟨f, hfo⟩ := hall
    refine ⟨(List.range len).map f, ⟨by simp, fun hn => ?_⟩, by omega, (fun h => by cases h), fun x hx => ?_⟩
    · obtain ⟨b, off, spot⟩ := ad
      have h0 := (hfo 0 hn).2.2.1
      have hspot : spot = none := by simpa [Addr.add] using World.cell?_spot h0
      subst hspot
      have hb : b < W.heap.size := World.block_lt_of_cell? W _ h0
      refine ⟨b, off, rfl, hb, fun j t ht => ?_⟩
      obtain ⟨hjl, hje⟩ := List.getElem?_eq_some_iff.1 ht
      have hj : j < len := by simpa using hjl
      have hf' : f j = t := by simpa using hje
      obtain ⟨h1, h2, h3, h4, h5, h6, h7⟩ := hfo j hj
      rw [hf', Addr.add_lit] at h3 h4 h5 h6 h7
      rw [hf'] at h1
      rw [← Nat.add_assoc] at h4 h5 h6 h7
      exact ⟨by rwa [Nat.add_zero] at h3, h4, h5, h6, h7, h1⟩
    · obtain ⟨i, hi2, rfl⟩ := List.mem_map.1 hx
      exact (hfo i (List.mem_range.1 hi2)).2.1

/-- A graph, by value. -/
theorem graph_read {H : Type} {enc : TypeId × Value → H} {W : World} {r : Reach} {base : Nat} {v : Value} {d : DataW H} {ps : List MemPlace} (hv : Value.okWide Tryz.prog W r base 24 v) (h : DataW.Trod enc Tryz.prog W 0 (fun _ => true) true 24 v d ps)
    (hw : (DataW.weights Tryz.prog 24 d).all (· ≤ reachBytes) = true) :
    ∃ (A : Option Addr) (n c : Nat) (ns : List Nd), v = .agg #[.slice A n c] ∧ NsIn W A n ns ∧ n ≤ c ∧ (A = none → c = 0) ∧ (∀ x ∈ ns, x.Fit) ∧ n * 72 ≤ 140737488351232 := by
  obtain ⟨cs, rfl, hsz⟩ := okWide_struct Tryz.underlying24 hv
  have k0 : Tryz.prog.cellsOf 24 = 1 := by kernel_rfl
  have k1 : Tryz.prog.cellsOf 22 = 1 := by kernel_rfl
  obtain ⟨l⟩ := cs
  obtain ⟨c0, rfl⟩ := list1N (hsz.trans k0)
  obtain ⟨fuel, hf⟩ := h
  obtain ⟨ys, n, _, hy, _, hyl, hg⟩ := DataW.trod_struct Tryz.underlying24 hf
  obtain ⟨y0, rfl⟩ := list1N hyl
  have g0 : DataW.trod enc Tryz.prog W 0 (fun _ => true) true n 22 (([c0].drop 0).take (Tryz.prog.cellsOf 22)) = some y0 := hg 0 _ rfl
  simp only [k1, List.drop_zero, List.take_succ_cons, List.take_zero] at g0
  have hd' : d = .agg [y0.1] := congrArg Prod.fst hy
  subst hd'
  have hw2 : (DataW.weightsEach Tryz.prog [22] [y0.1]).all (· ≤ reachBytes) = true := by
    have e : DataW.weights Tryz.prog 24 (.agg [y0.1]) = DataW.weightsEach Tryz.prog [22] [y0.1] := by
      rw [DataW.weights, Tryz.underlying24]
      try rfl
    rw [← e]
    exact hw
  obtain ⟨q0, _⟩ := reach_cons hw2
  obtain ⟨a0, l0, d0, e0⟩ := Go.Joins.slice_form Tryz.underlying22 g0
  simp only [List.cons.injEq, and_true] at e0
  subst e0
  obtain ⟨ns, h1, h2, h3, h4⟩ := nodes_read ⟨n, g0⟩ q0
  have hr := len_reach (k := 72) Tryz.underlying22 (by kernel_rfl) ⟨n, g0⟩ q0
  exact ⟨a0, l0, d0, ns, rfl, h1, h2, h3, h4, hr⟩

end

end Go.Proofs.YteagmlaahnpkhaaGreatDoor
