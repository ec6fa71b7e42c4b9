/- layoutsOf: the layouts of a list of tensors. -/
import Derived.Test.YtomhbhhfbbdilaaMv12M
namespace Go.Proofs.Ytomhbhhfbbdilaa
open Go.RowKit
set_option linter.unusedVariables false
set_option linter.unusedSimpArgs false
set_option maxRecDepth 100000

theorem infoLay : (Try.prog.info? 87).map (fun i => (i.zero, i.size, i.bytes)) = some (some (.agg #[.slice none 0 0, .slice none 0 0]), 2, 48) := by kernel_rfl

theorem make_lays (w : World) (n : Nat) (h : n ≤ 1048576) : ∃ cs : Array Value, cs.size = n * 2 ∧ (Instr.makeSlice 101 (.int .i64 (n : Int)) (.int .i64 (n : Int))).run Try.prog w = .ok (.slice (some ⟨w.heap.size, 0, none⟩) n n) (w.alloc (.cells cs 87)) := by
  obtain ⟨i0, hi, hz0, hz1, hz2⟩ := info_parts infoLay
  have hr := run_make (P := Try.prog) w 101 87 i0 _ Try.underlying101 hi hz0 .i64 .i64 (n : Int) (n : Int) (by omega) (by omega) (by rw [hz2]; omega) (by omega)
  refine ⟨_, ?_, hr⟩
  rw [hz1, Int.toNat_natCast]
  simp [madeCells]

/-- The layouts of the first k tensors of a list, in a row of their own. -/
def LsAt (w : World) (g : Nat) (ts : List Tn) (k : Nat) : Prop :=
  ∃ cs : Array Value, w.heap[g]? = some (.cells cs 87 (0, 0)) ∧ cs.size = ts.length * 2 ∧ ∀ j t, j < k → ts[j]? = some t → ∃ gs, cs[j * 2]? = some (.slice t.A t.n t.c) ∧ cs[j * 2 + 1]? = some (.slice (some ⟨gs, 0, none⟩) t.n t.n) ∧ gs ≠ g ∧ Lies w (some ⟨gs, 0, none⟩) t.n ((strL t.s).map (Value.int .i64))

theorem LsAt.lt {w : World} {g : Nat} {ts : List Tn} {k : Nat} (h : LsAt w g ts k) : g < w.heap.size := by
  obtain ⟨cs, h1, _⟩ := h
  exact lt_of_heap h1

theorem LsAt.below {w w' : World} {g : Nat} {ts : List Tn} {k : Nat} (h : LsAt w g ts k) (hb : Below w.heap.size w w') : LsAt w' g ts k := by
  have hg := h.lt
  obtain ⟨cs, h1, h2, h3⟩ := h
  refine ⟨cs, (hb.block _ hg).trans h1, h2, fun j t hj ht => ?_⟩
  obtain ⟨gs, a1, a2, a3, a4⟩ := h3 j t hj ht
  exact ⟨gs, a1, a2, a3, a4.below hb⟩

theorem cell_row9 {w : World} {g i : Nat} {cs : Array Value} {e : TypeId} (h : w.heap[g]? = some (.cells cs e (0, 0))) : w.cell? ⟨g, i, none⟩ = cs[i]? := by
  simp [World.cell?, h]

theorem LsAt.cells {w : World} {g k : Nat} {ts : List Tn} {j : Nat} {t : Tn} (h : LsAt w g ts k) (hj : j < k) (ht : ts[j]? = some t) : ∃ gs, w.cell? ⟨g, j * 2, none⟩ = some (.slice t.A t.n t.c) ∧ w.cell? ⟨g, j * 2 + 1, none⟩ = some (.slice (some ⟨gs, 0, none⟩) t.n t.n) ∧ Lies w (some ⟨gs, 0, none⟩) t.n ((strL t.s).map (Value.int .i64)) := by
  obtain ⟨cs, h1, h2, h3⟩ := h
  obtain ⟨gs, a1, a2, a3, a4⟩ := h3 j t hj ht
  exact ⟨gs, by rw [cell_row9 h1]; exact a1, by rw [cell_row9 h1]; exact a2, a4⟩

theorem LsAt.open {w : World} {g k : Nat} {ts : List Tn} (h : LsAt w g ts k) (hk : k < ts.length) : (∃ x y, w.cell? ⟨g, k * 2, none⟩ = some x ∧ w.cell? ⟨g, k * 2 + 1, none⟩ = some y) ∧ ∀ i, w.frozen? ⟨g, i, none⟩ = false := by
  obtain ⟨cs, h1, h2, _⟩ := h
  refine ⟨⟨cs[k * 2], cs[k * 2 + 1], ?_, ?_⟩, fun i => by simp [World.frozen?, h1]⟩
  · rw [cell_row9 h1]; exact Array.getElem?_eq_getElem (by omega)
  · rw [cell_row9 h1]; exact Array.getElem?_eq_getElem (by omega)

theorem LsAt.put {w : World} {g k gs : Nat} {ts : List Tn} {t : Tn} (h : LsAt w g ts k) (ht : ts[k]? = some t) (hgs : gs ≠ g) (hl : Lies w (some ⟨gs, 0, none⟩) t.n ((strL t.s).map (Value.int .i64))) :
    LsAt ((w.setCell ⟨g, k * 2, none⟩ (.slice t.A t.n t.c)).setCell ⟨g, k * 2 + 1, none⟩ (.slice (some ⟨gs, 0, none⟩) t.n t.n)) g ts (k + 1) := by
  obtain ⟨cs, h1, h2, h3⟩ := h
  have hk : k < ts.length := (List.getElem?_eq_some_iff.1 ht).1
  have e1 := setCell_eq_setRow w g (k * 2) cs _ (0, 0) (.slice t.A t.n t.c) h1
  have h1' := setRow_heap w g cs (cs.setIfInBounds (k * 2) (.slice t.A t.n t.c)) _ _ h1
  have e2 := setCell_eq_setRow (w.setRow g (cs.setIfInBounds (k * 2) (.slice t.A t.n t.c))) g (k * 2 + 1) _ _ (0, 0) (.slice (some ⟨gs, 0, none⟩) t.n t.n) h1'
  have h1'' := setRow_heap (w.setRow g (cs.setIfInBounds (k * 2) (.slice t.A t.n t.c))) g _ ((cs.setIfInBounds (k * 2) (.slice t.A t.n t.c)).setIfInBounds (k * 2 + 1) (.slice (some ⟨gs, 0, none⟩) t.n t.n)) _ _ h1'
  have keep : ∀ (g2 q : Nat) (xs : List Value), g2 ≠ g → Lies w (some ⟨g2, 0, none⟩) q xs → Lies ((w.setCell ⟨g, k * 2, none⟩ (.slice t.A t.n t.c)).setCell ⟨g, k * 2 + 1, none⟩ (.slice (some ⟨gs, 0, none⟩) t.n t.n)) (some ⟨g2, 0, none⟩) q xs := fun g2 q xs hne hx =>
    hx.keep (by simp) (fun b o e hb j => by cases e; exact World.cell?_of_block ((Below.heap_setCell _ _ _ _ (by dsimp only; exact hne)).trans (Below.heap_setCell _ _ _ _ (by dsimp only; exact hne))))
  refine ⟨_, by rw [e1, e2]; exact h1'', by simp [h2], fun j t' hj ht' => ?_⟩
  by_cases e : j = k
  · subst e
    rw [ht] at ht'
    cases ht'
    refine ⟨gs, ?_, ?_, hgs, keep _ _ _ hgs hl⟩
    · rw [Array.getElem?_setIfInBounds_ne (by omega), Array.getElem?_setIfInBounds_self_of_lt (by omega)]
    · rw [Array.getElem?_setIfInBounds_self_of_lt (by simp; omega)]
  · obtain ⟨g3, a1, a2, a3, a4⟩ := h3 j t' (by omega) ht'
    refine ⟨g3, ?_, ?_, a3, keep _ _ _ a3 a4⟩
    · rw [Array.getElem?_setIfInBounds_ne (by omega), Array.getElem?_setIfInBounds_ne (by omega)]; exact a1
    · rw [Array.getElem?_setIfInBounds_ne (by omega), Array.getElem?_setIfInBounds_ne (by omega)]; exact a2

set_option maxHeartbeats 2000000 in
theorem layoutsOf_ok (b o q c : Nat) (ts : List Tn) (w : World) (hl : ts.length = q) (hq : q ≤ 4) (hb : b < w.heap.size) (hT : TsAt w b o ts) (hok : tsOk ts = true) :
    Calls Try.prog 54 #[.slice (some ⟨b, o, none⟩) q c] w fun e w' => e = .returned (.slice (some ⟨w.heap.size, 0, none⟩) q q) ∧ LsAt w' w.heap.size ts q ∧ Below w.heap.size w w' := by
  obtain ⟨cs0, hc0, hmk⟩ := make_lays w q (by omega)
  obtain ⟨W0, hW0⟩ : ∃ W, W = w.alloc (.cells cs0 87) := ⟨_, rfl⟩
  have HL := hide hl
  have HT := hide hT
  have HBL := hide hb
  have HOK := hide hok
  have HB0 : Hid (Below w.heap.size w W0) := hide (by rw [hW0]; exact below_al6 (Below.refl _ _))
  have HS0 : Hid (LsAt W0 w.heap.size ts 0) := hide (by rw [hW0]; exact ⟨cs0, heap_alloc_new w _, by rw [hc0, hl], fun j t hj => absurd hj (Nat.not_lt_zero _)⟩)
  rw [← hW0] at hmk
  clear hl hT hb hok hc0 hW0
  go_enter Try.func54, Try.ntmps54
  go_wp2
  clear hmk
  go_loopw [11] (fun i wr => ∃ k : Nat, k ≤ q ∧ i = .int .i64 (k : Int) ∧ Hid (LsAt wr w.heap.size ts k) ∧ Hid (Below w.heap.size w wr)) (fun i _ => q - (intOf i).toNat)
  case atStart => exact ⟨0, Nat.zero_le _, rfl, HS0, HB0⟩
  case round =>
    clear HS0 HB0
    obtain ⟨k, hk, rfl, HS, HB⟩ := hrel
    by_cases hlt : k < q
    · have hlt' : k < ts.length := by rw [HL.out]; exact hlt
      obtain ⟨t, ht⟩ : ∃ t, ts[k]? = some t := ⟨ts[k], List.getElem?_eq_getElem hlt'⟩
      obtain ⟨x0, x1, hok⟩ := HT.out k t ht
      have y0 : wr.cell? ⟨b, o + k * 2, none⟩ = some (.slice t.A t.n t.c) := (World.cell?_of_block (HB.out.block _ HBL.out)).trans x0
      have y1 : wr.cell? ⟨b, o + k * 2 + 1, none⟩ = some (.slice t.B t.m t.d) := (World.cell?_of_block (HB.out.block _ HBL.out)).trans x1
      have h0 : (0 : Int) ≤ (k : Int) := by omega
      have h1 : (k : Int) < (q : Int) := by omega
      have HKK := hide hok
      have HTT := hide ht
      have htk : tenOk t.s t.m = true := List.all_eq_true.1 HOK.out t (List.mem_of_getElem? ht)
      have HTK := hide (tenOk_iff.1 htk).1
      obtain ⟨V, hV⟩ : ∃ W, W = wr.alloc (.cells #[.slice t.A t.n t.c, .slice t.B t.m t.d] 49) := ⟨_, rfl⟩
      have hbV : Below wr.heap.size wr V := by rw [hV]; exact below_al6 (Below.refl _ _)
      have HBV : Hid (Below w.heap.size w V) := hide (HB.out.trans (hbV.mono HB.out.size))
      have HSV : Hid (LsAt V w.heap.size ts k) := hide (HS.out.below hbV)
      have HXV : Hid (BoxT V wr.heap.size (.slice t.A t.n t.c) (.slice t.B t.m t.d)) := hide (by rw [hV]; exact BoxT.new wr _ _)
      have hV' := hV.symm
      have z0 := HXV.out.c0
      have z1 := HXV.out.c1
      clear x0 x1 hok ht hlt' hV hbV htk
      go_wp2_with fail
      refine Calls.mono (layoutOf_ok t.A t.n t.c t.s _ (HKK.out.1.below HBV.out) HTK.out) ?_
      rintro e w1 ⟨gs, rfl, hos, hb1⟩
      have hgs := (hos.lt gs rfl).1
      have hgl := HSV.out.lt
      have HS1 := hide (HSV.out.below hb1)
      have HB1 := hide (HBV.out.trans (hb1.mono HBV.out.size))
      have HS2 := hide (HS1.out.put HTT.out (show gs ≠ w.heap.size by omega) (lies_of_own hos))
      obtain ⟨⟨u0, u1, f0, f1⟩, hfz⟩ := HS1.out.open (by rw [HL.out]; exact hlt)
      have fz0 := hfz (k * 2)
      have fz1 := hfz (k * 2 + 1)
      have HB2 : Hid (Below w.heap.size w ((w1.setCell ⟨w.heap.size, k * 2, none⟩ (.slice t.A t.n t.c)).setCell ⟨w.heap.size, k * 2 + 1, none⟩ (.slice (some ⟨gs, 0, none⟩) t.n t.n))) := hide ((HB1.out.setCell (by dsimp only; omega) _).setCell (by dsimp only; omega) _)
      clear hos hb1 hgs hgl hfz y0 y1 z0 z1
      go_wp2
      go_roundw
      case rel => exact ⟨k + 1, by omega, by go_num, HS2, HB2⟩
      case measure => simp [intOf]; omega
    · obtain rfl : q = k := by omega
      have h5 : ¬ ((q : Int) < (q : Int)) := by omega
      go_wp2
      go_ret
      exact ⟨rfl, HS.out, HB.out⟩

end Go.Proofs.Ytomhbhhfbbdilaa
