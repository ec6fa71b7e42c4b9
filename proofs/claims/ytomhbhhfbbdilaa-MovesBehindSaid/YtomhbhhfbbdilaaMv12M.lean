/- Lists of tensors; areTensors. -/
import Derived.Test.YtomhbhhfbbdilaaMv11M
import Derived.Test.YtomhbhhfbbdilaaWA
namespace Go.Proofs.Ytomhbhhfbbdilaa
open Go.RowKit
set_option linter.unusedVariables false
set_option linter.unusedSimpArgs false
set_option maxRecDepth 100000

/-- A tensor as it lies in a list. -/
structure Tn where
  A : Option Addr
  n : Nat
  c : Nat
  B : Option Addr
  m : Nat
  d : Nat
  s : List Int
  l : List Int

/-- Its lists lie there. -/
def Tn.Ok (t : Tn) (w : World) : Prop := Lies w t.A t.n (t.s.map (Value.int .i64)) ∧ Lies w t.B t.m (t.l.map (Value.int .i32)) ∧ t.n ≤ t.c ∧ t.m ≤ t.d ∧ t.n ≤ 70368744177664 ∧ t.m ≤ 70368744177664

/-- A list of tensors lies there. -/
def TsAt (w : World) (b o : Nat) (ts : List Tn) : Prop :=
  ∀ j t, ts[j]? = some t → w.cell? ⟨b, o + j * 2, none⟩ = some (.slice t.A t.n t.c) ∧ w.cell? ⟨b, o + j * 2 + 1, none⟩ = some (.slice t.B t.m t.d) ∧ t.Ok w

def tsOk (ts : List Tn) : Bool := ts.all (fun t => tenOk t.s t.m)

set_option maxHeartbeats 1000000 in
theorem areTensors_any (b o q c : Nat) (ts : List Tn) (w : World) (hl : ts.length = q) (hq : q ≤ 4) (hb : b < w.heap.size) (hT : TsAt w b o ts) :
    Calls Try.prog 53 #[.slice (some ⟨b, o, none⟩) q c] w fun e w' => e = .returned (.bool (tsOk ts)) ∧ Below w.heap.size w w' := by
  have HL := hide hl
  have HT := hide hT
  have HBL := hide hb
  clear hl hT hb
  go_enter Try.func53, Try.ntmps53
  go_wp2
  go_loopw [7] (fun i wr => ∃ k : Nat, k ≤ q ∧ i = .int .i64 (k : Int) ∧ Hid (∀ j t, j < k → ts[j]? = some t → tenOk t.s t.m = true) ∧ Hid (Below w.heap.size w wr)) (fun i _ => q - (intOf i).toNat)
  case atStart => exact ⟨0, Nat.zero_le _, rfl, hide (fun j t hj => absurd hj (Nat.not_lt_zero _)), hide (Below.refl _ _)⟩
  case round =>
    obtain ⟨k, hk, rfl, HN, HB⟩ := hrel
    by_cases hlt : k < q
    · have hlt' : k < ts.length := by rw [HL.out]; exact hlt
      obtain ⟨t, ht⟩ : ∃ t, ts[k]? = some t := ⟨ts[k], List.getElem?_eq_getElem hlt'⟩
      obtain ⟨x0, x1, hok⟩ := HT.out k t ht
      have y0 : wr.cell? ⟨b, o + k * 2, none⟩ = some (.slice t.A t.n t.c) := (World.cell?_of_block (HB.out.block _ HBL.out)).trans x0
      have y1 : wr.cell? ⟨b, o + k * 2 + 1, none⟩ = some (.slice t.B t.m t.d) := (World.cell?_of_block (HB.out.block _ HBL.out)).trans x1
      have h0 : (0 : Int) ≤ (k : Int) := by omega
      have h1 : (k : Int) < (q : Int) := by omega
      have HOK := hide hok
      have HTT := hide ht
      clear x0 x1 hok ht hlt'
      obtain ⟨V, hV⟩ : ∃ W, W = wr.alloc (.cells #[.slice t.A t.n t.c, .slice t.B t.m t.d] 49) := ⟨_, rfl⟩
      have HBV : Hid (Below w.heap.size w V) := hide (by rw [hV]; exact HB.out.alloc HB.out.size _)
      have HXV : Hid (BoxT V wr.heap.size (.slice t.A t.n t.c) (.slice t.B t.m t.d)) := hide (by rw [hV]; exact BoxT.new wr _ _)
      have hV' := hV.symm
      have z0 := HXV.out.c0
      have z1 := HXV.out.c1
      clear hV
      go_wp2_with fail
      refine Calls.mono (tcheck_any t.A t.B t.n t.c t.m t.d t.s _ (HOK.out.1.below HBV.out) (by have := HOK.out.2.2.2.2.1; omega)) ?_
      rintro e w1 ⟨rfl, hb⟩
      have HB2 := hide (HBV.out.trans (hb.mono HBV.out.size))
      clear hb y0 y1 z0 z1
      by_cases hok : tenOk t.s t.m = true
      · rw [hok]
        have HN2 : Hid (∀ j t, j < k + 1 → ts[j]? = some t → tenOk t.s t.m = true) := hide (fun j t' hj ht' => by
          by_cases e : j = k
          · subst e
            rw [HTT.out] at ht'
            cases ht'
            exact hok
          · exact HN.out j t' (by omega) ht')
        clear hok
        go_wp2
        go_roundw
        case rel => exact ⟨k + 1, by omega, by go_num, HN2, HB2⟩
        case measure => simp [intOf]; omega
      · rw [show tenOk t.s t.m = false by simpa using hok]
        have HF : Hid (tsOk ts = false) := hide (by
          cases h : tsOk ts
          · rfl
          · exact absurd (List.all_eq_true.1 h t (List.mem_of_getElem? HTT.out)) hok)
        clear hok
        go_wp2
        go_ret
        exact ⟨by rw [HF.out]; rfl, HB2.out⟩
    · obtain rfl : q = k := by omega
      have h5 : ¬ ((q : Int) < (q : Int)) := by omega
      have HT2 : Hid (tsOk ts = true) := hide (List.all_eq_true.2 (fun t ht => by
        obtain ⟨j, hj, e⟩ := List.mem_iff_getElem.1 ht
        exact HN.out j t (by rw [← HL.out]; exact hj) (by rw [List.getElem?_eq_getElem hj, e])))
      go_wp2
      go_ret
      exact ⟨by rw [HT2.out]; rfl, HB.out⟩

/-- Fits a shape to another one, but along one direction? -/
def alike9 (s t : List Int) (a : Nat) : Bool := decide (s.length = t.length) && (List.range s.length).all (fun d => decide (d = a) || decide (s.getD d 0 = t.getD d 0))

theorem alike9_iff {s t : List Int} {a : Nat} : alike9 s t a = true ↔ s.length = t.length ∧ ∀ d, d < s.length → d ≠ a → s.getD d 0 = t.getD d 0 := by
  simp only [alike9, Bool.and_eq_true, decide_eq_true_eq, List.all_eq_true, List.mem_range, Bool.or_eq_true]
  constructor
  · rintro ⟨h1, h2⟩
    exact ⟨h1, fun d hd hne => (h2 d hd).resolve_left hne⟩
  · rintro ⟨h1, h2⟩
    exact ⟨h1, fun d hd => if e : d = a then .inl e else .inr (h2 d hd e)⟩

set_option maxHeartbeats 2000000 in
theorem isAlike_any (A B : Option Addr) (n c k e a : Nat) (s t : List Int) (w : World) (hA : Lies w A n (s.map (Value.int .i64))) (hB : Lies w B k (t.map (Value.int .i64))) (hn : n ≤ 281474976710656) (hk : k ≤ 281474976710656) :
    Calls Try.prog 91 #[.agg #[.slice A n c], .agg #[.slice B k e], .int .i64 (a : Int)] w fun e' w' => e' = .returned (.bool (alike9 s t a)) ∧ Below w.heap.size w w' := by
  have hl1 : s.length = n := by have := hA.len; simpa using this
  have hl2 : t.length = k := by have := hB.len; simpa using this
  obtain ⟨W1, hW1⟩ : ∃ W, W = w.alloc (.cells #[.slice A n c] 85) := ⟨_, rfl⟩
  obtain ⟨W0, hW0⟩ : ∃ W, W = W1.alloc (.cells #[.slice B k e] 85) := ⟨_, rfl⟩
  have hs1 : W1.heap.size = w.heap.size + 1 := by rw [hW1]; simp
  have HB0 : Hid (Below w.heap.size w W0) := hide (by rw [hW0, hW1]; exact ((Below.refl w.heap.size w).alloc (Nat.le_refl _) _).alloc (by simp only [World.size_alloc]; omega) _)
  have HR0 : Hid (W0.heap[w.heap.size]? = some (.cells #[.slice A n c] 85 (0, 0))) := hide (by rw [hW0, hW1]; exact (Below.heap_alloc _ _ _ (by simp only [World.size_alloc]; omega)).trans (heap_alloc_new w _))
  have HR1 : Hid (W0.heap[w.heap.size + 1]? = some (.cells #[.slice B k e] 85 (0, 0))) := hide (by rw [hW0, ← hs1]; exact heap_alloc_new W1 _)
  have HC : Hid (∀ v, Below W0.heap.size W0 v → v.cell? ⟨w.heap.size, 0, none⟩ = some (.slice A n c) ∧ v.cell? ⟨w.heap.size + 1, 0, none⟩ = some (.slice B k e)) := hide (fun v hv => ⟨cell_of_row _ _ 0 _ _ (0, 0) ((hv.block _ (lt_of_heap HR0.out)).trans HR0.out), cell_of_row _ _ 0 _ _ (0, 0) ((hv.block _ (lt_of_heap HR1.out)).trans HR1.out)⟩)
  have HA := hide (hA.below HB0.out)
  have HB := hide (hB.below HB0.out)
  have HL := hide (And.intro hl1 hl2)
  have hW1' := hW1.symm
  have hW0' := hW0.symm
  obtain ⟨c0, c1⟩ := HC.out _ (Below.refl _ _)
  clear hA hB hl1 hl2 hW1 hW0
  go_enter Try.func91, Try.ntmps91
  by_cases hnk : n = k
  rotate_left
  · have HF : Hid (alike9 s t a = false) := hide (by
      cases h : alike9 s t a
      · rfl
      · have := (alike9_iff.1 h).1
        rw [HL.out.1, HL.out.2] at this
        exact absurd this hnk)
    have e1 : ((n : Int) == (k : Int)) = false := by simpa using (by omega : ¬ (n : Int) = (k : Int))
    have e2 : ¬ (n : Int) = (k : Int) := by omega
    go_wp2
    go_ret
    exact ⟨by rw [HF.out]; rfl, HB0.out⟩
  · subst hnk
    go_wp2
    clear c0 c1
    go_loopw [19] (fun i wr => ∃ q : Nat, q ≤ n ∧ i = .int .i64 (q : Int) ∧ Hid (∀ d, d < q → d ≠ a → s.getD d 0 = t.getD d 0) ∧ Hid (Below W0.heap.size W0 wr)) (fun i _ => n - (intOf i).toNat)
    case atStart => exact ⟨0, Nat.zero_le _, rfl, hide (fun d hd => absurd hd (Nat.not_lt_zero _)), hide (Below.refl _ _)⟩
    case round =>
      obtain ⟨q, hq, rfl, HN, HE⟩ := hrel
      by_cases hlt : q < n
      · obtain ⟨c0, c1⟩ := HC.out _ HE.out
        obtain ⟨bA, oA, eA, _, xA⟩ := byte_at (HA.out.below HE.out) (by omega)
        obtain ⟨bB, oB, eB, _, xB⟩ := byte_at (HB.out.below HE.out) (by omega)
        subst eA eB
        have yA := xA q hlt
        have yB := xB q hlt
        obtain ⟨x, hx⟩ : ∃ z, z = s.getD q 0 := ⟨_, rfl⟩
        obtain ⟨y, hy⟩ : ∃ z, z = t.getD q 0 := ⟨_, rfl⟩
        rw [← hx] at yA
        rw [← hy] at yB
        have HX := hide (And.intro hx hy)
        have h0 : (0 : Int) ≤ (q : Int) := by omega
        have h1 : (q : Int) < (n : Int) := by omega
        clear xA xB hx hy
        by_cases hqa : q = a
        · have HN2 : Hid (∀ d, d < q + 1 → d ≠ a → s.getD d 0 = t.getD d 0) := hide (fun d hd hne => HN.out d (by omega) hne)
          subst hqa
          go_wp2
          go_roundw
          case rel => exact ⟨q + 1, by omega, by go_num, HN2, HE⟩
          case measure => simp [intOf]; omega
        · have e1 : ((q : Int) == (a : Int)) = false := by simpa using (by omega : ¬ (q : Int) = (a : Int))
          have e2 : ¬ (q : Int) = (a : Int) := by omega
          have HQA := hide hqa
          by_cases hxy : x = y
          · have e3 : (x == y) = true := by simpa using hxy
            have HN2 : Hid (∀ d, d < q + 1 → d ≠ a → s.getD d 0 = t.getD d 0) := hide (fun d hd hne => by
              by_cases e : d = q
              · subst e; rw [← HX.out.1, ← HX.out.2]; exact hxy
              · exact HN.out d (by omega) hne)
            clear e3
            subst hxy
            go_wp2
            go_roundw
            case rel => exact ⟨q + 1, by omega, by go_num, HN2, HE⟩
            case measure => simp [intOf]; omega
          · have e3 : (x == y) = false := by simpa using hxy
            have e4 : ((q : Int) != (a : Int)) = true := by rw [bne, e1]; rfl
            have e5 : (x != y) = true := by rw [bne, e3]; rfl
            have HF : Hid (alike9 s t a = false) := hide (by
              cases h : alike9 s t a
              · rfl
              · have := (alike9_iff.1 h).2 q (by rw [HL.out.1]; exact hlt) HQA.out
                rw [← HX.out.1, ← HX.out.2] at this
                exact absurd this hxy)
            have HBE := hide (HB0.out.trans (HE.out.mono HB0.out.size))
            go_wp2
            go_ret
            exact ⟨by rw [HF.out]; rfl, HBE.out⟩
      · obtain rfl : n = q := by omega
        have h5 : ¬ ((n : Int) < (n : Int)) := by omega
        have HT : Hid (alike9 s t a = true) := hide (alike9_iff.2 ⟨by rw [HL.out.1, HL.out.2], fun d hd hne => HN.out d (by rw [← HL.out.1]; exact hd) hne⟩)
        have HBE := hide (HB0.out.trans (HE.out.mono HB0.out.size))
        go_wp2
        go_ret
        exact ⟨by rw [HT.out]; rfl, HBE.out⟩

end Go.Proofs.Ytomhbhhfbbdilaa
