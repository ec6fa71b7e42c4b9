/- Contract of Get of package tensors: the tensor whose bytes these are, or none. -/
import Derived.Test.YtaoobdnbjagpnaaGreatDoorTen7
namespace Go.Proofs.YtaoobdnbjagpnaaGreatDoor
open Go.RowKit Go.Shelf
set_option linter.unusedVariables false
set_option linter.unusedSimpArgs false
set_option maxRecDepth 20000
attribute [local go_sem] Oper.semAt_some

/-- How many dimensions bytes tell. -/
def dimsOf (bs : List Int) : Nat := (bs.getD 0 0).toNat
/-- Are bytes those of a tensor? -/
def getOk (bs : List Int) : Bool := decide (1 + dimsOf bs ≤ bs.length) && decide (0 < sizeI (shpOf bs (dimsOf bs))) && decide (((bs.length - (1 + dimsOf bs) : Nat) : Int) = 4 * sizeI (shpOf bs (dimsOf bs)))

set_option maxHeartbeats 1000000 in
theorem tget_err (A : Option Addr) (n c : Nat) (bs : List Int) (w : World) (h : Lies w A n (bs.map (Value.int .u8))) (hb : Bytes bs) (hn : n ≤ 281474976710656) (hnc : n ≤ c) (hno : getOk bs = false) :
    Calls Tryz.prog 23 #[.slice A n c] w fun e w' => e = .returned (.tuple #[tenV none 0 0 none 0 0, .int .i64 4]) ∧ Below w.heap.size w w' := by
  have hl : bs.length = n := by have := h.len; simpa using this
  have HA := hide h
  have HBY := hide hb
  have HL := hide hl
  have HNO := hide hno
  have hq := bytes_getD hb 0
  obtain ⟨q, hqq⟩ : ∃ q : Nat, bs.getD 0 0 = (q : Int) := ⟨(bs.getD 0 0).toNat, by omega⟩
  have hdq : dimsOf bs = q := by rw [dimsOf, hqq]; omega
  rw [getOk, hdq, hl] at hno
  clear h hb
  refine (callsIn_wide (n := 5)).1 ?_
  refine callsIn_of_wp_marks Tryz.func23 rfl trivial ?_ rfl
  simp only [Tryz.ntmps23, List.size_toArray, List.length_cons, List.length_nil, Nat.reduceAdd, Nat.reduceSub, Array.replicate_succ, Array.replicate_zero, List.push_toArray, List.append_toArray, List.nil_append, List.cons_append]
  refine wpIn_wide.2 ?_
  have h0 := (Below.refl w.heap.size w).alloc (Nat.le_refl _) (.cells #[.slice none 0 0, .slice none 0 0] 25)
  have HX0 := hide (BoxT.new w (.slice none 0 0) (.slice none 0 0))
  -- what comes of getShape
  have HG : Hid (Calls Tryz.prog 96 #[.slice A n c] (w.alloc (.cells #[.slice none 0 0, .slice none 0 0] 25)) fun e w' => ∃ A1 nn c1 R m cr ss, e = .returned (.tuple #[.slice A1 nn c1, .slice R m cr]) ∧ Lies w' A1 nn (ss.map (Value.int .i64)) ∧ nn ≤ 255 ∧
      (sizeI ss ≤ 0 ∨ (m : Int) ≠ 4 * sizeI ss) ∧ Below (w.heap.size + 1) (w.alloc (.cells #[.slice none 0 0, .slice none 0 0] 25)) w') := hide (by
    by_cases hqn : q < n
    · refine (getShape_ok A n c q bs _ (HA.out.alloc _) HBY.out hn hnc hqq hqn).mono ?_
      rintro e w' ⟨A1, c1, R, cr, rfl, h1, h2, h3, h4⟩
      refine ⟨A1, q, c1, R, _, cr, _, rfl, lies_of_own h1, by omega, ?_, by simpa using h4⟩
      simp only [Bool.and_eq_false_iff, decide_eq_false_iff_not] at hno
      rcases hno with (h | h) | h
      · omega
      · exact .inl (by omega)
      · exact .inr (by intro e; exact h (by omega))
    · refine (getShape_none A n c bs _ (HA.out.alloc _) HBY.out hn (by omega)).mono ?_
      rintro e w' ⟨rfl, rfl⟩
      exact ⟨none, 0, 0, none, 0, 0, [], rfl, lies_empty, by omega, .inl (by simp [sizeI]), by simpa using Below.refl (w.heap.size + 1) _⟩)
  clear hno
  go_wp2_with fail
  refine Calls.mono HG.out ?_
  rintro e w1 ⟨A1, nn, c1, R, m, cr, ss, rfl, hl1, hnn, hbad, hb1⟩
  have HX1 := hide (HX0.out.below hb1 (by omega))
  have HL1 := hide hl1
  have HB1 := hide (h0.trans (hb1.mono (by omega)))
  have HBAD := hide hbad
  have hs1 : w.heap.size + 1 ≤ w1.heap.size := by have := hb1.size; simpa using this
  clear hl1 hbad hb1 h0 HG
  have HR1 := hide (Box1.new w1 (.slice R m cr) 56)
  have hX1lt := HX1.out.lt
  by_cases hp : 0 < sizeI ss
  · obtain ⟨k, hk⟩ : ∃ k : Nat, sizeI ss = (k : Int) := ⟨(sizeI ss).toNat, by omega⟩
    have HMK : Hid (¬ (m : Int) = 4 * (k : Int)) := hide (by rcases HBAD.out with h | h <;> omega)
    have hk4 := sizeI_le ss
    go_wp2_with fail
    refine Calls.mono (new_ok A1 nn c1 k ss _ (HL1.out.alloc _) hk (by omega)) ?_
    rintro e w2 ⟨g1, c2, g2, rfl, ho1, ho2, _, hb2⟩
    have HX2 := hide ((HX1.out.alloc (.cells #[.slice R m cr] 56)).kept hb2)
    have HR2 := hide (HR1.out.below hb2 HR1.out.lt)
    have HB2 := hide ((HB1.out.alloc (by omega) (.cells #[.slice R m cr] 56)).trans (hb2.mono (by simp; omega)))
    have hs2 := HB2.out.size
    clear ho1 ho2 hb2
    have hcr := HR2.out.cell
    have HT2 := hide (BoxT.new w2 (.slice (some ⟨g1, 0, none⟩) nn c2) (.slice (some ⟨g2, 0, none⟩) k k))
    have hcr2 : (w2.alloc (.cells #[.slice (some ⟨g1, 0, none⟩) nn c2, .slice (some ⟨g2, 0, none⟩) k k] 25)).cell? ⟨w1.heap.size, 0, none⟩ = some (.slice R m cr) := (HR2.out.alloc _).cell
    have hct2 := HT2.out.c1
    have hb9 : ((m : Int) == 4 * (k : Int)) = false := beq_eq_false_iff_ne.2 HMK.out
    have HX3 := hide (HX2.out.alloc (.cells #[.slice (some ⟨g1, 0, none⟩) nn c2, .slice (some ⟨g2, 0, none⟩) k k] 25))
    go_wp2_with (refine wpList_store_row rfl 25 _ _ rfl w.heap.size #[.slice none 0 0, .slice none 0 0] rfl rfl 25 _ HX3.out sizeT rfl (by simp [Value.oneCell']) ?_)
    refine plainRet rfl (results_ten (p := 2) (u := 3) rfl _ _ w.heap.size _ rfl (HX3.out.set _ _) rfl) ⟨rfl, below_setRow (HB2.out.alloc (by omega) _) (Nat.le_refl _) _⟩
  · go_wp2_with fail
    refine Calls.mono (new_err A1 nn c1 ss _ (HL1.out.alloc _) (by omega) (by omega)) ?_
    rintro e w2 ⟨rfl, hb2⟩
    have HX2 := hide ((HX1.out.alloc (.cells #[.slice R m cr] 56)).kept hb2)
    have HB2 := hide ((HB1.out.alloc (by omega) (.cells #[.slice R m cr] 56)).trans (hb2.mono (by simp; omega)))
    have hs2 := HB2.out.size
    clear hb2
    have HX3 := hide (HX2.out.alloc (.cells #[.slice none 0 0, .slice none 0 0] 25))
    go_wp2_with (refine wpList_store_row rfl 25 _ _ rfl w.heap.size #[.slice none 0 0, .slice none 0 0] rfl rfl 25 _ HX3.out sizeT rfl (by simp [Value.oneCell']) ?_)
    refine plainRet rfl (results_ten (p := 2) (u := 3) rfl _ _ w.heap.size _ rfl (HX3.out.set _ _) rfl) ⟨rfl, below_setRow (HB2.out.alloc (by omega) _) (Nat.le_refl _) _⟩
end Go.Proofs.YtaoobdnbjagpnaaGreatDoor
