/- A wide picture's answers, and those of one window of several. No program is named here. -/
import Derived.Test.YtknlllpfjineaaaPm12M
import Derived.Test.YtknlllpfjineaaaWC
import Derived.Test.YtknlllpfjineaaaFl8M
namespace Go.Proofs.Ytknlllpfjineaaa
open Go.RowKit
set_option linter.unusedVariables false
set_option linter.unusedSimpArgs false

theorem shp_wide8 {C H V O a b Y X st pd H2 V2 : Nat} (hE : shp8E [(C : Int), (H : Int), (V : Int)] [(O : Int), (C : Int), (a : Int), (b : Int)] (st : Int) (pd : Int) = 0) (hL : shp8L [(C : Int), (H : Int), (V : Int)] [(O : Int), (C : Int), (a : Int), (b : Int)] (st : Int) (pd : Int) = [(O : Int), (Y : Int), (X : Int)])
    (hH : H2 = H + 2 * pd) (hV : V2 = V + 2 * pd) (hz : 0 < sizeI [(C : Int), (H2 : Int), (V2 : Int)]) :
    shp8E [(C : Int), (H2 : Int), (V2 : Int)] [(O : Int), (C : Int), (a : Int), (b : Int)] (st : Int) ((0 : Nat) : Int) = 0 ∧ shp8L [(C : Int), (H2 : Int), (V2 : Int)] [(O : Int), (C : Int), (a : Int), (b : Int)] (st : Int) ((0 : Nat) : Int) = [(O : Int), (Y : Int), (X : Int)] := by
  obtain ⟨⟨p1, p2, p3, p4, p5, p6⟩, ⟨e1, e2, e3⟩, p7⟩ := shp8E_iff.1 hE
  have e : shp8L [(C : Int), (H2 : Int), (V2 : Int)] [(O : Int), (C : Int), (a : Int), (b : Int)] (st : Int) ((0 : Nat) : Int) = [(O : Int), (Y : Int), (X : Int)] := by
    rw [← hL]
    simp only [shp8L, List.getD_cons_zero, List.getD_cons_succ]
    rw [show (H2 : Int) + 2 * ((0 : Nat) : Int) = (H : Int) + 2 * (pd : Int) by omega, show (V2 : Int) + 2 * ((0 : Nat) : Int) = (V : Int) + 2 * (pd : Int) by omega]
  refine ⟨shp8E_iff.2 ⟨⟨hz, p2, p3, p4, by omega, by omega⟩, ⟨rfl, rfl, by simp⟩, ?_⟩, e⟩
  rw [e, ← hL]; exact p7

theorem shp_part8 {C H V O a b Y X st pd m' : Nat} (hE : shp8E [(C : Int), (H : Int), (V : Int)] [(O : Int), (C : Int), (a : Int), (b : Int)] (st : Int) (pd : Int) = 0) (hL : shp8L [(C : Int), (H : Int), (V : Int)] [(O : Int), (C : Int), (a : Int), (b : Int)] (st : Int) (pd : Int) = [(O : Int), (Y : Int), (X : Int)])
    (hk : tenOk [(O : Int), (C : Int), (a : Int), (b : Int)] m' = true) :
    tenOk [((1 : Nat) : Int), (C : Int), (a : Int), (b : Int)] (C * (a * b)) = true ∧ shp8E [(C : Int), (H : Int), (V : Int)] [((1 : Nat) : Int), (C : Int), (a : Int), (b : Int)] (st : Int) (pd : Int) = 0 ∧ shp8L [(C : Int), (H : Int), (V : Int)] [((1 : Nat) : Int), (C : Int), (a : Int), (b : Int)] (st : Int) (pd : Int) = [((1 : Nat) : Int), (Y : Int), (X : Int)] := by
  obtain ⟨⟨p1, p2, p3, p4, p5, p6⟩, ⟨e1, e2, e3⟩, p7⟩ := shp8E_iff.1 hE
  obtain ⟨hO, hC, ha, hb, hm5, hm6⟩ := ten_four hk
  have hle : C * (a * b) ≤ m' := by rw [hm5]; exact Nat.le_mul_of_pos_left _ (by omega)
  have hs : sizeI [(C : Int), (a : Int), (b : Int)] = ((C * a * b : Nat) : Int) := size_three hC ha hb (by rw [Nat.mul_assoc]; omega)
  have hp : 1 ≤ C * a * b := Nat.mul_pos (Nat.mul_pos (by omega) (by omega)) (by omega)
  have h3 : tenOk [(C : Int), (a : Int), (b : Int)] (C * (a * b)) = true := tenOk_iff.2 ⟨by rw [hs]; omega, by rw [hs, Nat.mul_assoc]⟩
  have h4 := ten_whole8 h3
  have e : shp8L [(C : Int), (H : Int), (V : Int)] [((1 : Nat) : Int), (C : Int), (a : Int), (b : Int)] (st : Int) (pd : Int) = [((1 : Nat) : Int), (Y : Int), (X : Int)] := by
    simp only [shp8L, List.getD_cons_zero, List.getD_cons_succ, List.cons.injEq, and_true] at hL ⊢
    exact ⟨trivial, hL.2⟩
  rw [hL] at p7
  obtain ⟨q1, q2, q3, _, q4, q5⟩ := three_size p7
  have hyx : 1 * Y * X ≤ O * Y * X := Nat.mul_le_mul_right _ (Nat.mul_le_mul_right _ q1.1)
  refine ⟨h4, shp8E_iff.2 ⟨⟨p1, (tenOk_iff.1 h4).1, p3, p4, p5, p6⟩, ⟨rfl, rfl, by simp⟩, ?_⟩, e⟩
  rw [e, size_three (by omega) q2 q3 (by omega)]
  have : 1 ≤ 1 * Y * X := Nat.mul_pos (by omega) (by omega)
  omega

theorem of8L_no {s s' l l' : List Int} {m m' : Nat} {st pd : Int} (h : ¬ of8E s m s' m' st pd = 0) : of8L s m s' m' l l' st pd = [] := by rw [of8L, if_neg h]

theorem wid8_zero (l : List Int) (H V p N : Nat) : (wid8 l H V p N 0).map (Value.int .i32) = List.replicate N (.int .i32 0) := by rw [wid8, List.map_replicate]

theorem wid8_set (l : List Int) (H V p N k : Nat) : ((wid8 l H V p N k).map (Value.int .i32)).set (plc8 H V p k) (.int .i32 (l.getD k 0)) = (wid8 l H V p N (k + 1)).map (Value.int .i32) := by rw [wid8, List.map_set]

theorem lies_part8 {w : World} {b o n d k q : Nat} {xs : List Int} (h : Lies w (some ⟨b, o, none⟩) n (xs.map (Value.int .i32))) (hk : k + q ≤ n) (hd : n ≤ d) (hq : 1 ≤ q) : Lies w (some ⟨b, o + k, none⟩) q (((xs.drop k).take q).map (Value.int .i32)) := by
  have h1 := (h.drop (k := k) (cap := d) (by omega) hd)
  rw [if_neg (by omega)] at h1
  have h2 := h1.take (k := q) (by omega)
  rw [← List.map_drop, ← List.map_take] at h2
  simpa [Addr.add_lit] using h2

theorem below_own8 {B : Nat} {a w w' : World} {base : Nat} {e : TypeId} {v : Value} {n : Nat} {xs : List Value} (hb : Below B a w) (hB : B ≤ w.heap.size) (ho : w.ownsRow base e 1 v n xs) (hg : w.grownBy w' v.ownBlock) (hbb : B ≤ base) : Below B a w' :=
  hb.grown hg hB (fun g hgg => Nat.le_trans hbb (ho.lt g hgg).1)

theorem same_any8 (A B : Option Addr) (n c m d : Nat) (xs : List Int) (w : World) (h : Lies w A n (xs.map (Value.int .i32))) (k : Lies w B m (xs.map (Value.int .i32))) (hm : n ≤ 281474976710656) :
    Calls Try.prog 13 #[.slice A n c, .slice B m d] w fun e w' => e = .returned (.bool true) ∧ Below w.heap.size w w' := by
  refine (sameG_Numbers A B n c m d xs xs w h k hm).mono ?_
  rintro e w' ⟨rfl, j, rfl⟩
  exact ⟨by rw [decide_eq_true rfl], below_drewN (Below.refl _ _) j⟩

end Go.Proofs.Ytknlllpfjineaaa
