/- Get of any bytes, told in one way; plain facts on what is got. -/
import Derived.Test.YtaoobdnbjagpnaaGreatDoorTMath
namespace Go.Proofs.YtaoobdnbjagpnaaGreatDoor
open Go.RowKit
set_option linter.unusedVariables false
set_option linter.unusedSimpArgs false

theorem four_word (a b c d : Int) (ha : 0 ≤ a ∧ a < 256) (hb : 0 ≤ b ∧ b < 256) (hc : 0 ≤ c ∧ c < 256) (hd : 0 ≤ d ∧ d < 256) : four (signed (word a b c d)) = [a, b, c, d] := by
  have h : ∀ z : Int, z % 4294967296 = word a b c d → four z = [a, b, c, d] := by
    intro z hz
    unfold word at hz
    simp only [four, List.cons.injEq, and_true]
    omega
  apply h
  rw [signed_eq]
  have := word_bounds ha hb hc hd
  omega
theorem wd_drop4 (bs : List Int) (j : Nat) : wd (bs.drop 4) j = wd bs (j + 1) := by
  unfold wd
  simp only [List.getD, List.getElem?_drop]
  rw [show 4 + 4 * j = 4 * (j + 1) by omega, show 4 + (4 * j + 1) = 4 * (j + 1) + 1 by omega, show 4 + (4 * j + 2) = 4 * (j + 1) + 2 by omega, show 4 + (4 * j + 3) = 4 * (j + 1) + 3 by omega]
theorem dec_succ (bs : List Int) (k : Nat) : dec bs (k + 1) = wd bs 0 :: dec (bs.drop 4) k := by
  simp only [dec, List.range_succ_eq_map, List.map_cons, List.map_map]
  congr 1
  exact List.map_congr_left (fun j _ => (wd_drop4 bs j).symm)
theorem enc_dec : ∀ (k : Nat) (bs : List Int), Bytes bs → bs.length = 4 * k → enc (dec bs k) = bs
  | 0, bs, _, h => by
    obtain rfl : bs = [] := List.eq_nil_of_length_eq_zero (by omega)
    rfl
  | k + 1, a :: b :: c :: d :: r, hb, h => by
    rw [dec_succ, enc_cons]
    have h0 := hb a (by simp)
    have h1 := hb b (by simp)
    have h2 := hb c (by simp)
    have h3 := hb d (by simp)
    rw [show wd (a :: b :: c :: d :: r) 0 = signed (word a b c d) from rfl, four_word a b c d h0 h1 h2 h3]
    rw [show List.drop 4 (a :: b :: c :: d :: r) = r from rfl, enc_dec k r (fun x hx => hb x (by simp [hx])) (by simp at h; omega)]
    rfl
  | k + 1, [], _, h => by simp at h
  | k + 1, [_], _, h => by simp at h; omega
  | k + 1, [_, _], _, h => by simp at h; omega
  | k + 1, [_, _, _], _, h => by simp at h; omega

/-- The shape, and the numbers, that are got. -/
def gotS (bs : List Int) : List Int := if getOk bs = true then shpOf bs (dimsOf bs) else []
def gotL (bs : List Int) : List Int := if getOk bs = true then dec (bs.drop (1 + dimsOf bs)) (sizeI (shpOf bs (dimsOf bs))).toNat else []
theorem getOk_iff {bs : List Int} : getOk bs = true ↔ 1 + dimsOf bs ≤ bs.length ∧ 0 < sizeI (shpOf bs (dimsOf bs)) ∧ ((bs.length - (1 + dimsOf bs) : Nat) : Int) = 4 * sizeI (shpOf bs (dimsOf bs)) := by
  simp [getOk, and_assoc]

theorem tget_any (A : Option Addr) (n c : Nat) (bs : List Int) (w : World) (h : Lies w A n (bs.map (Value.int .u8))) (hb : Bytes bs) (hn : n ≤ 281474976710656) (hnc : n ≤ c) :
    Calls Tryz.prog 23 #[.slice A n c] w fun e w' => ∃ A1 q c1 A2 k k2, e = .returned (.tuple #[tenV A1 q c1 A2 k k2, .int .i64 (if getOk bs = true then 0 else 4)]) ∧
      Lies w' A1 q ((gotS bs).map (Value.int .i64)) ∧ Lies w' A2 k ((gotL bs).map (Value.int .i32)) ∧ q ≤ 255 ∧ k ≤ 4096 ∧ Below w.heap.size w w' := by
  have hl : bs.length = n := by have := h.len; simpa using this
  by_cases hok : getOk bs = true
  · obtain ⟨h1, h2, h3⟩ := getOk_iff.1 hok
    have hq := bytes_getD hb 0
    have hqq : bs.getD 0 0 = (dimsOf bs : Int) := by rw [dimsOf]; omega
    have hk : sizeI (shpOf bs (dimsOf bs)) = ((sizeI (shpOf bs (dimsOf bs))).toNat : Int) := by omega
    have h4 := sizeI_le (shpOf bs (dimsOf bs))
    refine (tget_ok A n c (dimsOf bs) _ bs w h hb hn hnc hqq (by omega) hk (by omega) (by omega)).mono ?_
    rintro e w' ⟨g1, c1, g2, rfl, ho1, ho2, hne, hbb⟩
    refine ⟨_, _, _, _, _, _, by rw [if_pos hok], ?_, ?_, by omega, by omega, hbb⟩
    · rw [gotS, if_pos hok]; exact lies_of_own ho1
    · rw [gotL, if_pos hok]; exact lies_of_own ho2
  · refine (tget_err A n c bs w h hb hn hnc (by simpa using hok)).mono ?_
    rintro e w' ⟨rfl, hbb⟩
    refine ⟨none, 0, 0, none, 0, 0, by rw [if_neg hok], ?_, ?_, by omega, by omega, hbb⟩
    · rw [gotS, if_neg hok]; exact lies_empty
    · rw [gotL, if_neg hok]; exact lies_empty

theorem ok_len {s l : List Int} (h : tenOk s l.length = true) : 0 < l.length ∧ l.length ≤ 4096 ∧ s.length ≤ 4 ∧ 0 < s.length := by
  obtain ⟨q1, q2⟩ := tenOk_iff.1 h
  have h4 := sizeI_pos q1
  have h5 := sizeI_le s
  refine ⟨by omega, by omega, by omega, by omega⟩
theorem get_back {s l : List Int} (h : tenOk s l.length = true) (hw : Words l) : getOk (tenB s l) = true ∧ gotS (tenB s l) = s ∧ gotL (tenB s l) = l := by
  obtain ⟨q1, q2⟩ := tenOk_iff.1 h
  have h1 : getOk (tenB s l) = true := by
    rw [getOk_iff, tenB_dims, tenB_shp, tenB_len]
    refine ⟨by omega, q1, by omega⟩
  refine ⟨h1, ?_, ?_⟩
  · rw [gotS, if_pos h1, tenB_dims, tenB_shp]
  · rw [gotL, if_pos h1, tenB_dims, tenB_shp, tenB_rest, q2, Int.toNat_natCast]
    exact dec_encE l hw
theorem shp_app (s l r : List Int) : dimsOf (tenB s l ++ r) = s.length ∧ shpOf (tenB s l ++ r) s.length = s := by
  constructor
  · simp [dimsOf, tenB]
  · simp [shpOf, tenB]
theorem get_more {s l : List Int} (h : tenOk s l.length = true) (x : Int) : getOk (tenB s l ++ [x]) = false := by
  obtain ⟨q1, q2⟩ := tenOk_iff.1 h
  obtain ⟨e1, e2⟩ := shp_app s l [x]
  apply Bool.eq_false_iff.2
  intro h1
  rw [getOk_iff, e1, e2, List.length_append, tenB_len] at h1
  simp at h1
  omega
theorem get_less {s l : List Int} (h : tenOk s l.length = true) : getOk ((tenB s l).take (s.length + 1 + 4 * l.length - 1)) = false := by
  obtain ⟨q1, q2⟩ := tenOk_iff.1 h
  obtain ⟨p1, _, p3, p4⟩ := ok_len h
  have hd : dimsOf ((tenB s l).take (s.length + 1 + 4 * l.length - 1)) = s.length := by
    rw [dimsOf, show ((tenB s l).take (s.length + 1 + 4 * l.length - 1)).getD 0 0 = (tenB s l).getD 0 0 by simp only [List.getD]; rw [List.getElem?_take, if_pos (by omega)]]
    exact tenB_dims s l
  have hs : shpOf ((tenB s l).take (s.length + 1 + 4 * l.length - 1)) s.length = s := by
    rw [shpOf, List.drop_take, List.take_take, Nat.min_eq_left (by omega)]
    exact tenB_shp s l
  apply Bool.eq_false_iff.2
  intro h1
  rw [getOk_iff, hd, hs, List.length_take, tenB_len] at h1
  omega
theorem put_got {bs : List Int} (hb : Bytes bs) (h : getOk bs = true) : tenOk (gotS bs) (gotL bs).length = true ∧ tenB (gotS bs) (gotL bs) = bs := by
  obtain ⟨h1, h2, h3⟩ := getOk_iff.1 h
  have hl : (gotL bs).length = (sizeI (shpOf bs (dimsOf bs))).toNat := by rw [gotL, if_pos h, dec_len]
  have hs : gotS bs = shpOf bs (dimsOf bs) := by rw [gotS, if_pos h]
  refine ⟨?_, ?_⟩
  · rw [tenOk_iff, hl, hs]
    omega
  · rw [tenB, hs, gotL, if_pos h, enc_dec _ _ (fun x hx => hb x (List.mem_of_mem_drop hx)) (by rw [List.length_drop]; omega), shpOf_len h1, shpOf]
    have hq := bytes_getD hb 0
    have e0 : bs.getD 0 0 = (dimsOf bs : Int) := by rw [dimsOf]; omega
    rw [← e0]
    cases bs with
    | nil => simp at h1
    | cons x r =>
      simp only [List.drop_succ_cons, List.drop_zero, List.getD_cons_zero, List.cons_append]
      rw [Nat.add_comm, List.drop_succ_cons, List.take_append_drop]
theorem putB_got {bs : List Int} (hb : Bytes bs) (h : getOk bs = true) {k : Nat} (hk : (gotL bs).length = k) : tenOk (gotS bs) k = true ∧ putB (gotS bs) (gotL bs) k = bs := by
  subst hk
  obtain ⟨h1, h2⟩ := put_got hb h
  exact ⟨h1, by rw [putB, if_pos h1, h2]⟩
end Go.Proofs.YtaoobdnbjagpnaaGreatDoor
