/- Merged: Tx15, Tx16, Mo13, Mo15, Mo14, Mt11p. -/
import Derived.Test.YtohndckbhjakfaaGreatDoorWZ40
import Derived.Test.YtohndckbhjakfaaGreatDoorWZ32
import Derived.Lib.FrozenHead
import Derived.Test.YtohndckbhjakfaaGreatDoorWZ05
import Derived.Test.YtohndckbhjakfaaGreatDoorWZ27
import Derived.Test.YtohndckbhjakfaaGreatDoorWZ34
import Derived.Test.YtohndckbhjakfaaGreatDoorWZ31
import Derived.Deep.RegionLaw
namespace Go.Proofs.YtohndckbhjakfaaGreatDoor

section
open Go.RowKit
set_option linter.unusedVariables false
set_option linter.unusedSimpArgs false
set_option maxRecDepth 100000

theorem part_len : ∀ k, k < 14 → ∀ p ∈ partsB k, p.length ≤ 21 := by decide

theorem word_len (x : Tn) (h : FormT x) (w : Wd) (hw : w ∈ wordsB x) : w.length ≤ 21 := by
  obtain ⟨hx, hs, hN, hP, hK⟩ := h
  have hi : ∀ n : Int, 0 ≤ n ∧ n < 1000000000 → (Lib.itoa n).length ≤ 21 := fun n hn => Lib.itoa_length_le n (by omega) (by omega)
  have h0 : ∀ (l : List Int) (j : Nat), Small l → (Lib.itoa (l.getD j 0)).length ≤ 21 := fun l j hl => by
    rw [List.getD_eq_getElem?_getD]
    cases hk : l[j]? with
    | none => exact hi 0 (by omega)
    | some n => exact hi n (hl n (List.mem_of_getElem? hk))
  rw [wordsB, List.mem_flatMap] at hw
  obtain ⟨p, hp, hw⟩ := hw
  have hpc := part_len x.kd hK.lt.2 p hp
  rw [stepW] at hw
  repeat' split at hw
  · simp only [List.mem_singleton] at hw; subst hw; exact h0 _ 0 hx
  · simp only [List.mem_singleton] at hw; subst hw; exact h0 _ 1 hx
  · obtain ⟨n, hn, rfl⟩ := List.mem_map.1 hw; exact hi n (hx n hn)
  · obtain ⟨n, hn, rfl⟩ := List.mem_map.1 hw; exact hi n (hs n hn)
  · simp only [List.mem_singleton] at hw; subst hw; exact hi _ hN
  · simp only [List.mem_singleton] at hw; subst hw; exact hi _ hP
  · simp only [List.mem_singleton] at hw; subst hw; exact hpc

theorem join_le (m : Nat) : ∀ ws : List Wd, (∀ w ∈ ws, w.length ≤ m) → (Lib.join ws [32]).length ≤ (m + 1) * ws.length
  | [], _ => by simp [Lib.join_nil]
  | [w], h => by rw [Lib.join_one]; have := h w (by simp); simp; omega
  | w :: v :: r, h => by
    have ih := join_le m (v :: r) (fun u hu => h u (by simp [hu]))
    have hw := h w (by simp)
    have e : Lib.join (w :: v :: r) [32] = w ++ 32 :: Lib.join (v :: r) [32] := by
      rw [Lib.join_cons, Lib.join_cons, Lib.joinTail, Lib.joinTail]; simp
    rw [e]
    simp only [List.length_append, List.length_cons] at ih ⊢
    have h3 : (m + 1) * (r.length + 1 + 1) = (m + 1) * (r.length + 1) + (m + 1) := by rw [Nat.mul_add]; omega
    omega

theorem words_many (x : Tn) (h : FormT x) (hx : x.xs.length < 256) (hs : x.sh.length < 256) : (wordsB x).length ≤ 25600 := by
  have := flatW_len x hx hs (partsB x.kd)
  have := parts_len x.kd h.2.2.2.2.lt.2
  rw [wordsB]
  omega

theorem line_len (x : Tn) (h : FormT x) (hx : x.xs.length < 256) (hs : x.sh.length < 256) : (lineB x).length ≤ 563200 := by
  have h1 := join_le 21 (wordsB x) (word_len x h)
  have h2 := words_many x h hx hs
  rw [lineB]
  omega

theorem text_len : ∀ ns : List Tn, (∀ x ∈ ns, FormT x ∧ ByteT x) → (textB ns).length ≤ 563201 * ns.length
  | [], _ => by simp [textB]
  | x :: r, h => by
    have h1 := line_len x (h x (by simp)).1 (h x (by simp)).2.2.1.1 (h x (by simp)).2.2.2.1.1
    have h2 := text_len r (fun y hy => h y (by simp [hy]))
    rw [text_cons, List.length_append, List.length_cons, List.length_cons]
    omega

theorem join_any (ws : List Wd) (hws : 1 ≤ ws.length) (hl : (Lib.join ws [32]).length ≤ 140737488355328) (hn : ws.length ≤ 25600) (A : Option Addr) (c : Nat) (base : Nat) (w : World) (ho : w.ownsRow base 9 1 (.slice A ws.length c) ws.length (ws.map strV)) : Calls Tryz.prog 39 #[.slice A ws.length c, .string ⟨#[32]⟩] w fun e w' => e = .returned (strV (Lib.join ws [32])) ∧ Below w.heap.size w w' := by
  have hli := lies_of_own ho
  have hnc := own_le ho
  obtain ⟨b, o, rfl, hlt, hcs⟩ := hli.cells hws
  have e1 : (ws.map (fun x => (⟨x.toArray⟩ : ByteArray))).map (fun x => x.data.toList) = ws := by rw [List.map_map]; exact (List.map_congr_left (fun x _ => by simp)).trans (List.map_id ws)
  have e2 : (⟨#[32]⟩ : ByteArray).data.toList = [32] := rfl
  have c := Tryz.strings_Join b o c (ws.map (fun x => (⟨x.toArray⟩ : ByteArray))) ⟨#[32]⟩ w (fun j x hj => by
    rw [List.getElem?_map] at hj
    obtain ⟨y, hy, rfl⟩ := Option.map_eq_some_iff.1 hj
    have := hcs j (List.getElem?_eq_some_iff.1 hy).1
    rw [List.getElem?_map, hy] at this
    exact this) hlt (by rw [List.length_map]; omega) (by rw [List.length_map]; exact hnc) (by rw [e1, e2]; exact hl)
  rw [e1, e2, List.length_map] at c
  exact c

theorem bldAt_on {T e : TypeId} {B b : Nat} {p : Value} {bs : List Value} {W W' : World} (h : Lib.BuilderAtF T e B b p bs W) (hb : Below W.heap.size W W') : Lib.BuilderAtF T e B b p bs W' := by
  have hlt := h.lt
  obtain ⟨hB, v, hv, hown, hne⟩ := h
  exact ⟨hB, v, (hb.block b hlt).trans hv, hown.kept (row := none) ⟨hb.os, hb.tape, hb.output, hb.size, fun k hk _ => hb.block k hk⟩ (Classical.em _), hne⟩

theorem bld_on {T e : TypeId} {B b : Nat} {bs : List Value} {W W' : World} (h : Lib.IsBuilderF T e B b bs W) (hb : Below W.heap.size W W') : Lib.IsBuilderF T e B b bs W' :=
  h.elim (fun x => .inl (bldAt_on x hb)) (fun x => .inr (bldAt_on x hb))

theorem build_new (w : World) : Lib.IsBuilderF 87 5 w.heap.size w.heap.size (Lib.byteCells []) (w.alloc (.cells #[.pointer none, .slice none 0 0] 87)) :=
  .inl ⟨Nat.le_refl _, .slice none 0 0, heap_alloc_new w _, World.ownsRowF_of (World.ownsRow_nil _ _ _ _), fun h => by cases h⟩

theorem write_any (B b : Nat) (l x : Wd) (w : World) (h : Lib.IsBuilderF 87 5 B b (Lib.byteCells l) w) (hl : l.length + x.length ≤ 140737488355328) (hB : B ≤ w.heap.size) : Calls Tryz.prog 38 #[.pointer (some ⟨b, 0, none⟩), strV x] w fun e w' => e = .returned (.tuple #[.int .i64 x.length, .nilIface]) ∧ Lib.IsBuilderF 87 5 B b (Lib.byteCells (l ++ x)) w' ∧ Below B w w' := by
  have hz : (⟨x.toArray⟩ : ByteArray).size = x.length := by simp [ByteArray.size]
  have c := Tryz.Builder_WriteString_f B b (Lib.byteCells l) ⟨x.toArray⟩ w h (by rw [Lib.byteCells_length, hz]; exact hl) hB
  have e : Lib.byteCells l ++ Lib.strCells ⟨x.toArray⟩ = Lib.byteCells (l ++ x) := by simp [Lib.byteCells, Lib.strCells]
  rw [hz, e] at c
  exact c.mono fun e w' ⟨he, hb, hbl⟩ => ⟨he, .inr hb, hbl⟩

/-- What Text comes to. -/
def TextE (ns : List Nd) (w : World) (e : Ending) (w' : World) : Prop :=
  Below w.heap.size w w' ∧ ((gphB ns = true ∧ e = .returned (.tuple #[strV (textB (ns.map Nd.tn)), .int .i64 0])) ∨ (gphB ns = false ∧ e = .returned (.tuple #[.string ⟨#[]⟩, .int .i64 1])))

set_option maxHeartbeats 16000000 in
theorem text_any (A : Option Addr) (n c : Nat) (ns : List Nd) (w : World) (h : NsIn w A n ns) (hn : n ≤ 1073741824) (hc : n ≤ c) (hv : LaidV w) : Calls Tryz.prog 18 #[.agg #[.slice A n c]] w (TextE ns w) := by
  obtain ⟨W1, hW1⟩ : ∃ W, W = w.alloc (.cells #[.slice A n c] 24) := ⟨_, rfl⟩
  have hB1 : Below w.heap.size w W1 := by rw [hW1]; exact (Below.refl _ _).alloc (Nat.le_refl _) _
  have hg1 : W1.heap[w.heap.size]? = some (.cells #[.slice A n c] 24 (0, 0)) := by rw [hW1]; exact heap_alloc_new w _
  have hq0 := cell_of_row _ _ 0 _ _ (0, 0) hg1
  have HC := hide (gcheck_any A n c ns W1 (h.below hB1) hn hc)
  have HN := hide h
  have HV := hide hv
  have HB1 := hide hB1
  have HG1 := hide hg1
  have hW1' := hW1.symm
  clear hW1 hB1 hg1 h hv
  cases hgb : gphB ns with
  | false =>
    rw [hgb] at HC
    have HGB := hide hgb
    clear hgb
    go_enter Tryz.func18, Tryz.ntmps18
    go_wp2_with (go_at_call 9; refine HC.out.mono ?_; rintro e w4 ⟨rfl, hb4⟩)
    go_ret2
    exact ⟨HB1.out.trans (hb4.mono HB1.out.size), .inr ⟨HGB.out, rfl⟩⟩
  | true =>
    obtain ⟨hn32, hform⟩ := gph_form hgb
    rw [hgb] at HC
    have HGB := hide hgb
    have HFM := hide hform
    have hnl : ns.length = n := HN.out.1
    have HNL := hide hnl
    rw [hnl] at hn32
    clear hgb hform hnl
    go_enter Tryz.func18, Tryz.ntmps18
    go_wp2_with (go_at_call 9; refine HC.out.mono ?_; rintro e w4 ⟨rfl, hb4⟩; have hq4 := cell_of_row _ _ 0 _ _ (0, 0) ((hb4.block w.heap.size (lt_of_heap HG1.out)).trans HG1.out); obtain ⟨W5, hW5⟩ : ∃ W, w4.alloc (.cells #[.pointer none, .slice none 0 0] 87) = W := ⟨_, rfl⟩; have hb5 : Below w4.heap.size w4 W5 := (by rw [← hW5]; exact (Below.refl _ _).alloc (Nat.le_refl _) _); have hq5 := cell_of_row _ _ 0 _ _ (0, 0) ((hb5.block w.heap.size (Nat.lt_of_lt_of_le (lt_of_heap HG1.out) hb4.size)).trans ((hb4.block w.heap.size (lt_of_heap HG1.out)).trans HG1.out)))
    obtain ⟨b, hb⟩ : ∃ b, b = w4.heap.size := ⟨_, rfl⟩
    have hwb := hb4.size
    have HB4 := hide (HB1.out.trans (hb4.mono HB1.out.size))
    have HBE := hide hb
    have HI0 : Hid (Lib.IsBuilderF 87 5 b b (Lib.byteCells (textB ((ns.take 0).map Nd.tn))) W5) := hide (by
      rw [← hW5, hb]
      exact build_new w4)
    have HB5 : Hid (Below b w4 W5) := hide (by rw [hb]; exact hb5)
    have HS5 : Hid (b ≤ W5.heap.size) := hide (by rw [hb]; exact hb5.size)
    have hwb2 : w.heap.size ≤ b := by rw [hb]; exact HB4.out.size
    have HTL : Hid (∀ k, (textB ((ns.take k).map Nd.tn)).length ≤ 100000000) := hide (fun k => by
      have h1 := text_len ((ns.take k).map Nd.tn) (fun y hy => by
        obtain ⟨z, hz, rfl⟩ := List.mem_map.1 hy
        exact HFM.out z (List.mem_of_mem_take hz))
      rw [List.length_map, List.length_take, HNL.out] at h1
      have := Nat.min_le_right k n
      have : 563201 * min k n ≤ 563201 * 32 := Nat.mul_le_mul_left _ (by omega)
      omega)
    rw [← hb]
    clear hb hb4 hb5 hW5 hW1' hq0 hq4 hq5 HC HG1 hwb
    go_loopw [13] (fun i wr => ∃ (k : Nat), k ≤ n ∧ i = .int .i64 k ∧ Hid (Lib.IsBuilderF 87 5 b b (Lib.byteCells (textB ((ns.take k).map Nd.tn))) wr) ∧ Hid (Below b w4 wr) ∧ Hid (b ≤ wr.heap.size)) (fun i _ => n - (intOf i).toNat)
    case atStart => exact ⟨0, Nat.zero_le _, rfl, HI0, HB5, HS5⟩
    case round =>
      obtain ⟨k, hkn, rfl, HI, HB, HS⟩ := hrel
      by_cases hlt : k < n
      · have hbw : Below w.heap.size w wr := HB4.out.trans (HB.out.mono hwb2)
        obtain ⟨b0, o, x, rfl, hxk, h0, h1, h2, h3, h4, hok⟩ := (HN.out.below hbw).at hlt
        have hmem := List.mem_of_getElem? hxk
        obtain ⟨hf, hby⟩ := HFM.out x hmem
        have htk : textB ((ns.take (k + 1)).map Nd.tn) = textB ((ns.take k).map Nd.tn) ++ lineB x.tn ++ [10] := by
          rw [List.take_add_one, hxk, List.map_append, textB, List.flatMap_append]
          simp [textB]
        have f0 : (0 : Int) ≤ (k : Int) := by omega
        have f1 : (k : Int) < (n : Int) := by omega
        have hll := line_len x.tn hf hby.2.1.1 hby.2.2.1.1
        obtain ⟨W6, hW6⟩ : ∃ W, wr.alloc (.cells #[.int .u8 x.kd, .slice x.I x.ni x.ci, .slice x.S x.ns x.cs, .int .i64 x.N, .int .i64 x.P] 44) = W := ⟨_, rfl⟩
        have hb6 : Below wr.heap.size wr W6 := by rw [← hW6]; exact (Below.refl _ _).alloc (Nat.le_refl _) _
        have hbn := BoxN.new wr x
        rw [hW6] at hbn
        have hcs := hbn.cs
        have HW := hide (wordsOf_any x W6 ((HV.out.below hbw).below hb6) (hok.below hb6) hf hby.2.1.1 hby.2.2.1.1)
        have HI6 := hide (bld_on HI.out hb6)
        have HB6 := hide (HB.out.trans (hb6.mono HS.out))
        have HS6 : Hid (b ≤ W6.heap.size) := hide (Nat.le_trans HS.out hb6.size)
        have HWN := hide (words_ne x.tn hf.2.2.2.2.lt)
        have HWM := hide (words_many x.tn hf hby.2.1.1 hby.2.2.1.1)
        have HLL : Hid ((Lib.join (wordsB x.tn) [32]).length ≤ 563200) := hide hll
        have HTK := hide htk
        unfold Nd.v at HW
        clear htk hf hby hmem hxk hok hbw hbn hb6 hll
        go_wp2_with (first | (go_at_call 40; refine HW.out.mono ?_; rintro e w7 ⟨A7, c7, rfl, ho7, hb7⟩; have HI7 := hide (bld_on HI6.out hb7); have HJ := hide (join_any (wordsB x.tn) (List.length_pos_iff.2 HWN.out) (Nat.le_trans HLL.out (by omega)) HWM.out A7 c7 _ w7 ho7)) | (go_at_call 39; refine HJ.out.mono ?_; rintro e w8 ⟨rfl, hb8⟩; have HI8 := hide (bld_on HI7.out hb8); have HS8 : Hid (b ≤ w8.heap.size) := hide (Nat.le_trans HS6.out (Nat.le_trans hb7.size hb8.size)); have HWR := hide (write_any b b (textB ((ns.take k).map Nd.tn)) (Lib.join (wordsB x.tn) [32]) w8 HI8.out (by have := HTL.out k; have := HLL.out; omega) HS8.out)) | fail)
        have HB8 := hide (HB6.out.trans ((hb7.mono HS6.out).trans (hb8.mono (Nat.le_trans HS6.out hb7.size))))
        clear ho7 hb7 hb8
        refine HWR.out.mono ?_
        rintro e w9 ⟨rfl, hi9, hb9⟩
        have HWR2 := hide (write_any b b (textB ((ns.take k).map Nd.tn) ++ Lib.join (wordsB x.tn) [32]) [10] w9 hi9 (by have := HTL.out k; have := HLL.out; simp only [List.length_append, List.length_cons, List.length_nil]; omega) (Nat.le_trans HS8.out hb9.size))
        (try dsimp only)
        go_wp2_with (go_at_call 38; refine HWR2.out.mono ?_; rintro e w10 ⟨rfl, hi10, hb10⟩)
        have HI10 : Hid (Lib.IsBuilderF 87 5 b b (Lib.byteCells (textB ((ns.take (k + 1)).map Nd.tn))) w10) := hide (by rw [HTK.out]; exact hi10)
        have HB10 : Hid (Below b w4 w10) := hide (HB8.out.trans (hb9.trans hb10))
        have HS10 : Hid (b ≤ w10.heap.size) := hide (Nat.le_trans HS8.out (Nat.le_trans hb9.size hb10.size))
        clear hi10 hi9
        go_roundw
        case rel => exact ⟨k + 1, by omega, by go_num, HI10, HB10, HS10⟩
        case measure => simp [intOf]; omega
      · obtain rfl : k = n := by omega
        have hall : ns.take k = ns := List.take_of_length_le (by rw [HNL.out]; exact Nat.le_refl _)
        have hi := HI.out
        rw [hall] at hi
        have HS9 := hide (Tryz.Builder_String_any_f b b (textB (ns.map Nd.tn)) wr hi HS.out)
        go_wp2_with (go_at_call 41; refine HS9.out.mono ?_; rintro e w9 ⟨rfl, _, hb9⟩)
        go_ret2
        exact ⟨HB4.out.trans ((HB.out.trans hb9).mono hwb2), .inl ⟨HGB.out, rfl⟩⟩

end

section
open Go.RowKit
set_option linter.unusedVariables false
set_option linter.unusedSimpArgs false
set_option maxRecDepth 100000

end

section
open Go.RowKit
set_option linter.unusedVariables false
set_option linter.unusedSimpArgs false
set_option maxRecDepth 100000

/-- A weight in plain words. -/
def Wt.pw (t : Wt) : List Int × List Int := (t.s, t.l)

end

section
open Go.RowKit
set_option linter.unusedVariables false
set_option linter.unusedSimpArgs false
set_option maxRecDepth 100000

theorem xorL_append : ∀ (a b c d : List Int), a.length = b.length → xorL (a ++ c) (b ++ d) = xorL a b ++ xorL c d
  | [], [], c, d, _ => rfl
  | x :: a, y :: b, c, d, h => by
    rw [List.cons_append, List.cons_append, xorL, xorL, List.cons_append, xorL_append a b c d (by simpa using h)]
  | [], _ :: _, _, _, h => by simp at h
  | _ :: _, [], _, _, h => by simp at h

theorem xorL_noughts : ∀ (a : List Int), (∀ x ∈ a, 0 ≤ x) → xorL a (List.replicate a.length 0) = a
  | [], _ => rfl
  | x :: a, h => by
    rw [List.length_cons, List.replicate_succ, xorL, xorL_noughts a (fun y hy => h y (List.mem_cons_of_mem _ hy))]
    have := h x (List.mem_cons_self ..)
    congr 1
    simp
    omega

/-- Turned within the bytes ahead of the sum. -/
theorem turned_in {I : List Int} {k m b : Nat} (hI : ByteL I) (hl : I.length = k + 4 + m) (hb : b < 4294967296) (S : List Int) (hS : S.length = 4) (hS0 : ∀ x ∈ S, 0 ≤ x) :
    (xorL (I ++ S) (turnC k (b : Int) (m + 4))).take I.length = xorL I (turnC k (b : Int) m) ∧ (xorL (I ++ S) (turnC k (b : Int) (m + 4))).drop I.length = S ∧ (sumOf (xorL I (turnC k (b : Int) m)) = sumOf I ↔ b = 0) := by
  have e : turnC k (b : Int) (m + 4) = turnC k (b : Int) m ++ List.replicate S.length 0 := by
    rw [turnC, turnC, hS, List.append_assoc, List.append_assoc, List.replicate_append_replicate]
  have hlt : (turnC k (b : Int) m).length = I.length := by simp [turnC, four_len]; omega
  have h1 : xorL (I ++ S) (turnC k (b : Int) (m + 4)) = xorL I (turnC k (b : Int) m) ++ S := by
    rw [e, xorL_append _ _ _ _ hlt.symm, xorL_noughts S hS0]
  have h2 : (xorL I (turnC k (b : Int) m)).length = I.length := xorL_len _ _ hlt.symm
  refine ⟨by rw [h1]; exact List.take_left' h2, by rw [h1]; exact List.drop_left' h2, ?_⟩
  rw [eq_comm]
  exact turn_iff I k m b hl hb

theorem byte_xor (a b j : Nat) : a / 2 ^ j % 256 ^^^ b / 2 ^ j % 256 = (a ^^^ b) / 2 ^ j % 256 := by
  rw [Nat.xor_div_two_pow, show (256 : Nat) = 2 ^ 8 by rfl, Nat.xor_mod_two_pow]

theorem xor_four (a b : Nat) : xorL (four (a : Int)) (four (b : Int)) = four ((a ^^^ b : Nat) : Int) := by
  have h0 := byte_xor a b 0
  have h1 := byte_xor a b 8
  have h2 := byte_xor a b 16
  have h3 := byte_xor a b 24
  simp only [Nat.reducePow, Nat.div_one] at h0 h1 h2 h3
  have e : ∀ (n d : Nat), ((n : Int) / (d : Int) % 256).toNat = n / d % 256 := fun n d => by
    have : (n : Int) / (d : Int) % 256 = ((n / d % 256 : Nat) : Int) := by push_cast; rfl
    rw [this, Int.toNat_natCast]
  have c : ∀ (n d : Nat), (n : Int) / (d : Int) % 256 = ((n / d % 256 : Nat) : Int) := fun n d => by push_cast; rfl
  have e0 : ∀ n : Nat, ((n : Int) % 256).toNat = n % 256 := fun n => by omega
  have c0 : ∀ n : Nat, (n : Int) % 256 = ((n % 256 : Nat) : Int) := fun n => by push_cast; rfl
  have f1 : ∀ n : Nat, (n : Int) / 256 % 256 = ((n / 256 % 256 : Nat) : Int) := fun n => c n 256
  have f2 : ∀ n : Nat, (n : Int) / 65536 % 256 = ((n / 65536 % 256 : Nat) : Int) := fun n => c n 65536
  have f3 : ∀ n : Nat, (n : Int) / 16777216 % 256 = ((n / 16777216 % 256 : Nat) : Int) := fun n => c n 16777216
  unfold four
  rw [xorL, xorL, xorL, xorL, xorL, c0 a, c0 b, c0 (a ^^^ b), f1 a, f1 b, f1 (a ^^^ b), f2 a, f2 b, f2 (a ^^^ b), f3 a, f3 b, f3 (a ^^^ b)]
  simp only [Int.toNat_natCast]
  rw [h0, h1, h2, h3]
  all_goals simp

/-- Turned within the sum. -/
theorem turned_sum {I : List Int} {S b : Nat} (hI : ∀ x ∈ I, 0 ≤ x) (hS : S < 4294967296) (hb : b < 4294967296) :
    (xorL (I ++ four (S : Int)) (turnC I.length (b : Int) 0)).take I.length = I ∧ head4 ((xorL (I ++ four (S : Int)) (turnC I.length (b : Int) 0)).drop I.length) = ((S ^^^ b : Nat) : Int) ∧ (S ^^^ b = S ↔ b = 0) := by
  have e : turnC I.length (b : Int) 0 = List.replicate I.length 0 ++ four (b : Int) := by simp [turnC]
  have h1 : xorL (I ++ four (S : Int)) (turnC I.length (b : Int) 0) = I ++ four ((S ^^^ b : Nat) : Int) := by
    rw [e, xorL_append _ _ _ _ (by simp), xorL_noughts I hI, xor_four]
  have hx : S ^^^ b < 4294967296 := Nat.xor_lt_two_pow (n := 32) hS hb
  refine ⟨by rw [h1]; exact List.take_left' rfl, ?_, ⟨xor_same_left, fun h => by rw [h, Nat.xor_zero]⟩⟩
  rw [h1, List.drop_left' rfl]
  have := head4_four ((S ^^^ b : Nat) : Int) [] (by omega) (by omega)
  rwa [List.append_nil] at this

end

section
open Go.RowKit
set_option linter.unusedVariables false
set_option linter.unusedSimpArgs false
set_option maxRecDepth 100000

theorem WsIn.all {w : World} {A : Option Addr} {n : Nat} {ts : List Wt} (h : WsIn w A n ts) : ∀ t ∈ ts, t.l.length = t.m ∧ Words t.l := by
  intro t ht
  obtain ⟨j, hj⟩ := List.getElem?_of_mem ht
  have hl := (List.getElem?_eq_some_iff.1 hj).1
  obtain ⟨_, _, u, _, hu, _, _, ho⟩ := h.at (k := j) (by rw [← h.1]; exact hl)
  rw [hj] at hu
  cases hu
  exact ⟨lies_len9 ho.1.2, ho.2.2.2⟩

set_option maxHeartbeats 1000000 in
theorem mput_any (A B : Option Addr) (n c m d : Nat) (ns : List Nd) (ts : List Wt) (w : World) (h : NsIn w A n ns) (hn : n ≤ 1073741824) (hc : n ≤ c) (hW : WsIn w B m ts) (hm : m ≤ 70368744177664) :
    Calls Tryz.prog 8 #[.agg #[.slice A n c, .slice B m d]] w fun e w' => ∃ (A' : Option Addr) (k c' : Nat) (z : Int), e = .returned (.tuple #[.slice A' k c', .int .i64 z]) ∧ (mdB ns ts = false → k = 0 ∧ z = 1) ∧ (mdB ns ts = true → z = 0 ∧ w'.ownsRow w.heap.size 5 1 (.slice A' k c') k ((mdP ns ts).map (Value.int .u8)) ∧ k ≤ 1000000) ∧ Below w.heap.size w w' := by
  cases hb : mdB ns ts with
  | false =>
    refine Calls.mono (mput_no A B n c m d ns ts w h hn hc hW hm hb) ?_
    rintro e w' ⟨rfl, hbe⟩
    exact ⟨none, 0, 0, 1, rfl, fun _ => ⟨rfl, rfl⟩, (fun h => by cases h), hbe⟩
  | true =>
    refine Calls.mono (mput_ok A B n c m d ns ts w h hn hc hW hm hb) ?_
    rintro e w' ⟨A', k, c', rfl, ho, hk, hbe⟩
    exact ⟨A', k, c', 0, rfl, (fun h => by cases h), fun _ => ⟨rfl, ho, hk⟩, hbe⟩

end

section
open Go.RowKit
set_option linter.unusedVariables false
set_option linter.unusedSimpArgs false
set_option maxRecDepth 100000

/-- The copy, of which j bytes from k on have turned. -/
def turned (xs : List Int) (k : Nat) (b : Int) : Nat → List Int
  | 0 => xs
  | j + 1 => (turned xs k b j).set (k + j) ((((turned xs k b j).getD (k + j) 0).toNat ^^^ ((four b).getD j 0).toNat : Nat) : Int)

theorem turned_len (xs : List Int) (k : Nat) (b : Int) (j : Nat) : (turned xs k b j).length = xs.length := by
  induction j with
  | zero => rfl
  | succ j ih => rw [turned, List.length_set, ih]

theorem set_getD (l : List Int) (p j : Nat) (v : Int) (hp : p < l.length) : (l.set p v).getD j 0 = if p = j then v else l.getD j 0 := by
  simp only [List.getD, List.getElem?_set]
  by_cases e : p = j
  · subst e; simp [hp]
  · simp [e]

theorem turned_getD (xs : List Int) (k : Nat) (b : Int) (j : Nat) (hk : k + j ≤ xs.length) (i : Nat) :
    (turned xs k b j).getD i 0 = if k ≤ i ∧ i < k + j then (((xs.getD i 0).toNat ^^^ ((four b).getD (i - k) 0).toNat : Nat) : Int) else xs.getD i 0 := by
  induction j generalizing i with
  | zero => rw [turned, if_neg (by omega)]
  | succ j ih =>
    have h0 := ih (by omega) (k + j)
    rw [if_neg (by omega)] at h0
    rw [turned, set_getD _ _ _ _ (by rw [turned_len]; omega), h0]
    by_cases e : k + j = i
    · subst e
      rw [if_pos rfl, if_pos (by omega), show k + j - k = j by omega]
    · rw [if_neg e, ih (by omega) i]
      by_cases h : k ≤ i ∧ i < k + j
      · rw [if_pos h, if_pos (by omega)]
      · rw [if_neg h, if_neg (by omega)]

theorem turnL_getD (k m : Nat) (b : Int) (i : Nat) : (turnC k b m).getD i 0 = if k ≤ i ∧ i < k + 4 then (four b).getD (i - k) 0 else 0 := by
  unfold turnC
  simp only [List.getD]
  by_cases h1 : i < k
  · rw [List.getElem?_append_left (by simpa using h1), if_neg (by omega)]
    simp [h1]
  · rw [List.getElem?_append_right (by simp; omega), List.length_replicate]
    by_cases h2 : i < k + 4
    · rw [if_pos (by omega), List.getElem?_append_left (by rw [four_len]; omega)]
    · rw [if_neg (by omega), List.getElem?_append_right (by rw [four_len]; omega), four_len, List.getElem?_replicate]
      split <;> rfl

theorem ext_getD (xs ys : List Int) (h : xs.length = ys.length) (hg : ∀ i, xs.getD i 0 = ys.getD i 0) : xs = ys := by
  apply List.ext_getElem h
  intro i h1 h2
  have := hg i
  simpa [List.getD, h1, h2] using this

theorem turned_all (xs : List Int) (k m : Nat) (b : Int) (hl : xs.length = k + 4 + m) (hx : ByteL xs) : turned xs k b 4 = xorL xs (turnC k b m) := by
  have hll : xs.length = (turnC k b m).length := by simp [turnC, four_len]; omega
  apply ext_getD
  · rw [turned_len, xorL_len _ _ hll]
  · intro i
    rw [turned_getD xs k b 4 (by omega), xorL_getD _ _ hll, turnL_getD]
    have hb := bytes_getD (bs := xs) hx i
    by_cases h : k ≤ i ∧ i < k + 4
    · rw [if_pos h, if_pos h]
    · rw [if_neg h, if_neg h, show (0 : Int).toNat = 0 from rfl, Nat.xor_zero, Int.toNat_of_nonneg hb.1]

theorem turned_byteL (xs : List Int) (k : Nat) (b : Int) (j : Nat) (hx : ByteL xs) : ByteL (turned xs k b j) := by
  induction j with
  | zero => exact hx
  | succ j ih =>
    intro z hz
    rw [turned] at hz
    rcases List.mem_or_eq_of_mem_set hz with hz | rfl
    · exact ih z hz
    · have h1 := bytes_getD (bs := turned xs k b j) ih (k + j)
      have h2 := bytes_getD (bs := four b) (four_bytes b) j
      have : ((turned xs k b j).getD (k + j) 0).toNat ^^^ ((four b).getD j 0).toNat < 2 ^ 8 := Nat.xor_lt_two_pow (by omega) (by omega)
      omega

def fourV11 (b : Int) : List Value := (four b).map (Value.int .u8)

def turnedV (xs : List Int) (k : Nat) (b : Int) (j : Nat) : List Value := (turned xs k b j).map (Value.int .u8)

theorem fourV11_at (b : Int) (j : Nat) (h : j < 4) : (fourV11 b)[j]? = some (.int .u8 ((four b).getD j 0)) := by
  have : j < (four b).length := h
  simp [fourV11, List.getD, this]

theorem stored_turned {w : World} {base : Nat} {e : TypeId} {g n c j k : Nat} {xs : List Int} {b x y : Int} (ho : w.ownsRow base e 1 (.slice (some ⟨g, 0, none⟩) n c) n (turnedV xs k b j))
    (hx : x = (turned xs k b j).getD (k + j) 0) (hy : y = (four b).getD j 0) :
    (w.setCell ⟨g, k + j, none⟩ (.int .u8 ((x.toNat ^^^ y.toNat : Nat) : Int))).ownsRow base e 1 (.slice (some ⟨g, 0, none⟩) n c) n (turnedV xs k b (j + 1)) := by
  have h := (ho.stored (k + j) (.int .u8 ((x.toNat ^^^ y.toNat : Nat) : Int))).1
  have he : (turnedV xs k b j).set (k + j) (.int .u8 ((x.toNat ^^^ y.toNat : Nat) : Int)) = turnedV xs k b (j + 1) := by
    unfold turnedV
    rw [turned, List.map_set, ← hx, ← hy]
  rw [he] at h
  exact h

theorem turned_zero (xs : List Int) (k m : Nat) (hl : xs.length = k + 4 + m) (hx : ByteL xs) : turned xs k 0 4 = xs := by
  rw [turned_all xs k m 0 hl hx]
  have e : turnC k 0 m = List.replicate xs.length 0 := by
    have h4 : four 0 = List.replicate 4 0 := by decide
    rw [turnC, h4, List.replicate_append_replicate, List.replicate_append_replicate, hl]
    congr 1
    omega
  rw [e]
  exact xorL_noughts xs (fun x h => (hx x h).1)

theorem turned_sum11 {I : List Int} {k b : Nat} (hI : ByteL I) (hk : k + 4 ≤ I.length ∨ k = I.length) (hb : b < 4294967296) (h0 : b ≠ 0) :
    head4 ((turned (I ++ four ((sumOf I : Nat) : Int)) k (b : Int) 4).drop I.length) ≠ ((sumOf ((turned (I ++ four ((sumOf I : Nat) : Int)) k (b : Int) 4).take I.length) : Nat) : Int) := by
  have hS := sumOf_lt hI
  have hfl : (four ((sumOf I : Nat) : Int)).length = 4 := four_len _
  have hbl : ByteL (I ++ four ((sumOf I : Nat) : Int)) := byteL_append hI (four_byteL _)
  have hh : head4 (four ((sumOf I : Nat) : Int)) = ((sumOf I : Nat) : Int) := by
    have := head4_four ((sumOf I : Nat) : Int) [] (by omega) (by omega)
    rwa [List.append_nil] at this
  rcases hk with hk | hk
  · have hl : (I ++ four ((sumOf I : Nat) : Int)).length = k + 4 + ((I.length - k - 4) + 4) := by rw [List.length_append, hfl]; omega
    rw [turned_all _ k _ (b : Int) hl hbl]
    obtain ⟨e1, e2, e3⟩ := turned_in (I := I) (k := k) (m := I.length - k - 4) (b := b) hI (by omega) hb (four ((sumOf I : Nat) : Int)) hfl (fun x hx => (four_byteL _ x hx).1)
    rw [e1, e2, hh]
    intro h
    exact h0 (e3.1 (by omega))
  · subst hk
    have hl : (I ++ four ((sumOf I : Nat) : Int)).length = I.length + 4 + 0 := by rw [List.length_append, hfl]
    rw [turned_all _ I.length 0 (b : Int) hl hbl]
    obtain ⟨e1, e2, e3⟩ := turned_sum (I := I) (S := sumOf I) (b := b) (fun x hx => (hI x hx).1) hS hb
    rw [e1, e2]
    intro h
    exact h0 (e3.1 (by omega))

theorem NsIn.kd0 {w : World} {A : Option Addr} {n : Nat} {ns : List Nd} (h : NsIn w A n ns) : ∀ x ∈ ns, 0 ≤ x.kd := by
  intro x hx
  obtain ⟨j, hj, e⟩ := List.getElem_of_mem hx
  have hl := h.1
  obtain ⟨b, o, y, _, hy, _, _, _, _, _, hok⟩ := h.at (k := j) (by omega)
  rw [List.getElem?_eq_getElem hj, e] at hy
  injection hy with hy
  subst hy
  exact hok.2.2.2.2.2.2.1.1

theorem own_cap64 {w : World} {b : Nat} {e : TypeId} {s n c : Nat} {A : Option Addr} {xs : List Value} (h : w.ownsRow b e s (.slice A n c) n xs) : c ≤ 9223372036854775807 := by
  rcases h.2 with ⟨h1, h2⟩ | ⟨g, cap, cur, h1, _, _, _, h3, _⟩
  · cases h1; omega
  · cases h1
    unfold maxLen at h3
    omega

end

end Go.Proofs.YtohndckbhjakfaaGreatDoor

