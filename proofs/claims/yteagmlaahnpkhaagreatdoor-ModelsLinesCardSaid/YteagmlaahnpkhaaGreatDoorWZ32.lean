/- Merged: Tx15, Pl11, Ak11, Al11, Sg11, Tx16. -/
import Derived.Test.YteagmlaahnpkhaaGreatDoorWZ31
import Derived.Test.YteagmlaahnpkhaaGreatDoorWZ29
import Derived.Lib.FrozenHead
import Derived.Test.YteagmlaahnpkhaaGreatDoorWZ26
namespace Go.Proofs.YteagmlaahnpkhaaGreatDoor

section
open Go.RowKit
set_option linter.unusedVariables false
set_option linter.unusedSimpArgs false
set_option maxRecDepth 100000

theorem part_len : ∀ k, k < 14 → ∀ p ∈ partsB k, p.length ≤ 21 := by decide

theorem word_len (x : Tn) (h : FormT x) (w : Wd) (hw : w ∈ wordsB x) : w.length ≤ 21 := by
  obtain ⟨hx, hs, hN, hP, hK⟩ := h
  have hi : ∀ n : Int, 0 ≤ n ∧ n < 1000000000 → (Lib.itoa n).length ≤ 21 := fun n hn => Lib.itoa_length_le n (by omega) (by omega)
  have h0 : ∀ (l : List Int) (j : Nat), Small l → (Lib.itoa (l.getD j 0)).length ≤ 21 := fun l j hl => by
    rw [List.getD_eq_getElem?_getD]
    cases hk : l[j]? with
    | none => exact hi 0 (by omega)
    | some n => exact hi n (hl n (List.mem_of_getElem? hk))
  rw [wordsB, List.mem_flatMap] at hw
  obtain ⟨p, hp, hw⟩ := hw
  have hpc := part_len x.kd hK.lt.2 p hp
  rw [stepW] at hw
  repeat' split at hw
  · simp only [List.mem_singleton] at hw; subst hw; exact h0 _ 0 hx
  · simp only [List.mem_singleton] at hw; subst hw; exact h0 _ 1 hx
  · obtain ⟨n, hn, rfl⟩ := List.mem_map.1 hw; exact hi n (hx n hn)
  · obtain ⟨n, hn, rfl⟩ := List.mem_map.1 hw; exact hi n (hs n hn)
  · simp only [List.mem_singleton] at hw; subst hw; exact hi _ hN
  · simp only [List.mem_singleton] at hw; subst hw; exact hi _ hP
  · simp only [List.mem_singleton] at hw; subst hw; exact hpc

theorem join_le (m : Nat) : ∀ ws : List Wd, (∀ w ∈ ws, w.length ≤ m) → (Lib.join ws [32]).length ≤ (m + 1) * ws.length
  | [], _ => by simp [Lib.join_nil]
  | [w], h => by rw [Lib.join_one]; have := h w (by simp); simp; omega
  | w :: v :: r, h => by
    have ih := join_le m (v :: r) (fun u hu => h u (by simp [hu]))
    have hw := h w (by simp)
    have e : Lib.join (w :: v :: r) [32] = w ++ 32 :: Lib.join (v :: r) [32] := by
      rw [Lib.join_cons, Lib.join_cons, Lib.joinTail, Lib.joinTail]; simp
    rw [e]
    simp only [List.length_append, List.length_cons] at ih ⊢
    have h3 : (m + 1) * (r.length + 1 + 1) = (m + 1) * (r.length + 1) + (m + 1) := by rw [Nat.mul_add]; omega
    omega

theorem words_many (x : Tn) (h : FormT x) (hx : x.xs.length < 256) (hs : x.sh.length < 256) : (wordsB x).length ≤ 25600 := by
  have := flatW_len x hx hs (partsB x.kd)
  have := parts_len x.kd h.2.2.2.2.lt.2
  rw [wordsB]
  omega

theorem line_len (x : Tn) (h : FormT x) (hx : x.xs.length < 256) (hs : x.sh.length < 256) : (lineB x).length ≤ 563200 := by
  have h1 := join_le 21 (wordsB x) (word_len x h)
  have h2 := words_many x h hx hs
  rw [lineB]
  omega

theorem text_len : ∀ ns : List Tn, (∀ x ∈ ns, FormT x ∧ ByteT x) → (textB ns).length ≤ 563201 * ns.length
  | [], _ => by simp [textB]
  | x :: r, h => by
    have h1 := line_len x (h x (by simp)).1 (h x (by simp)).2.2.1.1 (h x (by simp)).2.2.2.1.1
    have h2 := text_len r (fun y hy => h y (by simp [hy]))
    rw [text_cons, List.length_append, List.length_cons, List.length_cons]
    omega

theorem join_any (ws : List Wd) (hws : 1 ≤ ws.length) (hl : (Lib.join ws [32]).length ≤ 140737488355328) (hn : ws.length ≤ 25600) (A : Option Addr) (c : Nat) (base : Nat) (w : World) (ho : w.ownsRow base 9 1 (.slice A ws.length c) ws.length (ws.map strV)) : Calls Tryz.prog 16 #[.slice A ws.length c, .string ⟨#[32]⟩] w fun e w' => e = .returned (strV (Lib.join ws [32])) ∧ Below w.heap.size w w' := by
  have hli := lies_of_own ho
  have hnc := own_le ho
  obtain ⟨b, o, rfl, hlt, hcs⟩ := hli.cells hws
  have e1 : (ws.map (fun x => (⟨x.toArray⟩ : ByteArray))).map (fun x => x.data.toList) = ws := by rw [List.map_map]; exact (List.map_congr_left (fun x _ => by simp)).trans (List.map_id ws)
  have e2 : (⟨#[32]⟩ : ByteArray).data.toList = [32] := rfl
  have c := Tryz.strings_Join b o c (ws.map (fun x => (⟨x.toArray⟩ : ByteArray))) ⟨#[32]⟩ w (fun j x hj => by
    rw [List.getElem?_map] at hj
    obtain ⟨y, hy, rfl⟩ := Option.map_eq_some_iff.1 hj
    have := hcs j (List.getElem?_eq_some_iff.1 hy).1
    rw [List.getElem?_map, hy] at this
    exact this) hlt (by rw [List.length_map]; omega) (by rw [List.length_map]; exact hnc) (by rw [e1, e2]; exact hl)
  rw [e1, e2, List.length_map] at c
  exact c

theorem bldAt_on {T e : TypeId} {B b : Nat} {p : Value} {bs : List Value} {W W' : World} (h : Lib.BuilderAtF T e B b p bs W) (hb : Below W.heap.size W W') : Lib.BuilderAtF T e B b p bs W' := by
  have hlt := h.lt
  obtain ⟨hB, v, hv, hown, hne⟩ := h
  exact ⟨hB, v, (hb.block b hlt).trans hv, hown.kept (row := none) ⟨hb.os, hb.tape, hb.output, hb.size, fun k hk _ => hb.block k hk⟩ (Classical.em _), hne⟩

theorem bld_on {T e : TypeId} {B b : Nat} {bs : List Value} {W W' : World} (h : Lib.IsBuilderF T e B b bs W) (hb : Below W.heap.size W W') : Lib.IsBuilderF T e B b bs W' :=
  h.elim (fun x => .inl (bldAt_on x hb)) (fun x => .inr (bldAt_on x hb))

theorem build_new (w : World) : Lib.IsBuilderF 48 5 w.heap.size w.heap.size (Lib.byteCells []) (w.alloc (.cells #[.pointer none, .slice none 0 0] 48)) :=
  .inl ⟨Nat.le_refl _, .slice none 0 0, heap_alloc_new w _, World.ownsRowF_of (World.ownsRow_nil _ _ _ _), fun h => by cases h⟩

theorem write_any (B b : Nat) (l x : Wd) (w : World) (h : Lib.IsBuilderF 48 5 B b (Lib.byteCells l) w) (hl : l.length + x.length ≤ 140737488355328) (hB : B ≤ w.heap.size) : Calls Tryz.prog 15 #[.pointer (some ⟨b, 0, none⟩), strV x] w fun e w' => e = .returned (.tuple #[.int .i64 x.length, .nilIface]) ∧ Lib.IsBuilderF 48 5 B b (Lib.byteCells (l ++ x)) w' ∧ Below B w w' := by
  have hz : (⟨x.toArray⟩ : ByteArray).size = x.length := by simp [ByteArray.size]
  have c := Tryz.Builder_WriteString_f B b (Lib.byteCells l) ⟨x.toArray⟩ w h (by rw [Lib.byteCells_length, hz]; exact hl) hB
  have e : Lib.byteCells l ++ Lib.strCells ⟨x.toArray⟩ = Lib.byteCells (l ++ x) := by simp [Lib.byteCells, Lib.strCells]
  rw [hz, e] at c
  exact c.mono fun e w' ⟨he, hb, hbl⟩ => ⟨he, .inr hb, hbl⟩

/-- What Text comes to. -/
def TextE (ns : List Nd) (w : World) (e : Ending) (w' : World) : Prop :=
  Below w.heap.size w w' ∧ ((gphB ns = true ∧ e = .returned (.tuple #[strV (textB (ns.map Nd.tn)), .int .i64 0])) ∨ (gphB ns = false ∧ e = .returned (.tuple #[.string ⟨#[]⟩, .int .i64 1])))

set_option maxHeartbeats 16000000 in
theorem text_any (A : Option Addr) (n c : Nat) (ns : List Nd) (w : World) (h : NsIn w A n ns) (hn : n ≤ 1073741824) (hc : n ≤ c) (hv : LaidV w) : Calls Tryz.prog 6 #[.agg #[.slice A n c]] w (TextE ns w) := by
  obtain ⟨W1, hW1⟩ : ∃ W, W = w.alloc (.cells #[.slice A n c] 24) := ⟨_, rfl⟩
  have hB1 : Below w.heap.size w W1 := by rw [hW1]; exact (Below.refl _ _).alloc (Nat.le_refl _) _
  have hg1 : W1.heap[w.heap.size]? = some (.cells #[.slice A n c] 24 (0, 0)) := by rw [hW1]; exact heap_alloc_new w _
  have hq0 := cell_of_row _ _ 0 _ _ (0, 0) hg1
  have HC := hide (gcheck_any A n c ns W1 (h.below hB1) hn hc)
  have HN := hide h
  have HV := hide hv
  have HB1 := hide hB1
  have HG1 := hide hg1
  have hW1' := hW1.symm
  clear hW1 hB1 hg1 h hv
  cases hgb : gphB ns with
  | false =>
    rw [hgb] at HC
    have HGB := hide hgb
    clear hgb
    go_enter Tryz.func6, Tryz.ntmps6
    go_wp2_with (go_at_call 7; refine HC.out.mono ?_; rintro e w4 ⟨rfl, hb4⟩)
    go_ret2
    exact ⟨HB1.out.trans (hb4.mono HB1.out.size), .inr ⟨HGB.out, rfl⟩⟩
  | true =>
    obtain ⟨hn32, hform⟩ := gph_form hgb
    rw [hgb] at HC
    have HGB := hide hgb
    have HFM := hide hform
    have hnl : ns.length = n := HN.out.1
    have HNL := hide hnl
    rw [hnl] at hn32
    clear hgb hform hnl
    go_enter Tryz.func6, Tryz.ntmps6
    go_wp2_with (go_at_call 7; refine HC.out.mono ?_; rintro e w4 ⟨rfl, hb4⟩; have hq4 := cell_of_row _ _ 0 _ _ (0, 0) ((hb4.block w.heap.size (lt_of_heap HG1.out)).trans HG1.out); obtain ⟨W5, hW5⟩ : ∃ W, w4.alloc (.cells #[.pointer none, .slice none 0 0] 48) = W := ⟨_, rfl⟩; have hb5 : Below w4.heap.size w4 W5 := (by rw [← hW5]; exact (Below.refl _ _).alloc (Nat.le_refl _) _); have hq5 := cell_of_row _ _ 0 _ _ (0, 0) ((hb5.block w.heap.size (Nat.lt_of_lt_of_le (lt_of_heap HG1.out) hb4.size)).trans ((hb4.block w.heap.size (lt_of_heap HG1.out)).trans HG1.out)))
    obtain ⟨b, hb⟩ : ∃ b, b = w4.heap.size := ⟨_, rfl⟩
    have hwb := hb4.size
    have HB4 := hide (HB1.out.trans (hb4.mono HB1.out.size))
    have HBE := hide hb
    have HI0 : Hid (Lib.IsBuilderF 48 5 b b (Lib.byteCells (textB ((ns.take 0).map Nd.tn))) W5) := hide (by
      rw [← hW5, hb]
      exact build_new w4)
    have HB5 : Hid (Below b w4 W5) := hide (by rw [hb]; exact hb5)
    have HS5 : Hid (b ≤ W5.heap.size) := hide (by rw [hb]; exact hb5.size)
    have hwb2 : w.heap.size ≤ b := by rw [hb]; exact HB4.out.size
    have HTL : Hid (∀ k, (textB ((ns.take k).map Nd.tn)).length ≤ 100000000) := hide (fun k => by
      have h1 := text_len ((ns.take k).map Nd.tn) (fun y hy => by
        obtain ⟨z, hz, rfl⟩ := List.mem_map.1 hy
        exact HFM.out z (List.mem_of_mem_take hz))
      rw [List.length_map, List.length_take, HNL.out] at h1
      have := Nat.min_le_right k n
      have : 563201 * min k n ≤ 563201 * 32 := Nat.mul_le_mul_left _ (by omega)
      omega)
    rw [← hb]
    clear hb hb4 hb5 hW5 hW1' hq0 hq4 hq5 HC HG1 hwb
    go_loopw [13] (fun i wr => ∃ (k : Nat), k ≤ n ∧ i = .int .i64 k ∧ Hid (Lib.IsBuilderF 48 5 b b (Lib.byteCells (textB ((ns.take k).map Nd.tn))) wr) ∧ Hid (Below b w4 wr) ∧ Hid (b ≤ wr.heap.size)) (fun i _ => n - (intOf i).toNat)
    case atStart => exact ⟨0, Nat.zero_le _, rfl, HI0, HB5, HS5⟩
    case round =>
      obtain ⟨k, hkn, rfl, HI, HB, HS⟩ := hrel
      by_cases hlt : k < n
      · have hbw : Below w.heap.size w wr := HB4.out.trans (HB.out.mono hwb2)
        obtain ⟨b0, o, x, rfl, hxk, h0, h1, h2, h3, h4, hok⟩ := (HN.out.below hbw).at hlt
        have hmem := List.mem_of_getElem? hxk
        obtain ⟨hf, hby⟩ := HFM.out x hmem
        have htk : textB ((ns.take (k + 1)).map Nd.tn) = textB ((ns.take k).map Nd.tn) ++ lineB x.tn ++ [10] := by
          rw [List.take_add_one, hxk, List.map_append, textB, List.flatMap_append]
          simp [textB]
        have f0 : (0 : Int) ≤ (k : Int) := by omega
        have f1 : (k : Int) < (n : Int) := by omega
        have hll := line_len x.tn hf hby.2.1.1 hby.2.2.1.1
        obtain ⟨W6, hW6⟩ : ∃ W, wr.alloc (.cells #[.int .u8 x.kd, .slice x.I x.ni x.ci, .slice x.S x.ns x.cs, .int .i64 x.N, .int .i64 x.P] 52) = W := ⟨_, rfl⟩
        have hb6 : Below wr.heap.size wr W6 := by rw [← hW6]; exact (Below.refl _ _).alloc (Nat.le_refl _) _
        have hbn := BoxN.new wr x
        rw [hW6] at hbn
        have hcs := hbn.cs
        have HW := hide (wordsOf_any x W6 ((HV.out.below hbw).below hb6) (hok.below hb6) hf hby.2.1.1 hby.2.2.1.1)
        have HI6 := hide (bld_on HI.out hb6)
        have HB6 := hide (HB.out.trans (hb6.mono HS.out))
        have HS6 : Hid (b ≤ W6.heap.size) := hide (Nat.le_trans HS.out hb6.size)
        have HWN := hide (words_ne x.tn hf.2.2.2.2.lt)
        have HWM := hide (words_many x.tn hf hby.2.1.1 hby.2.2.1.1)
        have HLL : Hid ((Lib.join (wordsB x.tn) [32]).length ≤ 563200) := hide hll
        have HTK := hide htk
        unfold Nd.v at HW
        clear htk hf hby hmem hxk hok hbw hbn hb6 hll
        go_wp2_with (first | (go_at_call 17; refine HW.out.mono ?_; rintro e w7 ⟨A7, c7, rfl, ho7, hb7⟩; have HI7 := hide (bld_on HI6.out hb7); have HJ := hide (join_any (wordsB x.tn) (List.length_pos_iff.2 HWN.out) (Nat.le_trans HLL.out (by omega)) HWM.out A7 c7 _ w7 ho7)) | (go_at_call 16; refine HJ.out.mono ?_; rintro e w8 ⟨rfl, hb8⟩; have HI8 := hide (bld_on HI7.out hb8); have HS8 : Hid (b ≤ w8.heap.size) := hide (Nat.le_trans HS6.out (Nat.le_trans hb7.size hb8.size)); have HWR := hide (write_any b b (textB ((ns.take k).map Nd.tn)) (Lib.join (wordsB x.tn) [32]) w8 HI8.out (by have := HTL.out k; have := HLL.out; omega) HS8.out)) | fail)
        have HB8 := hide (HB6.out.trans ((hb7.mono HS6.out).trans (hb8.mono (Nat.le_trans HS6.out hb7.size))))
        clear ho7 hb7 hb8
        refine HWR.out.mono ?_
        rintro e w9 ⟨rfl, hi9, hb9⟩
        have HWR2 := hide (write_any b b (textB ((ns.take k).map Nd.tn) ++ Lib.join (wordsB x.tn) [32]) [10] w9 hi9 (by have := HTL.out k; have := HLL.out; simp only [List.length_append, List.length_cons, List.length_nil]; omega) (Nat.le_trans HS8.out hb9.size))
        (try dsimp only)
        go_wp2_with (go_at_call 15; refine HWR2.out.mono ?_; rintro e w10 ⟨rfl, hi10, hb10⟩)
        have HI10 : Hid (Lib.IsBuilderF 48 5 b b (Lib.byteCells (textB ((ns.take (k + 1)).map Nd.tn))) w10) := hide (by rw [HTK.out]; exact hi10)
        have HB10 : Hid (Below b w4 w10) := hide (HB8.out.trans (hb9.trans hb10))
        have HS10 : Hid (b ≤ w10.heap.size) := hide (Nat.le_trans HS8.out (Nat.le_trans hb9.size hb10.size))
        clear hi10 hi9
        go_roundw
        case rel => exact ⟨k + 1, by omega, by go_num, HI10, HB10, HS10⟩
        case measure => simp [intOf]; omega
      · obtain rfl : k = n := by omega
        have hall : ns.take k = ns := List.take_of_length_le (by rw [HNL.out]; exact Nat.le_refl _)
        have hi := HI.out
        rw [hall] at hi
        have HS9 := hide (Tryz.Builder_String_any_f b b (textB (ns.map Nd.tn)) wr hi HS.out)
        go_wp2_with (go_at_call 18; refine HS9.out.mono ?_; rintro e w9 ⟨rfl, _, hb9⟩)
        go_ret2
        exact ⟨HB4.out.trans ((HB.out.trans hb9).mono hwb2), .inl ⟨HGB.out, rfl⟩⟩

end

section
open Go.RowKit
set_option linter.unusedVariables false
set_option linter.unusedSimpArgs false
set_option maxRecDepth 100000

theorem i0_dec : Lib.itoa 0 = [48] := by rw [itoa_nat 0 (by omega)]; exact Lib.decDigits_one (by omega)

theorem i1_dec : Lib.itoa 1 = [49] := by rw [itoa_nat 1 (by omega)]; exact Lib.decDigits_one (by omega)

theorem i2_dec : Lib.itoa 2 = [50] := by rw [itoa_nat 2 (by omega)]; exact Lib.decDigits_one (by omega)

theorem i3_dec : Lib.itoa 3 = [51] := by rw [itoa_nat 3 (by omega)]; exact Lib.decDigits_one (by omega)

theorem i4_dec : Lib.itoa 4 = [52] := by rw [itoa_nat 4 (by omega)]; exact Lib.decDigits_one (by omega)

theorem kn_text (q : Nat) : textB ((knN q).map Nd.tn) = [105, 110, 112, 117, 116, 32, 50, 32, 51, 10, 119, 101, 105, 103, 104, 116, 32, 51, 32, 50, 10, 112, 114, 111, 100, 117, 99, 116, 32, 48, 32, 49, 10, 114, 101, 108, 117, 32, 50, 10] := by
  simp [textB, knN, Nd.tn, lineB, wordsB, partsB, stepW, Lib.join, i0_dec, i1_dec, i2_dec, i3_dec, List.intercalate]

theorem kn_may (q : Nat) : gphB (knN q) = true := by kernel_rfl

/-- A node by its plain part. -/
def nodeT (t : Tn) : Nd := ⟨(t.kd : Int), none, 0, 0, none, 0, 0, t.N, t.P, t.xs, t.sh⟩

theorem gph_tn {ns : List Nd} {ts : List Tn} (h : ns.map Nd.tn = ts) (hk : ∀ x ∈ ns, 0 ≤ x.kd) : gphB ns = gphB (ts.map nodeT) := by
  refine (gph_same ?_).1
  rw [← h, List.map_map, List.map_map]
  apply List.map_congr_left
  intro x hx
  have := hk x hx
  simp [pl, nodeT, Nd.tn, Int.toNat_of_nonneg this]

def s1 : Wd := [105, 110, 112, 117, 116, 32, 52, 10, 114, 101, 108, 117, 32, 48]

def s2 : Wd := [105, 110, 112, 117, 116, 32, 52, 10, 114, 101, 108, 117]

def s3 : Wd := [105, 110, 112, 117, 116, 32, 52, 10, 114, 101, 108, 117, 32, 49]

def s4 : Wd := [105, 110, 112, 117, 116, 32, 48, 52]

def tIn : Tn := ⟨1, [], [4], 0, 0⟩

theorem n_in : nodeB [105, 110, 112, 117, 116, 32, 52] = some tIn := by
  have h := node_line tIn ⟨by intro z hz; simp [tIn] at hz, by intro z hz; simp [tIn] at hz; omega, by simp [tIn], by simp [tIn], rfl, by simp [tIn], rfl, rfl⟩
  have e : lineB tIn = [105, 110, 112, 117, 116, 32, 52] := by simp [lineB, tIn, wordsB, partsB, stepW, Lib.join, i4_dec, List.intercalate]
  rwa [e] at h

theorem n_relu (z : Int) (hz : 0 ≤ z ∧ z < 2) : nodeB ([114, 101, 108, 117, 32] ++ Lib.itoa z) = some ⟨5, [z], [], 0, 0⟩ := by
  have h := node_line ⟨5, [z], [], 0, 0⟩ ⟨by intro y hy; simp at hy; omega, by intro y hy; simp at hy, by simp, by simp, rfl, rfl, rfl, rfl⟩
  have e : lineB ⟨5, [z], [], 0, 0⟩ = [114, 101, 108, 117, 32] ++ Lib.itoa z := by simp [lineB, wordsB, partsB, stepW, Lib.join, List.intercalate]
  rwa [e] at h

theorem l1 : linesB s1 = [[105, 110, 112, 117, 116, 32, 52], [114, 101, 108, 117, 32, 48]] := by decide +kernel

theorem l2 : linesB s2 = [[105, 110, 112, 117, 116, 32, 52], [114, 101, 108, 117]] := by decide +kernel

theorem l3 : linesB s3 = [[105, 110, 112, 117, 116, 32, 52], [114, 101, 108, 117, 32, 49]] := by decide +kernel

theorem l4 : linesB s4 = [[105, 110, 112, 117, 116, 32, 48, 52]] := by decide +kernel

theorem p1 : parseR s1 = .inl [tIn, ⟨5, [0], [], 0, 0⟩] := by
  have h : nodeB [114, 101, 108, 117, 32, 48] = some ⟨5, [0], [], 0, 0⟩ := by have h := n_relu 0 (by omega); rw [i0_dec] at h; exact h
  rw [parseR, l1, goP_step n_in (by omega), goP_step h (by omega), goP]
  rfl

theorem p2 : parseR s2 = .inr 1 := by
  rw [parseR, l2, goP_step n_in (by omega), goP_bad rfl]

theorem p3 : parseR s3 = .inl [tIn, ⟨5, [1], [], 0, 0⟩] := by
  have h : nodeB [114, 101, 108, 117, 32, 49] = some ⟨5, [1], [], 0, 0⟩ := by have h := n_relu 1 (by omega); rw [i1_dec] at h; exact h
  rw [parseR, l3, goP_step n_in (by omega), goP_step h (by omega), goP]
  rfl

theorem n04 : numB [48, 52] = none := by
  have h : Lib.atoiAll [48, 52] = .ok 4 := by decide
  simp [numB, h, i4_dec]

theorem p4 : parseR s4 = .inr 0 := by
  have h : nodeB [105, 110, 112, 117, 116, 32, 48, 52] = none := by
    have e : Lib.split [105, 110, 112, 117, 116, 32, 48, 52] [32] = [[105, 110, 112, 117, 116], [48, 52]] := by decide +kernel
    rw [nodeB, e]
    simp [nodeW, kindB, partsB, readB, stepR, numsB, n04]
  rw [parseR, l4, goP_bad h]

theorem g1_may : gphB ([tIn, ⟨5, [0], [], 0, 0⟩].map nodeT) = true := by kernel_rfl

theorem g3_may : gphB ([tIn, ⟨5, [1], [], 0, 0⟩].map nodeT) = false := by kernel_rfl

theorem parse_inr {s : Wd} {k : Nat} (hs : s.length ≤ 65536) (h : parseR s = .inr k) (w : World) (hv : LaidV w) : Calls Tryz.prog 8 #[strV s] w fun e w' => e = .returned (.tuple #[gr0, .int .i64 k, .int .i64 4]) ∧ Below w.heap.size w w' := by
  refine (parse_any s w hv (by omega)).mono ?_
  rintro e w' ⟨hb, hE⟩
  rcases hE with ⟨h1, _⟩ | ⟨_, k', hk, he⟩ | ⟨_, ns, hns, _⟩ | ⟨_, ns, A, c, hns, _⟩
  · omega
  · rw [h] at hk; injection hk with hk; subst hk; exact ⟨he, hb⟩
  · rw [h] at hns; cases hns
  · rw [h] at hns; cases hns

theorem parse_arg {s : Wd} {ts : List Tn} (hs : s.length ≤ 65536) (h : parseR s = .inl ts) (hg : gphB (ts.map nodeT) = false) (w : World) (hv : LaidV w) : Calls Tryz.prog 8 #[strV s] w fun e w' => e = .returned (.tuple #[gr0, .int .i64 0, .int .i64 1]) ∧ Below w.heap.size w w' := by
  refine (parse_any s w hv (by omega)).mono ?_
  rintro e w' ⟨hb, hE⟩
  rcases hE with ⟨h1, _⟩ | ⟨_, k', hk, he⟩ | ⟨_, ns, hns, _, he, _⟩ | ⟨_, ns, A, c, hns, hgb, _, _, _, how, _⟩
  · omega
  · rw [h] at hk; cases hk
  · exact ⟨he, hb⟩
  · rw [h] at hns
    injection hns with hns
    have := gph_tn hns.symm (fun x hx => by
      obtain ⟨j, hj, e⟩ := List.getElem_of_mem hx
      exact ((how j x (by rw [List.getElem?_eq_getElem hj, e])).2).2.2.2.2.1.1)
    rw [hgb, hg] at this
    cases this

/-- A text that is a graph's. -/
def ParseOk (ts : List Tn) (w : World) (e : Ending) (w' : World) : Prop :=
  ∃ (ns : List Nd) (A : Option Addr) (c : Nat), ns.map Nd.tn = ts ∧ gphB ns = true ∧ e = .returned (.tuple #[.agg #[.slice A ns.length c], .int .i64 0, .int .i64 0]) ∧ NsIn w' A ns.length ns ∧ ns.length ≤ c ∧ (∀ x ∈ ns, 0 ≤ x.kd) ∧ Below w.heap.size w w'

theorem parse_ok {s : Wd} {ts : List Tn} (hs : s.length ≤ 65536) (h : parseR s = .inl ts) (hg : gphB (ts.map nodeT) = true) (hkd : ∀ x ∈ ts, 0 ≤ (x.kd : Int)) (w : World) (hv : LaidV w) : Calls Tryz.prog 8 #[strV s] w (ParseOk ts w) := by
  refine (parse_any s w hv (by omega)).mono ?_
  rintro e w' ⟨hb, hE⟩
  rcases hE with ⟨h1, _⟩ | ⟨_, k', hk, he⟩ | ⟨_, ns, hns, hgb, he, hkn⟩ | ⟨_, ns, A, c, hns, hgb, he, hin, hro, how, _⟩
  · omega
  · rw [h] at hk; cases hk
  · rw [h] at hns
    injection hns with hns
    have := gph_tn hns.symm hkn
    rw [hgb, hg] at this
    cases this
  · rw [h] at hns
    injection hns with hns
    exact ⟨ns, A, c, hns.symm, hgb, he, hin, ownN_le hro, fun x hx => by
      obtain ⟨j, hj, e⟩ := List.getElem_of_mem hx
      exact ((how j x (by rw [List.getElem?_eq_getElem hj, e])).2).2.2.2.2.1.1, hb⟩

end

section
open Go.RowKit
set_option linter.unusedVariables false
set_option linter.unusedSimpArgs false
set_option maxRecDepth 100000

theorem parse11_res {s : Wd} {a b : Int} {w : World} (c : Calls Tryz.prog 8 #[strV s] w fun e w' => e = .returned (.tuple #[gr0, .int .i64 a, .int .i64 b]) ∧ Below w.heap.size w w') : Calls Tryz.prog 11 #[strV s] w fun e w' => e = .returned (.tuple #[.int .i64 a, .int .i64 b]) ∧ Below w.heap.size w w' := by
  unfold strV gr0 at *
  go_enter Tryz.func11, Tryz.ntmps11
  go_wp2_with (go_at_call 8; refine c.mono ?_; rintro e w1 ⟨rfl, hb⟩)
  go_ret2
  exact ⟨rfl, below_al6 hb⟩

theorem sh0 : (tkGraph ([], false)).2.2 = true := by kernel_rfl

theorem sh7 : (tkGraph ([7], false)).2.2 = true := by kernel_rfl

theorem own_max {w : World} {B e s n c : Nat} {A : Option Addr} {xs : List Value} (h : w.ownsRow B e s (.slice A n c) n xs) : c ≤ maxLen := by
  rcases h.2 with ⟨h1, h2⟩ | ⟨g, cap, cur, h1, _, _, _, h2, _⟩
  · injection h1 with _ _ h3; rw [h3]; exact Nat.zero_le _
  · injection h1 with _ _ h3; rw [h3]; exact h2

theorem own_max2 {w : World} {B e s n c : Nat} {A : Option Addr} {xs : List Value} (h : w.ownsRow B e s (.slice A n c) n xs) : c ≤ 9223372036854775807 := by
  have := own_max h
  unfold maxLen at this
  omega

theorem get_zero (A : Option Addr) (c : Nat) (w : World) (h : Lies w A 4 (([0, 0, 0, 0] : List Int).map (Value.int .u8))) (hnc : 4 ≤ c) (hc : c ≤ 9223372036854775807) : Calls Tryz.prog 12 #[.slice A 4 c] w fun e w' => e = .returned (.tuple #[md0, .int .i64 4]) ∧ Below w.heap.size w w' := by
  have e1 : ([0, 0, 0, 0] : List Int).take (4 - 4) = [] := rfl
  have e2 : ([0, 0, 0, 0] : List Int).drop (4 - 4) = [0, 0, 0, 0] := rfl
  refine get_form A 4 c [0, 0, 0, 0] w h (by intro z hz; simp at hz; omega) (by omega) (by omega) hnc hc ?_ ?_
  · rw [e1, e2, sumOf, sumOn_nil]
    rfl
  · rw [e1]
    exact sh0

theorem get_seven (A : Option Addr) (c sm : Nat) (hsm : sm = sumOf [7]) (w : World) (h : Lies w A 5 (([7] ++ four ((sm : Nat) : Int)).map (Value.int .u8))) (hnc : 5 ≤ c) (hc : c ≤ 9223372036854775807) : Calls Tryz.prog 12 #[.slice A 5 c] w fun e w' => e = .returned (.tuple #[md0, .int .i64 4]) ∧ Below w.heap.size w w' := by
  have h7 : ByteL [7] := by intro z hz; simp at hz; omega
  have hslt : sm < 4294967296 := by rw [hsm]; exact sumOf_lt h7
  have e1 : ([7] ++ four ((sm : Nat) : Int)).take (5 - 4) = [7] := rfl
  have e2 : ([7] ++ four ((sm : Nat) : Int)).drop (5 - 4) = four ((sm : Nat) : Int) := rfl
  have e3 : head4 (four ((sm : Nat) : Int)) = (sm : Int) := by
    simp only [head4, four, List.getD_cons_zero, List.getD_cons_succ]
    exact word_four (sm : Int) (by omega) (by omega)
  refine get_form A 5 c ([7] ++ four ((sm : Nat) : Int)) w h (byteL_append h7 (four_bytes _)) (by omega) (by omega) hnc hc ?_ ?_
  · rw [e1, e2, e3, hsm]
  · rw [e1]
    exact sh7

end

section
open Go.RowKit
set_option linter.unusedVariables false
set_option linter.unusedSimpArgs false
set_option maxRecDepth 100000

set_option maxHeartbeats 16000000 in
theorem alive11_any (w : World) (hv : LaidV w) : Calls Tryz.prog 4 #[] w fun e w' => e = .returned (.bool true) ∧ Below w.heap.size w w' := by
  have HV := hide hv
  have HK := hide (known11_any w)
  clear hv
  go_enter Tryz.func4, Tryz.ntmps4
  go_wp2_with (go_at_call 10; refine HK.out.mono ?_; rintro e w1 ⟨rfl, hns, hb1⟩; have HT := hide (text_any _ 4 4 (knN w.heap.size) w1 hns (by omega) (by omega) (HV.out.below hb1)); have HB1 := hide hb1; clear hns hb1)
  refine HT.out.mono ?_
  rintro e w2 ⟨hb2, hE⟩
  have he : e = .returned (.tuple #[strV [105, 110, 112, 117, 116, 32, 50, 32, 51, 10, 119, 101, 105, 103, 104, 116, 32, 51, 32, 50, 10, 112, 114, 111, 100, 117, 99, 116, 32, 48, 32, 49, 10, 114, 101, 108, 117, 32, 50, 10], .int .i64 0]) := by
    rcases hE with ⟨_, he⟩ | ⟨h, _⟩
    · rw [kn_text] at he; exact he
    · rw [kn_may] at h; cases h
  subst he
  have HB2 := hide (HB1.out.trans (hb2.mono HB1.out.size))
  clear hE hb2 HB1 HT HK
  have HP1 := hide (parse_ok (s := s1) (by decide) p1 g1_may (by intro x hx; exact Int.natCast_nonneg _) w2 (HV.out.below HB2.out))
  unfold strV s1 at HP1
  unfold strV
  (try dsimp only)
  go_wp2_with (go_at_call 8; refine HP1.out.mono ?_; rintro e w3 ⟨ns, A3, c3, hns, _, rfl, _, _, _, hb3⟩; have hnl : ns.length = 2 := (by rw [← List.length_map (f := Nd.tn), hns]; rfl); rw [hnl]; clear hns; obtain ⟨W3, hW3⟩ : ∃ W, w3.alloc (.cells #[.slice A3 2 c3] 24) = W := ⟨_, rfl⟩)
  have hb3w : Below w3.heap.size w3 W3 := by rw [← hW3]; exact (Below.refl _ _).alloc (Nat.le_refl _) _
  have hg3 : W3.heap[w3.heap.size]? = some (.cells #[.slice A3 2 c3] 24 (0, 0)) := by rw [← hW3]; exact heap_alloc_new w3 _
  have HG3 := hide hg3
  have HB3 := hide (HB2.out.trans ((hb3.mono HB2.out.size).trans (hb3w.mono (Nat.le_trans HB2.out.size hb3.size))))
  obtain ⟨q, hq⟩ : ∃ q, w3.heap.size = q := ⟨_, rfl⟩
  rw [hq] at HG3
  have hlg : q < W3.heap.size := lt_of_heap HG3.out
  clear hW3 hb3w hg3 hb3 HP1 HB2
  have HP2 := hide (parse11_res (parse_inr (s := s2) (by decide) p2 W3 (HV.out.below HB3.out)))
  unfold strV s2 at HP2
  go_wp2_with (go_at_call 11; refine HP2.out.mono ?_; rintro e w4 ⟨rfl, hb4⟩; clear HP2)
  have HB4 := hide (HB3.out.trans (hb4.mono HB3.out.size))
  have HP3 := hide (parse11_res (parse_arg (s := s3) (by decide) p3 g3_may w4 (HV.out.below HB4.out)))
  unfold strV s3 at HP3
  go_wp2_with (go_at_call 11; refine HP3.out.mono ?_; rintro e w5 ⟨rfl, hb5⟩; clear HP3)
  have HB5 := hide (HB4.out.trans (hb5.mono HB4.out.size))
  have HP4 := hide (parse11_res (parse_inr (s := s4) (by decide) p4 w5 (HV.out.below HB5.out)))
  unfold strV s4 at HP4
  go_wp2_with (go_at_call 11; refine HP4.out.mono ?_; rintro e w6 ⟨rfl, hb6⟩; obtain ⟨W7, hW7⟩ : ∃ W, w6.alloc (.cells #[.int .u8 1, .int .u8 2, .int .u8 3] 5) = W := ⟨_, rfl⟩)
  have HB6 := hide (HB5.out.trans (hb6.mono HB5.out.size))
  have hb7 : Below w6.heap.size w6 W7 := by rw [← hW7]; exact (Below.refl _ _).alloc (Nat.le_refl _) _
  have hl7 : Lies W7 (some ⟨w6.heap.size, 0, none⟩) 3 (([1, 2, 3] : List Int).map (Value.int .u8)) := ⟨rfl, fun _ => ⟨w6.heap.size, 0, rfl, by rw [← hW7]; simp, fun j _ => by rw [← hW7, cell_of_row _ _ _ _ _ (0, 0) (heap_alloc_new w6 _)]; simp⟩⟩
  have HC7 := hide (get_short (some ⟨w6.heap.size, 0, none⟩) 3 3 [1, 2, 3] W7 hl7 (by intro z hz; simp at hz; omega) (by omega) (by omega))
  have HG7 := hide (((hb4.trans ((hb5.mono hb4.size).trans ((hb6.mono (Nat.le_trans hb4.size hb5.size)).trans (hb7.mono (Nat.le_trans hb4.size (Nat.le_trans hb5.size hb6.size)))))).block q hlg).trans HG3.out)
  have HB7 := hide (HB6.out.trans (hb7.mono HB6.out.size))
  clear HP4 hl7 hb7 hb4 hb5 hb6 HB3 HB4 HB5 HB6
  unfold md0 at HC7
  go_wp2_with (go_at_call 12; refine HC7.out.mono ?_; rintro e w8 ⟨rfl, hb8⟩; clear HC7)
  obtain ⟨W10, hW10⟩ : ∃ W, (w8.alloc (.cells #[.slice none 0 0, .slice none 0 0] 40)).alloc (.cells #[.int .u8 0, .int .u8 0, .int .u8 0, .int .u8 0] 5) = W := ⟨_, rfl⟩
  have hb10 : Below w8.heap.size w8 W10 := by rw [← hW10]; exact ((Below.refl _ _).alloc (Nat.le_refl _) _).alloc (by simp) _
  have hg10 : W10.heap[w8.heap.size + 1]? = some (.cells #[.int .u8 0, .int .u8 0, .int .u8 0, .int .u8 0] 5 (0, 0)) := by
    rw [← hW10]
    have := heap_alloc_new (w8.alloc (.cells #[.slice none 0 0, .slice none 0 0] 40)) (.cells #[.int .u8 0, .int .u8 0, .int .u8 0, .int .u8 0] 5)
    simpa using this
  have hl10 : Lies W10 (some ⟨w8.heap.size + 1, 0, none⟩) 4 (([0, 0, 0, 0] : List Int).map (Value.int .u8)) := ⟨rfl, fun _ => ⟨_, 0, rfl, lt_of_heap hg10, fun j _ => by rw [cell_of_row _ _ _ _ _ (0, 0) hg10]; simp⟩⟩
  have HC10 := hide (get_zero (some ⟨w8.heap.size + 1, 0, none⟩) 4 W10 hl10 (by omega) (by omega))
  have hb710 := hb8.trans (hb10.mono hb8.size)
  have HG10 := hide ((hb710.block q (lt_of_heap HG7.out)).trans HG7.out)
  have HB10 := hide (HB7.out.trans (hb710.mono HB7.out.size))
  rw [hW10]
  clear hl10 hg10 hb10 hb710 hW10 hb8 HG7 HB7 hW7
  unfold md0 at HC10
  go_wp2_with (go_at_call 12; refine HC10.out.mono ?_; rintro e w11 ⟨rfl, hb11⟩; clear HC10)
  obtain ⟨W13, hW13⟩ : ∃ W, (w11.alloc (.cells #[.slice none 0 0, .slice none 0 0] 40)).alloc (.cells #[.int .u8 7] 5) = W := ⟨_, rfl⟩
  have hb13 : Below w11.heap.size w11 W13 := by rw [← hW13]; exact ((Below.refl _ _).alloc (Nat.le_refl _) _).alloc (by simp) _
  have hg13 : W13.heap[w11.heap.size + 1]? = some (.cells #[.int .u8 7] 5 (0, 0)) := by
    rw [← hW13]
    have := heap_alloc_new (w11.alloc (.cells #[.slice none 0 0, .slice none 0 0] 40)) (.cells #[.int .u8 7] 5)
    simpa using this
  have hl13 : Lies W13 (some ⟨w11.heap.size + 1, 0, none⟩) 1 (([7] : List Int).map (Value.int .u8)) := ⟨rfl, fun _ => ⟨_, 0, rfl, lt_of_heap hg13, fun j _ => by rw [cell_of_row _ _ _ _ _ (0, 0) hg13]; simp⟩⟩
  have h7 : ByteL [7] := by intro z hz; simp at hz; omega
  have HC13 := hide (summed_any (some ⟨w11.heap.size + 1, 0, none⟩) 1 1 [7] W13 hl13 h7 (fun h => by cases h) (by omega))
  have hb1013 := hb11.trans (hb13.mono hb11.size)
  have HG13 := hide ((hb1013.block q (lt_of_heap HG10.out)).trans HG10.out)
  have HB13 := hide (HB10.out.trans (hb1013.mono HB10.out.size))
  rw [hW13]
  clear hl13 hg13 hb13 hb1013 hW13 hb11 HG10 HB10
  obtain ⟨sm, hsm⟩ : ∃ sm, sm = sumOf [7] := ⟨_, rfl⟩
  have hslt : sm < 4294967296 := by rw [hsm]; exact sumOf_lt h7
  have HSM := hide hsm
  rw [← hsm] at HC13
  clear hsm
  go_wp2_with (go_at_call 13; refine HC13.out.mono ?_; rintro e w14 ⟨A14, c14, rfl, ho14, hb14⟩; clear HC13)
  have HC14 := hide (get_seven A14 c14 sm HSM.out w14 (lies_of_own ho14) (own_le ho14) (own_max2 ho14))
  have HG14 := hide ((hb14.block q (lt_of_heap HG13.out)).trans HG13.out)
  have HB14 := hide (HB13.out.trans (hb14.mono HB13.out.size))
  clear ho14 hb14 HG13 HB13
  unfold md0 at HC14
  go_wp2_with (go_at_call 12; refine HC14.out.mono ?_; rintro e w15 ⟨rfl, hb15⟩; clear HC14; have hg15 := (hb15.block q (lt_of_heap HG14.out)).trans HG14.out; have hq15 := cell_of_row _ _ 0 _ _ (0, 0) ((Below.heap_alloc w15 (.cells #[.slice none 0 0, .slice none 0 0] 40) q (lt_of_heap hg15)).trans hg15); simp only [List.getElem?_toArray, List.getElem?_cons_zero] at hq15)
  go_ret
  exact ⟨rfl, below_al6 (HB14.out.trans (hb15.mono HB14.out.size))⟩

end

section
open Go.RowKit
set_option linter.unusedVariables false
set_option linter.unusedSimpArgs false
set_option maxRecDepth 100000

theorem cell_onS {w w' : World} {a : Addr} {v : Value} (h : w.cell? a = some v) (hb : Below w.heap.size w w') : w'.cell? a = some v := (hb.cell (World.block_lt_of_cell? _ _ h)).trans h

theorem tn_same {x y : Nd} (h : x.tn = y.tn) (hx : 0 ≤ x.kd) (hy : 0 ≤ y.kd) : y.kd = x.kd ∧ y.xs = x.xs ∧ y.sh = x.sh ∧ y.N = x.N ∧ y.P = x.P := by
  unfold Nd.tn at h
  injection h with h1 h2 h3 h4 h5
  exact ⟨by omega, h2.symm, h3.symm, h4.symm, h5.symm⟩

set_option maxHeartbeats 2000000 in
theorem sameNode_true (x y : Nd) (w : World) (hx : x.Ok w) (hy : y.Ok w) (h : x.tn = y.tn) : Calls Tryz.prog 44 #[x.v, y.v] w fun e w' => e = .returned (.bool true) ∧ Below w.heap.size w w' := by
  obtain ⟨e1, e2, e3, e4, e5⟩ := tn_same h hx.2.2.2.2.2.2.1.1 hy.2.2.2.2.2.2.1.1
  obtain ⟨W0, hW0⟩ : ∃ W0, W0 = w.alloc (.cells #[.int .u8 x.kd, .slice x.I x.ni x.ci, .slice x.S x.ns x.cs, .int .i64 x.N, .int .i64 x.P] 52) := ⟨_, rfl⟩
  obtain ⟨W1, hW1⟩ : ∃ W1, W1 = W0.alloc (.cells #[.int .u8 y.kd, .slice y.I y.ni y.ci, .slice y.S y.ns y.cs, .int .i64 y.N, .int .i64 y.P] 52) := ⟨_, rfl⟩
  have hB0 : Below w.heap.size w W0 := by rw [hW0]; exact below_al6 (Below.refl _ _)
  have hB01 : Below W0.heap.size W0 W1 := by rw [hW1]; exact below_al6 (Below.refl _ _)
  have hs0 : W0.heap.size = w.heap.size + 1 := by rw [hW0]; exact Array.size_push _
  have HB : Hid (Below w.heap.size w W1) := hide (hB0.trans (hB01.mono hB0.size))
  have b0 : W0.heap[w.heap.size]? = some (.cells #[.int .u8 x.kd, .slice x.I x.ni x.ci, .slice x.S x.ns x.cs, .int .i64 x.N, .int .i64 x.P] 52 (0, 0)) := by rw [hW0]; exact heap_alloc_new w _
  have b1 : W1.heap[w.heap.size]? = some (.cells #[.int .u8 x.kd, .slice x.I x.ni x.ci, .slice x.S x.ns x.cs, .int .i64 x.N, .int .i64 x.P] 52 (0, 0)) := (hB01.block _ (by omega)).trans b0
  have b2 : W1.heap[W0.heap.size]? = some (.cells #[.int .u8 y.kd, .slice y.I y.ni y.ci, .slice y.S y.ns y.cs, .int .i64 y.N, .int .i64 y.P] 52 (0, 0)) := by rw [hW1]; exact heap_alloc_new W0 _
  rw [hs0] at b2
  have HC : Hid (∀ v, Below W1.heap.size W1 v → v.heap[w.heap.size]? = some (.cells #[.int .u8 x.kd, .slice x.I x.ni x.ci, .slice x.S x.ns x.cs, .int .i64 x.N, .int .i64 x.P] 52 (0, 0)) ∧ v.heap[w.heap.size + 1]? = some (.cells #[.int .u8 y.kd, .slice y.I y.ni y.ci, .slice y.S y.ns y.cs, .int .i64 y.N, .int .i64 y.P] 52 (0, 0))) := hide (fun v hv => ⟨(hv.block _ (lt_of_heap b1)).trans b1, (hv.block _ (lt_of_heap b2)).trans b2⟩)
  have HX := hide hx
  have HY := hide hy
  have q0 := cell_of_row W1 _ 0 _ _ (0, 0) b1
  have q1 := cell_of_row W1 _ 1 _ _ (0, 0) b1
  have r0 := cell_of_row W1 _ 0 _ _ (0, 0) b2
  have r1 := cell_of_row W1 _ 1 _ _ (0, 0) b2
  have HE2 := hide e2
  have HE3 := hide e3
  simp only [e1, e4, e5] at q0 q1 r0 r1 b1 b2 HC hW1
  have hW0' := hW0.symm
  have hW1' := hW1.symm
  unfold Nd.v
  rw [e1, e4, e5]
  clear hW0 hW1 b0 b1 b2 hB0 hB01 h e1 e2 e3 e4 e5 hx hy
  go_enter Tryz.func44, Tryz.ntmps44
  go_wp2_with fail
  refine Calls.mono (sameI_any x.I y.I x.ni x.ci y.ni y.ci x.xs y.xs _ (HX.out.1.below HB.out) (HY.out.1.below HB.out) (by have := HX.out.2.2.2.2.1; omega)) ?_
  rintro e w1 ⟨rfl, hb⟩
  rw [HE2.out, decide_eq_true rfl]
  obtain ⟨b1, b2⟩ := HC.out _ hb
  have q2 := cell_of_row w1 _ 2 _ _ (0, 0) b1
  have q3 := cell_of_row w1 _ 3 _ _ (0, 0) b1
  have q4 := cell_of_row w1 _ 4 _ _ (0, 0) b1
  have r2 := cell_of_row w1 _ 2 _ _ (0, 0) b2
  have HB1 : Hid (Below w.heap.size w w1) := hide (HB.out.trans (hb.mono HB.out.size))
  have HB2 := hide hb
  clear q0 q1 r0 r1 b1 b2 hb
  go_wp2_with fail
  refine Calls.mono (sameI_any x.S y.S x.ns x.cs y.ns y.cs x.sh y.sh _ (HX.out.2.1.below HB1.out) (HY.out.2.1.below HB1.out) (by have := HX.out.2.2.2.2.2.1; omega)) ?_
  rintro e w2 ⟨rfl, hb⟩
  rw [HE3.out, decide_eq_true rfl]
  have hb2 := HB2.out.trans (hb.mono HB2.out.size)
  obtain ⟨b1, b2⟩ := HC.out _ hb2
  have q5 := cell_of_row w2 _ 3 _ _ (0, 0) b1
  have q6 := cell_of_row w2 _ 4 _ _ (0, 0) b1
  have r5 := cell_of_row w2 _ 3 _ _ (0, 0) b2
  have r6 := cell_of_row w2 _ 4 _ _ (0, 0) b2
  have HB3 : Hid (Below w.heap.size w w2) := hide (HB1.out.trans (hb.mono HB1.out.size))
  clear q2 q3 q4 r2 b1 b2 hb hb2
  go_wp2
  go_ret
  exact ⟨rfl, HB3.out⟩

set_option maxHeartbeats 4000000 in
theorem sameNodes_true (A B : Option Addr) (n c d : Nat) (ns ms : List Nd) (w : World) (hA : NsIn w A n ns) (hB : NsIn w B n ms) (hn : n ≤ 1073741824) (hs : ns.map Nd.tn = ms.map Nd.tn) :
    Calls Tryz.prog 23 #[.slice A n c, .slice B n d] w fun e w' => e = .returned (.bool true) ∧ Below w.heap.size w w' := by
  have HA := hide hA
  have HB := hide hB
  have HS := hide hs
  clear hA hB hs
  go_enter Tryz.func23, Tryz.ntmps23
  have e0 : ((n : Int) == (n : Int)) = true := by simp
  go_wp2
  go_loopw [5] (fun i wr => ∃ k : Nat, k ≤ n ∧ i = .int .i64 k ∧ Hid (Below w.heap.size w wr)) (fun i _ => n - (intOf i).toNat)
  case atStart => exact ⟨0, Nat.zero_le _, rfl, hide (Below.refl _ _)⟩
  case round =>
    obtain ⟨k, hk, rfl, HBR⟩ := hrel
    by_cases hlt : k < n
    · obtain ⟨bA, oA, g, rfl, hg, a0, a1, a2, a3, a4, hgo⟩ := (HA.out.below HBR.out).at hlt
      obtain ⟨bB, oB, q, rfl, hq, b0, b1, b2, b3, b4, hqo⟩ := (HB.out.below HBR.out).at hlt
      have HT : Hid (g.tn = q.tn) := hide (by
        have h1 := congrArg (·[k]?) HS.out
        simp only [List.getElem?_map, hg, hq, Option.map_some, Option.some.injEq] at h1
        exact h1)
      have HCG : Hid (∀ v, Below wr.heap.size wr v → v.cell? ⟨bA, oA + k * 5, none⟩ = some (.int .u8 g.kd) ∧ v.cell? ⟨bA, oA + k * 5 + 1, none⟩ = some (.slice g.I g.ni g.ci) ∧ v.cell? ⟨bA, oA + k * 5 + 2, none⟩ = some (.slice g.S g.ns g.cs) ∧ v.cell? ⟨bA, oA + k * 5 + 3, none⟩ = some (.int .i64 g.N) ∧ v.cell? ⟨bA, oA + k * 5 + 4, none⟩ = some (.int .i64 g.P) ∧ v.cell? ⟨bB, oB + k * 5, none⟩ = some (.int .u8 q.kd) ∧ v.cell? ⟨bB, oB + k * 5 + 1, none⟩ = some (.slice q.I q.ni q.ci) ∧ v.cell? ⟨bB, oB + k * 5 + 2, none⟩ = some (.slice q.S q.ns q.cs) ∧ v.cell? ⟨bB, oB + k * 5 + 3, none⟩ = some (.int .i64 q.N) ∧ v.cell? ⟨bB, oB + k * 5 + 4, none⟩ = some (.int .i64 q.P)) := hide (fun v hv => ⟨cell_onS a0 hv, cell_onS a1 hv, cell_onS a2 hv, cell_onS a3 hv, cell_onS a4 hv, cell_onS b0 hv, cell_onS b1 hv, cell_onS b2 hv, cell_onS b3 hv, cell_onS b4 hv⟩)
      have HG := hide hgo
      have HQ := hide hqo
      have j00 : (0 : Int) ≤ (k : Int) := by omega
      have j10 : (k : Int) < (n : Int) := by omega
      have hd0 : Below wr.heap.size wr wr.drew := below_drewN (Below.refl _ _) 1
      clear a0 a1 a2 a3 a4 b0 b1 b2 b3 b4 hgo hqo hg hq
      go_wp2
      have hS0 : Hid (wr.drew.cell? ⟨bA, oA + k * 5, none⟩ = some (.int .u8 g.kd) ∧ wr.drew.cell? ⟨bA, oA + k * 5 + 1, none⟩ = some (.slice g.I g.ni g.ci) ∧ wr.drew.cell? ⟨bA, oA + k * 5 + 2, none⟩ = some (.slice g.S g.ns g.cs) ∧ wr.drew.cell? ⟨bA, oA + k * 5 + 3, none⟩ = some (.int .i64 g.N) ∧ wr.drew.cell? ⟨bA, oA + k * 5 + 4, none⟩ = some (.int .i64 g.P) ∧ wr.drew.cell? ⟨bB, oB + k * 5, none⟩ = some (.int .u8 q.kd) ∧ wr.drew.cell? ⟨bB, oB + k * 5 + 1, none⟩ = some (.slice q.I q.ni q.ci) ∧ wr.drew.cell? ⟨bB, oB + k * 5 + 2, none⟩ = some (.slice q.S q.ns q.cs) ∧ wr.drew.cell? ⟨bB, oB + k * 5 + 3, none⟩ = some (.int .i64 q.N) ∧ wr.drew.cell? ⟨bB, oB + k * 5 + 4, none⟩ = some (.int .i64 q.P)) := hide (HCG.out _ hd0)
      refine wp_region_U (fun _ v => v.cell? ⟨bA, oA + k * 5, none⟩ = some (.int .u8 g.kd) ∧ v.cell? ⟨bA, oA + k * 5 + 1, none⟩ = some (.slice g.I g.ni g.ci) ∧ v.cell? ⟨bA, oA + k * 5 + 2, none⟩ = some (.slice g.S g.ns g.cs) ∧ v.cell? ⟨bA, oA + k * 5 + 3, none⟩ = some (.int .i64 g.N) ∧ v.cell? ⟨bA, oA + k * 5 + 4, none⟩ = some (.int .i64 g.P) ∧ v.cell? ⟨bB, oB + k * 5, none⟩ = some (.int .u8 q.kd) ∧ v.cell? ⟨bB, oB + k * 5 + 1, none⟩ = some (.slice q.I q.ni q.ci) ∧ v.cell? ⟨bB, oB + k * 5 + 2, none⟩ = some (.slice q.S q.ns q.cs) ∧ v.cell? ⟨bB, oB + k * 5 + 3, none⟩ = some (.int .i64 q.N) ∧ v.cell? ⟨bB, oB + k * 5 + 4, none⟩ = some (.int .i64 q.P)) 99 (by kernel_rfl) ?_
      refine wpAnyU_take (i := 0) (oi := { dst := some 17, op := _, type := _, pos := _, after := _, guard := none }) (v := .slice (some ⟨bA, oA, none⟩) n c) rfl (by kernel_rfl) (by kernel_rfl) (by kernel_rfl) (by kernel_rfl) (fun _ _ _ h => h) (yields_take rfl (fun w' hw => by obtain ⟨h1, h2, h3, h4, h5, h6, h7, h8, h9, h10⟩ := hw.const; go_simp)) hS0.out ?_
      simp only [Act.put, List.setIfInBounds_toArray, List.set_cons_zero, List.set_cons_succ]
      refine wpAnyU_take (i := 1) (oi := { dst := some 18, op := _, type := _, pos := _, after := _, guard := none }) (v := .int .i64 (k : Int)) rfl (by kernel_rfl) (by kernel_rfl) (by kernel_rfl) (by kernel_rfl) (fun _ _ _ h => h) (yields_take rfl (fun w' hw => by obtain ⟨h1, h2, h3, h4, h5, h6, h7, h8, h9, h10⟩ := hw.const; go_simp)) hS0.out ?_
      simp only [Act.put, List.setIfInBounds_toArray, List.set_cons_zero, List.set_cons_succ]
      refine wpAnyU_take (i := 2) (oi := { dst := some 19, op := _, type := _, pos := _, after := _, guard := none }) (v := .pointer (some ⟨bA, oA + k * 5, none⟩)) rfl (by kernel_rfl) (by kernel_rfl) (by kernel_rfl) (by kernel_rfl) (fun _ _ _ h => h) (yields_take rfl (fun w' hw => by obtain ⟨h1, h2, h3, h4, h5, h6, h7, h8, h9, h10⟩ := hw.const; go_simp)) hS0.out ?_
      simp only [Act.put, List.setIfInBounds_toArray, List.set_cons_zero, List.set_cons_succ]
      refine wpAnyU_take (i := 3) (oi := { dst := some 20, op := _, type := _, pos := _, after := _, guard := none }) (v := .agg #[.int .u8 g.kd, .slice g.I g.ni g.ci, .slice g.S g.ns g.cs, .int .i64 g.N, .int .i64 g.P]) rfl (by kernel_rfl) (by kernel_rfl) (by kernel_rfl) (by kernel_rfl) (fun _ _ _ h => h) (yields_take rfl (fun w' hw => by obtain ⟨h1, h2, h3, h4, h5, h6, h7, h8, h9, h10⟩ := hw.const; go_simp)) hS0.out ?_
      simp only [Act.put, List.setIfInBounds_toArray, List.set_cons_zero, List.set_cons_succ]
      refine wpAnyU_take (i := 4) (oi := { dst := some 21, op := _, type := _, pos := _, after := _, guard := none }) (v := .slice (some ⟨bB, oB, none⟩) n d) rfl (by kernel_rfl) (by kernel_rfl) (by kernel_rfl) (by kernel_rfl) (fun _ _ _ h => h) (yields_take rfl (fun w' hw => by obtain ⟨h1, h2, h3, h4, h5, h6, h7, h8, h9, h10⟩ := hw.const; go_simp)) hS0.out ?_
      simp only [Act.put, List.setIfInBounds_toArray, List.set_cons_zero, List.set_cons_succ]
      refine wpAnyU_take (i := 5) (oi := { dst := some 22, op := _, type := _, pos := _, after := _, guard := none }) (v := .int .i64 (k : Int)) rfl (by kernel_rfl) (by kernel_rfl) (by kernel_rfl) (by kernel_rfl) (fun _ _ _ h => h) (yields_take rfl (fun w' hw => by obtain ⟨h1, h2, h3, h4, h5, h6, h7, h8, h9, h10⟩ := hw.const; go_simp)) hS0.out ?_
      simp only [Act.put, List.setIfInBounds_toArray, List.set_cons_zero, List.set_cons_succ]
      refine wpAnyU_take (i := 6) (oi := { dst := some 23, op := _, type := _, pos := _, after := _, guard := none }) (v := .pointer (some ⟨bB, oB + k * 5, none⟩)) rfl (by kernel_rfl) (by kernel_rfl) (by kernel_rfl) (by kernel_rfl) (fun _ _ _ h => h) (yields_take rfl (fun w' hw => by obtain ⟨h1, h2, h3, h4, h5, h6, h7, h8, h9, h10⟩ := hw.const; go_simp)) hS0.out ?_
      simp only [Act.put, List.setIfInBounds_toArray, List.set_cons_zero, List.set_cons_succ]
      refine wpAnyU_take (i := 7) (oi := { dst := some 24, op := _, type := _, pos := _, after := _, guard := none }) (v := .agg #[.int .u8 q.kd, .slice q.I q.ni q.ci, .slice q.S q.ns q.cs, .int .i64 q.N, .int .i64 q.P]) rfl (by kernel_rfl) (by kernel_rfl) (by kernel_rfl) (by kernel_rfl) (fun _ _ _ h => h) (yields_take rfl (fun w' hw => by obtain ⟨h1, h2, h3, h4, h5, h6, h7, h8, h9, h10⟩ := hw.const; go_simp)) hS0.out ?_
      simp only [Act.put, List.setIfInBounds_toArray, List.set_cons_zero, List.set_cons_succ]
      refine wpAnyU_one (i := 8) (by kernel_rfl) rfl ?_
      intro K hK
      go_simp
      refine Calls.mono (sameNode_true g q _ (HG.out.below hd0) (HQ.out.below hd0) HT.out) ?_
      rintro e w1 ⟨rfl, hb⟩
      dsimp only
      have hd1 : Below wr.heap.size wr w1 := below_nx6 hd0 hb
      clear hb
      have hS1 : Hid (w1.cell? ⟨bA, oA + k * 5, none⟩ = some (.int .u8 g.kd) ∧ w1.cell? ⟨bA, oA + k * 5 + 1, none⟩ = some (.slice g.I g.ni g.ci) ∧ w1.cell? ⟨bA, oA + k * 5 + 2, none⟩ = some (.slice g.S g.ns g.cs) ∧ w1.cell? ⟨bA, oA + k * 5 + 3, none⟩ = some (.int .i64 g.N) ∧ w1.cell? ⟨bA, oA + k * 5 + 4, none⟩ = some (.int .i64 g.P) ∧ w1.cell? ⟨bB, oB + k * 5, none⟩ = some (.int .u8 q.kd) ∧ w1.cell? ⟨bB, oB + k * 5 + 1, none⟩ = some (.slice q.I q.ni q.ci) ∧ w1.cell? ⟨bB, oB + k * 5 + 2, none⟩ = some (.slice q.S q.ns q.cs) ∧ w1.cell? ⟨bB, oB + k * 5 + 3, none⟩ = some (.int .i64 q.N) ∧ w1.cell? ⟨bB, oB + k * 5 + 4, none⟩ = some (.int .i64 q.P)) := hide (HCG.out _ hd1)
      refine hK.out _ _ hS1.out (fun _ => ?_)
      clear hK K hS0
      refine wpAnyU_take (i := 9) (oi := { dst := some 26, op := _, type := _, pos := _, after := _, guard := none }) (v := .bool false) rfl (by kernel_rfl) (by kernel_rfl) (by kernel_rfl) (by kernel_rfl) (fun _ _ _ h => h) (yields_take rfl (fun w' hw => by go_simp)) hS1.out ?_
      simp only [Act.put, List.setIfInBounds_toArray, List.set_cons_zero, List.set_cons_succ]
      refine wpAnyU_done (by kernel_rfl) ?_ _
      clear hS1
      have HB1 := hide (below_nx6 HBR.out hd1)
      go_wp2
      go_roundw
      case rel => exact ⟨k + 1, by omega, by go_num, HB1⟩
      case measure => simp [intOf] <;> omega
    · obtain rfl : k = n := by omega
      have f1 : ¬ ((k : Int) < (k : Int)) := by omega
      go_wp2
      go_ret
      exact ⟨rfl, HBR.out⟩

end

section
open Go.RowKit
set_option linter.unusedVariables false
set_option linter.unusedSimpArgs false
set_option maxRecDepth 100000

theorem fit_few {x : Nd} {ss : List (List Int)} (h : fitN x ss = true) : x.xs.length ≤ 4 ∧ x.sh.length ≤ 4 := by
  obtain ⟨hk, ha, hi, _⟩ := fitN_parts h
  obtain ⟨k, hk2⟩ : ∃ k : Nat, x.kd = (k : Int) := ⟨x.kd.toNat, by omega⟩
  rw [hk2, Int.toNat_natCast] at ha
  have hcs : k = 1 ∨ k = 2 ∨ k = 3 ∨ k = 4 ∨ k = 5 ∨ k = 6 ∨ k = 7 ∨ k = 8 ∨ k = 9 ∨ k = 10 ∨ k = 11 ∨ k = 12 ∨ k = 13 := by omega
  have hall : ∀ (r : Rl), alw r x = true → (r.a ≤ (x.xs.length : Int) ∧ (x.xs.length : Int) ≤ r.b) ∧ lOk r.lk x.sh = true := by
    intro r hr
    simp only [alw, Bool.and_eq_true, decide_eq_true_eq] at hr
    exact ⟨hr.1.1.1, hr.2⟩
  obtain ⟨c1, c4⟩ := hall _ ha
  clear ha hall
  rcases hcs with rfl | rfl | rfl | rfl | rfl | rfl | rfl | rfl | rfl | rfl | rfl | rfl | rfl
  all_goals
    simp only [rlT] at c1 c4
    first
    | (have h4 := nil_of c4; exact ⟨by omega, by rw [h4]; simp⟩)
    | (have h4 := size_small (s := x.sh) (by simpa [lOk] using c4); exact ⟨by omega, h4.1.2⟩)
    | (have h4 := ord_small (u := x.sh) (by simpa [lOk] using c4); exact ⟨by omega, h4.1.2⟩)

theorem all_few : ∀ (ns : List Nd) (ss ts : List (List Int)), allSh ns ss = some ts → ∀ x ∈ ns, x.xs.length ≤ 4 ∧ x.sh.length ≤ 4
  | [], _, _, _ => by simp
  | x :: r, ss, ts, h => by
    rw [allSh] at h
    split at h
    · rename_i hf
      intro y hy
      rcases List.mem_cons.1 hy with e | e
      · subst e; exact fit_few hf
      · exact all_few r _ _ h y e
    · cases h

theorem gph_few {ns : List Nd} (h : gphB ns = true) : ∀ x ∈ ns, x.xs.length ≤ 4 ∧ x.sh.length ≤ 4 := by
  simp only [gphB, Bool.and_eq_true, endsOk, decide_eq_true_eq] at h
  obtain ⟨_, h2⟩ := h
  obtain ⟨ts, ht⟩ := Option.isSome_iff_exists.1 h2
  exact all_few ns [] ts ht

theorem stepW_few (x : Tn) (hx : x.xs.length ≤ 4) (hs : x.sh.length ≤ 4) (p : Wd) : (stepW x p).length ≤ 4 := by
  unfold stepW
  repeat' split
  all_goals (simp only [List.length_cons, List.length_nil, List.length_map]; omega)

theorem flatW_few (x : Tn) (hx : x.xs.length ≤ 4) (hs : x.sh.length ≤ 4) : ∀ ps : List Wd, (ps.flatMap (stepW x)).length ≤ 4 * ps.length
  | [] => by simp
  | p :: r => by
    have h1 := stepW_few x hx hs p
    have h2 := flatW_few x hx hs r
    rw [List.flatMap_cons, List.length_append, List.length_cons]
    omega

theorem parts_few : ∀ k, k < 14 → (partsB k).length ≤ 10 := by decide

theorem line_few (x : Tn) (h : FormT x) (hx : x.xs.length ≤ 4) (hs : x.sh.length ≤ 4) : (lineB x).length ≤ 880 := by
  have h1 := join_le 21 (wordsB x) (word_len x h)
  have h2 := flatW_few x hx hs (partsB x.kd)
  have h3 := parts_few x.kd h.2.2.2.2.lt.2
  rw [lineB]
  rw [wordsB] at h1 ⊢
  omega

theorem text_few : ∀ ns : List Tn, (∀ x ∈ ns, FormT x ∧ x.xs.length ≤ 4 ∧ x.sh.length ≤ 4) → (textB ns).length ≤ 881 * ns.length
  | [], _ => by simp [textB]
  | x :: r, h => by
    have h1 := line_few x (h x (by simp)).1 (h x (by simp)).2.1 (h x (by simp)).2.2
    have h2 := text_few r (fun y hy => h y (by simp [hy]))
    rw [text_cons, List.length_append, List.length_cons, List.length_cons]
    omega

theorem gph_short {ns : List Nd} (h : gphB ns = true) : (textB (ns.map Nd.tn)).length ≤ 28192 := by
  have h1 := gph_form h
  have h2 := gph_few h
  have h3 := text_few (ns.map Nd.tn) (fun t ht => by
    obtain ⟨x, hx, rfl⟩ := List.mem_map.1 ht
    exact ⟨(h1.2 x hx).1, (h2 x hx).1, (h2 x hx).2⟩)
  rw [List.length_map] at h3
  have := h1.1
  omega

set_option maxHeartbeats 1000000 in
theorem sameGraph_true (A B : Option Addr) (n c d : Nat) (ns ms : List Nd) (w : World) (hA : NsIn w A n ns) (hB : NsIn w B n ms) (hn : n ≤ 1073741824) (hs : ns.map Nd.tn = ms.map Nd.tn) :
    Calls Tryz.prog 9 #[.agg #[.slice A n c], .agg #[.slice B n d]] w fun e w' => e = .returned (.bool true) ∧ Below w.heap.size w w' := by
  obtain ⟨W0, hW0⟩ : ∃ W0, W0 = w.alloc (.cells #[.slice A n c] 24) := ⟨_, rfl⟩
  obtain ⟨W1, hW1⟩ : ∃ W1, W1 = W0.alloc (.cells #[.slice B n d] 24) := ⟨_, rfl⟩
  have hB0 : Below w.heap.size w W0 := by rw [hW0]; exact below_al6 (Below.refl _ _)
  have hB01 : Below W0.heap.size W0 W1 := by rw [hW1]; exact below_al6 (Below.refl _ _)
  have hs0 : W0.heap.size = w.heap.size + 1 := by rw [hW0]; exact Array.size_push _
  have HB : Hid (Below w.heap.size w W1) := hide (hB0.trans (hB01.mono hB0.size))
  have b0 : W0.heap[w.heap.size]? = some (.cells #[.slice A n c] 24 (0, 0)) := by rw [hW0]; exact heap_alloc_new w _
  have b1 : W1.heap[w.heap.size]? = some (.cells #[.slice A n c] 24 (0, 0)) := (hB01.block _ (by omega)).trans b0
  have b2 : W1.heap[W0.heap.size]? = some (.cells #[.slice B n d] 24 (0, 0)) := by rw [hW1]; exact heap_alloc_new W0 _
  rw [hs0] at b2
  have q0 := cell_of_row W1 _ 0 _ _ (0, 0) b1
  have r0 := cell_of_row W1 _ 0 _ _ (0, 0) b2
  have HC := hide (sameNodes_true A B n c d ns ms W1 (hA.below HB.out) (hB.below HB.out) hn hs)
  have hW0' := hW0.symm
  have hW1' := hW1.symm
  clear hW0 hW1 b0 b1 b2 hB0 hB01 hA hB hs
  go_enter Tryz.func9, Tryz.ntmps9
  go_wp2_with fail
  refine Calls.mono HC.out ?_
  rintro e w1 ⟨rfl, hb⟩
  have HB1 : Hid (Below w.heap.size w w1) := hide (HB.out.trans (hb.mono HB.out.size))
  clear hb q0 r0
  go_wp2
  go_ret
  exact ⟨rfl, HB1.out⟩

end

end Go.Proofs.YteagmlaahnpkhaaGreatDoor
