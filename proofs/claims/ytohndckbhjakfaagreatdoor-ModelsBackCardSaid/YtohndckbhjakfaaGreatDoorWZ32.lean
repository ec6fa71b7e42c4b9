/- Merged: Tx15, Pl11, Ak11, Al11, Back, TMath, TMath2, Mo1, Mo2. -/
import Derived.Test.YtohndckbhjakfaaGreatDoorWZ31
import Derived.Test.YtohndckbhjakfaaGreatDoorWZ29
import Derived.Lib.FrozenHead
import Derived.Test.YtohndckbhjakfaaGreatDoorWZ04
import Derived.Test.YtohndckbhjakfaaGreatDoorWZ26
import Derived.Test.YtohndckbhjakfaaGreatDoorWZ30
import Derived.Test.YtohndckbhjakfaaGreatDoorWZ01
import Derived.Test.YtohndckbhjakfaaGreatDoorWZ03
namespace Go.Proofs.YtohndckbhjakfaaGreatDoor

section
open Go.RowKit
set_option linter.unusedVariables false
set_option linter.unusedSimpArgs false
set_option maxRecDepth 100000

theorem part_len : ∀ k, k < 14 → ∀ p ∈ partsB k, p.length ≤ 21 := by decide

theorem word_len (x : Tn) (h : FormT x) (w : Wd) (hw : w ∈ wordsB x) : w.length ≤ 21 := by
  obtain ⟨hx, hs, hN, hP, hK⟩ := h
  have hi : ∀ n : Int, 0 ≤ n ∧ n < 1000000000 → (Lib.itoa n).length ≤ 21 := fun n hn => Lib.itoa_length_le n (by omega) (by omega)
  have h0 : ∀ (l : List Int) (j : Nat), Small l → (Lib.itoa (l.getD j 0)).length ≤ 21 := fun l j hl => by
    rw [List.getD_eq_getElem?_getD]
    cases hk : l[j]? with
    | none => exact hi 0 (by omega)
    | some n => exact hi n (hl n (List.mem_of_getElem? hk))
  rw [wordsB, List.mem_flatMap] at hw
  obtain ⟨p, hp, hw⟩ := hw
  have hpc := part_len x.kd hK.lt.2 p hp
  rw [stepW] at hw
  repeat' split at hw
  · simp only [List.mem_singleton] at hw; subst hw; exact h0 _ 0 hx
  · simp only [List.mem_singleton] at hw; subst hw; exact h0 _ 1 hx
  · obtain ⟨n, hn, rfl⟩ := List.mem_map.1 hw; exact hi n (hx n hn)
  · obtain ⟨n, hn, rfl⟩ := List.mem_map.1 hw; exact hi n (hs n hn)
  · simp only [List.mem_singleton] at hw; subst hw; exact hi _ hN
  · simp only [List.mem_singleton] at hw; subst hw; exact hi _ hP
  · simp only [List.mem_singleton] at hw; subst hw; exact hpc

theorem join_le (m : Nat) : ∀ ws : List Wd, (∀ w ∈ ws, w.length ≤ m) → (Lib.join ws [32]).length ≤ (m + 1) * ws.length
  | [], _ => by simp [Lib.join_nil]
  | [w], h => by rw [Lib.join_one]; have := h w (by simp); simp; omega
  | w :: v :: r, h => by
    have ih := join_le m (v :: r) (fun u hu => h u (by simp [hu]))
    have hw := h w (by simp)
    have e : Lib.join (w :: v :: r) [32] = w ++ 32 :: Lib.join (v :: r) [32] := by
      rw [Lib.join_cons, Lib.join_cons, Lib.joinTail, Lib.joinTail]; simp
    rw [e]
    simp only [List.length_append, List.length_cons] at ih ⊢
    have h3 : (m + 1) * (r.length + 1 + 1) = (m + 1) * (r.length + 1) + (m + 1) := by rw [Nat.mul_add]; omega
    omega

theorem words_many (x : Tn) (h : FormT x) (hx : x.xs.length < 256) (hs : x.sh.length < 256) : (wordsB x).length ≤ 25600 := by
  have := flatW_len x hx hs (partsB x.kd)
  have := parts_len x.kd h.2.2.2.2.lt.2
  rw [wordsB]
  omega

theorem line_len (x : Tn) (h : FormT x) (hx : x.xs.length < 256) (hs : x.sh.length < 256) : (lineB x).length ≤ 563200 := by
  have h1 := join_le 21 (wordsB x) (word_len x h)
  have h2 := words_many x h hx hs
  rw [lineB]
  omega

theorem text_len : ∀ ns : List Tn, (∀ x ∈ ns, FormT x ∧ ByteT x) → (textB ns).length ≤ 563201 * ns.length
  | [], _ => by simp [textB]
  | x :: r, h => by
    have h1 := line_len x (h x (by simp)).1 (h x (by simp)).2.2.1.1 (h x (by simp)).2.2.2.1.1
    have h2 := text_len r (fun y hy => h y (by simp [hy]))
    rw [text_cons, List.length_append, List.length_cons, List.length_cons]
    omega

theorem join_any (ws : List Wd) (hws : 1 ≤ ws.length) (hl : (Lib.join ws [32]).length ≤ 140737488355328) (hn : ws.length ≤ 25600) (A : Option Addr) (c : Nat) (base : Nat) (w : World) (ho : w.ownsRow base 9 1 (.slice A ws.length c) ws.length (ws.map strV)) : Calls Tryz.prog 39 #[.slice A ws.length c, .string ⟨#[32]⟩] w fun e w' => e = .returned (strV (Lib.join ws [32])) ∧ Below w.heap.size w w' := by
  have hli := lies_of_own ho
  have hnc := own_le ho
  obtain ⟨b, o, rfl, hlt, hcs⟩ := hli.cells hws
  have e1 : (ws.map (fun x => (⟨x.toArray⟩ : ByteArray))).map (fun x => x.data.toList) = ws := by rw [List.map_map]; exact (List.map_congr_left (fun x _ => by simp)).trans (List.map_id ws)
  have e2 : (⟨#[32]⟩ : ByteArray).data.toList = [32] := rfl
  have c := Tryz.strings_Join b o c (ws.map (fun x => (⟨x.toArray⟩ : ByteArray))) ⟨#[32]⟩ w (fun j x hj => by
    rw [List.getElem?_map] at hj
    obtain ⟨y, hy, rfl⟩ := Option.map_eq_some_iff.1 hj
    have := hcs j (List.getElem?_eq_some_iff.1 hy).1
    rw [List.getElem?_map, hy] at this
    exact this) hlt (by rw [List.length_map]; omega) (by rw [List.length_map]; exact hnc) (by rw [e1, e2]; exact hl)
  rw [e1, e2, List.length_map] at c
  exact c

theorem bldAt_on {T e : TypeId} {B b : Nat} {p : Value} {bs : List Value} {W W' : World} (h : Lib.BuilderAtF T e B b p bs W) (hb : Below W.heap.size W W') : Lib.BuilderAtF T e B b p bs W' := by
  have hlt := h.lt
  obtain ⟨hB, v, hv, hown, hne⟩ := h
  exact ⟨hB, v, (hb.block b hlt).trans hv, hown.kept (row := none) ⟨hb.os, hb.tape, hb.output, hb.size, fun k hk _ => hb.block k hk⟩ (Classical.em _), hne⟩

theorem bld_on {T e : TypeId} {B b : Nat} {bs : List Value} {W W' : World} (h : Lib.IsBuilderF T e B b bs W) (hb : Below W.heap.size W W') : Lib.IsBuilderF T e B b bs W' :=
  h.elim (fun x => .inl (bldAt_on x hb)) (fun x => .inr (bldAt_on x hb))

theorem build_new (w : World) : Lib.IsBuilderF 87 5 w.heap.size w.heap.size (Lib.byteCells []) (w.alloc (.cells #[.pointer none, .slice none 0 0] 87)) :=
  .inl ⟨Nat.le_refl _, .slice none 0 0, heap_alloc_new w _, World.ownsRowF_of (World.ownsRow_nil _ _ _ _), fun h => by cases h⟩

theorem write_any (B b : Nat) (l x : Wd) (w : World) (h : Lib.IsBuilderF 87 5 B b (Lib.byteCells l) w) (hl : l.length + x.length ≤ 140737488355328) (hB : B ≤ w.heap.size) : Calls Tryz.prog 38 #[.pointer (some ⟨b, 0, none⟩), strV x] w fun e w' => e = .returned (.tuple #[.int .i64 x.length, .nilIface]) ∧ Lib.IsBuilderF 87 5 B b (Lib.byteCells (l ++ x)) w' ∧ Below B w w' := by
  have hz : (⟨x.toArray⟩ : ByteArray).size = x.length := by simp [ByteArray.size]
  have c := Tryz.Builder_WriteString_f B b (Lib.byteCells l) ⟨x.toArray⟩ w h (by rw [Lib.byteCells_length, hz]; exact hl) hB
  have e : Lib.byteCells l ++ Lib.strCells ⟨x.toArray⟩ = Lib.byteCells (l ++ x) := by simp [Lib.byteCells, Lib.strCells]
  rw [hz, e] at c
  exact c.mono fun e w' ⟨he, hb, hbl⟩ => ⟨he, .inr hb, hbl⟩

/-- What Text comes to. -/
def TextE (ns : List Nd) (w : World) (e : Ending) (w' : World) : Prop :=
  Below w.heap.size w w' ∧ ((gphB ns = true ∧ e = .returned (.tuple #[strV (textB (ns.map Nd.tn)), .int .i64 0])) ∨ (gphB ns = false ∧ e = .returned (.tuple #[.string ⟨#[]⟩, .int .i64 1])))

set_option maxHeartbeats 16000000 in
theorem text_any (A : Option Addr) (n c : Nat) (ns : List Nd) (w : World) (h : NsIn w A n ns) (hn : n ≤ 1073741824) (hc : n ≤ c) (hv : LaidV w) : Calls Tryz.prog 18 #[.agg #[.slice A n c]] w (TextE ns w) := by
  obtain ⟨W1, hW1⟩ : ∃ W, W = w.alloc (.cells #[.slice A n c] 24) := ⟨_, rfl⟩
  have hB1 : Below w.heap.size w W1 := by rw [hW1]; exact (Below.refl _ _).alloc (Nat.le_refl _) _
  have hg1 : W1.heap[w.heap.size]? = some (.cells #[.slice A n c] 24 (0, 0)) := by rw [hW1]; exact heap_alloc_new w _
  have hq0 := cell_of_row _ _ 0 _ _ (0, 0) hg1
  have HC := hide (gcheck_any A n c ns W1 (h.below hB1) hn hc)
  have HN := hide h
  have HV := hide hv
  have HB1 := hide hB1
  have HG1 := hide hg1
  have hW1' := hW1.symm
  clear hW1 hB1 hg1 h hv
  cases hgb : gphB ns with
  | false =>
    rw [hgb] at HC
    have HGB := hide hgb
    clear hgb
    go_enter Tryz.func18, Tryz.ntmps18
    go_wp2_with (go_at_call 9; refine HC.out.mono ?_; rintro e w4 ⟨rfl, hb4⟩)
    go_ret2
    exact ⟨HB1.out.trans (hb4.mono HB1.out.size), .inr ⟨HGB.out, rfl⟩⟩
  | true =>
    obtain ⟨hn32, hform⟩ := gph_form hgb
    rw [hgb] at HC
    have HGB := hide hgb
    have HFM := hide hform
    have hnl : ns.length = n := HN.out.1
    have HNL := hide hnl
    rw [hnl] at hn32
    clear hgb hform hnl
    go_enter Tryz.func18, Tryz.ntmps18
    go_wp2_with (go_at_call 9; refine HC.out.mono ?_; rintro e w4 ⟨rfl, hb4⟩; have hq4 := cell_of_row _ _ 0 _ _ (0, 0) ((hb4.block w.heap.size (lt_of_heap HG1.out)).trans HG1.out); obtain ⟨W5, hW5⟩ : ∃ W, w4.alloc (.cells #[.pointer none, .slice none 0 0] 87) = W := ⟨_, rfl⟩; have hb5 : Below w4.heap.size w4 W5 := (by rw [← hW5]; exact (Below.refl _ _).alloc (Nat.le_refl _) _); have hq5 := cell_of_row _ _ 0 _ _ (0, 0) ((hb5.block w.heap.size (Nat.lt_of_lt_of_le (lt_of_heap HG1.out) hb4.size)).trans ((hb4.block w.heap.size (lt_of_heap HG1.out)).trans HG1.out)))
    obtain ⟨b, hb⟩ : ∃ b, b = w4.heap.size := ⟨_, rfl⟩
    have hwb := hb4.size
    have HB4 := hide (HB1.out.trans (hb4.mono HB1.out.size))
    have HBE := hide hb
    have HI0 : Hid (Lib.IsBuilderF 87 5 b b (Lib.byteCells (textB ((ns.take 0).map Nd.tn))) W5) := hide (by
      rw [← hW5, hb]
      exact build_new w4)
    have HB5 : Hid (Below b w4 W5) := hide (by rw [hb]; exact hb5)
    have HS5 : Hid (b ≤ W5.heap.size) := hide (by rw [hb]; exact hb5.size)
    have hwb2 : w.heap.size ≤ b := by rw [hb]; exact HB4.out.size
    have HTL : Hid (∀ k, (textB ((ns.take k).map Nd.tn)).length ≤ 100000000) := hide (fun k => by
      have h1 := text_len ((ns.take k).map Nd.tn) (fun y hy => by
        obtain ⟨z, hz, rfl⟩ := List.mem_map.1 hy
        exact HFM.out z (List.mem_of_mem_take hz))
      rw [List.length_map, List.length_take, HNL.out] at h1
      have := Nat.min_le_right k n
      have : 563201 * min k n ≤ 563201 * 32 := Nat.mul_le_mul_left _ (by omega)
      omega)
    rw [← hb]
    clear hb hb4 hb5 hW5 hW1' hq0 hq4 hq5 HC HG1 hwb
    go_loopw [13] (fun i wr => ∃ (k : Nat), k ≤ n ∧ i = .int .i64 k ∧ Hid (Lib.IsBuilderF 87 5 b b (Lib.byteCells (textB ((ns.take k).map Nd.tn))) wr) ∧ Hid (Below b w4 wr) ∧ Hid (b ≤ wr.heap.size)) (fun i _ => n - (intOf i).toNat)
    case atStart => exact ⟨0, Nat.zero_le _, rfl, HI0, HB5, HS5⟩
    case round =>
      obtain ⟨k, hkn, rfl, HI, HB, HS⟩ := hrel
      by_cases hlt : k < n
      · have hbw : Below w.heap.size w wr := HB4.out.trans (HB.out.mono hwb2)
        obtain ⟨b0, o, x, rfl, hxk, h0, h1, h2, h3, h4, hok⟩ := (HN.out.below hbw).at hlt
        have hmem := List.mem_of_getElem? hxk
        obtain ⟨hf, hby⟩ := HFM.out x hmem
        have htk : textB ((ns.take (k + 1)).map Nd.tn) = textB ((ns.take k).map Nd.tn) ++ lineB x.tn ++ [10] := by
          rw [List.take_add_one, hxk, List.map_append, textB, List.flatMap_append]
          simp [textB]
        have f0 : (0 : Int) ≤ (k : Int) := by omega
        have f1 : (k : Int) < (n : Int) := by omega
        have hll := line_len x.tn hf hby.2.1.1 hby.2.2.1.1
        obtain ⟨W6, hW6⟩ : ∃ W, wr.alloc (.cells #[.int .u8 x.kd, .slice x.I x.ni x.ci, .slice x.S x.ns x.cs, .int .i64 x.N, .int .i64 x.P] 44) = W := ⟨_, rfl⟩
        have hb6 : Below wr.heap.size wr W6 := by rw [← hW6]; exact (Below.refl _ _).alloc (Nat.le_refl _) _
        have hbn := BoxN.new wr x
        rw [hW6] at hbn
        have hcs := hbn.cs
        have HW := hide (wordsOf_any x W6 ((HV.out.below hbw).below hb6) (hok.below hb6) hf hby.2.1.1 hby.2.2.1.1)
        have HI6 := hide (bld_on HI.out hb6)
        have HB6 := hide (HB.out.trans (hb6.mono HS.out))
        have HS6 : Hid (b ≤ W6.heap.size) := hide (Nat.le_trans HS.out hb6.size)
        have HWN := hide (words_ne x.tn hf.2.2.2.2.lt)
        have HWM := hide (words_many x.tn hf hby.2.1.1 hby.2.2.1.1)
        have HLL : Hid ((Lib.join (wordsB x.tn) [32]).length ≤ 563200) := hide hll
        have HTK := hide htk
        unfold Nd.v at HW
        clear htk hf hby hmem hxk hok hbw hbn hb6 hll
        go_wp2_with (first | (go_at_call 40; refine HW.out.mono ?_; rintro e w7 ⟨A7, c7, rfl, ho7, hb7⟩; have HI7 := hide (bld_on HI6.out hb7); have HJ := hide (join_any (wordsB x.tn) (List.length_pos_iff.2 HWN.out) (Nat.le_trans HLL.out (by omega)) HWM.out A7 c7 _ w7 ho7)) | (go_at_call 39; refine HJ.out.mono ?_; rintro e w8 ⟨rfl, hb8⟩; have HI8 := hide (bld_on HI7.out hb8); have HS8 : Hid (b ≤ w8.heap.size) := hide (Nat.le_trans HS6.out (Nat.le_trans hb7.size hb8.size)); have HWR := hide (write_any b b (textB ((ns.take k).map Nd.tn)) (Lib.join (wordsB x.tn) [32]) w8 HI8.out (by have := HTL.out k; have := HLL.out; omega) HS8.out)) | fail)
        have HB8 := hide (HB6.out.trans ((hb7.mono HS6.out).trans (hb8.mono (Nat.le_trans HS6.out hb7.size))))
        clear ho7 hb7 hb8
        refine HWR.out.mono ?_
        rintro e w9 ⟨rfl, hi9, hb9⟩
        have HWR2 := hide (write_any b b (textB ((ns.take k).map Nd.tn) ++ Lib.join (wordsB x.tn) [32]) [10] w9 hi9 (by have := HTL.out k; have := HLL.out; simp only [List.length_append, List.length_cons, List.length_nil]; omega) (Nat.le_trans HS8.out hb9.size))
        (try dsimp only)
        go_wp2_with (go_at_call 38; refine HWR2.out.mono ?_; rintro e w10 ⟨rfl, hi10, hb10⟩)
        have HI10 : Hid (Lib.IsBuilderF 87 5 b b (Lib.byteCells (textB ((ns.take (k + 1)).map Nd.tn))) w10) := hide (by rw [HTK.out]; exact hi10)
        have HB10 : Hid (Below b w4 w10) := hide (HB8.out.trans (hb9.trans hb10))
        have HS10 : Hid (b ≤ w10.heap.size) := hide (Nat.le_trans HS8.out (Nat.le_trans hb9.size hb10.size))
        clear hi10 hi9
        go_roundw
        case rel => exact ⟨k + 1, by omega, by go_num, HI10, HB10, HS10⟩
        case measure => simp [intOf]; omega
      · obtain rfl : k = n := by omega
        have hall : ns.take k = ns := List.take_of_length_le (by rw [HNL.out]; exact Nat.le_refl _)
        have hi := HI.out
        rw [hall] at hi
        have HS9 := hide (Tryz.Builder_String_any_f b b (textB (ns.map Nd.tn)) wr hi HS.out)
        go_wp2_with (go_at_call 41; refine HS9.out.mono ?_; rintro e w9 ⟨rfl, _, hb9⟩)
        go_ret2
        exact ⟨HB4.out.trans ((HB.out.trans hb9).mono hwb2), .inl ⟨HGB.out, rfl⟩⟩

end

section
open Go.RowKit
set_option linter.unusedVariables false
set_option linter.unusedSimpArgs false
set_option maxRecDepth 100000

theorem i0_dec : Lib.itoa 0 = [48] := by rw [itoa_nat 0 (by omega)]; exact Lib.decDigits_one (by omega)

theorem i1_dec : Lib.itoa 1 = [49] := by rw [itoa_nat 1 (by omega)]; exact Lib.decDigits_one (by omega)

theorem i2_dec : Lib.itoa 2 = [50] := by rw [itoa_nat 2 (by omega)]; exact Lib.decDigits_one (by omega)

theorem i3_dec : Lib.itoa 3 = [51] := by rw [itoa_nat 3 (by omega)]; exact Lib.decDigits_one (by omega)

theorem i4_dec : Lib.itoa 4 = [52] := by rw [itoa_nat 4 (by omega)]; exact Lib.decDigits_one (by omega)

theorem kn_text (q : Nat) : textB ((knN q).map Nd.tn) = [105, 110, 112, 117, 116, 32, 50, 32, 51, 10, 119, 101, 105, 103, 104, 116, 32, 51, 32, 50, 10, 112, 114, 111, 100, 117, 99, 116, 32, 48, 32, 49, 10, 114, 101, 108, 117, 32, 50, 10] := by
  simp [textB, knN, Nd.tn, lineB, wordsB, partsB, stepW, Lib.join, i0_dec, i1_dec, i2_dec, i3_dec, List.intercalate]

theorem kn_may (q : Nat) : gphB (knN q) = true := by kernel_rfl

/-- A node by its plain part. -/
def nodeT (t : Tn) : Nd := ⟨(t.kd : Int), none, 0, 0, none, 0, 0, t.N, t.P, t.xs, t.sh⟩

theorem gph_tn {ns : List Nd} {ts : List Tn} (h : ns.map Nd.tn = ts) (hk : ∀ x ∈ ns, 0 ≤ x.kd) : gphB ns = gphB (ts.map nodeT) := by
  refine (gph_same ?_).1
  rw [← h, List.map_map, List.map_map]
  apply List.map_congr_left
  intro x hx
  have := hk x hx
  simp [pl, nodeT, Nd.tn, Int.toNat_of_nonneg this]

def s1 : Wd := [105, 110, 112, 117, 116, 32, 52, 10, 114, 101, 108, 117, 32, 48]

def s2 : Wd := [105, 110, 112, 117, 116, 32, 52, 10, 114, 101, 108, 117]

def s3 : Wd := [105, 110, 112, 117, 116, 32, 52, 10, 114, 101, 108, 117, 32, 49]

def s4 : Wd := [105, 110, 112, 117, 116, 32, 48, 52]

def tIn : Tn := ⟨1, [], [4], 0, 0⟩

theorem n_in : nodeB [105, 110, 112, 117, 116, 32, 52] = some tIn := by
  have h := node_line tIn ⟨by intro z hz; simp [tIn] at hz, by intro z hz; simp [tIn] at hz; omega, by simp [tIn], by simp [tIn], rfl, by simp [tIn], rfl, rfl⟩
  have e : lineB tIn = [105, 110, 112, 117, 116, 32, 52] := by simp [lineB, tIn, wordsB, partsB, stepW, Lib.join, i4_dec, List.intercalate]
  rwa [e] at h

theorem n_relu (z : Int) (hz : 0 ≤ z ∧ z < 2) : nodeB ([114, 101, 108, 117, 32] ++ Lib.itoa z) = some ⟨5, [z], [], 0, 0⟩ := by
  have h := node_line ⟨5, [z], [], 0, 0⟩ ⟨by intro y hy; simp at hy; omega, by intro y hy; simp at hy, by simp, by simp, rfl, rfl, rfl, rfl⟩
  have e : lineB ⟨5, [z], [], 0, 0⟩ = [114, 101, 108, 117, 32] ++ Lib.itoa z := by simp [lineB, wordsB, partsB, stepW, Lib.join, List.intercalate]
  rwa [e] at h

theorem l1 : linesB s1 = [[105, 110, 112, 117, 116, 32, 52], [114, 101, 108, 117, 32, 48]] := by decide +kernel

theorem l2 : linesB s2 = [[105, 110, 112, 117, 116, 32, 52], [114, 101, 108, 117]] := by decide +kernel

theorem l3 : linesB s3 = [[105, 110, 112, 117, 116, 32, 52], [114, 101, 108, 117, 32, 49]] := by decide +kernel

theorem l4 : linesB s4 = [[105, 110, 112, 117, 116, 32, 48, 52]] := by decide +kernel

theorem p1 : parseR s1 = .inl [tIn, ⟨5, [0], [], 0, 0⟩] := by
  have h : nodeB [114, 101, 108, 117, 32, 48] = some ⟨5, [0], [], 0, 0⟩ := by have h := n_relu 0 (by omega); rw [i0_dec] at h; exact h
  rw [parseR, l1, goP_step n_in (by omega), goP_step h (by omega), goP]
  rfl

theorem p2 : parseR s2 = .inr 1 := by
  rw [parseR, l2, goP_step n_in (by omega), goP_bad rfl]

theorem p3 : parseR s3 = .inl [tIn, ⟨5, [1], [], 0, 0⟩] := by
  have h : nodeB [114, 101, 108, 117, 32, 49] = some ⟨5, [1], [], 0, 0⟩ := by have h := n_relu 1 (by omega); rw [i1_dec] at h; exact h
  rw [parseR, l3, goP_step n_in (by omega), goP_step h (by omega), goP]
  rfl

theorem n04 : numB [48, 52] = none := by
  have h : Lib.atoiAll [48, 52] = .ok 4 := by decide
  simp [numB, h, i4_dec]

theorem p4 : parseR s4 = .inr 0 := by
  have h : nodeB [105, 110, 112, 117, 116, 32, 48, 52] = none := by
    have e : Lib.split [105, 110, 112, 117, 116, 32, 48, 52] [32] = [[105, 110, 112, 117, 116], [48, 52]] := by decide +kernel
    rw [nodeB, e]
    simp [nodeW, kindB, partsB, readB, stepR, numsB, n04]
  rw [parseR, l4, goP_bad h]

theorem g1_may : gphB ([tIn, ⟨5, [0], [], 0, 0⟩].map nodeT) = true := by kernel_rfl

theorem g3_may : gphB ([tIn, ⟨5, [1], [], 0, 0⟩].map nodeT) = false := by kernel_rfl

theorem parse_inr {s : Wd} {k : Nat} (hs : s.length ≤ 65536) (h : parseR s = .inr k) (w : World) (hv : LaidV w) : Calls Tryz.prog 22 #[strV s] w fun e w' => e = .returned (.tuple #[gr0, .int .i64 k, .int .i64 4]) ∧ Below w.heap.size w w' := by
  refine (parse_any s w hv (by omega)).mono ?_
  rintro e w' ⟨hb, hE⟩
  rcases hE with ⟨h1, _⟩ | ⟨_, k', hk, he⟩ | ⟨_, ns, hns, _⟩ | ⟨_, ns, A, c, hns, _⟩
  · omega
  · rw [h] at hk; injection hk with hk; subst hk; exact ⟨he, hb⟩
  · rw [h] at hns; cases hns
  · rw [h] at hns; cases hns

theorem parse_arg {s : Wd} {ts : List Tn} (hs : s.length ≤ 65536) (h : parseR s = .inl ts) (hg : gphB (ts.map nodeT) = false) (w : World) (hv : LaidV w) : Calls Tryz.prog 22 #[strV s] w fun e w' => e = .returned (.tuple #[gr0, .int .i64 0, .int .i64 1]) ∧ Below w.heap.size w w' := by
  refine (parse_any s w hv (by omega)).mono ?_
  rintro e w' ⟨hb, hE⟩
  rcases hE with ⟨h1, _⟩ | ⟨_, k', hk, he⟩ | ⟨_, ns, hns, _, he, _⟩ | ⟨_, ns, A, c, hns, hgb, _, _, _, how, _⟩
  · omega
  · rw [h] at hk; cases hk
  · exact ⟨he, hb⟩
  · rw [h] at hns
    injection hns with hns
    have := gph_tn hns.symm (fun x hx => by
      obtain ⟨j, hj, e⟩ := List.getElem_of_mem hx
      exact ((how j x (by rw [List.getElem?_eq_getElem hj, e])).2).2.2.2.2.1.1)
    rw [hgb, hg] at this
    cases this

/-- A text that is a graph's. -/
def ParseOk (ts : List Tn) (w : World) (e : Ending) (w' : World) : Prop :=
  ∃ (ns : List Nd) (A : Option Addr) (c : Nat), ns.map Nd.tn = ts ∧ gphB ns = true ∧ e = .returned (.tuple #[.agg #[.slice A ns.length c], .int .i64 0, .int .i64 0]) ∧ NsIn w' A ns.length ns ∧ ns.length ≤ c ∧ (∀ x ∈ ns, 0 ≤ x.kd) ∧ Below w.heap.size w w'

theorem parse_ok {s : Wd} {ts : List Tn} (hs : s.length ≤ 65536) (h : parseR s = .inl ts) (hg : gphB (ts.map nodeT) = true) (hkd : ∀ x ∈ ts, 0 ≤ (x.kd : Int)) (w : World) (hv : LaidV w) : Calls Tryz.prog 22 #[strV s] w (ParseOk ts w) := by
  refine (parse_any s w hv (by omega)).mono ?_
  rintro e w' ⟨hb, hE⟩
  rcases hE with ⟨h1, _⟩ | ⟨_, k', hk, he⟩ | ⟨_, ns, hns, hgb, he, hkn⟩ | ⟨_, ns, A, c, hns, hgb, he, hin, hro, how, _⟩
  · omega
  · rw [h] at hk; cases hk
  · rw [h] at hns
    injection hns with hns
    have := gph_tn hns.symm hkn
    rw [hgb, hg] at this
    cases this
  · rw [h] at hns
    injection hns with hns
    exact ⟨ns, A, c, hns.symm, hgb, he, hin, ownN_le hro, fun x hx => by
      obtain ⟨j, hj, e⟩ := List.getElem_of_mem hx
      exact ((how j x (by rw [List.getElem?_eq_getElem hj, e])).2).2.2.2.2.1.1, hb⟩

end

section
open Go.RowKit
set_option linter.unusedVariables false
set_option linter.unusedSimpArgs false
set_option maxRecDepth 100000

theorem parse11_res {s : Wd} {a b : Int} {w : World} (c : Calls Tryz.prog 22 #[strV s] w fun e w' => e = .returned (.tuple #[gr0, .int .i64 a, .int .i64 b]) ∧ Below w.heap.size w w') : Calls Tryz.prog 23 #[strV s] w fun e w' => e = .returned (.tuple #[.int .i64 a, .int .i64 b]) ∧ Below w.heap.size w w' := by
  unfold strV gr0 at *
  go_enter Tryz.func23, Tryz.ntmps23
  go_wp2_with (go_at_call 22; refine c.mono ?_; rintro e w1 ⟨rfl, hb⟩)
  go_ret2
  exact ⟨rfl, below_al6 hb⟩

theorem sh0 : (tkGraph ([], false)).2.2 = true := by kernel_rfl

theorem sh7 : (tkGraph ([7], false)).2.2 = true := by kernel_rfl

theorem own_max {w : World} {B e s n c : Nat} {A : Option Addr} {xs : List Value} (h : w.ownsRow B e s (.slice A n c) n xs) : c ≤ maxLen := by
  rcases h.2 with ⟨h1, h2⟩ | ⟨g, cap, cur, h1, _, _, _, h2, _⟩
  · injection h1 with _ _ h3; rw [h3]; exact Nat.zero_le _
  · injection h1 with _ _ h3; rw [h3]; exact h2

theorem own_max2 {w : World} {B e s n c : Nat} {A : Option Addr} {xs : List Value} (h : w.ownsRow B e s (.slice A n c) n xs) : c ≤ 9223372036854775807 := by
  have := own_max h
  unfold maxLen at this
  omega

theorem get_zero (A : Option Addr) (c : Nat) (w : World) (h : Lies w A 4 (([0, 0, 0, 0] : List Int).map (Value.int .u8))) (hnc : 4 ≤ c) (hc : c ≤ 9223372036854775807) : Calls Tryz.prog 13 #[.slice A 4 c] w fun e w' => e = .returned (.tuple #[md0, .int .i64 4]) ∧ Below w.heap.size w w' := by
  have e1 : ([0, 0, 0, 0] : List Int).take (4 - 4) = [] := rfl
  have e2 : ([0, 0, 0, 0] : List Int).drop (4 - 4) = [0, 0, 0, 0] := rfl
  refine get_form A 4 c [0, 0, 0, 0] w h (by intro z hz; simp at hz; omega) (by omega) (by omega) hnc hc ?_ ?_
  · rw [e1, e2, sumOf, sumOn_nil]
    rfl
  · rw [e1]
    exact sh0

theorem get_seven (A : Option Addr) (c sm : Nat) (hsm : sm = sumOf [7]) (w : World) (h : Lies w A 5 (([7] ++ four ((sm : Nat) : Int)).map (Value.int .u8))) (hnc : 5 ≤ c) (hc : c ≤ 9223372036854775807) : Calls Tryz.prog 13 #[.slice A 5 c] w fun e w' => e = .returned (.tuple #[md0, .int .i64 4]) ∧ Below w.heap.size w w' := by
  have h7 : ByteL [7] := by intro z hz; simp at hz; omega
  have hslt : sm < 4294967296 := by rw [hsm]; exact sumOf_lt h7
  have e1 : ([7] ++ four ((sm : Nat) : Int)).take (5 - 4) = [7] := rfl
  have e2 : ([7] ++ four ((sm : Nat) : Int)).drop (5 - 4) = four ((sm : Nat) : Int) := rfl
  have e3 : head4 (four ((sm : Nat) : Int)) = (sm : Int) := by
    simp only [head4, four, List.getD_cons_zero, List.getD_cons_succ]
    exact word_four (sm : Int) (by omega) (by omega)
  refine get_form A 5 c ([7] ++ four ((sm : Nat) : Int)) w h (byteL_append h7 (four_bytes _)) (by omega) (by omega) hnc hc ?_ ?_
  · rw [e1, e2, e3, hsm]
  · rw [e1]
    exact sh7

end

section
open Go.RowKit
set_option linter.unusedVariables false
set_option linter.unusedSimpArgs false
set_option maxRecDepth 100000

set_option maxHeartbeats 16000000 in
theorem alive11_any (w : World) (hv : LaidV w) : Calls Tryz.prog 6 #[] w fun e w' => e = .returned (.bool true) ∧ Below w.heap.size w w' := by
  have HV := hide hv
  have HK := hide (known11_any w)
  clear hv
  go_enter Tryz.func6, Tryz.ntmps6
  go_wp2_with (go_at_call 21; refine HK.out.mono ?_; rintro e w1 ⟨rfl, hns, hb1⟩; have HT := hide (text_any _ 4 4 (knN w.heap.size) w1 hns (by omega) (by omega) (HV.out.below hb1)); have HB1 := hide hb1; clear hns hb1)
  refine HT.out.mono ?_
  rintro e w2 ⟨hb2, hE⟩
  have he : e = .returned (.tuple #[strV [105, 110, 112, 117, 116, 32, 50, 32, 51, 10, 119, 101, 105, 103, 104, 116, 32, 51, 32, 50, 10, 112, 114, 111, 100, 117, 99, 116, 32, 48, 32, 49, 10, 114, 101, 108, 117, 32, 50, 10], .int .i64 0]) := by
    rcases hE with ⟨_, he⟩ | ⟨h, _⟩
    · rw [kn_text] at he; exact he
    · rw [kn_may] at h; cases h
  subst he
  have HB2 := hide (HB1.out.trans (hb2.mono HB1.out.size))
  clear hE hb2 HB1 HT HK
  have HP1 := hide (parse_ok (s := s1) (by decide) p1 g1_may (by intro x hx; exact Int.natCast_nonneg _) w2 (HV.out.below HB2.out))
  unfold strV s1 at HP1
  unfold strV
  (try dsimp only)
  go_wp2_with (go_at_call 22; refine HP1.out.mono ?_; rintro e w3 ⟨ns, A3, c3, hns, _, rfl, _, _, _, hb3⟩; have hnl : ns.length = 2 := (by rw [← List.length_map (f := Nd.tn), hns]; rfl); rw [hnl]; clear hns; obtain ⟨W3, hW3⟩ : ∃ W, w3.alloc (.cells #[.slice A3 2 c3] 24) = W := ⟨_, rfl⟩)
  have hb3w : Below w3.heap.size w3 W3 := by rw [← hW3]; exact (Below.refl _ _).alloc (Nat.le_refl _) _
  have hg3 : W3.heap[w3.heap.size]? = some (.cells #[.slice A3 2 c3] 24 (0, 0)) := by rw [← hW3]; exact heap_alloc_new w3 _
  have HG3 := hide hg3
  have HB3 := hide (HB2.out.trans ((hb3.mono HB2.out.size).trans (hb3w.mono (Nat.le_trans HB2.out.size hb3.size))))
  obtain ⟨q, hq⟩ : ∃ q, w3.heap.size = q := ⟨_, rfl⟩
  rw [hq] at HG3
  have hlg : q < W3.heap.size := lt_of_heap HG3.out
  clear hW3 hb3w hg3 hb3 HP1 HB2
  have HP2 := hide (parse11_res (parse_inr (s := s2) (by decide) p2 W3 (HV.out.below HB3.out)))
  unfold strV s2 at HP2
  go_wp2_with (go_at_call 23; refine HP2.out.mono ?_; rintro e w4 ⟨rfl, hb4⟩; clear HP2)
  have HB4 := hide (HB3.out.trans (hb4.mono HB3.out.size))
  have HP3 := hide (parse11_res (parse_arg (s := s3) (by decide) p3 g3_may w4 (HV.out.below HB4.out)))
  unfold strV s3 at HP3
  go_wp2_with (go_at_call 23; refine HP3.out.mono ?_; rintro e w5 ⟨rfl, hb5⟩; clear HP3)
  have HB5 := hide (HB4.out.trans (hb5.mono HB4.out.size))
  have HP4 := hide (parse11_res (parse_inr (s := s4) (by decide) p4 w5 (HV.out.below HB5.out)))
  unfold strV s4 at HP4
  go_wp2_with (go_at_call 23; refine HP4.out.mono ?_; rintro e w6 ⟨rfl, hb6⟩; obtain ⟨W7, hW7⟩ : ∃ W, w6.alloc (.cells #[.int .u8 1, .int .u8 2, .int .u8 3] 5) = W := ⟨_, rfl⟩)
  have HB6 := hide (HB5.out.trans (hb6.mono HB5.out.size))
  have hb7 : Below w6.heap.size w6 W7 := by rw [← hW7]; exact (Below.refl _ _).alloc (Nat.le_refl _) _
  have hl7 : Lies W7 (some ⟨w6.heap.size, 0, none⟩) 3 (([1, 2, 3] : List Int).map (Value.int .u8)) := ⟨rfl, fun _ => ⟨w6.heap.size, 0, rfl, by rw [← hW7]; simp, fun j _ => by rw [← hW7, cell_of_row _ _ _ _ _ (0, 0) (heap_alloc_new w6 _)]; simp⟩⟩
  have HC7 := hide (get_short (some ⟨w6.heap.size, 0, none⟩) 3 3 [1, 2, 3] W7 hl7 (by intro z hz; simp at hz; omega) (by omega) (by omega))
  have HG7 := hide (((hb4.trans ((hb5.mono hb4.size).trans ((hb6.mono (Nat.le_trans hb4.size hb5.size)).trans (hb7.mono (Nat.le_trans hb4.size (Nat.le_trans hb5.size hb6.size)))))).block q hlg).trans HG3.out)
  have HB7 := hide (HB6.out.trans (hb7.mono HB6.out.size))
  clear HP4 hl7 hb7 hb4 hb5 hb6 HB3 HB4 HB5 HB6
  unfold md0 at HC7
  go_wp2_with (go_at_call 13; refine HC7.out.mono ?_; rintro e w8 ⟨rfl, hb8⟩; clear HC7)
  obtain ⟨W10, hW10⟩ : ∃ W, (w8.alloc (.cells #[.slice none 0 0, .slice none 0 0] 27)).alloc (.cells #[.int .u8 0, .int .u8 0, .int .u8 0, .int .u8 0] 5) = W := ⟨_, rfl⟩
  have hb10 : Below w8.heap.size w8 W10 := by rw [← hW10]; exact ((Below.refl _ _).alloc (Nat.le_refl _) _).alloc (by simp) _
  have hg10 : W10.heap[w8.heap.size + 1]? = some (.cells #[.int .u8 0, .int .u8 0, .int .u8 0, .int .u8 0] 5 (0, 0)) := by
    rw [← hW10]
    have := heap_alloc_new (w8.alloc (.cells #[.slice none 0 0, .slice none 0 0] 27)) (.cells #[.int .u8 0, .int .u8 0, .int .u8 0, .int .u8 0] 5)
    simpa using this
  have hl10 : Lies W10 (some ⟨w8.heap.size + 1, 0, none⟩) 4 (([0, 0, 0, 0] : List Int).map (Value.int .u8)) := ⟨rfl, fun _ => ⟨_, 0, rfl, lt_of_heap hg10, fun j _ => by rw [cell_of_row _ _ _ _ _ (0, 0) hg10]; simp⟩⟩
  have HC10 := hide (get_zero (some ⟨w8.heap.size + 1, 0, none⟩) 4 W10 hl10 (by omega) (by omega))
  have hb710 := hb8.trans (hb10.mono hb8.size)
  have HG10 := hide ((hb710.block q (lt_of_heap HG7.out)).trans HG7.out)
  have HB10 := hide (HB7.out.trans (hb710.mono HB7.out.size))
  rw [hW10]
  clear hl10 hg10 hb10 hb710 hW10 hb8 HG7 HB7 hW7
  unfold md0 at HC10
  go_wp2_with (go_at_call 13; refine HC10.out.mono ?_; rintro e w11 ⟨rfl, hb11⟩; clear HC10)
  obtain ⟨W13, hW13⟩ : ∃ W, (w11.alloc (.cells #[.slice none 0 0, .slice none 0 0] 27)).alloc (.cells #[.int .u8 7] 5) = W := ⟨_, rfl⟩
  have hb13 : Below w11.heap.size w11 W13 := by rw [← hW13]; exact ((Below.refl _ _).alloc (Nat.le_refl _) _).alloc (by simp) _
  have hg13 : W13.heap[w11.heap.size + 1]? = some (.cells #[.int .u8 7] 5 (0, 0)) := by
    rw [← hW13]
    have := heap_alloc_new (w11.alloc (.cells #[.slice none 0 0, .slice none 0 0] 27)) (.cells #[.int .u8 7] 5)
    simpa using this
  have hl13 : Lies W13 (some ⟨w11.heap.size + 1, 0, none⟩) 1 (([7] : List Int).map (Value.int .u8)) := ⟨rfl, fun _ => ⟨_, 0, rfl, lt_of_heap hg13, fun j _ => by rw [cell_of_row _ _ _ _ _ (0, 0) hg13]; simp⟩⟩
  have h7 : ByteL [7] := by intro z hz; simp at hz; omega
  have HC13 := hide (summed_any (some ⟨w11.heap.size + 1, 0, none⟩) 1 1 [7] W13 hl13 h7 (fun h => by cases h) (by omega))
  have hb1013 := hb11.trans (hb13.mono hb11.size)
  have HG13 := hide ((hb1013.block q (lt_of_heap HG10.out)).trans HG10.out)
  have HB13 := hide (HB10.out.trans (hb1013.mono HB10.out.size))
  rw [hW13]
  clear hl13 hg13 hb13 hb1013 hW13 hb11 HG10 HB10
  obtain ⟨sm, hsm⟩ : ∃ sm, sm = sumOf [7] := ⟨_, rfl⟩
  have hslt : sm < 4294967296 := by rw [hsm]; exact sumOf_lt h7
  have HSM := hide hsm
  rw [← hsm] at HC13
  clear hsm
  go_wp2_with (go_at_call 16; refine HC13.out.mono ?_; rintro e w14 ⟨A14, c14, rfl, ho14, hb14⟩; clear HC13)
  have HC14 := hide (get_seven A14 c14 sm HSM.out w14 (lies_of_own ho14) (own_le ho14) (own_max2 ho14))
  have HG14 := hide ((hb14.block q (lt_of_heap HG13.out)).trans HG13.out)
  have HB14 := hide (HB13.out.trans (hb14.mono HB13.out.size))
  clear ho14 hb14 HG13 HB13
  unfold md0 at HC14
  go_wp2_with (go_at_call 13; refine HC14.out.mono ?_; rintro e w15 ⟨rfl, hb15⟩; clear HC14; have hg15 := (hb15.block q (lt_of_heap HG14.out)).trans HG14.out; have hq15 := cell_of_row _ _ 0 _ _ (0, 0) ((Below.heap_alloc w15 (.cells #[.slice none 0 0, .slice none 0 0] 27) q (lt_of_heap hg15)).trans hg15); simp only [List.getElem?_toArray, List.getElem?_cons_zero] at hq15)
  go_ret
  exact ⟨rfl, below_al6 (HB14.out.trans (hb15.mono HB14.out.size))⟩

end

section
open Go.RowKit

/-- Numbers of 32 bits with a sign. -/
def Words (l : List Int) : Prop := ∀ x ∈ l, -2147483648 ≤ x ∧ x < 2147483648

theorem enc_cons (z : Int) (zs : List Int) : enc (z :: zs) = four z ++ enc zs := rfl

theorem enc_bytes (zs : List Int) : Bytes (enc zs) := by
  intro x hx
  obtain ⟨z, _, h⟩ := List.mem_flatMap.1 hx
  exact four_bytes z x h

theorem head4_four (m : Int) (rest : List Int) (h0 : 0 ≤ m) (h1 : m < 4294967296) : head4 (four m ++ rest) = m := by
  show word (m % 256) (m / 256 % 256) (m / 65536 % 256) (m / 16777216 % 256) = m
  exact word_four m h0 h1

theorem four_get (z : Int) (l : List Int) (k : Nat) : (four z ++ l).getD (k + 4) 0 = l.getD k 0 := rfl

theorem wd_enc (rest : List Int) : ∀ (zs : List Int) (j : Nat), Words zs → j < zs.length → wd (enc zs ++ rest) j = zs.getD j 0
  | [], j, _, h => by simp at h
  | z :: zs, 0, hw, _ => by
    have := hw z (by simp)
    show signed (word (z % 256) (z / 256 % 256) (z / 65536 % 256) (z / 16777216 % 256)) = z
    exact signed_four z this.1 this.2
  | z :: zs, j + 1, hw, h => by
    have ih := wd_enc rest zs j (fun x hx => hw x (by simp [hx])) (by simpa using h)
    have e : wd (enc (z :: zs) ++ rest) (j + 1) = wd (enc zs ++ rest) j := by
      unfold wd
      rw [enc_cons, List.append_assoc, show 4 * (j + 1) = 4 * j + 4 from by omega, show 4 * j + 4 + 1 = 4 * j + 1 + 4 from by omega, show 4 * j + 4 + 2 = 4 * j + 2 + 4 from by omega, show 4 * j + 4 + 3 = 4 * j + 3 + 4 from by omega,
        four_get, four_get, four_get, four_get]
    rw [e, ih]
    simp

theorem dec_enc (zs rest : List Int) (hw : Words zs) : dec (enc zs ++ rest) zs.length = zs := by
  apply List.ext_getElem
  · simp [dec]
  · intro j h1 h2
    simp only [dec, List.getElem_map, List.getElem_range]
    rw [wd_enc rest zs j hw h2]
    simp [List.getD, h2]

end

section
open Go.RowKit

theorem dec_encE (l : List Int) (h : Words l) : dec (enc l) l.length = l := by have := dec_enc l [] h; rwa [List.append_nil] at this

/-- What Put answers. -/
def putB (s l : List Int) (m : Nat) : List Int := if tenOk s m = true then tenB s l else []

end

section
open Go.RowKit
set_option linter.unusedVariables false
set_option linter.unusedSimpArgs false

theorem four_word (a b c d : Int) (ha : 0 ≤ a ∧ a < 256) (hb : 0 ≤ b ∧ b < 256) (hc : 0 ≤ c ∧ c < 256) (hd : 0 ≤ d ∧ d < 256) : four (signed (word a b c d)) = [a, b, c, d] := by
  have h : ∀ z : Int, z % 4294967296 = word a b c d → four z = [a, b, c, d] := by
    intro z hz
    unfold word at hz
    simp only [four, List.cons.injEq, and_true]
    omega
  apply h
  rw [signed_eq]
  have := word_bounds ha hb hc hd
  omega

theorem wd_drop4 (bs : List Int) (j : Nat) : wd (bs.drop 4) j = wd bs (j + 1) := by
  unfold wd
  simp only [List.getD, List.getElem?_drop]
  rw [show 4 + 4 * j = 4 * (j + 1) by omega, show 4 + (4 * j + 1) = 4 * (j + 1) + 1 by omega, show 4 + (4 * j + 2) = 4 * (j + 1) + 2 by omega, show 4 + (4 * j + 3) = 4 * (j + 1) + 3 by omega]

theorem dec_succ (bs : List Int) (k : Nat) : dec bs (k + 1) = wd bs 0 :: dec (bs.drop 4) k := by
  simp only [dec, List.range_succ_eq_map, List.map_cons, List.map_map]
  congr 1
  exact List.map_congr_left (fun j _ => (wd_drop4 bs j).symm)

theorem enc_dec : ∀ (k : Nat) (bs : List Int), Bytes bs → bs.length = 4 * k → enc (dec bs k) = bs
  | 0, bs, _, h => by
    obtain rfl : bs = [] := List.eq_nil_of_length_eq_zero (by omega)
    rfl
  | k + 1, a :: b :: c :: d :: r, hb, h => by
    rw [dec_succ, enc_cons]
    have h0 := hb a (by simp)
    have h1 := hb b (by simp)
    have h2 := hb c (by simp)
    have h3 := hb d (by simp)
    rw [show wd (a :: b :: c :: d :: r) 0 = signed (word a b c d) from rfl, four_word a b c d h0 h1 h2 h3]
    rw [show List.drop 4 (a :: b :: c :: d :: r) = r from rfl, enc_dec k r (fun x hx => hb x (by simp [hx])) (by simp at h; omega)]
    rfl
  | k + 1, [], _, h => by simp at h
  | k + 1, [_], _, h => by simp at h; omega
  | k + 1, [_, _], _, h => by simp at h; omega
  | k + 1, [_, _, _], _, h => by simp at h; omega

/-- The shape, and the numbers, that are got. -/
def gotS (bs : List Int) : List Int := if getOk bs = true then shpOf bs (dimsOf bs) else []

def gotL (bs : List Int) : List Int := if getOk bs = true then dec (bs.drop (1 + dimsOf bs)) (sizeI (shpOf bs (dimsOf bs))).toNat else []

end

section
open Go.RowKit
set_option linter.unusedVariables false
set_option linter.unusedSimpArgs false
set_option maxRecDepth 100000

theorem getD_mem11 {l : List Int} {j : Nat} (h : j < l.length) : l.getD j 0 ∈ l := by
  have e : l.getD j 0 = l[j] := by simp [List.getD, h]
  rw [e]
  exact List.getElem_mem h

theorem take_getD11 {xs : List Int} {j : Nat} (h : j < xs.length) : xs.take (j + 1) = xs.take j ++ [xs.getD j 0] := by
  have e : xs.getD j 0 = xs[j] := by simp [List.getD, h]
  rw [e, List.take_succ_eq_append_getElem h]

/-- A tensor as it lies in a list of weights. -/
structure Wt where
  A : Option Addr
  n : Nat
  c : Nat
  B : Option Addr
  m : Nat
  d : Nat
  s : List Int
  l : List Int

def Wt.Ok (t : Wt) (w : World) : Prop := (Lies w t.A t.n (t.s.map (Value.int .i64)) ∧ Lies w t.B t.m (t.l.map (Value.int .i32))) ∧ (t.n ≤ t.c ∧ t.m ≤ t.d) ∧ (t.n ≤ 70368744177664 ∧ t.m ≤ 70368744177664) ∧ Words t.l

theorem Wt.Ok.below {t : Wt} {w w' : World} (h : t.Ok w) (hb : Below w.heap.size w w') : t.Ok w' := ⟨⟨h.1.1.below hb, h.1.2.below hb⟩, h.2⟩

/-- A list of weights lies there. -/
def WsAt (w : World) (b o : Nat) (ts : List Wt) : Prop :=
  ∀ j t, ts[j]? = some t → w.cell? ⟨b, o + j * 2, none⟩ = some (.slice t.A t.n t.c) ∧ w.cell? ⟨b, o + j * 2 + 1, none⟩ = some (.slice t.B t.m t.d) ∧ t.Ok w

def WsIn (w : World) (A : Option Addr) (n : Nat) (ts : List Wt) : Prop := ts.length = n ∧ (1 ≤ n → ∃ b o, A = some ⟨b, o, none⟩ ∧ b < w.heap.size ∧ WsAt w b o ts)

theorem WsAt.below {w w' : World} {b o : Nat} {ts : List Wt} (h : WsAt w b o ts) (hb : Below w.heap.size w w') (hlt : b < w.heap.size) : WsAt w' b o ts := by
  intro j t hj
  obtain ⟨h0, h1, h2⟩ := h j t hj
  have e := fun k => World.cell?_of_block (w := w) (w' := w') (a := ⟨b, k, none⟩) (hb.block b hlt)
  exact ⟨(e _).trans h0, (e _).trans h1, h2.below hb⟩

theorem WsIn.below {w w' : World} {A : Option Addr} {n : Nat} {ts : List Wt} (h : WsIn w A n ts) (hb : Below w.heap.size w w') : WsIn w' A n ts :=
  ⟨h.1, fun hn => by
    obtain ⟨b, o, e, hlt, hx⟩ := h.2 hn
    exact ⟨b, o, e, Nat.lt_of_lt_of_le hlt hb.size, hx.below hb hlt⟩⟩

theorem WsIn.at {w : World} {A : Option Addr} {n k : Nat} {ts : List Wt} (h : WsIn w A n ts) (hk : k < n) : ∃ b o t, A = some ⟨b, o, none⟩ ∧ ts[k]? = some t ∧ w.cell? ⟨b, o + k * 2, none⟩ = some (.slice t.A t.n t.c) ∧ w.cell? ⟨b, o + k * 2 + 1, none⟩ = some (.slice t.B t.m t.d) ∧ t.Ok w := by
  obtain ⟨b, o, e, _, hx⟩ := h.2 (by omega)
  obtain ⟨t, ht⟩ : ∃ t, ts[k]? = some t := ⟨ts[k]'(by rw [h.1]; exact hk), List.getElem?_eq_getElem (by rw [h.1]; exact hk)⟩
  exact ⟨b, o, t, e, ht, hx k t ht⟩

/-- A node's list. -/
def shOf (ns : List Nd) (i : Int) : List Int := match ns[i.toNat]? with
  | some x => x.sh
  | none => []

/-- Do the weights fit the nodes of some indices? -/
def wsFit (ns : List Nd) : List Int → List Wt → Bool
  | [], [] => true
  | i :: is, t :: ts => tenOk t.s t.m && decide (t.s = shOf ns i) && wsFit ns is ts
  | _, _ => false

theorem wsFit_len {ns : List Nd} : ∀ {is : List Int} {ts : List Wt}, wsFit ns is ts = true → is.length = ts.length
  | [], [], _ => rfl
  | [], _ :: _, h => by simp [wsFit] at h
  | _ :: _, [], h => by simp [wsFit] at h
  | i :: is, t :: ts, h => by
    simp only [wsFit, Bool.and_eq_true] at h
    rw [List.length_cons, List.length_cons, wsFit_len h.2]

theorem wsFit_at {ns : List Nd} : ∀ {is : List Int} {ts : List Wt} {k : Nat} {i : Int} {t : Wt}, wsFit ns is ts = true → is[k]? = some i → ts[k]? = some t → tenOk t.s t.m = true ∧ t.s = shOf ns i
  | [], _, _, _, _, _, hi, _ => by simp at hi
  | _ :: _, [], _, _, _, _, _, ht => by simp at ht
  | j :: is, u :: ts, 0, i, t, h, hi, ht => by
    simp only [wsFit, Bool.and_eq_true, decide_eq_true_eq] at h
    simp at hi ht
    subst hi ht
    exact h.1
  | j :: is, u :: ts, k + 1, i, t, h, hi, ht => by
    simp only [wsFit, Bool.and_eq_true] at h
    exact wsFit_at h.2 (by simpa using hi) (by simpa using ht)

theorem wsFit_mk {ns : List Nd} : ∀ {is : List Int} {ts : List Wt}, is.length = ts.length → (∀ (k : Nat) (i : Int) (t : Wt), is[k]? = some i → ts[k]? = some t → tenOk t.s t.m = true ∧ t.s = shOf ns i) → wsFit ns is ts = true
  | [], [], _, _ => rfl
  | [], _ :: _, h, _ => by simp at h
  | _ :: _, [], h, _ => by simp at h
  | j :: is, u :: ts, hl, h => by
    have h0 := h 0 j u rfl rfl
    have ih := wsFit_mk (is := is) (ts := ts) (by simpa using hl) (fun k i t hi ht => h (k + 1) i t (by simpa using hi) (by simpa using ht))
    rw [wsFit, h0.1, decide_eq_true h0.2, ih]
    rfl

/-- Which models may be. -/
def mdB (ns : List Nd) (ts : List Wt) : Bool := gphB ns && wsFit ns (wtF 0 ns) ts

theorem mdB_parts {ns : List Nd} {ts : List Wt} : mdB ns ts = true ↔ gphB ns = true ∧ wsFit ns (wtF 0 ns) ts = true := by rw [mdB, Bool.and_eq_true]

/-- The numbers of all weights, as bytes. -/
def wsI (ts : List Wt) : List Int := (ts.map Wt.l).flatMap enc

theorem wsI_cons (t : Wt) (ts : List Wt) : wsI (t :: ts) = enc t.l ++ wsI ts := by simp [wsI]

theorem wsI_append (a b : List Wt) : wsI (a ++ b) = wsI a ++ wsI b := by simp [wsI, List.flatMap_append]

/-- A model's bytes, ahead of their sum, and with it. -/
def mdI (ns : List Nd) (ts : List Wt) : List Int := graphI (ns.map Nd.tn) ++ wsI ts

def mdP (ns : List Nd) (ts : List Wt) : List Int := mdI ns ts ++ four ((sumOf (mdI ns ts) : Nat) : Int)

theorem wsI_bytes : ∀ ts : List Wt, ByteL (wsI ts)
  | [] => fun z hz => by simp [wsI] at hz
  | t :: ts => by
    rw [wsI_cons]
    intro z hz
    rcases List.mem_append.1 hz with hz | hz
    · exact enc_bytes _ z hz
    · exact wsI_bytes ts z hz

theorem mdI_bytes {ns : List Nd} {ts : List Wt} (h : gphB ns = true) : ByteL (mdI ns ts) := by
  obtain ⟨h1, h2⟩ := gph_form h
  intro z hz
  rcases List.mem_append.1 hz with hz | hz
  · refine graphI_byte (by rw [List.length_map]; omega) (fun x hx => ?_) z hz
    obtain ⟨y, hy, rfl⟩ := List.mem_map.1 hx
    exact (h2 y hy).2
  · exact wsI_bytes ts z hz

theorem mdP_bytes {ns : List Nd} {ts : List Wt} (h : gphB ns = true) : ByteL (mdP ns ts) := by
  intro z hz
  rcases List.mem_append.1 hz with hz | hz
  · exact mdI_bytes h z hz
  · exact four_bytes _ z hz

/-- How many numbers the weights of some nodes have. -/
def szW (ns : List Nd) : List Int → Nat
  | [] => 0
  | i :: is => (sizeI (shOf ns i)).toNat + szW ns is

theorem wsI_len {ns : List Nd} : ∀ {is : List Int} {ts : List Wt}, wsFit ns is ts = true → (∀ t ∈ ts, t.l.length = t.m) → (wsI ts).length = 4 * szW ns is
  | [], [], _, _ => rfl
  | [], _ :: _, h, _ => by simp [wsFit] at h
  | _ :: _, [], h, _ => by simp [wsFit] at h
  | i :: is, t :: ts, h, hl => by
    simp only [wsFit, Bool.and_eq_true, decide_eq_true_eq] at h
    have ih := wsI_len h.2 (fun u hu => hl u (List.mem_cons_of_mem _ hu))
    have h1 := h.1.1
    simp only [tenOk, Bool.and_eq_true, decide_eq_true_eq] at h1
    rw [h.1.2] at h1
    rw [wsI_cons, List.length_append, enc_len, ih, szW, hl t (List.mem_cons_self ..)]
    omega

theorem wtF_mem : ∀ (ns : List Nd) (i : Nat) (z : Int), z ∈ wtF i ns → ∃ (j : Nat) (x : Nd), z = ((i + j : Nat) : Int) ∧ ns[j]? = some x ∧ x.kd = 2
  | [], i, z, h => by simp [wtF] at h
  | x :: r, i, z, h => by
    rw [wtF] at h
    split at h
    · rename_i hx
      rcases List.mem_cons.1 h with rfl | h
      · exact ⟨0, x, rfl, rfl, hx⟩
      · obtain ⟨j, y, rfl, hy, hk⟩ := wtF_mem r (i + 1) z h
        exact ⟨j + 1, y, by omega, by simpa using hy, hk⟩
    · obtain ⟨j, y, rfl, hy, hk⟩ := wtF_mem r (i + 1) z h
      exact ⟨j + 1, y, by omega, by simpa using hy, hk⟩

theorem wt_node {ns : List Nd} {k : Nat} {z : Int} (h : (wtF 0 ns)[k]? = some z) : ∃ (j : Nat) (x : Nd), z = (j : Int) ∧ ns[j]? = some x ∧ x.kd = 2 ∧ shOf ns z = x.sh := by
  obtain ⟨j, x, e, hx, hk⟩ := wtF_mem ns 0 z (List.mem_of_getElem? h)
  rw [Nat.zero_add] at e
  refine ⟨j, x, e, hx, hk, ?_⟩
  rw [e, shOf, Int.toNat_natCast, hx]

theorem wtF_len11 : ∀ (ns : List Nd) (i : Nat), (wtF i ns).length ≤ ns.length
  | [], _ => Nat.le_refl _
  | x :: r, i => by
    have := wtF_len11 r (i + 1)
    rw [wtF, List.length_cons]
    split
    · rw [List.length_cons]; omega
    · omega

theorem gphB_n11 {ns : List Nd} (h : gphB ns = true) : ns.length ≤ 32 := (endsOk_parts (gphB_parts h).1).1

end

section
open Go.RowKit
set_option linter.unusedVariables false
set_option linter.unusedSimpArgs false
set_option maxRecDepth 100000

/-- All blocks but that of a row of the call's own are as they were; and the row goes on to none of them. -/
def Kept (w w' : World) (v v' : Value) : Prop := w.heap.size ≤ w'.heap.size ∧ ∀ p, p < w.heap.size → v.ownBlock ≠ some p → w'.heap[p]? = w.heap[p]? ∧ v'.ownBlock ≠ some p

theorem Kept.refl (w : World) (v : Value) : Kept w w v v := ⟨Nat.le_refl _, fun _ _ h => ⟨rfl, h⟩⟩

theorem Kept.trans {a b c : World} {u v z : Value} (h : Kept a b u v) (k : Kept b c v z) : Kept a c u z :=
  ⟨Nat.le_trans h.1 k.1, fun p hp hu => by
    obtain ⟨h1, h2⟩ := h.2 p hp hu
    obtain ⟨h3, h4⟩ := k.2 p (Nat.lt_of_lt_of_le hp h.1) h2
    exact ⟨h3.trans h1, h4⟩⟩

theorem Kept.below {w w' : World} (hb : Below w.heap.size w w') (v : Value) : Kept w w' v v := ⟨hb.size, fun p hp h => ⟨hb.block p hp, h⟩⟩

theorem Kept.moved {w w' : World} {v v' : Value} (hm : Moved w w' v v') : Kept w w' v v' := by
  rcases hm with ⟨he, hg⟩ | ⟨hg, hnew⟩
  · exact ⟨hg.size, fun p hp h => ⟨hg.block p hp (fun e => h e.symm), by rw [he]; exact h⟩⟩
  · refine ⟨hg.size, fun p hp h => ⟨hg.block p hp (by simp), fun e => ?_⟩⟩
    have := hnew p e
    omega

theorem Kept.block {w w' : World} {v v' : Value} (h : Kept w w' v v') {p : Nat} {o : Obj} (hp : w.heap[p]? = some o) (hv : v.ownBlock ≠ some p) : w'.heap[p]? = some o := (h.2 p (lt_of_heap hp) hv).1.trans hp

theorem u8_small {z : Int} (h : 0 ≤ z ∧ z < 256) : IntKind.u8.wrap z = z := by rw [IntKind.wrap_u8]; omega

set_option maxHeartbeats 4000000 in
theorem putList11_any (base : Nat) (A D : Option Addr) (n c m d : Nat) (bs l : List Int) (w0 w : World) (ho : w.ownsRow base 5 1 (.slice A n c) n (bs.map (Value.int .u8))) (hl : Lies w0 D m (l.map (Value.int .i64))) (hm : m < 256) (hb : ByteL l) (hbase : base ≤ w.heap.size) (hb0 : Below w0.heap.size w0 w) (h0 : w0.heap.size ≤ base) (hn : n ≤ 1000000) :
    Calls Tryz.prog 51 #[.slice A n c, .slice D m d] w fun e w' => ∃ (A' : Option Addr) (c' : Nat), e = .returned (.slice A' (n + 1 + m) c') ∧ w'.ownsRow base 5 1 (.slice A' (n + 1 + m) c') (n + 1 + m) ((bs ++ listI l).map (Value.int .u8)) ∧ Below base w w' ∧ Kept w w' (.slice A n c) (.slice A' (n + 1 + m) c') := by
  obtain ⟨i0, hi, hz0, hz1, hz2⟩ := info_parts Tryz.infoB
  have HI := hide hi
  have HZ0 := hide hz0
  have HZ1 := hide hz1
  have HZ2 := hide hz2
  have HO := hide ho
  have HL := hide hl
  have HLN : Hid (l.length = m) := hide (lies_len9 hl)
  have HBL := hide hb
  have HB0 := hide hb0
  have em : IntKind.u8.wrap (m : Int) = (m : Int) := u8_small ⟨by omega, by omega⟩
  have HX3 : Hid ((w.alloc (.cells #[.int .u8 (m : Int)] 5)).cell? ⟨w.heap.size, 0, none⟩ = some (.int .u8 (m : Int))) := hide (by have h := cells_new w [.int .u8 (m : Int)] 5 0 _ rfl; rwa [Addr.add_lit] at h)
  clear hi hz0 hz1 hz2 ho hl hb hb0
  go_enter Tryz.func51, Tryz.ntmps51
  go_wp2_with (at_builtin; refine wpList_append_one rfl (.tmp 7) (.tmp 11) 30 rfl 5 i0 (.int .u8 0) 1 Tryz.underlying30 HI.out HZ0.out HZ1.out HZ2.out rfl base A n c (bs.map (Value.int .u8)) rfl (HO.out.alloc _) (Nat.le_trans hbase (by simp)) ⟨w.heap.size, 0, none⟩ (.int .u8 (m : Int)) rfl HX3.out rfl (by omega) (by unfold maxLen; omega) ?_)
  intro A1 c1 w1 ho1 hm1
  have HO1 : Hid (w1.ownsRow base 5 1 (.slice A1 (n + 1) c1) (n + 1) ((bs ++ [(m : Int)]).map (Value.int .u8))) := hide (by rw [List.map_append]; exact ho1)
  have HB1 := hide (below_moved ((Below.refl base w).alloc hbase (.cells #[.int .u8 (m : Int)] 5)) (Nat.le_trans hbase (by simp)) (HO.out.alloc _) hm1)
  have HK1 : Hid (Kept w w1 (.slice A n c) (.slice A1 (n + 1) c1)) := hide ((Kept.below (below_al6 (Below.refl _ _)) _).trans (Kept.moved hm1))
  clear ho1 hm1 HX3
  go_wp2
  go_loopw [0, 15] (fun v i wr => ∃ (k q : Nat) (A2 : Option Addr) (c2 : Nat), k ≤ m ∧ q = n + 1 + k ∧ i = .int .i64 k ∧ v = .slice A2 q c2 ∧ Hid (wr.ownsRow base 5 1 (.slice A2 q c2) q ((bs ++ [(m : Int)] ++ l.take k).map (Value.int .u8))) ∧ Hid (Below base w wr) ∧ Hid (Kept w wr (.slice A n c) (.slice A2 q c2))) (fun _ i _ => m - (intOf i).toNat)
  case atStart => exact ⟨0, n + 1, A1, c1, Nat.zero_le _, rfl, rfl, rfl, hide (by simpa using HO1.out), HB1, HK1⟩
  case round =>
    obtain ⟨k, q, A2, c2, hk, hq, rfl, rfl, HR, HB, HK⟩ := hrel
    have hqb : q ≤ 1001000 := by omega
    have HQ := hide hq
    clear hq
    by_cases hlt : k < m
    · obtain ⟨b, o, eD, _, hx⟩ := byte_at (HL.out.below (HB0.out.trans (HB.out.mono h0))) (by omega)
      have hc1 := hx k hlt
      obtain ⟨z, hz⟩ : ∃ z, z = l.getD k 0 := ⟨_, rfl⟩
      rw [← hz] at hc1
      have ez := u8_small (HBL.out z (by rw [hz]; exact getD_mem11 (by rw [HLN.out]; exact hlt)))
      have HTK : Hid (l.take (k + 1) = l.take k ++ [z]) := hide (by rw [hz]; exact take_getD11 (by rw [HLN.out]; exact hlt))
      have f0 : (0 : Int) ≤ (k : Int) := by omega
      have f1 : (k : Int) < (m : Int) := by omega
      have hs1 := Nat.le_trans hbase HB.out.size
      have HX3 : Hid ((wr.alloc (.cells #[.int .u8 z] 5)).cell? ⟨wr.heap.size, 0, none⟩ = some (.int .u8 z)) := hide (by have h := cells_new wr [.int .u8 z] 5 0 _ rfl; rwa [Addr.add_lit] at h)
      rw [eD]
      have HED := hide eD
      clear hx hz eD
      go_wp2_with (at_builtin; refine wpList_append_one rfl (.tmp 19) (.tmp 22) 30 rfl 5 i0 (.int .u8 0) 1 Tryz.underlying30 HI.out HZ0.out HZ1.out HZ2.out rfl base A2 q c2 ((bs ++ [(m : Int)] ++ l.take k).map (Value.int .u8)) rfl (HR.out.alloc _) (Nat.le_trans hs1 (by simp)) ⟨wr.heap.size, 0, none⟩ (.int .u8 z) rfl HX3.out rfl (by omega) (by unfold maxLen; omega) ?_)
      intro A3 c3 w3 ho3 hm3
      have HR3 : Hid (w3.ownsRow base 5 1 (.slice A3 (q + 1) c3) (q + 1) ((bs ++ [(m : Int)] ++ l.take (k + 1)).map (Value.int .u8))) := hide (by
        rw [HTK.out, ← List.append_assoc, List.map_append (l₂ := [z])]
        simpa [List.map_take] using ho3)
      have HB3 := hide (below_moved (HB.out.alloc (Nat.le_trans hbase HB.out.size) (.cells #[.int .u8 z] 5)) (Nat.le_trans hs1 (by simp)) (HR.out.alloc _) hm3)
      have HK3 : Hid (Kept w w3 (.slice A n c) (.slice A3 (q + 1) c3)) := hide (by exact (HK.out.trans (Kept.below (below_al6 (Below.refl _ _)) _)).trans (Kept.moved hm3))
      clear ho3 hm3 HK HR HB HX3 hc1
      go_wp2
      go_roundw
      case rel => exact ⟨k + 1, q + 1, A3, c3, by omega, by have := HQ.out; omega, by go_num, rfl, HR3, HB3, HK3⟩
      case measure => simp [intOf] <;> omega
    · obtain rfl : k = m := by omega
      have f1 : ¬ ((k : Int) < (k : Int)) := by omega
      have hq := HQ.out
      subst hq
      have hR := HR.out
      rw [List.take_of_length_le (by rw [HLN.out]; exact Nat.le_refl _)] at hR
      have HRF : Hid (wr.ownsRow base 5 1 (.slice A2 (n + 1 + k) c2) (n + 1 + k) ((bs ++ listI l).map (Value.int .u8))) := hide (by
        have e : bs ++ listI l = bs ++ [(k : Int)] ++ l := by rw [listI, HLN.out]; simp
        rw [e]; exact hR)
      clear hR HR
      go_wp2
      go_ret
      exact ⟨A2, c2, rfl, by simpa using HRF.out, HB.out, HK.out⟩

end

end Go.Proofs.YtohndckbhjakfaaGreatDoor

