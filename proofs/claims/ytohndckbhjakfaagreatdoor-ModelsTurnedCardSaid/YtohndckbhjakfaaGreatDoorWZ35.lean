/- Merged: Tx4, Tx5, Tx6. -/
import Derived.Test.YtohndckbhjakfaaGreatDoorWZ34
import Derived.Test.YtohndckbhjakfaaGreatDoorShelf
import Derived.Test.YtohndckbhjakfaaGreatDoorWZ09
import Derived.Lib.AtoiErrMem
import Derived.Test.YtohndckbhjakfaaGreatDoorWZ04
import Derived.Deep.CutRange
import Derived.Test.YtohndckbhjakfaaGreatDoorWZ14
namespace Go.Proofs.YtohndckbhjakfaaGreatDoor

section
open Go.RowKit
set_option linter.unusedVariables false
set_option linter.unusedSimpArgs false
set_option maxRecDepth 100000

/-- What is listed of the variables, in a world. -/
structure LaidV (w : World) : Prop where
  big : 12 ≤ w.heap.size
  syn : ∃ tp p, w.var? Tryz.prog "strconv.ErrSyntax" = some #[.iface tp p]
  rng : ∃ tp p, w.var? Tryz.prog "strconv.ErrRange" = some #[.iface tp p]
  pow : Lib.TabIs Tryz.prog w "internal/strconv.uint64pow10" .u64 Lib.pow10Tab
  asc : Lib.TabIs Tryz.prog w "strings.asciiSpace" .u8 Lib.asciiSpaceTab
  white : Lib.WhiteTab 2 w
  rows : ∀ k, k < 14 → w.cell? ⟨0, k, none⟩ = some (strV (rowB k))
  maxl : ∃ m, w.cell? ⟨3, 0, none⟩ = some (.int .i64 m)

theorem var_below {w w' : World} {name : String} {g : Nat} (hg : Tryz.prog.globalNamed name = some g) (hlt : g < w.heap.size) (hb : Below w.heap.size w w') : w'.var? Tryz.prog name = w.var? Tryz.prog name := by
  simp [World.var?, hg, hb.block g hlt]

theorem cell_on {w w' : World} {a : Addr} {v : Value} (h : w.cell? a = some v) (hb : Below w.heap.size w w') : w'.cell? a = some v := (hb.cell (World.block_lt_of_cell? _ _ h)).trans h

theorem LaidV.below {w w' : World} (h : LaidV w) (hb : Below w.heap.size w w') : LaidV w' := by
  obtain ⟨h0, ⟨a1, a2, a3⟩, ⟨b1, b2, b3⟩, h3, h4, ⟨T, oT, R, oR, c1, c2, c3, c4, c5⟩, h6, ⟨m, h7⟩⟩ := h
  have e7 := var_below (name := "strconv.ErrSyntax") (g := 7) (by kernel_rfl) (by omega) hb
  have e8 := var_below (name := "strconv.ErrRange") (g := 8) (by kernel_rfl) (by omega) hb
  have e4 := var_below (name := "internal/strconv.uint64pow10") (g := 4) (by kernel_rfl) (by omega) hb
  have e1 := var_below (name := "strings.asciiSpace") (g := 1) (by kernel_rfl) (by omega) hb
  exact ⟨Nat.le_trans h0 hb.size, ⟨a1, a2, e7.trans a3⟩, ⟨b1, b2, e8.trans b3⟩, e4.trans h3, e1.trans h4, ⟨T, oT, R, oR, cell_on c1 hb, cell_on c2 hb, cell_on c3 hb, cell_on c4 hb, fun i hi => cell_on (c5 i hi) hb⟩, fun k hk => cell_on (h6 k hk) hb, ⟨m, cell_on h7 hb⟩⟩

theorem below_growN (w : World) (k : Nat) (os : Array Obj) : Below w.heap.size w (Sort.grow (w.drewN k) os) := by
  refine (below_drewN (Below.refl _ w) k).trans ⟨rfl, rfl, rfl, by simp [Sort.grow], fun i hi => ?_⟩
  simp only [Sort.grow]
  rw [Array.getElem?_append_left (by simpa using hi)]

theorem itoa_any (n : Int) (h0 : -9223372036854775808 ≤ n) (h1 : n ≤ 9223372036854775807) (w : World) (hv : LaidV w) : Calls Tryz.prog 108 #[.int .i64 n] w fun e w' => e = .returned (strV (Lib.itoa n)) ∧ Below w.heap.size w w' := by
  refine (Tryz.strconv_Itoa n h0 h1 w hv.pow).mono ?_
  rintro e w' ⟨rfl, k, os, rfl⟩
  exact ⟨rfl, below_growN w k os⟩

/-- What Atoi answers. -/
def AtoiE (x : Wd) (e : Ending) : Prop := (∃ n, Lib.atoiAll x = .ok n ∧ e = .returned (.tuple #[.int .i64 n, .nilIface])) ∨ ((∀ n, Lib.atoiAll x ≠ .ok n) ∧ ∃ n t v, e = .returned (.tuple #[.int .i64 n, .iface t v]))

theorem atoi_any (x : Wd) (hx : x.length ≤ 281474976710656) (w : World) (hv : LaidV w) : Calls Tryz.prog 147 #[strV x] w fun e w' => AtoiE x e ∧ Below w.heap.size w w' := by
  have hl : (⟨x.toArray⟩ : ByteArray).data.toList = x := by simp
  have hz : (⟨x.toArray⟩ : ByteArray).size = x.length := by simp [ByteArray.size]
  unfold strV
  cases hq : Lib.atoiAll x with
  | ok n =>
    refine (Tryz.strconv_Atoi_ok ⟨x.toArray⟩ (by rw [hz]; omega) n (by rw [hl]; exact hq) w).mono ?_
    rintro e w' ⟨rfl, hw⟩
    refine ⟨.inl ⟨n, hq, rfl⟩, ?_⟩
    rcases hw with rfl | ⟨t, rfl⟩
    · exact Below.refl _ _
    · exact Lib.bytesWorld_below w _ _
  | range =>
    obtain ⟨tp, p, hs⟩ := hv.rng
    refine (Tryz.strconv_Atoi_range_var ⟨x.toArray⟩ (by rw [hz]; omega) (by rw [hl]; exact hq) tp p w hs).mono ?_
    rintro e w' ⟨N, he, _, _, hb⟩
    exact ⟨.inr ⟨fun n h => (by rw [hq] at h; cases h), _, _, _, he⟩, hb⟩
  | _ =>
    obtain ⟨tp, p, hs⟩ := hv.syn
    refine (Tryz.strconv_Atoi_syntax_var ⟨x.toArray⟩ (by rw [hz]; omega) (by rw [hl]; exact hq) tp p w hs).mono ?_
    rintro e w' ⟨N, he, _, _, hb⟩
    exact ⟨.inr ⟨fun n h => (by rw [hq] at h; cases h), _, _, _, he⟩, hb⟩

/-- The number of a word, and whether it is one. -/
def numE (x : Wd) : Ending := match numB x with
  | some n => .returned (.tuple #[.int .i64 n, .bool true])
  | none => .returned (.tuple #[.int .i64 0, .bool false])

theorem atoi_bounds {x : Wd} {n : Int} (h : Lib.atoiAll x = .ok n) : -9223372036854775808 ≤ n ∧ n ≤ 9223372036854775807 := by
  cases x with
  | nil => cases h
  | cons c r =>
    simp only [Lib.atoiAll] at h
    split at h
    · cases h
    · cases h
    · rename_i u hu
      split at h
      · cases h
      · split at h
        · cases h
        · injection h with h
          subst h
          split <;> omega

set_option maxHeartbeats 2000000 in
theorem numberOf_any (x : Wd) (hx : x.length ≤ 281474976710656) (w : World) (hv : LaidV w) : Calls Tryz.prog 131 #[strV x] w fun e w' => e = numE x ∧ Below w.heap.size w w' := by
  have hz : (⟨x.toArray⟩ : ByteArray).size = x.length := by simp [ByteArray.size]
  by_cases h9 : 9 < x.length
  · have hlt : ((9 : Int) < (x.length : Int)) := by omega
    have he : numE x = .returned (.tuple #[.int .i64 0, .bool false]) := by rw [numE, numB, if_pos h9]
    rw [he]
    unfold strV
    go_enter Tryz.func131, Tryz.ntmps131
    go_wp2
    go_ret2
    exact ⟨rfl, Below.refl _ _⟩
  · have hlt : ¬ ((9 : Int) < (x.length : Int)) := by omega
    have c := atoi_any x hx w hv
    cases hq : Lib.atoiAll x with
    | ok n =>
      have c1 : Calls Tryz.prog 147 #[strV x] w fun e w' => e = .returned (.tuple #[.int .i64 n, .nilIface]) ∧ Below w.heap.size w w' := by
        refine c.mono ?_
        rintro e w' ⟨hE, hb⟩
        rcases hE with ⟨m, hm, rfl⟩ | ⟨hm, _⟩
        · rw [hq] at hm; injection hm with hm; subst hm; exact ⟨rfl, hb⟩
        · exact absurd hq (hm n)
      clear c
      unfold strV at c1 ⊢
      by_cases hneg : n < 0
      · have he : numE x = .returned (.tuple #[.int .i64 0, .bool false]) := by rw [numE, numB, if_neg h9, hq]; simp [hneg]
        rw [he]
        clear he hq
        go_enter Tryz.func131, Tryz.ntmps131
        go_wp2_with (go_at_call 147; refine c1.mono ?_; rintro e w' ⟨rfl, hb⟩)
        go_ret2
        exact ⟨rfl, hb⟩
      · have hge : 0 ≤ n := by omega
        have hbd := atoi_bounds hq
        by_cases heq : Lib.itoa n = x
        · have he : numE x = .returned (.tuple #[.int .i64 n, .bool true]) := by rw [numE, numB, if_neg h9, hq]; simp [hneg, heq]
          rw [he]
          clear he hq
          have hcmp : (!Lib.itoa n == x) = false := by simp [heq]
          go_enter Tryz.func131, Tryz.ntmps131
          go_wp2_with (first | (go_at_call 147; refine c1.mono ?_; rintro e w' ⟨rfl, hb⟩) | (go_at_call 108; have c2 := itoa_any n hbd.1 hbd.2 w' (hv.below hb); unfold strV at c2; refine c2.mono ?_; rintro e2 w2 ⟨rfl, hb2⟩))
          go_ret2
          exact ⟨rfl, hb.trans (hb2.mono hb.size)⟩
        · have he : numE x = .returned (.tuple #[.int .i64 0, .bool false]) := by rw [numE, numB, if_neg h9, hq]; simp [hneg, heq]
          rw [he]
          clear he hq
          have hcmp : (!Lib.itoa n == x) = true := by simpa using heq
          go_enter Tryz.func131, Tryz.ntmps131
          go_wp2_with (first | (go_at_call 147; refine c1.mono ?_; rintro e w' ⟨rfl, hb⟩) | (go_at_call 108; have c2 := itoa_any n hbd.1 hbd.2 w' (hv.below hb); unfold strV at c2; refine c2.mono ?_; rintro e2 w2 ⟨rfl, hb2⟩))
          go_ret2
          exact ⟨rfl, hb.trans (hb2.mono hb.size)⟩
    | _ =>
      have he : numE x = .returned (.tuple #[.int .i64 0, .bool false]) := by rw [numE, numB, if_neg h9, hq]
      rw [he]
      clear he
      have c1 : Calls Tryz.prog 147 #[strV x] w fun e w' => (∃ n t v, e = .returned (.tuple #[.int .i64 n, .iface t v])) ∧ Below w.heap.size w w' := by
        refine c.mono ?_
        rintro e w' ⟨hE, hb⟩
        rcases hE with ⟨m, hm, rfl⟩ | ⟨_, hm⟩
        · rw [hq] at hm; cases hm
        · exact ⟨hm, hb⟩
      clear c hq
      unfold strV at c1 ⊢
      go_enter Tryz.func131, Tryz.ntmps131
      go_wp2_with (go_at_call 147; refine c1.mono ?_; rintro e w' ⟨⟨n, t, v, rfl⟩, hb⟩)
      go_ret2
      exact ⟨rfl, hb⟩

/-- What reading a number comes to. -/
def NumbE (r : Nat) (ws : List Wd) (w : World) (e : Ending) (w' : World) : Prop :=
  (∃ x n t, ws = x :: t ∧ numB x = some n ∧ e = .returned (.int .i64 n) ∧ RdAt w' r t ∧ But r w w') ∨ ((∀ x t, ws = x :: t → numB x = none) ∧ e = upX ∧ But r w w')

/-- No word is longer than a string may be. -/
def Short (ws : List Wd) : Prop := ∀ x ∈ ws, x.length ≤ 281474976710656

theorem Short.tail {x : Wd} {ws : List Wd} (h : Short (x :: ws)) : Short ws := fun y hy => h y (List.mem_cons_of_mem _ hy)

theorem LaidV.but {w0 w w' : World} {r : Nat} (h : LaidV w0) (hr : w0.heap.size ≤ r) (hb : Below w0.heap.size w0 w) (hbut : But r w w') : LaidV w' := h.below (hb.trans (hbut.to hr hb.size))

set_option maxHeartbeats 2000000 in
theorem number_any (r : Nat) (ws : List Wd) (w0 w : World) (h : RdAt w r ws) (hs : Short ws) (hv : LaidV w0) (hr : w0.heap.size ≤ r) (hb0 : Below w0.heap.size w0 w) : Calls Tryz.prog 114 #[.pointer (some ⟨r, 0, none⟩)] w (NumbE r ws w) := by
  cases ws with
  | nil =>
    have c := next_none r w h
    unfold upX at c
    go_enter Tryz.func114, Tryz.ntmps114
    go_wp2_with (go_at_call 132; refine c.mono ?_; rintro e w' ⟨rfl, rfl⟩)
    exact ⟨rfl, .inr ⟨by simp, rfl, But.refl _ _⟩⟩
  | cons x t =>
    have c := next_some r x t w h
    have hx := hs x (by simp)
    cases hq : numB x with
    | none =>
      have he : numE x = .returned (.tuple #[.int .i64 0, .bool false]) := by rw [numE, hq]
      go_enter Tryz.func114, Tryz.ntmps114
      go_wp2_with (first | (go_at_call 132; refine c.mono ?_; rintro e w' ⟨rfl, hr1, hb⟩) | (go_at_call 131; have c2 := numberOf_any x hx w' (hv.but hr hb0 hb); rw [he] at c2; refine c2.mono ?_; rintro e2 w2 ⟨rfl, hb2⟩) | (go_at_call 78; have c3 := up_any w2; unfold upX at c3; refine c3.mono ?_; rintro e3 w3 ⟨rfl, rfl⟩))
      exact ⟨rfl, .inr ⟨by rintro y s ⟨rfl, rfl⟩; exact hq, rfl, hb.below hb2⟩⟩
    | some n =>
      have he : numE x = .returned (.tuple #[.int .i64 n, .bool true]) := by rw [numE, hq]
      go_enter Tryz.func114, Tryz.ntmps114
      go_wp2_with (first | (go_at_call 132; refine c.mono ?_; rintro e w' ⟨rfl, hr1, hb⟩) | (go_at_call 131; have c2 := numberOf_any x hx w' (hv.but hr hb0 hb); rw [he] at c2; refine c2.mono ?_; rintro e2 w2 ⟨rfl, hb2⟩))
      go_ret
      exact .inl ⟨x, n, t, rfl, hq, rfl, hr1.below hb2, hb.below hb2⟩

/-- Does a number stand there? -/
def hasB (ws : List Wd) : Bool := match ws with
  | [] => false
  | x :: _ => (numB x).isSome

set_option maxHeartbeats 2000000 in
theorem has_any (r : Nat) (ws : List Wd) (w : World) (h : RdAt w r ws) (hs : Short ws) (hv : LaidV w) : Calls Tryz.prog 133 #[.pointer (some ⟨r, 0, none⟩)] w fun e w' => e = .returned (.bool (hasB ws)) ∧ Below w.heap.size w w' := by
  cases ws with
  | nil =>
    obtain ⟨A, c, hb⟩ := h.empty
    obtain ⟨hc, hz⟩ := hb.cell
    clear hb h
    go_enter Tryz.func133, Tryz.ntmps133
    go_wp2
    go_ret
    exact ⟨rfl, Below.refl _ _⟩
  | cons x t =>
    obtain ⟨b, o, c, hb, hbr, hlt, hx, hl, hc1, hc2⟩ := h.have
    obtain ⟨hc, hz⟩ := hb.cell
    have hpos : ¬ ((t.length : Int) + 1 = 0) := by omega
    have hxl := hs x (by simp)
    have hB : hasB (x :: t) = (numB x).isSome := rfl
    rw [hB]
    clear hb h hl hB
    have c2 := numberOf_any x hxl w hv
    cases hq : numB x with
    | none =>
      have he : numE x = .returned (.tuple #[.int .i64 0, .bool false]) := by rw [numE, hq]
      rw [he] at c2
      unfold strV at hx c2
      go_enter Tryz.func133, Tryz.ntmps133
      go_wp2_with (go_at_call 131; refine c2.mono ?_; rintro e2 w2 ⟨rfl, hb2⟩)
      go_ret
      exact ⟨rfl, hb2⟩
    | some n =>
      have he : numE x = .returned (.tuple #[.int .i64 n, .bool true]) := by rw [numE, hq]
      rw [he] at c2
      unfold strV at hx c2
      go_enter Tryz.func133, Tryz.ntmps133
      go_wp2_with (go_at_call 131; refine c2.mono ?_; rintro e2 w2 ⟨rfl, hb2⟩)
      go_ret
      exact ⟨rfl, hb2⟩

end

section
open Go.RowKit
set_option linter.unusedVariables false
set_option linter.unusedSimpArgs false
set_option maxRecDepth 100000

theorem But.grown {r : Nat} {w w' : World} (h : But r w w') : w.grownBy w' (some r) := ⟨h.os, h.tape, h.output, h.size, fun i hi hn => h.block i hi (fun e => hn (by rw [e]))⟩

theorem own_but {r : Nat} {w w' : World} {base size : Nat} {e : TypeId} {v : Value} {n : Nat} {xs : List Value} (h : w.ownsRow base e size v n xs) (hb : But r w w') (hr : r < base) : w'.ownsRow base e size v n xs :=
  h.kept (row := some r) hb.grown (.inr fun hv => by
    have := (h.lt r hv).1
    omega)

theorem hasB_iff (ws : List Wd) : hasB ws = decide (0 < (numsB ws).length) := by
  cases ws with
  | nil => rfl
  | cons x t =>
    rw [hasB, numsB]
    cases numB x with
    | none => rfl
    | some n => simp

theorem nums_drop : ∀ (k : Nat) (ws : List Wd), k ≤ (numsB ws).length → numsB (ws.drop k) = (numsB ws).drop k
  | 0, _, _ => rfl
  | k + 1, [], h => by simp [numsB] at h
  | k + 1, x :: t, h => by
    rw [numsB] at h ⊢
    cases hx : numB x with
    | none => rw [hx] at h; simp at h
    | some n =>
      rw [hx] at h
      simp only [List.length_cons] at h
      simp only [List.drop_succ_cons]
      exact nums_drop k t (by omega)

theorem nums_le : ∀ ws : List Wd, (numsB ws).length ≤ ws.length
  | [] => Nat.le_refl _
  | x :: t => by
    rw [numsB]
    cases numB x with
    | none => simp
    | some n => simp only [List.length_cons]; have := nums_le t; omega

theorem Short.drop {ws : List Wd} (h : Short ws) (k : Nat) : Short (ws.drop k) := fun y hy => h y (List.mem_of_mem_drop hy)

def lenV : Value → Nat
  | .slice _ n _ => n
  | _ => 0

theorem drop_cons_at {ws : List Wd} {k : Nat} (hk : k < (numsB ws).length) : ∃ x n, ws.drop k = x :: ws.drop (k + 1) ∧ numB x = some n ∧ (numsB ws).take (k + 1) = (numsB ws).take k ++ [n] := by
  have hd := nums_drop k ws (by omega)
  have hl := nums_le ws
  have hkl : k < ws.length := by omega
  have e1 : ws.drop k = ws[k] :: ws.drop (k + 1) := List.drop_eq_getElem_cons hkl
  have e2 : (numsB ws).drop k = (numsB ws)[k] :: (numsB ws).drop (k + 1) := List.drop_eq_getElem_cons hk
  refine ⟨ws[k], (numsB ws)[k], e1, ?_, List.take_succ_eq_append_getElem hk⟩
  rw [e1, e2, numsB] at hd
  cases hx : numB ws[k] with
  | none => rw [hx] at hd; cases hd
  | some n => rw [hx] at hd; injection hd with h1 _; rw [h1]

theorem RdAt.but {r : Nat} {w w' : World} {ws : List Wd} (h : RdAt w r ws) (hb : Below w.heap.size w w') : RdAt w' r ws := h.below hb

/-- What reading numbers comes to. -/
def NumsE (r : Nat) (ws : List Wd) (w : World) (e : Ending) (w' : World) : Prop :=
  (numsB ws ≠ [] ∧ ∃ A c, e = .returned (.slice A (numsB ws).length c) ∧ w'.ownsRow w.heap.size 3 1 (.slice A (numsB ws).length c) (numsB ws).length ((numsB ws).map (Value.int .i64)) ∧ RdAt w' r (ws.drop (numsB ws).length) ∧ But r w w') ∨ (numsB ws = [] ∧ e = upX ∧ But r w w')

theorem number_ok {r : Nat} {x : Wd} {n : Int} {t : List Wd} {w0 w : World} (h : RdAt w r (x :: t)) (hn : numB x = some n) (hs : Short (x :: t)) (hv : LaidV w0) (hr : w0.heap.size ≤ r) (hb0 : Below w0.heap.size w0 w) : Calls Tryz.prog 114 #[.pointer (some ⟨r, 0, none⟩)] w fun e w' => e = .returned (.int .i64 n) ∧ RdAt w' r t ∧ But r w w' := by
  refine (number_any r (x :: t) w0 w h hs hv hr hb0).mono ?_
  rintro e w' hE
  rcases hE with ⟨y, m, u, hx, hq, rfl, hR, hb⟩ | ⟨hno, _⟩
  · injection hx with h1 h2
    subst h1 h2
    rw [hn] at hq
    injection hq with hq
    subst hq
    exact ⟨rfl, hR, hb⟩
  · exact absurd (hno x t rfl) (by rw [hn]; simp)

theorem number_no {r : Nat} {ws : List Wd} {w0 w : World} (h : RdAt w r ws) (hn : ∀ x t, ws = x :: t → numB x = none) (hs : Short ws) (hv : LaidV w0) (hr : w0.heap.size ≤ r) (hb0 : Below w0.heap.size w0 w) : Calls Tryz.prog 114 #[.pointer (some ⟨r, 0, none⟩)] w fun e w' => e = .panicked [{ v := .iface 31 (.int .i64 4), recovered := false }] ∧ But r w w' := by
  refine (number_any r ws w0 w h hs hv hr hb0).mono ?_
  rintro e w' hE
  rcases hE with ⟨y, m, u, hx, hq, _⟩ | ⟨_, he, hb⟩
  · exact absurd hq (by rw [hn y u hx]; simp)
  · exact ⟨he, hb⟩

set_option maxHeartbeats 4000000 in
theorem numbers_any (r : Nat) (ws : List Wd) (w0 w : World) (h : RdAt w r ws) (hs : Short ws) (hv : LaidV w0) (hr : w0.heap.size ≤ r) (hb0 : Below w0.heap.size w0 w) (hl : ws.length ≤ 1000000) : Calls Tryz.prog 115 #[.pointer (some ⟨r, 0, none⟩)] w (NumsE r ws w) := by
  have hrl := h.lt
  obtain ⟨i0, hi, hz0, hz1, hz2⟩ := info_parts Tryz.infoI
  have HI := hide hi
  have HZ0 := hide hz0
  have HZ1 := hide hz1
  have HZ2 := hide hz2
  clear hi hz0 hz1 hz2
  have HV := hide hv
  have HB0 := hide hb0
  have HS := hide hs
  obtain ⟨m, hm⟩ : ∃ m, m = (numsB ws).length := ⟨_, rfl⟩
  have hnl := nums_le ws
  have HM := hide hm
  cases hN : numsB ws with
  | nil =>
    have hnone : ∀ x t, ws = x :: t → numB x = none := by
      rintro x t rfl
      rw [numsB] at hN
      cases hx : numB x with
      | none => rfl
      | some n => rw [hx] at hN; cases hN
    have HE := hide hN
    clear hN hm
    have c := number_no h hnone hs hv hr hb0
    clear hv hb0 hs h
    go_enter Tryz.func115, Tryz.ntmps115
    go_wp2_with (go_at_call 114; refine c.mono ?_; rintro e w' ⟨rfl, hb⟩)
    exact ⟨rfl, .inr ⟨HE.out, rfl, hb⟩⟩
  | cons n0 rest =>
    obtain ⟨x0, t0, hws, hx0⟩ : ∃ x t, ws = x :: t ∧ numB x = some n0 := by
      cases ws with
      | nil => cases hN
      | cons x t =>
        rw [numsB] at hN
        cases hx : numB x with
        | none => rw [hx] at hN; cases hN
        | some n => rw [hx] at hN; injection hN with h1 h2; subst h1; exact ⟨x, t, rfl, hx⟩
    have c := number_ok (by rw [← hws]; exact h) hx0 (by rw [← hws]; exact hs) hv hr hb0
    have hm1 : 1 ≤ m := by rw [hm, hN, List.length_cons]; omega
    have HNE : Hid (numsB ws ≠ []) := hide (by rw [hN]; simp)
    have HT1 : Hid ((numsB ws).take 1 = [n0]) := hide (by rw [hN]; rfl)
    have hd1 : t0 = ws.drop 1 := by rw [hws]; rfl
    rw [hd1] at c
    clear hN hm hx0 hv hb0 hs h hws hd1
    go_enter Tryz.func115, Tryz.ntmps115
    go_wp2_with (go_at_call 114; refine c.mono ?_; rintro e w1 ⟨rfl, hR1, hb1⟩)
    have HO : Hid ((w1.alloc (.cells #[.int .i64 n0] 3)).ownsRow w.heap.size 3 1 (.slice (some ⟨w1.heap.size, 0, none⟩) 1 1) 1 (((numsB ws).take 1).map (Value.int .i64))) := hide (by
      rw [HT1.out]
      exact own_of_block hb1.size (heap_alloc_new w1 _) rfl (by omega) (by unfold maxLen; omega) rfl)
    have HR1 : Hid (RdAt (w1.alloc (.cells #[.int .i64 n0] 3)) r (ws.drop 1)) := hide (hR1.below ((Below.refl _ _).alloc (Nat.le_refl _) _))
    have HB1 : Hid (But r w (w1.alloc (.cells #[.int .i64 n0] 3))) := hide (hb1.below ((Below.refl _ _).alloc (Nat.le_refl _) _))
    clear hb1 hR1 HT1 c
    go_loopw [3] (fun v wr => ∃ (k : Nat) (A2 : Option Addr) (c2 : Nat), 1 ≤ k ∧ k ≤ m ∧ v = .slice A2 k c2 ∧ Hid (wr.ownsRow w.heap.size 3 1 (.slice A2 k c2) k (((numsB ws).take k).map (Value.int .i64))) ∧ Hid (RdAt wr r (ws.drop k)) ∧ Hid (But r w wr)) (fun v _ => m - lenV v)
    case atStart => exact ⟨1, _, _, Nat.le_refl _, hm1, rfl, HO, HR1, HB1⟩
    case round =>
      obtain ⟨k, A2, c2, hk1, hkm, rfl, HR, HD, HB⟩ := hrel
      have hk6 : k ≤ 1000000 := Nat.le_trans hkm (by rw [HM.out]; omega)
      have hbel : Below w0.heap.size w0 wr := HB0.out.trans (HB.out.to hr HB0.out.size)
      have hv := HV.out.below hbel
      have ch := has_any r (ws.drop k) wr HD.out (HS.out.drop k) hv
      rw [hasB_iff, nums_drop k ws (by rw [← HM.out]; exact hkm)] at ch
      have hml2 : (numsB ws).length = m := HM.out.symm
      rw [List.length_drop, hml2] at ch
      have HH := hide ch
      have HHB := hide hbel
      clear ch hv hbel hml2
      by_cases hlt : k < m
      · obtain ⟨x, n, e1, e2, e3⟩ := drop_cons_at (ws := ws) (k := k) (by rw [← HM.out]; exact hlt)
        have HD1 : Hid (RdAt wr r (x :: ws.drop (k + 1))) := hide (by rw [← e1]; exact HD.out)
        have HSx : Hid (Short (x :: ws.drop (k + 1))) := hide (by rw [← e1]; exact HS.out.drop k)
        have HN2 := hide e2
        have HT2 := hide e3
        have ht : decide (0 < m - k) = true := by simp; omega
        rw [ht] at HH
        clear e1 e2 e3 ht HD
        go_wp2_with (go_at_call 133; refine HH.out.mono ?_; rintro e w2 ⟨rfl, hb2⟩)
        have hRd2 := HD1.out.below hb2
        have cn := number_ok hRd2 HN2.out HSx.out HV.out hr (HHB.out.trans (hb2.mono HHB.out.size))
        have HR2 := hide (own_below HR.out hb2)
        have HB2 := hide (HB.out.below hb2)
        clear hRd2 hb2 HR HB HH HHB HD1
        go_wp2_with (first | (go_at_call 114; refine cn.mono ?_; rintro e w3 ⟨rfl, hR3, hb3⟩) | (at_builtin; refine wpList_append_one rfl (.tmp 9) (.tmp 12) 35 rfl 3 i0 (.int .i64 0) 8 Tryz.underlying35 HI.out HZ0.out HZ1.out HZ2.out rfl w.heap.size A2 k c2 (((numsB ws).take k).map (Value.int .i64)) rfl ((own_but HR2.out hb3 hrl).alloc _) (Nat.le_trans (HB2.out.trans hb3).size (by simp)) ⟨w3.heap.size, 0, none⟩ (.int .i64 n) rfl (by have h := cells_new w3 [.int .i64 n] 3 0 _ rfl; rwa [Addr.add_lit] at h) rfl (by omega) (by unfold maxLen; omega) ?_))
        intro A3 c3 w4 ho4 hm4
        have hsz3 := (HB2.out.trans hb3).size
        have hbm : Below w3.heap.size w3 (w3.alloc (.cells #[.int .i64 n] 3)) := (Below.refl _ _).alloc (Nat.le_refl _) _
        have HR4 : Hid (w4.ownsRow w.heap.size 3 1 (.slice A3 (k + 1) c3) (k + 1) (((numsB ws).take (k + 1)).map (Value.int .i64))) := hide (by
          rw [HT2.out, List.map_append, List.map_take]
          exact ho4)
        have HM4 : Hid (Moved (w3.alloc (.cells #[.int .i64 n] 3)) w4 (.slice A2 k c2) (.slice A3 (k + 1) c3)) := hide hm4
        have HD4 := hide (RdAt.moved (hR3.below hbm) ((own_but HR2.out hb3 hrl).alloc _) hrl hm4)
        have HB4 := hide (But.moved ((HB2.out.trans hb3).below hbm) ((own_but HR2.out hb3 hrl).alloc _) hm4)
        clear ho4 hm4 HM4 hR3 hb3 hbm HR2 HB2 cn
        go_wp2
        go_roundw
        case rel => exact ⟨k + 1, A3, c3, by omega, by omega, rfl, HR4, HD4, HB4⟩
        case measure => simp [lenV]; omega
      · obtain rfl : k = m := by omega
        have ht : decide (0 < k - k) = false := by simp
        rw [ht] at HH
        go_wp2_with (go_at_call 133; refine HH.out.mono ?_; rintro e w2 ⟨rfl, hb2⟩)
        go_ret
        refine .inl ⟨HNE.out, A2, c2, ?_⟩
        rw [← HM.out]
        have hall : (numsB ws).take k = numsB ws := List.take_of_length_le (by rw [← HM.out]; exact Nat.le_refl _)
        have h9 := HR.out
        rw [hall] at h9
        exact ⟨rfl, own_below h9 hb2, HD.out.below hb2, HB.out.below hb2⟩

end

section
open Go.RowKit
set_option linter.unusedVariables false
set_option linter.unusedSimpArgs false
set_option maxRecDepth 100000

/-- Below B all blocks but r and q stay as they were. -/
structure Kp2 (B r q : Nat) (w w' : World) : Prop where
  os : w'.os = w.os
  tape : w'.tape = w.tape
  output : w'.output = w.output
  size : w.heap.size ≤ w'.heap.size
  block : ∀ k, k < B → k ≠ r → k ≠ q → w'.heap[k]? = w.heap[k]?

theorem Kp2.refl (B r q : Nat) (w : World) : Kp2 B r q w w := ⟨rfl, rfl, rfl, Nat.le_refl _, fun _ _ _ _ => rfl⟩

theorem Kp2.but {B r q : Nat} {a b c : World} (h : Kp2 B r q a b) (hb : But r b c) (hB : B ≤ b.heap.size) : Kp2 B r q a c :=
  ⟨hb.os.trans h.os, hb.tape.trans h.tape, hb.output.trans h.output, Nat.le_trans h.size hb.size, fun k hk h1 h2 => (hb.block k (by omega) h1).trans (h.block k hk h1 h2)⟩

theorem Kp2.below {B r q : Nat} {a b c : World} (h : Kp2 B r q a b) (hb : Below B b c) : Kp2 B r q a c :=
  ⟨hb.os.trans h.os, hb.tape.trans h.tape, hb.output.trans h.output, Nat.le_trans h.size hb.size, fun k hk h1 h2 => (hb.block k hk).trans (h.block k hk h1 h2)⟩

theorem Kp2.set {B r q : Nat} {a b : World} (h : Kp2 B r q a b) (i : Nat) (v : Value) : Kp2 B r q a (b.setCell ⟨q, i, none⟩ v) :=
  ⟨h.os, h.tape, h.output, Nat.le_trans h.size (by simp [World.setCell]), fun k hk h1 h2 => (Below.heap_setCell b _ v k h2).trans (h.block k hk h1 h2)⟩

/-- A node that is read. -/
structure NdIn (B r q : Nat) (w3 w : World) (x : Nd) (ws : List Wd) : Prop where
  big : B ≤ w.heap.size
  lr : r < B
  lq : q < B
  ne : r < q
  box : BoxN w q x
  oi : w.ownsRow B 3 1 (.slice x.I x.ni x.ci) x.ni (x.xs.map (Value.int .i64))
  os : w.ownsRow B 3 1 (.slice x.S x.ns x.cs) x.ns (x.sh.map (Value.int .i64))
  dj : ∀ g, (Value.slice x.I x.ni x.ci).ownBlock = some g → (Value.slice x.S x.ns x.cs).ownBlock ≠ some g
  rd : RdAt w r ws
  sh : Short ws
  le : ws.length ≤ 1000000
  kp : Kp2 B r q w3 w
  kd : 0 ≤ x.kd ∧ x.kd < 256
  nb : -9223372036854775808 ≤ x.N ∧ x.N < 9223372036854775808
  pb : -9223372036854775808 ≤ x.P ∧ x.P < 9223372036854775808
  nl : x.ni ≤ 2000000
  sl : x.ns ≤ 1000000

theorem NdIn.but {B r q : Nat} {w3 w w' : World} {x : Nd} {ws t : List Wd} (h : NdIn B r q w3 w x ws) (hb : But r w w') (hr : RdAt w' r t) (hs : Short t) (hl : t.length ≤ 1000000) : NdIn B r q w3 w' x t :=
  ⟨Nat.le_trans h.big hb.size, h.lr, h.lq, h.ne, (hb.block q (Nat.lt_of_lt_of_le h.lq h.big) (by have := h.ne; omega)).trans h.box, own_but h.oi hb h.lr, own_but h.os hb h.lr, h.dj, hr, hs, hl, h.kp.but hb h.big, h.kd, h.nb, h.pb, h.nl, h.sl⟩

theorem BoxN.frozen {w : World} {p : Nat} {x : Nd} (h : BoxN w p x) (i : Nat) : w.frozen? ⟨p, i, none⟩ = false := frozen_of_row w p i _ _ h

theorem RdAt.set {w : World} {r q : Nat} {ws : List Wd} (h : RdAt w r ws) (hq : r < q) (i : Nat) (v : Value) : RdAt (w.setCell ⟨q, i, none⟩ v) r ws :=
  h.up ⟨rfl, rfl, rfl, by simp [World.setCell], fun k hk => Below.heap_setCell w _ v k (by simp only; omega)⟩

theorem own_set {w : World} {B e s n q : Nat} {v : Value} {xs : List Value} (h : w.ownsRow B e s v n xs) (hq : q < B) (i : Nat) (u : Value) : (w.setCell ⟨q, i, none⟩ u).ownsRow B e s v n xs :=
  h.kept (row := some q) ⟨rfl, rfl, rfl, by simp [World.setCell], fun k hk hn => Below.heap_setCell w _ u k (fun e => hn (by rw [e]))⟩ (.inr fun hv => by
    have := (h.lt q hv).1
    omega)

theorem set_size (w : World) (a : Addr) (v : Value) : (w.setCell a v).heap.size = w.heap.size := by simp [World.setCell]

theorem NdIn.setN {B r q : Nat} {w3 w : World} {x : Nd} {ws : List Wd} (h : NdIn B r q w3 w x ws) (n : Int) (hn : -9223372036854775808 ≤ n ∧ n < 9223372036854775808) : NdIn B r q w3 (w.setCell ⟨q, 3, none⟩ (.int .i64 n)) { x with N := n } ws :=
  ⟨by rw [set_size]; exact h.big, h.lr, h.lq, h.ne, by have := heap_setCell_same w q 3 _ _ (.int .i64 n) h.box; simpa [BoxN] using this, own_set h.oi h.lq _ _, own_set h.os h.lq _ _, h.dj, h.rd.set h.ne _ _, h.sh, h.le, h.kp.set _ _, h.kd, hn, h.pb, h.nl, h.sl⟩

theorem NdIn.setP {B r q : Nat} {w3 w : World} {x : Nd} {ws : List Wd} (h : NdIn B r q w3 w x ws) (n : Int) (hn : -9223372036854775808 ≤ n ∧ n < 9223372036854775808) : NdIn B r q w3 (w.setCell ⟨q, 4, none⟩ (.int .i64 n)) { x with P := n } ws :=
  ⟨by rw [set_size]; exact h.big, h.lr, h.lq, h.ne, by have := heap_setCell_same w q 4 _ _ (.int .i64 n) h.box; simpa [BoxN] using this, own_set h.oi h.lq _ _, own_set h.os h.lq _ _, h.dj, h.rd.set h.ne _ _, h.sh, h.le, h.kp.set _ _, h.kd, h.nb, hn, h.nl, h.sl⟩

theorem own_blk_lt {w : World} {B e s n g : Nat} {v : Value} {xs : List Value} (h : w.ownsRow B e s v n xs) (hv : v.ownBlock = some g) : g < w.heap.size := (h.lt g hv).2

/-- A list of numbers that was read becomes its inputs, or its shape. -/
theorem NdIn.setI {B r q : Nat} {w3 w w' : World} {x : Nd} {ws t : List Wd} {A : Option Addr} {k c : Nat} {l : List Int} (h : NdIn B r q w3 w x ws) (hb : But r w w') (hr : RdAt w' r t) (hs : Short t) (hl : t.length ≤ 1000000) (ho : w'.ownsRow w.heap.size 3 1 (.slice A k c) k (l.map (Value.int .i64))) (hk : k ≤ 1000000) :
    NdIn B r q w3 (w'.setCell ⟨q, 1, none⟩ (.slice A k c)) { x with I := A, ni := k, ci := c, xs := l } t := by
  have h' := h.but hb hr hs hl
  refine ⟨by rw [set_size]; exact h'.big, h'.lr, h'.lq, h'.ne, by have := heap_setCell_same w' q 1 _ _ (.slice A k c) h'.box; simpa [BoxN] using this, own_set (own_base ho h.big) h'.lq _ _, own_set h'.os h'.lq _ _, ?_, h'.rd.set h'.ne _ _, h'.sh, h'.le, h'.kp.set _ _, h'.kd, h'.nb, h'.pb, by simp only; omega, h'.sl⟩
  intro g hg hg2
  have := (ho.lt g hg).1
  have := own_blk_lt h.os hg2
  omega

theorem NdIn.setS {B r q : Nat} {w3 w w' : World} {x : Nd} {ws t : List Wd} {A : Option Addr} {k c : Nat} {l : List Int} (h : NdIn B r q w3 w x ws) (hb : But r w w') (hr : RdAt w' r t) (hs : Short t) (hl : t.length ≤ 1000000) (ho : w'.ownsRow w.heap.size 3 1 (.slice A k c) k (l.map (Value.int .i64))) (hk : k ≤ 1000000) :
    NdIn B r q w3 (w'.setCell ⟨q, 2, none⟩ (.slice A k c)) { x with S := A, ns := k, cs := c, sh := l } t := by
  have h' := h.but hb hr hs hl
  refine ⟨by rw [set_size]; exact h'.big, h'.lr, h'.lq, h'.ne, by have := heap_setCell_same w' q 2 _ _ (.slice A k c) h'.box; simpa [BoxN] using this, own_set h'.oi h'.lq _ _, own_set (own_base ho h.big) h'.lq _ _, ?_, h'.rd.set h'.ne _ _, h'.sh, h'.le, h'.kp.set _ _, h'.kd, h'.nb, h'.pb, h'.nl, hk⟩
  intro g hg hg2
  have := (ho.lt g hg2).1
  have := own_blk_lt h.oi hg
  omega

/-- A new block beside it. -/
theorem NdIn.below {B r q : Nat} {w3 w w' : World} {x : Nd} {ws : List Wd} (h : NdIn B r q w3 w x ws) (hb : Below w.heap.size w w') : NdIn B r q w3 w' x ws :=
  h.but (Below.but hb) (h.rd.below hb) h.sh h.le

/-- One number more among its inputs. -/
theorem NdIn.app {B r q : Nat} {w3 w w' : World} {x : Nd} {ws : List Wd} {A : Option Addr} {c : Nat} {n : Int} (h : NdIn B r q w3 w x ws) (ho : w'.ownsRow B 3 1 (.slice A (x.ni + 1) c) (x.ni + 1) ((x.xs ++ [n]).map (Value.int .i64))) (hm : Moved w w' (.slice x.I x.ni x.ci) (.slice A (x.ni + 1) c)) (hl : x.ni + 1 ≤ 2000000) :
    NdIn B r q w3 (w'.setCell ⟨q, 1, none⟩ (.slice A (x.ni + 1) c)) { x with I := A, ni := x.ni + 1, ci := c, xs := x.xs ++ [n] } ws := by
  have hbel : Below B w w' := below_moved (Below.refl _ _) h.big h.oi hm
  have hbox : BoxN w' q x := (hbel.block q h.lq).trans h.box
  have hsz : B ≤ w'.heap.size := Nat.le_trans h.big hbel.size
  have hos : w'.ownsRow B 3 1 (.slice x.S x.ns x.cs) x.ns (x.sh.map (Value.int .i64)) := by
    rcases hm with ⟨_, hg⟩ | ⟨hg, _⟩
    · cases hs2 : (Value.slice x.S x.ns x.cs).ownBlock with
      | none => exact h.os.kept hg (.inl hs2)
      | some g => exact h.os.kept hg (.inr fun e => h.dj g (by rw [← e, hs2]) hs2)
    · exact h.os.kept hg (by cases (Value.slice x.S x.ns x.cs).ownBlock <;> simp)
  refine ⟨by rw [set_size]; exact hsz, h.lr, h.lq, h.ne, by have := heap_setCell_same w' q 1 _ _ (.slice A (x.ni + 1) c) hbox; simpa [BoxN] using this, own_set ho h.lq _ _, own_set hos h.lq _ _, ?_, (h.rd.up (hbel.mono h.lr)).set h.ne _ _, h.sh, h.le, (h.kp.below hbel).set _ _, h.kd, h.nb, h.pb, hl, h.sl⟩
  intro g hg hg2
  rcases hm with ⟨he, _⟩ | ⟨_, hnew⟩
  · rw [he] at hg
    exact h.dj g hg hg2
  · have := hnew g hg
    have := own_blk_lt h.os hg2
    omega

end

end Go.Proofs.YtohndckbhjakfaaGreatDoor

