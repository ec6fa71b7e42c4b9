/- Merged: Book, Fill, GrowLaws, Grow, Look, Keep, None, Apart, BookT. -/
import Derived.Test.YtomhbhhfbbdilaaGreatDoorWA
import Derived.Test.YtomhbhhfbbdilaaGreatDoorRows
import Derived.Deep.QuietTactic
import Derived.BigQuiet
import Derived.Deep.RegionHeld3
import Derived.OwnWalk
import Derived.Deep.RegionLaw
import Derived.WalkKit
import Derived.Test.YtomhbhhfbbdilaaGreatDoorWB
namespace Go.Proofs.YtomhbhhfbbdilaaGreatDoor

section
open Go.RowKit

/-- Of what was there, only rows of the element types T may have turned. -/
structure KeepT (T : List TypeId) (w w' : World) : Prop where
  os : w'.os = w.os
  tape : w'.tape = w.tape
  output : w'.output = w.output
  size : w.heap.size ≤ w'.heap.size
  block : ∀ g, g < w.heap.size → (∀ cur e fr, w.heap[g]? = some (.cells cur e fr) → e ∉ T) → w'.heap[g]? = w.heap[g]?

section
variable {T : List TypeId} {w w' w'' : World}

theorem KeepT.refl (T : List TypeId) (w : World) : KeepT T w w := ⟨rfl, rfl, rfl, Nat.le_refl _, fun _ _ _ => rfl⟩

theorem KeepT.trans (h : KeepT T w w') (k : KeepT T w' w'') : KeepT T w w'' :=
  ⟨k.os.trans h.os, k.tape.trans h.tape, k.output.trans h.output, Nat.le_trans h.size k.size, fun g hg hT => by
    have e := h.block g hg hT
    rw [k.block g (Nat.lt_of_lt_of_le hg h.size) (by rw [e]; exact hT), e]⟩

theorem KeepT.mono {T' : List TypeId} (h : KeepT T w w') (hs : ∀ e ∈ T, e ∈ T') : KeepT T' w w' :=
  ⟨h.os, h.tape, h.output, h.size, fun g hg hT => h.block g hg (fun cur e fr hh he => hT cur e fr hh (hs e he))⟩

theorem KeepT.drewN (h : KeepT T w w') (n : Nat) : KeepT T w (w'.drewN n) := ⟨h.os, h.tape, h.output, h.size, h.block⟩

theorem KeepT.below (h : Below w.heap.size w w') : KeepT T w w' := ⟨h.os, h.tape, h.output, h.size, fun g hg _ => h.block g hg⟩

theorem KeepT.alloc (h : KeepT T w w') (o : Obj) : KeepT T w (w'.alloc o) := h.trans (KeepT.below ((Below.refl _ _).alloc (Nat.le_refl _) o))

/-- What turns lies in one row, whose element type may turn. -/
theorem KeepT.grown {row : Option Nat} (h : w.grownBy w' row) (hr : ∀ g, row = some g → ∃ cur e fr, w.heap[g]? = some (.cells cur e fr) ∧ e ∈ T) : KeepT T w w' :=
  ⟨h.os, h.tape, h.output, h.size, fun g hg hT => h.block g hg (fun e => by
    obtain ⟨cur, t, fr, hh, ht⟩ := hr g e.symm
    exact hT cur t fr hh ht)⟩

theorem grown_setCell (w : World) (p : Addr) (u : Value) : w.grownBy (w.setCell p u) (some p.block) :=
  ⟨rfl, rfl, rfl, by simp, fun k _ hk => heap_setCell_other w p k u (fun e => hk (by simp [e]))⟩

theorem KeepT.own {base : Nat} {e : TypeId} {s : Nat} {v : Value} {n : Nat} {xs : List Value} (h : KeepT T w w') (ho : w.ownsRow base e s v n xs) (he : e ∉ T) : w'.ownsRow base e s v n xs := by
  refine ⟨ho.1, ?_⟩
  rcases ho.2 with h0 | ⟨g, cap, cur, rfl, hb, hg, r⟩
  · exact .inl h0
  · refine .inr ⟨g, cap, cur, rfl, hb, ?_, r⟩
    rw [h.block g (lt_of_heap hg) (fun cur' e' fr' hh => by rw [hg] at hh; injection hh with hh; injection hh with _ hh; exact hh ▸ he)]
    exact hg

theorem KeepT.blk {g : Nat} {e : TypeId} {cs : Array Value} {fr : Nat × Nat} (h : KeepT T w w') (hg : w.heap[g]? = some (.cells cs e fr)) (he : e ∉ T) : w'.heap[g]? = some (.cells cs e fr) := by
  rw [h.block g (lt_of_heap hg) (fun cur' e' fr' hh => by rw [hg] at hh; injection hh with hh; injection hh with _ hh; exact hh ▸ he)]
  exact hg

theorem own_lt {base : Nat} {e : TypeId} {s : Nat} {v : Value} {n : Nat} {xs : List Value} (h : w.ownsRow base e s v n xs) {g : Nat} (hg : v.ownBlock = some g) : base ≤ g ∧ g < w.heap.size := h.lt g hg

theorem own_type {base : Nat} {e : TypeId} {s : Nat} {v : Value} {n : Nat} {xs : List Value} (h : w.ownsRow base e s v n xs) {g : Nat} (hg : v.ownBlock = some g) : ∃ cur, w.heap[g]? = some (.cells cur e (0, 0)) := by
  rcases h.2 with ⟨rfl, _⟩ | ⟨g', cap, cur, rfl, _, hh, _⟩
  · simp [Value.ownBlock] at hg
  · simp [Value.ownBlock] at hg
    subst hg
    exact ⟨cur, hh⟩

theorem own_neT {base base' : Nat} {e e' : TypeId} {s s' : Nat} {v v' : Value} {n n' : Nat} {xs xs' : List Value} (h : w.ownsRow base e s v n xs) (h' : w.ownsRow base' e' s' v' n' xs') (hne : e ≠ e') :
    v.ownBlock = none ∨ v.ownBlock ≠ v'.ownBlock := by
  rcases hv : v.ownBlock with _ | g
  · exact .inl rfl
  · refine .inr fun e1 => ?_
    obtain ⟨c1, h1⟩ := own_type h hv
    obtain ⟨c2, h2⟩ := own_type h' e1.symm
    rw [h1] at h2
    injection h2 with h2
    injection h2 with _ h2
    exact hne h2

end

/-- A list that is held: itself (A, n, c), the longer one behind it (A2, n2, c2), and its mark. -/
structure It where
  A : Option Addr
  n : Nat
  c : Nat
  A2 : Option Addr
  n2 : Nat
  c2 : Nat
  m : Nat

def It.l (t : It) : Value := .slice t.A t.n t.c

def It.long (t : It) : Value := .slice t.A2 t.n2 t.c2

def It.cells (t : It) : List Value := [t.l, t.long, .int .i64 (t.m : Int)]

def held (its : List It) : List Value := its.flatMap It.cells

theorem held_len : ∀ (its : List It), (held its).length = its.length * 3
  | [] => rfl
  | t :: r => by
    have := held_len r
    simp only [held, List.flatMap_cons, List.length_append, It.cells, List.length_cons, List.length_nil] at this ⊢
    omega

theorem held_snoc (its : List It) (t : It) : held (its ++ [t]) = held its ++ [t.l, t.long, .int .i64 (t.m : Int)] := by simp [held, It.cells]

theorem held_at : ∀ (its : List It) (i : Nat) (t : It), its[i]? = some t → (held its)[i * 3]? = some t.l ∧ (held its)[i * 3 + 1]? = some t.long ∧ (held its)[i * 3 + 2]? = some (.int .i64 (t.m : Int))
  | [], i, t, h => by simp at h
  | u :: r, 0, t, h => by
    simp at h
    subst h
    simp [held, It.cells]
  | u :: r, i + 1, t, h => by
    have ih := held_at r i t (by simpa using h)
    have e : ∀ j, (held (u :: r))[(i + 1) * 3 + j]? = (held r)[i * 3 + j]? := by
      intro j
      show (u.cells ++ held r)[(i + 1) * 3 + j]? = _
      rw [List.getElem?_append_right (by simp [It.cells]; omega)]
      congr 1
      simp [It.cells]
      omega
    exact ⟨(e 0).trans ih.1, (e 1).trans ih.2.1, (e 2).trans ih.2.2⟩

theorem held_set : ∀ (its : List It) (i : Nat) (t : It) (A2 : Option Addr) (n2 c2 : Nat), its[i]? = some t → (held its).set (i * 3 + 1) (.slice A2 n2 c2) = held (its.set i { t with A2 := A2, n2 := n2, c2 := c2 })
  | [], i, t, _, _, _, h => by simp at h
  | u :: r, 0, t, A2, n2, c2, h => by
    simp at h
    subst h
    rfl
  | u :: r, i + 1, t, A2, n2, c2, h => by
    have ih := held_set r i t A2 n2 c2 (by simpa using h)
    have e : (i + 1) * 3 + 1 = (i * 3 + 1) + 1 + 1 + 1 := by omega
    show (u.l :: u.long :: Value.int .i64 (u.m : Int) :: held r).set ((i + 1) * 3 + 1) _ = u.l :: u.long :: Value.int .i64 (u.m : Int) :: held (r.set i _)
    rw [e, List.set_cons_succ, List.set_cons_succ, List.set_cons_succ, ih]

/-- The lists that are held lie in rows of the call's own, no two in one. -/
structure Rows1 (w : World) (base : Nat) (e : TypeId) (its : List It) : Prop where
  own : ∀ (i : Nat) (t : It), its[i]? = some t → ∃ xs, w.ownsRow base e 1 t.l t.n xs
  apart : ∀ (i j : Nat) (t u : It), i ≠ j → its[i]? = some t → its[j]? = some u → t.l.ownBlock = none ∨ t.l.ownBlock ≠ u.l.ownBlock

end

section
open Go.RowKit

/-- The first k lists are filled. -/
structure FillTo (w wr : World) (base : Nat) (e : TypeId) (mk : Nat → Value) (its : List It) (k : Nat) : Prop where
  keep : KeepT [e] w wr
  below : Below base w wr
  done : ∀ (i : Nat) (t : It), i < k → its[i]? = some t → wr.ownsRow base e 1 t.l t.n (List.replicate t.n (mk t.m))
  todo : ∀ (i : Nat) (t : It), k ≤ i → its[i]? = some t → ∃ xs, wr.ownsRow base e 1 t.l t.n xs

theorem FillTo.start {w : World} {base : Nat} {e : TypeId} {mk : Nat → Value} {its : List It} (h : Rows1 w base e its) : FillTo w w base e mk its 0 :=
  ⟨KeepT.refl _ _, Below.refl _ _, fun i t hi _ => absurd hi (by omega), fun i t _ ht => h.own i t ht⟩

theorem FillTo.step {w wr w2 : World} {base : Nat} {e : TypeId} {mk : Nat → Value} {its : List It} {k : Nat} {t : It} (h : FillTo w wr base e mk its k) (hb : base ≤ w.heap.size) (hR : Rows1 w base e its) (ht : its[k]? = some t)
    (hg : wr.grownBy w2 t.l.ownBlock) (ho : w2.ownsRow base e 1 t.l t.n (List.replicate t.n (mk t.m))) : FillTo w w2 base e mk its (k + 1) := by
  obtain ⟨xs, hown⟩ := h.todo k t (Nat.le_refl _) ht
  refine ⟨h.keep.trans (KeepT.grown hg (fun g hgg => ?_)), h.below.grown hg (Nat.le_trans hb h.keep.size) (fun g hgg => (own_lt hown hgg).1), ?_, ?_⟩
  · obtain ⟨cur, hc⟩ := own_type hown hgg
    exact ⟨cur, e, (0, 0), hc, by simp⟩
  · intro i u hi hu
    by_cases e1 : i = k
    · subst e1
      rw [ht] at hu
      injection hu with hu
      subst hu
      exact ho
    · exact (h.done i u (by omega) hu).kept hg (hR.apart i k u t e1 hu ht)
  · intro i u hi hu
    obtain ⟨ys, hy⟩ := h.todo i u (by omega) hu
    exact ⟨ys, hy.kept hg (hR.apart i k u t (by omega) hu ht)⟩

/-- n cells, the first k of them x, the others as they were. -/
def overTo (x : Value) (ys : List Value) (k : Nat) : List Value := List.replicate k x ++ ys.drop k

theorem overTo_none (x : Value) (ys : List Value) : overTo x ys 0 = ys := by simp [overTo]

theorem overTo_all (x : Value) (ys : List Value) {n : Nat} (h : ys.length = n) : overTo x ys n = List.replicate n x := by simp [overTo, ← h]

theorem overTo_set (x : Value) (ys : List Value) {k : Nat} (h : k < ys.length) : (overTo x ys k).set k x = overTo x ys (k + 1) := by
  unfold overTo
  rw [List.set_append_right _ _ (by simp)]
  simp only [List.length_replicate, Nat.sub_self]
  rw [List.drop_eq_getElem_cons h, List.set_cons_zero, List.replicate_succ', List.append_assoc]
  rfl

theorem overTo_at (x : Value) (ys : List Value) {k : Nat} (h : k < ys.length) : (overTo x ys k)[k]? = some ys[k] := by
  unfold overTo
  rw [List.getElem?_append_right (by simp)]
  simp [h]

theorem cell_other {w : World} {p q : Addr} {u v : Value} (h : q.block ≠ p.block) (hc : w.cell? q = some v) : (w.setCell p u).cell? q = some v :=
  (World.cell?_of_block (w := w) (Below.heap_setCell w p u q.block h)).trans hc

theorem grown_drew {a w : World} {row : Option Nat} (h : a.grownBy w row) : a.grownBy w.drew row := ⟨h.os, h.tape, h.output, h.size, h.block⟩

theorem cell_other_drew {w : World} {p q : Addr} {u v : Value} (h : q.block ≠ p.block) (hc : w.cell? q = some v) : (w.setCell p u).drew.cell? q = some v := cell_other h hc

theorem cell_blk {w : World} {g : Nat} {cs : List Value} {t : TypeId} (h : w.heap[g]? = some (.cells cs.toArray t (0, 0))) (i : Nat) : w.cell? ⟨g, i, none⟩ = cs[i]? := by
  rw [cell_of_row w g i cs.toArray t (0, 0) h]
  simp

def mkI_Byte (m : Nat) : Int := (m : Int) % 256

def mk_Byte (m : Nat) : Value := .int .u8 (mkI_Byte m)

theorem mark_Byte (m : Nat) (w : World) : Calls Tryz.prog 157 #[.int .i64 (m : Int)] w fun e w' => e = .returned (.int .u8 (mkI_Byte m)) ∧ w = w' := by
  go_enter Tryz.func157, Tryz.ntmps157
  go_wp2
  go_ret
  exact ⟨rfl, rfl⟩

set_option maxHeartbeats 2000000 in
theorem fill_Byte (B base c : Nat) (H : Option Addr) (L : List Value) (its : List It) (w : World)
    (hB : w.heap[B]? = some (.cells L.toArray 53 (0, 0))) (hL : L[1]? = some (.slice H its.length c))
    (hH : w.ownsRow base 150 3 (.slice H its.length c) its.length (held its)) (hR : Rows1 w base 5 its) (hb : base ≤ w.heap.size)
    (hn : its.length ≤ 1048576) (hsz : ∀ (i : Nat) (t : It), its[i]? = some t → t.n ≤ 281474976710656 ∧ t.m ≤ 1048576) :
    Calls Tryz.prog 56 #[.pointer (some ⟨B, 0, none⟩)] w fun e w' => e = .returned (.tuple #[]) ∧ FillTo w w' base 5 mk_Byte its its.length := by
  have HB := hide hB
  have HL := hide hL
  have HH := hide hH
  have HR := hide hR
  have HS := hide hsz
  clear hB hL hH hR hsz
  obtain ⟨N, hN⟩ : ∃ N, N = its.length := ⟨_, rfl⟩
  rw [← hN] at hn HL HH ⊢
  have HN := hide hN
  clear hN
  go_enter Tryz.func56, Tryz.ntmps56
  go_wp2
  go_loopw [2] (fun i wr => ∃ k : Nat, k ≤ N ∧ i = .int .i64 k ∧ Hid (FillTo w wr base 5 mk_Byte its k)) (fun i _ => N - (intOf i).toNat)
  case atStart => exact ⟨0, Nat.zero_le _, rfl, hide (FillTo.start HR.out)⟩
  case round =>
    obtain ⟨k, hk, rfl, HF⟩ := hrel
    have hB1 := cell_blk (HF.out.keep.blk HB.out (by decide)) 1
    rw [HL.out] at hB1
    by_cases hlt : k < N
    · obtain ⟨t, ht⟩ : ∃ t, its[k]? = some t := ⟨its[k]'(by rw [← HN.out]; exact hlt), List.getElem?_eq_getElem _⟩
      have hrow := HF.out.keep.own HH.out (by decide)
      obtain ⟨h1, h2, h3⟩ := held_at its k t ht
      obtain ⟨g, rfl⟩ : ∃ g, H = some ⟨g, 0, none⟩ := by
        rcases hrow.2 with ⟨e, h0⟩ | ⟨g, cap, cur, e, _⟩
        · omega
        · injection e with e; exact ⟨g, e⟩
      have c1 := (hrow.cellAt (k * 3) (by omega)).trans h1
      have c2 := (hrow.cellAt (k * 3 + 1) (by omega)).trans h2
      have c3 := (hrow.cellAt (k * 3 + 2) (by omega)).trans h3
      obtain ⟨xs, hown⟩ := HF.out.todo k t (Nat.le_refl _) ht
      have hsz := HS.out k t ht
      have HT := hide ht
      have HO := hide hown
      clear ht hrow h1 h2 h3 hown
      obtain ⟨A, n, cc, A2, n2, c2', m⟩ := t
      simp only [It.l, It.long] at c1 c2
      go_wp2_with fail
      clear c1 c2 c3 hB1
      obtain ⟨wo, rfl⟩ : ∃ wo : World, wo = wr := ⟨_, rfl⟩
      have HBLK := hide (heap_alloc_new wo (.cells #[Value.slice A n cc, Value.slice A2 n2 c2', Value.int .i64 (m : Int)] 150))
      have hn1 := hsz.1
      have hm1 := hsz.2
      clear hsz
      have HLEN : Hid (xs.length = n) := hide (by have := HO.out.1; simp only [Nat.mul_one] at this; exact this)
      obtain ⟨W0, hW0⟩ : ∃ W0, W0 = wo.alloc (.cells #[Value.slice A n cc, Value.slice A2 n2 c2', Value.int .i64 (m : Int)] 150) := ⟨_, rfl⟩
      have HG0 : Hid (wo.grownBy W0 (Value.slice A n cc).ownBlock) := by rw [hW0]; exact World.grownBy_alloc _ _ _
      have HO0 : Hid (W0.ownsRow base 5 1 (.slice A n cc) n xs) := by rw [hW0]; exact HO.out.alloc _
      rw [← hW0] at HBLK ⊢
      clear hW0
      go_loopw [4] (fun i wi => ∃ j : Nat, j ≤ n ∧ i = .int .i64 j ∧ Hid (W0.grownBy wi (Value.slice A n cc).ownBlock) ∧ Hid (wi.ownsRow base 5 1 (.slice A n cc) n (overTo (mk_Byte m) xs j))) (fun i _ => n - (intOf i).toNat)
      case atStart => exact ⟨0, Nat.zero_le _, rfl, hide (World.grownBy.refl _ _), hide (by rw [overTo_none]; exact HO0.out)⟩
      case round =>
        obtain ⟨j, hj, rfl, HGi, HOi⟩ := hrel
        have hblk : Hid (wr.heap[wo.heap.size]? = some (.cells #[Value.slice A n cc, Value.slice A2 n2 c2', Value.int .i64 (m : Int)] 150 (0, 0))) := hide (by
          rw [HGi.out.block wo.heap.size (lt_of_heap HBLK.out) (fun e => by have := (own_lt HO.out e.symm).2; omega)]
          exact HBLK.out)
        have d1 : wr.cell? ⟨wo.heap.size, 0, none⟩ = some (.slice A n cc) := by rw [cell_of_row _ _ _ _ _ _ hblk.out]; rfl
        have d3 : wr.cell? ⟨wo.heap.size, 2, none⟩ = some (.int .i64 (m : Int)) := by rw [cell_of_row _ _ _ _ _ _ hblk.out]; rfl
        by_cases hjlt : j < n
        · obtain ⟨ga, rfl⟩ : ∃ g, A = some ⟨g, 0, none⟩ := by
            rcases HOi.out.2 with ⟨e, h0⟩ | ⟨g, cap, cur, e, _⟩
            · omega
            · injection e with e; exact ⟨g, e⟩
          have f1 : wr.cell? ⟨ga, j, none⟩ = some (xs[j]'(by rw [HLEN.out]; exact hjlt)) := by rw [HOi.out.cellAt j (by omega), overTo_at _ _ (by rw [HLEN.out]; exact hjlt)]
          have f2 : wr.frozen? ⟨ga, j, none⟩ = false := HOi.out.frozenAt j
          have hne : wo.heap.size ≠ ga := by have := (own_lt HO.out (g := ga) rfl).2; omega
          have i1 : (0 : Int) ≤ (j : Int) := by omega
          have i2 : (j : Int) < (n : Int) := by omega
          go_wp2_with fail
          go_region_held3 (fun w' => w'.cell? ⟨wo.heap.size, 0, none⟩ = some (.slice (some ⟨ga, 0, none⟩) n cc) ∧ w'.cell? ⟨wo.heap.size, 2, none⟩ = some (.int .i64 (m : Int)))
            (first | (exact ⟨cell_other_drew hne d1, cell_other_drew hne d3⟩) | (exact ⟨d1, d3⟩) | go_keep)
            (first | (go_at_call 157; refine (mark_Byte m _ ).mono ?_; rintro e w5 ⟨rfl, rfl⟩))
          have HG3 : Hid (W0.grownBy (wr.setCell ⟨ga, j, none⟩ (.int .u8 (mkI_Byte m))).drew (Value.slice (some ⟨ga, 0, none⟩) n cc).ownBlock) := hide (grown_drew (grown_trans HGi.out (grown_setCell wr ⟨ga, j, none⟩ _)))
          have HO3 : Hid ((wr.setCell ⟨ga, j, none⟩ (.int .u8 (mkI_Byte m))).drew.ownsRow base 5 1 (.slice (some ⟨ga, 0, none⟩) n cc) n (overTo (mk_Byte m) xs (j + 1))) := hide (by
            have h := (HOi.out.stored j (.int .u8 (mkI_Byte m))).1
            rw [show (overTo (mk_Byte m) xs j).set j (.int .u8 (mkI_Byte m)) = overTo (mk_Byte m) xs (j + 1) from overTo_set _ _ (by rw [HLEN.out]; exact hjlt)] at h
            exact h)
          clear f1 f2 d1 d3 HGi HOi
          go_wp2
          go_roundw
          case rel => exact ⟨j + 1, by omega, by go_num, HG3, HO3⟩
          case measure => simp [intOf]; omega
        · obtain rfl : j = n := by omega
          have HF2 : Hid (FillTo w wr base 5 mk_Byte its (k + 1)) := hide (HF.out.step hb HR.out HT.out (grown_trans HG0.out HGi.out) (by
            have h := HOi.out
            rw [overTo_all _ _ HLEN.out] at h
            exact h))
          clear HGi HOi HBLK HG0 HO0 HO hblk HF
          go_wp2
          go_roundw
          case rel => exact ⟨k + 1, by omega, by go_num, HF2⟩
          case measure => simp [intOf]; omega
    · obtain rfl : k = N := by omega
      go_wp2
      go_end0
      exact ⟨rfl, HF.out⟩

def mkI_Int (m : Nat) : Int := -(m : Int)

def mk_Int (m : Nat) : Value := .int .i64 (mkI_Int m)

theorem mark_Int (m : Nat) (w : World) (hm : m ≤ 1048576) : Calls Tryz.prog 158 #[.int .i64 (m : Int)] w fun e w' => e = .returned (.int .i64 (mkI_Int m)) ∧ w = w' := by
  go_enter Tryz.func158, Tryz.ntmps158
  go_wp2
  go_ret
  exact ⟨rfl, rfl⟩

set_option maxHeartbeats 2000000 in
theorem fill_Int (B base c : Nat) (H : Option Addr) (L : List Value) (its : List It) (w : World)
    (hB : w.heap[B]? = some (.cells L.toArray 53 (0, 0))) (hL : L[2]? = some (.slice H its.length c))
    (hH : w.ownsRow base 147 3 (.slice H its.length c) its.length (held its)) (hR : Rows1 w base 3 its) (hb : base ≤ w.heap.size)
    (hn : its.length ≤ 1048576) (hsz : ∀ (i : Nat) (t : It), its[i]? = some t → t.n ≤ 281474976710656 ∧ t.m ≤ 1048576) :
    Calls Tryz.prog 57 #[.pointer (some ⟨B, 0, none⟩)] w fun e w' => e = .returned (.tuple #[]) ∧ FillTo w w' base 3 mk_Int its its.length := by
  have HB := hide hB
  have HL := hide hL
  have HH := hide hH
  have HR := hide hR
  have HS := hide hsz
  clear hB hL hH hR hsz
  obtain ⟨N, hN⟩ : ∃ N, N = its.length := ⟨_, rfl⟩
  rw [← hN] at hn HL HH ⊢
  have HN := hide hN
  clear hN
  go_enter Tryz.func57, Tryz.ntmps57
  go_wp2
  go_loopw [2] (fun i wr => ∃ k : Nat, k ≤ N ∧ i = .int .i64 k ∧ Hid (FillTo w wr base 3 mk_Int its k)) (fun i _ => N - (intOf i).toNat)
  case atStart => exact ⟨0, Nat.zero_le _, rfl, hide (FillTo.start HR.out)⟩
  case round =>
    obtain ⟨k, hk, rfl, HF⟩ := hrel
    have hB1 := cell_blk (HF.out.keep.blk HB.out (by decide)) 2
    rw [HL.out] at hB1
    by_cases hlt : k < N
    · obtain ⟨t, ht⟩ : ∃ t, its[k]? = some t := ⟨its[k]'(by rw [← HN.out]; exact hlt), List.getElem?_eq_getElem _⟩
      have hrow := HF.out.keep.own HH.out (by decide)
      obtain ⟨h1, h2, h3⟩ := held_at its k t ht
      obtain ⟨g, rfl⟩ : ∃ g, H = some ⟨g, 0, none⟩ := by
        rcases hrow.2 with ⟨e, h0⟩ | ⟨g, cap, cur, e, _⟩
        · omega
        · injection e with e; exact ⟨g, e⟩
      have c1 := (hrow.cellAt (k * 3) (by omega)).trans h1
      have c2 := (hrow.cellAt (k * 3 + 1) (by omega)).trans h2
      have c3 := (hrow.cellAt (k * 3 + 2) (by omega)).trans h3
      obtain ⟨xs, hown⟩ := HF.out.todo k t (Nat.le_refl _) ht
      have hsz := HS.out k t ht
      have HT := hide ht
      have HO := hide hown
      clear ht hrow h1 h2 h3 hown
      obtain ⟨A, n, cc, A2, n2, c2', m⟩ := t
      simp only [It.l, It.long] at c1 c2
      go_wp2_with fail
      clear c1 c2 c3 hB1
      obtain ⟨wo, rfl⟩ : ∃ wo : World, wo = wr := ⟨_, rfl⟩
      have HBLK := hide (heap_alloc_new wo (.cells #[Value.slice A n cc, Value.slice A2 n2 c2', Value.int .i64 (m : Int)] 147))
      have hn1 := hsz.1
      have hm1 := hsz.2
      clear hsz
      have HLEN : Hid (xs.length = n) := hide (by have := HO.out.1; simp only [Nat.mul_one] at this; exact this)
      obtain ⟨W0, hW0⟩ : ∃ W0, W0 = wo.alloc (.cells #[Value.slice A n cc, Value.slice A2 n2 c2', Value.int .i64 (m : Int)] 147) := ⟨_, rfl⟩
      have HG0 : Hid (wo.grownBy W0 (Value.slice A n cc).ownBlock) := by rw [hW0]; exact World.grownBy_alloc _ _ _
      have HO0 : Hid (W0.ownsRow base 3 1 (.slice A n cc) n xs) := by rw [hW0]; exact HO.out.alloc _
      rw [← hW0] at HBLK ⊢
      clear hW0
      go_loopw [4] (fun i wi => ∃ j : Nat, j ≤ n ∧ i = .int .i64 j ∧ Hid (W0.grownBy wi (Value.slice A n cc).ownBlock) ∧ Hid (wi.ownsRow base 3 1 (.slice A n cc) n (overTo (mk_Int m) xs j))) (fun i _ => n - (intOf i).toNat)
      case atStart => exact ⟨0, Nat.zero_le _, rfl, hide (World.grownBy.refl _ _), hide (by rw [overTo_none]; exact HO0.out)⟩
      case round =>
        obtain ⟨j, hj, rfl, HGi, HOi⟩ := hrel
        have hblk : Hid (wr.heap[wo.heap.size]? = some (.cells #[Value.slice A n cc, Value.slice A2 n2 c2', Value.int .i64 (m : Int)] 147 (0, 0))) := hide (by
          rw [HGi.out.block wo.heap.size (lt_of_heap HBLK.out) (fun e => by have := (own_lt HO.out e.symm).2; omega)]
          exact HBLK.out)
        have d1 : wr.cell? ⟨wo.heap.size, 0, none⟩ = some (.slice A n cc) := by rw [cell_of_row _ _ _ _ _ _ hblk.out]; rfl
        have d3 : wr.cell? ⟨wo.heap.size, 2, none⟩ = some (.int .i64 (m : Int)) := by rw [cell_of_row _ _ _ _ _ _ hblk.out]; rfl
        by_cases hjlt : j < n
        · obtain ⟨ga, rfl⟩ : ∃ g, A = some ⟨g, 0, none⟩ := by
            rcases HOi.out.2 with ⟨e, h0⟩ | ⟨g, cap, cur, e, _⟩
            · omega
            · injection e with e; exact ⟨g, e⟩
          have f1 : wr.cell? ⟨ga, j, none⟩ = some (xs[j]'(by rw [HLEN.out]; exact hjlt)) := by rw [HOi.out.cellAt j (by omega), overTo_at _ _ (by rw [HLEN.out]; exact hjlt)]
          have f2 : wr.frozen? ⟨ga, j, none⟩ = false := HOi.out.frozenAt j
          have hne : wo.heap.size ≠ ga := by have := (own_lt HO.out (g := ga) rfl).2; omega
          have i1 : (0 : Int) ≤ (j : Int) := by omega
          have i2 : (j : Int) < (n : Int) := by omega
          go_wp2_with fail
          go_region_held3 (fun w' => w'.cell? ⟨wo.heap.size, 0, none⟩ = some (.slice (some ⟨ga, 0, none⟩) n cc) ∧ w'.cell? ⟨wo.heap.size, 2, none⟩ = some (.int .i64 (m : Int)))
            (first | (exact ⟨cell_other_drew hne d1, cell_other_drew hne d3⟩) | (exact ⟨d1, d3⟩) | go_keep)
            (first | (go_at_call 158; refine (mark_Int m _ hm1).mono ?_; rintro e w5 ⟨rfl, rfl⟩))
          have HG3 : Hid (W0.grownBy (wr.setCell ⟨ga, j, none⟩ (.int .i64 (mkI_Int m))).drew (Value.slice (some ⟨ga, 0, none⟩) n cc).ownBlock) := hide (grown_drew (grown_trans HGi.out (grown_setCell wr ⟨ga, j, none⟩ _)))
          have HO3 : Hid ((wr.setCell ⟨ga, j, none⟩ (.int .i64 (mkI_Int m))).drew.ownsRow base 3 1 (.slice (some ⟨ga, 0, none⟩) n cc) n (overTo (mk_Int m) xs (j + 1))) := hide (by
            have h := (HOi.out.stored j (.int .i64 (mkI_Int m))).1
            rw [show (overTo (mk_Int m) xs j).set j (.int .i64 (mkI_Int m)) = overTo (mk_Int m) xs (j + 1) from overTo_set _ _ (by rw [HLEN.out]; exact hjlt)] at h
            exact h)
          clear f1 f2 d1 d3 HGi HOi
          go_wp2
          go_roundw
          case rel => exact ⟨j + 1, by omega, by go_num, HG3, HO3⟩
          case measure => simp [intOf]; omega
        · obtain rfl : j = n := by omega
          have HF2 : Hid (FillTo w wr base 3 mk_Int its (k + 1)) := hide (HF.out.step hb HR.out HT.out (grown_trans HG0.out HGi.out) (by
            have h := HOi.out
            rw [overTo_all _ _ HLEN.out] at h
            exact h))
          clear HGi HOi HBLK HG0 HO0 HO hblk HF
          go_wp2
          go_roundw
          case rel => exact ⟨k + 1, by omega, by go_num, HF2⟩
          case measure => simp [intOf]; omega
    · obtain rfl : k = N := by omega
      go_wp2
      go_end0
      exact ⟨rfl, HF.out⟩

def mkI_Number (m : Nat) : Int := -(m : Int)

def mk_Number (m : Nat) : Value := .int .i32 (mkI_Number m)

theorem mark_Number (m : Nat) (w : World) (hm : m ≤ 1048576) : Calls Tryz.prog 159 #[.int .i64 (m : Int)] w fun e w' => e = .returned (.int .i32 (mkI_Number m)) ∧ w = w' := by
  go_enter Tryz.func159, Tryz.ntmps159
  go_wp2
  go_ret
  exact ⟨rfl, rfl⟩

set_option maxHeartbeats 2000000 in
theorem fill_Number (B base c : Nat) (H : Option Addr) (L : List Value) (its : List It) (w : World)
    (hB : w.heap[B]? = some (.cells L.toArray 53 (0, 0))) (hL : L[3]? = some (.slice H its.length c))
    (hH : w.ownsRow base 153 3 (.slice H its.length c) its.length (held its)) (hR : Rows1 w base 21 its) (hb : base ≤ w.heap.size)
    (hn : its.length ≤ 1048576) (hsz : ∀ (i : Nat) (t : It), its[i]? = some t → t.n ≤ 281474976710656 ∧ t.m ≤ 1048576) :
    Calls Tryz.prog 58 #[.pointer (some ⟨B, 0, none⟩)] w fun e w' => e = .returned (.tuple #[]) ∧ FillTo w w' base 21 mk_Number its its.length := by
  have HB := hide hB
  have HL := hide hL
  have HH := hide hH
  have HR := hide hR
  have HS := hide hsz
  clear hB hL hH hR hsz
  obtain ⟨N, hN⟩ : ∃ N, N = its.length := ⟨_, rfl⟩
  rw [← hN] at hn HL HH ⊢
  have HN := hide hN
  clear hN
  go_enter Tryz.func58, Tryz.ntmps58
  go_wp2
  go_loopw [2] (fun i wr => ∃ k : Nat, k ≤ N ∧ i = .int .i64 k ∧ Hid (FillTo w wr base 21 mk_Number its k)) (fun i _ => N - (intOf i).toNat)
  case atStart => exact ⟨0, Nat.zero_le _, rfl, hide (FillTo.start HR.out)⟩
  case round =>
    obtain ⟨k, hk, rfl, HF⟩ := hrel
    have hB1 := cell_blk (HF.out.keep.blk HB.out (by decide)) 3
    rw [HL.out] at hB1
    by_cases hlt : k < N
    · obtain ⟨t, ht⟩ : ∃ t, its[k]? = some t := ⟨its[k]'(by rw [← HN.out]; exact hlt), List.getElem?_eq_getElem _⟩
      have hrow := HF.out.keep.own HH.out (by decide)
      obtain ⟨h1, h2, h3⟩ := held_at its k t ht
      obtain ⟨g, rfl⟩ : ∃ g, H = some ⟨g, 0, none⟩ := by
        rcases hrow.2 with ⟨e, h0⟩ | ⟨g, cap, cur, e, _⟩
        · omega
        · injection e with e; exact ⟨g, e⟩
      have c1 := (hrow.cellAt (k * 3) (by omega)).trans h1
      have c2 := (hrow.cellAt (k * 3 + 1) (by omega)).trans h2
      have c3 := (hrow.cellAt (k * 3 + 2) (by omega)).trans h3
      obtain ⟨xs, hown⟩ := HF.out.todo k t (Nat.le_refl _) ht
      have hsz := HS.out k t ht
      have HT := hide ht
      have HO := hide hown
      clear ht hrow h1 h2 h3 hown
      obtain ⟨A, n, cc, A2, n2, c2', m⟩ := t
      simp only [It.l, It.long] at c1 c2
      go_wp2_with fail
      clear c1 c2 c3 hB1
      obtain ⟨wo, rfl⟩ : ∃ wo : World, wo = wr := ⟨_, rfl⟩
      have HBLK := hide (heap_alloc_new wo (.cells #[Value.slice A n cc, Value.slice A2 n2 c2', Value.int .i64 (m : Int)] 153))
      have hn1 := hsz.1
      have hm1 := hsz.2
      clear hsz
      have HLEN : Hid (xs.length = n) := hide (by have := HO.out.1; simp only [Nat.mul_one] at this; exact this)
      obtain ⟨W0, hW0⟩ : ∃ W0, W0 = wo.alloc (.cells #[Value.slice A n cc, Value.slice A2 n2 c2', Value.int .i64 (m : Int)] 153) := ⟨_, rfl⟩
      have HG0 : Hid (wo.grownBy W0 (Value.slice A n cc).ownBlock) := by rw [hW0]; exact World.grownBy_alloc _ _ _
      have HO0 : Hid (W0.ownsRow base 21 1 (.slice A n cc) n xs) := by rw [hW0]; exact HO.out.alloc _
      rw [← hW0] at HBLK ⊢
      clear hW0
      go_loopw [4] (fun i wi => ∃ j : Nat, j ≤ n ∧ i = .int .i64 j ∧ Hid (W0.grownBy wi (Value.slice A n cc).ownBlock) ∧ Hid (wi.ownsRow base 21 1 (.slice A n cc) n (overTo (mk_Number m) xs j))) (fun i _ => n - (intOf i).toNat)
      case atStart => exact ⟨0, Nat.zero_le _, rfl, hide (World.grownBy.refl _ _), hide (by rw [overTo_none]; exact HO0.out)⟩
      case round =>
        obtain ⟨j, hj, rfl, HGi, HOi⟩ := hrel
        have hblk : Hid (wr.heap[wo.heap.size]? = some (.cells #[Value.slice A n cc, Value.slice A2 n2 c2', Value.int .i64 (m : Int)] 153 (0, 0))) := hide (by
          rw [HGi.out.block wo.heap.size (lt_of_heap HBLK.out) (fun e => by have := (own_lt HO.out e.symm).2; omega)]
          exact HBLK.out)
        have d1 : wr.cell? ⟨wo.heap.size, 0, none⟩ = some (.slice A n cc) := by rw [cell_of_row _ _ _ _ _ _ hblk.out]; rfl
        have d3 : wr.cell? ⟨wo.heap.size, 2, none⟩ = some (.int .i64 (m : Int)) := by rw [cell_of_row _ _ _ _ _ _ hblk.out]; rfl
        by_cases hjlt : j < n
        · obtain ⟨ga, rfl⟩ : ∃ g, A = some ⟨g, 0, none⟩ := by
            rcases HOi.out.2 with ⟨e, h0⟩ | ⟨g, cap, cur, e, _⟩
            · omega
            · injection e with e; exact ⟨g, e⟩
          have f1 : wr.cell? ⟨ga, j, none⟩ = some (xs[j]'(by rw [HLEN.out]; exact hjlt)) := by rw [HOi.out.cellAt j (by omega), overTo_at _ _ (by rw [HLEN.out]; exact hjlt)]
          have f2 : wr.frozen? ⟨ga, j, none⟩ = false := HOi.out.frozenAt j
          have hne : wo.heap.size ≠ ga := by have := (own_lt HO.out (g := ga) rfl).2; omega
          have i1 : (0 : Int) ≤ (j : Int) := by omega
          have i2 : (j : Int) < (n : Int) := by omega
          go_wp2_with fail
          go_region_held3 (fun w' => w'.cell? ⟨wo.heap.size, 0, none⟩ = some (.slice (some ⟨ga, 0, none⟩) n cc) ∧ w'.cell? ⟨wo.heap.size, 2, none⟩ = some (.int .i64 (m : Int)))
            (first | (exact ⟨cell_other_drew hne d1, cell_other_drew hne d3⟩) | (exact ⟨d1, d3⟩) | go_keep)
            (first | (go_at_call 159; refine (mark_Number m _ hm1).mono ?_; rintro e w5 ⟨rfl, rfl⟩))
          have HG3 : Hid (W0.grownBy (wr.setCell ⟨ga, j, none⟩ (.int .i32 (mkI_Number m))).drew (Value.slice (some ⟨ga, 0, none⟩) n cc).ownBlock) := hide (grown_drew (grown_trans HGi.out (grown_setCell wr ⟨ga, j, none⟩ _)))
          have HO3 : Hid ((wr.setCell ⟨ga, j, none⟩ (.int .i32 (mkI_Number m))).drew.ownsRow base 21 1 (.slice (some ⟨ga, 0, none⟩) n cc) n (overTo (mk_Number m) xs (j + 1))) := hide (by
            have h := (HOi.out.stored j (.int .i32 (mkI_Number m))).1
            rw [show (overTo (mk_Number m) xs j).set j (.int .i32 (mkI_Number m)) = overTo (mk_Number m) xs (j + 1) from overTo_set _ _ (by rw [HLEN.out]; exact hjlt)] at h
            exact h)
          clear f1 f2 d1 d3 HGi HOi
          go_wp2
          go_roundw
          case rel => exact ⟨j + 1, by omega, by go_num, HG3, HO3⟩
          case measure => simp [intOf]; omega
        · obtain rfl : j = n := by omega
          have HF2 : Hid (FillTo w wr base 21 mk_Number its (k + 1)) := hide (HF.out.step hb HR.out HT.out (grown_trans HG0.out HGi.out) (by
            have h := HOi.out
            rw [overTo_all _ _ HLEN.out] at h
            exact h))
          clear HGi HOi HBLK HG0 HO0 HO hblk HF
          go_wp2
          go_roundw
          case rel => exact ⟨k + 1, by omega, by go_num, HF2⟩
          case measure => simp [intOf]; omega
    · obtain rfl : k = N := by omega
      go_wp2
      go_end0
      exact ⟨rfl, HF.out⟩

end

section
open Go.RowKit

/-- In the middle of one list's growing: k marks stand behind it. -/
structure GrowIn (W0 wi : World) (base : Nat) (e : TypeId) (x : Value) (A : Option Addr) (n c k : Nat) (A2 : Option Addr) (c2 : Nat) : Prop where
  own : wi.ownsRow base e 1 (.slice A2 (n + k) c2) (n + k) (List.replicate (n + k) x)
  lies : Lies wi A n (List.replicate n x)
  only : W0.grownBy wi (Value.slice A n c).ownBlock
  loc : (Value.slice A2 (n + k) c2).ownBlock = (Value.slice A n c).ownBlock ∨ ∀ g, (Value.slice A2 (n + k) c2).ownBlock = some g → W0.heap.size ≤ g
  typ : ∀ g, (Value.slice A n c).ownBlock = some g → ∃ cur, wi.heap[g]? = some (.cells cur e (0, 0))

theorem GrowIn.start {W0 : World} {base : Nat} {e : TypeId} {x : Value} {A : Option Addr} {n c : Nat} (h : W0.ownsRow base e 1 (.slice A n c) n (List.replicate n x)) : GrowIn W0 W0 base e x A n c 0 A c :=
  ⟨h, lies_of_own h, World.grownBy.refl _ _, .inl (by cases A <;> rfl), fun _ hg => own_type h hg⟩

theorem GrowIn.step {W0 wi w1 w' : World} {base : Nat} {e : TypeId} {x : Value} {A : Option Addr} {n c k : Nat} {A2 A3 : Option Addr} {c2 c3 : Nat} (h : GrowIn W0 wi base e x A n c k A2 c2) (h01 : W0.ownsRow base e 1 (.slice A n c) n (List.replicate n x))
    (hb : Below wi.heap.size wi w1) (ho : w'.ownsRow base e 1 (.slice A3 (n + k + 1) c3) (n + k + 1) (List.replicate (n + k) x ++ [x])) (hm : Moved w1 w' (.slice A2 (n + k) c2) (.slice A3 (n + k + 1) c3)) :
    GrowIn W0 w' base e x A n c (k + 1) A3 c3 := by
  have hrep : List.replicate (n + k) x ++ [x] = List.replicate (n + (k + 1)) x := by rw [← Nat.add_assoc, List.replicate_succ']
  rw [hrep] at ho
  have hl1 : Lies w1 A n (List.replicate n x) := h.lies.below hb
  have hs1 : W0.heap.size ≤ w1.heap.size := Nat.le_trans h.only.size hb.size
  have honly1 : W0.grownBy w1 (Value.slice A n c).ownBlock := grown_trans h.only (grown_below hb _)
  have htyp1 : ∀ g, (Value.slice A n c).ownBlock = some g → g < w1.heap.size ∧ ∃ cur, w1.heap[g]? = some (.cells cur e (0, 0)) := fun g hgg => by
    obtain ⟨cur, hc⟩ := h.typ g hgg
    have hc1 := (hb.block g (lt_of_heap hc)).trans hc
    exact ⟨lt_of_heap hc1, cur, hc1⟩
  rcases hm with ⟨hv, hg⟩ | ⟨hg, hnew⟩
  · refine ⟨ho, ?_, ?_, ?_, ?_⟩
    · refine ⟨h.lies.len, fun hn => ?_⟩
      obtain ⟨b, o, rfl, hlt, hc⟩ := hl1.cells hn
      obtain ⟨g, e1⟩ : ∃ g, (some ⟨b, o, none⟩ : Option Addr) = some ⟨g, 0, none⟩ := by rcases own_addr h01 with h2 | h2; cases h2; exact h2
      injection e1 with e1
      injection e1 with e1 e2
      subst e2
      refine ⟨b, 0, rfl, Nat.lt_of_lt_of_le hlt hg.size, fun j hj => ?_⟩
      by_cases hsame : (Value.slice A2 (n + k) c2).ownBlock = some b
      · rcases own_addr ho with rfl | ⟨g3, rfl⟩
        · rw [hsame] at hv; cases hv
        · have e3 : g3 = b := by rw [hsame] at hv; simpa [Value.ownBlock] using hv
          subst e3
          rw [Nat.zero_add, World.ownsRow.cellAt ho j (by omega)]
          simp [show j < n by omega, show j < n + (k + 1) by omega]
      · rw [World.cell?_of_block (w := w1) (hg.block b hlt (fun e3 => hsame e3.symm))]
        exact hc j hj
    · refine ⟨hg.os.trans honly1.os, hg.tape.trans honly1.tape, hg.output.trans honly1.output, Nat.le_trans hs1 hg.size, fun i hi hne => ?_⟩
      rw [hg.block i (Nat.lt_of_lt_of_le hi hs1) (fun e3 => ?_), honly1.block i hi hne]
      rcases h.loc with h4 | h4
      · exact hne (e3.trans h4)
      · have := h4 i e3.symm; omega
    · rcases h.loc with h4 | h4
      · exact .inl (hv.trans h4)
      · exact .inr fun g hgg => h4 g (by rw [← hv]; exact hgg)
    · intro g hgg
      obtain ⟨hlt, cur, hc⟩ := htyp1 g hgg
      by_cases hsame : (Value.slice A2 (n + k) c2).ownBlock = some g
      · exact own_type ho (hv.trans hsame)
      · exact ⟨cur, (hg.block g hlt (fun e3 => hsame e3.symm)).trans hc⟩
  · refine ⟨ho, hl1.grown hg (by simp), ?_, .inr fun g hgg => Nat.le_trans hs1 (hnew g hgg), fun g hgg => ?_⟩
    rotate_left
    · obtain ⟨hlt, cur, hc⟩ := htyp1 g hgg
      exact ⟨cur, (hg.block g hlt (by simp)).trans hc⟩
    exact grown_trans honly1 ⟨hg.os, hg.tape, hg.output, hg.size, fun i hi _ => hg.block i hi (by simp)⟩

/-- The first k lists have their marks behind them; what stands in the held row tells where. -/
structure GrowTo (w wr : World) (base : Nat) (e hT : TypeId) (mk : Nat → Value) (H : Option Addr) (c : Nat) (its0 its : List It) (k : Nat) : Prop where
  keep : KeepT [e, hT] w wr
  below : Below base w wr
  row : wr.ownsRow base hT 3 (.slice H its.length c) its.length (held its)
  len : its.length = its0.length
  same : ∀ (i : Nat) (t t0 : It), its[i]? = some t → its0[i]? = some t0 → t.A = t0.A ∧ t.n = t0.n ∧ t.c = t0.c ∧ t.m = t0.m
  done : ∀ (i : Nat) (t : It), i < k → its[i]? = some t → t.n2 = t.n + 40 ∧ Lies wr t.A t.n (List.replicate t.n (mk t.m)) ∧ wr.ownsRow base e 1 t.long (t.n + 40) (List.replicate (t.n + 40) (mk t.m)) ∧ (t.long.ownBlock = t.l.ownBlock ∨ ∀ g, t.long.ownBlock = some g → w.heap.size ≤ g) ∧ ∀ g, t.l.ownBlock = some g → ∃ cur, wr.heap[g]? = some (.cells cur e (0, 0))
  todo : ∀ (i : Nat) (t : It), k ≤ i → its[i]? = some t → wr.ownsRow base e 1 t.l t.n (List.replicate t.n (mk t.m))
  apart : ∀ (i j : Nat) (t u : It), i ≠ j → its[i]? = some t → its[j]? = some u → t.l.ownBlock = none ∨ t.l.ownBlock ≠ u.l.ownBlock
  old : ∀ (i : Nat) (t : It) (g : Nat), its[i]? = some t → t.l.ownBlock = some g → g < w.heap.size
  neH : ∀ (i : Nat) (t : It) (g : Nat), its[i]? = some t → t.l.ownBlock = some g → (Value.slice H 0 0).ownBlock ≠ some g

theorem GrowTo.start {w : World} {base : Nat} {e hT : TypeId} (hne : e ≠ hT) {mk : Nat → Value} {H : Option Addr} {c : Nat} {its : List It} (hr : w.ownsRow base hT 3 (.slice H its.length c) its.length (held its))
    (hd : ∀ (i : Nat) (t : It), its[i]? = some t → w.ownsRow base e 1 t.l t.n (List.replicate t.n (mk t.m)))
    (ha : ∀ (i j : Nat) (t u : It), i ≠ j → its[i]? = some t → its[j]? = some u → t.l.ownBlock = none ∨ t.l.ownBlock ≠ u.l.ownBlock) : GrowTo w w base e hT mk H c its its 0 :=
  ⟨KeepT.refl _ _, Below.refl _ _, hr, rfl, fun i t t0 h h0 => by rw [h] at h0; injection h0 with h0; subst h0; exact ⟨rfl, rfl, rfl, rfl⟩, fun i t hi _ => absurd hi (by omega), fun i t _ ht => hd i t ht, ha,
    fun i t g ht hg => (own_lt (hd i t ht) hg).2, fun i t g ht hg e1 => by
      rcases own_neT (hd i t ht) hr hne with h2 | h2
      · rw [h2] at hg; cases hg
      · refine h2 (hg.trans ?_)
        cases H with
        | none => cases e1
        | some a => exact e1.symm⟩

theorem block_of_addr {A : Option Addr} {n c b o : Nat} (h : A = some ⟨b, o, none⟩) : (Value.slice A n c).ownBlock = some b := by subst h; rfl

theorem GrowTo.step {w wr w2 : World} {base : Nat} {e hT : TypeId} {mk : Nat → Value} {gH c : Nat} {its0 its : List It} {k : Nat} {t : It} {A2 : Option Addr} {c2 : Nat} (hne : e ≠ hT)
    (h : GrowTo w wr base e hT mk (some ⟨gH, 0, none⟩) c its0 its k) (hb : base ≤ w.heap.size) (ht : its[k]? = some t)
    (hg : wr.grownBy w2 t.l.ownBlock) (hl : Lies w2 t.A t.n (List.replicate t.n (mk t.m))) (ho : w2.ownsRow base e 1 (.slice A2 (t.n + 40) c2) (t.n + 40) (List.replicate (t.n + 40) (mk t.m)))
    (hloc : (Value.slice A2 (t.n + 40) c2).ownBlock = t.l.ownBlock ∨ ∀ g, (Value.slice A2 (t.n + 40) c2).ownBlock = some g → wr.heap.size ≤ g)
    (htyp : ∀ g, t.l.ownBlock = some g → ∃ cur, w2.heap[g]? = some (.cells cur e (0, 0))) :
    GrowTo w (w2.setCell ⟨gH, k * 3 + 1, none⟩ (.slice A2 (t.n + 40) c2)) base e hT mk (some ⟨gH, 0, none⟩) c its0 (its.set k { t with A2 := A2, n2 := t.n + 40, c2 := c2 }) (k + 1) := by
  have hkl : k < its.length := (List.getElem?_eq_some_iff.1 ht).1
  have hown := h.todo k t (Nat.le_refl _) ht
  have hrow2 : w2.ownsRow base hT 3 (.slice (some ⟨gH, 0, none⟩) its.length c) its.length (held its) := h.row.kept hg (own_neT h.row hown (Ne.symm hne))
  have hrowB : (Value.slice (some ⟨gH, 0, none⟩) its.length c).ownBlock = some gH := rfl
  have hs3 := grown_setCell w2 ⟨gH, k * 3 + 1, none⟩ (.slice A2 (t.n + 40) c2)
  have hst := (hrow2.stored (k * 3 + 1) (.slice A2 (t.n + 40) c2)).1
  rw [held_set its k t A2 (t.n + 40) c2 ht] at hst
  -- a row of elements e stays, whatever is stored in the held row
  have stay : ∀ {v : Value} {n : Nat} {xs : List Value}, w2.ownsRow base e 1 v n xs → (w2.setCell ⟨gH, k * 3 + 1, none⟩ (.slice A2 (t.n + 40) c2)).ownsRow base e 1 v n xs :=
    fun hv => hv.kept hs3 (own_neT hv hrow2 hne)
  have lstay : ∀ {A : Option Addr} {n : Nat} {xs : List Value}, (∀ b o, A = some ⟨b, o, none⟩ → b ≠ gH) → Lies w2 A n xs → Lies (w2.setCell ⟨gH, k * 3 + 1, none⟩ (.slice A2 (t.n + 40) c2)) A n xs :=
    fun hA hv => hv.grown hs3 (fun b o e1 e2 => hA b o e1 (by injection e2))
  have lneH : ∀ (i : Nat) (u : It), its[i]? = some u → ∀ b o, u.A = some ⟨b, o, none⟩ → b ≠ gH := by
    intro i u hu b o e1 e2
    subst e2
    exact h.neH i u b hu (block_of_addr e1) rfl
  have hat : ∀ (i : Nat) (u : It), (its.set k { t with A2 := A2, n2 := t.n + 40, c2 := c2 })[i]? = some u → (i = k ∧ u = { t with A2 := A2, n2 := t.n + 40, c2 := c2 }) ∨ (i ≠ k ∧ its[i]? = some u) := by
    intro i u hu
    by_cases e1 : i = k
    · subst e1
      rw [List.getElem?_set_self hkl] at hu
      injection hu with hu
      exact .inl ⟨rfl, hu.symm⟩
    · rw [List.getElem?_set_ne (Ne.symm e1)] at hu
      exact .inr ⟨e1, hu⟩
  have hlow : ∀ (i : Nat) (u : It), (its.set k { t with A2 := A2, n2 := t.n + 40, c2 := c2 })[i]? = some u → ∃ u0, its[i]? = some u0 ∧ u0.l = u.l ∧ u0.A = u.A ∧ u0.n = u.n ∧ u0.c = u.c ∧ u0.m = u.m := by
    intro i u hu
    rcases hat i u hu with ⟨rfl, rfl⟩ | ⟨_, h1⟩
    · exact ⟨t, ht, rfl, rfl, rfl, rfl, rfl⟩
    · exact ⟨u, h1, rfl, rfl, rfl, rfl, rfl⟩
  refine ⟨?_, ?_, ?_, by rw [List.length_set]; exact h.len, ?_, ?_, ?_, ?_, ?_, ?_⟩
  · refine (h.keep.trans (KeepT.grown hg (fun g hgg => ?_))).trans (KeepT.grown hs3 (fun g hgg => ?_))
    · obtain ⟨cur, hc⟩ := own_type hown hgg
      exact ⟨cur, e, (0, 0), hc, by simp⟩
    · injection hgg with hgg
      subst hgg
      obtain ⟨cur, hc⟩ := own_type hrow2 hrowB
      exact ⟨cur, hT, (0, 0), hc, by simp⟩
  · refine (h.below.grown hg (Nat.le_trans hb h.keep.size) (fun g hgg => (own_lt hown hgg).1)).grown hs3 (Nat.le_trans hb (Nat.le_trans h.keep.size hg.size)) (fun g hgg => ?_)
    injection hgg with hgg
    subst hgg
    exact (own_lt hrow2 hrowB).1
  · rw [List.length_set]
    exact hst
  · intro i u u0 hu hu0
    obtain ⟨v, hv, _, e1, e2, e3, e4⟩ := hlow i u hu
    obtain ⟨s1, s2, s3, s4⟩ := h.same i v u0 hv hu0
    exact ⟨e1 ▸ s1, e2 ▸ s2, e3 ▸ s3, e4 ▸ s4⟩
  · intro i u hi hu
    rcases hat i u hu with ⟨rfl, rfl⟩ | ⟨hik, h1⟩
    · refine ⟨rfl, lstay (lneH i t ht) hl, stay ho, ?_, fun g hgg => ?_⟩
      rotate_left
      · obtain ⟨cur, hc⟩ := htyp g hgg
        exact ⟨cur, (hs3.block g (lt_of_heap hc) (fun e6 => h.neH i t g ht hgg e6.symm)).trans hc⟩
      rcases hloc with h4 | h4
      · exact .inl h4
      · exact .inr fun g hgg => Nat.le_trans h.keep.size (h4 g hgg)
    · obtain ⟨e1, e2, e3, e4, e9⟩ := h.done i u (by omega) h1
      have hl2 : Lies w2 u.A u.n (List.replicate u.n (mk u.m)) := e2.grown hg (fun b o e5 e6 => by
        rcases h.apart i k u t hik h1 ht with h7 | h7
        · rw [It.l, block_of_addr e5] at h7; cases h7
        · exact h7 (by rw [It.l, block_of_addr e5]; exact e6))
      have ho2 : w2.ownsRow base e 1 u.long (u.n + 40) (List.replicate (u.n + 40) (mk u.m)) := e3.kept hg (by
        rcases hv : u.long.ownBlock with _ | g
        · exact .inl rfl
        · refine .inr fun e6 => ?_
          rcases e4 with h7 | h7
          · rcases h.apart i k u t hik h1 ht with h8 | h8
            · rw [← h7, hv] at h8; cases h8
            · exact h8 (by rw [← h7, hv]; exact e6)
          · have := h7 g hv
            have := h.old k t g ht e6.symm
            omega)
      refine ⟨e1, lstay (lneH i u h1) hl2, stay ho2, e4, fun g hgg => ?_⟩
      obtain ⟨cur, hc⟩ := e9 g hgg
      have hc2 := (hg.block g (lt_of_heap hc) (fun e6 => by
        rcases h.apart i k u t hik h1 ht with h7 | h7
        · rw [hgg] at h7; cases h7
        · exact h7 (hgg.trans e6))).trans hc
      exact ⟨cur, (hs3.block g (lt_of_heap hc2) (fun e6 => h.neH i u g h1 hgg e6.symm)).trans hc2⟩
  · intro i u hi hu
    rcases hat i u hu with ⟨rfl, _⟩ | ⟨hik, h1⟩
    · omega
    · exact stay ((h.todo i u (by omega) h1).kept hg (h.apart i k u t hik h1 ht))
  · intro i j u v hij hu hv
    obtain ⟨u0, hu0, e1, _⟩ := hlow i u hu
    obtain ⟨v0, hv0, e2, _⟩ := hlow j v hv
    rw [← e1, ← e2]
    exact h.apart i j u0 v0 hij hu0 hv0
  · intro i u g hu hgg
    obtain ⟨u0, hu0, e1, _⟩ := hlow i u hu
    exact h.old i u0 g hu0 (by rw [e1]; exact hgg)
  · intro i u g hu hgg
    obtain ⟨u0, hu0, e1, _⟩ := hlow i u hu
    exact h.neH i u0 g hu0 (by rw [e1]; exact hgg)

theorem Lies.keepT {T : List TypeId} {w w' : World} {A : Option Addr} {n : Nat} {xs : List Value} {e : TypeId} {c : Nat} (h : Lies w A n xs) (hk : KeepT T w w') (ht : ∀ g, (Value.slice A n c).ownBlock = some g → ∃ cur, w.heap[g]? = some (.cells cur e (0, 0))) (he : e ∉ T) : Lies w' A n xs :=
  h.keep hk.size fun b o e1 hlt j => by
    obtain ⟨cur, hc⟩ := ht b (block_of_addr e1)
    refine World.cell?_of_block (w := w) (hk.block b hlt (fun cur' e' fr' hh => ?_))
    rw [hc] at hh
    injection hh with hh
    injection hh with _ hh
    exact hh ▸ he

end

section
open Go.RowKit

theorem Tryz.info_Byte : (Tryz.prog.info? 5).map (fun i => (i.zero, i.size, i.bytes)) = some (some (.int .u8 0), 1, 1) := by kernel_rfl

set_option maxRecDepth 100000 in
set_option maxHeartbeats 2000000 in
theorem grow_Byte (B base c : Nat) (H : Option Addr) (L : List Value) (its0 : List It) (w : World)
    (hB : w.heap[B]? = some (.cells L.toArray 53 (0, 0))) (hL : L[1]? = some (.slice H its0.length c))
    (hG : GrowTo w w base 5 150 mk_Byte H c its0 its0 0) (hb : base ≤ w.heap.size)
    (hn : its0.length ≤ 1048576) (hsz : ∀ (i : Nat) (t : It), its0[i]? = some t → t.n ≤ 1073741824 ∧ t.m ≤ 1048576) :
    Calls Tryz.prog 71 #[.pointer (some ⟨B, 0, none⟩)] w fun e w' => e = .returned (.tuple #[]) ∧ ∃ its, GrowTo w w' base 5 150 mk_Byte H c its0 its its.length := by
  have HB := hide hB
  have HL := hide hL
  have HG := hide hG
  have HS := hide hsz
  clear hB hL hG hsz
  obtain ⟨i0, hi, hz0, hz1, hz2⟩ := info_parts Tryz.info_Byte
  have HI := hide hi
  have HZ0 := hide hz0
  have HZ1 := hide hz1
  have HZ2 := hide hz2
  clear hi hz0 hz1 hz2
  obtain ⟨N, hN⟩ : ∃ N, N = its0.length := ⟨_, rfl⟩
  rw [← hN] at hn HL
  have HN := hide hN
  clear hN
  go_enter Tryz.func71, Tryz.ntmps71
  go_wp2
  go_loopw [2] (fun i wr => ∃ (k : Nat) (its : List It), k ≤ N ∧ i = .int .i64 k ∧ Hid (GrowTo w wr base 5 150 mk_Byte H c its0 its k)) (fun i _ => N - (intOf i).toNat)
  case atStart => exact ⟨0, its0, Nat.zero_le _, rfl, HG⟩
  case round =>
    obtain ⟨k, its, hk, rfl, HF⟩ := hrel
    have hB1 := cell_blk (HF.out.keep.blk HB.out (by decide)) 1
    rw [HL.out] at hB1
    have hlen : its.length = N := by rw [HF.out.len, HN.out]
    have HLEN := hide hlen
    clear hlen
    by_cases hlt : k < N
    · obtain ⟨t, ht⟩ : ∃ t, its[k]? = some t := ⟨its[k]'(by rw [HLEN.out]; exact hlt), List.getElem?_eq_getElem _⟩
      have hrow := HF.out.row
      rw [HLEN.out] at hrow
      obtain ⟨h1, h2, h3⟩ := held_at its k t ht
      obtain ⟨g, rfl⟩ : ∃ g, H = some ⟨g, 0, none⟩ := by
        rcases hrow.2 with ⟨e, h0⟩ | ⟨g, cap, cur, e, _⟩
        · omega
        · injection e with e; exact ⟨g, e⟩
      have c1 := (hrow.cellAt (k * 3) (by omega)).trans h1
      have c2 := (hrow.cellAt (k * 3 + 1) (by omega)).trans h2
      have c3 := (hrow.cellAt (k * 3 + 2) (by omega)).trans h3
      have HROW := hide hrow
      have HO := hide (HF.out.todo k t (Nat.le_refl _) ht)
      have hsz : t.n ≤ 1073741824 ∧ t.m ≤ 1048576 := by
        obtain ⟨t0, ht0⟩ : ∃ t0, its0[k]? = some t0 := ⟨its0[k]'(by rw [← HN.out]; exact hlt), List.getElem?_eq_getElem _⟩
        obtain ⟨_, e2, _, e4⟩ := HF.out.same k t t0 ht ht0
        rw [e2, e4]
        exact HS.out k t0 ht0
      have HT := hide ht
      clear ht hrow h1 h2 h3
      obtain ⟨A, n, cc, A2, n2, c2', m⟩ := t
      simp only [It.l, It.long] at c1 c2
      have hn1 : n ≤ 1073741824 := hsz.1
      have hm1 : m ≤ 1048576 := hsz.2
      clear hsz
      have HBLK := hide (heap_alloc_new wr (.cells #[Value.slice A n cc, Value.slice A2 n2 c2', Value.int .i64 (m : Int)] 150))
      have hq1 := cell_of_row _ _ 0 _ _ _ HBLK.out
      simp at hq1
      go_wp2_with fail
      clear c1 c2 c3 hB1 hq1
      obtain ⟨wo, rfl⟩ : ∃ wo : World, wo = wr := ⟨_, rfl⟩
      obtain ⟨W0, hW0⟩ : ∃ W0, W0 = wo.alloc (.cells #[Value.slice A n cc, Value.slice A2 n2 c2', Value.int .i64 (m : Int)] 150) := ⟨_, rfl⟩
      have HG0 : Hid (wo.grownBy W0 (Value.slice A n cc).ownBlock) := by rw [hW0]; exact World.grownBy_alloc _ _ _
      have HO0 : Hid (W0.ownsRow base 5 1 (.slice A n cc) n (List.replicate n (mk_Byte m))) := by rw [hW0]; exact HO.out.alloc _
      have hbW : base ≤ W0.heap.size := Nat.le_trans hb (Nat.le_trans HF.out.keep.size HG0.out.size)
      rw [← hW0] at HBLK ⊢
      clear hW0
      go_loopw [4, 5] (fun v i wi => ∃ (j : Nat) (A3 : Option Addr) (c3 : Nat), j ≤ 40 ∧ i = .int .i64 j ∧ v = .slice A3 (n + j) c3 ∧ Hid (GrowIn W0 wi base 5 (mk_Byte m) A n cc j A3 c3)) (fun _ i _ => 40 - (intOf i).toNat)
      case atStart => exact ⟨0, A, cc, by omega, rfl, rfl, hide (GrowIn.start HO0.out)⟩
      case round =>
        obtain ⟨j, A3, c3, hj, rfl, rfl, HGi⟩ := hrel
        have hblk : Hid (wr.heap[wo.heap.size]? = some (.cells #[Value.slice A n cc, Value.slice A2 n2 c2', Value.int .i64 (m : Int)] 150 (0, 0))) := hide (by
          rw [HGi.out.only.block wo.heap.size (lt_of_heap HBLK.out) (fun e => by have := (own_lt HO.out e.symm).2; omega)]
          exact HBLK.out)
        by_cases hjlt : j < 40
        · have d3 : wr.cell? ⟨wo.heap.size, 2, none⟩ = some (.int .i64 (m : Int)) := by rw [cell_of_row _ _ _ _ _ _ hblk.out]; rfl
          have HX : Hid ((wr.alloc (.cells #[.int .u8 (mkI_Byte m)] 5)).cell? ⟨wr.heap.size, 0, none⟩ = some (.int .u8 (mkI_Byte m))) := hide (by have h := cells_new wr [.int .u8 (mkI_Byte m)] 5 0 _ rfl; rwa [Addr.add_lit] at h)
          have hbr : base ≤ wr.heap.size := Nat.le_trans hbW HGi.out.only.size
          go_wp2_with fail
          refine (mark_Byte m _ ).mono ?_
          rintro e w5 ⟨rfl, rfl⟩
          go_wp2_with (at_builtin; with_reducible refine wpList_append_one rfl (.tmp 28) (.tmp 32) 148 rfl 5 i0 (.int .u8 0) 1 Tryz.underlying148 HI.out HZ0.out HZ1.out HZ2.out rfl base A3 (n + j) c3 (List.replicate (n + j) (mk_Byte m)) rfl (HGi.out.own.alloc _) (Nat.le_trans hbr (by simp)) ⟨wr.heap.size, 0, none⟩ (.int .u8 (mkI_Byte m)) rfl HX.out rfl (by omega) (by unfold maxLen; omega) ?_)
          intro A4 c4 w4 ho4 hm4
          have HGn := hide (HGi.out.step HO0.out ((Below.refl wr.heap.size wr).alloc (Nat.le_refl _) _) ho4 hm4)
          clear ho4 hm4 HGi HX d3 hblk
          go_wp2
          go_roundw
          case rel => exact ⟨j + 1, A4, c4, by omega, by go_num, by rw [Nat.add_assoc], HGn⟩
          case measure => simp [intOf]; omega
        · obtain rfl : j = 40 := by omega
          have hgw := grown_trans HG0.out HGi.out.only
          have hrow2 : wr.ownsRow base 150 3 (.slice (some ⟨g, 0, none⟩) N c) N (held its) := HROW.out.kept hgw (own_neT HROW.out HO.out (by decide))
          have hB2 : wr.cell? ⟨B, 1, none⟩ = some (.slice (some ⟨g, 0, none⟩) N c) := by
            have hbk := HF.out.keep.blk HB.out (by decide)
            have hkp : KeepT [5] wo wr := KeepT.grown hgw (fun b hbb => by obtain ⟨cur, hc⟩ := own_type HO.out hbb; exact ⟨cur, _, _, hc, by simp⟩)
            rw [cell_blk (hkp.blk hbk (by decide)) 1]
            exact HL.out
          have f1 := hrow2.cellAt (k * 3 + 1) (by omega)
          rw [(held_at its k _ HT.out).2.1] at f1
          simp only [It.long] at f1
          have f2 : wr.frozen? ⟨g, k * 3 + 1, none⟩ = false := hrow2.frozenAt _
          have HFn : Hid (GrowTo w (wr.setCell ⟨g, k * 3 + 1, none⟩ (.slice A3 (n + 40) c3)) base 5 150 mk_Byte (some ⟨g, 0, none⟩) c its0 (its.set k ⟨A, n, cc, A3, n + 40, c3, m⟩) (k + 1)) :=
            hide (HF.out.step (by decide) hb HT.out hgw HGi.out.lies HGi.out.own (by
              rcases HGi.out.loc with h | h
              · exact .inl h
              · exact .inr fun b hb' => Nat.le_trans HG0.out.size (h b hb')) HGi.out.typ)
          clear hgw hrow2 HGi hblk HBLK HG0 HO0 HF HROW HO
          go_wp2
          go_roundw
          case rel => exact ⟨k + 1, _, by omega, by go_num, HFn⟩
          case measure => simp [intOf]; omega
    · obtain rfl : k = N := by omega
      go_wp2
      go_end0
      exact ⟨rfl, its, by rw [HLEN.out]; exact HF.out⟩

theorem Tryz.info_Int : (Tryz.prog.info? 3).map (fun i => (i.zero, i.size, i.bytes)) = some (some (.int .i64 0), 1, 8) := by kernel_rfl

set_option maxRecDepth 100000 in
set_option maxHeartbeats 2000000 in
theorem grow_Int (B base c : Nat) (H : Option Addr) (L : List Value) (its0 : List It) (w : World)
    (hB : w.heap[B]? = some (.cells L.toArray 53 (0, 0))) (hL : L[2]? = some (.slice H its0.length c))
    (hG : GrowTo w w base 3 147 mk_Int H c its0 its0 0) (hb : base ≤ w.heap.size)
    (hn : its0.length ≤ 1048576) (hsz : ∀ (i : Nat) (t : It), its0[i]? = some t → t.n ≤ 1073741824 ∧ t.m ≤ 1048576) :
    Calls Tryz.prog 72 #[.pointer (some ⟨B, 0, none⟩)] w fun e w' => e = .returned (.tuple #[]) ∧ ∃ its, GrowTo w w' base 3 147 mk_Int H c its0 its its.length := by
  have HB := hide hB
  have HL := hide hL
  have HG := hide hG
  have HS := hide hsz
  clear hB hL hG hsz
  obtain ⟨i0, hi, hz0, hz1, hz2⟩ := info_parts Tryz.info_Int
  have HI := hide hi
  have HZ0 := hide hz0
  have HZ1 := hide hz1
  have HZ2 := hide hz2
  clear hi hz0 hz1 hz2
  obtain ⟨N, hN⟩ : ∃ N, N = its0.length := ⟨_, rfl⟩
  rw [← hN] at hn HL
  have HN := hide hN
  clear hN
  go_enter Tryz.func72, Tryz.ntmps72
  go_wp2
  go_loopw [2] (fun i wr => ∃ (k : Nat) (its : List It), k ≤ N ∧ i = .int .i64 k ∧ Hid (GrowTo w wr base 3 147 mk_Int H c its0 its k)) (fun i _ => N - (intOf i).toNat)
  case atStart => exact ⟨0, its0, Nat.zero_le _, rfl, HG⟩
  case round =>
    obtain ⟨k, its, hk, rfl, HF⟩ := hrel
    have hB1 := cell_blk (HF.out.keep.blk HB.out (by decide)) 2
    rw [HL.out] at hB1
    have hlen : its.length = N := by rw [HF.out.len, HN.out]
    have HLEN := hide hlen
    clear hlen
    by_cases hlt : k < N
    · obtain ⟨t, ht⟩ : ∃ t, its[k]? = some t := ⟨its[k]'(by rw [HLEN.out]; exact hlt), List.getElem?_eq_getElem _⟩
      have hrow := HF.out.row
      rw [HLEN.out] at hrow
      obtain ⟨h1, h2, h3⟩ := held_at its k t ht
      obtain ⟨g, rfl⟩ : ∃ g, H = some ⟨g, 0, none⟩ := by
        rcases hrow.2 with ⟨e, h0⟩ | ⟨g, cap, cur, e, _⟩
        · omega
        · injection e with e; exact ⟨g, e⟩
      have c1 := (hrow.cellAt (k * 3) (by omega)).trans h1
      have c2 := (hrow.cellAt (k * 3 + 1) (by omega)).trans h2
      have c3 := (hrow.cellAt (k * 3 + 2) (by omega)).trans h3
      have HROW := hide hrow
      have HO := hide (HF.out.todo k t (Nat.le_refl _) ht)
      have hsz : t.n ≤ 1073741824 ∧ t.m ≤ 1048576 := by
        obtain ⟨t0, ht0⟩ : ∃ t0, its0[k]? = some t0 := ⟨its0[k]'(by rw [← HN.out]; exact hlt), List.getElem?_eq_getElem _⟩
        obtain ⟨_, e2, _, e4⟩ := HF.out.same k t t0 ht ht0
        rw [e2, e4]
        exact HS.out k t0 ht0
      have HT := hide ht
      clear ht hrow h1 h2 h3
      obtain ⟨A, n, cc, A2, n2, c2', m⟩ := t
      simp only [It.l, It.long] at c1 c2
      have hn1 : n ≤ 1073741824 := hsz.1
      have hm1 : m ≤ 1048576 := hsz.2
      clear hsz
      have HBLK := hide (heap_alloc_new wr (.cells #[Value.slice A n cc, Value.slice A2 n2 c2', Value.int .i64 (m : Int)] 147))
      have hq1 := cell_of_row _ _ 0 _ _ _ HBLK.out
      simp at hq1
      go_wp2_with fail
      clear c1 c2 c3 hB1 hq1
      obtain ⟨wo, rfl⟩ : ∃ wo : World, wo = wr := ⟨_, rfl⟩
      obtain ⟨W0, hW0⟩ : ∃ W0, W0 = wo.alloc (.cells #[Value.slice A n cc, Value.slice A2 n2 c2', Value.int .i64 (m : Int)] 147) := ⟨_, rfl⟩
      have HG0 : Hid (wo.grownBy W0 (Value.slice A n cc).ownBlock) := by rw [hW0]; exact World.grownBy_alloc _ _ _
      have HO0 : Hid (W0.ownsRow base 3 1 (.slice A n cc) n (List.replicate n (mk_Int m))) := by rw [hW0]; exact HO.out.alloc _
      have hbW : base ≤ W0.heap.size := Nat.le_trans hb (Nat.le_trans HF.out.keep.size HG0.out.size)
      rw [← hW0] at HBLK ⊢
      clear hW0
      go_loopw [4, 5] (fun v i wi => ∃ (j : Nat) (A3 : Option Addr) (c3 : Nat), j ≤ 40 ∧ i = .int .i64 j ∧ v = .slice A3 (n + j) c3 ∧ Hid (GrowIn W0 wi base 3 (mk_Int m) A n cc j A3 c3)) (fun _ i _ => 40 - (intOf i).toNat)
      case atStart => exact ⟨0, A, cc, by omega, rfl, rfl, hide (GrowIn.start HO0.out)⟩
      case round =>
        obtain ⟨j, A3, c3, hj, rfl, rfl, HGi⟩ := hrel
        have hblk : Hid (wr.heap[wo.heap.size]? = some (.cells #[Value.slice A n cc, Value.slice A2 n2 c2', Value.int .i64 (m : Int)] 147 (0, 0))) := hide (by
          rw [HGi.out.only.block wo.heap.size (lt_of_heap HBLK.out) (fun e => by have := (own_lt HO.out e.symm).2; omega)]
          exact HBLK.out)
        by_cases hjlt : j < 40
        · have d3 : wr.cell? ⟨wo.heap.size, 2, none⟩ = some (.int .i64 (m : Int)) := by rw [cell_of_row _ _ _ _ _ _ hblk.out]; rfl
          have HX : Hid ((wr.alloc (.cells #[.int .i64 (mkI_Int m)] 3)).cell? ⟨wr.heap.size, 0, none⟩ = some (.int .i64 (mkI_Int m))) := hide (by have h := cells_new wr [.int .i64 (mkI_Int m)] 3 0 _ rfl; rwa [Addr.add_lit] at h)
          have hbr : base ≤ wr.heap.size := Nat.le_trans hbW HGi.out.only.size
          go_wp2_with fail
          refine (mark_Int m _ hm1).mono ?_
          rintro e w5 ⟨rfl, rfl⟩
          go_wp2_with (at_builtin; with_reducible refine wpList_append_one rfl (.tmp 28) (.tmp 32) 31 rfl 3 i0 (.int .i64 0) 8 Tryz.underlying31 HI.out HZ0.out HZ1.out HZ2.out rfl base A3 (n + j) c3 (List.replicate (n + j) (mk_Int m)) rfl (HGi.out.own.alloc _) (Nat.le_trans hbr (by simp)) ⟨wr.heap.size, 0, none⟩ (.int .i64 (mkI_Int m)) rfl HX.out rfl (by omega) (by unfold maxLen; omega) ?_)
          intro A4 c4 w4 ho4 hm4
          have HGn := hide (HGi.out.step HO0.out ((Below.refl wr.heap.size wr).alloc (Nat.le_refl _) _) ho4 hm4)
          clear ho4 hm4 HGi HX d3 hblk
          go_wp2
          go_roundw
          case rel => exact ⟨j + 1, A4, c4, by omega, by go_num, by rw [Nat.add_assoc], HGn⟩
          case measure => simp [intOf]; omega
        · obtain rfl : j = 40 := by omega
          have hgw := grown_trans HG0.out HGi.out.only
          have hrow2 : wr.ownsRow base 147 3 (.slice (some ⟨g, 0, none⟩) N c) N (held its) := HROW.out.kept hgw (own_neT HROW.out HO.out (by decide))
          have hB2 : wr.cell? ⟨B, 2, none⟩ = some (.slice (some ⟨g, 0, none⟩) N c) := by
            have hbk := HF.out.keep.blk HB.out (by decide)
            have hkp : KeepT [3] wo wr := KeepT.grown hgw (fun b hbb => by obtain ⟨cur, hc⟩ := own_type HO.out hbb; exact ⟨cur, _, _, hc, by simp⟩)
            rw [cell_blk (hkp.blk hbk (by decide)) 2]
            exact HL.out
          have f1 := hrow2.cellAt (k * 3 + 1) (by omega)
          rw [(held_at its k _ HT.out).2.1] at f1
          simp only [It.long] at f1
          have f2 : wr.frozen? ⟨g, k * 3 + 1, none⟩ = false := hrow2.frozenAt _
          have HFn : Hid (GrowTo w (wr.setCell ⟨g, k * 3 + 1, none⟩ (.slice A3 (n + 40) c3)) base 3 147 mk_Int (some ⟨g, 0, none⟩) c its0 (its.set k ⟨A, n, cc, A3, n + 40, c3, m⟩) (k + 1)) :=
            hide (HF.out.step (by decide) hb HT.out hgw HGi.out.lies HGi.out.own (by
              rcases HGi.out.loc with h | h
              · exact .inl h
              · exact .inr fun b hb' => Nat.le_trans HG0.out.size (h b hb')) HGi.out.typ)
          clear hgw hrow2 HGi hblk HBLK HG0 HO0 HF HROW HO
          go_wp2
          go_roundw
          case rel => exact ⟨k + 1, _, by omega, by go_num, HFn⟩
          case measure => simp [intOf]; omega
    · obtain rfl : k = N := by omega
      go_wp2
      go_end0
      exact ⟨rfl, its, by rw [HLEN.out]; exact HF.out⟩

theorem Tryz.info_Number : (Tryz.prog.info? 21).map (fun i => (i.zero, i.size, i.bytes)) = some (some (.int .i32 0), 1, 4) := by kernel_rfl

set_option maxRecDepth 100000 in
set_option maxHeartbeats 2000000 in
theorem grow_Number (B base c : Nat) (H : Option Addr) (L : List Value) (its0 : List It) (w : World)
    (hB : w.heap[B]? = some (.cells L.toArray 53 (0, 0))) (hL : L[3]? = some (.slice H its0.length c))
    (hG : GrowTo w w base 21 153 mk_Number H c its0 its0 0) (hb : base ≤ w.heap.size)
    (hn : its0.length ≤ 1048576) (hsz : ∀ (i : Nat) (t : It), its0[i]? = some t → t.n ≤ 1073741824 ∧ t.m ≤ 1048576) :
    Calls Tryz.prog 73 #[.pointer (some ⟨B, 0, none⟩)] w fun e w' => e = .returned (.tuple #[]) ∧ ∃ its, GrowTo w w' base 21 153 mk_Number H c its0 its its.length := by
  have HB := hide hB
  have HL := hide hL
  have HG := hide hG
  have HS := hide hsz
  clear hB hL hG hsz
  obtain ⟨i0, hi, hz0, hz1, hz2⟩ := info_parts Tryz.info_Number
  have HI := hide hi
  have HZ0 := hide hz0
  have HZ1 := hide hz1
  have HZ2 := hide hz2
  clear hi hz0 hz1 hz2
  obtain ⟨N, hN⟩ : ∃ N, N = its0.length := ⟨_, rfl⟩
  rw [← hN] at hn HL
  have HN := hide hN
  clear hN
  go_enter Tryz.func73, Tryz.ntmps73
  go_wp2
  go_loopw [2] (fun i wr => ∃ (k : Nat) (its : List It), k ≤ N ∧ i = .int .i64 k ∧ Hid (GrowTo w wr base 21 153 mk_Number H c its0 its k)) (fun i _ => N - (intOf i).toNat)
  case atStart => exact ⟨0, its0, Nat.zero_le _, rfl, HG⟩
  case round =>
    obtain ⟨k, its, hk, rfl, HF⟩ := hrel
    have hB1 := cell_blk (HF.out.keep.blk HB.out (by decide)) 3
    rw [HL.out] at hB1
    have hlen : its.length = N := by rw [HF.out.len, HN.out]
    have HLEN := hide hlen
    clear hlen
    by_cases hlt : k < N
    · obtain ⟨t, ht⟩ : ∃ t, its[k]? = some t := ⟨its[k]'(by rw [HLEN.out]; exact hlt), List.getElem?_eq_getElem _⟩
      have hrow := HF.out.row
      rw [HLEN.out] at hrow
      obtain ⟨h1, h2, h3⟩ := held_at its k t ht
      obtain ⟨g, rfl⟩ : ∃ g, H = some ⟨g, 0, none⟩ := by
        rcases hrow.2 with ⟨e, h0⟩ | ⟨g, cap, cur, e, _⟩
        · omega
        · injection e with e; exact ⟨g, e⟩
      have c1 := (hrow.cellAt (k * 3) (by omega)).trans h1
      have c2 := (hrow.cellAt (k * 3 + 1) (by omega)).trans h2
      have c3 := (hrow.cellAt (k * 3 + 2) (by omega)).trans h3
      have HROW := hide hrow
      have HO := hide (HF.out.todo k t (Nat.le_refl _) ht)
      have hsz : t.n ≤ 1073741824 ∧ t.m ≤ 1048576 := by
        obtain ⟨t0, ht0⟩ : ∃ t0, its0[k]? = some t0 := ⟨its0[k]'(by rw [← HN.out]; exact hlt), List.getElem?_eq_getElem _⟩
        obtain ⟨_, e2, _, e4⟩ := HF.out.same k t t0 ht ht0
        rw [e2, e4]
        exact HS.out k t0 ht0
      have HT := hide ht
      clear ht hrow h1 h2 h3
      obtain ⟨A, n, cc, A2, n2, c2', m⟩ := t
      simp only [It.l, It.long] at c1 c2
      have hn1 : n ≤ 1073741824 := hsz.1
      have hm1 : m ≤ 1048576 := hsz.2
      clear hsz
      have HBLK := hide (heap_alloc_new wr (.cells #[Value.slice A n cc, Value.slice A2 n2 c2', Value.int .i64 (m : Int)] 153))
      have hq1 := cell_of_row _ _ 0 _ _ _ HBLK.out
      simp at hq1
      go_wp2_with fail
      clear c1 c2 c3 hB1 hq1
      obtain ⟨wo, rfl⟩ : ∃ wo : World, wo = wr := ⟨_, rfl⟩
      obtain ⟨W0, hW0⟩ : ∃ W0, W0 = wo.alloc (.cells #[Value.slice A n cc, Value.slice A2 n2 c2', Value.int .i64 (m : Int)] 153) := ⟨_, rfl⟩
      have HG0 : Hid (wo.grownBy W0 (Value.slice A n cc).ownBlock) := by rw [hW0]; exact World.grownBy_alloc _ _ _
      have HO0 : Hid (W0.ownsRow base 21 1 (.slice A n cc) n (List.replicate n (mk_Number m))) := by rw [hW0]; exact HO.out.alloc _
      have hbW : base ≤ W0.heap.size := Nat.le_trans hb (Nat.le_trans HF.out.keep.size HG0.out.size)
      rw [← hW0] at HBLK ⊢
      clear hW0
      go_loopw [4, 5] (fun v i wi => ∃ (j : Nat) (A3 : Option Addr) (c3 : Nat), j ≤ 40 ∧ i = .int .i64 j ∧ v = .slice A3 (n + j) c3 ∧ Hid (GrowIn W0 wi base 21 (mk_Number m) A n cc j A3 c3)) (fun _ i _ => 40 - (intOf i).toNat)
      case atStart => exact ⟨0, A, cc, by omega, rfl, rfl, hide (GrowIn.start HO0.out)⟩
      case round =>
        obtain ⟨j, A3, c3, hj, rfl, rfl, HGi⟩ := hrel
        have hblk : Hid (wr.heap[wo.heap.size]? = some (.cells #[Value.slice A n cc, Value.slice A2 n2 c2', Value.int .i64 (m : Int)] 153 (0, 0))) := hide (by
          rw [HGi.out.only.block wo.heap.size (lt_of_heap HBLK.out) (fun e => by have := (own_lt HO.out e.symm).2; omega)]
          exact HBLK.out)
        by_cases hjlt : j < 40
        · have d3 : wr.cell? ⟨wo.heap.size, 2, none⟩ = some (.int .i64 (m : Int)) := by rw [cell_of_row _ _ _ _ _ _ hblk.out]; rfl
          have HX : Hid ((wr.alloc (.cells #[.int .i32 (mkI_Number m)] 21)).cell? ⟨wr.heap.size, 0, none⟩ = some (.int .i32 (mkI_Number m))) := hide (by have h := cells_new wr [.int .i32 (mkI_Number m)] 21 0 _ rfl; rwa [Addr.add_lit] at h)
          have hbr : base ≤ wr.heap.size := Nat.le_trans hbW HGi.out.only.size
          go_wp2_with fail
          refine (mark_Number m _ hm1).mono ?_
          rintro e w5 ⟨rfl, rfl⟩
          go_wp2_with (at_builtin; with_reducible refine wpList_append_one rfl (.tmp 28) (.tmp 32) 58 rfl 21 i0 (.int .i32 0) 4 Tryz.underlying58 HI.out HZ0.out HZ1.out HZ2.out rfl base A3 (n + j) c3 (List.replicate (n + j) (mk_Number m)) rfl (HGi.out.own.alloc _) (Nat.le_trans hbr (by simp)) ⟨wr.heap.size, 0, none⟩ (.int .i32 (mkI_Number m)) rfl HX.out rfl (by omega) (by unfold maxLen; omega) ?_)
          intro A4 c4 w4 ho4 hm4
          have HGn := hide (HGi.out.step HO0.out ((Below.refl wr.heap.size wr).alloc (Nat.le_refl _) _) ho4 hm4)
          clear ho4 hm4 HGi HX d3 hblk
          go_wp2
          go_roundw
          case rel => exact ⟨j + 1, A4, c4, by omega, by go_num, by rw [Nat.add_assoc], HGn⟩
          case measure => simp [intOf]; omega
        · obtain rfl : j = 40 := by omega
          have hgw := grown_trans HG0.out HGi.out.only
          have hrow2 : wr.ownsRow base 153 3 (.slice (some ⟨g, 0, none⟩) N c) N (held its) := HROW.out.kept hgw (own_neT HROW.out HO.out (by decide))
          have hB2 : wr.cell? ⟨B, 3, none⟩ = some (.slice (some ⟨g, 0, none⟩) N c) := by
            have hbk := HF.out.keep.blk HB.out (by decide)
            have hkp : KeepT [21] wo wr := KeepT.grown hgw (fun b hbb => by obtain ⟨cur, hc⟩ := own_type HO.out hbb; exact ⟨cur, _, _, hc, by simp⟩)
            rw [cell_blk (hkp.blk hbk (by decide)) 3]
            exact HL.out
          have f1 := hrow2.cellAt (k * 3 + 1) (by omega)
          rw [(held_at its k _ HT.out).2.1] at f1
          simp only [It.long] at f1
          have f2 : wr.frozen? ⟨g, k * 3 + 1, none⟩ = false := hrow2.frozenAt _
          have HFn : Hid (GrowTo w (wr.setCell ⟨g, k * 3 + 1, none⟩ (.slice A3 (n + 40) c3)) base 21 153 mk_Number (some ⟨g, 0, none⟩) c its0 (its.set k ⟨A, n, cc, A3, n + 40, c3, m⟩) (k + 1)) :=
            hide (HF.out.step (by decide) hb HT.out hgw HGi.out.lies HGi.out.own (by
              rcases HGi.out.loc with h | h
              · exact .inl h
              · exact .inr fun b hb' => Nat.le_trans HG0.out.size (h b hb')) HGi.out.typ)
          clear hgw hrow2 HGi hblk HBLK HG0 HO0 HF HROW HO
          go_wp2
          go_roundw
          case rel => exact ⟨k + 1, _, by omega, by go_num, HFn⟩
          case measure => simp [intOf]; omega
    · obtain rfl : k = N := by omega
      go_wp2
      go_end0
      exact ⟨rfl, its, by rw [HLEN.out]; exact HF.out⟩

end

section
open Go.RowKit

theorem rep_cell {w : World} {A : Option Addr} {n : Nat} {x : Value} (h : Lies w A n (List.replicate n x)) {j : Nat} (hj : j < n) : ∃ b o, A = some ⟨b, o, none⟩ ∧ w.cell? ⟨b, o + j, none⟩ = some x := by
  obtain ⟨b, o, e, _, hx⟩ := h.cells (by omega)
  exact ⟨b, o, e, by rw [hx j hj]; simp [hj]⟩

theorem is_Byte (m : Nat) (w : World) : Calls Tryz.prog 172 #[.int .u8 (mkI_Byte m), .int .i64 (m : Int)] w fun e w' => e = .returned (.bool true) ∧ w' = w := by
  have hq : ((mkI_Byte m) == (m : Int) % 256) = true := by simp [mkI_Byte]
  go_enter Tryz.func172, Tryz.ntmps172
  go_wp2
  go_ret
  exact ⟨rfl, rfl⟩

set_option maxRecDepth 100000 in
set_option maxHeartbeats 2000000 in
theorem look_Byte (B base c : Nat) (H : Option Addr) (L : List Value) (its : List It) (w : World)
    (hB : w.heap[B]? = some (.cells L.toArray 53 (0, 0))) (hL : L[1]? = some (.slice H its.length c))
    (hH : w.ownsRow base 150 3 (.slice H its.length c) its.length (held its))
    (hn : its.length ≤ 1048576)
    (hd : ∀ (i : Nat) (t : It), its[i]? = some t → t.n ≤ 1073741824 ∧ t.m ≤ 1048576 ∧ t.n2 = t.n + 40 ∧ Lies w t.A t.n (List.replicate t.n (mk_Byte t.m)) ∧ Lies w t.A2 (t.n + 40) (List.replicate (t.n + 40) (mk_Byte t.m))) :
    Calls Tryz.prog 86 #[.pointer (some ⟨B, 0, none⟩)] w fun e w' => e = .returned (.bool true) ∧ Below w.heap.size w w' := by
  have HB := hide hB
  have HL := hide hL
  have HH := hide hH
  have HD := hide hd
  clear hB hL hH hd
  obtain ⟨N, hN⟩ : ∃ N, N = its.length := ⟨_, rfl⟩
  rw [← hN] at hn HL HH
  have HN := hide hN
  clear hN
  go_enter Tryz.func86, Tryz.ntmps86
  go_wp2
  go_loopw [3] (fun i wr => ∃ k : Nat, k ≤ N ∧ i = .int .i64 k ∧ Hid (Below w.heap.size w wr)) (fun i _ => N - (intOf i).toNat)
  case atStart => exact ⟨0, Nat.zero_le _, rfl, hide (Below.refl _ _)⟩
  case round =>
    obtain ⟨k, hk, rfl, HF⟩ := hrel
    have hB1 : wr.cell? ⟨B, 1, none⟩ = some (.slice H N c) := by
      rw [HF.out.cell (lt_of_heap HB.out), cell_blk HB.out 1]
      exact HL.out
    by_cases hlt : k < N
    · obtain ⟨t, ht⟩ : ∃ t, its[k]? = some t := ⟨its[k]'(by rw [← HN.out]; exact hlt), List.getElem?_eq_getElem _⟩
      obtain ⟨h1, h2, h3⟩ := held_at its k t ht
      obtain ⟨g, rfl⟩ : ∃ g, H = some ⟨g, 0, none⟩ := by
        rcases HH.out.2 with ⟨e, h0⟩ | ⟨g, cap, cur, e, _⟩
        · omega
        · injection e with e; exact ⟨g, e⟩
      have hgl := (own_lt HH.out (g := g) rfl).2
      have c1 := (HF.out.cell (p := ⟨g, k * 3, none⟩) hgl).trans ((HH.out.cellAt (k * 3) (by omega)).trans h1)
      have c2 := (HF.out.cell (p := ⟨g, k * 3 + 1, none⟩) hgl).trans ((HH.out.cellAt (k * 3 + 1) (by omega)).trans h2)
      have c3 := (HF.out.cell (p := ⟨g, k * 3 + 2, none⟩) hgl).trans ((HH.out.cellAt (k * 3 + 2) (by omega)).trans h3)
      obtain ⟨hn1, hm1, hn2, hl1, hl2⟩ := HD.out k t ht
      have HL1 := hide hl1
      have HL2 := hide hl2
      clear ht h1 h2 h3 hl1 hl2 hgl
      obtain ⟨A, n, cc, A2, n2, c2', m⟩ := t
      simp only [It.l, It.long] at c1 c2 hn1 hm1 hn2 HL1 HL2
      subst hn2
      have HBLK := hide (heap_alloc_new wr (.cells #[Value.slice A n cc, Value.slice A2 (n + 40) c2', Value.int .i64 (m : Int)] 150))
      go_wp2_with fail
      clear c1 c2 c3 hB1
      obtain ⟨wo, rfl⟩ : ∃ wo : World, wo = wr := ⟨_, rfl⟩
      have HB0 := hide (HF.out.alloc HF.out.size (.cells #[Value.slice A n cc, Value.slice A2 (n + 40) c2', Value.int .i64 (m : Int)] 150))
      obtain ⟨W0, hW0⟩ : ∃ W0, W0 = wo.alloc (.cells #[Value.slice A n cc, Value.slice A2 (n + 40) c2', Value.int .i64 (m : Int)] 150) := ⟨_, rfl⟩
      rw [← hW0] at HBLK HB0 ⊢
      clear hW0
      go_loopw [5] (fun i wi => ∃ j : Nat, j ≤ n + 40 ∧ i = .int .i64 j ∧ Hid (Below W0.heap.size W0 wi)) (fun i _ => n + 40 - (intOf i).toNat)
      case atStart => exact ⟨0, by omega, rfl, hide (Below.refl _ _)⟩
      case round =>
        obtain ⟨j, hj, rfl, HW⟩ := hrel
        have hblk := (HW.out.block wo.heap.size (lt_of_heap HBLK.out)).trans HBLK.out
        have HB2 := hide (HB0.out.trans (HW.out.mono HB0.out.size))
        have d1 : wr.cell? ⟨wo.heap.size, 0, none⟩ = some (.slice A n cc) := by rw [cell_of_row _ _ _ _ _ _ hblk]; rfl
        have d2 : wr.cell? ⟨wo.heap.size, 1, none⟩ = some (.slice A2 (n + 40) c2') := by rw [cell_of_row _ _ _ _ _ _ hblk]; rfl
        have d3 : wr.cell? ⟨wo.heap.size, 2, none⟩ = some (.int .i64 (m : Int)) := by rw [cell_of_row _ _ _ _ _ _ hblk]; rfl
        clear hblk
        by_cases hjlt : j < n + 40
        · obtain ⟨b, o, rfl, hx⟩ := rep_cell (HL2.out.below HB2.out) hjlt
          have e1 : wr.cell? ⟨b, o + j, none⟩ = some (.int .u8 (mkI_Byte m)) := hx
          have i1 : (0 : Int) ≤ (j : Int) := by omega
          have i2 : (j : Int) < (n : Int) + 40 := by omega
          clear hx
          by_cases hjn : j < n
          · obtain ⟨b', o', rfl, hx⟩ := rep_cell (HL1.out.below HB2.out) hjn
            have e2 : wr.cell? ⟨b', o' + j, none⟩ = some (.int .u8 (mkI_Byte m)) := hx
            have i3 : (j : Int) < (n : Int) := by omega
            have i4 : decide ((j : Int) < (n : Int)) = true := by simp; omega
            have i5 : decide (j < n) = true := by simp; omega
            clear hx
            go_wp2_with fail
            go_quiet ((go_at_call 172; exact Calls.quiet_of_same (is_Byte m _ )))
            go_wp2
            go_roundw
            case rel => exact ⟨j + 1, by omega, by go_num, hide (below_drewN HW.out _)⟩
            case measure => simp [intOf]; omega
          · have i4 : decide ((j : Int) < (n : Int)) = false := by simp; omega
            have i5 : decide (j < n) = false := by simp; omega
            go_wp2_with fail
            go_quiet ((go_at_call 172; exact Calls.quiet_of_same (is_Byte m _ )))
            go_wp2
            go_roundw
            case rel => exact ⟨j + 1, by omega, by go_num, hide (below_drewN HW.out _)⟩
            case measure => simp [intOf]; omega
        · go_wp2
          go_roundw
          case rel => exact ⟨k + 1, by omega, by go_num, HB2⟩
          case measure => simp [intOf]; omega
    · go_wp2
      go_ret
      exact ⟨rfl, HF.out⟩

theorem is_Int (m : Nat) (w : World) (hm : m ≤ 1048576) : Calls Tryz.prog 173 #[.int .i64 (mkI_Int m), .int .i64 (m : Int)] w fun e w' => e = .returned (.bool true) ∧ w' = w := by
  have hq : ((mkI_Int m) == -(m : Int)) = true := by simp [mkI_Int]
  go_enter Tryz.func173, Tryz.ntmps173
  go_wp2
  go_ret
  exact ⟨rfl, rfl⟩

set_option maxRecDepth 100000 in
set_option maxHeartbeats 2000000 in
theorem look_Int (B base c : Nat) (H : Option Addr) (L : List Value) (its : List It) (w : World)
    (hB : w.heap[B]? = some (.cells L.toArray 53 (0, 0))) (hL : L[2]? = some (.slice H its.length c))
    (hH : w.ownsRow base 147 3 (.slice H its.length c) its.length (held its))
    (hn : its.length ≤ 1048576)
    (hd : ∀ (i : Nat) (t : It), its[i]? = some t → t.n ≤ 1073741824 ∧ t.m ≤ 1048576 ∧ t.n2 = t.n + 40 ∧ Lies w t.A t.n (List.replicate t.n (mk_Int t.m)) ∧ Lies w t.A2 (t.n + 40) (List.replicate (t.n + 40) (mk_Int t.m))) :
    Calls Tryz.prog 87 #[.pointer (some ⟨B, 0, none⟩)] w fun e w' => e = .returned (.bool true) ∧ Below w.heap.size w w' := by
  have HB := hide hB
  have HL := hide hL
  have HH := hide hH
  have HD := hide hd
  clear hB hL hH hd
  obtain ⟨N, hN⟩ : ∃ N, N = its.length := ⟨_, rfl⟩
  rw [← hN] at hn HL HH
  have HN := hide hN
  clear hN
  go_enter Tryz.func87, Tryz.ntmps87
  go_wp2
  go_loopw [3] (fun i wr => ∃ k : Nat, k ≤ N ∧ i = .int .i64 k ∧ Hid (Below w.heap.size w wr)) (fun i _ => N - (intOf i).toNat)
  case atStart => exact ⟨0, Nat.zero_le _, rfl, hide (Below.refl _ _)⟩
  case round =>
    obtain ⟨k, hk, rfl, HF⟩ := hrel
    have hB1 : wr.cell? ⟨B, 2, none⟩ = some (.slice H N c) := by
      rw [HF.out.cell (lt_of_heap HB.out), cell_blk HB.out 2]
      exact HL.out
    by_cases hlt : k < N
    · obtain ⟨t, ht⟩ : ∃ t, its[k]? = some t := ⟨its[k]'(by rw [← HN.out]; exact hlt), List.getElem?_eq_getElem _⟩
      obtain ⟨h1, h2, h3⟩ := held_at its k t ht
      obtain ⟨g, rfl⟩ : ∃ g, H = some ⟨g, 0, none⟩ := by
        rcases HH.out.2 with ⟨e, h0⟩ | ⟨g, cap, cur, e, _⟩
        · omega
        · injection e with e; exact ⟨g, e⟩
      have hgl := (own_lt HH.out (g := g) rfl).2
      have c1 := (HF.out.cell (p := ⟨g, k * 3, none⟩) hgl).trans ((HH.out.cellAt (k * 3) (by omega)).trans h1)
      have c2 := (HF.out.cell (p := ⟨g, k * 3 + 1, none⟩) hgl).trans ((HH.out.cellAt (k * 3 + 1) (by omega)).trans h2)
      have c3 := (HF.out.cell (p := ⟨g, k * 3 + 2, none⟩) hgl).trans ((HH.out.cellAt (k * 3 + 2) (by omega)).trans h3)
      obtain ⟨hn1, hm1, hn2, hl1, hl2⟩ := HD.out k t ht
      have HL1 := hide hl1
      have HL2 := hide hl2
      clear ht h1 h2 h3 hl1 hl2 hgl
      obtain ⟨A, n, cc, A2, n2, c2', m⟩ := t
      simp only [It.l, It.long] at c1 c2 hn1 hm1 hn2 HL1 HL2
      subst hn2
      have HBLK := hide (heap_alloc_new wr (.cells #[Value.slice A n cc, Value.slice A2 (n + 40) c2', Value.int .i64 (m : Int)] 147))
      go_wp2_with fail
      clear c1 c2 c3 hB1
      obtain ⟨wo, rfl⟩ : ∃ wo : World, wo = wr := ⟨_, rfl⟩
      have HB0 := hide (HF.out.alloc HF.out.size (.cells #[Value.slice A n cc, Value.slice A2 (n + 40) c2', Value.int .i64 (m : Int)] 147))
      obtain ⟨W0, hW0⟩ : ∃ W0, W0 = wo.alloc (.cells #[Value.slice A n cc, Value.slice A2 (n + 40) c2', Value.int .i64 (m : Int)] 147) := ⟨_, rfl⟩
      rw [← hW0] at HBLK HB0 ⊢
      clear hW0
      go_loopw [5] (fun i wi => ∃ j : Nat, j ≤ n + 40 ∧ i = .int .i64 j ∧ Hid (Below W0.heap.size W0 wi)) (fun i _ => n + 40 - (intOf i).toNat)
      case atStart => exact ⟨0, by omega, rfl, hide (Below.refl _ _)⟩
      case round =>
        obtain ⟨j, hj, rfl, HW⟩ := hrel
        have hblk := (HW.out.block wo.heap.size (lt_of_heap HBLK.out)).trans HBLK.out
        have HB2 := hide (HB0.out.trans (HW.out.mono HB0.out.size))
        have d1 : wr.cell? ⟨wo.heap.size, 0, none⟩ = some (.slice A n cc) := by rw [cell_of_row _ _ _ _ _ _ hblk]; rfl
        have d2 : wr.cell? ⟨wo.heap.size, 1, none⟩ = some (.slice A2 (n + 40) c2') := by rw [cell_of_row _ _ _ _ _ _ hblk]; rfl
        have d3 : wr.cell? ⟨wo.heap.size, 2, none⟩ = some (.int .i64 (m : Int)) := by rw [cell_of_row _ _ _ _ _ _ hblk]; rfl
        clear hblk
        by_cases hjlt : j < n + 40
        · obtain ⟨b, o, rfl, hx⟩ := rep_cell (HL2.out.below HB2.out) hjlt
          have e1 : wr.cell? ⟨b, o + j, none⟩ = some (.int .i64 (mkI_Int m)) := hx
          have i1 : (0 : Int) ≤ (j : Int) := by omega
          have i2 : (j : Int) < (n : Int) + 40 := by omega
          clear hx
          by_cases hjn : j < n
          · obtain ⟨b', o', rfl, hx⟩ := rep_cell (HL1.out.below HB2.out) hjn
            have e2 : wr.cell? ⟨b', o' + j, none⟩ = some (.int .i64 (mkI_Int m)) := hx
            have i3 : (j : Int) < (n : Int) := by omega
            have i4 : decide ((j : Int) < (n : Int)) = true := by simp; omega
            have i5 : decide (j < n) = true := by simp; omega
            clear hx
            go_wp2_with fail
            go_quiet ((go_at_call 173; exact Calls.quiet_of_same (is_Int m _ hm1)))
            go_wp2
            go_roundw
            case rel => exact ⟨j + 1, by omega, by go_num, hide (below_drewN HW.out _)⟩
            case measure => simp [intOf]; omega
          · have i4 : decide ((j : Int) < (n : Int)) = false := by simp; omega
            have i5 : decide (j < n) = false := by simp; omega
            go_wp2_with fail
            go_quiet ((go_at_call 173; exact Calls.quiet_of_same (is_Int m _ hm1)))
            go_wp2
            go_roundw
            case rel => exact ⟨j + 1, by omega, by go_num, hide (below_drewN HW.out _)⟩
            case measure => simp [intOf]; omega
        · go_wp2
          go_roundw
          case rel => exact ⟨k + 1, by omega, by go_num, HB2⟩
          case measure => simp [intOf]; omega
    · go_wp2
      go_ret
      exact ⟨rfl, HF.out⟩

theorem is_Number (m : Nat) (w : World) (hm : m ≤ 1048576) : Calls Tryz.prog 174 #[.int .i32 (mkI_Number m), .int .i64 (m : Int)] w fun e w' => e = .returned (.bool true) ∧ w' = w := by
  have hq : ((mkI_Number m) == -(m : Int)) = true := by simp [mkI_Number]
  go_enter Tryz.func174, Tryz.ntmps174
  go_wp2
  go_ret
  exact ⟨rfl, rfl⟩

set_option maxRecDepth 100000 in
set_option maxHeartbeats 2000000 in
theorem look_Number (B base c : Nat) (H : Option Addr) (L : List Value) (its : List It) (w : World)
    (hB : w.heap[B]? = some (.cells L.toArray 53 (0, 0))) (hL : L[3]? = some (.slice H its.length c))
    (hH : w.ownsRow base 153 3 (.slice H its.length c) its.length (held its))
    (hn : its.length ≤ 1048576)
    (hd : ∀ (i : Nat) (t : It), its[i]? = some t → t.n ≤ 1073741824 ∧ t.m ≤ 1048576 ∧ t.n2 = t.n + 40 ∧ Lies w t.A t.n (List.replicate t.n (mk_Number t.m)) ∧ Lies w t.A2 (t.n + 40) (List.replicate (t.n + 40) (mk_Number t.m))) :
    Calls Tryz.prog 88 #[.pointer (some ⟨B, 0, none⟩)] w fun e w' => e = .returned (.bool true) ∧ Below w.heap.size w w' := by
  have HB := hide hB
  have HL := hide hL
  have HH := hide hH
  have HD := hide hd
  clear hB hL hH hd
  obtain ⟨N, hN⟩ : ∃ N, N = its.length := ⟨_, rfl⟩
  rw [← hN] at hn HL HH
  have HN := hide hN
  clear hN
  go_enter Tryz.func88, Tryz.ntmps88
  go_wp2
  go_loopw [3] (fun i wr => ∃ k : Nat, k ≤ N ∧ i = .int .i64 k ∧ Hid (Below w.heap.size w wr)) (fun i _ => N - (intOf i).toNat)
  case atStart => exact ⟨0, Nat.zero_le _, rfl, hide (Below.refl _ _)⟩
  case round =>
    obtain ⟨k, hk, rfl, HF⟩ := hrel
    have hB1 : wr.cell? ⟨B, 3, none⟩ = some (.slice H N c) := by
      rw [HF.out.cell (lt_of_heap HB.out), cell_blk HB.out 3]
      exact HL.out
    by_cases hlt : k < N
    · obtain ⟨t, ht⟩ : ∃ t, its[k]? = some t := ⟨its[k]'(by rw [← HN.out]; exact hlt), List.getElem?_eq_getElem _⟩
      obtain ⟨h1, h2, h3⟩ := held_at its k t ht
      obtain ⟨g, rfl⟩ : ∃ g, H = some ⟨g, 0, none⟩ := by
        rcases HH.out.2 with ⟨e, h0⟩ | ⟨g, cap, cur, e, _⟩
        · omega
        · injection e with e; exact ⟨g, e⟩
      have hgl := (own_lt HH.out (g := g) rfl).2
      have c1 := (HF.out.cell (p := ⟨g, k * 3, none⟩) hgl).trans ((HH.out.cellAt (k * 3) (by omega)).trans h1)
      have c2 := (HF.out.cell (p := ⟨g, k * 3 + 1, none⟩) hgl).trans ((HH.out.cellAt (k * 3 + 1) (by omega)).trans h2)
      have c3 := (HF.out.cell (p := ⟨g, k * 3 + 2, none⟩) hgl).trans ((HH.out.cellAt (k * 3 + 2) (by omega)).trans h3)
      obtain ⟨hn1, hm1, hn2, hl1, hl2⟩ := HD.out k t ht
      have HL1 := hide hl1
      have HL2 := hide hl2
      clear ht h1 h2 h3 hl1 hl2 hgl
      obtain ⟨A, n, cc, A2, n2, c2', m⟩ := t
      simp only [It.l, It.long] at c1 c2 hn1 hm1 hn2 HL1 HL2
      subst hn2
      have HBLK := hide (heap_alloc_new wr (.cells #[Value.slice A n cc, Value.slice A2 (n + 40) c2', Value.int .i64 (m : Int)] 153))
      go_wp2_with fail
      clear c1 c2 c3 hB1
      obtain ⟨wo, rfl⟩ : ∃ wo : World, wo = wr := ⟨_, rfl⟩
      have HB0 := hide (HF.out.alloc HF.out.size (.cells #[Value.slice A n cc, Value.slice A2 (n + 40) c2', Value.int .i64 (m : Int)] 153))
      obtain ⟨W0, hW0⟩ : ∃ W0, W0 = wo.alloc (.cells #[Value.slice A n cc, Value.slice A2 (n + 40) c2', Value.int .i64 (m : Int)] 153) := ⟨_, rfl⟩
      rw [← hW0] at HBLK HB0 ⊢
      clear hW0
      go_loopw [5] (fun i wi => ∃ j : Nat, j ≤ n + 40 ∧ i = .int .i64 j ∧ Hid (Below W0.heap.size W0 wi)) (fun i _ => n + 40 - (intOf i).toNat)
      case atStart => exact ⟨0, by omega, rfl, hide (Below.refl _ _)⟩
      case round =>
        obtain ⟨j, hj, rfl, HW⟩ := hrel
        have hblk := (HW.out.block wo.heap.size (lt_of_heap HBLK.out)).trans HBLK.out
        have HB2 := hide (HB0.out.trans (HW.out.mono HB0.out.size))
        have d1 : wr.cell? ⟨wo.heap.size, 0, none⟩ = some (.slice A n cc) := by rw [cell_of_row _ _ _ _ _ _ hblk]; rfl
        have d2 : wr.cell? ⟨wo.heap.size, 1, none⟩ = some (.slice A2 (n + 40) c2') := by rw [cell_of_row _ _ _ _ _ _ hblk]; rfl
        have d3 : wr.cell? ⟨wo.heap.size, 2, none⟩ = some (.int .i64 (m : Int)) := by rw [cell_of_row _ _ _ _ _ _ hblk]; rfl
        clear hblk
        by_cases hjlt : j < n + 40
        · obtain ⟨b, o, rfl, hx⟩ := rep_cell (HL2.out.below HB2.out) hjlt
          have e1 : wr.cell? ⟨b, o + j, none⟩ = some (.int .i32 (mkI_Number m)) := hx
          have i1 : (0 : Int) ≤ (j : Int) := by omega
          have i2 : (j : Int) < (n : Int) + 40 := by omega
          clear hx
          by_cases hjn : j < n
          · obtain ⟨b', o', rfl, hx⟩ := rep_cell (HL1.out.below HB2.out) hjn
            have e2 : wr.cell? ⟨b', o' + j, none⟩ = some (.int .i32 (mkI_Number m)) := hx
            have i3 : (j : Int) < (n : Int) := by omega
            have i4 : decide ((j : Int) < (n : Int)) = true := by simp; omega
            have i5 : decide (j < n) = true := by simp; omega
            clear hx
            go_wp2_with fail
            go_quiet ((go_at_call 174; exact Calls.quiet_of_same (is_Number m _ hm1)))
            go_wp2
            go_roundw
            case rel => exact ⟨j + 1, by omega, by go_num, hide (below_drewN HW.out _)⟩
            case measure => simp [intOf]; omega
          · have i4 : decide ((j : Int) < (n : Int)) = false := by simp; omega
            have i5 : decide (j < n) = false := by simp; omega
            go_wp2_with fail
            go_quiet ((go_at_call 174; exact Calls.quiet_of_same (is_Number m _ hm1)))
            go_wp2
            go_roundw
            case rel => exact ⟨j + 1, by omega, by go_num, hide (below_drewN HW.out _)⟩
            case measure => simp [intOf]; omega
        · go_wp2
          go_roundw
          case rel => exact ⟨k + 1, by omega, by go_num, HB2⟩
          case measure => simp [intOf]; omega
    · go_wp2
      go_ret
      exact ⟨rfl, HF.out⟩

end

section
open Go.RowKit

theorem KeepT.drew {T : List TypeId} {w w' : World} (h : KeepT T w w') : KeepT T w w'.drew := ⟨h.os, h.tape, h.output, h.size, h.block⟩

structure KeptIn (w w' : World) (B base : Nat) (bT hT : TypeId) (L : List Value) (f N : Nat) (its : List It) (A : Option Addr) (n c : Nat) (H' : Option Addr) (c' : Nat) : Prop where
  blk : w'.heap[B]? = some (.cells ((L.set 0 (.int .i64 ((N + 1 : Nat) : Int))).set f (.slice H' (its.length + 1) c')).toArray bT (0, 0))
  row : w'.ownsRow base hT 3 (.slice H' (its.length + 1) c') (its.length + 1) (held (its ++ [⟨A, n, c, none, 0, 0, N + 1⟩]))
  keep : KeepT [bT, hT] w w'
  below : Below base w w'

theorem keep_blk {w w' : World} {B : Nat} {o : Obj} {row : Option Nat} (h : w.heap[B]? = some o) (hg : w.grownBy w' row) (hne : some B ≠ row) : w'.heap[B]? = some o := (hg.block B (lt_of_heap h) hne).trans h

theorem blk_set {w : World} {B : Nat} {L : List Value} {t : TypeId} (h : w.heap[B]? = some (.cells L.toArray t (0, 0))) (i : Nat) (u : Value) : (w.setCell ⟨B, i, none⟩ u).heap[B]? = some (.cells (L.set i u).toArray t (0, 0)) := by
  rw [heap_setCell_same w B i L.toArray t u h]
  simp

theorem Tryz.infoH_Byte : (Tryz.prog.info? 150).map (fun i => (i.zero, i.size, i.bytes)) = some (some (.agg #[.slice none 0 0, .slice none 0 0, .int .i64 0]), 3, 56) := by kernel_rfl

theorem Tryz.infoH_Int : (Tryz.prog.info? 147).map (fun i => (i.zero, i.size, i.bytes)) = some (some (.agg #[.slice none 0 0, .slice none 0 0, .int .i64 0]), 3, 56) := by kernel_rfl

set_option maxRecDepth 100000 in
set_option maxHeartbeats 2000000 in
theorem keep_Int (B base N c n cc : Nat) (H A : Option Addr) (L : List Value) (its : List It) (w : World)
    (hB : w.heap[B]? = some (.cells L.toArray 53 (0, 0))) (hL0 : L[0]? = some (.int .i64 (N : Int))) (hL : L[2]? = some (.slice H its.length c))
    (hH : w.ownsRow base 147 3 (.slice H its.length c) its.length (held its)) (hb : base ≤ w.heap.size) (hbB : base ≤ B) (hN : N ≤ 1048576) (hn : its.length ≤ 1048576) :
    Calls Tryz.prog 55 #[.pointer (some ⟨B, 0, none⟩), .slice A n cc] w fun e w' => e = .returned (.tuple #[]) ∧
      ∃ H' c', KeptIn w w' B base 53 147 L 2 N its A n cc H' c' := by
  have a1 := (cell_blk hB 0).trans hL0
  have a2 := (cell_blk hB 2).trans hL
  have a3 : w.frozen? ⟨B, 0, none⟩ = false := by simp [World.frozen?, hB]
  have hB2 := blk_set hB 0 (.int .i64 ((N : Int) + 1))
  have a4 : (w.setCell ⟨B, 0, none⟩ (.int .i64 ((N : Int) + 1))).cell? ⟨B, 2, none⟩ = some (.slice H its.length c) := by
    rw [cell_blk hB2 2, List.getElem?_set_ne (by decide)]
    exact hL
  have HL0 : Hid (0 < L.length) := hide (List.getElem?_eq_some_iff.1 hL0).1
  have hgs := grown_setCell w ⟨B, 0, none⟩ (.int .i64 ((N : Int) + 1))
  obtain ⟨cB, hcB⟩ : ∃ cB, w.heap[B]? = some (.cells cB 53 (0, 0)) := ⟨_, hB⟩
  have hneB : ∀ (w : World) (cs : List Value) (hB : w.heap[B]? = some (.cells cs.toArray 53 (0, 0))) {v : Value} {k : Nat} {xs : List Value}, w.ownsRow base 147 3 v k xs → v.ownBlock ≠ some B := by
    intro w cs hB v k xs ho e
    obtain ⟨c1, h1⟩ := own_type ho e
    rw [hB] at h1
    injection h1 with h1
    injection h1 with _ h1
    exact absurd h1 (by decide)
  have hH2 : (w.setCell ⟨B, 0, none⟩ (.int .i64 ((N : Int) + 1))).ownsRow base 147 3 (.slice H its.length c) its.length (held its) := hH.kept hgs (.inr (hneB w L hB hH))
  have HLF := hide hL
  have HB := hide hB
  have HB2 := hide hB2
  have HH2 := hide hH2
  have HNE := hide hneB
  have HGS := hide hgs
  clear hB hL0 hL hH hB2 hH2 hneB hgs hcB
  obtain ⟨i0, hi, hz0, hz1, hz2⟩ := info_parts Tryz.infoH_Int
  have HI := hide hi
  have HZ0 := hide hz0
  have HZ1 := hide hz1
  have HZ2 := hide hz2
  clear hi hz0 hz1 hz2
  go_enter Tryz.func55, Tryz.ntmps55
  go_wp2
  obtain ⟨w1, hw1⟩ : ∃ w1, w1 = w.setCell ⟨B, 0, none⟩ (.int .i64 ((N : Int) + 1)) := ⟨_, rfl⟩
  rw [← hw1] at HB2 HH2 HGS a4 ⊢
  have HW1 := hide hw1
  clear hw1 a1 a2 a3
  have a5 : w1.cell? ⟨B, 0, none⟩ = some (.int .i64 ((N : Int) + 1)) := by
    rw [cell_blk HB2.out 0, List.getElem?_set_self HL0.out]
  have hs1 : w.heap.size ≤ w1.heap.size := HGS.out.size
  have hbs : base ≤ (w1.alloc (.cells #[.slice A n cc, .slice none 0 0, .int .i64 ((N : Int) + 1)] 147)).drew.heap.size := Nat.le_trans hb (Nat.le_trans hs1 (by show w1.heap.size ≤ (w1.alloc _).heap.size; simp))
  have HO3 : Hid ((w1.alloc (.cells #[.slice A n cc, .slice none 0 0, .int .i64 ((N : Int) + 1)] 147)).drew.ownsRow base 147 3 (.slice H its.length c) its.length (held its)) := hide (HH2.out.alloc _)
  have HB3 : Hid ((w1.alloc (.cells #[.slice A n cc, .slice none 0 0, .int .i64 ((N : Int) + 1)] 147)).drew.heap[B]? = some (.cells (L.set 0 (.int .i64 ((N : Int) + 1))).toArray 53 (0, 0))) := hide ((Below.heap_alloc w1 _ B (lt_of_heap HB2.out)).trans HB2.out)
  have HX3 := hide (cells_new w1 [.slice A n cc, .slice none 0 0, .int .i64 ((N : Int) + 1)] 147)
  have a8 : (w1.alloc (.cells #[.slice A n cc, .slice none 0 0, .int .i64 ((N : Int) + 1)] 147)).cell? ⟨B, 2, none⟩ = some (.slice H its.length c) := (World.cell?_of_block (w := w1) (Below.heap_alloc w1 _ B (lt_of_heap HB2.out))).trans a4
  have a6 : w1.frozen? ⟨B, 0, none⟩ = false := by simp [World.frozen?, HB2.out]
  have a7 : w1.frozen? ⟨B, 2, none⟩ = false := by simp [World.frozen?, HB2.out]
  go_region_law (refine step_append_held rfl (.tmp 15) (.tmp 22) 38 rfl 147 i0 (.agg #[.slice none 0 0, .slice none 0 0, .int .i64 0]) 3 56 Tryz.underlying38 HI.out HZ0.out HZ1.out HZ2.out rfl (by decide) base (.slice H its.length c) its.length (held its) rfl HO3.out hbs ⟨w1.heap.size, 0, none⟩ [.slice A n cc, .slice none 0 0, .int .i64 ((N : Int) + 1)] rfl rfl HX3.out (by simp [Value.oneCell']) (by omega) (by unfold maxLen; omega) ?_; intro g2 c2 w2 ho2 hg2; have hb4 := keep_blk HB3.out hg2 (fun e => HNE.out _ _ HB3.out HO3.out e.symm); have k0 : w2.cell? ⟨B, 2, none⟩ = some (.slice H its.length c) := (by rw [cell_blk hb4 2, List.getElem?_set_ne (by decide)]; exact HLF.out); have k1 : w2.frozen? ⟨B, 2, none⟩ = false := (by simp [World.frozen?, hb4]))
  all_goals go_wp2
  all_goals go_end0
  all_goals
    refine ⟨rfl, some ⟨g2, 0, none⟩, c2, ?_⟩
    have hst := grown_setCell w2 ⟨B, 2, none⟩ (.slice (some ⟨g2, 0, none⟩) (its.length + 1) c2)
    have hk1 : KeepT [53, 147] w w1 := KeepT.grown HGS.out (fun b hbb => by injection hbb with hbb; subst hbb; exact ⟨_, _, _, HB.out, by simp⟩)
    have hk2 : KeepT [53, 147] w1 w2 := ((KeepT.refl _ w1).alloc _).drew.trans (KeepT.grown hg2 (fun b hbb => by obtain ⟨cu, hc⟩ := own_type HO3.out hbb; exact ⟨cu, _, _, hc, by simp⟩))
    have hk3 : KeepT [53, 147] w2 (w2.setCell ⟨B, 2, none⟩ (.slice (some ⟨g2, 0, none⟩) (its.length + 1) c2)) := KeepT.grown hst (fun b hbb => by injection hbb with hbb; subst hbb; exact ⟨_, _, _, hb4, by simp⟩)
    refine ⟨?_, ?_, (hk1.trans hk2).trans hk3, ?_⟩
    · exact blk_set hb4 2 _
    · rw [held_snoc]
      exact ho2.kept hst (.inr (HNE.out w2 _ hb4 ho2))
    · refine (((Below.refl base w).grown HGS.out hb (fun b hbb => by injection hbb with hbb; subst hbb; exact hbB)).trans (((Below.refl base w1).alloc (Nat.le_trans hb hs1) _).drew.grown hg2 hbs (fun b hbb => (own_lt HO3.out hbb).1))).grown hst ?_ (fun b hbb => by injection hbb with hbb; subst hbb; exact hbB)
      exact Nat.le_trans hb (hk1.trans hk2).size

theorem Tryz.infoH_Number : (Tryz.prog.info? 153).map (fun i => (i.zero, i.size, i.bytes)) = some (some (.agg #[.slice none 0 0, .slice none 0 0, .int .i64 0]), 3, 56) := by kernel_rfl

set_option maxRecDepth 100000 in
set_option maxHeartbeats 2000000 in
theorem keep_Number (B base N c n cc : Nat) (H A : Option Addr) (L : List Value) (its : List It) (w : World)
    (hB : w.heap[B]? = some (.cells L.toArray 53 (0, 0))) (hL0 : L[0]? = some (.int .i64 (N : Int))) (hL : L[3]? = some (.slice H its.length c))
    (hH : w.ownsRow base 153 3 (.slice H its.length c) its.length (held its)) (hb : base ≤ w.heap.size) (hbB : base ≤ B) (hN : N ≤ 1048576) (hn : its.length ≤ 1048576) :
    Calls Tryz.prog 196 #[.pointer (some ⟨B, 0, none⟩), .slice A n cc] w fun e w' => e = .returned (.tuple #[]) ∧
      ∃ H' c', KeptIn w w' B base 53 153 L 3 N its A n cc H' c' := by
  have a1 := (cell_blk hB 0).trans hL0
  have a2 := (cell_blk hB 3).trans hL
  have a3 : w.frozen? ⟨B, 0, none⟩ = false := by simp [World.frozen?, hB]
  have hB2 := blk_set hB 0 (.int .i64 ((N : Int) + 1))
  have a4 : (w.setCell ⟨B, 0, none⟩ (.int .i64 ((N : Int) + 1))).cell? ⟨B, 3, none⟩ = some (.slice H its.length c) := by
    rw [cell_blk hB2 3, List.getElem?_set_ne (by decide)]
    exact hL
  have HL0 : Hid (0 < L.length) := hide (List.getElem?_eq_some_iff.1 hL0).1
  have hgs := grown_setCell w ⟨B, 0, none⟩ (.int .i64 ((N : Int) + 1))
  obtain ⟨cB, hcB⟩ : ∃ cB, w.heap[B]? = some (.cells cB 53 (0, 0)) := ⟨_, hB⟩
  have hneB : ∀ (w : World) (cs : List Value) (hB : w.heap[B]? = some (.cells cs.toArray 53 (0, 0))) {v : Value} {k : Nat} {xs : List Value}, w.ownsRow base 153 3 v k xs → v.ownBlock ≠ some B := by
    intro w cs hB v k xs ho e
    obtain ⟨c1, h1⟩ := own_type ho e
    rw [hB] at h1
    injection h1 with h1
    injection h1 with _ h1
    exact absurd h1 (by decide)
  have hH2 : (w.setCell ⟨B, 0, none⟩ (.int .i64 ((N : Int) + 1))).ownsRow base 153 3 (.slice H its.length c) its.length (held its) := hH.kept hgs (.inr (hneB w L hB hH))
  have HLF := hide hL
  have HB := hide hB
  have HB2 := hide hB2
  have HH2 := hide hH2
  have HNE := hide hneB
  have HGS := hide hgs
  clear hB hL0 hL hH hB2 hH2 hneB hgs hcB
  obtain ⟨i0, hi, hz0, hz1, hz2⟩ := info_parts Tryz.infoH_Number
  have HI := hide hi
  have HZ0 := hide hz0
  have HZ1 := hide hz1
  have HZ2 := hide hz2
  clear hi hz0 hz1 hz2
  go_enter Tryz.func196, Tryz.ntmps196
  go_wp2
  obtain ⟨w1, hw1⟩ : ∃ w1, w1 = w.setCell ⟨B, 0, none⟩ (.int .i64 ((N : Int) + 1)) := ⟨_, rfl⟩
  rw [← hw1] at HB2 HH2 HGS a4 ⊢
  have HW1 := hide hw1
  clear hw1 a1 a2 a3
  have a5 : w1.cell? ⟨B, 0, none⟩ = some (.int .i64 ((N : Int) + 1)) := by
    rw [cell_blk HB2.out 0, List.getElem?_set_self HL0.out]
  have hs1 : w.heap.size ≤ w1.heap.size := HGS.out.size
  have hbs : base ≤ (w1.alloc (.cells #[.slice A n cc, .slice none 0 0, .int .i64 ((N : Int) + 1)] 153)).drew.heap.size := Nat.le_trans hb (Nat.le_trans hs1 (by show w1.heap.size ≤ (w1.alloc _).heap.size; simp))
  have HO3 : Hid ((w1.alloc (.cells #[.slice A n cc, .slice none 0 0, .int .i64 ((N : Int) + 1)] 153)).drew.ownsRow base 153 3 (.slice H its.length c) its.length (held its)) := hide (HH2.out.alloc _)
  have HB3 : Hid ((w1.alloc (.cells #[.slice A n cc, .slice none 0 0, .int .i64 ((N : Int) + 1)] 153)).drew.heap[B]? = some (.cells (L.set 0 (.int .i64 ((N : Int) + 1))).toArray 53 (0, 0))) := hide ((Below.heap_alloc w1 _ B (lt_of_heap HB2.out)).trans HB2.out)
  have HX3 := hide (cells_new w1 [.slice A n cc, .slice none 0 0, .int .i64 ((N : Int) + 1)] 153)
  have a8 : (w1.alloc (.cells #[.slice A n cc, .slice none 0 0, .int .i64 ((N : Int) + 1)] 153)).cell? ⟨B, 3, none⟩ = some (.slice H its.length c) := (World.cell?_of_block (w := w1) (Below.heap_alloc w1 _ B (lt_of_heap HB2.out))).trans a4
  have a6 : w1.frozen? ⟨B, 0, none⟩ = false := by simp [World.frozen?, HB2.out]
  have a7 : w1.frozen? ⟨B, 3, none⟩ = false := by simp [World.frozen?, HB2.out]
  go_region_law (refine step_append_held rfl (.tmp 15) (.tmp 22) 39 rfl 153 i0 (.agg #[.slice none 0 0, .slice none 0 0, .int .i64 0]) 3 56 Tryz.underlying39 HI.out HZ0.out HZ1.out HZ2.out rfl (by decide) base (.slice H its.length c) its.length (held its) rfl HO3.out hbs ⟨w1.heap.size, 0, none⟩ [.slice A n cc, .slice none 0 0, .int .i64 ((N : Int) + 1)] rfl rfl HX3.out (by simp [Value.oneCell']) (by omega) (by unfold maxLen; omega) ?_; intro g2 c2 w2 ho2 hg2; have hb4 := keep_blk HB3.out hg2 (fun e => HNE.out _ _ HB3.out HO3.out e.symm); have k0 : w2.cell? ⟨B, 3, none⟩ = some (.slice H its.length c) := (by rw [cell_blk hb4 3, List.getElem?_set_ne (by decide)]; exact HLF.out); have k1 : w2.frozen? ⟨B, 3, none⟩ = false := (by simp [World.frozen?, hb4]))
  all_goals go_wp2
  all_goals go_end0
  all_goals
    refine ⟨rfl, some ⟨g2, 0, none⟩, c2, ?_⟩
    have hst := grown_setCell w2 ⟨B, 3, none⟩ (.slice (some ⟨g2, 0, none⟩) (its.length + 1) c2)
    have hk1 : KeepT [53, 153] w w1 := KeepT.grown HGS.out (fun b hbb => by injection hbb with hbb; subst hbb; exact ⟨_, _, _, HB.out, by simp⟩)
    have hk2 : KeepT [53, 153] w1 w2 := ((KeepT.refl _ w1).alloc _).drew.trans (KeepT.grown hg2 (fun b hbb => by obtain ⟨cu, hc⟩ := own_type HO3.out hbb; exact ⟨cu, _, _, hc, by simp⟩))
    have hk3 : KeepT [53, 153] w2 (w2.setCell ⟨B, 3, none⟩ (.slice (some ⟨g2, 0, none⟩) (its.length + 1) c2)) := KeepT.grown hst (fun b hbb => by injection hbb with hbb; subst hbb; exact ⟨_, _, _, hb4, by simp⟩)
    refine ⟨?_, ?_, (hk1.trans hk2).trans hk3, ?_⟩
    · exact blk_set hb4 3 _
    · rw [held_snoc]
      exact ho2.kept hst (.inr (HNE.out w2 _ hb4 ho2))
    · refine (((Below.refl base w).grown HGS.out hb (fun b hbb => by injection hbb with hbb; subst hbb; exact hbB)).trans (((Below.refl base w1).alloc (Nat.le_trans hb hs1) _).drew.grown hg2 hbs (fun b hbb => (own_lt HO3.out hbb).1))).grown hst ?_ (fun b hbb => by injection hbb with hbb; subst hbb; exact hbB)
      exact Nat.le_trans hb (hk1.trans hk2).size

end

section
open Go.RowKit

theorem fill0_Id (B : Nat) (w : World) (h : w.cell? ⟨B, 4, none⟩ = some (.slice none 0 0)) :
    Calls Tryz.prog 59 #[.pointer (some ⟨B, 0, none⟩)] w fun e w' => e = .returned (.tuple #[]) ∧ w = w' := by
  go_enter Tryz.func59, Tryz.ntmps59
  go_wp2
  refine wp_loop_rounds 1 ?_
  rw [rounds_succ]
  go_wp2
  go_end0
  exact ⟨rfl, rfl⟩

theorem grow0_Id (B : Nat) (w : World) (h : w.cell? ⟨B, 4, none⟩ = some (.slice none 0 0)) :
    Calls Tryz.prog 74 #[.pointer (some ⟨B, 0, none⟩)] w fun e w' => e = .returned (.tuple #[]) ∧ w = w' := by
  go_enter Tryz.func74, Tryz.ntmps74
  go_wp2
  refine wp_loop_rounds 1 ?_
  rw [rounds_succ]
  go_wp2
  go_end0
  exact ⟨rfl, rfl⟩

theorem look0_Id (B : Nat) (w : World) (h : w.cell? ⟨B, 4, none⟩ = some (.slice none 0 0)) :
    Calls Tryz.prog 89 #[.pointer (some ⟨B, 0, none⟩)] w fun e w' => e = .returned (.bool true) ∧ w = w' := by
  go_enter Tryz.func89, Tryz.ntmps89
  go_wp2
  refine wp_loop_rounds 1 ?_
  rw [rounds_succ]
  go_wp2
  go_ret
  exact ⟨rfl, rfl⟩

theorem fill0_Text (B : Nat) (w : World) (h : w.cell? ⟨B, 5, none⟩ = some (.slice none 0 0)) :
    Calls Tryz.prog 60 #[.pointer (some ⟨B, 0, none⟩)] w fun e w' => e = .returned (.tuple #[]) ∧ w = w' := by
  go_enter Tryz.func60, Tryz.ntmps60
  go_wp2
  refine wp_loop_rounds 1 ?_
  rw [rounds_succ]
  go_wp2
  go_end0
  exact ⟨rfl, rfl⟩

theorem grow0_Text (B : Nat) (w : World) (h : w.cell? ⟨B, 5, none⟩ = some (.slice none 0 0)) :
    Calls Tryz.prog 75 #[.pointer (some ⟨B, 0, none⟩)] w fun e w' => e = .returned (.tuple #[]) ∧ w = w' := by
  go_enter Tryz.func75, Tryz.ntmps75
  go_wp2
  refine wp_loop_rounds 1 ?_
  rw [rounds_succ]
  go_wp2
  go_end0
  exact ⟨rfl, rfl⟩

theorem look0_Text (B : Nat) (w : World) (h : w.cell? ⟨B, 5, none⟩ = some (.slice none 0 0)) :
    Calls Tryz.prog 90 #[.pointer (some ⟨B, 0, none⟩)] w fun e w' => e = .returned (.bool true) ∧ w = w' := by
  go_enter Tryz.func90, Tryz.ntmps90
  go_wp2
  refine wp_loop_rounds 1 ?_
  rw [rounds_succ]
  go_wp2
  go_ret
  exact ⟨rfl, rfl⟩

theorem fill0_Tensor (B : Nat) (w : World) (h : w.cell? ⟨B, 6, none⟩ = some (.slice none 0 0)) :
    Calls Tryz.prog 61 #[.pointer (some ⟨B, 0, none⟩)] w fun e w' => e = .returned (.tuple #[]) ∧ w = w' := by
  go_enter Tryz.func61, Tryz.ntmps61
  go_wp2
  refine wp_loop_rounds 1 ?_
  rw [rounds_succ]
  go_wp2
  go_end0
  exact ⟨rfl, rfl⟩

theorem grow0_Tensor (B : Nat) (w : World) (h : w.cell? ⟨B, 6, none⟩ = some (.slice none 0 0)) :
    Calls Tryz.prog 76 #[.pointer (some ⟨B, 0, none⟩)] w fun e w' => e = .returned (.tuple #[]) ∧ w = w' := by
  go_enter Tryz.func76, Tryz.ntmps76
  go_wp2
  refine wp_loop_rounds 1 ?_
  rw [rounds_succ]
  go_wp2
  go_end0
  exact ⟨rfl, rfl⟩

theorem look0_Tensor (B : Nat) (w : World) (h : w.cell? ⟨B, 6, none⟩ = some (.slice none 0 0)) :
    Calls Tryz.prog 91 #[.pointer (some ⟨B, 0, none⟩)] w fun e w' => e = .returned (.bool true) ∧ w = w' := by
  go_enter Tryz.func91, Tryz.ntmps91
  go_wp2
  refine wp_loop_rounds 1 ?_
  rw [rounds_succ]
  go_wp2
  go_ret
  exact ⟨rfl, rfl⟩

theorem fill0_Node (B : Nat) (w : World) (h : w.cell? ⟨B, 7, none⟩ = some (.slice none 0 0)) :
    Calls Tryz.prog 62 #[.pointer (some ⟨B, 0, none⟩)] w fun e w' => e = .returned (.tuple #[]) ∧ w = w' := by
  go_enter Tryz.func62, Tryz.ntmps62
  go_wp2
  refine wp_loop_rounds 1 ?_
  rw [rounds_succ]
  go_wp2
  go_end0
  exact ⟨rfl, rfl⟩

theorem grow0_Node (B : Nat) (w : World) (h : w.cell? ⟨B, 7, none⟩ = some (.slice none 0 0)) :
    Calls Tryz.prog 77 #[.pointer (some ⟨B, 0, none⟩)] w fun e w' => e = .returned (.tuple #[]) ∧ w = w' := by
  go_enter Tryz.func77, Tryz.ntmps77
  go_wp2
  refine wp_loop_rounds 1 ?_
  rw [rounds_succ]
  go_wp2
  go_end0
  exact ⟨rfl, rfl⟩

theorem look0_Node (B : Nat) (w : World) (h : w.cell? ⟨B, 7, none⟩ = some (.slice none 0 0)) :
    Calls Tryz.prog 92 #[.pointer (some ⟨B, 0, none⟩)] w fun e w' => e = .returned (.bool true) ∧ w = w' := by
  go_enter Tryz.func92, Tryz.ntmps92
  go_wp2
  refine wp_loop_rounds 1 ?_
  rw [rounds_succ]
  go_wp2
  go_ret
  exact ⟨rfl, rfl⟩

theorem fill0_Step (B : Nat) (w : World) (h : w.cell? ⟨B, 8, none⟩ = some (.slice none 0 0)) :
    Calls Tryz.prog 63 #[.pointer (some ⟨B, 0, none⟩)] w fun e w' => e = .returned (.tuple #[]) ∧ w = w' := by
  go_enter Tryz.func63, Tryz.ntmps63
  go_wp2
  refine wp_loop_rounds 1 ?_
  rw [rounds_succ]
  go_wp2
  go_end0
  exact ⟨rfl, rfl⟩

theorem grow0_Step (B : Nat) (w : World) (h : w.cell? ⟨B, 8, none⟩ = some (.slice none 0 0)) :
    Calls Tryz.prog 78 #[.pointer (some ⟨B, 0, none⟩)] w fun e w' => e = .returned (.tuple #[]) ∧ w = w' := by
  go_enter Tryz.func78, Tryz.ntmps78
  go_wp2
  refine wp_loop_rounds 1 ?_
  rw [rounds_succ]
  go_wp2
  go_end0
  exact ⟨rfl, rfl⟩

theorem look0_Step (B : Nat) (w : World) (h : w.cell? ⟨B, 8, none⟩ = some (.slice none 0 0)) :
    Calls Tryz.prog 93 #[.pointer (some ⟨B, 0, none⟩)] w fun e w' => e = .returned (.bool true) ∧ w = w' := by
  go_enter Tryz.func93, Tryz.ntmps93
  go_wp2
  refine wp_loop_rounds 1 ?_
  rw [rounds_succ]
  go_wp2
  go_ret
  exact ⟨rfl, rfl⟩

theorem fill0_Cost (B : Nat) (w : World) (h : w.cell? ⟨B, 9, none⟩ = some (.slice none 0 0)) :
    Calls Tryz.prog 64 #[.pointer (some ⟨B, 0, none⟩)] w fun e w' => e = .returned (.tuple #[]) ∧ w = w' := by
  go_enter Tryz.func64, Tryz.ntmps64
  go_wp2
  refine wp_loop_rounds 1 ?_
  rw [rounds_succ]
  go_wp2
  go_end0
  exact ⟨rfl, rfl⟩

theorem grow0_Cost (B : Nat) (w : World) (h : w.cell? ⟨B, 9, none⟩ = some (.slice none 0 0)) :
    Calls Tryz.prog 79 #[.pointer (some ⟨B, 0, none⟩)] w fun e w' => e = .returned (.tuple #[]) ∧ w = w' := by
  go_enter Tryz.func79, Tryz.ntmps79
  go_wp2
  refine wp_loop_rounds 1 ?_
  rw [rounds_succ]
  go_wp2
  go_end0
  exact ⟨rfl, rfl⟩

theorem look0_Cost (B : Nat) (w : World) (h : w.cell? ⟨B, 9, none⟩ = some (.slice none 0 0)) :
    Calls Tryz.prog 94 #[.pointer (some ⟨B, 0, none⟩)] w fun e w' => e = .returned (.bool true) ∧ w = w' := by
  go_enter Tryz.func94, Tryz.ntmps94
  go_wp2
  refine wp_loop_rounds 1 ?_
  rw [rounds_succ]
  go_wp2
  go_ret
  exact ⟨rfl, rfl⟩

theorem fill0_Record (B : Nat) (w : World) (h : w.cell? ⟨B, 10, none⟩ = some (.slice none 0 0)) :
    Calls Tryz.prog 65 #[.pointer (some ⟨B, 0, none⟩)] w fun e w' => e = .returned (.tuple #[]) ∧ w = w' := by
  go_enter Tryz.func65, Tryz.ntmps65
  go_wp2
  refine wp_loop_rounds 1 ?_
  rw [rounds_succ]
  go_wp2
  go_end0
  exact ⟨rfl, rfl⟩

theorem grow0_Record (B : Nat) (w : World) (h : w.cell? ⟨B, 10, none⟩ = some (.slice none 0 0)) :
    Calls Tryz.prog 80 #[.pointer (some ⟨B, 0, none⟩)] w fun e w' => e = .returned (.tuple #[]) ∧ w = w' := by
  go_enter Tryz.func80, Tryz.ntmps80
  go_wp2
  refine wp_loop_rounds 1 ?_
  rw [rounds_succ]
  go_wp2
  go_end0
  exact ⟨rfl, rfl⟩

theorem look0_Record (B : Nat) (w : World) (h : w.cell? ⟨B, 10, none⟩ = some (.slice none 0 0)) :
    Calls Tryz.prog 95 #[.pointer (some ⟨B, 0, none⟩)] w fun e w' => e = .returned (.bool true) ∧ w = w' := by
  go_enter Tryz.func95, Tryz.ntmps95
  go_wp2
  refine wp_loop_rounds 1 ?_
  rw [rounds_succ]
  go_wp2
  go_ret
  exact ⟨rfl, rfl⟩

theorem fill0_Place (B : Nat) (w : World) (h : w.cell? ⟨B, 11, none⟩ = some (.slice none 0 0)) :
    Calls Tryz.prog 66 #[.pointer (some ⟨B, 0, none⟩)] w fun e w' => e = .returned (.tuple #[]) ∧ w = w' := by
  go_enter Tryz.func66, Tryz.ntmps66
  go_wp2
  refine wp_loop_rounds 1 ?_
  rw [rounds_succ]
  go_wp2
  go_end0
  exact ⟨rfl, rfl⟩

theorem grow0_Place (B : Nat) (w : World) (h : w.cell? ⟨B, 11, none⟩ = some (.slice none 0 0)) :
    Calls Tryz.prog 81 #[.pointer (some ⟨B, 0, none⟩)] w fun e w' => e = .returned (.tuple #[]) ∧ w = w' := by
  go_enter Tryz.func81, Tryz.ntmps81
  go_wp2
  refine wp_loop_rounds 1 ?_
  rw [rounds_succ]
  go_wp2
  go_end0
  exact ⟨rfl, rfl⟩

theorem look0_Place (B : Nat) (w : World) (h : w.cell? ⟨B, 11, none⟩ = some (.slice none 0 0)) :
    Calls Tryz.prog 96 #[.pointer (some ⟨B, 0, none⟩)] w fun e w' => e = .returned (.bool true) ∧ w = w' := by
  go_enter Tryz.func96, Tryz.ntmps96
  go_wp2
  refine wp_loop_rounds 1 ?_
  rw [rounds_succ]
  go_wp2
  go_ret
  exact ⟨rfl, rfl⟩

theorem fill0_Ask (B : Nat) (w : World) (h : w.cell? ⟨B, 12, none⟩ = some (.slice none 0 0)) :
    Calls Tryz.prog 67 #[.pointer (some ⟨B, 0, none⟩)] w fun e w' => e = .returned (.tuple #[]) ∧ w = w' := by
  go_enter Tryz.func67, Tryz.ntmps67
  go_wp2
  refine wp_loop_rounds 1 ?_
  rw [rounds_succ]
  go_wp2
  go_end0
  exact ⟨rfl, rfl⟩

theorem grow0_Ask (B : Nat) (w : World) (h : w.cell? ⟨B, 12, none⟩ = some (.slice none 0 0)) :
    Calls Tryz.prog 82 #[.pointer (some ⟨B, 0, none⟩)] w fun e w' => e = .returned (.tuple #[]) ∧ w = w' := by
  go_enter Tryz.func82, Tryz.ntmps82
  go_wp2
  refine wp_loop_rounds 1 ?_
  rw [rounds_succ]
  go_wp2
  go_end0
  exact ⟨rfl, rfl⟩

theorem look0_Ask (B : Nat) (w : World) (h : w.cell? ⟨B, 12, none⟩ = some (.slice none 0 0)) :
    Calls Tryz.prog 97 #[.pointer (some ⟨B, 0, none⟩)] w fun e w' => e = .returned (.bool true) ∧ w = w' := by
  go_enter Tryz.func97, Tryz.ntmps97
  go_wp2
  refine wp_loop_rounds 1 ?_
  rw [rounds_succ]
  go_wp2
  go_ret
  exact ⟨rfl, rfl⟩

theorem fill0_Done (B : Nat) (w : World) (h : w.cell? ⟨B, 13, none⟩ = some (.slice none 0 0)) :
    Calls Tryz.prog 68 #[.pointer (some ⟨B, 0, none⟩)] w fun e w' => e = .returned (.tuple #[]) ∧ w = w' := by
  go_enter Tryz.func68, Tryz.ntmps68
  go_wp2
  refine wp_loop_rounds 1 ?_
  rw [rounds_succ]
  go_wp2
  go_end0
  exact ⟨rfl, rfl⟩

theorem grow0_Done (B : Nat) (w : World) (h : w.cell? ⟨B, 13, none⟩ = some (.slice none 0 0)) :
    Calls Tryz.prog 83 #[.pointer (some ⟨B, 0, none⟩)] w fun e w' => e = .returned (.tuple #[]) ∧ w = w' := by
  go_enter Tryz.func83, Tryz.ntmps83
  go_wp2
  refine wp_loop_rounds 1 ?_
  rw [rounds_succ]
  go_wp2
  go_end0
  exact ⟨rfl, rfl⟩

theorem look0_Done (B : Nat) (w : World) (h : w.cell? ⟨B, 13, none⟩ = some (.slice none 0 0)) :
    Calls Tryz.prog 98 #[.pointer (some ⟨B, 0, none⟩)] w fun e w' => e = .returned (.bool true) ∧ w = w' := by
  go_enter Tryz.func98, Tryz.ntmps98
  go_wp2
  refine wp_loop_rounds 1 ?_
  rw [rounds_succ]
  go_wp2
  go_ret
  exact ⟨rfl, rfl⟩

theorem fill0_Grid (B : Nat) (w : World) (h : w.cell? ⟨B, 14, none⟩ = some (.slice none 0 0)) :
    Calls Tryz.prog 69 #[.pointer (some ⟨B, 0, none⟩)] w fun e w' => e = .returned (.tuple #[]) ∧ w = w' := by
  go_enter Tryz.func69, Tryz.ntmps69
  go_wp2
  refine wp_loop_rounds 1 ?_
  rw [rounds_succ]
  go_wp2
  go_end0
  exact ⟨rfl, rfl⟩

theorem grow0_Grid (B : Nat) (w : World) (h : w.cell? ⟨B, 14, none⟩ = some (.slice none 0 0)) :
    Calls Tryz.prog 84 #[.pointer (some ⟨B, 0, none⟩)] w fun e w' => e = .returned (.tuple #[]) ∧ w = w' := by
  go_enter Tryz.func84, Tryz.ntmps84
  go_wp2
  refine wp_loop_rounds 1 ?_
  rw [rounds_succ]
  go_wp2
  go_end0
  exact ⟨rfl, rfl⟩

theorem look0_Grid (B : Nat) (w : World) (h : w.cell? ⟨B, 14, none⟩ = some (.slice none 0 0)) :
    Calls Tryz.prog 99 #[.pointer (some ⟨B, 0, none⟩)] w fun e w' => e = .returned (.bool true) ∧ w = w' := by
  go_enter Tryz.func99, Tryz.ntmps99
  go_wp2
  refine wp_loop_rounds 1 ?_
  rw [rounds_succ]
  go_wp2
  go_ret
  exact ⟨rfl, rfl⟩

theorem fill0_List (B : Nat) (w : World) (h : w.cell? ⟨B, 15, none⟩ = some (.slice none 0 0)) :
    Calls Tryz.prog 70 #[.pointer (some ⟨B, 0, none⟩)] w fun e w' => e = .returned (.tuple #[]) ∧ w = w' := by
  go_enter Tryz.func70, Tryz.ntmps70
  go_wp2
  refine wp_loop_rounds 1 ?_
  rw [rounds_succ]
  go_wp2
  go_end0
  exact ⟨rfl, rfl⟩

theorem grow0_List (B : Nat) (w : World) (h : w.cell? ⟨B, 15, none⟩ = some (.slice none 0 0)) :
    Calls Tryz.prog 85 #[.pointer (some ⟨B, 0, none⟩)] w fun e w' => e = .returned (.tuple #[]) ∧ w = w' := by
  go_enter Tryz.func85, Tryz.ntmps85
  go_wp2
  refine wp_loop_rounds 1 ?_
  rw [rounds_succ]
  go_wp2
  go_end0
  exact ⟨rfl, rfl⟩

theorem look0_List (B : Nat) (w : World) (h : w.cell? ⟨B, 15, none⟩ = some (.slice none 0 0)) :
    Calls Tryz.prog 100 #[.pointer (some ⟨B, 0, none⟩)] w fun e w' => e = .returned (.bool true) ∧ w = w' := by
  go_enter Tryz.func100, Tryz.ntmps100
  go_wp2
  refine wp_loop_rounds 1 ?_
  rw [rounds_succ]
  go_wp2
  go_ret
  exact ⟨rfl, rfl⟩

end

section
open Go.RowKit

theorem rows1_keep {T : List TypeId} {w w' : World} {base : Nat} {e : TypeId} {its : List It} (h : Rows1 w base e its) (hk : KeepT T w w') (he : e ∉ T) : Rows1 w' base e its :=
  ⟨fun i t ht => by obtain ⟨xs, hx⟩ := h.own i t ht; exact ⟨xs, hk.own hx he⟩, h.apart⟩

/-- Each list that is held is full of its mark. -/
def Full (w : World) (base : Nat) (e : TypeId) (mk : Nat → Value) (its : List It) : Prop := ∀ (i : Nat) (t : It), its[i]? = some t → w.ownsRow base e 1 t.l t.n (List.replicate t.n (mk t.m))

theorem full_keep {T : List TypeId} {w w' : World} {base : Nat} {e : TypeId} {mk : Nat → Value} {its : List It} (h : Full w base e mk its) (hk : KeepT T w w') (he : e ∉ T) : Full w' base e mk its :=
  fun i t ht => hk.own (h i t ht) he

/-- Each list that is held, and the longer one behind it, are full of their mark. -/
structure Long (w : World) (base : Nat) (e : TypeId) (mk : Nat → Value) (its0 its : List It) : Prop where
  len : its.length = its0.length
  all : ∀ (i : Nat) (t : It), its[i]? = some t → t.n2 = t.n + 40 ∧ Lies w t.A t.n (List.replicate t.n (mk t.m)) ∧ w.ownsRow base e 1 t.long (t.n + 40) (List.replicate (t.n + 40) (mk t.m)) ∧ ∀ g, t.l.ownBlock = some g → ∃ cur, w.heap[g]? = some (.cells cur e (0, 0))
  same : ∀ (i : Nat) (t t0 : It), its[i]? = some t → its0[i]? = some t0 → t.A = t0.A ∧ t.n = t0.n ∧ t.c = t0.c ∧ t.m = t0.m

theorem Long.of {w wr : World} {base : Nat} {e hT : TypeId} {mk : Nat → Value} {H : Option Addr} {c : Nat} {its0 its : List It} (h : GrowTo w wr base e hT mk H c its0 its its.length) : Long wr base e mk its0 its :=
  ⟨h.len, fun i t ht => by
    obtain ⟨a, b, c, _, d⟩ := h.done i t (List.getElem?_eq_some_iff.1 ht).1 ht
    exact ⟨a, b, c, d⟩, h.same⟩

theorem long_keep {T : List TypeId} {w w' : World} {base : Nat} {e : TypeId} {mk : Nat → Value} {its0 its : List It} (h : Long w base e mk its0 its) (hk : KeepT T w w') (he : e ∉ T) : Long w' base e mk its0 its :=
  ⟨h.len, fun i t ht => by
    obtain ⟨a, b, c, d⟩ := h.all i t ht
    refine ⟨a, b.keepT (c := t.c) hk d he, hk.own c he, fun g hg => ?_⟩
    obtain ⟨cur, hc⟩ := d g hg
    exact ⟨cur, hk.blk hc he⟩, h.same⟩

theorem long_look {w : World} {base : Nat} {e : TypeId} {mk : Nat → Value} {its0 its : List It} (h : Long w base e mk its0 its) (hs : ∀ (i : Nat) (t : It), its0[i]? = some t → t.n ≤ 1073741824 ∧ t.m ≤ 1048576) :
    ∀ (i : Nat) (t : It), its[i]? = some t → t.n ≤ 1073741824 ∧ t.m ≤ 1048576 ∧ t.n2 = t.n + 40 ∧ Lies w t.A t.n (List.replicate t.n (mk t.m)) ∧ Lies w t.A2 (t.n + 40) (List.replicate (t.n + 40) (mk t.m)) := by
  intro i t ht
  obtain ⟨a, b, c, _⟩ := h.all i t ht
  obtain ⟨t0, ht0⟩ : ∃ t0, its0[i]? = some t0 := ⟨its0[i]'(by rw [← h.len]; exact (List.getElem?_eq_some_iff.1 ht).1), List.getElem?_eq_getElem _⟩
  obtain ⟨_, e2, _, e4⟩ := h.same i t t0 ht ht0
  obtain ⟨s1, s2⟩ := hs i t0 ht0
  refine ⟨e2 ▸ s1, e4 ▸ s2, a, b, ?_⟩
  rw [It.long, a] at c
  exact lies_of_own c

theorem add_Int (B base N c n cc : Nat) (H A : Option Addr) (L : List Value) (its : List It) (w : World)
    (hB : w.heap[B]? = some (.cells L.toArray 53 (0, 0))) (hL0 : L[0]? = some (.int .i64 (N : Int))) (hL : L[2]? = some (.slice H its.length c))
    (hH : w.ownsRow base 147 3 (.slice H its.length c) its.length (held its)) (hb : base ≤ w.heap.size) (hbB : base ≤ B) (hN : N ≤ 1048576) (hn : its.length ≤ 1048576) :
    Calls Tryz.prog 21 #[.pointer (some ⟨B, 0, none⟩), .slice A n cc] w fun e w' => e = .returned (.tuple #[]) ∧
      ∃ H' c', KeptIn w w' B base 53 147 L 2 N its A n cc H' c' := by
  have HC := hide (keep_Int B base N c n cc H A L its w hB hL0 hL hH hb hbB hN hn)
  clear hB hL0 hL hH
  go_enter Tryz.func21, Tryz.ntmps21
  go_wp2_with fail
  refine Calls.mono HC.out ?_
  rintro e w1 ⟨rfl, h⟩
  have HK := hide h
  clear h
  go_wp2
  go_end0
  exact ⟨rfl, HK.out⟩

theorem add_Number (B base N c n cc : Nat) (H A : Option Addr) (L : List Value) (its : List It) (w : World)
    (hB : w.heap[B]? = some (.cells L.toArray 53 (0, 0))) (hL0 : L[0]? = some (.int .i64 (N : Int))) (hL : L[3]? = some (.slice H its.length c))
    (hH : w.ownsRow base 153 3 (.slice H its.length c) its.length (held its)) (hb : base ≤ w.heap.size) (hbB : base ≤ B) (hN : N ≤ 1048576) (hn : its.length ≤ 1048576) :
    Calls Tryz.prog 128 #[.pointer (some ⟨B, 0, none⟩), .slice A n cc] w fun e w' => e = .returned (.tuple #[]) ∧
      ∃ H' c', KeptIn w w' B base 53 153 L 3 N its A n cc H' c' := by
  have HC := hide (keep_Number B base N c n cc H A L its w hB hL0 hL hH hb hbB hN hn)
  clear hB hL0 hL hH
  go_enter Tryz.func128, Tryz.ntmps128
  go_wp2_with fail
  refine Calls.mono HC.out ?_
  rintro e w1 ⟨rfl, h⟩
  have HK := hide h
  clear h
  go_wp2
  go_end0
  exact ⟨rfl, HK.out⟩

def bookCells (N : Nat) (HByte : Option Addr) (cByte : Nat) (iByte : List It) (HInt : Option Addr) (cInt : Nat) (iInt : List It) (HNumber : Option Addr) (cNumber : Nat) (iNumber : List It) : List Value := [.int .i64 (N : Int), .slice HByte iByte.length cByte, .slice HInt iInt.length cInt, .slice HNumber iNumber.length cNumber, .slice none 0 0, .slice none 0 0, .slice none 0 0, .slice none 0 0, .slice none 0 0, .slice none 0 0, .slice none 0 0, .slice none 0 0, .slice none 0 0, .slice none 0 0, .slice none 0 0, .slice none 0 0]

structure BkAt (w : World) (B base N : Nat) (HByte : Option Addr) (cByte : Nat) (iByte : List It) (HInt : Option Addr) (cInt : Nat) (iInt : List It) (HNumber : Option Addr) (cNumber : Nat) (iNumber : List It) : Prop where
  blk : w.heap[B]? = some (.cells (bookCells N HByte cByte iByte HInt cInt iInt HNumber cNumber iNumber).toArray 53 (0, 0))
  rowByte : w.ownsRow base 150 3 (.slice HByte iByte.length cByte) iByte.length (held iByte)
  listsByte : Rows1 w base 5 iByte
  manyByte : iByte.length ≤ N
  smallByte : ∀ (i : Nat) (t : It), iByte[i]? = some t → t.n ≤ 1073741824 ∧ t.m ≤ 1048576
  rowInt : w.ownsRow base 147 3 (.slice HInt iInt.length cInt) iInt.length (held iInt)
  listsInt : Rows1 w base 3 iInt
  manyInt : iInt.length ≤ N
  smallInt : ∀ (i : Nat) (t : It), iInt[i]? = some t → t.n ≤ 1073741824 ∧ t.m ≤ 1048576
  rowNumber : w.ownsRow base 153 3 (.slice HNumber iNumber.length cNumber) iNumber.length (held iNumber)
  listsNumber : Rows1 w base 21 iNumber
  manyNumber : iNumber.length ≤ N
  smallNumber : ∀ (i : Nat) (t : It), iNumber[i]? = some t → t.n ≤ 1073741824 ∧ t.m ≤ 1048576
  baseW : base ≤ w.heap.size
  baseB : base ≤ B
  few : N ≤ 1048000

theorem BkAt.addByte {w w' : World} {B base N : Nat} {HByte : Option Addr} {cByte : Nat} {iByte : List It} {HInt : Option Addr} {cInt : Nat} {iInt : List It} {HNumber : Option Addr} {cNumber : Nat} {iNumber : List It} {A H' : Option Addr} {n c c' : Nat} {xs : List Value} (h : BkAt w B base N HByte cByte iByte HInt cInt iInt HNumber cNumber iNumber)
    (hk : KeptIn w w' B base 53 150 (bookCells N HByte cByte iByte HInt cInt iInt HNumber cNumber iNumber) 1 N iByte A n c H' c') (ho : w.ownsRow base 5 1 (.slice A n c) n xs) (hn : n ≤ 1073741824) (hN : N + 1 ≤ 1048000)
    (ha : ∀ (i : Nat) (t : It), iByte[i]? = some t → (t.l.ownBlock = none ∨ t.l.ownBlock ≠ (Value.slice A n c).ownBlock) ∧ ((Value.slice A n c).ownBlock = none ∨ (Value.slice A n c).ownBlock ≠ t.l.ownBlock)) :
    BkAt w' B base (N + 1) H' c' (iByte ++ [⟨A, n, c, none, 0, 0, N + 1⟩]) HInt cInt iInt HNumber cNumber iNumber := by
  have hat : ∀ (i : Nat) (t : It), (iByte ++ [⟨A, n, c, none, 0, 0, N + 1⟩])[i]? = some t → iByte[i]? = some t ∨ (i = iByte.length ∧ t = ⟨A, n, c, none, 0, 0, N + 1⟩) := by
    intro i t ht
    by_cases hi : i < iByte.length
    · rw [List.getElem?_append_left hi] at ht; exact .inl ht
    · rw [List.getElem?_append_right (by omega)] at ht
      have h0 : i - iByte.length = 0 := by have := (List.getElem?_eq_some_iff.1 ht).1; simp at this; omega
      rw [h0] at ht
      simp at ht
      exact .inr ⟨by omega, ht.symm⟩
  have hlt : ∀ (i : Nat) (t : It), iByte[i]? = some t → i < iByte.length := fun i t ht => (List.getElem?_eq_some_iff.1 ht).1
  refine ⟨?_, ?_, ?_, ?_, ?_, hk.keep.own h.rowInt (by decide), rows1_keep h.listsInt hk.keep (by decide), Nat.le_succ_of_le h.manyInt, h.smallInt, hk.keep.own h.rowNumber (by decide), rows1_keep h.listsNumber hk.keep (by decide), Nat.le_succ_of_le h.manyNumber, h.smallNumber, Nat.le_trans h.baseW hk.keep.size, h.baseB, hN⟩
  · have hb := hk.blk
    simpa [bookCells] using hb
  · have hr := hk.row
    simpa using hr
  · refine ⟨fun i t ht => ?_, fun i j t u hij ht hu => ?_⟩
    · rcases hat i t ht with h1 | ⟨_, rfl⟩
      · obtain ⟨ys, hy⟩ := h.listsByte.own i t h1
        exact ⟨ys, hk.keep.own hy (by decide)⟩
      · exact ⟨xs, hk.keep.own ho (by decide)⟩
    · rcases hat i t ht with h1 | ⟨e1, rfl⟩
      · rcases hat j u hu with h2 | ⟨e2, rfl⟩
        · exact h.listsByte.apart i j t u hij h1 h2
        · exact (ha i t h1).1
      · rcases hat j u hu with h2 | ⟨e2, rfl⟩
        · exact (ha j u h2).2
        · omega
  · have := h.manyByte
    simp
    omega
  · intro i t ht
    rcases hat i t ht with h1 | ⟨_, rfl⟩
    · exact h.smallByte i t h1
    · exact ⟨hn, by show N + 1 ≤ 1048576; omega⟩

theorem BkAt.addInt {w w' : World} {B base N : Nat} {HByte : Option Addr} {cByte : Nat} {iByte : List It} {HInt : Option Addr} {cInt : Nat} {iInt : List It} {HNumber : Option Addr} {cNumber : Nat} {iNumber : List It} {A H' : Option Addr} {n c c' : Nat} {xs : List Value} (h : BkAt w B base N HByte cByte iByte HInt cInt iInt HNumber cNumber iNumber)
    (hk : KeptIn w w' B base 53 147 (bookCells N HByte cByte iByte HInt cInt iInt HNumber cNumber iNumber) 2 N iInt A n c H' c') (ho : w.ownsRow base 3 1 (.slice A n c) n xs) (hn : n ≤ 1073741824) (hN : N + 1 ≤ 1048000)
    (ha : ∀ (i : Nat) (t : It), iInt[i]? = some t → (t.l.ownBlock = none ∨ t.l.ownBlock ≠ (Value.slice A n c).ownBlock) ∧ ((Value.slice A n c).ownBlock = none ∨ (Value.slice A n c).ownBlock ≠ t.l.ownBlock)) :
    BkAt w' B base (N + 1) HByte cByte iByte H' c' (iInt ++ [⟨A, n, c, none, 0, 0, N + 1⟩]) HNumber cNumber iNumber := by
  have hat : ∀ (i : Nat) (t : It), (iInt ++ [⟨A, n, c, none, 0, 0, N + 1⟩])[i]? = some t → iInt[i]? = some t ∨ (i = iInt.length ∧ t = ⟨A, n, c, none, 0, 0, N + 1⟩) := by
    intro i t ht
    by_cases hi : i < iInt.length
    · rw [List.getElem?_append_left hi] at ht; exact .inl ht
    · rw [List.getElem?_append_right (by omega)] at ht
      have h0 : i - iInt.length = 0 := by have := (List.getElem?_eq_some_iff.1 ht).1; simp at this; omega
      rw [h0] at ht
      simp at ht
      exact .inr ⟨by omega, ht.symm⟩
  have hlt : ∀ (i : Nat) (t : It), iInt[i]? = some t → i < iInt.length := fun i t ht => (List.getElem?_eq_some_iff.1 ht).1
  refine ⟨?_, hk.keep.own h.rowByte (by decide), rows1_keep h.listsByte hk.keep (by decide), Nat.le_succ_of_le h.manyByte, h.smallByte, ?_, ?_, ?_, ?_, hk.keep.own h.rowNumber (by decide), rows1_keep h.listsNumber hk.keep (by decide), Nat.le_succ_of_le h.manyNumber, h.smallNumber, Nat.le_trans h.baseW hk.keep.size, h.baseB, hN⟩
  · have hb := hk.blk
    simpa [bookCells] using hb
  · have hr := hk.row
    simpa using hr
  · refine ⟨fun i t ht => ?_, fun i j t u hij ht hu => ?_⟩
    · rcases hat i t ht with h1 | ⟨_, rfl⟩
      · obtain ⟨ys, hy⟩ := h.listsInt.own i t h1
        exact ⟨ys, hk.keep.own hy (by decide)⟩
      · exact ⟨xs, hk.keep.own ho (by decide)⟩
    · rcases hat i t ht with h1 | ⟨e1, rfl⟩
      · rcases hat j u hu with h2 | ⟨e2, rfl⟩
        · exact h.listsInt.apart i j t u hij h1 h2
        · exact (ha i t h1).1
      · rcases hat j u hu with h2 | ⟨e2, rfl⟩
        · exact (ha j u h2).2
        · omega
  · have := h.manyInt
    simp
    omega
  · intro i t ht
    rcases hat i t ht with h1 | ⟨_, rfl⟩
    · exact h.smallInt i t h1
    · exact ⟨hn, by show N + 1 ≤ 1048576; omega⟩

theorem BkAt.addNumber {w w' : World} {B base N : Nat} {HByte : Option Addr} {cByte : Nat} {iByte : List It} {HInt : Option Addr} {cInt : Nat} {iInt : List It} {HNumber : Option Addr} {cNumber : Nat} {iNumber : List It} {A H' : Option Addr} {n c c' : Nat} {xs : List Value} (h : BkAt w B base N HByte cByte iByte HInt cInt iInt HNumber cNumber iNumber)
    (hk : KeptIn w w' B base 53 153 (bookCells N HByte cByte iByte HInt cInt iInt HNumber cNumber iNumber) 3 N iNumber A n c H' c') (ho : w.ownsRow base 21 1 (.slice A n c) n xs) (hn : n ≤ 1073741824) (hN : N + 1 ≤ 1048000)
    (ha : ∀ (i : Nat) (t : It), iNumber[i]? = some t → (t.l.ownBlock = none ∨ t.l.ownBlock ≠ (Value.slice A n c).ownBlock) ∧ ((Value.slice A n c).ownBlock = none ∨ (Value.slice A n c).ownBlock ≠ t.l.ownBlock)) :
    BkAt w' B base (N + 1) HByte cByte iByte HInt cInt iInt H' c' (iNumber ++ [⟨A, n, c, none, 0, 0, N + 1⟩]) := by
  have hat : ∀ (i : Nat) (t : It), (iNumber ++ [⟨A, n, c, none, 0, 0, N + 1⟩])[i]? = some t → iNumber[i]? = some t ∨ (i = iNumber.length ∧ t = ⟨A, n, c, none, 0, 0, N + 1⟩) := by
    intro i t ht
    by_cases hi : i < iNumber.length
    · rw [List.getElem?_append_left hi] at ht; exact .inl ht
    · rw [List.getElem?_append_right (by omega)] at ht
      have h0 : i - iNumber.length = 0 := by have := (List.getElem?_eq_some_iff.1 ht).1; simp at this; omega
      rw [h0] at ht
      simp at ht
      exact .inr ⟨by omega, ht.symm⟩
  have hlt : ∀ (i : Nat) (t : It), iNumber[i]? = some t → i < iNumber.length := fun i t ht => (List.getElem?_eq_some_iff.1 ht).1
  refine ⟨?_, hk.keep.own h.rowByte (by decide), rows1_keep h.listsByte hk.keep (by decide), Nat.le_succ_of_le h.manyByte, h.smallByte, hk.keep.own h.rowInt (by decide), rows1_keep h.listsInt hk.keep (by decide), Nat.le_succ_of_le h.manyInt, h.smallInt, ?_, ?_, ?_, ?_, Nat.le_trans h.baseW hk.keep.size, h.baseB, hN⟩
  · have hb := hk.blk
    simpa [bookCells] using hb
  · have hr := hk.row
    simpa using hr
  · refine ⟨fun i t ht => ?_, fun i j t u hij ht hu => ?_⟩
    · rcases hat i t ht with h1 | ⟨_, rfl⟩
      · obtain ⟨ys, hy⟩ := h.listsNumber.own i t h1
        exact ⟨ys, hk.keep.own hy (by decide)⟩
      · exact ⟨xs, hk.keep.own ho (by decide)⟩
    · rcases hat i t ht with h1 | ⟨e1, rfl⟩
      · rcases hat j u hu with h2 | ⟨e2, rfl⟩
        · exact h.listsNumber.apart i j t u hij h1 h2
        · exact (ha i t h1).1
      · rcases hat j u hu with h2 | ⟨e2, rfl⟩
        · exact (ha j u h2).2
        · omega
  · have := h.manyNumber
    simp
    omega
  · intro i t ht
    rcases hat i t ht with h1 | ⟨_, rfl⟩
    · exact h.smallNumber i t h1
    · exact ⟨hn, by show N + 1 ≤ 1048576; omega⟩

set_option maxRecDepth 100000 in
set_option maxHeartbeats 4000000 in
theorem apart_any (w : World) (B base N : Nat) (HByte : Option Addr) (cByte : Nat) (iByte : List It) (HInt : Option Addr) (cInt : Nat) (iInt : List It) (HNumber : Option Addr) (cNumber : Nat) (iNumber : List It) (h : BkAt w B base N HByte cByte iByte HInt cInt iInt HNumber cNumber iNumber) :
    Calls Tryz.prog 22 #[.pointer (some ⟨B, 0, none⟩)] w fun e w' => e = .returned (.bool true) ∧ Below base w w' := by
  have hbase := h.baseW
  have HBK0 := hide h.blk
  have HRByte0 := hide h.rowByte
  have HFByte0 := hide h.listsByte
  have HSByte := hide h.smallByte
  have hmByte : iByte.length ≤ 1048576 := by have := h.manyByte; have := h.few; omega
  have HRInt0 := hide h.rowInt
  have HFInt0 := hide h.listsInt
  have HSInt := hide h.smallInt
  have hmInt : iInt.length ≤ 1048576 := by have := h.manyInt; have := h.few; omega
  have HRNumber0 := hide h.rowNumber
  have HFNumber0 := hide h.listsNumber
  have HSNumber := hide h.smallNumber
  have hmNumber : iNumber.length ≤ 1048576 := by have := h.manyNumber; have := h.few; omega
  have HBB0 : Hid (Below base w w) := hide (Below.refl _ _)
  have hsz0 : base ≤ w.heap.size := hbase
  clear h hbase
  obtain ⟨w0, hw0⟩ : ∃ w0, w0 = w := ⟨_, rfl⟩
  have HW0 := hide hw0
  go_enter Tryz.func22, Tryz.ntmps22
  clear hw0 HW0 w0
  go_wp2_with fail
  refine (fill_Byte B base cByte HByte _ iByte _ HBK0.out rfl HRByte0.out HFByte0.out hsz0 hmByte (fun i t ht => ⟨Nat.le_trans (HSByte.out i t ht).1 (by omega), (HSByte.out i t ht).2⟩)).mono ?_
  rintro e w1 ⟨rfl, hF⟩
  have HAByte := hide HFByte0.out.apart
  have HBK1 := hide (hF.keep.blk HBK0.out (by decide))
  have HRByte1 := hide (hF.keep.own HRByte0.out (by decide))
  have HFByte1 : Hid (Full w1 base 5 mk_Byte iByte) := hide (fun i t ht => hF.done i t (List.getElem?_eq_some_iff.1 ht).1 ht)
  have HRInt1 := hide (hF.keep.own HRInt0.out (by decide))
  have HFInt1 := hide (rows1_keep HFInt0.out hF.keep (by decide))
  have HRNumber1 := hide (hF.keep.own HRNumber0.out (by decide))
  have HFNumber1 := hide (rows1_keep HFNumber0.out hF.keep (by decide))
  have HBB1 := hide (HBB0.out.trans hF.below)
  have hsz1 : base ≤ w1.heap.size := Nat.le_trans hsz0 hF.keep.size
  clear hF HRByte0 HFByte0 HRInt0 HFInt0 HRNumber0 HFNumber0 HBK0 HBB0
  go_wp2_with fail
  refine (fill_Int B base cInt HInt _ iInt _ HBK1.out rfl HRInt1.out HFInt1.out hsz1 hmInt (fun i t ht => ⟨Nat.le_trans (HSInt.out i t ht).1 (by omega), (HSInt.out i t ht).2⟩)).mono ?_
  rintro e w2 ⟨rfl, hF⟩
  have HAInt := hide HFInt1.out.apart
  have HBK2 := hide (hF.keep.blk HBK1.out (by decide))
  have HRByte2 := hide (hF.keep.own HRByte1.out (by decide))
  have HFByte2 := hide (full_keep HFByte1.out hF.keep (by decide))
  have HRInt2 := hide (hF.keep.own HRInt1.out (by decide))
  have HFInt2 : Hid (Full w2 base 3 mk_Int iInt) := hide (fun i t ht => hF.done i t (List.getElem?_eq_some_iff.1 ht).1 ht)
  have HRNumber2 := hide (hF.keep.own HRNumber1.out (by decide))
  have HFNumber2 := hide (rows1_keep HFNumber1.out hF.keep (by decide))
  have HBB2 := hide (HBB1.out.trans hF.below)
  have hsz2 : base ≤ w2.heap.size := Nat.le_trans hsz1 hF.keep.size
  clear hF HRByte1 HFByte1 HRInt1 HFInt1 HRNumber1 HFNumber1 HBK1 HBB1
  go_wp2_with fail
  refine (fill_Number B base cNumber HNumber _ iNumber _ HBK2.out rfl HRNumber2.out HFNumber2.out hsz2 hmNumber (fun i t ht => ⟨Nat.le_trans (HSNumber.out i t ht).1 (by omega), (HSNumber.out i t ht).2⟩)).mono ?_
  rintro e w3 ⟨rfl, hF⟩
  have HANumber := hide HFNumber2.out.apart
  have HBK3 := hide (hF.keep.blk HBK2.out (by decide))
  have HRByte3 := hide (hF.keep.own HRByte2.out (by decide))
  have HFByte3 := hide (full_keep HFByte2.out hF.keep (by decide))
  have HRInt3 := hide (hF.keep.own HRInt2.out (by decide))
  have HFInt3 := hide (full_keep HFInt2.out hF.keep (by decide))
  have HRNumber3 := hide (hF.keep.own HRNumber2.out (by decide))
  have HFNumber3 : Hid (Full w3 base 21 mk_Number iNumber) := hide (fun i t ht => hF.done i t (List.getElem?_eq_some_iff.1 ht).1 ht)
  have HBB3 := hide (HBB2.out.trans hF.below)
  have hsz3 : base ≤ w3.heap.size := Nat.le_trans hsz2 hF.keep.size
  clear hF HRByte2 HFByte2 HRInt2 HFInt2 HRNumber2 HFNumber2 HBK2 HBB2
  go_wp2_with fail
  refine (fill0_Id B _ (cell_blk HBK3.out 4)).mono ?_
  rintro e w' ⟨rfl, rfl⟩
  go_wp2_with fail
  refine (fill0_Text B _ (cell_blk HBK3.out 5)).mono ?_
  rintro e w' ⟨rfl, rfl⟩
  go_wp2_with fail
  refine (fill0_Tensor B _ (cell_blk HBK3.out 6)).mono ?_
  rintro e w' ⟨rfl, rfl⟩
  go_wp2_with fail
  refine (fill0_Node B _ (cell_blk HBK3.out 7)).mono ?_
  rintro e w' ⟨rfl, rfl⟩
  go_wp2_with fail
  refine (fill0_Step B _ (cell_blk HBK3.out 8)).mono ?_
  rintro e w' ⟨rfl, rfl⟩
  go_wp2_with fail
  refine (fill0_Cost B _ (cell_blk HBK3.out 9)).mono ?_
  rintro e w' ⟨rfl, rfl⟩
  go_wp2_with fail
  refine (fill0_Record B _ (cell_blk HBK3.out 10)).mono ?_
  rintro e w' ⟨rfl, rfl⟩
  go_wp2_with fail
  refine (fill0_Place B _ (cell_blk HBK3.out 11)).mono ?_
  rintro e w' ⟨rfl, rfl⟩
  go_wp2_with fail
  refine (fill0_Ask B _ (cell_blk HBK3.out 12)).mono ?_
  rintro e w' ⟨rfl, rfl⟩
  go_wp2_with fail
  refine (fill0_Done B _ (cell_blk HBK3.out 13)).mono ?_
  rintro e w' ⟨rfl, rfl⟩
  go_wp2_with fail
  refine (fill0_Grid B _ (cell_blk HBK3.out 14)).mono ?_
  rintro e w' ⟨rfl, rfl⟩
  go_wp2_with fail
  refine (fill0_List B _ (cell_blk HBK3.out 15)).mono ?_
  rintro e w' ⟨rfl, rfl⟩
  go_wp2_with fail
  refine (grow_Byte B base cByte HByte _ iByte _ HBK3.out rfl (GrowTo.start (by decide) HRByte3.out HFByte3.out HAByte.out) hsz3 hmByte HSByte.out).mono ?_
  rintro e w4 ⟨rfl, jByte, hF⟩
  have HBK4 := hide (hF.keep.blk HBK3.out (by decide))
  have HRByte4 := hide hF.row
  have HFByte4 := hide (Long.of hF)
  have HRInt4 := hide (hF.keep.own HRInt3.out (by decide))
  have HFInt4 := hide (full_keep HFInt3.out hF.keep (by decide))
  have HRNumber4 := hide (hF.keep.own HRNumber3.out (by decide))
  have HFNumber4 := hide (full_keep HFNumber3.out hF.keep (by decide))
  have HBB4 := hide (HBB3.out.trans hF.below)
  have hsz4 : base ≤ w4.heap.size := Nat.le_trans hsz3 hF.keep.size
  clear hF HRByte3 HFByte3 HRInt3 HFInt3 HRNumber3 HFNumber3 HBK3 HBB3
  go_wp2_with fail
  refine (grow_Int B base cInt HInt _ iInt _ HBK4.out rfl (GrowTo.start (by decide) HRInt4.out HFInt4.out HAInt.out) hsz4 hmInt HSInt.out).mono ?_
  rintro e w5 ⟨rfl, jInt, hF⟩
  have HBK5 := hide (hF.keep.blk HBK4.out (by decide))
  have HRByte5 := hide (hF.keep.own HRByte4.out (by decide))
  have HFByte5 := hide (long_keep HFByte4.out hF.keep (by decide))
  have HRInt5 := hide hF.row
  have HFInt5 := hide (Long.of hF)
  have HRNumber5 := hide (hF.keep.own HRNumber4.out (by decide))
  have HFNumber5 := hide (full_keep HFNumber4.out hF.keep (by decide))
  have HBB5 := hide (HBB4.out.trans hF.below)
  have hsz5 : base ≤ w5.heap.size := Nat.le_trans hsz4 hF.keep.size
  clear hF HRByte4 HFByte4 HRInt4 HFInt4 HRNumber4 HFNumber4 HBK4 HBB4
  go_wp2_with fail
  refine (grow_Number B base cNumber HNumber _ iNumber _ HBK5.out rfl (GrowTo.start (by decide) HRNumber5.out HFNumber5.out HANumber.out) hsz5 hmNumber HSNumber.out).mono ?_
  rintro e w6 ⟨rfl, jNumber, hF⟩
  have HBK6 := hide (hF.keep.blk HBK5.out (by decide))
  have HRByte6 := hide (hF.keep.own HRByte5.out (by decide))
  have HFByte6 := hide (long_keep HFByte5.out hF.keep (by decide))
  have HRInt6 := hide (hF.keep.own HRInt5.out (by decide))
  have HFInt6 := hide (long_keep HFInt5.out hF.keep (by decide))
  have HRNumber6 := hide hF.row
  have HFNumber6 := hide (Long.of hF)
  have HBB6 := hide (HBB5.out.trans hF.below)
  have hsz6 : base ≤ w6.heap.size := Nat.le_trans hsz5 hF.keep.size
  clear hF HRByte5 HFByte5 HRInt5 HFInt5 HRNumber5 HFNumber5 HBK5 HBB5
  go_wp2_with fail
  refine (grow0_Id B _ (cell_blk HBK6.out 4)).mono ?_
  rintro e w' ⟨rfl, rfl⟩
  go_wp2_with fail
  refine (grow0_Text B _ (cell_blk HBK6.out 5)).mono ?_
  rintro e w' ⟨rfl, rfl⟩
  go_wp2_with fail
  refine (grow0_Tensor B _ (cell_blk HBK6.out 6)).mono ?_
  rintro e w' ⟨rfl, rfl⟩
  go_wp2_with fail
  refine (grow0_Node B _ (cell_blk HBK6.out 7)).mono ?_
  rintro e w' ⟨rfl, rfl⟩
  go_wp2_with fail
  refine (grow0_Step B _ (cell_blk HBK6.out 8)).mono ?_
  rintro e w' ⟨rfl, rfl⟩
  go_wp2_with fail
  refine (grow0_Cost B _ (cell_blk HBK6.out 9)).mono ?_
  rintro e w' ⟨rfl, rfl⟩
  go_wp2_with fail
  refine (grow0_Record B _ (cell_blk HBK6.out 10)).mono ?_
  rintro e w' ⟨rfl, rfl⟩
  go_wp2_with fail
  refine (grow0_Place B _ (cell_blk HBK6.out 11)).mono ?_
  rintro e w' ⟨rfl, rfl⟩
  go_wp2_with fail
  refine (grow0_Ask B _ (cell_blk HBK6.out 12)).mono ?_
  rintro e w' ⟨rfl, rfl⟩
  go_wp2_with fail
  refine (grow0_Done B _ (cell_blk HBK6.out 13)).mono ?_
  rintro e w' ⟨rfl, rfl⟩
  go_wp2_with fail
  refine (grow0_Grid B _ (cell_blk HBK6.out 14)).mono ?_
  rintro e w' ⟨rfl, rfl⟩
  go_wp2_with fail
  refine (grow0_List B _ (cell_blk HBK6.out 15)).mono ?_
  rintro e w' ⟨rfl, rfl⟩
  go_wp2_with fail
  refine (look_Byte B base cByte HByte _ jByte _ HBK6.out (by rw [HFByte6.out.len]; rfl) HRByte6.out (by rw [HFByte6.out.len]; exact hmByte) (long_look HFByte6.out HSByte.out)).mono ?_
  rintro e w7 ⟨rfl, hF⟩
  have hkT : KeepT [] w6 w7 := KeepT.below hF
  have HBK7 := hide (hkT.blk HBK6.out (by decide))
  have HRByte7 := hide (hkT.own HRByte6.out (by decide))
  have HFByte7 := hide (long_keep HFByte6.out hkT (by decide))
  have HRInt7 := hide (hkT.own HRInt6.out (by decide))
  have HFInt7 := hide (long_keep HFInt6.out hkT (by decide))
  have HRNumber7 := hide (hkT.own HRNumber6.out (by decide))
  have HFNumber7 := hide (long_keep HFNumber6.out hkT (by decide))
  have HBB7 := hide (HBB6.out.trans (hF.mono hsz6))
  have hsz7 : base ≤ w7.heap.size := Nat.le_trans hsz6 hF.size
  clear hF hkT HRByte6 HFByte6 HRInt6 HFInt6 HRNumber6 HFNumber6 HBK6 HBB6
  go_wp2_with fail
  refine (look_Int B base cInt HInt _ jInt _ HBK7.out (by rw [HFInt7.out.len]; rfl) HRInt7.out (by rw [HFInt7.out.len]; exact hmInt) (long_look HFInt7.out HSInt.out)).mono ?_
  rintro e w8 ⟨rfl, hF⟩
  have hkT : KeepT [] w7 w8 := KeepT.below hF
  have HBK8 := hide (hkT.blk HBK7.out (by decide))
  have HRByte8 := hide (hkT.own HRByte7.out (by decide))
  have HFByte8 := hide (long_keep HFByte7.out hkT (by decide))
  have HRInt8 := hide (hkT.own HRInt7.out (by decide))
  have HFInt8 := hide (long_keep HFInt7.out hkT (by decide))
  have HRNumber8 := hide (hkT.own HRNumber7.out (by decide))
  have HFNumber8 := hide (long_keep HFNumber7.out hkT (by decide))
  have HBB8 := hide (HBB7.out.trans (hF.mono hsz7))
  have hsz8 : base ≤ w8.heap.size := Nat.le_trans hsz7 hF.size
  clear hF hkT HRByte7 HFByte7 HRInt7 HFInt7 HRNumber7 HFNumber7 HBK7 HBB7
  go_wp2_with fail
  refine (look_Number B base cNumber HNumber _ jNumber _ HBK8.out (by rw [HFNumber8.out.len]; rfl) HRNumber8.out (by rw [HFNumber8.out.len]; exact hmNumber) (long_look HFNumber8.out HSNumber.out)).mono ?_
  rintro e w9 ⟨rfl, hF⟩
  have hkT : KeepT [] w8 w9 := KeepT.below hF
  have HBK9 := hide (hkT.blk HBK8.out (by decide))
  have HRByte9 := hide (hkT.own HRByte8.out (by decide))
  have HFByte9 := hide (long_keep HFByte8.out hkT (by decide))
  have HRInt9 := hide (hkT.own HRInt8.out (by decide))
  have HFInt9 := hide (long_keep HFInt8.out hkT (by decide))
  have HRNumber9 := hide (hkT.own HRNumber8.out (by decide))
  have HFNumber9 := hide (long_keep HFNumber8.out hkT (by decide))
  have HBB9 := hide (HBB8.out.trans (hF.mono hsz8))
  have hsz9 : base ≤ w9.heap.size := Nat.le_trans hsz8 hF.size
  clear hF hkT HRByte8 HFByte8 HRInt8 HFInt8 HRNumber8 HFNumber8 HBK8 HBB8
  go_wp2_with fail
  refine (look0_Id B _ (cell_blk HBK9.out 4)).mono ?_
  rintro e w' ⟨rfl, rfl⟩
  go_wp2_with fail
  refine (look0_Text B _ (cell_blk HBK9.out 5)).mono ?_
  rintro e w' ⟨rfl, rfl⟩
  go_wp2_with fail
  refine (look0_Tensor B _ (cell_blk HBK9.out 6)).mono ?_
  rintro e w' ⟨rfl, rfl⟩
  go_wp2_with fail
  refine (look0_Node B _ (cell_blk HBK9.out 7)).mono ?_
  rintro e w' ⟨rfl, rfl⟩
  go_wp2_with fail
  refine (look0_Step B _ (cell_blk HBK9.out 8)).mono ?_
  rintro e w' ⟨rfl, rfl⟩
  go_wp2_with fail
  refine (look0_Cost B _ (cell_blk HBK9.out 9)).mono ?_
  rintro e w' ⟨rfl, rfl⟩
  go_wp2_with fail
  refine (look0_Record B _ (cell_blk HBK9.out 10)).mono ?_
  rintro e w' ⟨rfl, rfl⟩
  go_wp2_with fail
  refine (look0_Place B _ (cell_blk HBK9.out 11)).mono ?_
  rintro e w' ⟨rfl, rfl⟩
  go_wp2_with fail
  refine (look0_Ask B _ (cell_blk HBK9.out 12)).mono ?_
  rintro e w' ⟨rfl, rfl⟩
  go_wp2_with fail
  refine (look0_Done B _ (cell_blk HBK9.out 13)).mono ?_
  rintro e w' ⟨rfl, rfl⟩
  go_wp2_with fail
  refine (look0_Grid B _ (cell_blk HBK9.out 14)).mono ?_
  rintro e w' ⟨rfl, rfl⟩
  go_wp2_with fail
  refine (look0_List B _ (cell_blk HBK9.out 15)).mono ?_
  rintro e w' ⟨rfl, rfl⟩
  go_wp2
  go_ret
  exact ⟨rfl, HBB9.out⟩

end

section
open Go.RowKit
set_option linter.unusedVariables false
set_option linter.unusedSimpArgs false

theorem BkAt.below {w w' : World} {B base N : Nat} {HByte : Option Addr} {cByte : Nat} {iByte : List It} {HInt : Option Addr} {cInt : Nat} {iInt : List It} {HNumber : Option Addr} {cNumber : Nat} {iNumber : List It} (h : BkAt w B base N HByte cByte iByte HInt cInt iInt HNumber cNumber iNumber) (hb : Below w.heap.size w w') :
    BkAt w' B base N HByte cByte iByte HInt cInt iInt HNumber cNumber iNumber :=
  have k : KeepT [] w w' := KeepT.below hb
  ⟨k.blk h.blk (by simp), k.own h.rowByte (by simp), rows1_keep h.listsByte k (by simp), h.manyByte, h.smallByte, k.own h.rowInt (by simp), rows1_keep h.listsInt k (by simp), h.manyInt, h.smallInt,
    k.own h.rowNumber (by simp), rows1_keep h.listsNumber k (by simp), h.manyNumber, h.smallNumber, Nat.le_trans h.baseW hb.size, h.baseB, h.few⟩

/-- A list apart from all that are held. -/
def ApartOf (its : List It) (v : Value) : Prop := ∀ (i : Nat) (t : It), its[i]? = some t → (t.l.ownBlock = none ∨ t.l.ownBlock ≠ v.ownBlock) ∧ (v.ownBlock = none ∨ v.ownBlock ≠ t.l.ownBlock)

set_option maxHeartbeats 1000000 in
theorem book_tensor (w : World) (B base N : Nat) (HByte : Option Addr) (cByte : Nat) (iByte : List It) (HInt : Option Addr) (cInt : Nat) (iInt : List It) (HNumber : Option Addr) (cNumber : Nat) (iNumber : List It)
    (A A2 : Option Addr) (n c m d : Nat) (xs ys : List Value) (h : BkAt w B base N HByte cByte iByte HInt cInt iInt HNumber cNumber iNumber)
    (ho : w.ownsRow base 3 1 (.slice A n c) n xs) (hp : w.ownsRow base 21 1 (.slice A2 m d) m ys) (hn : n ≤ 1073741824) (hm : m ≤ 1073741824) (hN : N + 2 ≤ 1048000)
    (ha : ApartOf iInt (.slice A n c)) (hc : ApartOf iNumber (.slice A2 m d)) :
    Calls Tryz.prog 36 #[.pointer (some ⟨B, 0, none⟩), tenV A n c A2 m d] w fun e w' => e = .returned (.tuple #[]) ∧
      (∃ H1 c1 H2 c2, BkAt w' B base (N + 2) HByte cByte iByte H1 c1 (iInt ++ [⟨A, n, c, none, 0, 0, N + 1⟩]) H2 c2 (iNumber ++ [⟨A2, m, d, none, 0, 0, N + 2⟩])) ∧
      KeepT [53, 147, 153] w w' ∧ Below base w w' := by
  have hBW := h.baseW
  have hBB := h.baseB
  have hlt : B < w.heap.size := lt_of_heap h.blk
  have hf := h.few
  have hi := h.manyInt
  have hj := h.manyNumber
  obtain ⟨W, hW⟩ : ∃ W, W = w.alloc (.cells #[.slice A n c, .slice A2 m d] 60) := ⟨_, rfl⟩
  have HX0 : Hid (BoxT W w.heap.size (.slice A n c) (.slice A2 m d)) := hide (by rw [hW]; exact BoxT.new w _ _)
  have hbw : Below w.heap.size w W := by rw [hW]; exact (Below.refl w.heap.size w).alloc (Nat.le_refl _) _
  have HK0 := hide (h.below hbw)
  have HO0 := hide (own_below ho hbw)
  have HP0 := hide (own_below hp hbw)
  have HKe0 : Hid (KeepT [53, 147, 153] w W) := hide (KeepT.below hbw)
  have HB0 : Hid (Below base w W) := hide (hbw.mono hBW)
  have hW' := hW.symm
  have HAI := hide ha
  have HAN := hide hc
  have a0 := HX0.out.c0
  clear hW h ho hp hbw ha hc
  go_enter Tryz.func36, Tryz.ntmps36
  go_wp2_with fail
  refine Calls.mono (add_Int B base N cInt n c HInt A _ iInt _ HK0.out.blk rfl rfl HK0.out.rowInt HK0.out.baseW HK0.out.baseB (by omega) (by omega)) ?_
  rintro e w1 ⟨rfl, H1, c1, hk⟩
  have HK1 := hide (HK0.out.addInt hk HO0.out hn (by omega) HAI.out)
  have HX1 := hide (hk.keep.blk HX0.out (by decide))
  have a1 := BoxT.c1 HX1.out
  have HP1 := hide (hk.keep.own HP0.out (by decide))
  have HKe1 := hide (HKe0.out.trans (hk.keep.mono (by intro e he; simp at he ⊢; rcases he with rfl | rfl <;> simp)))
  have HB1 := hide (HB0.out.trans hk.below)
  clear hk HK0 HX0 a0 HO0 HP0 HKe0 HB0
  go_wp2_with fail
  refine Calls.mono (add_Number B base (N + 1) cNumber m d HNumber A2 _ iNumber _ HK1.out.blk rfl rfl HK1.out.rowNumber HK1.out.baseW HK1.out.baseB (by omega) (by omega)) ?_
  rintro e w2 ⟨rfl, H2, c2, hk⟩
  have HK2 := hide (HK1.out.addNumber hk HP1.out hm (by omega) HAN.out)
  have HKe2 := hide (HKe1.out.trans (hk.keep.mono (by intro e he; simp at he ⊢; rcases he with rfl | rfl <;> simp)))
  have HB2 := hide (HB1.out.trans hk.below)
  clear hk HK1
  go_wp2
  go_end0
  exact ⟨rfl, ⟨H1, c1, H2, c2, HK2.out⟩, HKe2.out, HB2.out⟩

/-- Are two tensors, of which each has its own cells, one as the other? -/
theorem sameT_yes (A B A' B' : Option Addr) (n c m d c' d' : Nat) (s l : List Int) (w : World) (hA : Lies w A n (s.map (Value.int .i64))) (hB : Lies w B m (l.map (Value.int .i32))) (hA' : Lies w A' n (s.map (Value.int .i64))) (hB' : Lies w B' m (l.map (Value.int .i32))) (hn : n ≤ 281474976710656) (hm : m ≤ 281474976710656) :
    Calls Tryz.prog 33 #[tenV A n c B m d, tenV A' n c' B' m d'] w fun e w' => e = .returned (.bool true) ∧ Below w.heap.size w w' := by
  obtain ⟨W, hW⟩ : ∃ W, W = (w.alloc (.cells #[.slice A n c, .slice B m d] 60)).alloc (.cells #[.slice A' n c', .slice B' m d'] 60) := ⟨_, rfl⟩
  have HX0 : Hid (BoxT W w.heap.size (.slice A n c) (.slice B m d)) := hide (by rw [hW]; exact (BoxT.new w _ _).alloc _)
  have HX1 : Hid (BoxT W (w.heap.size + 1) (.slice A' n c') (.slice B' m d')) := hide (by
    rw [hW]
    have h := (BoxT.new (w.alloc (.cells #[.slice A n c, .slice B m d] 60)) (.slice A' n c') (.slice B' m d'))
    rwa [World.size_alloc] at h)
  have HB0 : Hid (Below w.heap.size w W) := hide (by rw [hW]; exact ((Below.refl w.heap.size w).alloc (Nat.le_refl _) _).alloc (by simp) _)
  have HA := hide (hA.below HB0.out)
  have HB := hide (hB.below HB0.out)
  have HA' := hide (hA'.below HB0.out)
  have HB' := hide (hB'.below HB0.out)
  have hW' := hW.symm
  clear hW hA hB hA' hB'
  have hsW := HB0.out.size
  have a0 := HX0.out.c0
  have b0 := HX1.out.c0
  go_enter Tryz.func33, Tryz.ntmps33
  go_wp2_with fail
  refine Calls.mono (sameG_Ints A A' n c n c' s s _ HA.out HA'.out hn) ?_
  rw [show decide (s = s) = true by simp]
  rintro e w1 ⟨rfl, j, hj⟩
  have hb1 : Below W.heap.size W w1 := by rw [hj]; exact below_drewN (Below.refl _ W) j
  clear hj a0 b0
  have a1 := (HX0.out.kept hb1).c1
  have b1 := (HX1.out.kept hb1).c1
  go_wp2_with fail
  refine Calls.mono (sameG_Numbers B B' m d m d' l l _ (HB.out.below hb1) (HB'.out.below hb1) hm) ?_
  rw [show decide (l = l) = true by simp]
  rintro e w2 ⟨rfl, j, hj⟩
  have hb2 : Below W.heap.size W w2 := by rw [hj]; exact below_drewN hb1 j
  have HB2 := hide (HB0.out.trans (hb2.mono hsW))
  clear hj a1 b1
  go_wp2
  go_ret
  exact ⟨rfl, HB2.out⟩

/-- A copy with a mark behind is as it was. -/
theorem leftT_yes (g1 g2 : Nat) (A B : Option Addr) (n m c' d' : Nat) (s l : List Int) (w : World) (h1 : Lies w (some ⟨g1, 0, none⟩) (n + 1) (s.map (Value.int .i64) ++ [.int .i64 77])) (h2 : Lies w (some ⟨g2, 0, none⟩) (m + 1) (l.map (Value.int .i32) ++ [.int .i32 77])) (hA : Lies w A n (s.map (Value.int .i64))) (hB : Lies w B m (l.map (Value.int .i32))) (hn : n ≤ 1073741824) (hm : m ≤ 1073741824) :
    Calls Tryz.prog 34 #[tenV (some ⟨g1, 0, none⟩) n (n + 1) (some ⟨g2, 0, none⟩) m (m + 1), tenV A n c' B m d'] w fun e w' => e = .returned (.bool true) ∧ Below w.heap.size w w' := by
  obtain ⟨W, hW⟩ : ∃ W, W = (w.alloc (.cells #[.slice (some ⟨g1, 0, none⟩) n (n + 1), .slice (some ⟨g2, 0, none⟩) m (m + 1)] 60)).alloc (.cells #[.slice A n c', .slice B m d'] 60) := ⟨_, rfl⟩
  have HX0 : Hid (BoxT W w.heap.size (.slice (some ⟨g1, 0, none⟩) n (n + 1)) (.slice (some ⟨g2, 0, none⟩) m (m + 1))) := hide (by rw [hW]; exact (BoxT.new w _ _).alloc _)
  have HX1 : Hid (BoxT W (w.heap.size + 1) (.slice A n c') (.slice B m d')) := hide (by
    rw [hW]
    have h := (BoxT.new (w.alloc (.cells #[.slice (some ⟨g1, 0, none⟩) n (n + 1), .slice (some ⟨g2, 0, none⟩) m (m + 1)] 60)) (.slice A n c') (.slice B m d'))
    rwa [World.size_alloc] at h)
  have HB0 : Hid (Below w.heap.size w W) := hide (by rw [hW]; exact ((Below.refl w.heap.size w).alloc (Nat.le_refl _) _).alloc (by simp) _)
  have HA := hide (hA.below HB0.out)
  have HB := hide (hB.below HB0.out)
  have HA' := hide (h1.below HB0.out)
  have HB' := hide (h2.below HB0.out)
  have hW' := hW.symm
  clear hW hA hB h1 h2
  have hsW := HB0.out.size
  have a0 := HX0.out.c0
  have b0 := HX1.out.c0
  go_enter Tryz.func34, Tryz.ntmps34
  go_wp2_with fail
  refine Calls.mono (left_Ints g1 n (n + 1) c' A s _ HA'.out HA.out (Nat.le_refl _) hn) ?_
  rintro e w1 ⟨rfl, j, hj⟩
  have hb1 : Below W.heap.size W w1 := by rw [hj]; exact below_drewN (Below.refl _ W) j
  clear hj a0 b0
  have a1 := (HX0.out.kept hb1).c1
  have b1 := (HX1.out.kept hb1).c1
  go_wp2_with fail
  refine Calls.mono (left_Numbers g2 m (m + 1) d' B l _ (HB'.out.below hb1) (HB.out.below hb1) (Nat.le_refl _) hm) ?_
  rintro e w2 ⟨rfl, j, hj⟩
  have hb2 : Below W.heap.size W w2 := by rw [hj]; exact below_drewN hb1 j
  have HB2 := hide (HB0.out.trans (hb2.mono hsW))
  clear hj a1 b1
  go_wp2
  go_ret
  exact ⟨rfl, HB2.out⟩

end

end Go.Proofs.YtomhbhhfbbdilaaGreatDoor
