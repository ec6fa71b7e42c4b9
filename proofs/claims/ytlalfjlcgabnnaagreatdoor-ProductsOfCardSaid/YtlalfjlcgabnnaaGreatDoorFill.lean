/- Contracts of the book's fill: every list that is held is filled with its own mark; nothing else turns. -/
import Derived.Test.YtlalfjlcgabnnaaGreatDoorRows
import Derived.Test.YtlalfjlcgabnnaaGreatDoorBook
import Derived.Deep.QuietTactic
import Derived.BigQuiet
import Derived.Deep.RegionHeld3
namespace Go.Proofs.YtlalfjlcgabnnaaGreatDoor
open Go.RowKit

/-- The first k lists are filled. -/
structure FillTo (w wr : World) (base : Nat) (e : TypeId) (mk : Nat → Value) (its : List It) (k : Nat) : Prop where
  keep : KeepT [e] w wr
  below : Below base w wr
  done : ∀ (i : Nat) (t : It), i < k → its[i]? = some t → wr.ownsRow base e 1 t.l t.n (List.replicate t.n (mk t.m))
  todo : ∀ (i : Nat) (t : It), k ≤ i → its[i]? = some t → ∃ xs, wr.ownsRow base e 1 t.l t.n xs

theorem FillTo.start {w : World} {base : Nat} {e : TypeId} {mk : Nat → Value} {its : List It} (h : Rows1 w base e its) : FillTo w w base e mk its 0 :=
  ⟨KeepT.refl _ _, Below.refl _ _, fun i t hi _ => absurd hi (by omega), fun i t _ ht => h.own i t ht⟩

theorem FillTo.step {w wr w2 : World} {base : Nat} {e : TypeId} {mk : Nat → Value} {its : List It} {k : Nat} {t : It} (h : FillTo w wr base e mk its k) (hb : base ≤ w.heap.size) (hR : Rows1 w base e its) (ht : its[k]? = some t)
    (hg : wr.grownBy w2 t.l.ownBlock) (ho : w2.ownsRow base e 1 t.l t.n (List.replicate t.n (mk t.m))) : FillTo w w2 base e mk its (k + 1) := by
  obtain ⟨xs, hown⟩ := h.todo k t (Nat.le_refl _) ht
  refine ⟨h.keep.trans (KeepT.grown hg (fun g hgg => ?_)), h.below.grown hg (Nat.le_trans hb h.keep.size) (fun g hgg => (own_lt hown hgg).1), ?_, ?_⟩
  · obtain ⟨cur, hc⟩ := own_type hown hgg
    exact ⟨cur, e, (0, 0), hc, by simp⟩
  · intro i u hi hu
    by_cases e1 : i = k
    · subst e1
      rw [ht] at hu
      injection hu with hu
      subst hu
      exact ho
    · exact (h.done i u (by omega) hu).kept hg (hR.apart i k u t e1 hu ht)
  · intro i u hi hu
    obtain ⟨ys, hy⟩ := h.todo i u (by omega) hu
    exact ⟨ys, hy.kept hg (hR.apart i k u t (by omega) hu ht)⟩

/-- n cells, the first k of them x, the others as they were. -/
def overTo (x : Value) (ys : List Value) (k : Nat) : List Value := List.replicate k x ++ ys.drop k

theorem overTo_none (x : Value) (ys : List Value) : overTo x ys 0 = ys := by simp [overTo]

theorem overTo_all (x : Value) (ys : List Value) {n : Nat} (h : ys.length = n) : overTo x ys n = List.replicate n x := by simp [overTo, ← h]

theorem overTo_set (x : Value) (ys : List Value) {k : Nat} (h : k < ys.length) : (overTo x ys k).set k x = overTo x ys (k + 1) := by
  unfold overTo
  rw [List.set_append_right _ _ (by simp)]
  simp only [List.length_replicate, Nat.sub_self]
  rw [List.drop_eq_getElem_cons h, List.set_cons_zero, List.replicate_succ', List.append_assoc]
  rfl

theorem overTo_at (x : Value) (ys : List Value) {k : Nat} (h : k < ys.length) : (overTo x ys k)[k]? = some ys[k] := by
  unfold overTo
  rw [List.getElem?_append_right (by simp)]
  simp [h]

theorem cell_other {w : World} {p q : Addr} {u v : Value} (h : q.block ≠ p.block) (hc : w.cell? q = some v) : (w.setCell p u).cell? q = some v :=
  (World.cell?_of_block (w := w) (Below.heap_setCell w p u q.block h)).trans hc

theorem grown_drew {a w : World} {row : Option Nat} (h : a.grownBy w row) : a.grownBy w.drew row := ⟨h.os, h.tape, h.output, h.size, h.block⟩

theorem cell_other_drew {w : World} {p q : Addr} {u v : Value} (h : q.block ≠ p.block) (hc : w.cell? q = some v) : (w.setCell p u).drew.cell? q = some v := cell_other h hc

theorem cell_blk {w : World} {g : Nat} {cs : List Value} {t : TypeId} (h : w.heap[g]? = some (.cells cs.toArray t (0, 0))) (i : Nat) : w.cell? ⟨g, i, none⟩ = cs[i]? := by
  rw [cell_of_row w g i cs.toArray t (0, 0) h]
  simp

def mkI_Byte (m : Nat) : Int := (m : Int) % 256

def mk_Byte (m : Nat) : Value := .int .u8 (mkI_Byte m)

theorem mark_Byte (m : Nat) (w : World) : Calls Tryz.prog 83 #[.int .i64 (m : Int)] w fun e w' => e = .returned (.int .u8 (mkI_Byte m)) ∧ w = w' := by
  go_enter Tryz.func83, Tryz.ntmps83
  go_wp2
  go_ret
  exact ⟨rfl, rfl⟩

set_option maxHeartbeats 2000000 in
theorem fill_Byte (B base c : Nat) (H : Option Addr) (L : List Value) (its : List It) (w : World)
    (hB : w.heap[B]? = some (.cells L.toArray 54 (0, 0))) (hL : L[1]? = some (.slice H its.length c))
    (hH : w.ownsRow base 77 3 (.slice H its.length c) its.length (held its)) (hR : Rows1 w base 5 its) (hb : base ≤ w.heap.size)
    (hn : its.length ≤ 1048576) (hsz : ∀ (i : Nat) (t : It), its[i]? = some t → t.n ≤ 281474976710656 ∧ t.m ≤ 1048576) :
    Calls Tryz.prog 33 #[.pointer (some ⟨B, 0, none⟩)] w fun e w' => e = .returned (.tuple #[]) ∧ FillTo w w' base 5 mk_Byte its its.length := by
  have HB := hide hB
  have HL := hide hL
  have HH := hide hH
  have HR := hide hR
  have HS := hide hsz
  clear hB hL hH hR hsz
  obtain ⟨N, hN⟩ : ∃ N, N = its.length := ⟨_, rfl⟩
  rw [← hN] at hn HL HH ⊢
  have HN := hide hN
  clear hN
  go_enter Tryz.func33, Tryz.ntmps33
  go_wp2
  go_loopw [2] (fun i wr => ∃ k : Nat, k ≤ N ∧ i = .int .i64 k ∧ Hid (FillTo w wr base 5 mk_Byte its k)) (fun i _ => N - (intOf i).toNat)
  case atStart => exact ⟨0, Nat.zero_le _, rfl, hide (FillTo.start HR.out)⟩
  case round =>
    obtain ⟨k, hk, rfl, HF⟩ := hrel
    have hB1 := cell_blk (HF.out.keep.blk HB.out (by decide)) 1
    rw [HL.out] at hB1
    by_cases hlt : k < N
    · obtain ⟨t, ht⟩ : ∃ t, its[k]? = some t := ⟨its[k]'(by rw [← HN.out]; exact hlt), List.getElem?_eq_getElem _⟩
      have hrow := HF.out.keep.own HH.out (by decide)
      obtain ⟨h1, h2, h3⟩ := held_at its k t ht
      obtain ⟨g, rfl⟩ : ∃ g, H = some ⟨g, 0, none⟩ := by
        rcases hrow.2 with ⟨e, h0⟩ | ⟨g, cap, cur, e, _⟩
        · omega
        · injection e with e; exact ⟨g, e⟩
      have c1 := (hrow.cellAt (k * 3) (by omega)).trans h1
      have c2 := (hrow.cellAt (k * 3 + 1) (by omega)).trans h2
      have c3 := (hrow.cellAt (k * 3 + 2) (by omega)).trans h3
      obtain ⟨xs, hown⟩ := HF.out.todo k t (Nat.le_refl _) ht
      have hsz := HS.out k t ht
      have HT := hide ht
      have HO := hide hown
      clear ht hrow h1 h2 h3 hown
      obtain ⟨A, n, cc, A2, n2, c2', m⟩ := t
      simp only [It.l, It.long] at c1 c2
      go_wp2_with fail
      clear c1 c2 c3 hB1
      obtain ⟨wo, rfl⟩ : ∃ wo : World, wo = wr := ⟨_, rfl⟩
      have HBLK := hide (heap_alloc_new wo (.cells #[Value.slice A n cc, Value.slice A2 n2 c2', Value.int .i64 (m : Int)] 77))
      have hn1 := hsz.1
      have hm1 := hsz.2
      clear hsz
      have HLEN : Hid (xs.length = n) := hide (by have := HO.out.1; simp only [Nat.mul_one] at this; exact this)
      obtain ⟨W0, hW0⟩ : ∃ W0, W0 = wo.alloc (.cells #[Value.slice A n cc, Value.slice A2 n2 c2', Value.int .i64 (m : Int)] 77) := ⟨_, rfl⟩
      have HG0 : Hid (wo.grownBy W0 (Value.slice A n cc).ownBlock) := by rw [hW0]; exact World.grownBy_alloc _ _ _
      have HO0 : Hid (W0.ownsRow base 5 1 (.slice A n cc) n xs) := by rw [hW0]; exact HO.out.alloc _
      rw [← hW0] at HBLK ⊢
      clear hW0
      go_loopw [4] (fun i wi => ∃ j : Nat, j ≤ n ∧ i = .int .i64 j ∧ Hid (W0.grownBy wi (Value.slice A n cc).ownBlock) ∧ Hid (wi.ownsRow base 5 1 (.slice A n cc) n (overTo (mk_Byte m) xs j))) (fun i _ => n - (intOf i).toNat)
      case atStart => exact ⟨0, Nat.zero_le _, rfl, hide (World.grownBy.refl _ _), hide (by rw [overTo_none]; exact HO0.out)⟩
      case round =>
        obtain ⟨j, hj, rfl, HGi, HOi⟩ := hrel
        have hblk : Hid (wr.heap[wo.heap.size]? = some (.cells #[Value.slice A n cc, Value.slice A2 n2 c2', Value.int .i64 (m : Int)] 77 (0, 0))) := hide (by
          rw [HGi.out.block wo.heap.size (lt_of_heap HBLK.out) (fun e => by have := (own_lt HO.out e.symm).2; omega)]
          exact HBLK.out)
        have d1 : wr.cell? ⟨wo.heap.size, 0, none⟩ = some (.slice A n cc) := by rw [cell_of_row _ _ _ _ _ _ hblk.out]; rfl
        have d3 : wr.cell? ⟨wo.heap.size, 2, none⟩ = some (.int .i64 (m : Int)) := by rw [cell_of_row _ _ _ _ _ _ hblk.out]; rfl
        by_cases hjlt : j < n
        · obtain ⟨ga, rfl⟩ : ∃ g, A = some ⟨g, 0, none⟩ := by
            rcases HOi.out.2 with ⟨e, h0⟩ | ⟨g, cap, cur, e, _⟩
            · omega
            · injection e with e; exact ⟨g, e⟩
          have f1 : wr.cell? ⟨ga, j, none⟩ = some (xs[j]'(by rw [HLEN.out]; exact hjlt)) := by rw [HOi.out.cellAt j (by omega), overTo_at _ _ (by rw [HLEN.out]; exact hjlt)]
          have f2 : wr.frozen? ⟨ga, j, none⟩ = false := HOi.out.frozenAt j
          have hne : wo.heap.size ≠ ga := by have := (own_lt HO.out (g := ga) rfl).2; omega
          have i1 : (0 : Int) ≤ (j : Int) := by omega
          have i2 : (j : Int) < (n : Int) := by omega
          go_wp2_with fail
          go_region_held3 (fun w' => w'.cell? ⟨wo.heap.size, 0, none⟩ = some (.slice (some ⟨ga, 0, none⟩) n cc) ∧ w'.cell? ⟨wo.heap.size, 2, none⟩ = some (.int .i64 (m : Int)))
            (first | (exact ⟨cell_other_drew hne d1, cell_other_drew hne d3⟩) | (exact ⟨d1, d3⟩) | go_keep)
            (first | (go_at_call 83; refine (mark_Byte m _ ).mono ?_; rintro e w5 ⟨rfl, rfl⟩))
          have HG3 : Hid (W0.grownBy (wr.setCell ⟨ga, j, none⟩ (.int .u8 (mkI_Byte m))).drew (Value.slice (some ⟨ga, 0, none⟩) n cc).ownBlock) := hide (grown_drew (grown_trans HGi.out (grown_setCell wr ⟨ga, j, none⟩ _)))
          have HO3 : Hid ((wr.setCell ⟨ga, j, none⟩ (.int .u8 (mkI_Byte m))).drew.ownsRow base 5 1 (.slice (some ⟨ga, 0, none⟩) n cc) n (overTo (mk_Byte m) xs (j + 1))) := hide (by
            have h := (HOi.out.stored j (.int .u8 (mkI_Byte m))).1
            rw [show (overTo (mk_Byte m) xs j).set j (.int .u8 (mkI_Byte m)) = overTo (mk_Byte m) xs (j + 1) from overTo_set _ _ (by rw [HLEN.out]; exact hjlt)] at h
            exact h)
          clear f1 f2 d1 d3 HGi HOi
          go_wp2
          go_roundw
          case rel => exact ⟨j + 1, by omega, by go_num, HG3, HO3⟩
          case measure => simp [intOf]; omega
        · obtain rfl : j = n := by omega
          have HF2 : Hid (FillTo w wr base 5 mk_Byte its (k + 1)) := hide (HF.out.step hb HR.out HT.out (grown_trans HG0.out HGi.out) (by
            have h := HOi.out
            rw [overTo_all _ _ HLEN.out] at h
            exact h))
          clear HGi HOi HBLK HG0 HO0 HO hblk HF
          go_wp2
          go_roundw
          case rel => exact ⟨k + 1, by omega, by go_num, HF2⟩
          case measure => simp [intOf]; omega
    · obtain rfl : k = N := by omega
      go_wp2
      go_end0
      exact ⟨rfl, HF.out⟩

def mkI_Int (m : Nat) : Int := -(m : Int)

def mk_Int (m : Nat) : Value := .int .i64 (mkI_Int m)

theorem mark_Int (m : Nat) (w : World) (hm : m ≤ 1048576) : Calls Tryz.prog 84 #[.int .i64 (m : Int)] w fun e w' => e = .returned (.int .i64 (mkI_Int m)) ∧ w = w' := by
  go_enter Tryz.func84, Tryz.ntmps84
  go_wp2
  go_ret
  exact ⟨rfl, rfl⟩

set_option maxHeartbeats 2000000 in
theorem fill_Int (B base c : Nat) (H : Option Addr) (L : List Value) (its : List It) (w : World)
    (hB : w.heap[B]? = some (.cells L.toArray 54 (0, 0))) (hL : L[2]? = some (.slice H its.length c))
    (hH : w.ownsRow base 74 3 (.slice H its.length c) its.length (held its)) (hR : Rows1 w base 3 its) (hb : base ≤ w.heap.size)
    (hn : its.length ≤ 1048576) (hsz : ∀ (i : Nat) (t : It), its[i]? = some t → t.n ≤ 281474976710656 ∧ t.m ≤ 1048576) :
    Calls Tryz.prog 34 #[.pointer (some ⟨B, 0, none⟩)] w fun e w' => e = .returned (.tuple #[]) ∧ FillTo w w' base 3 mk_Int its its.length := by
  have HB := hide hB
  have HL := hide hL
  have HH := hide hH
  have HR := hide hR
  have HS := hide hsz
  clear hB hL hH hR hsz
  obtain ⟨N, hN⟩ : ∃ N, N = its.length := ⟨_, rfl⟩
  rw [← hN] at hn HL HH ⊢
  have HN := hide hN
  clear hN
  go_enter Tryz.func34, Tryz.ntmps34
  go_wp2
  go_loopw [2] (fun i wr => ∃ k : Nat, k ≤ N ∧ i = .int .i64 k ∧ Hid (FillTo w wr base 3 mk_Int its k)) (fun i _ => N - (intOf i).toNat)
  case atStart => exact ⟨0, Nat.zero_le _, rfl, hide (FillTo.start HR.out)⟩
  case round =>
    obtain ⟨k, hk, rfl, HF⟩ := hrel
    have hB1 := cell_blk (HF.out.keep.blk HB.out (by decide)) 2
    rw [HL.out] at hB1
    by_cases hlt : k < N
    · obtain ⟨t, ht⟩ : ∃ t, its[k]? = some t := ⟨its[k]'(by rw [← HN.out]; exact hlt), List.getElem?_eq_getElem _⟩
      have hrow := HF.out.keep.own HH.out (by decide)
      obtain ⟨h1, h2, h3⟩ := held_at its k t ht
      obtain ⟨g, rfl⟩ : ∃ g, H = some ⟨g, 0, none⟩ := by
        rcases hrow.2 with ⟨e, h0⟩ | ⟨g, cap, cur, e, _⟩
        · omega
        · injection e with e; exact ⟨g, e⟩
      have c1 := (hrow.cellAt (k * 3) (by omega)).trans h1
      have c2 := (hrow.cellAt (k * 3 + 1) (by omega)).trans h2
      have c3 := (hrow.cellAt (k * 3 + 2) (by omega)).trans h3
      obtain ⟨xs, hown⟩ := HF.out.todo k t (Nat.le_refl _) ht
      have hsz := HS.out k t ht
      have HT := hide ht
      have HO := hide hown
      clear ht hrow h1 h2 h3 hown
      obtain ⟨A, n, cc, A2, n2, c2', m⟩ := t
      simp only [It.l, It.long] at c1 c2
      go_wp2_with fail
      clear c1 c2 c3 hB1
      obtain ⟨wo, rfl⟩ : ∃ wo : World, wo = wr := ⟨_, rfl⟩
      have HBLK := hide (heap_alloc_new wo (.cells #[Value.slice A n cc, Value.slice A2 n2 c2', Value.int .i64 (m : Int)] 74))
      have hn1 := hsz.1
      have hm1 := hsz.2
      clear hsz
      have HLEN : Hid (xs.length = n) := hide (by have := HO.out.1; simp only [Nat.mul_one] at this; exact this)
      obtain ⟨W0, hW0⟩ : ∃ W0, W0 = wo.alloc (.cells #[Value.slice A n cc, Value.slice A2 n2 c2', Value.int .i64 (m : Int)] 74) := ⟨_, rfl⟩
      have HG0 : Hid (wo.grownBy W0 (Value.slice A n cc).ownBlock) := by rw [hW0]; exact World.grownBy_alloc _ _ _
      have HO0 : Hid (W0.ownsRow base 3 1 (.slice A n cc) n xs) := by rw [hW0]; exact HO.out.alloc _
      rw [← hW0] at HBLK ⊢
      clear hW0
      go_loopw [4] (fun i wi => ∃ j : Nat, j ≤ n ∧ i = .int .i64 j ∧ Hid (W0.grownBy wi (Value.slice A n cc).ownBlock) ∧ Hid (wi.ownsRow base 3 1 (.slice A n cc) n (overTo (mk_Int m) xs j))) (fun i _ => n - (intOf i).toNat)
      case atStart => exact ⟨0, Nat.zero_le _, rfl, hide (World.grownBy.refl _ _), hide (by rw [overTo_none]; exact HO0.out)⟩
      case round =>
        obtain ⟨j, hj, rfl, HGi, HOi⟩ := hrel
        have hblk : Hid (wr.heap[wo.heap.size]? = some (.cells #[Value.slice A n cc, Value.slice A2 n2 c2', Value.int .i64 (m : Int)] 74 (0, 0))) := hide (by
          rw [HGi.out.block wo.heap.size (lt_of_heap HBLK.out) (fun e => by have := (own_lt HO.out e.symm).2; omega)]
          exact HBLK.out)
        have d1 : wr.cell? ⟨wo.heap.size, 0, none⟩ = some (.slice A n cc) := by rw [cell_of_row _ _ _ _ _ _ hblk.out]; rfl
        have d3 : wr.cell? ⟨wo.heap.size, 2, none⟩ = some (.int .i64 (m : Int)) := by rw [cell_of_row _ _ _ _ _ _ hblk.out]; rfl
        by_cases hjlt : j < n
        · obtain ⟨ga, rfl⟩ : ∃ g, A = some ⟨g, 0, none⟩ := by
            rcases HOi.out.2 with ⟨e, h0⟩ | ⟨g, cap, cur, e, _⟩
            · omega
            · injection e with e; exact ⟨g, e⟩
          have f1 : wr.cell? ⟨ga, j, none⟩ = some (xs[j]'(by rw [HLEN.out]; exact hjlt)) := by rw [HOi.out.cellAt j (by omega), overTo_at _ _ (by rw [HLEN.out]; exact hjlt)]
          have f2 : wr.frozen? ⟨ga, j, none⟩ = false := HOi.out.frozenAt j
          have hne : wo.heap.size ≠ ga := by have := (own_lt HO.out (g := ga) rfl).2; omega
          have i1 : (0 : Int) ≤ (j : Int) := by omega
          have i2 : (j : Int) < (n : Int) := by omega
          go_wp2_with fail
          go_region_held3 (fun w' => w'.cell? ⟨wo.heap.size, 0, none⟩ = some (.slice (some ⟨ga, 0, none⟩) n cc) ∧ w'.cell? ⟨wo.heap.size, 2, none⟩ = some (.int .i64 (m : Int)))
            (first | (exact ⟨cell_other_drew hne d1, cell_other_drew hne d3⟩) | (exact ⟨d1, d3⟩) | go_keep)
            (first | (go_at_call 84; refine (mark_Int m _ hm1).mono ?_; rintro e w5 ⟨rfl, rfl⟩))
          have HG3 : Hid (W0.grownBy (wr.setCell ⟨ga, j, none⟩ (.int .i64 (mkI_Int m))).drew (Value.slice (some ⟨ga, 0, none⟩) n cc).ownBlock) := hide (grown_drew (grown_trans HGi.out (grown_setCell wr ⟨ga, j, none⟩ _)))
          have HO3 : Hid ((wr.setCell ⟨ga, j, none⟩ (.int .i64 (mkI_Int m))).drew.ownsRow base 3 1 (.slice (some ⟨ga, 0, none⟩) n cc) n (overTo (mk_Int m) xs (j + 1))) := hide (by
            have h := (HOi.out.stored j (.int .i64 (mkI_Int m))).1
            rw [show (overTo (mk_Int m) xs j).set j (.int .i64 (mkI_Int m)) = overTo (mk_Int m) xs (j + 1) from overTo_set _ _ (by rw [HLEN.out]; exact hjlt)] at h
            exact h)
          clear f1 f2 d1 d3 HGi HOi
          go_wp2
          go_roundw
          case rel => exact ⟨j + 1, by omega, by go_num, HG3, HO3⟩
          case measure => simp [intOf]; omega
        · obtain rfl : j = n := by omega
          have HF2 : Hid (FillTo w wr base 3 mk_Int its (k + 1)) := hide (HF.out.step hb HR.out HT.out (grown_trans HG0.out HGi.out) (by
            have h := HOi.out
            rw [overTo_all _ _ HLEN.out] at h
            exact h))
          clear HGi HOi HBLK HG0 HO0 HO hblk HF
          go_wp2
          go_roundw
          case rel => exact ⟨k + 1, by omega, by go_num, HF2⟩
          case measure => simp [intOf]; omega
    · obtain rfl : k = N := by omega
      go_wp2
      go_end0
      exact ⟨rfl, HF.out⟩

def mkI_Number (m : Nat) : Int := -(m : Int)

def mk_Number (m : Nat) : Value := .int .i32 (mkI_Number m)

theorem mark_Number (m : Nat) (w : World) (hm : m ≤ 1048576) : Calls Tryz.prog 85 #[.int .i64 (m : Int)] w fun e w' => e = .returned (.int .i32 (mkI_Number m)) ∧ w = w' := by
  go_enter Tryz.func85, Tryz.ntmps85
  go_wp2
  go_ret
  exact ⟨rfl, rfl⟩

set_option maxHeartbeats 2000000 in
theorem fill_Number (B base c : Nat) (H : Option Addr) (L : List Value) (its : List It) (w : World)
    (hB : w.heap[B]? = some (.cells L.toArray 54 (0, 0))) (hL : L[3]? = some (.slice H its.length c))
    (hH : w.ownsRow base 81 3 (.slice H its.length c) its.length (held its)) (hR : Rows1 w base 21 its) (hb : base ≤ w.heap.size)
    (hn : its.length ≤ 1048576) (hsz : ∀ (i : Nat) (t : It), its[i]? = some t → t.n ≤ 281474976710656 ∧ t.m ≤ 1048576) :
    Calls Tryz.prog 35 #[.pointer (some ⟨B, 0, none⟩)] w fun e w' => e = .returned (.tuple #[]) ∧ FillTo w w' base 21 mk_Number its its.length := by
  have HB := hide hB
  have HL := hide hL
  have HH := hide hH
  have HR := hide hR
  have HS := hide hsz
  clear hB hL hH hR hsz
  obtain ⟨N, hN⟩ : ∃ N, N = its.length := ⟨_, rfl⟩
  rw [← hN] at hn HL HH ⊢
  have HN := hide hN
  clear hN
  go_enter Tryz.func35, Tryz.ntmps35
  go_wp2
  go_loopw [2] (fun i wr => ∃ k : Nat, k ≤ N ∧ i = .int .i64 k ∧ Hid (FillTo w wr base 21 mk_Number its k)) (fun i _ => N - (intOf i).toNat)
  case atStart => exact ⟨0, Nat.zero_le _, rfl, hide (FillTo.start HR.out)⟩
  case round =>
    obtain ⟨k, hk, rfl, HF⟩ := hrel
    have hB1 := cell_blk (HF.out.keep.blk HB.out (by decide)) 3
    rw [HL.out] at hB1
    by_cases hlt : k < N
    · obtain ⟨t, ht⟩ : ∃ t, its[k]? = some t := ⟨its[k]'(by rw [← HN.out]; exact hlt), List.getElem?_eq_getElem _⟩
      have hrow := HF.out.keep.own HH.out (by decide)
      obtain ⟨h1, h2, h3⟩ := held_at its k t ht
      obtain ⟨g, rfl⟩ : ∃ g, H = some ⟨g, 0, none⟩ := by
        rcases hrow.2 with ⟨e, h0⟩ | ⟨g, cap, cur, e, _⟩
        · omega
        · injection e with e; exact ⟨g, e⟩
      have c1 := (hrow.cellAt (k * 3) (by omega)).trans h1
      have c2 := (hrow.cellAt (k * 3 + 1) (by omega)).trans h2
      have c3 := (hrow.cellAt (k * 3 + 2) (by omega)).trans h3
      obtain ⟨xs, hown⟩ := HF.out.todo k t (Nat.le_refl _) ht
      have hsz := HS.out k t ht
      have HT := hide ht
      have HO := hide hown
      clear ht hrow h1 h2 h3 hown
      obtain ⟨A, n, cc, A2, n2, c2', m⟩ := t
      simp only [It.l, It.long] at c1 c2
      go_wp2_with fail
      clear c1 c2 c3 hB1
      obtain ⟨wo, rfl⟩ : ∃ wo : World, wo = wr := ⟨_, rfl⟩
      have HBLK := hide (heap_alloc_new wo (.cells #[Value.slice A n cc, Value.slice A2 n2 c2', Value.int .i64 (m : Int)] 81))
      have hn1 := hsz.1
      have hm1 := hsz.2
      clear hsz
      have HLEN : Hid (xs.length = n) := hide (by have := HO.out.1; simp only [Nat.mul_one] at this; exact this)
      obtain ⟨W0, hW0⟩ : ∃ W0, W0 = wo.alloc (.cells #[Value.slice A n cc, Value.slice A2 n2 c2', Value.int .i64 (m : Int)] 81) := ⟨_, rfl⟩
      have HG0 : Hid (wo.grownBy W0 (Value.slice A n cc).ownBlock) := by rw [hW0]; exact World.grownBy_alloc _ _ _
      have HO0 : Hid (W0.ownsRow base 21 1 (.slice A n cc) n xs) := by rw [hW0]; exact HO.out.alloc _
      rw [← hW0] at HBLK ⊢
      clear hW0
      go_loopw [4] (fun i wi => ∃ j : Nat, j ≤ n ∧ i = .int .i64 j ∧ Hid (W0.grownBy wi (Value.slice A n cc).ownBlock) ∧ Hid (wi.ownsRow base 21 1 (.slice A n cc) n (overTo (mk_Number m) xs j))) (fun i _ => n - (intOf i).toNat)
      case atStart => exact ⟨0, Nat.zero_le _, rfl, hide (World.grownBy.refl _ _), hide (by rw [overTo_none]; exact HO0.out)⟩
      case round =>
        obtain ⟨j, hj, rfl, HGi, HOi⟩ := hrel
        have hblk : Hid (wr.heap[wo.heap.size]? = some (.cells #[Value.slice A n cc, Value.slice A2 n2 c2', Value.int .i64 (m : Int)] 81 (0, 0))) := hide (by
          rw [HGi.out.block wo.heap.size (lt_of_heap HBLK.out) (fun e => by have := (own_lt HO.out e.symm).2; omega)]
          exact HBLK.out)
        have d1 : wr.cell? ⟨wo.heap.size, 0, none⟩ = some (.slice A n cc) := by rw [cell_of_row _ _ _ _ _ _ hblk.out]; rfl
        have d3 : wr.cell? ⟨wo.heap.size, 2, none⟩ = some (.int .i64 (m : Int)) := by rw [cell_of_row _ _ _ _ _ _ hblk.out]; rfl
        by_cases hjlt : j < n
        · obtain ⟨ga, rfl⟩ : ∃ g, A = some ⟨g, 0, none⟩ := by
            rcases HOi.out.2 with ⟨e, h0⟩ | ⟨g, cap, cur, e, _⟩
            · omega
            · injection e with e; exact ⟨g, e⟩
          have f1 : wr.cell? ⟨ga, j, none⟩ = some (xs[j]'(by rw [HLEN.out]; exact hjlt)) := by rw [HOi.out.cellAt j (by omega), overTo_at _ _ (by rw [HLEN.out]; exact hjlt)]
          have f2 : wr.frozen? ⟨ga, j, none⟩ = false := HOi.out.frozenAt j
          have hne : wo.heap.size ≠ ga := by have := (own_lt HO.out (g := ga) rfl).2; omega
          have i1 : (0 : Int) ≤ (j : Int) := by omega
          have i2 : (j : Int) < (n : Int) := by omega
          go_wp2_with fail
          go_region_held3 (fun w' => w'.cell? ⟨wo.heap.size, 0, none⟩ = some (.slice (some ⟨ga, 0, none⟩) n cc) ∧ w'.cell? ⟨wo.heap.size, 2, none⟩ = some (.int .i64 (m : Int)))
            (first | (exact ⟨cell_other_drew hne d1, cell_other_drew hne d3⟩) | (exact ⟨d1, d3⟩) | go_keep)
            (first | (go_at_call 85; refine (mark_Number m _ hm1).mono ?_; rintro e w5 ⟨rfl, rfl⟩))
          have HG3 : Hid (W0.grownBy (wr.setCell ⟨ga, j, none⟩ (.int .i32 (mkI_Number m))).drew (Value.slice (some ⟨ga, 0, none⟩) n cc).ownBlock) := hide (grown_drew (grown_trans HGi.out (grown_setCell wr ⟨ga, j, none⟩ _)))
          have HO3 : Hid ((wr.setCell ⟨ga, j, none⟩ (.int .i32 (mkI_Number m))).drew.ownsRow base 21 1 (.slice (some ⟨ga, 0, none⟩) n cc) n (overTo (mk_Number m) xs (j + 1))) := hide (by
            have h := (HOi.out.stored j (.int .i32 (mkI_Number m))).1
            rw [show (overTo (mk_Number m) xs j).set j (.int .i32 (mkI_Number m)) = overTo (mk_Number m) xs (j + 1) from overTo_set _ _ (by rw [HLEN.out]; exact hjlt)] at h
            exact h)
          clear f1 f2 d1 d3 HGi HOi
          go_wp2
          go_roundw
          case rel => exact ⟨j + 1, by omega, by go_num, HG3, HO3⟩
          case measure => simp [intOf]; omega
        · obtain rfl : j = n := by omega
          have HF2 : Hid (FillTo w wr base 21 mk_Number its (k + 1)) := hide (HF.out.step hb HR.out HT.out (grown_trans HG0.out HGi.out) (by
            have h := HOi.out
            rw [overTo_all _ _ HLEN.out] at h
            exact h))
          clear HGi HOi HBLK HG0 HO0 HO hblk HF
          go_wp2
          go_roundw
          case rel => exact ⟨k + 1, by omega, by go_num, HF2⟩
          case measure => simp [intOf]; omega
    · obtain rfl : k = N := by omega
      go_wp2
      go_end0
      exact ⟨rfl, HF.out⟩

end Go.Proofs.YtlalfjlcgabnnaaGreatDoor

