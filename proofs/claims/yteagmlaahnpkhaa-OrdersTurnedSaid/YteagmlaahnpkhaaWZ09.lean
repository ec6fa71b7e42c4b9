/- Merged: Mv2, Mv3, Mv4, Mv5. -/
import Derived.Test.YteagmlaahnpkhaaWZ08
import Derived.Test.YteagmlaahnpkhaaWZ03
namespace Go.Proofs.Yteagmlaahnpkhaa

section
open Go.RowKit
set_option linter.unusedVariables false
set_option linter.unusedSimpArgs false
set_option maxRecDepth 100000

section
variable {w : World} {p : Nat} {v u : Value}

end

theorem own_set9 {w : World} {base : Nat} {e : TypeId} {g n c k : Nat} {xs : List Value} {v : Value} (h : w.ownsRow base e 1 (.slice (some ⟨g, 0, none⟩) n c) n xs) (hk : k < n) :
    (w.setCell ⟨g, k, none⟩ v).ownsRow base e 1 (.slice (some ⟨g, 0, none⟩) n c) n (xs.set k v) := by
  rcases h.2 with ⟨e0, _⟩ | ⟨g', cap, cur, e0, hb, hg, hm, hl, hs, ht⟩
  · cases e0
  · cases e0
    refine ⟨by simpa using h.1, .inr ⟨g, c, cur.setIfInBounds k v, rfl, hb, ?_, hm, hl, by simpa using hs, ?_⟩⟩
    · rw [setCell_eq_setRow w g k cur e (0, 0) v hg]
      exact setRow_heap w g cur _ e (0, 0) hg
    · rw [← ht, Array.toList_setIfInBounds, List.take_set]

theorem own_cells9 {w : World} {base : Nat} {e : TypeId} {g n c k : Nat} {zs : List Int} {kk : IntKind} (h : w.ownsRow base e 1 (.slice (some ⟨g, 0, none⟩) n c) n (zs.map (Value.int kk))) (hk : k < n) :
    w.cell? ⟨g, k, none⟩ = some (.int kk (zs.getD k 0)) ∧ w.frozen? ⟨g, k, none⟩ = false := by
  constructor
  · obtain ⟨b, o, e0, _, hx⟩ := byte_at (lies_of_own h) (by omega)
    cases e0
    have h1 := hx k hk
    rwa [Nat.zero_add] at h1
  · rcases h.2 with ⟨e0, _⟩ | ⟨g', cap, cur, e0, hb, hg, hm, hl, hs, ht⟩
    · cases e0
    · cases e0
      exact frozen_of_row w g k _ _ hg

theorem own_ge9 {w : World} {base : Nat} {e : TypeId} {g n c : Nat} {xs : List Value} (h : w.ownsRow base e 1 (.slice (some ⟨g, 0, none⟩) n c) n xs) : base ≤ g := by
  rcases h.2 with ⟨e0, _⟩ | ⟨g', cap, cur, e0, hb, _⟩
  · cases e0
  · cases e0; exact hb

theorem make_ints9 (w : World) (n : Nat) (h : n ≤ 1048576) : (Instr.makeSlice 27 (.int .i64 (n : Int)) (.int .i64 (n : Int))).run Try.prog w = .ok (.slice (some ⟨w.heap.size, 0, none⟩) n n) (w.alloc (.cells ((List.replicate n (0 : Int)).map (Value.int .i64)).toArray 3)) := by
  obtain ⟨i0, hi, hz0, hz1, hz2⟩ := info_parts Try.infoI
  have hr := run_make (P := Try.prog) w 27 3 i0 (.int .i64 0) Try.underlying27 hi hz0 .i64 .i64 (n : Int) (n : Int) (by omega) (by omega) (by rw [hz2]; omega) (by omega)
  have e : madeCells (Value.int .i64 0).cells n = ((List.replicate n (0 : Int)).map (Value.int .i64)).toArray := by
    apply Array.toList_inj.1
    have := toList_madeCells_one (.int .i64 0) n
    simpa [Value.cells] using this
  rw [hr, hz1]
  simp only [Int.toNat_natCast, Nat.mul_one]
  rw [e]

/-- The strides of a shape: what the directions behind each come to. -/
def strL : List Int → List Int
  | [] => []
  | _ :: l => prodZ l :: strL l

theorem strL_len : ∀ s : List Int, (strL s).length = s.length
  | [] => rfl
  | _ :: l => by simp [strL, strL_len l]

theorem strL_at : ∀ (s : List Int) (d : Nat), d < s.length → (strL s).getD d 0 = prodZ (s.drop (d + 1))
  | [], d, h => by simp at h
  | x :: l, 0, _ => by simp [strL]
  | x :: l, d + 1, h => by
    have := strL_at l d (by simpa using h)
    simpa [strL] using this

/-- The strides while they are laid, from the last one on. -/
def strP (s : List Int) (j : Nat) : List Int := List.replicate j 0 ++ strL (s.drop j)

theorem strP_len {s : List Int} {j : Nat} (h : j ≤ s.length) : (strP s j).length = s.length := by
  simp [strP, strL_len]; omega

theorem strP_set {s : List Int} {j : Nat} (h : j < s.length) : (strP s (j + 1)).set j (prodZ (s.drop (j + 1))) = strP s j := by
  unfold strP
  rw [drop_at h, strL, List.set_append_left _ _ (by simp)]
  rw [List.replicate_succ', List.set_append_right _ _ (by simp)]
  simp

end

section
open Go.RowKit
set_option linter.unusedVariables false
set_option linter.unusedSimpArgs false
set_option maxRecDepth 100000

end

section
open Go.RowKit
set_option linter.unusedVariables false
set_option linter.unusedSimpArgs false
set_option maxRecDepth 100000

end

section
open Go.RowKit
set_option linter.unusedVariables false
set_option linter.unusedSimpArgs false
set_option maxRecDepth 100000

theorem below_own9 {B : Nat} {a w w' : World} {base : Nat} {e : TypeId} {v : Value} {n : Nat} {xs : List Value} (hb : Below B a w) (hB : B ≤ w.heap.size) (ho : w.ownsRow base e 1 v n xs) (hg : w.grownBy w' v.ownBlock) (hbb : B ≤ base) : Below B a w' :=
  hb.grown hg hB (fun g hgg => Nat.le_trans hbb (ho.lt g hgg).1)

set_option maxHeartbeats 1000000 in
theorem grow_nil (k : Nat) (w : World) (hk : 1 ≤ k ∧ k ≤ 4096) :
    Calls Try.prog 65 #[.slice none 0 0, .int .i64 (k : Int)] w fun e w' => ∃ g c', e = .returned (.slice (some ⟨g, 0, none⟩) 0 c') ∧ w'.ownsRow w.heap.size 3 1 (.slice (some ⟨g, 0, none⟩) 0 c') 0 [] ∧ Below w.heap.size w w' := by
  obtain ⟨i, hi, hz0, hz1, hz2⟩ := info_parts Try.infoI
  have HI := hide hi
  have HZ0 := hide hz0
  have HZ1 := hide hz1
  have HZ2 := hide hz2
  clear hi hz0 hz1 hz2
  have hneg : ¬ ((k : Int) < 0) := by omega
  have h0 : (0 : Int) < (k : Int) := by omega
  go_enter Try.func65, Try.ntmps65
  go_wp2_with (at_builtin; refine wpList_append_zeros rfl _ _ 27 3 rfl 3 i (.int .i64 0) .i64 .i64 8 Try.underlying27 Try.underlying3 HI.out HZ0.out HZ1.out HZ2.out rfl rfl w.heap.size (.slice none 0 0) 0 [] rfl (World.ownsRow_nil _ _ _ _) (Nat.le_refl _) k rfl (by omega) (by unfold maxLen; omega) ?_)
  intro A' c' w' ho' hg'
  obtain ⟨g', rfl⟩ : ∃ g', A' = some ⟨g', 0, none⟩ := by
    rcases ho'.2 with ⟨_, h0⟩ | ⟨g', cap, cur, h0, _⟩
    · omega
    · cases h0; exact ⟨g', rfl⟩
  have HB : Hid (Below w.heap.size w w') := hide (below_own9 (Below.refl _ _) (Nat.le_refl _) (World.ownsRow_nil w w.heap.size 3 1) hg' (Nat.le_refl _))
  have HP : Hid (w'.ownsRow w.heap.size 3 1 (.slice (some ⟨g', 0, none⟩) 0 c') 0 []) := hide (own_part (xs := []) (ys := List.replicate k (Value.int .i64 0)) ho' rfl (by omega))
  clear ho' hg'
  go_wp2
  go_ret
  exact ⟨g', c', rfl, HP.out, HB.out⟩

set_option maxHeartbeats 4000000 in
theorem concat_two (q : Nat) (A1 A2 : Option Addr) (n1 c1 n2 c2 : Nat) (xs ys : List Int) (w : World) (hq : w.heap[q]? = some (.cells #[.slice A1 n1 c1, .slice A2 n2 c2] 27 (0, 0))) (h1 : Lies w A1 n1 (xs.map (Value.int .i64))) (h2 : Lies w A2 n2 (ys.map (Value.int .i64))) (hn1 : A1 = none → c1 = 0) (hn2 : A2 = none → c2 = 0) (hlo : 1 ≤ n1 + n2) (hhi : n1 + n2 ≤ 4096) :
    Calls Try.prog 64 #[.slice (some ⟨q, 0, none⟩) 2 2] w fun e w' => ∃ g c', e = .returned (.slice (some ⟨g, 0, none⟩) (n1 + n2) c') ∧ w'.ownsRow w.heap.size 3 1 (.slice (some ⟨g, 0, none⟩) (n1 + n2) c') (n1 + n2) ((xs ++ ys).map (Value.int .i64)) ∧ Below w.heap.size w w' := by
  obtain ⟨i, hi, hz0, hz1, hz2⟩ := info_parts Try.infoI
  have HI := hide hi
  have HZ0 := hide hz0
  have HZ1 := hide hz1
  have HZ2 := hide hz2
  clear hi hz0 hz1 hz2
  have HC : Hid (∀ v, Below w.heap.size w v → v.cell? ⟨q, 0, none⟩ = some (.slice A1 n1 c1) ∧ v.cell? ⟨q, 1, none⟩ = some (.slice A2 n2 c2)) := hide (fun v hv => ⟨cell_of_row _ _ 0 _ _ (0, 0) ((hv.block _ (lt_of_heap hq)).trans hq), cell_of_row _ _ 1 _ _ (0, 0) ((hv.block _ (lt_of_heap hq)).trans hq)⟩)
  have H1 := hide h1
  have H2 := hide h2
  have HN1 := hide hn1
  have HN2 := hide hn2
  clear hq h1 h2 hn1 hn2
  go_enter Try.func64, Try.ntmps64
  go_wp2
  go_loopw [3, 11] (fun sv iv wr => ∃ (k z : Nat), iv = .int .i64 (k : Int) ∧ sv = .int .i64 (z : Int) ∧ (k = 0 ∧ z = 0 ∨ k = 1 ∧ n1 = z ∨ k = 2 ∧ n1 + n2 = z) ∧ Hid (wr = w)) (fun _ iv _ => 2 - (intOf iv).toNat)
  case atStart => exact ⟨0, 0, rfl, rfl, .inl ⟨rfl, rfl⟩, hide rfl⟩
  case round =>
    obtain ⟨k, z, rfl, rfl, hkz, HW⟩ := hrel
    obtain rfl : w = wr := HW.out.symm
    obtain ⟨a0, a1⟩ := HC.out _ (Below.refl _ _)
    rcases hkz with ⟨rfl, rfl⟩ | ⟨rfl, rfl⟩ | ⟨rfl, rfl⟩
    · have f1 : ¬ ((n1 : Int) < 0) := by omega
      go_wp2
      go_roundw
      case rel => exact ⟨1, n1, by go_num, by go_num, .inr (.inl ⟨rfl, rfl⟩), by first | exact hide rfl | exact hide trivial⟩
      case measure => simp [intOf]
    · have f1 : ¬ ((n1 : Int) + (n2 : Int) < 0) := by omega
      go_wp2
      go_roundw
      case rel => exact ⟨2, n1 + n2, by go_num, by go_num, .inr (.inr ⟨rfl, rfl⟩), by first | exact hide rfl | exact hide trivial⟩
      case measure => simp [intOf]
    · obtain ⟨N, hN⟩ : ∃ z, z = n1 + n2 := ⟨_, rfl⟩
      rw [← hN] at hlo hhi ⊢
      have HN := hide hN
      clear hN
      go_wp2_with fail
      refine Calls.mono (grow_nil N _ ⟨hlo, hhi⟩) ?_
      rintro e w1 ⟨g0, k0, rfl, ho0, hb0⟩
      have HO0 := hide ho0
      have HB0 := hide hb0
      clear ho0 hb0 a0 a1
      go_wp2
      go_loopw [6, 27] (fun sv iv wv => ∃ (k m c' : Nat) (A' : Option Addr) (zs : List Int), iv = .int .i64 (k : Int) ∧ sv = .slice A' m c' ∧ (k = 0 ∧ m = 0 ∧ zs = [] ∨ k = 1 ∧ n1 = m ∧ xs = zs ∨ k = 2 ∧ N = m ∧ xs ++ ys = zs) ∧ Hid (wv.ownsRow w.heap.size 3 1 (.slice A' m c') m (zs.map (Value.int .i64))) ∧ Hid (Below w.heap.size w wv)) (fun _ iv _ => 2 - (intOf iv).toNat)
      case atStart => exact ⟨0, 0, k0, some ⟨g0, 0, none⟩, [], rfl, rfl, .inl ⟨rfl, rfl, rfl⟩, HO0, HB0⟩
      case round =>
        obtain ⟨k, m, c', A', zs, rfl, rfl, hkz, HO, HB⟩ := hrel
        have hbs := HB.out.size
        rcases hkz with ⟨rfl, rfl, rfl⟩ | ⟨rfl, rfl, rfl⟩ | ⟨rfl, rfl, rfl⟩
        · obtain ⟨a0, a1⟩ := HC.out _ HB.out
          go_wp2_with (at_builtin; refine wpList_append_src rfl _ _ 27 rfl 3 i (.int .i64 0) 8 Try.underlying27 HI.out HZ0.out HZ1.out HZ2.out rfl w.heap.size (.slice A' 0 c') 0 _ rfl HO.out hbs A1 n1 c1 (xs.map (Value.int .i64)) rfl (H1.out.below HB.out) HN1.out (ints_one _ _) (by have := HN.out; omega) (by have := HN.out; unfold maxLen; omega) ?_)
          intro A4 c4 w9 HO4 hg4
          have hb9 := hide (below_own9 HB.out hbs HO.out hg4 (Nat.le_refl _))
          have HO9 := hide HO4
          clear a0 a1 HO4 hg4
          go_wp2
          go_roundw
          case rel => exact ⟨1, n1, c4, A4, xs, by go_num, by simp, .inr (.inl ⟨rfl, rfl, rfl⟩), by simpa using HO9, hb9⟩
          case measure => simp [intOf]
        · obtain ⟨a0, a1⟩ := HC.out _ HB.out
          go_wp2_with (at_builtin; refine wpList_append_src rfl _ _ 27 rfl 3 i (.int .i64 0) 8 Try.underlying27 HI.out HZ0.out HZ1.out HZ2.out rfl w.heap.size (.slice A' n1 c') n1 _ rfl HO.out hbs A2 n2 c2 (ys.map (Value.int .i64)) rfl (H2.out.below HB.out) HN2.out (ints_one _ _) (by have := HN.out; omega) (by have := HN.out; unfold maxLen; omega) ?_)
          intro A4 c4 w9 HO4 hg4
          have hb9 := hide (below_own9 HB.out hbs HO.out hg4 (Nat.le_refl _))
          rw [← HN.out, ← List.map_append] at HO4
          have HO9 := hide HO4
          clear a0 a1 HO4 hg4
          go_wp2
          go_roundw
          case rel => exact ⟨2, N, c4, A4, xs ++ ys, by go_num, by rw [HN.out], .inr (.inr ⟨rfl, rfl, rfl⟩), HO9, hb9⟩
          case measure => simp [intOf]
        · obtain ⟨g', rfl⟩ : ∃ g', A' = some ⟨g', 0, none⟩ := by
            rcases HO.out.2 with ⟨_, h0⟩ | ⟨g', cap, cur, h0, _⟩
            · omega
            · cases h0; exact ⟨g', rfl⟩
          go_wp2
          go_ret
          exact ⟨g', c', by rw [← HN.out]; rfl, by rw [← HN.out]; exact HO.out, HB.out⟩

end

end Go.Proofs.Yteagmlaahnpkhaa
