/- A shape with its strides, in a block; the contract of moves.layoutOf. -/
import Derived.Test.YtomhbhhfbbdilaaGreatDoorMv1M
namespace Go.Proofs.YtomhbhhfbbdilaaGreatDoor
open Go.RowKit
set_option linter.unusedVariables false
set_option linter.unusedSimpArgs false
set_option maxRecDepth 100000

section
variable {w : World} {p : Nat} {v u : Value}

/-- A layout in a block. -/
def BoxL (w : World) (p : Nat) (v u : Value) : Prop := w.heap[p]? = some (.cells #[v, u] 111 (0, 0))

theorem BoxL.new (w : World) (v u : Value) : BoxL (w.alloc (.cells #[v, u] 111)) w.heap.size v u := heap_alloc_new w _

theorem BoxL.lt (h : BoxL w p v u) : p < w.heap.size := lt_of_heap h

theorem BoxL.below (h : BoxL w p v u) {B : Nat} {w' : World} (hb : Below B w w') (hB : p < B) : BoxL w' p v u := (hb.block p hB).trans h

theorem BoxL.kept (h : BoxL w p v u) {w' : World} (hb : Below w.heap.size w w') : BoxL w' p v u := h.below hb h.lt

theorem BoxL.alloc (h : BoxL w p v u) (o : Obj) : BoxL (w.alloc o) p v u := h.kept ((Below.refl w.heap.size w).alloc (Nat.le_refl _) o)

theorem BoxL.set (h : BoxL w p v u) (x y : Value) : BoxL (w.setRow p #[x, y]) p x y := setRow_heap w p _ _ _ _ h

theorem BoxL.c0 (h : BoxL w p v u) : w.cell? ⟨p, 0, none⟩ = some v := cell_of_row _ _ 0 _ _ (0, 0) h

theorem BoxL.c1 (h : BoxL w p v u) : w.cell? ⟨p, 1, none⟩ = some u := cell_of_row _ _ 1 _ _ (0, 0) h

end

theorem BoxL.set2 {w : World} {p : Nat} {v u : Value} (h : BoxL w p v u) (x y : Value) : BoxL ((w.setCell ⟨p, 0, none⟩ x).setCell ⟨p, 1, none⟩ y) p x y := by
  have h0 : w.heap[p]? = some (.cells #[v, u] 111 (0, 0)) := h
  have e1 := setCell_eq_setRow w p 0 _ _ (0, 0) x h0
  have h1 := setRow_heap w p _ (#[v, u].setIfInBounds 0 x) _ _ h0
  have e2 := setCell_eq_setRow (w.setRow p (#[v, u].setIfInBounds 0 x)) p 1 _ _ (0, 0) y h1
  have h2 := setRow_heap (w.setRow p (#[v, u].setIfInBounds 0 x)) p _ ((#[v, u].setIfInBounds 0 x).setIfInBounds 1 y) _ _ h1
  rw [e1, e2]
  exact h2

theorem BoxL.f0 {w : World} {p : Nat} {v u : Value} (h : BoxL w p v u) (j : Nat) : w.frozen? ⟨p, j, none⟩ = false := by
  have h' : w.heap[p]? = some (.cells #[v, u] 111 (0, 0)) := h
  simp [World.frozen?, h']

theorem own_set9 {w : World} {base : Nat} {e : TypeId} {g n c k : Nat} {xs : List Value} {v : Value} (h : w.ownsRow base e 1 (.slice (some ⟨g, 0, none⟩) n c) n xs) (hk : k < n) :
    (w.setCell ⟨g, k, none⟩ v).ownsRow base e 1 (.slice (some ⟨g, 0, none⟩) n c) n (xs.set k v) := by
  rcases h.2 with ⟨e0, _⟩ | ⟨g', cap, cur, e0, hb, hg, hm, hl, hs, ht⟩
  · cases e0
  · cases e0
    refine ⟨by simpa using h.1, .inr ⟨g, c, cur.setIfInBounds k v, rfl, hb, ?_, hm, hl, by simpa using hs, ?_⟩⟩
    · rw [setCell_eq_setRow w g k cur e (0, 0) v hg]
      exact setRow_heap w g cur _ e (0, 0) hg
    · rw [← ht, Array.toList_setIfInBounds, List.take_set]

theorem own_cells9 {w : World} {base : Nat} {e : TypeId} {g n c k : Nat} {zs : List Int} {kk : IntKind} (h : w.ownsRow base e 1 (.slice (some ⟨g, 0, none⟩) n c) n (zs.map (Value.int kk))) (hk : k < n) :
    w.cell? ⟨g, k, none⟩ = some (.int kk (zs.getD k 0)) ∧ w.frozen? ⟨g, k, none⟩ = false := by
  constructor
  · obtain ⟨b, o, e0, _, hx⟩ := byte_at (lies_of_own h) (by omega)
    cases e0
    have h1 := hx k hk
    rwa [Nat.zero_add] at h1
  · rcases h.2 with ⟨e0, _⟩ | ⟨g', cap, cur, e0, hb, hg, hm, hl, hs, ht⟩
    · cases e0
    · cases e0
      exact frozen_of_row w g k _ _ hg

theorem own_ge9 {w : World} {base : Nat} {e : TypeId} {g n c : Nat} {xs : List Value} (h : w.ownsRow base e 1 (.slice (some ⟨g, 0, none⟩) n c) n xs) : base ≤ g := by
  rcases h.2 with ⟨e0, _⟩ | ⟨g', cap, cur, e0, hb, _⟩
  · cases e0
  · cases e0; exact hb

theorem results_lay {fn : Func} {p : Tmp} (h : fn.results = #[.cell p 111]) (tmps : Array Value) (w : World) (g : Nat) (cs : Array Value)
    (hp : tmps.getD p undef = .pointer (some ⟨g, 0, none⟩)) (hg : w.heap[g]? = some (.cells cs 111 (0, 0))) (hs : cs.size = 2) :
    (results fn tmps).run Tryz.prog w = .ok (.agg cs) w :=
  results_cell_row h tmps w g 111 cs (0, 0) _ hp hg Tryz.underlying111 rfl (by rw [hs]; kernel_rfl)

theorem ret_lay {fn : Func} {p : Tmp} {R : Ending → World → Prop} {a : Act} {w : World} (h : fn.results = #[.cell p 111]) (hd : a.defers = []) (g : Nat) (cs : Array Value)
    (hp : a.tmps.getD p undef = .pointer (some ⟨g, 0, none⟩)) (hg : w.heap[g]? = some (.cells cs 111 (0, 0))) (hs : cs.size = 2) (hR : R (.returned (.agg cs)) w) : bodyPost Tryz.prog fn R .ret a w :=
  bodyPost_ret (results_lay h _ w g cs hp hg hs) hd hR

theorem make_ints9 (w : World) (n : Nat) (h : n ≤ 1048576) : (Instr.makeSlice 31 (.int .i64 (n : Int)) (.int .i64 (n : Int))).run Tryz.prog w = .ok (.slice (some ⟨w.heap.size, 0, none⟩) n n) (w.alloc (.cells ((List.replicate n (0 : Int)).map (Value.int .i64)).toArray 3)) := by
  obtain ⟨i0, hi, hz0, hz1, hz2⟩ := info_parts Tryz.infoI
  have hr := run_make (P := Tryz.prog) w 31 3 i0 (.int .i64 0) Tryz.underlying31 hi hz0 .i64 .i64 (n : Int) (n : Int) (by omega) (by omega) (by rw [hz2]; omega) (by omega)
  have e : madeCells (Value.int .i64 0).cells n = ((List.replicate n (0 : Int)).map (Value.int .i64)).toArray := by
    apply Array.toList_inj.1
    have := toList_madeCells_one (.int .i64 0) n
    simpa [Value.cells] using this
  rw [hr, hz1]
  simp only [Int.toNat_natCast, Nat.mul_one]
  rw [e]

/-- The strides of a shape: what the directions behind each come to. -/
def strL : List Int → List Int
  | [] => []
  | _ :: l => prodZ l :: strL l

theorem strL_len : ∀ s : List Int, (strL s).length = s.length
  | [] => rfl
  | _ :: l => by simp [strL, strL_len l]

theorem strL_at : ∀ (s : List Int) (d : Nat), d < s.length → (strL s).getD d 0 = prodZ (s.drop (d + 1))
  | [], d, h => by simp at h
  | x :: l, 0, _ => by simp [strL]
  | x :: l, d + 1, h => by
    have := strL_at l d (by simpa using h)
    simpa [strL] using this

/-- The strides while they are laid, from the last one on. -/
def strP (s : List Int) (j : Nat) : List Int := List.replicate j 0 ++ strL (s.drop j)

theorem strP_len {s : List Int} {j : Nat} (h : j ≤ s.length) : (strP s j).length = s.length := by
  simp [strP, strL_len]; omega

theorem strP_set {s : List Int} {j : Nat} (h : j < s.length) : (strP s (j + 1)).set j (prodZ (s.drop (j + 1))) = strP s j := by
  unfold strP
  rw [drop_at h, strL, List.set_append_left _ _ (by simp)]
  rw [List.replicate_succ', List.set_append_right _ _ (by simp)]
  simp

set_option maxHeartbeats 4000000 in
theorem layoutOf_ok (A : Option Addr) (n c : Nat) (s : List Int) (w : World) (hA : Lies w A n (s.map (Value.int .i64))) (hs : 0 < sizeI s) :
    Calls Tryz.prog 109 #[.slice A n c] w fun e w' => ∃ g, e = .returned (.agg #[.slice A n c, .slice (some ⟨g, 0, none⟩) n n]) ∧ w'.ownsRow w.heap.size 3 1 (.slice (some ⟨g, 0, none⟩) n n) n ((strL s).map (Value.int .i64)) ∧ Below w.heap.size w w' := by
  have hlen : s.length = n := by have := hA.len; simpa using this
  obtain ⟨hn1, hn4, hsz⟩ := sizeI_pos hs
  have hdim := size_dims hs
  rw [hlen] at hn1 hn4
  have HDIM := hide hdim
  have HLEN := hide hlen
  have HA := hide hA
  obtain ⟨b, o, rfl, _, hx⟩ := byte_at hA (by omega)
  have hmk := fun v => make_ints9 v n (by omega)
  obtain ⟨W1, hW1⟩ : ∃ W, W = (w.alloc (.cells #[.slice none 0 0, .slice none 0 0] 111)).alloc (.cells ((List.replicate n (0 : Int)).map (Value.int .i64)).toArray 3) := ⟨_, rfl⟩
  have hs1 : W1.heap.size = w.heap.size + 2 := by rw [hW1]; simp
  obtain ⟨W2, hW2⟩ : ∃ W, W = W1.alloc (.cells #[.slice (some ⟨b, o, none⟩) n c, .slice (some ⟨w.heap.size + 1, 0, none⟩) n n] 111) := ⟨_, rfl⟩
  have HB0 : Hid (Below w.heap.size w W2) := hide (by rw [hW2, hW1]; exact below_al6 (((Below.refl w.heap.size w).alloc (Nat.le_refl _) _).alloc (by simp only [World.size_alloc]; omega) _))
  have HXR : Hid (BoxL W2 w.heap.size (.slice none 0 0) (.slice none 0 0)) := hide (by rw [hW2, hW1]; exact ((BoxL.new w _ _).alloc _).alloc _)
  have HX : Hid (BoxL W2 (w.heap.size + 2) (.slice (some ⟨b, o, none⟩) n c) (.slice (some ⟨w.heap.size + 1, 0, none⟩) n n)) := hide (by rw [hW2, ← hs1]; exact BoxL.new W1 _ _)
  have HO : Hid (W2.ownsRow (w.heap.size + 1) 3 1 (.slice (some ⟨w.heap.size + 1, 0, none⟩) n n) n ((strP s n).map (Value.int .i64))) := hide (by
    have e : strP s n = List.replicate n 0 := by rw [strP, List.drop_eq_nil_of_le (by omega), strL, List.append_nil]
    rw [e, hW2]
    refine own_below ?_ (below_al6 (Below.refl _ _))
    have h := heap_alloc_new (w.alloc (.cells #[.slice none 0 0, .slice none 0 0] 111)) (.cells ((List.replicate n (0 : Int)).map (Value.int .i64)).toArray 3)
    rw [World.size_alloc, ← hW1] at h
    exact own_of_block (Nat.le_refl _) h (by simp) (Nat.le_refl _) (by unfold maxLen; omega) (by simp))
  have earr : ((List.replicate n (0 : Int)).map (Value.int .i64)).toArray = Array.replicate n (.int .i64 0) := by simp
  rw [earr] at hW1
  have hW1' := hW1.symm
  have hW2' := hW2.symm
  have hnn : (1 : Int) ≤ (n : Int) := by omega
  clear hA hs hsz hdim hlen hx hW1 hW2 earr
  go_enter Tryz.func109, Tryz.ntmps109
  go_wp2
  go_loopw [4, 5] (fun sv dv wr => ∃ (j : Nat) (dd q : Int), j ≤ n ∧ Hid (dd = (j : Int) - 1) ∧ Hid (q = prodZ (s.drop j)) ∧ dv = .int .i64 dd ∧ sv = .int .i64 q ∧ Hid (BoxL wr (w.heap.size + 2) (.slice (some ⟨b, o, none⟩) n c) (.slice (some ⟨w.heap.size + 1, 0, none⟩) n n)) ∧ Hid (BoxL wr w.heap.size (.slice none 0 0) (.slice none 0 0)) ∧ Hid (wr.ownsRow (w.heap.size + 1) 3 1 (.slice (some ⟨w.heap.size + 1, 0, none⟩) n n) n ((strP s j).map (Value.int .i64))) ∧ Hid (Below w.heap.size w wr)) (fun _ dv _ => (intOf dv + 1).toNat)
  case atStart => exact ⟨n, (n : Int) - 1, 1, Nat.le_refl _, hide rfl, hide (by rw [List.drop_eq_nil_of_le (by have := HLEN.out; omega)]; rfl), by go_num, rfl, HX, HXR, HO, HB0⟩
  case round =>
  clear HX HXR HO HB0
  obtain ⟨j, dd, q, hj, HD, HQ, rfl, rfl, HX, HXR, HO, HB⟩ := hrel
  have x0 := HX.out.c0
  have x1 := HX.out.c1
  cases j with
  | zero =>
    obtain rfl : dd = -1 := by have := HD.out; omega
    have r0 := HXR.out.c0
    have r1 := HXR.out.c1
    have rf0 := HXR.out.f0 0
    have rf1 := HXR.out.f0 1
    have hge := own_ge9 HO.out
    go_wp2
    (try simp only [Exit.inBlock, Exit.then])
    refine ret_lay (p := 2) rfl rfl w.heap.size _ rfl (HXR.out.set2 _ _) rfl ?_
    have hO : strP s 0 = strL s := by rw [strP, List.replicate_zero, List.nil_append, List.drop_zero]
    have HO2 := HO.out
    rw [hO] at HO2
    exact ⟨w.heap.size + 1, rfl, own_base (own_setCell' (own_setCell' HO2 (by dsimp only; omega) _) (by dsimp only; omega) _) (by omega), (HB.out.setCell (by dsimp only; omega) _).setCell (by dsimp only; omega) _⟩
  | succ j =>
    obtain rfl : dd = (j : Int) := by have := HD.out; omega
    have hjn : j < n := hj
    obtain ⟨x, hx⟩ : ∃ z, z = s.getD j 0 := ⟨_, rfl⟩
    have hd := HDIM.out.at (k := j) (by rw [HLEN.out]; exact hjn)
    rw [← hx] at hd
    have hpr := prodZ_drop (xs := s) (k := j) (by rw [HLEN.out]; exact hjn)
    rw [← hx, hd.2.2, ← HQ.out] at hpr
    have hp0 := prodZ_nonneg (s.drop j)
    have hp1 := prodZ_small (l := s.drop j) (by rw [List.length_drop, HLEN.out]; omega)
    obtain ⟨q2, hq2⟩ : ∃ z, z = prodZ (s.drop j) := ⟨_, rfl⟩
    rw [← hq2] at hpr hp0 hp1
    have m1 : IntKind.i64.wrap (q * x) = q2 := by rw [hpr, IntKind.wrap_i64]; omega
    have m2 : q * x = q2 := hpr
    have HQ2 := hide hq2
    obtain ⟨hg1, hf1⟩ := own_cells9 HO.out hjn
    obtain ⟨z0, hz0⟩ : ∃ z, z = (strP s (j + 1)).getD j 0 := ⟨_, rfl⟩
    rw [← hz0] at hg1
    have hge := own_ge9 HO.out
    have h0 : (0 : Int) ≤ (j : Int) := by omega
    have h1 : (j : Int) < (n : Int) := by omega
    obtain ⟨_, _, e1, hbw, hxA⟩ := byte_at HA.out (by omega)
    cases e1
    have hcx : wr.cell? ⟨b, o + j, none⟩ = some (.int .i64 x) := by
      obtain ⟨_, _, e2, _, hxB⟩ := byte_at (HA.out.below HB.out) (by omega)
      cases e2
      rw [hx]; exact hxB j hjn
    have hb1 : b < w.heap.size := hbw
    have hcx2 : (wr.setCell ⟨w.heap.size + 1, j, none⟩ (.int .i64 q)).cell? ⟨b, o + j, none⟩ = some (.int .i64 x) := (World.cell?_of_block (Below.heap_setCell _ _ _ _ (by dsimp only; omega))).trans hcx
    have HX2 : Hid (BoxL (wr.setCell ⟨w.heap.size + 1, j, none⟩ (.int .i64 q)) (w.heap.size + 2) (.slice (some ⟨b, o, none⟩) n c) (.slice (some ⟨w.heap.size + 1, 0, none⟩) n n)) := hide ((Below.heap_setCell _ _ _ _ (by dsimp only; omega)).trans HX.out)
    have HXR2 : Hid (BoxL (wr.setCell ⟨w.heap.size + 1, j, none⟩ (.int .i64 q)) w.heap.size (.slice none 0 0) (.slice none 0 0)) := hide ((Below.heap_setCell _ _ _ _ (by dsimp only; omega)).trans HXR.out)
    have HO2 : Hid ((wr.setCell ⟨w.heap.size + 1, j, none⟩ (.int .i64 q)).ownsRow (w.heap.size + 1) 3 1 (.slice (some ⟨w.heap.size + 1, 0, none⟩) n n) n ((strP s j).map (Value.int .i64))) := hide (by
      have h := own_set9 (v := .int .i64 q) HO.out hjn
      have e : ((strP s (j + 1)).map (Value.int .i64)).set j (.int .i64 q) = (strP s j).map (Value.int .i64) := by
        rw [← List.map_set, HQ.out, strP_set (by rw [HLEN.out]; exact hjn)]
      rwa [e] at h)
    have HB2 : Hid (Below w.heap.size w (wr.setCell ⟨w.heap.size + 1, j, none⟩ (.int .i64 q))) := hide (HB.out.setCell (by dsimp only; omega) _)
    have y0 := HX2.out.c0
    have y1 := HX2.out.c1
    clear hx hd hpr hq2 hz0 hxA
    go_wp2
    go_roundw
    case rel => exact ⟨j, (j : Int) - 1, q2, by omega, hide rfl, HQ2, by go_num, rfl, HX2, HXR2, HO2, HB2⟩
    case measure => first | (simp [intOf]; done) | (simp [intOf]; omega)

end Go.Proofs.YtomhbhhfbbdilaaGreatDoor
