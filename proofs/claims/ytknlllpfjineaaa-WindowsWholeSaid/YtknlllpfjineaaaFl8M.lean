/- Helpers of WindowsFull: a store into a row of the call's own, an append of integers as a step of a region that draws its order; the arithmetic of a window as great as the picture. -/
import Derived.Test.YtknlllpfjineaaaWC
import Derived.Test.YtknlllpfjineaaaWB
import Derived.Test.YtknlllpfjineaaaAppendM
namespace Go.Proofs.Ytknlllpfjineaaa
open Go.RowKit
set_option linter.unusedVariables false
set_option linter.unusedSimpArgs false

theorem info8N : (Try.prog.info? 21).map (fun i => (i.zero, i.size, i.bytes)) = some (some (.int .i32 0), 1, 4) := by kernel_rfl

theorem own_set8 {w : World} {base : Nat} {e : TypeId} {g n c k : Nat} {xs : List Value} {v : Value} (h : w.ownsRow base e 1 (.slice (some ⟨g, 0, none⟩) n c) n xs) (hk : k < n) :
    (w.setCell ⟨g, k, none⟩ v).ownsRow base e 1 (.slice (some ⟨g, 0, none⟩) n c) n (xs.set k v) := by
  rcases h.2 with ⟨e0, _⟩ | ⟨g', cap, cur, e0, hb, hg, hm, hl, hs, ht⟩
  · cases e0
  · cases e0
    refine ⟨by simpa using h.1, .inr ⟨g, c, cur.setIfInBounds k v, rfl, hb, ?_, hm, hl, by simpa using hs, ?_⟩⟩
    · rw [setCell_eq_setRow w g k cur e (0, 0) v hg]
      exact setRow_heap w g cur _ e (0, 0) hg
    · rw [← ht, Array.toList_setIfInBounds, List.take_set]

section
variable {P : Program} {w : World}

/-- append of a whole slice of integers, nil let in, onto a row of the call's own, nil let in: a step of a region that draws its order. -/
theorem step_append_ints8 {ops : Array Oper} {op : Oper} {a : Act} {K : Act → World → Prop} {Q : Exit → Act → World → Prop} {E : Prop} (hgd : op.guard = none) (s x : Operand) (t : TypeId)
    (hop : op.op = .call { callee := .builtin .append, args := #[s, x], argTypes := #[t, t] })
    (e : TypeId) (i : TypeInfo) (z : Value) (bytes : Nat) (ht : P.underlying t = some (.slice e)) (hi : P.info? e = some i) (hz : i.zero = some z) (hsize : i.size = 1) (hby : i.bytes = bytes) (hzs : z.cells.size = 1)
    (base : Nat) (A0 : Option Addr) (n c0 N : Nat) (k : IntKind) (xs : List Int) (hs : a.eval s = .slice A0 n c0) (ho : w.ownsRow base e 1 (.slice A0 n c0) n (xs.map (Value.int k))) (hbase : base ≤ w.heap.size) (hv0 : A0 = none → c0 = 0)
    (A : Option Addr) (q c : Nat) (zs : List Int) (hx : a.eval x = .slice A q c) (hn : Lies w A q (zs.map (Value.int k))) (hnil : A = none → c = 0) (hN : n + q = N) (hb : N * bytes ≤ 140737488355328) (h63 : N ≤ maxLen)
    (h : ∀ A' c' w', w'.ownsRow base e 1 (.slice A' N c') N ((xs ++ zs).map (Value.int k)) → w.grownBy w' (Value.slice A0 n c0).ownBlock → K (a.put op.dst (.slice A' N c')) w') :
    if Region.wanted op (yielded ops a.tmps) = true then Oper.wp P op a w K Q else E := by
  have hw : Region.wanted op (yielded ops a.tmps) = true := by simp [Region.wanted, hgd]
  rw [if_pos hw]
  subst hN
  obtain ⟨A', c', w', hrun, h2, h3⟩ := run_append_src (P := P) (w := w) t op.type e i z bytes ht hi hz hsize hby hzs base (.slice A0 n c0) n _ ho hbase A q c _ hn hnil (by intro u hu; simp at hu; obtain ⟨_, _, rfl⟩ := hu; rfl) hb h63
  rw [← List.map_append] at h2
  unfold Oper.wp
  simp [execOp, hop, resolve, invoke, builtin, hs, hx, hrun, Result.andThen]
  exact h A' c' w' h2 h3

end

theorem lies_set8 {w : World} {A : Option Addr} {n : Nat} {xs : List Value} {p : Nat} {v u : Value} (h : Lies w A n xs) (hp : ∀ b o, A = some ⟨b, o, none⟩ → b ≠ p) : Lies ((w.setCell ⟨p, 0, none⟩ v).setCell ⟨p, 1, none⟩ u) A n xs :=
  h.keep (by simp) (fun b o e hb j => World.cell?_of_block ((Below.heap_setCell _ _ _ _ (by simpa using hp b o e)).trans (Below.heap_setCell _ _ _ _ (by simpa using hp b o e))))

theorem box_ne_lies {w : World} {p n b o : Nat} {k : IntKind} {xs : List Int} {A1 B1 : Option Addr} {n1 c1 n2 c2 : Nat} (hx : BoxT w p (.slice A1 n1 c1) (.slice B1 n2 c2)) (h : Lies w (some ⟨b, o, none⟩) n (xs.map (Value.int k))) (hn : 0 < n) : b ≠ p := by
  intro e
  subst e
  obtain ⟨b', o', e', _, hc⟩ := byte_at h hn
  cases e'
  have h0 := hc 0 hn
  rw [Nat.add_zero, cell_of_row _ _ o _ _ (0, 0) hx] at h0
  match o, h0 with
  | 0, h0 => simp at h0
  | 1, h0 => simp at h0
  | _ + 2, h0 => simp at h0

/-- A list whose first k numbers are those of zs. -/
def mix8 (zs l : List Int) (k : Nat) : List Int := zs.take k ++ l.drop k

theorem mix8_zero (zs l : List Int) : mix8 zs l 0 = l := by simp [mix8]

theorem mix8_all {zs l : List Int} (h : zs.length = l.length) : mix8 zs l l.length = zs := by
  rw [mix8, List.drop_length, List.append_nil, List.take_of_length_le (by omega)]

theorem mix8_len {zs l : List Int} {k : Nat} (h : zs.length = l.length) (hk : k ≤ l.length) : (mix8 zs l k).length = l.length := by
  simp [mix8]
  omega

theorem mix8_set {zs l : List Int} {k : Nat} (h : zs.length = l.length) (hk : k < l.length) : (mix8 zs l k).set k (zs.getD k 0) = mix8 zs l (k + 1) := by
  apply List.ext_getElem?
  intro j
  have hl : (zs.take k).length = k := by simp; omega
  by_cases e : j = k
  · subst e
    rw [List.getElem?_set_self (by rw [mix8_len h (by omega)]; exact hk), mix8, List.getElem?_append_left (by simp; omega), List.getElem?_take_of_lt (by omega)]
    simp [List.getD, show j < zs.length by omega]
  · rw [List.getElem?_set_ne (by omega)]
    unfold mix8
    by_cases h1 : j < k
    · rw [List.getElem?_append_left (by simp; omega), List.getElem?_append_left (by simp; omega), List.getElem?_take_of_lt h1, List.getElem?_take_of_lt (by omega)]
    · rw [List.getElem?_append_right (by simp; omega), List.getElem?_append_right (by simp; omega), List.getElem?_drop, List.getElem?_drop]
      congr 1
      simp
      omega

theorem mix8_at {zs l : List Int} {k : Nat} (h : zs.length = l.length) (hk : k < l.length) : (mix8 zs l k).getD k 0 = l.getD k 0 := by
  rw [List.getD_eq_getElem?_getD, List.getD_eq_getElem?_getD, mix8, List.getElem?_append_right (by simp; omega), List.getElem?_drop]
  congr 2
  simp
  omega

/-- The sum of the first k products. -/
def dot8 (zs l : List Int) : Nat → Int
  | 0 => 0
  | k + 1 => add32 (dot8 zs l k) (mul32 (zs.getD k 0) (l.getD k 0))

theorem numAt_place {l : List Int} {C H V q : Nat} (hq : q < C * (H * V)) (hV : 0 < V) (hH : 0 < H) : numAt l H V (q / (H * V)) (((q / V % H : Nat) : Int)) (((q % V : Nat) : Int)) = l.getD q 0 := by
  have h1 : q / V % H < H := Nat.mod_lt _ hH
  have h2 : q % V < V := Nat.mod_lt _ hV
  rw [numAt_in (by omega)]
  congr 1
  rw [Int.toNat_natCast, Int.toNat_natCast]
  have e1 : q / (H * V) = q / V / H := by rw [Nat.mul_comm H V, Nat.div_div_eq_div_mul]
  have e2 : q / V / H * H + q / V % H = q / V := by rw [Nat.mul_comm]; exact Nat.div_add_mod _ _
  have e3 : q / V * V + q % V = q := by rw [Nat.mul_comm]; exact Nat.div_add_mod _ _
  rw [e1, e2, e3]

theorem cov_full {l zs : List Int} {C H V : Nat} (hV : 0 < V) (hH : 0 < H) : ∀ k, k ≤ C * (H * V) → covN l zs H V H V 0 0 0 k = dot8 zs l k
  | 0, _ => rfl
  | k + 1, hk => by
    rw [covN, dot8, cov_full hV hH k (Nat.le_of_succ_le hk), Int.zero_add, Int.zero_add, numAt_place (C := C) hk hV hH, Nat.zero_add]
    congr 1
    unfold mul32
    rw [Int.mul_comm]

theorem win_full (l zs : List Int) {C H V : Nat} (hV : 0 < V) (hH : 0 < H) : winL l zs C H V 1 H V 3 0 1 1 = [dot8 zs l (C * (H * V))] := by
  have e : winL l zs C H V 1 H V 3 0 1 1 = [covN l zs H V H V 0 0 0 (C * (H * V))] := by simp [winL]
  rw [e, cov_full hV hH _ (Nat.le_refl _)]

/-- A cell of a row of the call's own, and that it may be written. -/
theorem own_cells8 {w : World} {base : Nat} {e : TypeId} {g n c k : Nat} {zs : List Int} {kk : IntKind} (h : w.ownsRow base e 1 (.slice (some ⟨g, 0, none⟩) n c) n (zs.map (Value.int kk))) (hk : k < n) :
    w.cell? ⟨g, k, none⟩ = some (.int kk (zs.getD k 0)) ∧ w.frozen? ⟨g, k, none⟩ = false := by
  constructor
  · obtain ⟨b, o, e0, _, hx⟩ := byte_at (lies_of_own h) (by omega)
    cases e0
    have h1 := hx k hk
    rwa [Nat.zero_add] at h1
  · rcases h.2 with ⟨e0, _⟩ | ⟨g', cap, cur, e0, hb, hg, hm, hl, hs, ht⟩
    · cases e0
    · cases e0
      exact frozen_of_row w g k _ _ hg

/-- The numbers of one list, each together with one of another, bit by bit. -/
def xor8 (l l' : List Int) (m m' : Nat) : List Int := (List.range m).map (fun j => bits .xor .i32 (l.getD j 0) (l'.getD (j % m') 0))

theorem xor8_len (l l' : List Int) (m m' : Nat) : (xor8 l l' m m').length = m := by simp [xor8]

theorem xor8_at {l l' : List Int} {m m' k : Nat} (hk : k < m) : (xor8 l l' m m').getD k 0 = bits .xor .i32 (l.getD k 0) (l'.getD (k % m') 0) := by
  simp [xor8, List.getD, hk]

theorem ten_whole8 {C H V m : Nat} (h : tenOk [(C : Int), (H : Int), (V : Int)] m = true) : tenOk [((1 : Nat) : Int), (C : Int), (H : Int), (V : Int)] m = true := by
  obtain ⟨q1, q2⟩ := tenOk_iff.1 h
  have h4 := sizeI_le [(C : Int), (H : Int), (V : Int)]
  have hp := (sizeI_pos q1).2.2
  have e : prodZ [((1 : Nat) : Int), (C : Int), (H : Int), (V : Int)] = prodZ [(C : Int), (H : Int), (V : Int)] := by
    rw [prodZ]
    have e1 : dz ((1 : Nat) : Int) = 1 := by decide
    rw [e1, Int.one_mul]
  have e2 : sizeI [((1 : Nat) : Int), (C : Int), (H : Int), (V : Int)] = sizeI [(C : Int), (H : Int), (V : Int)] := by
    rw [sizeI, if_neg (by simp), e, if_neg (by omega), ← hp]
  exact tenOk_iff.2 ⟨by omega, by omega⟩

theorem shp_whole8 {C H V m : Nat} (h : tenOk [(C : Int), (H : Int), (V : Int)] m = true) :
    shp8E [(C : Int), (H : Int), (V : Int)] [((1 : Nat) : Int), (C : Int), (H : Int), (V : Int)] ((3 : Nat) : Int) ((0 : Nat) : Int) = 0 ∧ shp8L [(C : Int), (H : Int), (V : Int)] [((1 : Nat) : Int), (C : Int), (H : Int), (V : Int)] ((3 : Nat) : Int) ((0 : Nat) : Int) = [((1 : Nat) : Int), ((1 : Nat) : Int), ((1 : Nat) : Int)] := by
  have h1 := (tenOk_iff.1 h).1
  have h2 := (tenOk_iff.1 (ten_whole8 h)).1
  have e : shp8L [(C : Int), (H : Int), (V : Int)] [((1 : Nat) : Int), (C : Int), (H : Int), (V : Int)] ((3 : Nat) : Int) ((0 : Nat) : Int) = [((1 : Nat) : Int), ((1 : Nat) : Int), ((1 : Nat) : Int)] := by
    have f : ∀ x : Nat, hm8 ((x : Int) + 2 * ((0 : Nat) : Int)) (x : Int) ((3 : Nat) : Int) = ((1 : Nat) : Int) := by
      intro x
      rw [hm8, if_neg (by omega)]
      have : (x : Int) + 2 * ((0 : Nat) : Int) - (x : Int) = 0 := by omega
      rw [this]
      rfl
    simp only [shp8L, List.getD_cons_zero, List.getD_cons_succ, f]
  refine ⟨shp8E_iff.2 ⟨⟨h1, h2, by omega, by omega, by omega, by omega⟩, ⟨rfl, rfl, rfl⟩, ?_⟩, e⟩
  rw [e]
  decide

theorem own_ge8 {w : World} {base : Nat} {e : TypeId} {g n c : Nat} {xs : List Value} (h : w.ownsRow base e 1 (.slice (some ⟨g, 0, none⟩) n c) n xs) : base ≤ g := by
  rcases h.2 with ⟨e0, _⟩ | ⟨g', cap, cur, e0, hb, _⟩
  · cases e0
  · cases e0; exact hb

end Go.Proofs.Ytknlllpfjineaaa
