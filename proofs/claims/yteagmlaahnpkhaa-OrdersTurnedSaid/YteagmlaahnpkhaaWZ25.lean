/- Merged: Od5, Od6, Od7, Od8, Od9. -/
import Derived.Test.YteagmlaahnpkhaaWZ24
import Derived.Test.YteagmlaahnpkhaaWZ09
import Derived.BigQuiet
namespace Go.Proofs.Yteagmlaahnpkhaa

section
open Go.RowKit
set_option linter.unusedVariables false
set_option linter.unusedSimpArgs false
set_option maxRecDepth 100000

theorem Need.front {ns : List Nd} {i j : Nat} (hv : Vld ns) : Need ns i j ↔ j = i ∨ ∃ k : Nat, (k : Int) ∈ insN ns i ∧ Need ns k j := by
  constructor
  · intro h
    refine h (fun j => j = i ∨ ∃ k : Nat, (k : Int) ∈ insN ns i ∧ Need ns k j) (.inl rfl) ?_
    intro a b ha hb
    rcases ha with rfl | ⟨k, hk, ha⟩
    · exact .inr ⟨b, hb, Need.refl _ _⟩
    · exact .inr ⟨k, hk, ha.step hb⟩
  · rintro (rfl | ⟨k, hk, h⟩)
    · exact Need.refl _ _
    · exact ((Need.refl _ _).step hk).trans h

/-- The marks as they lie there, what the closure has caught beside them. -/
def MkAt (w0 w : World) (A : Option Addr) (n c p q r m : Nat) (M : List Bool) : Prop :=
  Below w0.heap.size w0 w ∧ (w0.heap.size ≤ m ∧ m ≠ p ∧ m ≠ q ∧ m ≠ r) ∧
  w.heap[p]? = some (.cells #[.slice (some ⟨m, 0, none⟩) n n] 45 (0, 0)) ∧
  w.heap[q]? = some (.cells #[.slice A n c] 22 (0, 0)) ∧
  w.heap[r]? = some (.cells #[.func (.func 25) #[] #[.pointer (some ⟨p, 0, none⟩), .pointer (some ⟨q, 0, none⟩), .pointer (some ⟨r, 0, none⟩)]] 54 (0, 0)) ∧
  w.heap[m]? = some (.cells (M.map Value.bool).toArray 4 (0, 0))

theorem MkAt.cs {w0 w : World} {A : Option Addr} {n c p q r m : Nat} {M : List Bool} (h : MkAt w0 w A n c p q r m M) : w.cell? ⟨p, 0, none⟩ = some (.slice (some ⟨m, 0, none⟩) n n) ∧ w.cell? ⟨q, 0, none⟩ = some (.slice A n c) ∧ w.cell? ⟨r, 0, none⟩ = some (.func (.func 25) #[] #[.pointer (some ⟨p, 0, none⟩), .pointer (some ⟨q, 0, none⟩), .pointer (some ⟨r, 0, none⟩)]) :=
  ⟨cell_of_row _ _ 0 _ _ (0, 0) h.2.2.1, cell_of_row _ _ 0 _ _ (0, 0) h.2.2.2.1, cell_of_row _ _ 0 _ _ (0, 0) h.2.2.2.2.1⟩

theorem MkAt.cm {w0 w : World} {A : Option Addr} {n c p q r m i : Nat} {M : List Bool} {b : Bool} (h : MkAt w0 w A n c p q r m M) (hi : M[i]? = some b) : w.cell? ⟨m, i, none⟩ = some (.bool b) := by
  rw [cell_of_row _ _ i _ _ (0, 0) h.2.2.2.2.2]
  simp [hi]

theorem MkAt.frozen {w0 w : World} {A : Option Addr} {n c p q r m i : Nat} {M : List Bool} (h : MkAt w0 w A n c p q r m M) : w.frozen? ⟨m, i, none⟩ = false := by
  simp [World.frozen?, h.2.2.2.2.2]

theorem MkAt.set {w0 w : World} {A : Option Addr} {n c p q r m : Nat} {M : List Bool} (h : MkAt w0 w A n c p q r m M) (i : Nat) : MkAt w0 (w.setCell ⟨m, i, none⟩ (.bool true)) A n c p q r m (M.set i true) := by
  obtain ⟨h1, ⟨h2, h3, h4, h5⟩, h6, h7, h8, h9⟩ := h
  have e := setCell_eq_setRow w m i _ _ (0, 0) (.bool true) h9
  refine ⟨h1.setCell (p := ⟨m, i, none⟩) h2 _, ⟨h2, h3, h4, h5⟩, ?_, ?_, ?_, ?_⟩
  · rw [Below.heap_setCell _ _ _ _ (by dsimp only; omega)]; exact h6
  · rw [Below.heap_setCell _ _ _ _ (by dsimp only; omega)]; exact h7
  · rw [Below.heap_setCell _ _ _ _ (by dsimp only; omega)]; exact h8
  · rw [e, setRow_heap w m _ _ _ (0, 0) h9]
    simp [List.map_set]

theorem MkAt.drew {w0 w : World} {A : Option Addr} {n c p q r m : Nat} {M : List Bool} (h : MkAt w0 w A n c p q r m M) : MkAt w0 w.drew A n c p q r m M := ⟨below_drewN h.1 1, h.2⟩

set_option maxHeartbeats 8000000 in
theorem mark_any (w0 : World) (A : Option Addr) (n c : Nat) (ns : List Nd) (h : NsIn w0 A n ns) (hn : n ≤ 1073741824) (hv : Vld ns) (p q r m : Nat) : ∀ (i : Nat), i < n → ∀ (M : List Bool) (w : World), M.length = n → MkAt w0 w A n c p q r m M →
    (∀ k l : Nat, k ≤ i → M[k]? = some true → (l : Int) ∈ insN ns k → M[l]? = some true) →
    Calls Try.prog 25 #[.int .i64 (i : Int), .pointer (some ⟨p, 0, none⟩), .pointer (some ⟨q, 0, none⟩), .pointer (some ⟨r, 0, none⟩)] w fun e w' => e = .returned (.tuple #[]) ∧ ∃ M', M'.length = n ∧ (∀ j, M'[j]? = some true ↔ M[j]? = some true ∨ Need ns i j) ∧ MkAt w0 w' A n c p q r m M' := by
  intro i
  induction i using Nat.strongRecOn with
  | ind i ih =>
  intro hi M w hM hA hcl
  have HIH := hide ih
  have HN := hide h
  have HV := hide hv
  have HA := hide hA
  have HM := hide hM
  have HCL := hide hcl
  obtain ⟨c1, c2, c3⟩ := hA.cs
  obtain ⟨b, hb⟩ : ∃ b, M[i]? = some b := ⟨M[i]'(by omega), List.getElem?_eq_getElem (by omega)⟩
  have c4 := hA.cm hb
  have c5 := hA.frozen (i := i)
  have HBI := hide hb
  have f0 : (0 : Int) ≤ (i : Int) := by omega
  have f1 : (i : Int) < (n : Int) := by omega
  clear ih h hv hA hM hcl hb
  go_enter Try.func25, Try.ntmps25
  cases b with
  | true =>
    go_wp2
    (try simp only [Exit.inBlock, Exit.then])
    refine bodyPost_ret (results_none rfl _ _ _) rfl ?_
    refine ⟨rfl, M, HM.out, fun j => ⟨.inl, ?_⟩, HA.out⟩
    rintro (h | h)
    · exact h
    · refine (h (fun j => j ≤ i ∧ M[j]? = some true) ⟨Nat.le_refl _, HBI.out⟩ ?_).2
      intro k l hk hl
      have := HV.out k _ hl
      exact ⟨by omega, HCL.out k l hk.1 hk.2 hl⟩
  | false =>
    obtain ⟨W1, hW1⟩ : ∃ W1, W1 = w.setCell ⟨m, i, none⟩ (.bool true) := ⟨_, rfl⟩
    have hA1 : MkAt w0 W1 A n c p q r m (M.set i true) := by rw [hW1]; exact HA.out.set i
    obtain ⟨d1, d2, d3⟩ := hA1.cs
    have HA1 := hide hA1
    obtain ⟨b1, o1, x, rfl, hx, h0, h1, h2, h3, h4, hxo⟩ := (HN.out.below hA1.1).at hi
    have hW1' := hW1.symm
    clear hW1 hA1
    have HX := hide hx
    have HXI : Hid (insN ns i = x.xs) := hide (insN_at hx)
    have HLX : Hid (Lies w0 x.I x.ni (x.xs.map (Value.int .i64)) ∧ x.ni ≤ 70368744177664) := hide (by
      obtain ⟨b2, o2, x2, _, hx2, _, _, _, _, _, ho2⟩ := HN.out.at hi
      rw [hx] at hx2
      cases hx2
      exact ⟨ho2.1, ho2.2.2.2.2.1⟩)
    have HLN : Hid (x.xs.length = x.ni) := hide (lies_len9 HLX.out.1)
    clear hx hxo
    go_wp2
    go_loopw [20] (fun z wr => ∃ (j : Nat) (M2 : List Bool), j ≤ x.ni ∧ z = .int .i64 j ∧ Hid (M2.length = n) ∧ Hid (∀ t, M2[t]? = some true ↔ M[t]? = some true ∨ t = i ∨ ∃ k : Nat, (k : Int) ∈ x.xs.take j ∧ Need ns k t) ∧ Hid (MkAt w0 wr (some ⟨b1, o1, none⟩) n c p q r m M2)) (fun z _ => x.ni - (intOf z).toNat)
    case atStart =>
      refine ⟨0, M.set i true, Nat.zero_le _, rfl, hide (by rw [List.length_set]; exact HM.out), hide (fun t => ?_), HA1⟩
      rw [List.getElem?_set]
      by_cases e : i = t
      · subst e
        rw [if_pos rfl, if_pos (by rw [HM.out]; exact hi)]
        simp
      · rw [if_neg e]
        constructor
        · exact .inl
        · rintro (h | h | ⟨k, hk, _⟩)
          · exact h
          · exact absurd h.symm e
          · simp at hk
    case round =>
      obtain ⟨j, M2, hj, rfl, HM2, HT, HA2⟩ := hrel
      by_cases hlt : j < x.ni
      · obtain ⟨b2, o2, eI, _, hx2⟩ := byte_at (HLX.out.1.below HA2.out.1) (by omega)
        have hc := hx2 j hlt
        obtain ⟨z, hze⟩ : ∃ z, z = x.xs.getD j 0 := ⟨_, rfl⟩
        rw [← hze] at hc
        have hzm : z ∈ insN ns i := by rw [HXI.out, hze]; exact getD_mem (by rw [HLN.out]; exact hlt)
        have hzb := HV.out i z hzm
        obtain ⟨k, rfl⟩ := Int.eq_ofNat_of_zero_le hzb.1
        have hki : k < i := by omega
        have HTK : Hid (x.xs.take (j + 1) = x.xs.take j ++ [(k : Int)]) := hide (by rw [hze]; exact take_getD (by rw [HLN.out]; exact hlt))
        have HC := hide (HIH.out k hki (by omega) M2 wr HM2.out HA2.out (by
          intro a l ha hma hl
          rcases (HT.out a).1 hma with h | rfl | ⟨y, hy, h⟩
          · exact (HT.out l).2 (.inl (HCL.out a l (by omega) h hl))
          · omega
          · exact (HT.out l).2 (.inr (.inr ⟨y, hy, h.step hl⟩))))
        have hlist := HA2.out.cs
        obtain ⟨g1, g2, g3⟩ := hlist
        have hni : x.ni ≤ 70368744177664 := HLX.out.2
        have j0 : (0 : Int) ≤ (j : Int) := by omega
        have j1 : (j : Int) < (x.ni : Int) := by omega
        rw [eI]
        have HEI := hide eI
        clear hx2 hze hzm hzb eI
        go_wp2_with fail
        refine Calls.mono HC.out ?_
        rintro e w2 ⟨rfl, M3, hM3, hT3, hA3⟩
        have HM3 := hide hM3
        have HA3 := hide hA3
        have HT3 : Hid (∀ t, M3[t]? = some true ↔ M[t]? = some true ∨ t = i ∨ ∃ k : Nat, (k : Int) ∈ x.xs.take (j + 1) ∧ Need ns k t) := hide (fun t => by
          rw [hT3 t, HT.out t, HTK.out]
          constructor
          · rintro ((h | h | ⟨y, hy, h⟩) | h)
            · exact .inl h
            · exact .inr (.inl h)
            · exact .inr (.inr ⟨y, List.mem_append.2 (.inl hy), h⟩)
            · exact .inr (.inr ⟨k, List.mem_append.2 (.inr (List.mem_singleton.2 rfl)), h⟩)
          · rintro (h | h | ⟨y, hy, h⟩)
            · exact .inl (.inl h)
            · exact .inl (.inr (.inl h))
            · rcases List.mem_append.1 hy with hy | hy
              · exact .inl (.inr (.inr ⟨y, hy, h⟩))
              · rw [List.mem_singleton] at hy
                have : y = k := by omega
                subst this
                exact .inr h)
        clear hM3 hT3 hA3 HC g1 g2 g3 hc
        go_wp2
        go_roundw
        case rel => exact ⟨j + 1, M3, by omega, by go_num, HM3, HT3, HA3⟩
        case measure => simp [intOf] <;> omega
      · obtain rfl : j = x.ni := by omega
        have j1 : ¬ ((x.ni : Int) < (x.ni : Int)) := by omega
        go_wp2
        go_end0
        refine ⟨rfl, M2, HM2.out, fun t => ?_, HA2.out⟩
        rw [HT.out t, List.take_of_length_le (by rw [HLN.out]; exact Nat.le_refl _), Need.front HV.out, HXI.out]

theorem make_bools (w : World) (n : Nat) (h : n ≤ 1048576) : (Instr.makeSlice 45 (.int .i64 (n : Int)) (.int .i64 (n : Int))).run Try.prog w = .ok (.slice (some ⟨w.heap.size, 0, none⟩) n n) (w.alloc (.cells ((List.replicate n false).map Value.bool).toArray 4)) := by
  have hib : (Try.prog.info? 4).map (fun i => (i.zero, i.size, i.bytes)) = some (some (.bool false), 1, 1) := by kernel_rfl
  obtain ⟨i0, hi, hz0, hz1, hz2⟩ := info_parts hib
  have hr := run_make (P := Try.prog) w 45 4 i0 (.bool false) Try.underlying45 hi hz0 .i64 .i64 (n : Int) (n : Int) (by omega) (by omega) (by rw [hz2]; omega) (by omega)
  have e : madeCells (Value.bool false).cells n = ((List.replicate n false).map Value.bool).toArray := by
    apply Array.toList_inj.1
    have := toList_madeCells_one (.bool false) n
    simpa [Value.cells] using this
  rw [hr, hz1]
  simp only [Int.toNat_natCast, Nat.mul_one]
  rw [e]

set_option maxHeartbeats 4000000 in
theorem needed_any (A : Option Addr) (n c : Nat) (ns : List Nd) (w : World) (h : NsIn w A n ns) (h1 : 1 ≤ n) (hn : n ≤ 1048576) (hv : Vld ns) :
    Calls Try.prog 19 #[.slice A n c] w fun e w' => ∃ (g : Nat) (M : List Bool), e = .returned (.slice (some ⟨g, 0, none⟩) n n) ∧ w.heap.size ≤ g ∧ w'.heap[g]? = some (.cells (M.map Value.bool).toArray 4 (0, 0)) ∧ M.length = n ∧ (∀ j, M[j]? = some true ↔ Need ns (n - 1) j) ∧ Below w.heap.size w w' := by
  obtain ⟨W0, hW0⟩ : ∃ W0, W0 = w.alloc (.cells #[.slice A n c] 22) := ⟨_, rfl⟩
  have s0 : W0.heap.size = w.heap.size + 1 := by rw [hW0]; simp
  have g0 : W0.heap[w.heap.size]? = some (.cells #[.slice A n c] 22 (0, 0)) := by rw [hW0]; exact heap_alloc_new w _
  have b0 : Below w.heap.size w W0 := by rw [hW0]; exact below_al6 (Below.refl _ _)
  have cq : W0.cell? ⟨w.heap.size, 0, none⟩ = some (.slice A n c) := cell_of_row _ _ 0 _ _ (0, 0) g0
  have hmk := make_bools W0 n hn
  obtain ⟨W1, hW1⟩ : ∃ W1, W1 = W0.alloc (.cells ((List.replicate n false).map Value.bool).toArray 4) := ⟨_, rfl⟩
  have s1 : W1.heap.size = W0.heap.size + 1 := by rw [hW1]; simp
  have g1 : W1.heap[W0.heap.size]? = some (.cells ((List.replicate n false).map Value.bool).toArray 4 (0, 0)) := by rw [hW1]; exact heap_alloc_new W0 _
  have b1 : Below W0.heap.size W0 W1 := by rw [hW1]; exact below_al6 (Below.refl _ _)
  obtain ⟨W2, hW2⟩ : ∃ W2, W2 = W1.alloc (.cells #[.slice (some ⟨W0.heap.size, 0, none⟩) n n] 45) := ⟨_, rfl⟩
  have s2 : W2.heap.size = W0.heap.size + 1 + 1 := by rw [hW2]; simp [s1]
  have g2 : W2.heap[W0.heap.size + 1]? = some (.cells #[.slice (some ⟨W0.heap.size, 0, none⟩) n n] 45 (0, 0)) := by rw [hW2, ← s1]; exact heap_alloc_new W1 _
  have b2 : Below W1.heap.size W1 W2 := by rw [hW2]; exact below_al6 (Below.refl _ _)
  obtain ⟨W3, hW3⟩ : ∃ W3, W3 = W2.alloc (.cells #[.func (.func 25) #[] #[.pointer (some ⟨W0.heap.size + 1, 0, none⟩), .pointer (some ⟨w.heap.size, 0, none⟩), .pointer (some ⟨W0.heap.size + 1 + 1, 0, none⟩)]] 54) := ⟨_, rfl⟩
  have g3 : W3.heap[W0.heap.size + 1 + 1]? = some (.cells #[.func (.func 25) #[] #[.pointer (some ⟨W0.heap.size + 1, 0, none⟩), .pointer (some ⟨w.heap.size, 0, none⟩), .pointer (some ⟨W0.heap.size + 1 + 1, 0, none⟩)]] 54 (0, 0)) := by rw [hW3, ← s2]; exact heap_alloc_new W2 _
  have b3 : Below W2.heap.size W2 W3 := by rw [hW3]; exact below_al6 (Below.refl _ _)
  have hA : MkAt w W3 A n c (W0.heap.size + 1) w.heap.size (W0.heap.size + 1 + 1) (W0.heap.size) (List.replicate n false) :=
    ⟨below_nx6 (below_nx6 (below_nx6 b0 b1) b2) b3, ⟨by omega, by omega, by omega, by omega⟩, (b3.block _ (by omega)).trans g2, (b3.block _ (by omega)).trans ((b2.block _ (by omega)).trans ((b1.block _ (by omega)).trans g0)), g3, (b3.block _ (by omega)).trans ((b2.block _ (by omega)).trans g1)⟩
  have hC := mark_any w A n c ns h (by omega) hv (W0.heap.size + 1) w.heap.size (W0.heap.size + 1 + 1) (W0.heap.size) (n - 1) (by omega) (List.replicate n false) W3 (by simp) hA (by
    intro k l _ hk _
    rw [List.getElem?_replicate] at hk
    split at hk
    · cases hk
    · cases hk)
  rw [show ((n - 1 : Nat) : Int) = (n : Int) - 1 by omega] at hC
  have HC := hide hC
  have c3 := hA.cs.2.1
  have c5 := hA.cs.2.2
  have HS0 : Hid (w.heap.size ≤ W0.heap.size) := hide (by omega)
  simp only [List.map_replicate, List.toArray_replicate] at hW1
  have hW3' := hW3.symm
  rw [hW2, hW1] at hW3'
  have hW0' := hW0.symm
  clear hW0 hW1 hW2 hW3 h hv g0 g1 g2 g3 b0 b1 b2 b3 hA hC s0 s1 s2
  go_enter Try.func19, Try.ntmps19
  go_wp2_with fail
  refine Calls.mono HC.out ?_
  rintro e w4 ⟨rfl, M, hM, hT, hA4⟩
  have c4 := hA4.cs.1
  have HA4 := hide hA4
  have HT : Hid (∀ j, M[j]? = some true ↔ Need ns (n - 1) j) := hide (fun j => by
    rw [hT j]
    constructor
    · rintro (h | h)
      · rw [List.getElem?_replicate] at h
        split at h
        · cases h
        · cases h
      · exact h
    · exact .inr)
  clear hT hA4 HC c3 c5 cq hmk hW3' hW0'
  go_wp2
  go_ret
  exact ⟨W0.heap.size, M, rfl, HS0.out, HA4.out.2.2.2.2.2, hM, HT.out, HA4.out.1⟩

end

section
open Go.RowKit
set_option linter.unusedVariables false
set_option linter.unusedSimpArgs false
set_option maxRecDepth 100000

theorem gphB_n {ns : List Nd} (h : gphB ns = true) : 1 ≤ ns.length ∧ ns.length ≤ 32 := by
  obtain ⟨h1, h2, _, _⟩ := endsOk_parts (gphB_parts h).1
  have := inIx_ge ns
  omega

set_option maxHeartbeats 2000000 in
theorem of12_no (A : Option Addr) (n c : Nat) (ns : List Nd) (w : World) (h : NsIn w A n ns) (hn : n ≤ 1073741824) (hc : n ≤ c) (hg : gphB ns = false) :
    Calls Try.prog 10 #[.agg #[.slice A n c]] w fun e w' => e = .returned (.tuple #[.slice none 0 0, .int .i64 1]) ∧ Below w.heap.size w w' := by
  obtain ⟨W0, hW0⟩ : ∃ W0, W0 = w.alloc (.cells #[.slice A n c] 24) := ⟨_, rfl⟩
  have HB0 : Hid (Below w.heap.size w W0) := hide (by rw [hW0]; exact below_al6 (Below.refl _ _))
  have HX : Hid (BoxG W0 w.heap.size (.slice A n c)) := hide (by rw [hW0]; exact BoxG.new w _)
  have HN := hide (h.below HB0.out)
  have hC := gcheck_any A n c ns W0 HN.out hn hc
  rw [hg] at hC
  have HC := hide hC
  have c0 := HX.out.c0
  have hW0' := hW0.symm
  clear hW0 h hC
  go_enter Try.func10, Try.ntmps10
  go_wp2_with fail
  refine Calls.mono HC.out ?_
  rintro e w1 ⟨rfl, hb⟩
  have HB1 := hide (below_nx6 HB0.out hb)
  clear hb HC c0
  go_wp2
  go_ret2
  exact ⟨rfl, HB1.out⟩

/-- The list of the marked ones among the first k. -/
def mkL (M : List Bool) (k : Nat) : List Int := ((List.range k).filter (fun j => (M[j]?).getD false)).map (fun j : Nat => (j : Int))

theorem mkL_yes {M : List Bool} {k : Nat} (h : M[k]? = some true) : mkL M (k + 1) = mkL M k ++ [(k : Int)] := by
  simp [mkL, List.range_succ, List.filter_append, h]

theorem mkL_no {M : List Bool} {k : Nat} (h : M[k]? = some false) : mkL M (k + 1) = mkL M k := by
  simp [mkL, List.range_succ, List.filter_append, h]

theorem mkL_need {ns : List Nd} {M : List Bool} {n : Nat} (h1 : 1 ≤ n) (h : ∀ j, M[j]? = some true ↔ Need ns (n - 1) j) : IsNeed ns (n - 1) (mkL M n) := by
  refine ⟨fun j => (M[j]?).getD false, fun j => ?_, ?_⟩
  · rw [← h j]
    dsimp only
    cases M[j]? with
    | none => simp
    | some b => cases b <;> simp
  · rw [mkL, show n - 1 + 1 = n by omega]

set_option maxHeartbeats 4000000 in
theorem of12_ok (A : Option Addr) (n c : Nat) (ns : List Nd) (w : World) (h : NsIn w A n ns) (hn : n ≤ 1073741824) (hc : n ≤ c) (hg : gphB ns = true) :
    Calls Try.prog 10 #[.agg #[.slice A n c]] w fun e w' => ∃ (A' : Option Addr) (k c' : Nat) (L : List Int), e = .returned (.tuple #[.slice A' k c', .int .i64 0]) ∧ w'.ownsRow w.heap.size 3 1 (.slice A' k c') k (L.map (Value.int .i64)) ∧ IsNeed ns (n - 1) L ∧ Below w.heap.size w w' := by
  obtain ⟨W0, hW0⟩ : ∃ W0, W0 = w.alloc (.cells #[.slice A n c] 24) := ⟨_, rfl⟩
  have HB0 : Hid (Below w.heap.size w W0) := hide (by rw [hW0]; exact below_al6 (Below.refl _ _))
  have HX : Hid (BoxG W0 w.heap.size (.slice A n c)) := hide (by rw [hW0]; exact BoxG.new w _)
  have HL : Hid (ns.length = n) := hide h.1
  have hn2 := gphB_n hg
  rw [HL.out] at hn2
  have h1 : 1 ≤ n := hn2.1
  have h32 : n ≤ 32 := hn2.2
  have HN := hide (h.below HB0.out)
  have hC := gcheck_any A n c ns W0 HN.out hn hc
  rw [hg] at hC
  have HC := hide hC
  have HV := hide (vld_of hg)
  have c0 := HX.out.c0
  have hW0' := hW0.symm
  obtain ⟨i0, hi, hz0, hz1, hz2⟩ := info_parts Try.infoI
  have HI := hide hi
  have HZ0 := hide hz0
  have HZ1 := hide hz1
  have HZ2 := hide hz2
  clear hi hz0 hz1 hz2 hW0 h hC hg hn2
  go_enter Try.func10, Try.ntmps10
  go_wp2_with fail
  refine Calls.mono HC.out ?_
  rintro e w1 ⟨rfl, hb⟩
  have HB1 := hide (below_nx6 HB0.out hb)
  have HX1 := hide (HX.out.kept hb)
  have HC1 := hide (needed_any A n c ns w1 (HN.out.below hb) h1 (by omega) HV.out)
  clear hb HC c0
  have c1 := HX1.out.c0
  go_wp2_with fail
  refine Calls.mono HC1.out ?_
  rintro e w2 ⟨g, M, rfl, hgg, hM, hML, hMT, hb⟩
  have HB2 := hide (below_nx6 HB1.out hb)
  have HM := hide hM
  have HML := hide hML
  have HMT := hide hMT
  have HGL := hide (lt_of_heap hM)
  clear hb HC1 c1 hgg hM hML hMT
  go_wp2
  go_loopw [4, 14] (fun v i wr => ∃ (k m : Nat) (A2 : Option Addr) (c2 : Nat), k ≤ n ∧ m ≤ k ∧ i = .int .i64 k ∧ v = .slice A2 m c2 ∧ Hid (wr.ownsRow w2.heap.size 3 1 (.slice A2 m c2) m ((mkL M k).map (Value.int .i64))) ∧ Hid (Below w2.heap.size w2 wr)) (fun _ i _ => n - (intOf i).toNat)
  case atStart => exact ⟨0, 0, none, 0, Nat.zero_le _, Nat.le_refl _, rfl, rfl, hide (by simpa [mkL] using World.ownsRow_nil _ _ _ _), hide (Below.refl _ _)⟩
  case round =>
    obtain ⟨k, m, A2, c2, hk, hmk, rfl, rfl, HR, HB⟩ := hrel
    by_cases hlt : k < n
    · obtain ⟨b, hb⟩ : ∃ b, M[k]? = some b := ⟨M[k]'(by rw [HML.out]; exact hlt), List.getElem?_eq_getElem (by rw [HML.out]; exact hlt)⟩
      have cm : wr.cell? ⟨g, k, none⟩ = some (.bool b) := by
        rw [cell_of_row _ _ k _ _ (0, 0) ((HB.out.block g HGL.out).trans HM.out)]
        simp [hb]
      have f0 : (0 : Int) ≤ (k : Int) := by omega
      have f1 : (k : Int) < (n : Int) := by omega
      have hs1 := HB.out.size
      cases b with
      | true =>
        have HF := hide (mkL_yes hb)
        have HX3 : Hid ((wr.alloc (.cells #[.int .i64 (k : Int)] 3)).cell? ⟨wr.heap.size, 0, none⟩ = some (.int .i64 (k : Int))) := hide (by have h := cells_new wr [.int .i64 (k : Int)] 3 0 _ rfl; rwa [Addr.add_lit] at h)
        clear hb
        go_wp2_with (at_builtin; with_reducible refine wpList_append_one rfl (.tmp 20) (.tmp 22) 27 rfl 3 i0 (.int .i64 0) 8 Try.underlying27 HI.out HZ0.out HZ1.out HZ2.out rfl w2.heap.size A2 m c2 ((mkL M k).map (Value.int .i64)) rfl (HR.out.alloc _) (Nat.le_trans hs1 (by simp)) ⟨wr.heap.size, 0, none⟩ (.int .i64 (k : Int)) rfl HX3.out rfl (by omega) (by unfold maxLen; omega) ?_)
        intro A3 c3 w3 ho3 hm3
        have HR3 : Hid (w3.ownsRow w2.heap.size 3 1 (.slice A3 (m + 1) c3) (m + 1) ((mkL M (k + 1)).map (Value.int .i64))) := hide (by
          rw [HF.out, List.map_append]
          exact ho3)
        have HB3 := hide (below_moved (HB.out.alloc hs1 (.cells #[.int .i64 (k : Int)] 3)) (Nat.le_trans hs1 (by simp)) (HR.out.alloc _) hm3)
        clear ho3 hm3 HR HB HX3 HF cm
        go_wp2
        go_roundw
        case rel => exact ⟨k + 1, m + 1, A3, c3, by omega, by omega, by go_num, rfl, HR3, HB3⟩
        case measure => simp [intOf] <;> omega
      | false =>
        have HF := hide (mkL_no hb)
        clear hb
        go_wp2
        go_roundw
        case rel => exact ⟨k + 1, m, A2, c2, by omega, by omega, by go_num, rfl, by rw [HF.out]; exact HR, HB⟩
        case measure => simp [intOf] <;> omega
    · obtain rfl : k = n := by omega
      have HRF := hide (own_base HR.out HB2.out.size)
      have HND := hide (mkL_need h1 HMT.out)
      have f1 : ¬ ((k : Int) < (k : Int)) := by omega
      clear HR
      go_wp2
      go_ret2
      exact ⟨A2, m, c2, rfl, mkL M k, HRF.out, HND.out, below_nx6 HB2.out HB.out⟩

end

section
open Go.RowKit
set_option linter.unusedVariables false
set_option linter.unusedSimpArgs false
set_option maxRecDepth 100000

/-- A row of numbers, by their places. -/
def rowF (F : Nat → Int) (n : Nat) : List Value := ((List.range n).map F).map (Value.int .i64)

theorem rowF_len (F : Nat → Int) (n : Nat) : (rowF F n).length = n := by simp [rowF]

theorem rowF_congr {F G : Nat → Int} {n : Nat} (h : ∀ t, t < n → F t = G t) : rowF F n = rowF G n := by
  unfold rowF
  congr 1
  apply List.map_congr_left
  intro t ht
  exact h t (List.mem_range.1 ht)

theorem rowF_at {F : Nat → Int} {n t : Nat} (h : t < n) : (rowF F n)[t]? = some (.int .i64 (F t)) := by
  rw [rowF, List.getElem?_map, List.getElem?_map, List.getElem?_range h]; rfl

theorem rowF_set (F : Nat → Int) (n k : Nat) (e : Int) : (rowF F n).set k (.int .i64 e) = rowF (fun t => if t = k then e else F t) n := by
  apply List.ext_getElem?
  intro i
  rw [List.getElem?_set, rowF_len]
  by_cases hi : i < n
  · rw [rowF_at hi, rowF_at hi]
    by_cases h : k = i
    · subst h; simp [hi]
    · rw [if_neg h, if_neg (fun h2 => h h2.symm)]
  · have h1 : (rowF F n)[i]? = none := List.getElem?_eq_none (by rw [rowF_len]; omega)
    have h2 : (rowF (fun t => if t = k then e else F t) n)[i]? = none := List.getElem?_eq_none (by rw [rowF_len]; omega)
    rw [h1, h2]
    by_cases h : k = i
    · subst h; simp [hi]
    · rw [if_neg h]

/-- A row of the call's own, written out. -/
def RwAt (w0 w : World) (g : Nat) (xs : List Value) : Prop := Below w0.heap.size w0 w ∧ w0.heap.size ≤ g ∧ w.heap[g]? = some (.cells xs.toArray 3 (0, 0))

theorem RwAt.set {w0 w : World} {g : Nat} {xs : List Value} (h : RwAt w0 w g xs) (k : Nat) (v : Value) : RwAt w0 (w.setCell ⟨g, k, none⟩ v) g (xs.set k v) := by
  obtain ⟨h1, h2, h3⟩ := h
  refine ⟨h1.setCell (p := ⟨g, k, none⟩) h2 _, h2, ?_⟩
  rw [setCell_eq_setRow w g k _ _ (0, 0) v h3, setRow_heap w g _ _ _ (0, 0) h3]
  simp

theorem RwAt.drewN {w0 w : World} {g : Nat} {xs : List Value} (h : RwAt w0 w g xs) (k : Nat) : RwAt w0 (w.drewN k) g xs := ⟨below_drewN h.1 k, h.2.1, h.2.2⟩

theorem RwAt.at {w0 w : World} {g k : Nat} {xs : List Value} {v : Value} (h : RwAt w0 w g xs) (hk : xs[k]? = some v) : w.cell? ⟨g, k, none⟩ = some v := by
  rw [cell_of_row _ _ k _ _ (0, 0) h.2.2]
  simp [hk]

theorem RwAt.frozen {w0 w : World} {g k : Nat} {xs : List Value} (h : RwAt w0 w g xs) : w.frozen? ⟨g, k, none⟩ = false := by
  simp [World.frozen?, h.2.2]

theorem RwAt.lies {w0 w : World} {g n : Nat} {xs : List Value} (h : RwAt w0 w g xs) (hn : xs.length = n) : Lies w (some ⟨g, 0, none⟩) n xs :=
  ⟨hn, fun _ => ⟨g, 0, rfl, lt_of_heap h.2.2, fun j hj => by rw [Nat.zero_add, cell_of_row _ _ j _ _ (0, 0) h.2.2]; simp⟩⟩

set_option maxHeartbeats 4000000 in
theorem next12_no (A B : Option Addr) (n c m d : Nat) (ns : List Nd) (l : List Int) (a : Int) (w : World) (h : NsIn w A n ns) (hn : n ≤ 1073741824) (hc : n ≤ c) (hB : Lies w B m (l.map (Value.int .i64))) (hm : m ≤ 70368744177664) (hd : m ≤ d) (hg : ¬ (ordB ns l = true ∧ -1 ≤ a ∧ a < (m : Int))) :
    Calls Try.prog 12 #[.agg #[.slice A n c], .slice B m d, .int .i64 a] w fun e w' => e = .returned (.tuple #[.slice none 0 0, .int .i64 1]) ∧ Below w.heap.size w w' := by
  obtain ⟨W0, hW0⟩ : ∃ W0, W0 = w.alloc (.cells #[.slice A n c] 24) := ⟨_, rfl⟩
  have HB0 : Hid (Below w.heap.size w W0) := hide (by rw [hW0]; exact below_al6 (Below.refl _ _))
  have HX : Hid (BoxG W0 w.heap.size (.slice A n c)) := hide (by rw [hW0]; exact BoxG.new w _)
  have hC := isOrd12_any A B n c m d ns l W0 (h.below HB0.out) hn hc (hB.below HB0.out) hm hd
  obtain ⟨R, hR⟩ : ∃ z, z = ordB ns l := ⟨_, rfl⟩
  rw [← hR] at hC hg
  have HC := hide hC
  have c0 := HX.out.c0
  have hW0' := hW0.symm
  clear hW0 h hB hC hR
  go_enter Try.func12, Try.ntmps12
  go_wp2_with fail
  refine Calls.mono HC.out ?_
  rintro e w1 ⟨rfl, hb⟩
  have HB1 := hide (below_nx6 HB0.out hb)
  clear hb HC c0
  cases R with
  | false =>
    go_wp2
    go_ret2
    exact ⟨rfl, HB1.out⟩
  | true =>
    by_cases h1 : a < -1
    · go_wp2
      go_ret2
      exact ⟨rfl, HB1.out⟩
    · have h2 : (m : Int) ≤ a := by
        rcases Int.lt_or_le a (m : Int) with h | h
        · exact absurd ⟨rfl, by omega, h⟩ hg
        · exact h
      clear hg
      go_wp2
      go_ret2
      exact ⟨rfl, HB1.out⟩

theorem rowF_init (ns : List Nd) (m n : Nat) : rowF (fun t => nxF ns [] m t) n = (List.replicate n (-1 : Int)).map (Value.int .i64) := by
  unfold rowF
  congr 1
  apply List.ext_getElem?
  intro i
  rw [List.getElem?_replicate, List.getElem?_map]
  by_cases hi : i < n
  · rw [if_pos hi, List.getElem?_range hi]; rfl
  · rw [if_neg hi, List.getElem?_eq_none (by simpa using hi)]; rfl

theorem rowF_next {ns : List Nd} {l : List Int} {p n : Nat} (hn : ns.length = n) (h1 : 1 ≤ n) : (rowF (fun t => nxF ns (l.drop p) p t) n).set (n - 1) (.int .i64 (l.length : Int)) = (nxL ns l p).map (Value.int .i64) := by
  rw [rowF_set, rowF, nxL, hn]
  congr 1
  obtain ⟨k, rfl⟩ : ∃ k, n = k + 1 := ⟨n - 1, by omega⟩
  rw [Nat.add_sub_cancel, List.range_succ, List.map_append]
  congr 1
  · apply List.map_congr_left
    intro t ht
    rw [if_neg (by have := List.mem_range.1 ht; omega)]
  · simp

set_option maxHeartbeats 8000000 in
theorem next12_ok (A B : Option Addr) (n c m d p : Nat) (ns : List Nd) (l : List Int) (a : Int) (w : World) (h : NsIn w A n ns) (hn : n ≤ 1073741824) (hc : n ≤ c) (hB : Lies w B m (l.map (Value.int .i64))) (hm : m ≤ 70368744177664) (hd : m ≤ d) (hg : ordB ns l = true) (ha : a = (p : Int) - 1) (hp : p ≤ m) :
    Calls Try.prog 12 #[.agg #[.slice A n c], .slice B m d, .int .i64 a] w fun e w' => ∃ g, e = .returned (.tuple #[.slice (some ⟨g, 0, none⟩) n n, .int .i64 0]) ∧ RwAt w w' g ((nxL ns l p).map (Value.int .i64)) := by
  obtain ⟨W0, hW0⟩ : ∃ W0, W0 = w.alloc (.cells #[.slice A n c] 24) := ⟨_, rfl⟩
  have HB0 : Hid (Below w.heap.size w W0) := hide (by rw [hW0]; exact below_al6 (Below.refl _ _))
  have HX : Hid (BoxG W0 w.heap.size (.slice A n c)) := hide (by rw [hW0]; exact BoxG.new w _)
  have HL : Hid (ns.length = n) := hide h.1
  have HM : Hid (l.length = m) := hide (lies_len9 hB)
  obtain ⟨hgb, hlen, hin, hnd⟩ := ordB_parts.1 hg
  have hn2 := gphB_n hgb
  rw [HL.out] at hn2 hlen hin
  rw [HM.out] at hlen
  have h1 : 1 ≤ n := hn2.1
  have h32 : n ≤ 32 := hn2.2
  have HV := hide (vld_of hgb)
  have HIN := hide hin
  have HN := hide (h.below HB0.out)
  have HBL := hide (hB.below HB0.out)
  have hC := isOrd12_any A B n c m d ns l W0 HN.out hn hc HBL.out hm hd
  rw [hg] at hC
  have HC := hide hC
  have c0 := HX.out.c0
  have ha1 : ¬ a < -1 := by omega
  have ha2 : ¬ (m : Int) ≤ a := by omega
  have HA := hide ha
  have hW0' := hW0.symm
  clear hW0 h hB hC hg hgb hin hnd hn2 ha
  go_enter Try.func12, Try.ntmps12
  go_wp2_with fail
  refine Calls.mono HC.out ?_
  rintro e w1 ⟨rfl, hb⟩
  have HB1 := hide (below_nx6 HB0.out hb)
  have HX1 := hide (HX.out.kept hb)
  have HN1 := hide (HN.out.below hb)
  have HBL1 := hide (HBL.out.below hb)
  clear hb HC c0
  have c1 := HX1.out.c0
  obtain ⟨W2, hW2⟩ : ∃ W2, W2 = w1.alloc (.cells #[.int .i64 (-1)] 3) := ⟨_, rfl⟩
  have b2 : Below w1.heap.size w1 W2 := by rw [hW2]; exact below_al6 (Below.refl _ _)
  have HB2 := hide b2
  have HRP := hide (repeat_any (some ⟨w1.heap.size, 0, none⟩) n (-1) W2 (by rw [hW2]; exact lit_lies w1 .i64 [-1] 3) h1 (by omega))
  have c2 := (HX1.out.kept b2).c0
  have hW2' := hW2.symm
  clear hW2 b2
  go_wp2_with fail
  refine Calls.mono HRP.out ?_
  rintro e w3 ⟨g, rfl, hgg, hrow, hb⟩
  have HR0 : Hid (RwAt w1 w3 g (rowF (fun t => nxF ns (l.drop m) m t) n)) := hide ⟨below_nx6 HB2.out hb, Nat.le_trans HB2.out.size hgg, by
    rw [hrow, List.drop_of_length_le (by rw [HM.out]; exact Nat.le_refl _), rowF_init]⟩
  clear hgg hrow hb HRP c1 c2
  go_wp2
  go_loopw [9] (fun v wr => ∃ (d2 : Nat) (z : Int), p ≤ d2 ∧ d2 ≤ m ∧ z = (d2 : Int) - 1 ∧ v = .int .i64 z ∧ Hid (RwAt w1 wr g (rowF (fun t => nxF ns (l.drop d2) d2 t) n))) (fun v _ => (intOf v + 1).toNat)
  case atStart => exact ⟨m, _, hp, Nat.le_refl _, rfl, rfl, HR0⟩
  case round =>
    obtain ⟨d2, z, hpd, hdm, hz, rfl, HR⟩ := hrel
    by_cases hlt : p < d2
    · obtain ⟨e, rfl⟩ : ∃ e, d2 = e + 1 := ⟨d2 - 1, by omega⟩
      obtain rfl : z = (e : Int) := by omega
      clear hz
      have f0 : (0 : Int) ≤ (e : Int) := by omega
      have f1 : (e : Int) < (m : Int) := by omega
      have f2 : a < (e : Int) := by have := HA.out; omega
      obtain ⟨bB, oB, eB, _, hx⟩ := byte_at (HBL1.out.below HR.out.1) (by omega)
      have hc1 := hx e (by omega)
      obtain ⟨o, ho⟩ : ∃ o, o = l.getD e 0 := ⟨_, rfl⟩
      rw [← ho] at hc1
      have hoi := HIN.out o (by rw [ho]; exact getD_mem (by rw [HM.out]; omega))
      obtain ⟨u, rfl⟩ := Int.eq_ofNat_of_zero_le hoi.1
      have hun : u < n := by omega
      have HLE : Hid (l[e]? = some (u : Int)) := hide (by
        have hel : e < l.length := by rw [HM.out]; omega
        rw [List.getElem?_eq_getElem hel, ho]
        simp [List.getD, hel])
      obtain ⟨bA, oA, x, eA, hxu, h0, h1, h2, h3, h4, hxo⟩ := (HN1.out.below HR.out.1).at hun
      have c1 := (HX1.out.kept HR.out.1).c0
      have g0 : (0 : Int) ≤ (u : Int) := by omega
      have g1 : (u : Int) < (n : Int) := by omega
      have HXU : Hid (insN ns u = x.xs) := hide (insN_at hxu)
      have HLX : Hid (Lies w1 x.I x.ni (x.xs.map (Value.int .i64)) ∧ x.ni ≤ 70368744177664) := hide (by
        obtain ⟨b2, o2, x2, _, hx2, _, _, _, _, _, ho2⟩ := HN1.out.at hun
        rw [hxu] at hx2
        cases hx2
        exact ⟨ho2.1, ho2.2.2.2.2.1⟩)
      have HLN : Hid (x.xs.length = x.ni) := hide (lies_len9 HLX.out.1)
      subst eA eB
      clear hx hxu hxo hoi ho
      go_wp2
      go_quiet (fail)
      go_wp2
      go_loopw [49] (fun v wv => ∃ j : Nat, j ≤ x.ni ∧ v = .int .i64 j ∧ Hid (RwAt w1 wv g (rowF (fun t => if (t : Int) ∈ x.xs.take j then (e : Int) else nxF ns (l.drop (e + 1)) (e + 1) t) n))) (fun v _ => x.ni - (intOf v).toNat)
      case atStart =>
        refine ⟨0, Nat.zero_le _, rfl, hide ?_⟩
        have h := HR.out
        rw [rowF_congr (G := fun t => if (t : Int) ∈ x.xs.take 0 then (e : Int) else nxF ns (l.drop (e + 1)) (e + 1) t) (fun t _ => by rw [if_neg (by simp)])] at h
        exact h.drewN _
      case round =>
        obtain ⟨j, hj, rfl, HS⟩ := hrel
        by_cases hlt2 : j < x.ni
        · obtain ⟨bI, oI, eI, _, hx⟩ := byte_at (HLX.out.1.below HS.out.1) (by omega)
          have hc := hx j hlt2
          obtain ⟨z, hze⟩ : ∃ z, z = x.xs.getD j 0 := ⟨_, rfl⟩
          rw [← hze] at hc
          have hzb := HV.out u z (by rw [HXU.out, hze]; exact getD_mem (by rw [HLN.out]; exact hlt2))
          obtain ⟨k, rfl⟩ := Int.eq_ofNat_of_zero_le hzb.1
          have hkn : k < n := by omega
          have k0 : (0 : Int) ≤ (k : Int) := by omega
          have k1 : (k : Int) < (n : Int) := by omega
          have j0 : (0 : Int) ≤ (j : Int) := by omega
          have j1 : (j : Int) < (x.ni : Int) := by omega
          have hni : x.ni ≤ 70368744177664 := HLX.out.2
          have hfz := HS.out.frozen (k := k)
          have hce := HS.out.at (rowF_at (F := fun t => if (t : Int) ∈ x.xs.take j then (e : Int) else nxF ns (l.drop (e + 1)) (e + 1) t) hkn)
          have HS2 : Hid (RwAt w1 (wr.setCell ⟨g, k, none⟩ (.int .i64 (e : Int))) g (rowF (fun t => if (t : Int) ∈ x.xs.take (j + 1) then (e : Int) else nxF ns (l.drop (e + 1)) (e + 1) t) n)) := hide (by
            have h := HS.out.set k (.int .i64 (e : Int))
            rw [rowF_set] at h
            rw [rowF_congr (G := fun t => if t = k then (e : Int) else if (t : Int) ∈ x.xs.take j then (e : Int) else nxF ns (l.drop (e + 1)) (e + 1) t) (fun t _ => by
              rw [take_getD (by rw [HLN.out]; exact hlt2), ← hze]
              by_cases h1 : t = k
              · subst h1; simp
              · have h3 : ¬ (t : Int) = (k : Int) := by omega
                simp [h1, h3])]
            exact h)
          rw [eI]
          clear hx hze hzb eI
          go_wp2
          go_roundw
          case rel => exact ⟨j + 1, by omega, by go_num, HS2⟩
          case measure => simp [intOf] <;> omega
        · obtain rfl : j = x.ni := by omega
          have j1 : ¬ ((x.ni : Int) < (x.ni : Int)) := by omega
          have HS2 : Hid (RwAt w1 wr g (rowF (fun t => nxF ns (l.drop e) e t) n)) := hide (by
            have h := HS.out
            rw [rowF_congr (G := fun t => nxF ns (l.drop e) e t) (fun t _ => by
              rw [nx_next ns l e t _ HLE.out, List.take_of_length_le (by rw [HLN.out]; exact Nat.le_refl _), Int.toNat_natCast, HXU.out])] at h
            exact h)
          go_wp2
          go_roundw
          case rel => exact ⟨e, _, by omega, by omega, rfl, by go_num, HS2⟩
          case measure => simp [intOf] <;> omega
    · obtain rfl : d2 = p := by omega
      have f2 : ¬ a < z := by have := HA.out; omega
      have hl1 : IntKind.i64.wrap ((n : Int) - 1) = ((n - 1 : Nat) : Int) := by rw [IntKind.wrap_i64]; omega
      have hl2 : ((n - 1 : Nat) : Int) = (n : Int) - 1 := by omega
      have hl3 : (0 : Int) ≤ (n : Int) - 1 := by omega
      have hl4 : (n : Int) - 1 < (n : Int) := by omega
      have hfz := HR.out.frozen (k := n - 1)
      have hce : wr.cell? ⟨g, n - 1, none⟩ = some (.int .i64 (nxF ns (l.drop d2) d2 (n - 1))) := HR.out.at (rowF_at (by omega))
      go_wp2
      go_ret2
      refine ⟨g, rfl, ?_⟩
      have hf := HR.out.set (n - 1) (.int .i64 (m : Int))
      rw [← HM.out, rowF_next HL.out h1] at hf
      have hff : RwAt w (wr.setCell ⟨g, n - 1, none⟩ (.int .i64 (l.length : Int))) g ((nxL ns l d2).map (Value.int .i64)) := ⟨below_nx6 HB1.out hf.1, Nat.le_trans HB1.out.size hf.2.1, hf.2.2⟩
      rw [HM.out] at hff
      exact hff

end

section
open Go.RowKit
set_option linter.unusedVariables false
set_option linter.unusedSimpArgs false
set_option maxRecDepth 100000

set_option maxHeartbeats 4000000 in
theorem uses12_no (A B : Option Addr) (n c m d : Nat) (ns : List Nd) (l : List Int) (w : World) (h : NsIn w A n ns) (hn : n ≤ 1073741824) (hc : n ≤ c) (hB : Lies w B m (l.map (Value.int .i64))) (hm : m ≤ 70368744177664) (hd : m ≤ d) (hg : ordB ns l = false) :
    Calls Try.prog 13 #[.agg #[.slice A n c], .slice B m d] w fun e w' => e = .returned (.tuple #[.slice none 0 0, .int .i64 1]) ∧ Below w.heap.size w w' := by
  obtain ⟨W0, hW0⟩ : ∃ W0, W0 = w.alloc (.cells #[.slice A n c] 24) := ⟨_, rfl⟩
  have HB0 : Hid (Below w.heap.size w W0) := hide (by rw [hW0]; exact below_al6 (Below.refl _ _))
  have HX : Hid (BoxG W0 w.heap.size (.slice A n c)) := hide (by rw [hW0]; exact BoxG.new w _)
  have hC := isOrd12_any A B n c m d ns l W0 (h.below HB0.out) hn hc (hB.below HB0.out) hm hd
  rw [hg] at hC
  have HC := hide hC
  have c0 := HX.out.c0
  have hW0' := hW0.symm
  clear hW0 h hB hC hg
  go_enter Try.func13, Try.ntmps13
  go_wp2_with fail
  refine Calls.mono HC.out ?_
  rintro e w1 ⟨rfl, hb⟩
  have HB1 := hide (below_nx6 HB0.out hb)
  clear hb HC c0
  go_wp2
  go_ret2
  exact ⟨rfl, HB1.out⟩

/-- What the node of an index takes in, as a list that lies there. -/
def sgU (ns : List Nd) (o : Int) : Sg := match ns[o.toNat]? with
  | some x => ⟨x.I, x.ni, x.ci, x.xs⟩
  | none => ⟨none, 0, 0, []⟩

theorem sgU_s (ns : List Nd) (o : Int) : (sgU ns o).s = insN ns o.toNat := by
  unfold sgU insN
  cases ns[o.toNat]? <;> rfl

theorem sgU_at {ns : List Nd} {u : Nat} {x : Nd} (h : ns[u]? = some x) : sgU ns (u : Int) = ⟨x.I, x.ni, x.ci, x.xs⟩ := by
  rw [sgU, Int.toNat_natCast, h]

theorem count_sg (ns : List Nd) : ∀ (l : List Int) (j : Nat), (((l.map (sgU ns)).map Sg.s).flatten).count (j : Int) = usF ns l j
  | [], j => rfl
  | o :: r, j => by
    simp only [List.map_cons, List.flatten_cons, List.count_append, usF, sgU_s]
    rw [count_sg ns r j]

theorem len_sg (ns : List Nd) : ∀ (l : List Int), (((l.map (sgU ns)).map Sg.s).flatten).length = lenF ns l
  | [] => rfl
  | o :: r => by
    simp only [List.map_cons, List.flatten_cons, List.length_append, lenF, sgU_s]
    rw [len_sg ns r]

theorem lenF_le (ns : List Nd) (b : Nat) : ∀ (l : List Int), (∀ o ∈ l, (insN ns o.toNat).length ≤ b) → lenF ns l ≤ l.length * b
  | [], _ => Nat.zero_le _
  | o :: r, h => by
    have h1 := h o (List.mem_cons_self ..)
    have h2 := lenF_le ns b r (fun z hz => h z (List.mem_cons_of_mem _ hz))
    rw [lenF, List.length_cons, Nat.add_mul, Nat.one_mul]
    omega

theorem rowF_zero {ns : List Nd} {l : List Int} {n : Nat} : rowF (fun t => if t < 0 then (usF ns l t : Int) else 0) n = (List.replicate n (0 : Int)).map (Value.int .i64) := by
  unfold rowF
  congr 1
  apply List.ext_getElem?
  intro i
  rw [List.getElem?_replicate, List.getElem?_map]
  by_cases hi : i < n
  · rw [if_pos hi, List.getElem?_range hi]; simp
  · rw [if_neg hi, List.getElem?_eq_none (by simpa using hi)]; rfl

theorem usL_row {ns : List Nd} {l : List Int} {n : Nat} (h : ns.length = n) : rowF (fun t => if t < n then (usF ns l t : Int) else 0) n = (usL ns l).map (Value.int .i64) := by
  rw [usL, h]
  exact rowF_congr (fun t ht => by rw [if_pos ht])

set_option maxHeartbeats 8000000 in
theorem uses12_ok (A B : Option Addr) (n c m d : Nat) (ns : List Nd) (l : List Int) (w : World) (h : NsIn w A n ns) (hn : n ≤ 1073741824) (hc : n ≤ c) (hB : Lies w B m (l.map (Value.int .i64))) (hm : m ≤ 70368744177664) (hd : m ≤ d) (hg : ordB ns l = true) :
    Calls Try.prog 13 #[.agg #[.slice A n c], .slice B m d] w fun e w' => ∃ g, e = .returned (.tuple #[.slice (some ⟨g, 0, none⟩) n n, .int .i64 0]) ∧ RwAt w w' g ((usL ns l).map (Value.int .i64)) := by
  obtain ⟨W0, hW0⟩ : ∃ W0, W0 = w.alloc (.cells #[.slice A n c] 24) := ⟨_, rfl⟩
  have HB0 : Hid (Below w.heap.size w W0) := hide (by rw [hW0]; exact below_al6 (Below.refl _ _))
  have HX : Hid (BoxG W0 w.heap.size (.slice A n c)) := hide (by rw [hW0]; exact BoxG.new w _)
  have HL : Hid (ns.length = n) := hide h.1
  have HM : Hid (l.length = m) := hide (lies_len9 hB)
  obtain ⟨hgb, hlen, hin, hnd⟩ := ordB_parts.1 hg
  have hn2 := gphB_n hgb
  rw [HL.out] at hn2 hlen hin
  rw [HM.out] at hlen
  have h1 : 1 ≤ n := hn2.1
  have h32 : n ≤ 32 := hn2.2
  have HIN := hide hin
  have HN := hide (h.below HB0.out)
  have HBL := hide (hB.below HB0.out)
  have hC := isOrd12_any A B n c m d ns l W0 HN.out hn hc HBL.out hm hd
  rw [hg] at hC
  have HC := hide hC
  have c0 := HX.out.c0
  have hW0' := hW0.symm
  obtain ⟨i0, hi, hz0, hz1, hz2⟩ := info_parts infoS10
  have HI := hide hi
  have HZ0 := hide hz0
  have HZ1 := hide hz1
  have HZ2 := hide hz2
  clear hi hz0 hz1 hz2 hW0 h hB hC hg hgb hin hnd hn2
  go_enter Try.func13, Try.ntmps13
  go_wp2_with fail
  refine Calls.mono HC.out ?_
  rintro e w1 ⟨rfl, hb⟩
  have HB1 := hide (below_nx6 HB0.out hb)
  have HX1 := hide (HX.out.kept hb)
  have HN1 := hide (HN.out.below hb)
  have HBL1 := hide (HBL.out.below hb)
  clear hb HC c0
  go_wp2
  go_loopw [6, 18] (fun v i wr => ∃ (k : Nat) (A2 : Option Addr) (c2 : Nat), k ≤ m ∧ i = .int .i64 k ∧ v = .slice A2 k c2 ∧ Hid (wr.ownsRow w1.heap.size 27 1 (.slice A2 k c2) k (((l.take k).map (sgU ns)).map Sg.v)) ∧ Hid (Below w1.heap.size w1 wr)) (fun _ i _ => m - (intOf i).toNat)
  case atStart => exact ⟨0, none, 0, Nat.zero_le _, rfl, rfl, hide (by simpa using World.ownsRow_nil _ _ _ _), hide (Below.refl _ _)⟩
  case round =>
    obtain ⟨k, A2, c2, hk, rfl, rfl, HR, HB⟩ := hrel
    by_cases hlt : k < m
    · obtain ⟨bB, oB, eB, _, hx⟩ := byte_at (HBL1.out.below HB.out) (by omega)
      have hc1 := hx k hlt
      obtain ⟨o, ho⟩ : ∃ o, o = l.getD k 0 := ⟨_, rfl⟩
      rw [← ho] at hc1
      have hoi := HIN.out o (by rw [ho]; exact getD_mem (by rw [HM.out]; exact hlt))
      obtain ⟨u, rfl⟩ := Int.eq_ofNat_of_zero_le hoi.1
      have hun : u < n := by omega
      have HTK : Hid (l.take (k + 1) = l.take k ++ [(u : Int)]) := hide (by rw [ho]; exact take_getD (by rw [HM.out]; exact hlt))
      obtain ⟨bA, oA, x, eA, hxu, h0, h1', h2, h3, h4, hxo⟩ := (HN1.out.below HB.out).at hun
      have HXU := hide (sgU_at hxu)
      have c1 := (HX1.out.kept HB.out).c0
      have g0 : (0 : Int) ≤ (u : Int) := by omega
      have g1 : (u : Int) < (n : Int) := by omega
      have f0 : (0 : Int) ≤ (k : Int) := by omega
      have f1 : (k : Int) < (m : Int) := by omega
      have hs1 := HB.out.size
      have HX3 : Hid ((wr.alloc (.cells #[.slice x.I x.ni x.ci] 27)).cell? ⟨wr.heap.size, 0, none⟩ = some (.slice x.I x.ni x.ci)) := hide (by have h := cells_new wr [.slice x.I x.ni x.ci] 27 0 _ rfl; rwa [Addr.add_lit] at h)
      subst eA eB
      clear hx hxu hxo hoi ho
      go_wp2_with (at_builtin; refine wpList_append_one rfl (.tmp 22) (.tmp 29) 48 rfl 27 i0 (.slice none 0 0) 24 Try.underlying48 HI.out HZ0.out HZ1.out HZ2.out rfl w1.heap.size A2 k c2 (((l.take k).map (sgU ns)).map Sg.v) rfl (HR.out.alloc _) (Nat.le_trans hs1 (by simp)) ⟨wr.heap.size, 0, none⟩ (.slice x.I x.ni x.ci) rfl HX3.out rfl (by omega) (by unfold maxLen; omega) ?_)
      intro A3 c3 w3 ho3 hm3
      have HR3 : Hid (w3.ownsRow w1.heap.size 27 1 (.slice A3 (k + 1) c3) (k + 1) (((l.take (k + 1)).map (sgU ns)).map Sg.v)) := hide (by
        rw [HTK.out, List.map_append, List.map_append, List.map_singleton, List.map_singleton, HXU.out]
        have e : List.map Sg.v (List.map (sgU ns) (List.take k l)) = List.take k (List.map (Sg.v ∘ sgU ns) l) := by simp [List.map_take]
        rw [e]
        exact ho3)
      have HB3 := hide (below_moved (HB.out.alloc hs1 (.cells #[.slice x.I x.ni x.ci] 27)) (Nat.le_trans hs1 (by simp)) (HR.out.alloc _) hm3)
      clear ho3 hm3 HR HB HX3 h0 h1' h2 h3 h4 c1 hc1
      go_wp2
      go_roundw
      case rel => exact ⟨k + 1, A3, c3, by omega, by go_num, rfl, HR3, HB3⟩
      case measure => simp [intOf] <;> omega
    · obtain rfl : k = m := by omega
      have f1 : ¬ ((k : Int) < (k : Int)) := by omega
      have hall : l.take k = l := List.take_of_length_le (by rw [HM.out]; exact Nat.le_refl _)
      have hr := HR.out
      rw [hall] at hr
      have hlies := lies_of_own hr
      have hmem : ∀ g ∈ l.map (sgU ns), Lies wr g.A g.n (g.s.map (Value.int .i64)) ∧ g.n ≤ g.c ∧ g.n ≤ 70368744177664 := by
        intro g hg
        obtain ⟨o, ho, rfl⟩ := List.mem_map.1 hg
        have hoi := HIN.out o ho
        obtain ⟨u, rfl⟩ := Int.eq_ofNat_of_zero_le hoi.1
        obtain ⟨_, _, x, _, hxu, _, _, _, _, _, hxo⟩ := (HN1.out.below HB.out).at (show u < n by omega)
        rw [sgU_at hxu]
        exact ⟨hxo.1, hxo.2.2.1, hxo.2.2.2.2.1⟩
      have hll : LlAt wr A2 k (l.map (sgU ns)) := ⟨by rw [List.length_map, HM.out], fun hk1 => by
        obtain ⟨b, o, e, hb, hx⟩ := hlies.cells hk1
        refine ⟨b, o, e, hb, fun j g hj => ?_⟩
        have hjk : j < k := by have h := (List.getElem?_eq_some_iff.1 hj).1; rw [List.length_map, HM.out] at h; exact h
        rw [hx j hjk, List.getElem?_map, hj]
        rfl, hmem⟩
      have hlen2 : (((l.map (sgU ns)).map Sg.s).flatten).length ≤ 4611686018427387904 := by
        rw [len_sg]
        have h2 := lenF_le ns 70368744177664 l (fun o ho => by
          have h3 := hmem (sgU ns o) (List.mem_map.2 ⟨o, ho, rfl⟩)
          rw [← sgU_s, lies_len9 h3.1]
          exact h3.2.2)
        rw [HM.out] at h2
        have : k * 70368744177664 ≤ 32 * 70368744177664 := Nat.mul_le_mul_right _ (by omega)
        omega
      have HCC := hide (counts_any A2 k c2 (l.map (sgU ns)) wr hll hm hlen2)
      clear hr hlies hmem hll hlen2 hall HR
      go_wp2_with fail
      refine Calls.mono HCC.out ?_
      rintro e w4 ⟨q, rfl, hq, hct, hb⟩
      have HCT := hide hct
      have HB4 := hide (below_nx6 HB1.out (below_nx6 HB.out hb))
      have c4 := (HX1.out.kept (below_nx6 HB.out hb)).c0
      have hmk := make_ints9 w4 n (by omega)
      obtain ⟨W5, hW5⟩ : ∃ W5, W5 = w4.alloc (.cells ((List.replicate n (0 : Int)).map (Value.int .i64)).toArray 3) := ⟨_, rfl⟩
      have HR5 : Hid (RwAt w4 W5 w4.heap.size (rowF (fun t => if t < 0 then (usF ns l t : Int) else 0) n)) := hide ⟨by rw [hW5]; exact below_al6 (Below.refl _ _), Nat.le_refl _, by
        rw [hW5, rowF_zero]
        exact heap_alloc_new w4 _⟩
      rw [← hW5] at hmk
      clear hct hb HCC hW5
      go_wp2
      obtain ⟨g, hg⟩ : ∃ g, g = w4.heap.size := ⟨_, rfl⟩
      rw [← hg]
      rw [← hg] at HR5
      have HG := hide hg
      clear hg hmk c4
      go_loopw [40] (fun v wr => ∃ j : Nat, j ≤ n ∧ v = .int .i64 j ∧ Hid (RwAt w4 wr g (rowF (fun t => if t < j then (usF ns l t : Int) else 0) n))) (fun v _ => n - (intOf v).toNat)
      case atStart => exact ⟨0, Nat.zero_le _, rfl, HR5⟩
      case round =>
        obtain ⟨j, hj, rfl, HS⟩ := hrel
        by_cases hlt2 : j < n
        · have hlk := (HCT.out.below HS.out.1).look (j : Int)
          rw [count_sg] at hlk
          obtain ⟨z, hz⟩ : ∃ z : Int, z = (usF ns l j : Int) := ⟨_, rfl⟩
          rw [← hz] at hlk
          have j0 : (0 : Int) ≤ (j : Int) := by omega
          have j1 : (j : Int) < (n : Int) := by omega
          have hfz := HS.out.frozen (k := j)
          have hce := HS.out.at (rowF_at (F := fun t => if t < j then (usF ns l t : Int) else 0) hlt2)
          have HS2 : Hid (RwAt w4 (wr.setCell ⟨g, j, none⟩ (.int .i64 z)) g (rowF (fun t => if t < j + 1 then (usF ns l t : Int) else 0) n)) := hide (by
            have h := HS.out.set j (.int .i64 z)
            rw [rowF_set] at h
            rw [rowF_congr (G := fun t => if t = j then z else if t < j then (usF ns l t : Int) else 0) (fun t _ => by
              by_cases h1 : t = j
              · subst h1; rw [if_pos (by omega), if_pos rfl, hz]
              · rw [if_neg h1]
                by_cases h2 : t < j
                · rw [if_pos h2, if_pos (by omega)]
                · rw [if_neg h2, if_neg (by omega)])]
            exact h)
          clear hz
          go_wp2
          go_roundw
          case rel => exact ⟨j + 1, by omega, by go_num, HS2⟩
          case measure => simp [intOf] <;> omega
        · obtain rfl : j = n := by omega
          have j1 : ¬ ((j : Int) < (j : Int)) := by omega
          have hf := HS.out
          rw [usL_row HL.out] at hf
          have HF : Hid (RwAt w wr g ((usL ns l).map (Value.int .i64))) := hide ⟨below_nx6 HB4.out hf.1, Nat.le_trans HB4.out.size hf.2.1, hf.2.2⟩
          clear hf
          go_wp2
          go_ret2
          exact ⟨g, rfl, HF.out⟩

end

section
open Go.RowKit
set_option linter.unusedVariables false
set_option linter.unusedSimpArgs false
set_option maxRecDepth 100000

/-- The chapter's graph, where it lies. -/
def kn12 (q : Nat) : List Nd := [⟨1, none, 0, 0, some ⟨q + 1, 0, none⟩, 1, 1, 0, 0, [], [2]⟩, ⟨5, some ⟨q + 2, 0, none⟩, 1, 1, none, 0, 0, 0, 0, [0], []⟩, ⟨2, none, 0, 0, some ⟨q + 3, 0, none⟩, 1, 1, 0, 0, [], [2]⟩, ⟨3, some ⟨q + 4, 0, none⟩, 2, 2, none, 0, 0, 0, 0, [0, 0], []⟩, ⟨3, some ⟨q + 5, 0, none⟩, 2, 2, none, 0, 0, 0, 0, [3, 1], []⟩]

set_option maxHeartbeats 4000000 in
theorem known12_any (w : World) : Calls Try.prog 16 #[] w fun e w' => e = .returned (.agg #[.slice (some ⟨w.heap.size + 6, 0, none⟩) 5 5]) ∧ NsIn w' (some ⟨w.heap.size + 6, 0, none⟩) 5 (kn12 w.heap.size) ∧ Below w.heap.size w w' := by
  obtain ⟨q, hq⟩ : ∃ q, q = w.heap.size := ⟨_, rfl⟩
  obtain ⟨W1, hW1⟩ : ∃ W, W = w.alloc (.cells #[.slice none 0 0] 24) := ⟨_, rfl⟩
  obtain ⟨W2, hW2⟩ : ∃ W, W = W1.alloc (.cells #[.int .i64 2] 3) := ⟨_, rfl⟩
  obtain ⟨W3, hW3⟩ : ∃ W, W = W2.alloc (.cells #[.int .i64 0] 3) := ⟨_, rfl⟩
  obtain ⟨W4, hW4⟩ : ∃ W, W = W3.alloc (.cells #[.int .i64 2] 3) := ⟨_, rfl⟩
  obtain ⟨W5, hW5⟩ : ∃ W, W = W4.alloc (.cells #[.int .i64 0, .int .i64 0] 3) := ⟨_, rfl⟩
  obtain ⟨W6, hW6⟩ : ∃ W, W = W5.alloc (.cells #[.int .i64 3, .int .i64 1] 3) := ⟨_, rfl⟩
  obtain ⟨W7, hW7⟩ : ∃ W, W = W6.alloc (.cells #[.int .u8 1, .slice none 0 0, .slice (some ⟨q + 1, 0, none⟩) 1 1, .int .i64 0, .int .i64 0, .int .u8 5, .slice (some ⟨q + 1 + 1, 0, none⟩) 1 1, .slice none 0 0, .int .i64 0, .int .i64 0, .int .u8 2, .slice none 0 0, .slice (some ⟨q + 1 + 1 + 1, 0, none⟩) 1 1, .int .i64 0, .int .i64 0, .int .u8 3, .slice (some ⟨q + 1 + 1 + 1 + 1, 0, none⟩) 2 2, .slice none 0 0, .int .i64 0, .int .i64 0, .int .u8 3, .slice (some ⟨q + 1 + 1 + 1 + 1 + 1, 0, none⟩) 2 2, .slice none 0 0, .int .i64 0, .int .i64 0] 33) := ⟨_, rfl⟩
  have s1 : W1.heap.size = q + 1 := by rw [hW1, hq]; simp
  have s2 : W2.heap.size = q + 2 := by rw [hW2]; simp [s1]
  have s3 : W3.heap.size = q + 3 := by rw [hW3]; simp [s2]
  have s4 : W4.heap.size = q + 4 := by rw [hW4]; simp [s3]
  have s5 : W5.heap.size = q + 5 := by rw [hW5]; simp [s4]
  have s6 : W6.heap.size = q + 6 := by rw [hW6]; simp [s5]
  have b1 : Below q w W1 := by rw [hW1]; exact (Below.refl q w).alloc (by omega) _
  have b2 : Below (q + 1) W1 W2 := by rw [hW2]; exact (Below.refl (q + 1) W1).alloc (by omega) _
  have b3 : Below (q + 2) W2 W3 := by rw [hW3]; exact (Below.refl (q + 2) W2).alloc (by omega) _
  have b4 : Below (q + 3) W3 W4 := by rw [hW4]; exact (Below.refl (q + 3) W3).alloc (by omega) _
  have b5 : Below (q + 4) W4 W5 := by rw [hW5]; exact (Below.refl (q + 4) W4).alloc (by omega) _
  have b6 : Below (q + 5) W5 W6 := by rw [hW6]; exact (Below.refl (q + 5) W5).alloc (by omega) _
  have b7 : Below (q + 6) W6 W7 := by rw [hW7]; exact (Below.refl (q + 6) W6).alloc (by omega) _
  have l2 : Lies W2 (some ⟨q + 1, 0, none⟩) 1 (([2] : List Int).map (Value.int .i64)) := by have h := lit_lies W1 .i64 [2] 3; rw [s1] at h; rw [hW2]; exact h
  have l3 : Lies W3 (some ⟨q + 2, 0, none⟩) 1 (([0] : List Int).map (Value.int .i64)) := by have h := lit_lies W2 .i64 [0] 3; rw [s2] at h; rw [hW3]; exact h
  have l4 : Lies W4 (some ⟨q + 3, 0, none⟩) 1 (([2] : List Int).map (Value.int .i64)) := by have h := lit_lies W3 .i64 [2] 3; rw [s3] at h; rw [hW4]; exact h
  have l5 : Lies W5 (some ⟨q + 4, 0, none⟩) 2 (([0, 0] : List Int).map (Value.int .i64)) := by have h := lit_lies W4 .i64 [0, 0] 3; rw [s4] at h; rw [hW5]; exact h
  have l6 : Lies W6 (some ⟨q + 5, 0, none⟩) 2 (([3, 1] : List Int).map (Value.int .i64)) := by have h := lit_lies W5 .i64 [3, 1] 3; rw [s5] at h; rw [hW6]; exact h
  have e7 : W7.heap[q + 6]? = some (.cells #[.int .u8 1, .slice none 0 0, .slice (some ⟨q + 1, 0, none⟩) 1 1, .int .i64 0, .int .i64 0, .int .u8 5, .slice (some ⟨q + 1 + 1, 0, none⟩) 1 1, .slice none 0 0, .int .i64 0, .int .i64 0, .int .u8 2, .slice none 0 0, .slice (some ⟨q + 1 + 1 + 1, 0, none⟩) 1 1, .int .i64 0, .int .i64 0, .int .u8 3, .slice (some ⟨q + 1 + 1 + 1 + 1, 0, none⟩) 2 2, .slice none 0 0, .int .i64 0, .int .i64 0, .int .u8 3, .slice (some ⟨q + 1 + 1 + 1 + 1 + 1, 0, none⟩) 2 2, .slice none 0 0, .int .i64 0, .int .i64 0] 33 (0, 0)) := by rw [hW7, ← s6]; exact heap_alloc_new W6 _
  have HBK : Hid (Below q w W7) := hide ((((((b1.trans (b2.mono (by omega))).trans (b3.mono (by omega))).trans (b4.mono (by omega))).trans (b5.mono (by omega))).trans (b6.mono (by omega))).trans (b7.mono (by omega)))
  have HNK : Hid (∀ v : World, q + 7 ≤ v.heap.size → (∀ k, q < k → k < q + 7 → v.heap[k]? = W7.heap[k]?) → NsIn v (some ⟨q + 6, 0, none⟩) 5 (kn12 q)) := hide (fun v hsz hbk => by
    have sM : W7.heap.size = q + 7 := by rw [hW7]; simp [s6]
    have hk : ∀ (g : Nat) (n : Nat) (l : List Value), q < g → g < q + 7 → Lies W7 (some ⟨g, 0, none⟩) n l → Lies v (some ⟨g, 0, none⟩) n l := fun g n l h1 h2 h => h.keep (by omega) (fun b o e _ j => by cases e; exact World.cell?_of_block (hbk g h1 h2))
    have L2 := hk _ _ _ (by omega) (by omega) (((((l2.below (by rw [s2]; exact b3)).below (by rw [s3]; exact b4)).below (by rw [s4]; exact b5)).below (by rw [s5]; exact b6)).below (by rw [s6]; exact b7))
    have L3 := hk _ _ _ (by omega) (by omega) ((((l3.below (by rw [s3]; exact b4)).below (by rw [s4]; exact b5)).below (by rw [s5]; exact b6)).below (by rw [s6]; exact b7))
    have L4 := hk _ _ _ (by omega) (by omega) (((l4.below (by rw [s4]; exact b5)).below (by rw [s5]; exact b6)).below (by rw [s6]; exact b7))
    have L5 := hk _ _ _ (by omega) (by omega) ((l5.below (by rw [s5]; exact b6)).below (by rw [s6]; exact b7))
    have L6 := hk _ _ _ (by omega) (by omega) (l6.below (by rw [s6]; exact b7))
    have ev := (hbk (q + 6) (by omega) (by omega)).trans e7
    have c := fun (k : Nat) => cell_of_row v (q + 6) k _ _ (0, 0) ev
    refine ⟨rfl, fun _ => ⟨q + 6, 0, rfl, by omega, fun j x hj => ?_⟩⟩
    match j, hj with
    | 0, hj => cases hj; exact ⟨c 0, c 1, c 2, c 3, c 4, Lies.nothing, L2, Nat.le_refl _, Nat.le_refl _, by dsimp only; decide, by dsimp only; decide, by dsimp only; decide, by dsimp only; decide, by dsimp only; decide⟩
    | 1, hj => cases hj; exact ⟨c 5, c 6, c 7, c 8, c 9, L3, Lies.nothing, Nat.le_refl _, Nat.le_refl _, by dsimp only; decide, by dsimp only; decide, by dsimp only; decide, by dsimp only; decide, by dsimp only; decide⟩
    | 2, hj => cases hj; exact ⟨c 10, c 11, c 12, c 13, c 14, Lies.nothing, L4, Nat.le_refl _, Nat.le_refl _, by dsimp only; decide, by dsimp only; decide, by dsimp only; decide, by dsimp only; decide, by dsimp only; decide⟩
    | 3, hj => cases hj; exact ⟨c 15, c 16, c 17, c 18, c 19, L5, Lies.nothing, Nat.le_refl _, Nat.le_refl _, by dsimp only; decide, by dsimp only; decide, by dsimp only; decide, by dsimp only; decide, by dsimp only; decide⟩
    | 4, hj => cases hj; exact ⟨c 20, c 21, c 22, c 23, c 24, L6, Lies.nothing, Nat.le_refl _, Nat.le_refl _, by dsimp only; decide, by dsimp only; decide, by dsimp only; decide, by dsimp only; decide, by dsimp only; decide⟩
    | j + 5, hj => simp [kn12] at hj)
  have hc0 : BoxG W7 q (.slice none 0 0) := by
    have h : BoxG W1 q (.slice none 0 0) := by rw [hW1, hq]; exact BoxG.new w _
    unfold BoxG at h ⊢
    rw [b7.block q (by omega), b6.block q (by omega), b5.block q (by omega), b4.block q (by omega), b3.block q (by omega), b2.block q (by omega)]
    exact h
  have HG := hide hc0
  have HSK : Hid (W7.heap.size = q + 7) := hide (by rw [hW7]; simp [s6])
  have hf := hc0.f0 0
  have hc := hc0.c0
  rw [← hq]
  have hq' := hq.symm
  rw [hW6, hW5, hW4, hW3, hW2, hW1] at hW7
  have hWK := hW7.symm
  clear hW1 hW2 hW3 hW4 hW5 hW6 hW7 s1 s2 s3 s4 s5 s6 b1 b2 b3 b4 b5 b6 b7 l2 l3 l4 l5 l6 e7 hq hc0
  go_enter Try.func16, Try.ntmps16
  go_wp2
  (try simp only [Exit.inBlock, Exit.then])
  refine ret_gr (p := 0) rfl rfl q _ rfl (HG.out.set _) rfl ?_
  exact ⟨rfl, HNK.out _ (by simp [World.setCell, HSK.out]) (fun k h1 h2 => heap_setCell_other _ _ _ _ (by dsimp only; omega)), HBK.out.setCell (by dsimp only; omega) _⟩

set_option maxHeartbeats 1000000 in
theorem in12_any (A : Option Addr) (n c : Nat) (xs : List Int) (z : Int) (w : World) (hA : Lies w A n (xs.map (Value.int .i64))) (hn : n ≤ 281474976710656) :
    Calls Try.prog 11 #[.slice A n c, .int .i64 z] w fun e w' => e = .returned (.bool (decide (z ∈ xs))) ∧ Below w.heap.size w w' := by
  have HL : Hid (xs.length = n) := hide (lies_len9 hA)
  have HA := hide hA
  obtain ⟨R, hR⟩ : ∃ R, R = decide (z ∈ xs) := ⟨_, rfl⟩
  rw [← hR]
  have HR := hide hR
  clear hA hR
  go_enter Try.func11, Try.ntmps11
  go_wp2
  go_loopw [5] (fun i wr => ∃ k : Nat, k ≤ n ∧ i = .int .i64 k ∧ Hid (∀ j, j < k → xs.getD j 0 ≠ z) ∧ Hid (Below w.heap.size w wr)) (fun i _ => n - (intOf i).toNat)
  case atStart => exact ⟨0, Nat.zero_le _, rfl, hide (fun j hj => absurd hj (by omega)), hide (Below.refl _ _)⟩
  case round =>
    obtain ⟨k, hk, rfl, HP, HB⟩ := hrel
    by_cases hlt : k < n
    · obtain ⟨b, o, rfl, _, hx⟩ := byte_at (HA.out.below HB.out) (by omega)
      have hc := hx k hlt
      obtain ⟨x, hxe⟩ : ∃ x, x = xs.getD k 0 := ⟨_, rfl⟩
      rw [← hxe] at hc
      have HX := hide hxe
      have f0 : (0 : Int) ≤ (k : Int) := by omega
      have f1 : (k : Int) < (n : Int) := by omega
      have HXM : Hid (x ∈ xs) := hide (by rw [hxe]; exact getD_mem (by rw [HL.out]; exact hlt))
      clear hx hxe
      by_cases h1 : x = z
      · obtain rfl : R = true := by rw [HR.out]; exact decide_eq_true (h1 ▸ HXM.out)
        have g1 : (x == z) = true := by simpa using h1
        clear h1
        go_wp2
        go_ret
        exact ⟨rfl, HB.out⟩
      · have HP2 : Hid (∀ j, j < k + 1 → xs.getD j 0 ≠ z) := hide (fun j hj => by
          by_cases e : j = k
          · rw [e, ← HX.out]; exact h1
          · exact HP.out j (by omega))
        have g1 : (x == z) = false := by simpa using h1
        clear h1
        go_wp2
        go_roundw
        case rel => exact ⟨k + 1, by omega, by go_num, HP2, HB⟩
        case measure => simp [intOf] <;> omega
    · obtain rfl : k = n := by omega
      obtain rfl : R = false := by
        rw [HR.out]
        refine decide_eq_false (fun hz => ?_)
        obtain ⟨j, hj, e⟩ := List.getElem_of_mem hz
        have := HP.out j (by rw [← HL.out]; exact hj)
        have e2 : xs.getD j 0 = z := by simp [List.getD, hj, e]
        exact this e2
      have f1 : ¬ ((k : Int) < (k : Int)) := by omega
      go_wp2
      go_ret
      exact ⟨rfl, HB.out⟩

set_option maxHeartbeats 1000000 in
theorem is12_any (A B : Option Addr) (n c m d : Nat) (E : Int) (xs ys : List Int) (w : World) (hA : Lies w A n (xs.map (Value.int .i64))) (hB : Lies w B m (ys.map (Value.int .i64))) (hn : n ≤ 281474976710656) :
    Calls Try.prog 14 #[.slice A n c, .int .i64 E, .slice B m d] w fun e w' => e = .returned (.bool (decide (E = 0 ∧ xs = ys))) ∧ Below w.heap.size w w' := by
  have HC := hide (sameI_any A B n c m d xs ys w hA hB hn)
  obtain ⟨R, hR⟩ : ∃ R, R = decide (xs = ys) := ⟨_, rfl⟩
  have HR2 : Hid (decide (E = 0 ∧ xs = ys) = (decide (E = 0) && R)) := hide (by rw [hR, Bool.decide_and])
  rw [← hR] at HC
  rw [HR2.out]
  clear hA hB hR HR2
  go_enter Try.func14, Try.ntmps14
  by_cases h0 : E = 0
  · have g1 : (E == 0) = true := by simpa using h0
    rw [decide_eq_true h0, Bool.true_and]
    clear h0
    go_wp2_with fail
    refine Calls.mono HC.out ?_
    rintro e w1 ⟨rfl, hb⟩
    have HB := hide hb
    clear hb HC
    go_wp2
    go_ret
    exact ⟨rfl, HB.out⟩
  · have g1 : (E == 0) = false := by simpa using h0
    rw [decide_eq_false h0, Bool.false_and]
    clear h0
    go_wp2
    go_ret
    exact ⟨rfl, Below.refl _ _⟩

end

end Go.Proofs.Yteagmlaahnpkhaa
