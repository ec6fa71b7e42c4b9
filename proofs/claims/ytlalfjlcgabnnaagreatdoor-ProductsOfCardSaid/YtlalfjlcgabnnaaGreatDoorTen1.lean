/- Contracts of package tensors: Check, New, At; Clone and Equal at lists of integers. -/
import Derived.Test.YtlalfjlcgabnnaaGreatDoorShapeIndex2
import Derived.Test.YtlalfjlcgabnnaaGreatDoorList
import Derived.Test.YtlalfjlcgabnnaaGreatDoorAppNil
import Derived.Lib.SliceRun
import Derived.Laws.MakeOwn
import Derived.ArgAppend
import Derived.OwnWalk
import Derived.Laws.ResultCell
import Derived.Deep.RegionHeld3
namespace Go.Proofs.YtlalfjlcgabnnaaGreatDoor
open Go.RowKit
set_option linter.unusedVariables false
set_option linter.unusedSimpArgs false
set_option maxRecDepth 20000

/-- A tensor as a value. -/
abbrev tenV (A : Option Addr) (n c : Nat) (B : Option Addr) (m d : Nat) : Value := .agg #[.slice A n c, .slice B m d]

/-- May a tensor be, of this shape and that many numbers? -/
def tenOk (s : List Int) (m : Nat) : Bool := decide (0 < sizeI s) && decide (sizeI s = (m : Int))

theorem tenOk_iff {s : List Int} {m : Nat} : tenOk s m = true ↔ 0 < sizeI s ∧ sizeI s = (m : Int) := by simp [tenOk]

set_option maxHeartbeats 1000000 in
theorem tcheck_any (A B : Option Addr) (n c m d : Nat) (s : List Int) (w : World) (hA : Lies w A n (s.map (Value.int .i64))) (hn : n ≤ 281474976710656) :
    Calls Tryz.prog 22 #[tenV A n c B m d] w fun e w' => e = .returned (.bool (tenOk s m)) ∧ Below w.heap.size w w' := by
  have HA := hide hA
  clear hA
  go_enter Tryz.func22, Tryz.ntmps22
  go_wp2_with fail
  refine Calls.mono (size_any A n c s _ (HA.out.alloc _) hn) ?_
  rintro e w2 ⟨rfl, hb⟩
  have HB := hide hb
  have hbox : w2.heap[w.heap.size]? = some (.cells #[.slice A n c, .slice B m d] 25 (0, 0)) := (hb.block w.heap.size (by simp)).trans (heap_alloc_new w _)
  have hc1 : w2.cell? ⟨w.heap.size, 1, none⟩ = some (.slice B m d) := cell_of_row _ _ 1 _ _ (0, 0) hbox
  have HBB := hide ((((Below.refl w.heap.size w).alloc (Nat.le_refl _) (.cells #[.slice A n c, .slice B m d] 25))).trans (hb.mono (by simp)))
  clear hb hbox
  obtain ⟨y, hy⟩ : ∃ y, y = sizeI s := ⟨_, rfl⟩
  have HD : Hid (tenOk s m = (decide (0 < y) && decide (y = (m : Int)))) := hide (by rw [hy]; rfl)
  rw [← hy]
  clear hy
  by_cases h0 : 0 < y
  · go_wp2
    go_ret
    exact ⟨by rw [HD.out]; simp [Act.eval, h0]; rfl, HBB.out⟩
  · go_wp2
    go_ret
    exact ⟨by rw [HD.out]; simp [Act.eval, h0]; intro h; omega, HBB.out⟩

set_option maxHeartbeats 800000 in
theorem clone_ints (A : Option Addr) (n c : Nat) (s : List Int) (w : World) (h : Lies w A n (s.map (Value.int .i64))) (hp : 0 < n) (hm : n ≤ 1073741824) :
    Calls Tryz.prog 79 #[.slice A n c] w fun e w' => ∃ g' c', e = .returned (.slice (some ⟨g', 0, none⟩) n c') ∧ w'.ownsRow w.heap.size 3 1 (.slice (some ⟨g', 0, none⟩) n c') n (s.map (Value.int .i64)) ∧ Below w.heap.size w w' := by
  obtain ⟨i, hi, hz0, hz1, hz2⟩ := info_parts Tryz.infoI
  obtain ⟨b, o, rfl, hb, hx⟩ := h.cells hp
  have HI := hide hi
  have HZ0 := hide hz0
  have HZ1 := hide hz1
  have HZ2 := hide hz2
  have HLN : Hid ((s.map (Value.int .i64)).length = n * 1) := hide (by rw [h.len]; omega)
  have HL : Hid (∀ j u, (s.map (Value.int .i64))[j]? = some u → (w.alloc (.cells #[] 3)).cell? ((⟨b, o, none⟩ : Addr).add j) = some u) := hide (fun j u hj => by
    have hjn : j < n := by have := (List.getElem?_eq_some_iff.1 hj).1; have := h.len; omega
    obtain ⟨b', o', e, _, hy⟩ := (h.alloc (.cells #[] 3)).cells hp
    cases e
    rw [Addr.add_lit, hy j hjn, hj])
  have heq : (binOp .eql 22 (.slice (some ⟨b, o, none⟩) n c) (.slice none 0 0)).run Tryz.prog w = .ok (.bool false) w := Lib.run_eql_slice_nil w _ _ _ _ _ _ _ Tryz.underlying22
  clear h hi hz0 hz1 hz2 hx
  go_enter Tryz.func79, Tryz.ntmps79
  go_wp2_with (at_builtin; refine wpList_append_grows _ rfl _ _ 22 rfl 3 i _ 1 8 Tryz.underlying22 HI.out HZ0.out HZ1.out HZ2.out rfl (Nat.succ_pos _) (some ⟨w.heap.size, 0, none⟩) 0 0 [] rfl (fun h => by cases h) rfl (fun _ _ j u hj => by cases hj) ⟨b, o, none⟩ n c (s.map (Value.int .i64)) rfl HLN.out HL.out (ints_one .i64 s) (by omega) (by unfold maxLen; omega) (by omega) ?_)
  intro v' w' hown hgr
  obtain ⟨g', c', rfl⟩ : ∃ g' c', v' = .slice (some ⟨g', 0, none⟩) n c' := by
    rcases hown.2 with ⟨_, h0⟩ | ⟨g', c', _, h0, _⟩
    · omega
    · exact ⟨g', c', h0⟩
  have HF := hide (own_base (base' := w.heap.size) hown (by simp))
  have HB : Hid (Below w.heap.size w w') := hide (((Below.refl w.heap.size w).alloc (Nat.le_refl _) _).grown hgr (by simp) (by simp))
  clear hown hgr heq
  go_wp2
  go_ret
  exact ⟨g', c', by simp [Act.eval], HF.out, HB.out⟩

/-- A result that is a tensor in a block, and a number. -/
theorem results_ten {fn : Func} {p u : Tmp} (h : fn.results = #[.cell p 25, .tmp u]) (tmps : Array Value) (w : World) (g : Nat) (cs : Array Value)
    (hp : tmps.getD p undef = .pointer (some ⟨g, 0, none⟩)) (hg : w.heap[g]? = some (.cells cs 25 (0, 0))) (hs : cs.size = 2) :
    (results fn tmps).run Tryz.prog w = .ok (.tuple #[.agg cs, tmps.getD u undef]) w := by
  rw [results_cell_tmp h, hp]
  have hl := run_loadVar_row w g 25 25 cs (0, 0) _ hg Tryz.underlying25 rfl (by rw [hs]; kernel_rfl)
  simp [asAddr, Result.andThen, hl]

theorem ret_ten {fn : Func} {p u : Tmp} {R : Ending → World → Prop} {a : Act} {w : World} (h : fn.results = #[.cell p 25, .tmp u]) (hd : a.defers = []) (g : Nat) (cs : Array Value)
    (hp : a.tmps.getD p undef = .pointer (some ⟨g, 0, none⟩)) (hg : w.heap[g]? = some (.cells cs 25 (0, 0))) (hs : cs.size = 2) (hR : R (.returned (.tuple #[.agg cs, a.tmps.getD u undef])) w) : bodyPost Tryz.prog fn R .ret a w :=
  bodyPost_ret (results_ten h _ w g cs hp hg hs) hd hR

theorem results_ten1 {fn : Func} {p : Tmp} (h : fn.results = #[.cell p 25]) (tmps : Array Value) (w : World) (g : Nat) (cs : Array Value)
    (hp : tmps.getD p undef = .pointer (some ⟨g, 0, none⟩)) (hg : w.heap[g]? = some (.cells cs 25 (0, 0))) (hs : cs.size = 2) :
    (results fn tmps).run Tryz.prog w = .ok (.agg cs) w :=
  results_cell_row h tmps w g 25 cs (0, 0) _ hp hg Tryz.underlying25 rfl (by rw [hs]; kernel_rfl)

theorem ret_ten1 {fn : Func} {p : Tmp} {R : Ending → World → Prop} {a : Act} {w : World} (h : fn.results = #[.cell p 25]) (hd : a.defers = []) (g : Nat) (cs : Array Value)
    (hp : a.tmps.getD p undef = .pointer (some ⟨g, 0, none⟩)) (hg : w.heap[g]? = some (.cells cs 25 (0, 0))) (hs : cs.size = 2) (hR : R (.returned (.agg cs)) w) : bodyPost Tryz.prog fn R .ret a w :=
  bodyPost_ret (results_ten1 h _ w g cs hp hg hs) hd hR

end Go.Proofs.YtlalfjlcgabnnaaGreatDoor
