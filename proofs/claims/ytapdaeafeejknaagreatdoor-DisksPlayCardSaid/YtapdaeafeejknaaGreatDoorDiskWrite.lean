/- Contract of Write of package disks on a disk that is there. -/
import Derived.Test.YtapdaeafeejknaaGreatDoorDiskApply
import Derived.Deep.RegionHeld3
import Derived.Deep.MidRow
namespace Go.Proofs.YtapdaeafeejknaaGreatDoor
open Go.RowKit
set_option maxRecDepth 20000

theorem own_base' {w : World} {base base' : Nat} {e : TypeId} {s : Nat} {v : Value} {n : Nat} {xs : List Value} (h : w.ownsRow base e s v n xs) (hb : base' ≤ base) : w.ownsRow base' e s v n xs := by
  refine ⟨h.1, ?_⟩
  rcases h.2 with h2 | ⟨g, cap, cur, hv, hg, r⟩
  · exact .inl h2
  · exact .inr ⟨g, cap, cur, hv, by omega, r⟩
section
variable {P : Program} {w : World}
theorem run_append_moved (t ty e : TypeId) (i : TypeInfo) (z : Value) (size bytes : Nat) (ht : P.underlying t = some (.slice e)) (hi : P.info? e = some i) (hz : i.zero = some z) (hsize : i.size = size) (hby : i.bytes = bytes) (hzs : z.cells.size = size) (hpos : 0 < size)
    (base : Nat) (v : Value) (n : Nat) (xs : List Value) (ho : w.ownsRow base e size v n xs) (hbase : base ≤ w.heap.size)
    (ad : Addr) (news : List Value) (hl : news.length = 1 * size) (hx : ∀ j u, news[j]? = some u → w.cell? (ad.add j) = some u) (h1 : ∀ u ∈ news, u.oneCell' = true) (hb : (n + 1) * bytes ≤ 140737488355328) (h63 : n + 1 ≤ maxLen) :
    ∃ g' c' w', (Builtin.append_ #[t, t] ty #[v, .slice (some ad) 1 1]).run P w = .ok (.slice (some ⟨g', 0, none⟩) (n + 1) c') w' ∧ w'.ownsRow base e size (.slice (some ⟨g', 0, none⟩) (n + 1) c') (n + 1) (xs ++ news) ∧ Moved w w' v (.slice (some ⟨g', 0, none⟩) (n + 1) c') := by
  rcases ho.2 with ⟨e0, h0⟩ | ⟨g, cap, cur, e0, hg, hh, hnc, hcm, hcs, hta⟩
  · subst e0
    subst h0
    have hnil : xs = [] := List.eq_nil_of_length_eq_zero (by simpa using ho.1)
    subst hnil
    obtain ⟨v', w', hrun, hown, hgr, _⟩ := run_append_own (P := P) w w.heap.size t ty e i z size bytes ht hi hz hsize hby hzs hpos (.slice none 0 0) 0 [] (World.ownsRow_nil _ _ _ _) ad 1 1 news hl hx h1 h63 hb (Nat.le_refl _)
    rcases hown.2 with ⟨_, h0⟩ | ⟨g, cap, cur, rfl, hgb, r⟩
    · omega
    · exact ⟨g, cap, w', hrun, own_base' hown hbase, .inr ⟨hgr, fun b hb' => by simp [Value.ownBlock] at hb'; omega⟩⟩
  · subst e0
    by_cases hfit : n + 1 ≤ cap
    · obtain ⟨w', hrun, h2, h3⟩ := run_append_fits (P := P) w base t ty e i size ht hi hsize g n cap xs ho ad 1 1 news hl hx h1 hfit
      exact ⟨g, cap, w', hrun, h2, .inl ⟨rfl, h3⟩⟩
    · have holds : ∀ j u, xs[j]? = some u → w.cell? ((⟨g, 0, none⟩ : Addr).add j) = some u := ho.cells (g := g) rfl
      obtain ⟨v', w', hrun, hown, hgr⟩ := run_append_arg_grows (P := P) w t ty e i z size bytes ht hi hz hsize hby hzs hpos ⟨g, 0, none⟩ n cap xs ho.1 holds ad 1 1 news hl hx (by omega) h63 hb
      rcases hown.2 with ⟨_, h0⟩ | ⟨g', cap', cur', rfl, hgb, r⟩
      · omega
      · exact ⟨g', cap', w', hrun, own_base' hown hbase, .inr ⟨hgr, fun b hb' => by simp [Value.ownBlock] at hb'; omega⟩⟩
theorem step_append_moved {ops : Array Oper} {op : Oper} {a : Act} {K : Act → World → Prop} {Q : Exit → Act → World → Prop} {E : Prop} (hgd : op.guard = none) (s x : Operand) (t : TypeId)
    (hop : op.op = .call { callee := .builtin .append, args := #[s, x], argTypes := #[t, t] })
    (e : TypeId) (i : TypeInfo) (z : Value) (size bytes : Nat) (ht : P.underlying t = some (.slice e)) (hi : P.info? e = some i) (hz : i.zero = some z) (hsize : i.size = size) (hby : i.bytes = bytes) (hzs : z.cells.size = size) (hpos : 0 < size)
    (base : Nat) (v : Value) (n : Nat) (xs : List Value) (hs : a.eval s = v) (ho : w.ownsRow base e size v n xs) (hbase : base ≤ w.heap.size)
    (ad : Addr) (news : List Value) (hxe : a.eval x = .slice (some ad) 1 1) (hl : news.length = 1 * size) (hx : ∀ j u, news[j]? = some u → w.cell? (ad.add j) = some u) (h1 : ∀ u ∈ news, u.oneCell' = true) (hb : (n + 1) * bytes ≤ 140737488355328) (h63 : n + 1 ≤ maxLen)
    (h : ∀ g' c' w', Hid (w'.ownsRow base e size (.slice (some ⟨g', 0, none⟩) (n + 1) c') (n + 1) (xs ++ news)) → Hid (Moved w w' v (.slice (some ⟨g', 0, none⟩) (n + 1) c')) → K (a.put op.dst (.slice (some ⟨g', 0, none⟩) (n + 1) c')) w') :
    if Region.wanted op (yielded ops a.tmps) = true then Oper.wp P op a w K Q else E := by
  have hw : Region.wanted op (yielded ops a.tmps) = true := by simp [Region.wanted, hgd]
  rw [if_pos hw]
  obtain ⟨g', c', w', hrun, hown, hg⟩ := run_append_moved (P := P) (w := w) t op.type e i z size bytes ht hi hz hsize hby hzs hpos base v n xs ho hbase ad news hl hx h1 hb h63
  unfold Oper.wp
  simp [execOp, hop, resolve, invoke, builtin, hs, hxe, hrun, Result.andThen]
  exact h g' c' w' (hide hown) (hide hg)
/-- A copy of a whole slice, nil let in, into the middle of a row of the call's own. -/
theorem wpList_copy_lies {ops : Array Oper} {rest : List Oper} {op : Oper} {a : Act} {Q : Exit → Act → World → Prop} (hgd : op.guard = none) (d s : Operand) (dT sT : TypeId)
    (hop : op.op = .call { callee := .builtin .copy, args := #[d, s], argTypes := #[dT, sT] }) (elem : TypeId) (hu : P.underlying dT = some (.slice elem)) (hsz : (P.info? elem).map (·.size) = some 1)
    (g o dLen dCap : Nat) (A : Option Addr) (m c : Nat) (hd : a.eval d = .slice (some ⟨g, o, none⟩) dLen dCap) (hs : a.eval s = .slice A m c)
    {B : Nat} {e : TypeId} {sz n cc : Nat} {xs : List Value} (ho : w.ownsRow B e sz (.slice (some ⟨g, 0, none⟩) n cc) n xs) (cs : List Value) (hL : Lies w A m cs) (hm : m ≤ dLen)
    (hl : o + cs.length ≤ n * sz) (h1 : ∀ v ∈ cs, v.oneCell' = true)
    (h : ∀ v w', Hid (w'.ownsRow B e sz (.slice (some ⟨g, 0, none⟩) n cc) n (segV xs o cs)) → Hid (w.grownBy w' (some g)) → w'.heap.size = w.heap.size → wpList P ops Q rest (a.put op.dst v) w') : wpList P ops Q (op :: rest) a w := by
  by_cases h0 : m = 0
  · obtain rfl : cs = [] := List.eq_nil_of_length_eq_zero (by rw [hL.len, h0])
    refine wpList_copy_nothing hgd d s dT sT hop elem hu hsz _ _ dLen dCap m c hd hs (by subst h0; exact Nat.zero_min _) ?_
    exact h _ w (hide (by rw [show segV xs o [] = xs by simp [segV]]; exact ho)) (hide (World.grownBy.refl _ _)) rfl
  · obtain ⟨b, o', rfl, hb, hx⟩ := hL.cells (by omega)
    refine wpList_copy_seg hgd d s dT sT hop elem hu hsz g o dLen dCap ⟨b, o', none⟩ m c hd hs ho cs (by rw [hL.len]; exact (Nat.min_eq_left hm).symm) (fun j v hj => ?_) hl h1 (fun w' => h _ w')
    have hj2 : j < m := by have := (List.getElem?_eq_some_iff.1 hj).1; rw [hL.len] at this; exact this
    rw [Addr.add_lit, hx j hj2, hj]
end
end Go.Proofs.YtapdaeafeejknaaGreatDoor
