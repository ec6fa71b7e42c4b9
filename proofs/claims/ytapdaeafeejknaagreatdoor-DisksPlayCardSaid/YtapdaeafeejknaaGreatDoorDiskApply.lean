/- Contracts of apply, tear and isKept of package disks: what one write does to a row of sectors. -/
import Derived.Test.YtapdaeafeejknaaGreatDoorDiskRead
import Derived.Laws.CopyOwn
import Derived.StillTailTactics
namespace Go.Proofs.YtapdaeafeejknaaGreatDoor
open Go.RowKit
set_option maxRecDepth 20000

/-- A row of cells in which those from the o-th on are others. -/
def segV (xs : List Value) (o : Nat) (cs : List Value) : List Value := xs.take o ++ cs ++ xs.drop (o + cs.length)
section
variable {P : Program} {w : World}
/-- A store of a whole element's part into a row of the call's own. -/
theorem wpList_store_row {ops : Array Oper} {rest : List Oper} {op : Oper} {a : Act} {Q : Exit → Act → World → Prop} (hgd : op.guard = none) (ty : TypeId) (x y : Operand) (hop : op.op = .store ty x y)
    (g o : Nat) (cs : List Value) (hx : a.eval x = .pointer (some ⟨g, o, none⟩)) (hy : a.eval y = .agg cs.toArray)
    {B : Nat} {e : TypeId} {s n c : Nat} {xs : List Value} (ho : w.ownsRow B e s (.slice (some ⟨g, 0, none⟩) n c) n xs) (hi : (P.info? ty).map (·.size) = some cs.length)
    (hl : o + cs.length ≤ n * s) (h1 : ∀ v ∈ cs, v.oneCell' = true)
    (h : ∀ w', Hid (w'.ownsRow B e s (.slice (some ⟨g, 0, none⟩) n c) n (segV xs o cs)) → Hid (w.grownBy w' (some g)) → w'.heap.size = w.heap.size → wpList P ops Q rest (a.put op.dst undef) w') : wpList P ops Q (op :: rest) a w := by
  obtain ⟨cur, hh, hle, h2, h3⟩ := own_seg ho o cs hl
  exact wpList_store_mid hgd ty x y hop g o cs hx hy e cur hh hi hle h1 (h _ (hide h2) (hide h3) (by simp [World.setRow]))
/-- A copy into the middle of a row of the call's own. -/
theorem wpList_copy_seg {ops : Array Oper} {rest : List Oper} {op : Oper} {a : Act} {Q : Exit → Act → World → Prop} (hgd : op.guard = none) (d s : Operand) (dT sT : TypeId)
    (hop : op.op = .call { callee := .builtin .copy, args := #[d, s], argTypes := #[dT, sT] }) (elem : TypeId) (hu : P.underlying dT = some (.slice elem)) (hsz : (P.info? elem).map (·.size) = some 1)
    (g o dLen dCap : Nat) (ad : Addr) (sLen sCap : Nat) (hd : a.eval d = .slice (some ⟨g, o, none⟩) dLen dCap) (hs : a.eval s = .slice (some ad) sLen sCap)
    {B : Nat} {e : TypeId} {sz n c : Nat} {xs : List Value} (ho : w.ownsRow B e sz (.slice (some ⟨g, 0, none⟩) n c) n xs) (cs : List Value) (hn : cs.length = Nat.min sLen dLen)
    (hsrc : ∀ j v, cs[j]? = some v → w.cell? (ad.add j) = some v) (hl : o + cs.length ≤ n * sz) (h1 : ∀ v ∈ cs, v.oneCell' = true)
    (h : ∀ w', Hid (w'.ownsRow B e sz (.slice (some ⟨g, 0, none⟩) n c) n (segV xs o cs)) → Hid (w.grownBy w' (some g)) → w'.heap.size = w.heap.size → wpList P ops Q rest (a.put op.dst (goInt cs.length)) w') : wpList P ops Q (op :: rest) a w := by
  obtain ⟨cur, hh, hle, h2, h3⟩ := own_seg ho o cs hl
  refine wpList_copy_own hgd d s dT sT hop elem hu hsz g o dLen dCap ad sLen sCap hd hs cur e hh cs hn hsrc hle h1 ?_
  rw [← List.append_assoc]
  exact h _ (hide h2) (hide h3) (by simp [World.setRow])
end

/-- A row of sectors of the call's own. -/
def SR (B : Nat) (w : World) (g c : Nat) (l : List Sec) : Prop := w.ownsRow B 87 65 (.slice (some ⟨g, 0, none⟩) l.length c) l.length (secsV l) ∧ ∀ s ∈ l, OkB s.b
section
variable {B : Nat} {w w' : World} {g c : Nat} {l : List Sec}
theorem SR.at (h : SR B w g c l) {n : Nat} (hn : n < l.length) : ∀ j u, (secV (secAt l n))[j]? = some u → w.cell? ⟨g, n * 65 + j, none⟩ = some u := by
  intro j u hj
  have hj2 : j < 65 := by have := (List.getElem?_eq_some_iff.1 hj).1; rw [secV_len (secAt_ok h.2 hn)] at this; exact this
  rw [h.1.cellAt (n * 65 + j) (by omega)]
  exact (flat_get (secs_row h.2) (secs_at hn) hj2).trans hj
theorem SR.below (h : SR B w g c l) (hb : Below w.heap.size w w') : SR B w' g c l := ⟨ownsRow_same h.1 (fun b hh => hb.block b (h.1.lt b hh).2), h.2⟩
theorem SR.alloc (h : SR B w g c l) (o : Obj) : SR B (w.alloc o) g c l := ⟨h.1.alloc o, h.2⟩
theorem SR.lt (h : SR B w g c l) : B ≤ g ∧ g < w.heap.size := h.1.lt g rfl
theorem secV_getB (s : Sec) (h : OkB s.b) {j : Nat} (hj : j < 64) : (secV s)[j]? = some (.int .u8 (s.b.getD j 0)) := by
  have : j < s.b.length := by rw [h.1]; exact hj
  simp [secV, List.getElem?_append_left, this, List.getD]
theorem secV_getF (s : Sec) (h : OkB s.b) : (secV s)[64]? = some (.bool s.bad) := by
  simp [secV, h.1]
theorem SR.cellF (h : SR B w g c l) {n : Nat} (hn : n < l.length) : w.cell? ⟨g, n * 65 + 64, none⟩ = some (.bool (secAt l n).bad) := h.at hn 64 _ (secV_getF _ (secAt_ok h.2 hn))
theorem SR.cellB (h : SR B w g c l) {n : Nat} (hn : n < l.length) {j : Nat} (hj : j < 64) : w.cell? ⟨g, n * 65 + j, none⟩ = some (.int .u8 ((secAt l n).b.getD j 0)) := h.at hn j _ (secV_getB _ (secAt_ok h.2 hn) hj)
/-- Cells of one element, from the o-th on, are others: the row of the list with that element turned. -/
theorem SR.seg (h : SR B w g c l) {n : Nat} (hn : n < l.length) {o : Nat} {vs : List Value} (ho : o + vs.length ≤ 65) (s : Sec) (hs : OkB s.b) (hv : (secV (secAt l n)).take o ++ vs ++ (secV (secAt l n)).drop (o + vs.length) = secV s)
    (h2 : w'.ownsRow B 87 65 (.slice (some ⟨g, 0, none⟩) l.length c) l.length (segV (secsV l) (n * 65 + o) vs)) : SR B w' g c (l.set n s) := by
  have e := flat_seg (secs_row h.2) (secs_at hn) o vs ho
  rw [hv, secs_set] at e
  refine ⟨?_, set_ok h.2 hs⟩
  rw [List.length_set]
  have e2 : segV (secsV l) (n * 65 + o) vs = secsV (l.set n s) := e
  rw [e2] at h2
  exact h2
theorem set_seg (xs : List Value) (k : Nat) (v : Value) (hk : k < xs.length) : xs.set k v = xs.take k ++ [v] ++ xs.drop (k + 1) := by
  rw [List.set_eq_take_append_cons_drop, if_pos hk]
  simp
/-- One cell of one element is another. -/
theorem SR.cell (h : SR B w g c l) {n : Nat} (hn : n < l.length) {o : Nat} {v : Value} (ho : o < 65) (s : Sec) (hs : OkB s.b) (hv : (secV (secAt l n)).set o v = secV s) : SR B (w.setCell ⟨g, n * 65 + o, none⟩ v) g c (l.set n s) := by
  have hlen : (secsV l).length = l.length * 65 := by have := h.1.1; exact this
  have h2 := h.1.stored (n * 65 + o) v
  have hlt : n * 65 + o < (secsV l).length := by omega
  have hr : (secV (secAt l n)).length = 65 := secV_len (secAt_ok h.2 hn)
  rw [set_seg _ _ _ hlt] at h2
  rw [set_seg _ _ _ (by omega)] at hv
  exact h.seg hn (o := o) (vs := [v]) (by simp; omega) s hs hv h2.1
end

theorem Tryz.infoPo : (Tryz.prog.info? 79).map (·.size) = some 2 := by kernel_rfl
theorem wrV_get {i : Nat} {x : Wr} (h : OkB x.b) {j : Nat} (hj : j < 64) : (wrV i x)[2 + j]? = some (.int .u8 (x.b.getD j 0)) := by
  have : j < x.b.length := by rw [h.1]; exact hj
  simp [wrV, Nat.add_comm 2 j, List.getElem?_append_left, this, List.getD]
theorem wrV_old {i : Nat} {x : Wr} (h : OkB x.b) : (wrV i x)[66]? = some (.bool x.old) := by
  simp [wrV, h.1]
theorem wrV_bytes {i : Nat} {x : Wr} : ∀ j u, (x.b.map (Value.int .u8))[j]? = some u → (wrV i x)[2 + j]? = some u := by
  intro j u hj
  have : j < x.b.length := by have := (List.getElem?_eq_some_iff.1 hj).1; simpa using this
  simp [wrV, Nat.add_comm 2 j, List.getElem?_append_left, this]
  simpa [this] using hj
theorem ones3 (κ : IntKind) (zs : List Int) : ∀ u ∈ zs.map (Value.int κ), u.oneCell' = true := by
  intro u hu
  obtain ⟨z, _, rfl⟩ := List.mem_map.1 hu
  rfl
theorem secV_putB (s : Sec) (h : OkB s.b) (b : List Int) (hb : OkB b) : (secV s).take 0 ++ b.map (Value.int .u8) ++ (secV s).drop (0 + (b.map (Value.int .u8)).length) = secV ⟨b, s.bad⟩ := by
  have e : (b.map (Value.int .u8)).length = (s.b.map (Value.int .u8)).length := by simp [hb.1, h.1]
  rw [e, Nat.zero_add, secV, List.drop_left]
  rfl
theorem secV_putF (s : Sec) (h : OkB s.b) (f : Bool) : (secV s).set 64 (.bool f) = secV ⟨s.b, f⟩ := by
  have e : (s.b.map (Value.int .u8)).length = 64 := by simp [h.1]
  rw [secV, ← e, List.set_append_right _ _ (Nat.le_refl _), Nat.sub_self]
  rfl
def voidV : Value := .tuple #[]

set_option maxHeartbeats 800000 in
theorem apply_any {B g c i n : Nat} {l : List Sec} (x : Wr) (w : World) (h : SR B w g c l) (hx : OkB x.b) (hn : n < l.length) :
    Calls Tryz.prog 31 #[.agg (wrV i x).toArray, .pointer (some ⟨g, n * 65, none⟩)] w fun e w' => e = .returned voidV ∧ SR B w' g c (l.set n ⟨x.b, (secAt l n).bad && x.old⟩) ∧ Turns w w' (· = g) := by
  have HS := hide h
  have hlt := h.lt
  have HX := hide hx
  have hlen : l.length * 65 = (secsV l).length := h.1.1.symm
  have hr : n * 65 + 65 ≤ l.length * 65 := by omega
  have HI : Hid ((Tryz.prog.info? 81).map (·.size) = some (x.b.map (Value.int .u8)).length) := hide (by rw [List.length_map, hx.1]; exact Tryz.infoCo)
  have HR : Hid (n * 65 + (x.b.map (Value.int .u8)).length ≤ l.length * 65) := hide (by rw [List.length_map, hx.1]; omega)
  have HC : Hid (∀ j u, (x.b.map (Value.int .u8))[j]? = some u → (w.alloc (.cells (wrV i x).toArray 83)).cell? ⟨w.heap.size, 2 + j, none⟩ = some u) := hide (fun j u hj => by
    have := cells_new w (wrV i x) 83 (2 + j) u (wrV_bytes j u hj)
    rwa [Addr.add_lit, Nat.zero_add] at this)
  clear h hx hlen
  go_enter Tryz.func31, Tryz.ntmps31
  go_wp2_with (first | (refine wpList_load_mid rfl 81 _ rfl _ _ (x.b.map (Value.int .u8)) _ rfl HC.out Tryz.underlying81 rfl HI.out ?_) | (refine wpList_store_row rfl 81 _ _ rfl g (n * 65) (x.b.map (Value.int .u8)) rfl rfl (HS.out.alloc _).1 HI.out HR.out (ones3 _ _) ?_))
  intro w2 HO2 HG2 hz2
  have HS2 : Hid (SR B w2 g c (l.set n ⟨x.b, (secAt l n).bad⟩)) := hide ((HS.out.alloc (.cells (wrV i x).toArray 83)).seg hn (o := 0) (vs := x.b.map (Value.int .u8)) (by rw [List.length_map, HX.out.1]; omega) ⟨x.b, (secAt l n).bad⟩ HX.out (secV_putB _ (secAt_ok HS.out.2 hn) _ HX.out) HO2.out)
  have HT : Hid (Turns w w2 (· = g)) := hide ((Turns.of_below ((Below.refl _ _).alloc (Nat.le_refl _) (.cells (wrV i x).toArray 83)) _).trans (Turns.of_grown HG2.out rfl))
  have c1 : w2.cell? ⟨w.heap.size, 66, none⟩ = some (.bool x.old) := by
    have e := World.cell?_of_block (a := ⟨w.heap.size, 66, none⟩) (HG2.out.block w.heap.size (by simp) (by intro e; injection e with e; omega))
    rw [e, World.cell?_alloc_new]
    have := wrV_old (i := i) HX.out
    simpa using this
  have hn2 : n < (l.set n ⟨x.b, (secAt l n).bad⟩).length := by rw [List.length_set]; exact hn
  have c2 := HS2.out.cellF hn2
  have c3 := HS2.out.1.frozenAt (n * 65 + 64)
  have hsec : secAt (l.set n ⟨x.b, (secAt l n).bad⟩) n = ⟨x.b, (secAt l n).bad⟩ := by simp [secAt, List.getD, hn]
  rw [hsec] at c2
  have HSEC := hide hsec
  clear HO2 HG2 hsec HR HI HC
  obtain ⟨old, hold⟩ : ∃ old, old = x.old := ⟨_, rfl⟩
  rw [← hold] at c1
  have HOLD := hide hold
  clear hold
  cases old
  · go_wp2
    go_end0
    refine ⟨rfl, ?_, HT.out.trans (Turns.of_grown (HS2.out.1.stored _ _).2 rfl)⟩
    rw [← HOLD.out, Bool.and_false]
    have := HS2.out.cell hn2 (o := 64) (v := .bool false) (by omega) ⟨x.b, false⟩ HX.out (by rw [HSEC.out]; exact secV_putF ⟨x.b, _⟩ HX.out false)
    rwa [List.set_set] at this
  · go_wp2
    go_end0
    refine ⟨rfl, ?_, HT.out⟩
    rw [← HOLD.out, Bool.and_true]
    exact HS2.out

def keptB (keep i : Nat) : Bool := decide (keep / 2 ^ (i % 64) % 2 = 1)
set_option maxHeartbeats 800000 in
theorem kept_any (keep i n : Nat) (w : World) (hk : keep < 18446744073709551616) (hi : i ≤ 140737488355328) :
    Calls Tryz.prog 35 #[.agg #[.int .i64 (n : Int), .int .i64 (i : Int)], .int .u64 (keep : Int)] w fun e w' => e = .returned (.bool (keptB keep i)) ∧ Below w.heap.size w w' := by
  have hq : keep / 2 ^ (i % 64) < 18446744073709551616 := Nat.lt_of_le_of_lt (Nat.div_le_self _ _) hk
  have hb := u64_and_nat (keep / 2 ^ (i % 64)) 1 hq (by omega)
  rw [Nat.and_one_is_mod] at hb
  have hcast : ((keep : Int) / 2 ^ (i % 64)) = ((keep / 2 ^ (i % 64) : Nat) : Int) := by simp
  have HB : Hid ((bits BinOp.and IntKind.u64 ((keep : Int) / 2 ^ (i % 64)) 1 == 1) = keptB keep i) := hide (by
    rw [hcast]
    have hb' : bits BinOp.and IntKind.u64 ((keep / 2 ^ (i % 64) : Nat) : Int) 1 = _ := hb
    rw [hb']
    unfold keptB
    rw [Bool.eq_iff_iff]
    simp
    omega)
  clear hb hcast hq
  go_enter Tryz.func35, Tryz.ntmps35
  go_wp2
  go_ret
  exact ⟨by rw [HB.out]; rfl, (Below.refl _ _).alloc (Nat.le_refl _) _⟩

theorem secV_half (s : Sec) (h : OkB s.b) (b : List Int) (hb : OkB b) : (secV s).take 0 ++ (b.take 32).map (Value.int .u8) ++ (secV s).drop (0 + ((b.take 32).map (Value.int .u8)).length) = secV ⟨b.take 32 ++ s.b.drop 32, s.bad⟩ := by
  have e : ((b.take 32).map (Value.int .u8)).length = 32 := by simp [hb.1]
  rw [e, Nat.zero_add, secV, List.drop_append_of_le_length (by simp [h.1])]
  simp [secV]
set_option maxHeartbeats 800000 in
theorem tear_any {B g c i n : Nat} {l : List Sec} (x : Wr) (w : World) (h : SR B w g c l) (hx : OkB x.b) (hn : n < l.length) :
    Calls Tryz.prog 34 #[.agg (wrV i x).toArray, .pointer (some ⟨g, n * 65, none⟩)] w fun e w' => e = .returned voidV ∧ SR B w' g c (l.set n ⟨x.b.take 32 ++ (secAt l n).b.drop 32, (secAt l n).bad⟩) ∧ Turns w w' (· = g) := by
  have HS := hide h
  have hlt := h.lt
  have HX := hide hx
  have hlen : l.length * 65 = (secsV l).length := h.1.1.symm
  have hr : n * 65 + 65 ≤ l.length * 65 := by omega
  have hl32 : ((x.b.take 32).map (Value.int .u8)).length = 32 := by simp [hx.1]
  have HL : Hid (((x.b.take 32).map (Value.int .u8)).length = Nat.min 32 32) := hide hl32
  have HR : Hid (n * 65 + ((x.b.take 32).map (Value.int .u8)).length ≤ l.length * 65) := hide (by rw [hl32]; omega)
  have HC : Hid (∀ j u, ((x.b.take 32).map (Value.int .u8))[j]? = some u → (w.alloc (.cells (wrV i x).toArray 83)).drew.cell? ((⟨w.heap.size, 2, none⟩ : Addr).add j) = some u) := hide (fun j u hj => by
    rw [List.map_take, List.getElem?_take] at hj
    split at hj
    · have := cells_new w (wrV i x) 83 (2 + j) u (wrV_bytes j u hj)
      rw [Addr.add_lit, Nat.zero_add] at this
      rw [Addr.add_lit]
      exact this
    · cases hj)
  clear h hx hlen hl32
  go_enter Tryz.func34, Tryz.ntmps34
  go_wp2
  go_still_tail 6, (by kernel_rfl)
  change wpList _ _ _ _ _ ((w.alloc (.cells (wrV i x).toArray 83)).drew)
  refine (wpList_copy_seg rfl (.tmp 7) (.tmp 9) 48 48 rfl 5 Tryz.underlying48 Tryz.sizeB g (n * 65) 32 64 ⟨w.heap.size, 2, none⟩ 32 64 rfl rfl (HS.out.alloc _).1.drew ((x.b.take 32).map (Value.int .u8)) HL.out HC.out HR.out (ones3 _ _) ?_)
  intro w2 HO2 HG2 hz2
  have HS2 : Hid (SR B w2 g c (l.set n ⟨x.b.take 32 ++ (secAt l n).b.drop 32, (secAt l n).bad⟩)) := hide ((HS.out.alloc (.cells (wrV i x).toArray 83)).seg hn (o := 0) (vs := (x.b.take 32).map (Value.int .u8)) (by rw [HL.out]; decide) _ (half_ok HX.out (secAt_ok HS.out.2 hn)) (secV_half _ (secAt_ok HS.out.2 hn) _ HX.out) HO2.out)
  have HT : Hid (Turns w w2 (· = g)) := hide ((Turns.of_below ((Below.refl _ _).alloc (Nat.le_refl _) (.cells (wrV i x).toArray 83)) _).trans ⟨HG2.out.os, HG2.out.tape, HG2.out.output, HG2.out.size, fun i hi hn => HG2.out.block i hi (by rintro e; injection e with e; exact hn e)⟩)
  clear HO2 HG2 HR HL HC
  go_wp2
  go_end0
  exact ⟨rfl, HS2.out, HT.out⟩
end Go.Proofs.YtapdaeafeejknaaGreatDoor
