/- Contracts of the document's own answers for numbers and lists as bytes (package drydockref01). -/
import Derived.Test.YtkmkhjhdgickfaaGreatDoorTwin
import Derived.Test.YtkmkhjhdgickfaaGreatDoorBack
namespace Go.Proofs.YtkmkhjhdgickfaaGreatDoor
open Go.RowKit

section
variable {P : Program} {w : World}
/-- append of a whole slice, nil let in, onto a row of the call's own, nil let in. -/
theorem run_append_src (t ty e : TypeId) (i : TypeInfo) (z : Value) (bytes : Nat) (ht : P.underlying t = some (.slice e)) (hi : P.info? e = some i) (hz : i.zero = some z) (hsize : i.size = 1) (hby : i.bytes = bytes) (hzs : z.cells.size = 1)
    (base : Nat) (v : Value) (n : Nat) (xs : List Value) (ho : w.ownsRow base e 1 v n xs) (hbase : base ≤ w.heap.size)
    (A : Option Addr) (m c : Nat) (news : List Value) (hn : Lies w A m news) (hnil : A = none → c = 0) (h1 : ∀ u ∈ news, u.oneCell' = true) (hb : (n + m) * bytes ≤ 140737488355328) (h63 : n + m ≤ maxLen) :
    ∃ A' c' w', (Builtin.append_ #[t, t] ty #[v, .slice A m c]).run P w = .ok (.slice A' (n + m) c') w' ∧ w'.ownsRow base e 1 (.slice A' (n + m) c') (n + m) (xs ++ news) ∧ w.grownBy w' v.ownBlock := by
  cases A with
  | none =>
    obtain rfl : c = 0 := hnil rfl
    have hm : m = 0 := by
      rcases Nat.eq_zero_or_pos m with h | h
      · exact h
      · obtain ⟨_, _, h2, _⟩ := hn.cells h; cases h2
    subst hm
    have hnn : news = [] := List.eq_nil_of_length_eq_zero hn.len
    subst hnn
    have hrun := run_append_owned_none (P := P) w base t ty e i 1 ht hi v n xs ho
    rcases ho.2 with ⟨rfl, rfl⟩ | ⟨g, cap, cur, rfl, r⟩
    · exact ⟨none, 0, w, hrun, by simpa using ho, World.grownBy.refl _ _⟩
    · exact ⟨some ⟨g, 0, none⟩, cap, w, hrun, by simpa using ho, World.grownBy.refl _ _⟩
  | some ad =>
    have hcells : ∀ j u, news[j]? = some u → w.cell? (ad.add j) = some u := by
      intro j u hj
      have hjl : j < m := by have := (List.getElem?_eq_some_iff.1 hj).1; have := hn.len; omega
      obtain ⟨b, o, e1, _, hx⟩ := hn.cells (by omega)
      injection e1 with e1
      subst e1
      rw [Addr.add_lit, hx j hjl, hj]
    obtain ⟨v', w', hrun, hown, hg, _⟩ := run_append_own (P := P) w base t ty e i z 1 bytes ht hi hz hsize hby hzs (by omega) v n xs ho ad m c news (by have := hn.len; omega) hcells h1 h63 hb hbase
    rcases hown.2 with ⟨rfl, h0⟩ | ⟨g, cap, cur, rfl, r⟩
    · refine ⟨none, 0, w', ?_, ?_, hg⟩
      · rw [h0]; exact hrun
      · rw [h0]; rw [h0] at hown; exact hown
    · exact ⟨some ⟨g, 0, none⟩, cap, w', hrun, hown, hg⟩
theorem wpList_append_src {ops : Array Oper} {rest : List Oper} {op : Oper} {a : Act} {Q : Exit → Act → World → Prop} (hgd : op.guard = none) (s x : Operand) (t : TypeId)
    (hop : op.op = .call { callee := .builtin .append, args := #[s, x], argTypes := #[t, t] })
    (e : TypeId) (i : TypeInfo) (z : Value) (bytes : Nat) (ht : P.underlying t = some (.slice e)) (hi : P.info? e = some i) (hz : i.zero = some z) (hsize : i.size = 1) (hby : i.bytes = bytes) (hzs : z.cells.size = 1)
    (base : Nat) (v : Value) (n : Nat) (xs : List Value) (hs : a.eval s = v) (ho : w.ownsRow base e 1 v n xs) (hbase : base ≤ w.heap.size)
    (A : Option Addr) (m c : Nat) (news : List Value) (hx : a.eval x = .slice A m c) (hn : Lies w A m news) (hnil : A = none → c = 0) (h1 : ∀ u ∈ news, u.oneCell' = true) (hb : (n + m) * bytes ≤ 140737488355328) (h63 : n + m ≤ maxLen)
    (h : ∀ A' c' w', w'.ownsRow base e 1 (.slice A' (n + m) c') (n + m) (xs ++ news) → w.grownBy w' v.ownBlock → wpList P ops Q rest (a.put op.dst (.slice A' (n + m) c')) w') : wpList P ops Q (op :: rest) a w := by
  refine wpList_plain hgd fun K hK => ?_
  obtain ⟨A', c', w', hrun, h2, h3⟩ := run_append_src (P := P) (w := w) t op.type e i z bytes ht hi hz hsize hby hzs base v n xs ho hbase A m c news hn hnil h1 hb h63
  unfold Oper.wp
  simp [execOp, hop, resolve, invoke, builtin, hs, hx, hrun, Result.andThen]
  exact hK _ _ (h A' c' w' h2 h3)
end

theorem below_moved {B : Nat} {a w w' : World} {base : Nat} {e : TypeId} {v v' : Value} {n : Nat} {xs : List Value} (hb : Below B a w) (hB : B ≤ w.heap.size) (ho : w.ownsRow base e 1 v n xs) (hm : Moved w w' v v') (hbb : B ≤ base := by exact Nat.le_refl _) : Below B a w' := by
  rcases hm with ⟨_, hg⟩ | ⟨hg, _⟩
  · exact hb.grown hg hB (fun g hgg => Nat.le_trans hbb (own_lt ho hgg).1)
  · exact hb.grown hg hB (by simp)
/-- A slice of the call's own comes back, with these cells. -/
def Gives (w : World) (base : Nat) (e : TypeId) (n : Nat) (xs : List Value) (E : Ending) (w' : World) : Prop := ∃ A' c', E = .returned (.slice A' n c') ∧ w'.ownsRow base e 1 (.slice A' n c') n xs ∧ Below base w w'
/-- What is left of a number behind k bytes. -/
def rest4 (x : Int) (k : Nat) : Int := x / 256 ^ k
theorem rest4_succ (x : Int) (k : Nat) : rest4 x (k + 1) = rest4 x k / 256 := by
  unfold rest4
  rw [Int.pow_succ, Int.ediv_ediv_of_nonneg (Int.pow_nonneg (by decide))]
theorem rest4_bounds (x : Int) (h0 : 0 ≤ x) (h1 : x < 4294967296) (k : Nat) : 0 ≤ rest4 x k ∧ rest4 x k < 4294967296 := by
  unfold rest4
  have hp : (0 : Int) < 256 ^ k := Int.pow_pos (by decide)
  refine ⟨Int.ediv_nonneg h0 (Int.le_of_lt hp), ?_⟩
  exact Int.lt_of_le_of_lt (Int.ediv_le_self _ h0) h1
theorem four_at (x : Int) (k : Nat) (h : k < 4) : (four x).getD k 0 = rest4 x k % 256 := by
  match k, h with
  | 0, _ => simp [four, rest4]
  | 1, _ => simp [four, rest4]
  | 2, _ => simp [four, rest4]
  | 3, _ => simp [four, rest4]

set_option maxRecDepth 100000 in
set_option maxHeartbeats 1000000 in
theorem ref_put4 (A : Option Addr) (n c : Nat) (x : Int) (xs : List Value) (w : World) (h : Lies w A n xs) (hnil : A = none → c = 0) (h1 : ∀ u ∈ xs, u.oneCell' = true) (hn : n ≤ 1073741824) (hx : 0 ≤ x ∧ x < 4294967296) :
    Calls Tryz.prog 11 #[.slice A n c, .int .u32 x] w (Gives w w.heap.size 5 (n + 4) (xs ++ encV [x])) := by
  obtain ⟨i0, hi, hz0, hz1, hz2⟩ := info_parts Tryz.infoB
  have HI := hide hi
  have HZ0 := hide hz0
  have HZ1 := hide hz1
  have HZ2 := hide hz2
  have HL := hide h
  clear hi hz0 hz1 hz2 h
  go_enter Tryz.func11, Tryz.ntmps11
  go_wp2_with (at_builtin; refine wpList_append_src rfl _ (.tmp 7) 22 rfl 5 i0 (.int .u8 0) 1 Tryz.underlying22 HI.out HZ0.out HZ1.out HZ2.out rfl w.heap.size (.slice none 0 0) 0 [] rfl (World.ownsRow_nil _ _ _ _) (Nat.le_refl _) A n c xs rfl HL.out hnil h1 (by omega) (by unfold maxLen; omega) ?_)
  intro A1 c1 w1 ho1 hg1
  have HO1 : Hid (w1.ownsRow w.heap.size 5 1 (.slice A1 n c1) n xs) := hide (by simpa using ho1)
  have HB1 := hide ((Below.refl w.heap.size w).grown hg1 (Nat.le_refl _) (by simp [Value.ownBlock]))
  clear ho1 hg1 h1
  go_wp2
  go_loopw [1, 5, 6] (fun q v i wr => ∃ (k : Nat) (A2 : Option Addr) (c2 : Nat), k ≤ 4 ∧ i = .int .i64 k ∧ q = .int .u32 (rest4 x k) ∧ v = .slice A2 (n + k) c2 ∧ Hid (wr.ownsRow w.heap.size 5 1 (.slice A2 (n + k) c2) (n + k) (xs ++ preV .u8 (four x) k)) ∧ Hid (Below w.heap.size w wr))
    (fun _ _ i _ => 4 - (intOf i).toNat)
  case atStart => exact ⟨0, A1, c1, by omega, rfl, by simp [rest4], rfl, hide (by simpa [preV] using HO1.out), HB1⟩
  case round =>
    obtain ⟨k, A2, c2, hk, rfl, rfl, rfl, HR, HB⟩ := hrel
    have hsr := HB.out.size
    by_cases hlt : k < 4
    · have hq := rest4_bounds x hx.1 hx.2 k
      have HSQ := hide (rest4_succ x k)
      have HFA := hide (four_at x k hlt)
      obtain ⟨q, hq'⟩ : ∃ q, q = rest4 x k := ⟨_, rfl⟩
      rw [← hq'] at hq ⊢
      have HQ := hide hq'
      have q0 := hq.1
      have q1 := hq.2
      clear hq hq'
      have HX : Hid ((wr.alloc (.cells #[.int .u8 (q % 256)] 5)).cell? ⟨wr.heap.size, 0, none⟩ = some (.int .u8 (q % 256))) := hide (by have h := cells_new wr [.int .u8 (q % 256)] 5 0 _ rfl; rwa [Addr.add_lit] at h)
      go_wp2_with (at_builtin; with_reducible refine wpList_append_one rfl (.tmp 13) (.tmp 17) 22 rfl 5 i0 (.int .u8 0) 1 Tryz.underlying22 HI.out HZ0.out HZ1.out HZ2.out rfl w.heap.size A2 (n + k) c2 (xs ++ preV .u8 (four x) k) rfl (HR.out.alloc _) (Nat.le_trans hsr (by simp)) ⟨wr.heap.size, 0, none⟩ (.int .u8 (q % 256)) rfl HX.out rfl (by omega) (by unfold maxLen; omega) ?_)
      intro A3 c3 w3 ho3 hm3
      have HR3 : Hid (w3.ownsRow w.heap.size 5 1 (.slice A3 (n + (k + 1)) c3) (n + (k + 1)) (xs ++ preV .u8 (four x) (k + 1))) := hide (by
        rw [preV_snoc _ _ _ (by rw [four_len]; exact hlt), HFA.out, ← HQ.out, ← List.append_assoc]
        simpa [Nat.add_assoc] using ho3)
      have HB3 := hide (below_moved (HB.out.alloc (by omega) (.cells #[.int .u8 (q % 256)] 5)) (by simp; omega) (HR.out.alloc _) hm3)
      clear ho3 hm3 HR HB HX
      go_wp2
      go_roundw
      case rel => exact ⟨k + 1, A3, c3, by omega, by go_num, by rw [HSQ.out, HQ.out], by rw [Nat.add_assoc], HR3, HB3⟩
      case measure => simp [intOf]; omega
    · obtain rfl : k = 4 := by omega
      go_wp2
      go_ret
      refine ⟨A2, c2, rfl, ?_, HB.out⟩
      have h := HR.out
      rw [preV_all _ _ (four_len x)] at h
      simpa [encV, enc] using h

theorem four_mod (z : Int) : four (z % 4294967296) = four z := by
  simp only [four, List.cons.injEq, and_true]
  omega
theorem encV_mod (z : Int) : encV [z % 4294967296] = encV [z] := by simp [encV, enc, four_mod]
theorem own_nil {w : World} {base : Nat} {e : TypeId} {A : Option Addr} {n c : Nat} {xs : List Value} (h : w.ownsRow base e 1 (.slice A n c) n xs) : A = none → c = 0 := by
  intro hA
  subst hA
  rcases h.2 with ⟨e0, _⟩ | ⟨g, cap, cur, e0, _⟩
  · injection e0
  · injection e0 with e0
    cases e0
/-- The bytes of the first k words behind a count. -/
def encTo (x : Int) (zs : List Int) (k : Nat) : List Value := encV (x :: zs.take k)
theorem encTo_none (x : Int) (zs : List Int) : encTo x zs 0 = encV [x] := by simp [encTo]
theorem encTo_snoc (x : Int) (zs : List Int) (k : Nat) (h : k < zs.length) : encTo x zs (k + 1) = encTo x zs k ++ encV [zs.getD k 0] := by
  rw [encTo, encTo, encV_cons, encV_cons x (zs.take k), encV_snoc zs k h, List.append_assoc]
  simp [encV, enc]
theorem encTo_all (x : Int) (zs : List Int) {k : Nat} (h : zs.length = k) : encTo x zs k = encV (x :: zs) := by rw [encTo, List.take_of_length_le (by omega)]
theorem encTo_one (x : Int) (zs : List Int) (k : Nat) : ∀ u ∈ encTo x zs k, u.oneCell' = true := ints_oneCell _ _

set_option maxRecDepth 100000 in
set_option maxHeartbeats 1000000 in
theorem ref_putList (A L : Option Addr) (n c m d : Nat) (xs : List Value) (zs : List Int) (w : World) (h : Lies w A n xs) (hnil : A = none → c = 0) (h1 : ∀ u ∈ xs, u.oneCell' = true) (hl : Lies w L m (zs.map (Value.int .i32))) (hn : n ≤ 2097152) (hm : m ≤ 2097152) :
    Calls Tryz.prog 12 #[.slice A n c, .slice L m d] w (Gives w w.heap.size 5 (n + 4 * (1 + m)) (xs ++ encV ((m : Int) :: zs))) := by
  have HC := hide (ref_put4 A n c (m : Int) xs w h hnil h1 (by omega) ⟨by omega, by omega⟩)
  have HL := hide hl
  have HLEN : Hid (zs.length = m) := hide (by have := hl.len; simpa using this)
  have H1 := hide h1
  clear h hl h1 hnil
  go_enter Tryz.func12, Tryz.ntmps12
  go_wp2_with fail
  refine Calls.mono HC.out ?_
  rintro e w1 ⟨A1, c1, rfl, ho1, hb1⟩
  have HO1 : Hid (w1.ownsRow w.heap.size 5 1 (.slice A1 (n + 4) c1) (n + 4) (xs ++ encTo (m : Int) zs 0)) := hide (by rw [encTo_none]; exact ho1)
  have HB1 := hide hb1
  clear ho1 hb1 HC
  go_wp2
  go_loopw [5, 6] (fun v i wr => ∃ (k : Nat) (A2 : Option Addr) (c2 : Nat), k ≤ m ∧ i = .int .i64 k ∧ v = .slice A2 (n + 4 + 4 * k) c2 ∧ Hid (wr.ownsRow w.heap.size 5 1 (.slice A2 (n + 4 + 4 * k) c2) (n + 4 + 4 * k) (xs ++ encTo (m : Int) zs k)) ∧ Hid (Below w.heap.size w wr))
    (fun _ i _ => m - (intOf i).toNat)
  case atStart => exact ⟨0, A1, c1, by omega, rfl, rfl, HO1, HB1⟩
  case round =>
    obtain ⟨k, A2, c2, hk, rfl, rfl, HR, HB⟩ := hrel
    have hsr := HB.out.size
    by_cases hlt : k < m
    · obtain ⟨b, o, rfl, hbl, hx⟩ := byte_at (HL.out.below HB.out) (by omega)
      obtain ⟨z, hz⟩ : ∃ z, z = zs.getD k 0 := ⟨_, rfl⟩
      have hc : wr.cell? ⟨b, o + k, none⟩ = some (.int .i32 z) := by rw [hz]; exact hx k hlt
      have HZ := hide hz
      clear hx hz
      have HCk := hide (ref_put4 A2 (n + 4 + 4 * k) c2 (z % 4294967296) _ wr (lies_of_own HR.out) (own_nil HR.out) (by intro u hu; rcases List.mem_append.1 hu with h | h; exact H1.out u h; exact encTo_one _ _ _ u h) (by omega) ⟨by omega, by omega⟩)
      go_wp2_with fail
      refine Calls.mono HCk.out ?_
      rintro e w3 ⟨A3, c3, rfl, ho3, hb3⟩
      have HR3 : Hid (w3.ownsRow w.heap.size 5 1 (.slice A3 (n + 4 + 4 * (k + 1)) c3) (n + 4 + 4 * (k + 1)) (xs ++ encTo (m : Int) zs (k + 1))) := hide (by
        rw [encTo_snoc _ _ _ (by rw [HLEN.out]; exact hlt), ← HZ.out, ← List.append_assoc, ← encV_mod]
        exact own_base ho3 hsr)
      have HB3 := hide (HB.out.trans (hb3.mono hsr))
      clear ho3 hb3 HR HB HCk hc
      go_wp2
      go_roundw
      case rel => exact ⟨k + 1, A3, c3, by omega, by go_num, rfl, HR3, HB3⟩
      case measure => simp [intOf]; omega
    · obtain rfl : k = m := by omega
      go_wp2
      go_ret
      have e : n + 4 + 4 * k = n + 4 * (1 + k) := by omega
      have h := HR.out
      rw [encTo_all _ _ HLEN.out, e] at h
      exact ⟨A2, c2, congrArg (fun q => Ending.returned (.slice A2 q c2)) e, h, HB.out⟩

theorem ref_get4_short (A : Option Addr) (n c : Nat) (w : World) (hn : n < 4) :
    Calls Tryz.prog 19 #[.slice A n c] w fun e w' => e = .returned (.tuple #[.int .u32 0, .int .i64 5]) ∧ w = w' := by
  go_enter Tryz.func19, Tryz.ntmps19
  go_wp2
  go_ret2
  exact ⟨rfl, rfl⟩

/-- What has been read of four bytes, the last first, when the first k are still to come. -/
def backTo (bs : List Int) : Nat → Int
  | 4 => 0
  | 3 => bs.getD 3 0
  | 2 => bs.getD 3 0 * 256 + bs.getD 2 0
  | 1 => (bs.getD 3 0 * 256 + bs.getD 2 0) * 256 + bs.getD 1 0
  | _ => ((bs.getD 3 0 * 256 + bs.getD 2 0) * 256 + bs.getD 1 0) * 256 + bs.getD 0 0
theorem backTo_zero (bs : List Int) : backTo bs 0 = head4 bs := by unfold head4 word; simp only [backTo]; omega
theorem backTo_step (bs : List Int) (hb : Bytes bs) (k : Nat) (h : k < 4) : backTo bs k = backTo bs (k + 1) * 256 + bs.getD k 0 ∧ 0 ≤ backTo bs (k + 1) ∧ backTo bs (k + 1) < 16777216 ∧ 0 ≤ bs.getD k 0 ∧ bs.getD k 0 < 256 := by
  have b0 := bytes_getD hb 0
  have b1 := bytes_getD hb 1
  have b2 := bytes_getD hb 2
  have b3 := bytes_getD hb 3
  have e4 : backTo bs 4 = 0 := rfl
  have e3 : backTo bs 3 = bs.getD 3 0 := rfl
  have e2 : backTo bs 2 = bs.getD 3 0 * 256 + bs.getD 2 0 := rfl
  have e1 : backTo bs 1 = (bs.getD 3 0 * 256 + bs.getD 2 0) * 256 + bs.getD 1 0 := rfl
  have e0 : backTo bs 0 = ((bs.getD 3 0 * 256 + bs.getD 2 0) * 256 + bs.getD 1 0) * 256 + bs.getD 0 0 := rfl
  match k, h with
  | 0, _ => rw [Nat.zero_add, e0, e1]; omega
  | 1, _ => rw [show 1 + 1 = 2 from rfl, e1, e2]; omega
  | 2, _ => rw [show 2 + 1 = 3 from rfl, e2, e3]; omega
  | 3, _ => rw [show 3 + 1 = 4 from rfl, e3, e4]; omega

set_option maxHeartbeats 1000000 in
theorem ref_get4_long (A : Option Addr) (n c : Nat) (bs : List Int) (w : World) (hn : 4 ≤ n) (h : Lies w A n (bs.map (Value.int .u8))) (hb : Bytes bs) :
    Calls Tryz.prog 19 #[.slice A n c] w fun e w' => e = .returned (.tuple #[.int .u32 (head4 bs), .int .i64 0]) ∧ w = w' := by
  obtain ⟨b, o, rfl, _, hx⟩ := byte_at h (by omega)
  have HX := hide hx
  have HBy := hide hb
  clear hx h hb
  go_enter Tryz.func19, Tryz.ntmps19
  go_wp2
  go_loop [4, 5] (fun v i => ∃ k : Nat, k ≤ 4 ∧ i = .int .i64 ((k : Int) - 1) ∧ v = .int .u32 (backTo bs k)) (fun _ i => (intOf i + 1).toNat)
  case atStart => exact ⟨4, by omega, by go_num, rfl⟩
  case round =>
    obtain ⟨k, hk, rfl, rfl⟩ := hrel
    rcases k with _ | j
    · go_wp2
      go_ret2
      exact ⟨by rw [← backTo_zero]; rfl, rfl⟩
    · have e : ((j + 1 : Nat) : Int) - 1 = (j : Int) := by omega
      rw [e]
      clear e
      have hc := HX.out j (by omega)
      obtain ⟨hs, b1, b2, b3, b4⟩ := backTo_step bs HBy.out j (by omega)
      obtain ⟨q, hq⟩ : ∃ q, q = backTo bs (j + 1) := ⟨_, rfl⟩
      obtain ⟨z, hz⟩ : ∃ z, z = bs.getD j 0 := ⟨_, rfl⟩
      rw [← hq] at hs b1 b2 ⊢
      rw [← hz] at hs b3 b4 hc
      have HS := hide hs
      have i1 : (j : Int) < (n : Int) := by omega
      have i2 : (0 : Int) ≤ (j : Int) := by omega
      clear hs hq hz
      go_wp2
      go_round
      case rel => exact ⟨j, by omega, by go_num, by rw [HS.out]⟩
      case measure => simp [intOf]
end Go.Proofs.YtkmkhjhdgickfaaGreatDoor
