/- Merged: Copy, Add, Put, List, Own, AppNil, Ten1. -/
import Derived.Test.YtohndckbhjakfaaGreatDoorWZ00
import Derived.Laws.CopyOwn
import Derived.ArgAppend
import Derived.OwnWalk
import Derived.Lib.SliceRun
import Derived.Laws.MakeOwn
import Derived.Laws.ResultCell
import Derived.Deep.RegionHeld3
namespace Go.Proofs.YtohndckbhjakfaaGreatDoor

section
open Go.RowKit

theorem get4_short (A : Option Addr) (n c : Nat) (w : World) (hn : n < 4) :
    Calls Tryz.prog 33 #[.slice A n c] w fun e w' => e = .returned (.tuple #[.int .u32 0, .int .i64 5]) ∧ w = w' := by
  go_enter Tryz.func33, Tryz.ntmps33
  go_wp2
  go_ret2
  exact ⟨rfl, rfl⟩

/-- The number that the first four bytes are. -/
def head4 (bs : List Int) : Int := word (bs.getD 0 0) (bs.getD 1 0) (bs.getD 2 0) (bs.getD 3 0)

theorem get4_long (A : Option Addr) (n c : Nat) (bs : List Int) (w : World) (hn : 4 ≤ n) (h : Lies w A n (bs.map (Value.int .u8))) (hb : Bytes bs) :
    Calls Tryz.prog 33 #[.slice A n c] w fun e w' => e = .returned (.tuple #[.int .u32 (head4 bs), .int .i64 0]) ∧ ∃ k, w' = w.drewN k := by
  obtain ⟨b, o, rfl, _, hx⟩ := byte_at h (by omega)
  have HC : Hid _ := read_u32 b o n c (bs.getD 0 0) (bs.getD 1 0) (bs.getD 2 0) (bs.getD 3 0) w hn (hx 0 (by omega)) (hx 1 (by omega)) (hx 2 (by omega)) (hx 3 (by omega)) (bytes_getD hb 0) (bytes_getD hb 1) (bytes_getD hb 2) (bytes_getD hb 3)
  clear hx h
  go_enter Tryz.func33, Tryz.ntmps33
  go_wp2_with fail
  refine Calls.mono HC.out ?_
  rintro e w' ⟨rfl, k, rfl⟩
  go_wp2
  go_ret2
  exact ⟨rfl, _, rfl⟩

/-- A row of zero bytes. -/
def zeroRow (m : Nat) : List Value := List.replicate m (.int .u8 0)

theorem zeroRow_len (m : Nat) : (zeroRow m).length = m := by simp [zeroRow]

theorem make_bytes (n k : Nat) (h : n + 4 * k ≤ 281474976710656) (w : World) :
    (Instr.makeSlice 30 (.int .i64 (n : Int)) (.int .i64 ((n : Int) + 4 * (k : Int)))).run Tryz.prog w = .ok (.slice (some ⟨w.heap.size, 0, none⟩) n (n + 4 * k)) (w.alloc (.cells (zeroRow (n + 4 * k)).toArray 5)) := by
  obtain ⟨i0, hi, hz0, hz1, hz2⟩ := info_parts Tryz.infoB
  have hr := run_make (P := Tryz.prog) w 30 5 i0 (.int .u8 0) Tryz.underlying30 hi hz0 .i64 .i64 (n : Int) ((n : Int) + 4 * (k : Int)) (by omega) (by omega) (by rw [hz2]; omega) (by omega)
  have e1 : ((n : Int) + 4 * (k : Int)).toNat = n + 4 * k := by omega
  rw [hr, e1, hz1]
  have e2 : (madeCells (Value.int .u8 0).cells ((n + 4 * k) * 1)) = (zeroRow (n + 4 * k)).toArray := by
    apply Array.toList_inj.1
    show (madeCells #[Value.int .u8 0] _).toList = _
    rw [toList_madeCells_one, Nat.mul_one]; rfl
  rw [e2]
  rfl

theorem splice_zero (Z xs : List Value) (h : xs.length ≤ Z.length) : (splice Z 0 xs).length = Z.length ∧ (splice Z 0 xs).take xs.length = xs :=
  ⟨length_splice Z 0 xs (by omega), by simp [splice]⟩

set_option maxHeartbeats 400000 in
theorem copy_room (A : Option Addr) (n c k : Nat) (xs : List Value) (w : World) (h : Lies w A n xs) (h1 : ∀ u ∈ xs, u.oneCell' = true) (hn : n + 4 * k ≤ 281474976710656) :
    Calls Tryz.prog 54 #[.slice A n c, .int .i64 (k : Int)] w fun e w' =>
      e = .returned (.slice (some ⟨w.heap.size, 0, none⟩) n (n + 4 * k)) ∧ w'.ownsRow w.heap.size 5 1 (.slice (some ⟨w.heap.size, 0, none⟩) n (n + 4 * k)) n xs ∧ Below w.heap.size w w' ∧ w.heap.size < w'.heap.size := by
  have hl := h.len
  have hmk := make_bytes n k hn
  have H1 := hide (heap_alloc_new w (.cells (zeroRow (n + 4 * k)).toArray 5))
  have H2 : Hid (xs.length = Nat.min n n) := show _ = _ by rw [hl]; exact (Nat.min_self n).symm
  have H3 : Hid (0 < xs.length → some (⟨w.heap.size, 0, none⟩ : Addr) = some ⟨w.heap.size, 0, none⟩ ∧ ∃ ad, A = some ad ∧ ∀ j v, xs[j]? = some v → (w.alloc (.cells (zeroRow (n + 4 * k)).toArray 5)).cell? (ad.add j) = some v) := fun hp => by
    obtain ⟨b, o, e, hb, hx⟩ := (h.alloc (.cells (zeroRow (n + 4 * k)).toArray 5)).cells (by omega)
    refine ⟨rfl, ⟨b, o, none⟩, e, fun j v hj => ?_⟩
    have hjn : j < n := by have := (List.getElem?_eq_some_iff.1 hj).1; omega
    rw [Addr.add_lit, hx j hjn, hj]
  have H4 : Hid (0 + xs.length ≤ (zeroRow (n + 4 * k)).length) := show _ ≤ _ by rw [zeroRow_len]; omega
  have H5 := hide ((Below.refl w.heap.size w).alloc (Nat.le_refl _) (.cells (zeroRow (n + 4 * k)).toArray 5))
  have HL := hide hl
  clear hl h
  go_enter Tryz.func54, Tryz.ntmps54
  go_wp2_with (with_reducible refine wpList_copy_splice rfl (.tmp 14) (.tmp 15) 30 30 rfl 5 Tryz.underlying30 Tryz.sizeB _ _ _ _ _ _ rfl rfl w.heap.size 0 (zeroRow (n + 4 * k)) 5 H1.out xs H2.out H3.out H4.out h1 w.heap.size w H5.out (Nat.le_refl _) ?_)
  intro w2 HG2 hB2
  go_wp2
  go_ret
  have hs := splice_zero (zeroRow (n + 4 * k)) xs (by have := H4.out; omega)
  refine ⟨rfl, own_of_block (Nat.le_refl _) HG2.out (by rw [hs.1, zeroRow_len]) (by omega) (by unfold maxLen; omega) (by have ht := hs.2; rw [HL.out] at ht; exact ht), hB2, lt_of_heap HG2.out⟩

end

section
open Go.RowKit

/-- The bytes of a list of words. -/
def enc (zs : List Int) : List Int := zs.flatMap four

def encV (zs : List Int) : List Value := (enc zs).map (Value.int .u8)

theorem enc_len (zs : List Int) : (enc zs).length = 4 * zs.length := by
  induction zs with
  | nil => rfl
  | cons z r ih => simp only [enc, List.flatMap_cons, List.length_append, four_len, List.length_cons] at ih ⊢; omega

theorem encV_snoc (zs : List Int) (k : Nat) (h : k < zs.length) : encV (zs.take (k + 1)) = encV (zs.take k) ++ (four (zs.getD k 0)).map (Value.int .u8) := by
  have e : zs.getD k 0 = zs[k] := by simp [List.getD, h]
  rw [e, List.take_succ_eq_append_getElem h, encV, enc, List.flatMap_append, List.map_append]
  simp [encV, enc]

set_option maxHeartbeats 1000000 in
theorem add_u32 (g n cap m c base : Nat) (A : Option Addr) (xs : List Value) (zs : List Int) (w : World)
    (hown : w.ownsRow base 5 1 (.slice (some ⟨g, 0, none⟩) n cap) n xs) (hl : Lies w A m (zs.map (Value.int .u32))) (hne : 0 < m → ∀ b o, A = some ⟨b, o, none⟩ → b ≠ g)
    (hfit : n + 4 * m ≤ cap) (hcap : cap ≤ 281474976710656) :
    Calls Tryz.prog 53 #[.slice (some ⟨g, 0, none⟩) n cap, .slice A m c] w fun e w' =>
      e = .returned (.slice (some ⟨g, 0, none⟩) (n + 4 * m) cap) ∧ w'.ownsRow base 5 1 (.slice (some ⟨g, 0, none⟩) (n + 4 * m) cap) (n + 4 * m) (xs ++ encV zs) ∧ w.grownBy w' (some g) := by
  obtain ⟨i0, hi, hz0, hz1, hz2⟩ := info_parts Tryz.infoB
  have HZ1 := hide hz1
  have HI := hide hi
  clear hz0 hz1 hz2 hi
  have HO := hide hown
  have HN := hide hne
  have hzl : zs.length = m := by have := hl.len; simpa using this
  have HZL := hide hzl
  clear hown hne hzl
  go_enter Tryz.func53, Tryz.ntmps53
  go_wp2
  go_loopw [0, 9] (fun v i wr => ∃ k : Nat, k ≤ m ∧ i = .int .i64 k ∧ v = .slice (some ⟨g, 0, none⟩) (n + 4 * k) cap ∧ Hid (wr.ownsRow base 5 1 (.slice (some ⟨g, 0, none⟩) (n + 4 * k) cap) (n + 4 * k) (xs ++ encV (zs.take k))) ∧ Hid (w.grownBy wr (some g)))
    (fun _ i _ => m - (intOf i).toNat)
  case atStart => exact ⟨0, Nat.zero_le _, rfl, rfl, hide (by simpa [encV, enc] using HO.out), hide (World.grownBy.refl _ _)⟩
  case round =>
    obtain ⟨k, hk, rfl, rfl, HR, HG⟩ := hrel
    by_cases hlt : k < m
    · obtain ⟨b, o, rfl, hbl, hx⟩ := byte_at (hl.grown HG.out (by intro b o e h; exact HN.out (by omega) b o e (by injection h))) (by omega)
      obtain ⟨z, hz⟩ : ∃ z, z = zs.getD k 0 := ⟨_, rfl⟩
      have hc : wr.cell? ⟨b, o + k, none⟩ = some (.int .u32 z) := by rw [hz]; exact hx k hlt
      have HZ := hide hz
      clear hx hl hz
      have HNEW := hide (cells_new wr [.int .u8 (z % 256), .int .u8 (z / 256 % 256), .int .u8 (z / 65536 % 256), .int .u8 (z / 16777216 % 256)] 5)
      go_wp2_with (at_builtin; refine wpList_append_fits _ rfl (.tmp 13) (.tmp 25) 30 rfl base 5 i0 1 Tryz.underlying30 HI.out HZ1.out g (n + 4 * k) cap (xs ++ encV (zs.take k)) rfl (HR.out.alloc _) ⟨wr.heap.size, 0, none⟩ 4 4 [.int .u8 (z % 256), .int .u8 (z / 256 % 256), .int .u8 (z / 65536 % 256), .int .u8 (z / 16777216 % 256)] rfl rfl HNEW.out (by simp [Value.oneCell']) (by omega) ?_)
      intro w1 hown1 hg1
      have HR1 : Hid (w1.ownsRow base 5 1 (.slice (some ⟨g, 0, none⟩) (n + 4 * (k + 1)) cap) (n + 4 * (k + 1)) (xs ++ encV (zs.take (k + 1)))) := by
        rw [encV_snoc zs k (by rw [HZL.out]; exact hlt), ← HZ.out]
        exact hown1
      have HG1 := hide (grown_trans (grown_trans HG.out (World.grownBy_alloc wr _ _)) hg1)
      clear hown1 hg1
      go_wp2
      go_roundw
      case rel => exact ⟨k + 1, by omega, by go_num, rfl, HR1, HG1⟩
      case measure => simp [intOf]; omega
    · obtain rfl : k = m := by omega
      go_wp2
      go_ret
      have hr := HR.out
      rw [List.take_of_length_le (by rw [HZL.out]; exact Nat.le_refl _)] at hr
      exact ⟨rfl, hr, HG.out⟩

end

section
open Go.RowKit

theorem lies_new (w : World) (cs : List Value) (t : TypeId) : Lies (w.alloc (.cells cs.toArray t)) (some ⟨w.heap.size, 0, none⟩) cs.length cs :=
  ⟨rfl, fun _ => ⟨w.heap.size, 0, rfl, by simp, fun j hj => by
    have h := cells_new w cs t j cs[j] (List.getElem?_eq_getElem hj)
    rw [Addr.add_lit] at h
    rw [h, List.getElem?_eq_getElem hj]⟩⟩

set_option maxHeartbeats 400000 in
theorem put4 (A : Option Addr) (n c : Nat) (x : Int) (xs : List Value) (w : World) (h : Lies w A n xs) (h1 : ∀ u ∈ xs, u.oneCell' = true) (hn : n + 4 ≤ 281474976710656) :
    Calls Tryz.prog 29 #[.slice A n c, .int .u32 x] w fun e w' =>
      e = .returned (.slice (some ⟨w.heap.size, 0, none⟩) (n + 4) (n + 4)) ∧ w'.ownsRow w.heap.size 5 1 (.slice (some ⟨w.heap.size, 0, none⟩) (n + 4) (n + 4)) (n + 4) (xs ++ encV [x]) ∧ Below w.heap.size w w' := by
  have HC : Hid (Calls Tryz.prog 54 #[.slice A n c, .int .i64 1] w _) := copy_room A n c 1 xs w h h1 (by omega)
  clear h
  go_enter Tryz.func29, Tryz.ntmps29
  go_wp2_with fail
  refine Calls.mono HC.out ?_
  rintro e w1 ⟨rfl, ho, hb, hs⟩
  have HO := hide ho
  have HB := hide hb
  clear ho hb HC
  go_wp2_with fail
  have hcall := add_u32 w.heap.size n (n + 4 * 1) 1 1 w.heap.size (some ⟨w1.heap.size, 0, none⟩) xs [x] (w1.alloc (.cells #[.int .u32 x] 52)) (HO.out.alloc _) (lies_new w1 [.int .u32 x] 52)
    (by intro _ b o e; injection e with e; injection e with e; omega) (by omega) (by omega)
  refine Calls.mono hcall ?_
  rintro e w2 ⟨rfl, ho2, hg2⟩
  have HO2 := hide ho2
  have HB2 := hide ((HB.out.alloc (by omega) (.cells #[.int .u32 x] 52)).trans (below_grown hg2 (by simp; omega) (Nat.le_refl _)))
  clear ho2 hg2 hcall
  go_wp2
  go_ret
  exact ⟨rfl, HO2.out, HB2.out⟩

theorem encV_cons (x : Int) (zs : List Int) : encV (x :: zs) = encV [x] ++ encV zs := by simp [encV, enc]

end

section
open Go.RowKit

/-- The j-th number, with its sign. -/
def wd (bs : List Int) (j : Nat) : Int := signed (word (bs.getD (4 * j) 0) (bs.getD (4 * j + 1) 0) (bs.getD (4 * j + 2) 0) (bs.getD (4 * j + 3) 0))

def dec (bs : List Int) (q : Nat) : List Int := (List.range q).map (wd bs)

/-- A row of q numbers of which the first k are read. -/
def part (bs : List Int) (q k : Nat) : List Value := (List.range q).map fun j => .int .i32 (if j < k then wd bs j else 0)

theorem part_none (bs : List Int) (q : Nat) : part bs q 0 = List.replicate q (.int .i32 0) := by
  apply List.ext_getElem <;> simp [part]

theorem part_all (bs : List Int) (q : Nat) : part bs q q = (dec bs q).map (Value.int .i32) := by
  apply List.ext_getElem
  · simp [part, dec]
  · intro j h1 h2
    have : j < q := by simpa [part] using h1
    simp [part, dec, this]

theorem part_set (bs : List Int) (q k : Nat) : (part bs q k).set k (.int .i32 (wd bs k)) = part bs q (k + 1) := by
  apply List.ext_getElem
  · simp [part]
  · intro j h1 h2
    simp only [part, List.getElem_set, List.getElem_map, List.getElem_range]
    by_cases e : k = j
    · subst e; simp
    · rw [if_neg e]
      by_cases h : j < k
      · rw [if_pos h, if_pos (by omega)]
      · rw [if_neg h, if_neg (by omega)]

theorem part_at (bs : List Int) (q k j : Nat) (h : j < q) : (part bs q k)[j]? = some (.int .i32 (if j < k then wd bs j else 0)) := by
  simp [part, h]

theorem Tryz.infoI32 : (Tryz.prog.info? 21).map (fun i => (i.zero, i.size, i.bytes)) = some (some (.int .i32 0), 1, 4) := by kernel_rfl

theorem make_nums (bs : List Int) (L : Int) (q : Nat) (hL : L = (q : Int)) (h : 4 * q ≤ 281474976710656) (w : World) :
    (Instr.makeSlice 38 (.int .i64 L) (.int .i64 L)).run Tryz.prog w = .ok (.slice (some ⟨w.heap.size, 0, none⟩) q q) (w.alloc (.cells (part bs q 0).toArray 21)) := by
  subst hL
  obtain ⟨i0, hi, hz0, hz1, hz2⟩ := info_parts Tryz.infoI32
  have hr := run_make (P := Tryz.prog) w 38 21 i0 (.int .i32 0) Tryz.underlying38 hi hz0 .i64 .i64 (q : Int) (q : Int) (by omega) (by omega) (by rw [hz2]; omega) (by omega)
  rw [hr, hz1]
  have e2 : (madeCells (Value.int .i32 0).cells ((q : Int).toNat * 1)) = (part bs q 0).toArray := by
    apply Array.toList_inj.1
    show (madeCells #[Value.int .i32 0] _).toList = _
    rw [toList_madeCells_one, Nat.mul_one, Int.toNat_natCast, part_none]
  rw [e2]
  rfl

end

section
open Go.RowKit

section
variable {P : Program} {w : World}

/-- Where the longer list lies: where it was, that row turning alone; or in a new row, nothing turning. -/
def Moved (w w' : World) (v v' : Value) : Prop := (v'.ownBlock = v.ownBlock ∧ w.grownBy w' v.ownBlock) ∨ (w.grownBy w' none ∧ ∀ g, v'.ownBlock = some g → w.heap.size ≤ g)

theorem run_append_one (t ty e : TypeId) (i : TypeInfo) (z : Value) (bytes : Nat) (ht : P.underlying t = some (.slice e)) (hi : P.info? e = some i) (hz : i.zero = some z) (hsize : i.size = 1) (hby : i.bytes = bytes) (hzs : z.cells.size = 1)
    (base : Nat) (A : Option Addr) (n c : Nat) (xs : List Value) (ho : w.ownsRow base e 1 (.slice A n c) n xs) (hbase : base ≤ w.heap.size)
    (ad : Addr) (x : Value) (hx : w.cell? ad = some x) (h1 : x.oneCell' = true) (hb : (n + 1) * bytes ≤ 140737488355328) (h63 : n + 1 ≤ maxLen) :
    ∃ A' c' w', (Builtin.append_ #[t, t] ty #[.slice A n c, .slice (some ad) 1 1]).run P w = .ok (.slice A' (n + 1) c') w' ∧ w'.ownsRow base e 1 (.slice A' (n + 1) c') (n + 1) (xs ++ [x]) ∧ Moved w w' (.slice A n c) (.slice A' (n + 1) c') := by
  have hnews : ∀ j u, [x][j]? = some u → w.cell? (ad.add j) = some u := by
    intro j u hj
    match j, hj with
    | 0, hj => simp at hj; subst hj; simpa [Addr.add] using hx
  have h1' : ∀ u ∈ [x], u.oneCell' = true := by intro u hu; simp at hu; subst hu; exact h1
  rcases ho.2 with ⟨e0, h0⟩ | ⟨g, cap, cur, e0, hg, hh, hnc, hcm, hcs, hta⟩
  · injection e0 with eA en ec
    subst eA
    subst en
    subst ec
    have hnil : xs = [] := List.eq_nil_of_length_eq_zero (by simpa using ho.1)
    subst hnil
    obtain ⟨v', w', hrun, hown, hgr, _⟩ := run_append_own (P := P) w w.heap.size t ty e i z 1 bytes ht hi hz hsize hby hzs (by omega) (.slice none 0 0) 0 [] (World.ownsRow_nil _ _ _ _) ad 1 1 [x] rfl hnews h1' h63 hb (Nat.le_refl _)
    rcases hown.2 with ⟨_, h0⟩ | ⟨g, cap, cur, rfl, hgb, r⟩
    · omega
    · exact ⟨some ⟨g, 0, none⟩, cap, w', hrun, own_base hown hbase, .inr ⟨hgr, fun b hb' => by simp [Value.ownBlock] at hb'; omega⟩⟩
  · injection e0 with eA en ec
    subst eA
    subst ec
    by_cases hfit : n + 1 ≤ c
    · obtain ⟨w', hrun, h2, h3⟩ := run_append_fits (P := P) w base t ty e i 1 ht hi hsize g n c xs ho ad 1 1 [x] rfl hnews h1' hfit
      exact ⟨some ⟨g, 0, none⟩, c, w', hrun, h2, .inl ⟨rfl, h3⟩⟩
    · have holds : ∀ j u, xs[j]? = some u → w.cell? ((⟨g, 0, none⟩ : Addr).add j) = some u := ho.cells (g := g) rfl
      obtain ⟨v', w', hrun, hown, hgr⟩ := run_append_arg_grows (P := P) w t ty e i z 1 bytes ht hi hz hsize hby hzs (by omega) ⟨g, 0, none⟩ n c xs ho.1 holds ad 1 1 [x] rfl hnews (by omega) h63 hb
      rcases hown.2 with ⟨_, h0⟩ | ⟨g', cap', cur', rfl, hgb, r⟩
      · omega
      · exact ⟨some ⟨g', 0, none⟩, cap', w', hrun, own_base hown hbase, .inr ⟨hgr, fun b hb' => by simp [Value.ownBlock] at hb'; omega⟩⟩

theorem wpList_append_one {ops : Array Oper} {rest : List Oper} {op : Oper} {a : Act} {Q : Exit → Act → World → Prop} (hgd : op.guard = none) (s x : Operand) (t : TypeId)
    (hop : op.op = .call { callee := .builtin .append, args := #[s, x], argTypes := #[t, t] })
    (e : TypeId) (i : TypeInfo) (z : Value) (bytes : Nat) (ht : P.underlying t = some (.slice e)) (hi : P.info? e = some i) (hz : i.zero = some z) (hsize : i.size = 1) (hby : i.bytes = bytes) (hzs : z.cells.size = 1)
    (base : Nat) (A : Option Addr) (n c : Nat) (xs : List Value) (hs : a.eval s = .slice A n c) (ho : w.ownsRow base e 1 (.slice A n c) n xs) (hbase : base ≤ w.heap.size)
    (ad : Addr) (u : Value) (hxe : a.eval x = .slice (some ad) 1 1) (hx : w.cell? ad = some u) (h1 : u.oneCell' = true) (hb : (n + 1) * bytes ≤ 140737488355328) (h63 : n + 1 ≤ maxLen)
    (h : ∀ A' c' w', w'.ownsRow base e 1 (.slice A' (n + 1) c') (n + 1) (xs ++ [u]) → Moved w w' (.slice A n c) (.slice A' (n + 1) c') → wpList P ops Q rest (a.put op.dst (.slice A' (n + 1) c')) w') : wpList P ops Q (op :: rest) a w := by
  refine wpList_plain hgd fun K hK => ?_
  obtain ⟨A', c', w', hrun, h2, h3⟩ := run_append_one (P := P) (w := w) t op.type e i z bytes ht hi hz hsize hby hzs base A n c xs ho hbase ad u hx h1 hb h63
  unfold Oper.wp
  simp [execOp, hop, resolve, invoke, builtin, hs, hxe, hrun, Result.andThen]
  exact hK _ _ (h A' c' w' h2 h3)

end

section
variable {P : Program} {w : World}

/-- append of one more onto a list of the call's own, as one step of a region that draws its order; where the longer list lies is told. -/
theorem step_append_one {ops : Array Oper} {op : Oper} {a : Act} {K : Act → World → Prop} {Q : Exit → Act → World → Prop} {E : Prop} (hgd : op.guard = none) (s x : Operand) (t : TypeId)
    (hop : op.op = .call { callee := .builtin .append, args := #[s, x], argTypes := #[t, t] })
    (e : TypeId) (i : TypeInfo) (z : Value) (bytes : Nat) (ht : P.underlying t = some (.slice e)) (hi : P.info? e = some i) (hz : i.zero = some z) (hsize : i.size = 1) (hby : i.bytes = bytes) (hzs : z.cells.size = 1)
    (base : Nat) (A : Option Addr) (n c : Nat) (xs : List Value) (hs : a.eval s = .slice A n c) (ho : w.ownsRow base e 1 (.slice A n c) n xs) (hbase : base ≤ w.heap.size)
    (ad : Addr) (u : Value) (hxe : a.eval x = .slice (some ad) 1 1) (hx : w.cell? ad = some u) (h1 : u.oneCell' = true) (hb : (n + 1) * bytes ≤ 140737488355328) (h63 : n + 1 ≤ maxLen)
    (h : ∀ g' c' w', w'.ownsRow base e 1 (.slice (some ⟨g', 0, none⟩) (n + 1) c') (n + 1) (xs ++ [u]) → Moved w w' (.slice A n c) (.slice (some ⟨g', 0, none⟩) (n + 1) c') → K (a.put op.dst (.slice (some ⟨g', 0, none⟩) (n + 1) c')) w') :
    if Region.wanted op (yielded ops a.tmps) = true then Oper.wp P op a w K Q else E := by
  have hw : Region.wanted op (yielded ops a.tmps) = true := by simp [Region.wanted, hgd]
  rw [if_pos hw]
  obtain ⟨A', c', w', hrun, h2, h3⟩ := run_append_one (P := P) (w := w) t op.type e i z bytes ht hi hz hsize hby hzs base A n c xs ho hbase ad u hx h1 hb h63
  obtain ⟨g', rfl⟩ : ∃ g', A' = some ⟨g', 0, none⟩ := by
    rcases h2.2 with ⟨e0, h0⟩ | ⟨g, cap, cur, e0, _⟩
    · omega
    · injection e0 with e0; exact ⟨g, e0⟩
  unfold Oper.wp
  simp [execOp, hop, resolve, invoke, builtin, hs, hxe, hrun, Result.andThen]
  exact h g' c' w' h2 h3

end

theorem own_addr {w : World} {base : Nat} {e : TypeId} {A : Option Addr} {n c : Nat} {xs : List Value} (h : w.ownsRow base e 1 (.slice A n c) n xs) : A = none ∨ ∃ g, A = some ⟨g, 0, none⟩ := by
  rcases h.2 with ⟨e0, _⟩ | ⟨g, cap, cur, e0, _⟩ <;> injection e0 with e0
  · exact .inl e0
  · exact .inr ⟨g, e0⟩

theorem lies_of_own {w : World} {base : Nat} {e : TypeId} {A : Option Addr} {n c : Nat} {xs : List Value} (h : w.ownsRow base e 1 (.slice A n c) n xs) : Lies w A n xs := by
  rcases own_addr h with rfl | ⟨g, rfl⟩
  · rcases h.2 with ⟨_, h0⟩ | ⟨g, cap, cur, e0, _⟩
    · subst h0
      exact ⟨by simpa using h.1, fun hn => absurd hn (by omega)⟩
    · injection e0 with e0; cases e0
  · exact Lies.own h

section
variable {P : Program} {w : World}

/-- append of a whole slice, nil let in, onto a row of the call's own, nil let in. -/
theorem run_append_src (t ty e : TypeId) (i : TypeInfo) (z : Value) (bytes : Nat) (ht : P.underlying t = some (.slice e)) (hi : P.info? e = some i) (hz : i.zero = some z) (hsize : i.size = 1) (hby : i.bytes = bytes) (hzs : z.cells.size = 1)
    (base : Nat) (v : Value) (n : Nat) (xs : List Value) (ho : w.ownsRow base e 1 v n xs) (hbase : base ≤ w.heap.size)
    (A : Option Addr) (m c : Nat) (news : List Value) (hn : Lies w A m news) (hnil : A = none → c = 0) (h1 : ∀ u ∈ news, u.oneCell' = true) (hb : (n + m) * bytes ≤ 140737488355328) (h63 : n + m ≤ maxLen) :
    ∃ A' c' w', (Builtin.append_ #[t, t] ty #[v, .slice A m c]).run P w = .ok (.slice A' (n + m) c') w' ∧ w'.ownsRow base e 1 (.slice A' (n + m) c') (n + m) (xs ++ news) ∧ w.grownBy w' v.ownBlock := by
  cases A with
  | none =>
    obtain rfl : c = 0 := hnil rfl
    have hm : m = 0 := by
      rcases Nat.eq_zero_or_pos m with h | h
      · exact h
      · obtain ⟨_, _, h2, _⟩ := hn.cells h; cases h2
    subst hm
    have hnn : news = [] := List.eq_nil_of_length_eq_zero hn.len
    subst hnn
    have hrun := run_append_owned_none (P := P) w base t ty e i 1 ht hi v n xs ho
    rcases ho.2 with ⟨rfl, rfl⟩ | ⟨g, cap, cur, rfl, r⟩
    · exact ⟨none, 0, w, hrun, by simpa using ho, World.grownBy.refl _ _⟩
    · exact ⟨some ⟨g, 0, none⟩, cap, w, hrun, by simpa using ho, World.grownBy.refl _ _⟩
  | some ad =>
    have hcells : ∀ j u, news[j]? = some u → w.cell? (ad.add j) = some u := by
      intro j u hj
      have hjl : j < m := by have := (List.getElem?_eq_some_iff.1 hj).1; have := hn.len; omega
      obtain ⟨b, o, e1, _, hx⟩ := hn.cells (by omega)
      injection e1 with e1
      subst e1
      rw [Addr.add_lit, hx j hjl, hj]
    obtain ⟨v', w', hrun, hown, hg, _⟩ := run_append_own (P := P) w base t ty e i z 1 bytes ht hi hz hsize hby hzs (by omega) v n xs ho ad m c news (by have := hn.len; omega) hcells h1 h63 hb hbase
    rcases hown.2 with ⟨rfl, h0⟩ | ⟨g, cap, cur, rfl, r⟩
    · refine ⟨none, 0, w', ?_, ?_, hg⟩
      · rw [h0]; exact hrun
      · rw [h0]; rw [h0] at hown; exact hown
    · exact ⟨some ⟨g, 0, none⟩, cap, w', hrun, hown, hg⟩

theorem wpList_append_src {ops : Array Oper} {rest : List Oper} {op : Oper} {a : Act} {Q : Exit → Act → World → Prop} (hgd : op.guard = none) (s x : Operand) (t : TypeId)
    (hop : op.op = .call { callee := .builtin .append, args := #[s, x], argTypes := #[t, t] })
    (e : TypeId) (i : TypeInfo) (z : Value) (bytes : Nat) (ht : P.underlying t = some (.slice e)) (hi : P.info? e = some i) (hz : i.zero = some z) (hsize : i.size = 1) (hby : i.bytes = bytes) (hzs : z.cells.size = 1)
    (base : Nat) (v : Value) (n : Nat) (xs : List Value) (hs : a.eval s = v) (ho : w.ownsRow base e 1 v n xs) (hbase : base ≤ w.heap.size)
    (A : Option Addr) (m c : Nat) (news : List Value) (hx : a.eval x = .slice A m c) (hn : Lies w A m news) (hnil : A = none → c = 0) (h1 : ∀ u ∈ news, u.oneCell' = true) (hb : (n + m) * bytes ≤ 140737488355328) (h63 : n + m ≤ maxLen)
    (h : ∀ A' c' w', w'.ownsRow base e 1 (.slice A' (n + m) c') (n + m) (xs ++ news) → w.grownBy w' v.ownBlock → wpList P ops Q rest (a.put op.dst (.slice A' (n + m) c')) w') : wpList P ops Q (op :: rest) a w := by
  refine wpList_plain hgd fun K hK => ?_
  obtain ⟨A', c', w', hrun, h2, h3⟩ := run_append_src (P := P) (w := w) t op.type e i z bytes ht hi hz hsize hby hzs base v n xs ho hbase A m c news hn hnil h1 hb h63
  unfold Oper.wp
  simp [execOp, hop, resolve, invoke, builtin, hs, hx, hrun, Result.andThen]
  exact hK _ _ (h A' c' w' h2 h3)

end

section
variable {P : Program} {w : World}

end

section
variable {P : Program} {w : World}

end

theorem below_moved {B : Nat} {a w w' : World} {base : Nat} {e : TypeId} {v v' : Value} {n : Nat} {xs : List Value} (hb : Below B a w) (hB : B ≤ w.heap.size) (ho : w.ownsRow base e 1 v n xs) (hm : Moved w w' v v') (hbb : B ≤ base := by exact Nat.le_refl _) : Below B a w' := by
  rcases hm with ⟨_, hg⟩ | ⟨hg, _⟩
  · exact hb.grown hg hB (fun g hgg => Nat.le_trans hbb (ho.lt g hgg).1)
  · exact hb.grown hg hB (by simp)

end

section
open Go.RowKit

theorem cell_kept {a w : World} {b o : Nat} {v : Value} (hb : Below a.heap.size a w) (h : a.cell? ⟨b, o, none⟩ = some v) : w.cell? ⟨b, o, none⟩ = some v :=
  (hb.cell (World.block_lt_of_cell? a _ h)).trans h

theorem ints_one (k : IntKind) (zs : List Int) : ∀ u ∈ zs.map (Value.int k), u.oneCell' = true := by
  intro u hu
  simp at hu
  obtain ⟨_, _, rfl⟩ := hu
  rfl

section
variable {P : Program} {w : World}

end

end

section
open Go.RowKit
set_option linter.unusedVariables false
set_option linter.unusedSimpArgs false
set_option maxRecDepth 20000

/-- A tensor as a value. -/
abbrev tenV (A : Option Addr) (n c : Nat) (B : Option Addr) (m d : Nat) : Value := .agg #[.slice A n c, .slice B m d]

/-- May a tensor be, of this shape and that many numbers? -/
def tenOk (s : List Int) (m : Nat) : Bool := decide (0 < sizeI s) && decide (sizeI s = (m : Int))

theorem tenOk_iff {s : List Int} {m : Nat} : tenOk s m = true ↔ 0 < sizeI s ∧ sizeI s = (m : Int) := by simp [tenOk]

set_option maxHeartbeats 1000000 in
theorem tcheck_any (A B : Option Addr) (n c m d : Nat) (s : List Int) (w : World) (hA : Lies w A n (s.map (Value.int .i64))) (hn : n ≤ 281474976710656) :
    Calls Tryz.prog 11 #[tenV A n c B m d] w fun e w' => e = .returned (.bool (tenOk s m)) ∧ Below w.heap.size w w' := by
  have HA := hide hA
  clear hA
  go_enter Tryz.func11, Tryz.ntmps11
  go_wp2_with fail
  refine Calls.mono (size_any A n c s _ (HA.out.alloc _) hn) ?_
  rintro e w2 ⟨rfl, hb⟩
  have HB := hide hb
  have hbox : w2.heap[w.heap.size]? = some (.cells #[.slice A n c, .slice B m d] 40 (0, 0)) := (hb.block w.heap.size (by simp)).trans (heap_alloc_new w _)
  have hc1 : w2.cell? ⟨w.heap.size, 1, none⟩ = some (.slice B m d) := cell_of_row _ _ 1 _ _ (0, 0) hbox
  have HBB := hide ((((Below.refl w.heap.size w).alloc (Nat.le_refl _) (.cells #[.slice A n c, .slice B m d] 40))).trans (hb.mono (by simp)))
  clear hb hbox
  obtain ⟨y, hy⟩ : ∃ y, y = sizeI s := ⟨_, rfl⟩
  have HD : Hid (tenOk s m = (decide (0 < y) && decide (y = (m : Int)))) := hide (by rw [hy]; rfl)
  rw [← hy]
  clear hy
  by_cases h0 : 0 < y
  · go_wp2
    go_ret
    exact ⟨by rw [HD.out]; simp [Act.eval, h0]; rfl, HBB.out⟩
  · go_wp2
    go_ret
    exact ⟨by rw [HD.out]; simp [Act.eval, h0]; intro h; omega, HBB.out⟩

set_option maxHeartbeats 800000 in
theorem clone_ints (A : Option Addr) (n c : Nat) (s : List Int) (w : World) (h : Lies w A n (s.map (Value.int .i64))) (hp : 0 < n) (hm : n ≤ 1073741824) :
    Calls Tryz.prog 102 #[.slice A n c] w fun e w' => ∃ g' c', e = .returned (.slice (some ⟨g', 0, none⟩) n c') ∧ w'.ownsRow w.heap.size 3 1 (.slice (some ⟨g', 0, none⟩) n c') n (s.map (Value.int .i64)) ∧ Below w.heap.size w w' := by
  obtain ⟨i, hi, hz0, hz1, hz2⟩ := info_parts Tryz.infoI
  obtain ⟨b, o, rfl, hb, hx⟩ := h.cells hp
  have HI := hide hi
  have HZ0 := hide hz0
  have HZ1 := hide hz1
  have HZ2 := hide hz2
  have HLN : Hid ((s.map (Value.int .i64)).length = n * 1) := hide (by rw [h.len]; omega)
  have HL : Hid (∀ j u, (s.map (Value.int .i64))[j]? = some u → (w.alloc (.cells #[] 3)).cell? ((⟨b, o, none⟩ : Addr).add j) = some u) := hide (fun j u hj => by
    have hjn : j < n := by have := (List.getElem?_eq_some_iff.1 hj).1; have := h.len; omega
    obtain ⟨b', o', e, _, hy⟩ := (h.alloc (.cells #[] 3)).cells hp
    cases e
    rw [Addr.add_lit, hy j hjn, hj])
  have heq : (binOp .eql 35 (.slice (some ⟨b, o, none⟩) n c) (.slice none 0 0)).run Tryz.prog w = .ok (.bool false) w := Lib.run_eql_slice_nil w _ _ _ _ _ _ _ Tryz.underlying35
  clear h hi hz0 hz1 hz2 hx
  go_enter Tryz.func102, Tryz.ntmps102
  go_wp2_with (at_builtin; refine wpList_append_grows _ rfl _ _ 35 rfl 3 i _ 1 8 Tryz.underlying35 HI.out HZ0.out HZ1.out HZ2.out rfl (Nat.succ_pos _) (some ⟨w.heap.size, 0, none⟩) 0 0 [] rfl (fun h => by cases h) rfl (fun _ _ j u hj => by cases hj) ⟨b, o, none⟩ n c (s.map (Value.int .i64)) rfl HLN.out HL.out (ints_one .i64 s) (by omega) (by unfold maxLen; omega) (by omega) ?_)
  intro v' w' hown hgr
  obtain ⟨g', c', rfl⟩ : ∃ g' c', v' = .slice (some ⟨g', 0, none⟩) n c' := by
    rcases hown.2 with ⟨_, h0⟩ | ⟨g', c', _, h0, _⟩
    · omega
    · exact ⟨g', c', h0⟩
  have HF := hide (own_base (base' := w.heap.size) hown (by simp))
  have HB : Hid (Below w.heap.size w w') := hide (((Below.refl w.heap.size w).alloc (Nat.le_refl _) _).grown hgr (by simp) (by simp))
  clear hown hgr heq
  go_wp2
  go_ret
  exact ⟨g', c', by simp [Act.eval], HF.out, HB.out⟩

/-- A result that is a tensor in a block, and a number. -/
theorem results_ten {fn : Func} {p u : Tmp} (h : fn.results = #[.cell p 40, .tmp u]) (tmps : Array Value) (w : World) (g : Nat) (cs : Array Value)
    (hp : tmps.getD p undef = .pointer (some ⟨g, 0, none⟩)) (hg : w.heap[g]? = some (.cells cs 40 (0, 0))) (hs : cs.size = 2) :
    (results fn tmps).run Tryz.prog w = .ok (.tuple #[.agg cs, tmps.getD u undef]) w := by
  rw [results_cell_tmp h, hp]
  have hl := run_loadVar_row w g 40 40 cs (0, 0) _ hg Tryz.underlying40 rfl (by rw [hs]; kernel_rfl)
  simp [asAddr, Result.andThen, hl]

theorem ret_ten {fn : Func} {p u : Tmp} {R : Ending → World → Prop} {a : Act} {w : World} (h : fn.results = #[.cell p 40, .tmp u]) (hd : a.defers = []) (g : Nat) (cs : Array Value)
    (hp : a.tmps.getD p undef = .pointer (some ⟨g, 0, none⟩)) (hg : w.heap[g]? = some (.cells cs 40 (0, 0))) (hs : cs.size = 2) (hR : R (.returned (.tuple #[.agg cs, a.tmps.getD u undef])) w) : bodyPost Tryz.prog fn R .ret a w :=
  bodyPost_ret (results_ten h _ w g cs hp hg hs) hd hR

end

end Go.Proofs.YtohndckbhjakfaaGreatDoor

