/- Merged: Pb4, Pb5, Table, Sums. -/
import Derived.Test.YtohndckbhjakfaaGreatDoorWZ27
import Derived.Test.YtohndckbhjakfaaGreatDoorWZ25
import Derived.Test.YtohndckbhjakfaaGreatDoorWZ08
import Derived.Test.YtohndckbhjakfaaGreatDoorWZ00
import Derived.Test.YtohndckbhjakfaaGreatDoorWZ26
namespace Go.Proofs.YtohndckbhjakfaaGreatDoor

section
open Go.RowKit
set_option linter.unusedVariables false
set_option linter.unusedSimpArgs false
set_option maxRecDepth 100000

/-- A node that is read. -/
structure NdSc (B r q : Nat) (w3 w : World) (x : Nd) (ws : Sc) : Prop where
  big : B ≤ w.heap.size
  lr : r < B
  lq : q < B
  ne : r < q
  box : BoxN w q x
  oi : w.ownsRow B 3 1 (.slice x.I x.ni x.ci) x.ni (x.xs.map (Value.int .i64))
  os : w.ownsRow B 3 1 (.slice x.S x.ns x.cs) x.ns (x.sh.map (Value.int .i64))
  dj : ∀ g, (Value.slice x.I x.ni x.ci).ownBlock = some g → (Value.slice x.S x.ns x.cs).ownBlock ≠ some g
  rd : ScAt w r ws
  kp : Kp2 B r q w3 w
  kd : 0 ≤ x.kd ∧ x.kd < 256
  nb : -9223372036854775808 ≤ x.N ∧ x.N < 9223372036854775808
  pb : -9223372036854775808 ≤ x.P ∧ x.P < 9223372036854775808
  nl : x.ni ≤ 2000000
  sl : x.ns ≤ 1000000

theorem NdSc.but {B r q : Nat} {w3 w w' : World} {x : Nd} {ws t : Sc} (h : NdSc B r q w3 w x ws) (hb : But r w w') (hr : ScAt w' r t) : NdSc B r q w3 w' x t :=
  ⟨Nat.le_trans h.big hb.size, h.lr, h.lq, h.ne, (hb.block q (Nat.lt_of_lt_of_le h.lq h.big) (by have := h.ne; omega)).trans h.box, own_but h.oi hb h.lr, own_but h.os hb h.lr, h.dj, hr, h.kp.but hb h.big, h.kd, h.nb, h.pb, h.nl, h.sl⟩

theorem NdSc.setN {B r q : Nat} {w3 w : World} {x : Nd} {ws : Sc} (h : NdSc B r q w3 w x ws) (n : Int) (hn : -9223372036854775808 ≤ n ∧ n < 9223372036854775808) : NdSc B r q w3 (w.setCell ⟨q, 3, none⟩ (.int .i64 n)) { x with N := n } ws :=
  ⟨by rw [set_size]; exact h.big, h.lr, h.lq, h.ne, by have := heap_setCell_same w q 3 _ _ (.int .i64 n) h.box; simpa [BoxN] using this, own_set h.oi h.lq _ _, own_set h.os h.lq _ _, h.dj, h.rd.set h.ne _ _, h.kp.set _ _, h.kd, hn, h.pb, h.nl, h.sl⟩

theorem NdSc.setP {B r q : Nat} {w3 w : World} {x : Nd} {ws : Sc} (h : NdSc B r q w3 w x ws) (n : Int) (hn : -9223372036854775808 ≤ n ∧ n < 9223372036854775808) : NdSc B r q w3 (w.setCell ⟨q, 4, none⟩ (.int .i64 n)) { x with P := n } ws :=
  ⟨by rw [set_size]; exact h.big, h.lr, h.lq, h.ne, by have := heap_setCell_same w q 4 _ _ (.int .i64 n) h.box; simpa [BoxN] using this, own_set h.oi h.lq _ _, own_set h.os h.lq _ _, h.dj, h.rd.set h.ne _ _, h.kp.set _ _, h.kd, h.nb, hn, h.nl, h.sl⟩

/-- A list of numbers that was read becomes its inputs, or its shape. -/
theorem NdSc.setI {B r q : Nat} {w3 w w' : World} {x : Nd} {ws t : Sc} {A : Option Addr} {k c : Nat} {l : List Int} (h : NdSc B r q w3 w x ws) (hb : But r w w') (hr : ScAt w' r t) (ho : w'.ownsRow w.heap.size 3 1 (.slice A k c) k (l.map (Value.int .i64))) (hk : k ≤ 1000000) :
    NdSc B r q w3 (w'.setCell ⟨q, 1, none⟩ (.slice A k c)) { x with I := A, ni := k, ci := c, xs := l } t := by
  have h' := h.but hb hr
  refine ⟨by rw [set_size]; exact h'.big, h'.lr, h'.lq, h'.ne, by have := heap_setCell_same w' q 1 _ _ (.slice A k c) h'.box; simpa [BoxN] using this, own_set (own_base ho h.big) h'.lq _ _, own_set h'.os h'.lq _ _, ?_, h'.rd.set h'.ne _ _, h'.kp.set _ _, h'.kd, h'.nb, h'.pb, by simp only; omega, h'.sl⟩
  intro g hg hg2
  have := (ho.lt g hg).1
  have := own_blk_lt h.os hg2
  omega

theorem NdSc.setS {B r q : Nat} {w3 w w' : World} {x : Nd} {ws t : Sc} {A : Option Addr} {k c : Nat} {l : List Int} (h : NdSc B r q w3 w x ws) (hb : But r w w') (hr : ScAt w' r t) (ho : w'.ownsRow w.heap.size 3 1 (.slice A k c) k (l.map (Value.int .i64))) (hk : k ≤ 1000000) :
    NdSc B r q w3 (w'.setCell ⟨q, 2, none⟩ (.slice A k c)) { x with S := A, ns := k, cs := c, sh := l } t := by
  have h' := h.but hb hr
  refine ⟨by rw [set_size]; exact h'.big, h'.lr, h'.lq, h'.ne, by have := heap_setCell_same w' q 2 _ _ (.slice A k c) h'.box; simpa [BoxN] using this, own_set h'.oi h'.lq _ _, own_set (own_base ho h.big) h'.lq _ _, ?_, h'.rd.set h'.ne _ _, h'.kp.set _ _, h'.kd, h'.nb, h'.pb, h'.nl, hk⟩
  intro g hg hg2
  have := (ho.lt g hg2).1
  have := own_blk_lt h.oi hg
  omega

/-- A new block beside it. -/
theorem NdSc.below {B r q : Nat} {w3 w w' : World} {x : Nd} {ws : Sc} (h : NdSc B r q w3 w x ws) (hb : Below w.heap.size w w') : NdSc B r q w3 w' x ws :=
  h.but (Below.but hb) (h.rd.below hb)

theorem NdSc.setK {B r q : Nat} {w3 w : World} {x : Nd} {ws : Sc} (h : NdSc B r q w3 w x ws) (n : Int) (hn : 0 ≤ n ∧ n < 256) : NdSc B r q w3 (w.setCell ⟨q, 0, none⟩ (.int .u8 n)) { x with kd := n } ws :=
  ⟨by rw [set_size]; exact h.big, h.lr, h.lq, h.ne, by have := heap_setCell_same w q 0 _ _ (.int .u8 n) h.box; simpa [BoxN] using this, own_set h.oi h.lq _ _, own_set h.os h.lq _ _, h.dj, h.rd.set h.ne _ _, h.kp.set _ _, hn, h.nb, h.pb, h.nl, h.sl⟩

theorem tkList_small {s : Sc} (h : ByteL s.1) : (tkList s).1.length ≤ 1000000 := by
  rw [tkList, tkNums_len]
  have := (tk_byte h).1
  omega

theorem five_set {w : World} {b0 : Nat} {x y : Nd} (h0 : BoxN w b0 y) : BoxN (((((w.setCell ⟨b0, 0, none⟩ (.int .u8 x.kd)).setCell ⟨b0, 1, none⟩ (.slice x.I x.ni x.ci)).setCell ⟨b0, 2, none⟩ (.slice x.S x.ns x.cs)).setCell ⟨b0, 3, none⟩ (.int .i64 x.N)).setCell ⟨b0, 4, none⟩ (.int .i64 x.P)) b0 x := by
  have e0 := heap_setCell_same w b0 0 _ _ (.int .u8 x.kd) h0
  have e1 := heap_setCell_same _ b0 1 _ _ (.slice x.I x.ni x.ci) e0
  have e2 := heap_setCell_same _ b0 2 _ _ (.slice x.S x.ns x.cs) e1
  have e3 := heap_setCell_same _ b0 3 _ _ (.int .i64 x.N) e2
  have e4 := heap_setCell_same _ b0 4 _ _ (.int .i64 x.P) e3
  simpa [BoxN] using e4

set_option maxHeartbeats 8000000 in
theorem snode_any (r : Nat) (s : Sc) (w : World) (h : ScAt w r s) : Calls Tryz.prog 65 #[.pointer (some ⟨r, 0, none⟩)] w fun e w' => ∃ x : Nd, x.tn = (tkNode s).1 ∧ e = .returned x.v ∧ OwnN w' w.heap.size x ∧ Bnd x ∧ ScAt w' r (tkNode s).2 ∧ But r w w' := by
  have hrl := h.lt
  obtain ⟨q, hq⟩ : ∃ q, q = w.heap.size + 1 := ⟨_, rfl⟩
  obtain ⟨W2, hW2⟩ : ∃ W, W = (w.alloc (.cells #[.int .u8 0, .slice none 0 0, .slice none 0 0, .int .i64 0, .int .i64 0] 44)).alloc (.cells #[.int .u8 0, .slice none 0 0, .slice none 0 0, .int .i64 0, .int .i64 0] 44) := ⟨_, rfl⟩
  have hB2 : Below w.heap.size w W2 := by rw [hW2]; exact ((Below.refl _ _).alloc (Nat.le_refl _) _).alloc (by simp) _
  have hs2 : W2.heap.size = q + 1 := by rw [hW2]; simp [hq]
  have hg1 : BoxN W2 q nd0 := by
    rw [hW2, hq]
    have := heap_alloc_new (w.alloc (.cells #[.int .u8 0, .slice none 0 0, .slice none 0 0, .int .i64 0, .int .i64 0] 44)) (.cells #[.int .u8 0, .slice none 0 0, .slice none 0 0, .int .i64 0, .int .i64 0] 44)
    simpa [BoxN, nd0] using this
  have hg0 : BoxN W2 w.heap.size nd0 := by
    rw [hW2]
    exact (Below.heap_alloc _ _ _ (by simp)).trans (heap_alloc_new w _)
  obtain ⟨B, hB⟩ : ∃ B, B = q + 1 := ⟨_, rfl⟩
  have HI0 : Hid (NdSc B r q W2 W2 nd0 s) := hide (by
    refine ⟨by omega, by omega, by omega, by omega, hg1, World.ownsRow_nil _ _ _ _, World.ownsRow_nil _ _ _ _, fun g hg => by simp [nd0, Value.ownBlock] at hg, h.below hB2, Kp2.refl _ _ _ _, ?_, ?_, ?_, ?_, ?_⟩
    all_goals (simp only [nd0]; omega))
  have HOUT : Hid (∀ (wr : World) (x : Nd) (t : Sc), NdSc B r q W2 wr x t → But r w wr) := hide (fun wr x t hh => by
    have hsz := hB2.size
    exact ⟨hh.kp.os.trans hB2.os, hh.kp.tape.trans hB2.tape, hh.kp.output.trans hB2.output, Nat.le_trans hB2.size hh.kp.size, fun k hk hn => (hh.kp.block k (by omega) hn (by omega)).trans (hB2.block k hk)⟩)
  have HG0 : Hid (∀ (wr : World) (x : Nd) (t : Sc), NdSc B r q W2 wr x t → BoxN wr w.heap.size nd0) := hide (fun wr x t hh => (hh.kp.block _ (by omega) (by omega) (by omega)).trans hg0)
  obtain ⟨a, ha⟩ : ∃ a, a = tk s := ⟨_, rfl⟩
  obtain ⟨b, hb⟩ : ∃ b, b = tkList a.2 := ⟨_, rfl⟩
  obtain ⟨c, hc⟩ : ∃ c, c = tkList b.2 := ⟨_, rfl⟩
  obtain ⟨d, hd⟩ : ∃ d, d = tk c.2 := ⟨_, rfl⟩
  obtain ⟨f, hf⟩ : ∃ f, f = tk d.2 := ⟨_, rfl⟩
  have ht : tkNode s = (⟨a.1.toNat, b.1, c.1, d.1, f.1⟩, f.2) := by rw [tkNode, hf, hd, hc, hb, ha]
  rw [ht]
  have hby := h.byte
  have hab := tk_byte hby
  rw [← ha] at hab
  have HA := hide ha
  have HBq := hide hb
  have HCq := hide hc
  have HD := hide hd
  have HF := hide hf
  have hbd : ∀ u : Sc, ByteL u.1 → -9223372036854775808 ≤ (tk u).1 ∧ (tk u).1 < 9223372036854775808 := fun u hu => by have := (tk_byte hu).1; omega
  have HBD := hide hbd
  have hq' := hq.symm
  have HBE := hide hB
  have hu8 : IntKind.u8.wrap a.1 = a.1 := by rw [IntKind.wrap_u8]; omega
  have HAB := hide hab.1
  have hB2w : w.heap.size ≤ B := by omega
  have HW2 := hide hW2
  clear ha hb hc hd hf ht hW2 hB2 hs2 hg1 hg0 h hby hq hB hbd hab
  have HC1 := hide (fun (u : World) (t : Sc) (ht : ScAt u r t) => snum_any r t u ht)
  have HC2 := hide (fun (u : World) (t : Sc) (ht : ScAt u r t) => slist_any r t u ht)
  go_enter Tryz.func65, Tryz.ntmps65
  have c1 := HC1.out W2 s HI0.out.rd
  rw [← HA.out, HW2.out] at c1
  go_wp2_with (go_at_call 64; refine c1.mono ?_; rintro e w3 ⟨rfl, hS, hb⟩; rw [← HW2.out] at hb; have H1 := hide (HI0.out.but hb hS); have hcs := H1.out.box.cs; have hz := H1.out.box.frozen 0; clear hS hb)
  have H2 := hide (H1.out.setK a.1 HAB.out)
  have c2 := HC2.out _ _ H2.out.rd
  rw [← HBq.out] at c2
  clear hcs hz c1
  go_wp2_with (go_at_call 101; refine c2.mono ?_; rintro e w4 ⟨A1, k1, rfl, ho, hS, hb⟩; have H3 := hide (H2.out.setI hb hS ho (by rw [HBq.out]; exact tkList_small (by have := H2.out.rd.byte; exact this))); have H3b := hide (H2.out.but hb hS); have hcs := H3b.out.box.cs; have hz := H3b.out.box.frozen 1; clear hS hb ho)
  have c3 := HC2.out _ _ H3.out.rd
  rw [← HCq.out] at c3
  clear hcs hz c2
  go_wp2_with (go_at_call 101; refine c3.mono ?_; rintro e w5 ⟨A2, k2, rfl, ho, hS, hb⟩; have H4 := hide (H3.out.setS hb hS ho (by rw [HCq.out]; exact tkList_small (by have := H3.out.rd.byte; exact this))); have H4b := hide (H3.out.but hb hS); have hcs := H4b.out.box.cs; have hz := H4b.out.box.frozen 2; clear hS hb ho)
  have c4 := HC1.out _ _ H4.out.rd
  rw [← HD.out] at c4
  have hdb := HBD.out _ H4.out.rd.byte
  rw [← HD.out] at hdb
  clear hcs hz c3
  go_wp2_with (go_at_call 64; refine c4.mono ?_; rintro e w6 ⟨rfl, hS, hb⟩; have H5b := hide (H4.out.but hb hS); have hcs := H5b.out.box.cs; have hz := H5b.out.box.frozen 3; clear hS hb)
  have H5 := hide (H5b.out.setN d.1 hdb)
  have c5 := HC1.out _ _ H5.out.rd
  rw [← HF.out] at c5
  have hfb := HBD.out _ H5.out.rd.byte
  rw [← HF.out] at hfb
  clear hcs hz c4
  go_wp2_with (go_at_call 64; refine c5.mono ?_; rintro e w7 ⟨rfl, hS, hb⟩; have H6b := hide (H5.out.but hb hS); have hcs := H6b.out.box.cs; have hz := H6b.out.box.frozen 4; clear hS hb; have H6 := hide (H6b.out.setP f.1 hfb); have hcx := H6.out.box.cs; have hg0 := (HG0.out _ _ _ H6.out).cs; have zf0 := (HG0.out _ _ _ H6.out).frozen 0; have zf1 := (HG0.out _ _ _ H6.out).frozen 1; have zf2 := (HG0.out _ _ _ H6.out).frozen 2; have zf3 := (HG0.out _ _ _ H6.out).frozen 3; have zf4 := (HG0.out _ _ _ H6.out).frozen 4)
  obtain ⟨x, hx⟩ : ∃ x : Nd, x = ⟨a.1, A1, b.1.length, k1, A2, c.1.length, k2, d.1, f.1, b.1, c.1⟩ := ⟨_, rfl⟩
  obtain ⟨W7, hW7⟩ : ∃ W, W = w7.setCell ⟨q, 4, none⟩ (.int .i64 f.1) := ⟨_, rfl⟩
  have H7 : NdSc B r q W2 W7 x f.2 := by rw [hW7, hx]; exact H6.out
  rw [← hW7]
  have e1 : (Value.int .u8 a.1) = .int .u8 x.kd := by rw [hx]
  have e2 : (Value.slice A1 b.1.length k1) = .slice x.I x.ni x.ci := by rw [hx]
  have e3 : (Value.slice A2 c.1.length k2) = .slice x.S x.ns x.cs := by rw [hx]
  have e4 : (Value.int .i64 d.1) = .int .i64 x.N := by rw [hx]
  have e5 : (Value.int .i64 f.1) = .int .i64 x.P := by rw [hx]
  rw [e1, e2, e3, e4, e5]
  have htn : x.tn = { kd := a.1.toNat, xs := b.1, sh := c.1, N := d.1, P := f.1 } := by rw [hx]; rfl
  have hg0' := HG0.out _ _ _ H7
  clear hcs hz hcx hg0 zf0 zf1 zf2 zf3 zf4 H6 H6b H5 H5b H4 H4b H3 H3b H2 H1 hW7 hx e1 e2 e3 e4 e5 c5
  have hq0 : w.heap.size < B := by have := H7.lq; omega
  obtain ⟨W5, hW5⟩ : ∃ W, W = (((((W7.setCell ⟨w.heap.size, 0, none⟩ (.int .u8 x.kd)).setCell ⟨w.heap.size, 1, none⟩ (.slice x.I x.ni x.ci)).setCell ⟨w.heap.size, 2, none⟩ (.slice x.S x.ns x.cs)).setCell ⟨w.heap.size, 3, none⟩ (.int .i64 x.N)).setCell ⟨w.heap.size, 4, none⟩ (.int .i64 x.P)) := ⟨_, rfl⟩
  have hs5 := five_set (x := x) hg0'
  have ho1 := own_set5 H7.oi hq0 (.int .u8 x.kd) (.slice x.I x.ni x.ci) (.slice x.S x.ns x.cs) (.int .i64 x.N) (.int .i64 x.P)
  have ho2 := own_set5 H7.os hq0 (.int .u8 x.kd) (.slice x.I x.ni x.ci) (.slice x.S x.ns x.cs) (.int .i64 x.N) (.int .i64 x.P)
  have hbel := below_set5 W7 w.heap.size (.int .u8 x.kd) (.slice x.I x.ni x.ci) (.slice x.S x.ns x.cs) (.int .i64 x.N) (.int .i64 x.P)
  rw [← hW5] at hs5 ho1 ho2 hbel
  rw [← hW5]
  clear hW5
  have hbut := (HOUT.out _ _ _ H7).on hbel
  have hsc := H7.rd.up (hbel.mono hrl)
  obtain ⟨d0, d1, d2, d3, d4⟩ := hs5.cs
  have hnl := H7.nl
  have hsl := H7.sl
  refine ⟨rfl, x.v, ?_, x, htn, rfl, ⟨own_base ho1 hB2w, own_base ho2 hB2w, H7.dj⟩, ⟨own_le ho1, own_le ho2, by omega, by omega, H7.kd, H7.nb, H7.pb⟩, hsc, hbut⟩
  have hres : Tryz.f65.results = #[.cell 2 44] := rfl
  simp [results, hres, go_sem, Nd.v, d0, d1, d2, d3, d4]

end

section
open Go.RowKit
set_option linter.unusedVariables false
set_option linter.unusedSimpArgs false
set_option maxRecDepth 100000

/-- Nodes that are gathered in a row of their own. -/
structure GsAt (B r b0 : Nat) (W3 w : World) (A : Option Addr) (c : Nat) (ns : List Nd) (s : Sc) : Prop where
  big : B ≤ w.heap.size
  lr : r < b0
  sc : ScAt w r s
  lb : b0 < B
  bx : w.heap[b0]? = some (.cells #[.slice A ns.length c] 24 (0, 0))
  ro : w.ownsRow B 44 5 (.slice A ns.length c) ns.length (cellsN ns)
  ow : ∀ (j : Nat) (x : Nd), ns[j]? = some x → OwnN w B x ∧ Bnd x
  od : ∀ (i j : Nat) (x y : Nd) (g h : Nat), i < j → ns[i]? = some x → ns[j]? = some y → Blk x g → Blk y h → g < h
  kp : Kp2 B r b0 W3 w

theorem GsAt.below {B r b0 : Nat} {W3 w w' : World} {A : Option Addr} {c : Nat} {ns : List Nd} {s : Sc} (h : GsAt B r b0 W3 w A c ns s) (hb : Below w.heap.size w w') : GsAt B r b0 W3 w' A c ns s :=
  ⟨Nat.le_trans h.big hb.size, h.lr, h.sc.below hb, h.lb, (hb.block b0 (lt_of_heap h.bx)).trans h.bx, own_keep10 h.ro hb, fun j x hj => ⟨(h.ow j x hj).1.below hb, (h.ow j x hj).2⟩, h.od, h.kp.below (hb.mono h.big)⟩

/-- One node more. -/
theorem GsAt.push {B r b0 lo : Nat} {W3 w w' : World} {A A' : Option Addr} {c c' : Nat} {ns : List Nd} {x : Nd} {s : Sc} (h : GsAt B r b0 W3 w A c ns s) (hx : OwnN w lo x) (hb : Bnd x) (hlo : ∀ (j : Nat) (y : Nd) (g : Nat), ns[j]? = some y → Blk y g → g < lo) (hB : B ≤ lo)
    (ho : w'.ownsRow B 44 5 (.slice A' (ns.length + 1) c') (ns.length + 1) (cellsN (ns ++ [x]))) (hg : w.grownBy w' (Value.slice A ns.length c).ownBlock) :
    GsAt B r b0 W3 (w'.setCell ⟨b0, 0, none⟩ (.slice A' (ns.length + 1) c')) A' c' (ns ++ [x]) s := by
  have hne : ∀ g, (Value.slice A ns.length c).ownBlock = some g → B ≤ g := fun g e => (h.ro.lt g e).1
  have hbel : Below B w w' := (Below.refl B w).grown hg h.big hne
  have hbx : w'.heap[b0]? = some (.cells #[.slice A ns.length c] 24 (0, 0)) := (hbel.block b0 h.lb).trans h.bx
  have htyp : ∀ (y : Nd) (B2 : Nat), OwnN w B2 y → ∀ g, (Value.slice A ns.length c).ownBlock = some g → ¬ Blk y g := by
    intro y B2 hy g hgg hby
    obtain ⟨c1, e1⟩ := own_typ h.ro hgg
    obtain ⟨c2, e2⟩ := hy.typ hby
    rw [e1] at e2
    injection e2 with e2
    injection e2 with _ e2
    exact absurd e2 (by decide)
  have hset : ∀ (y : Nd) (B2 : Nat), B ≤ B2 → OwnN w' B2 y → OwnN (w'.setCell ⟨b0, 0, none⟩ (.slice A' (ns.length + 1) c')) B2 y := fun y B2 hB2 hy =>
    ⟨own_set hy.1 (Nat.lt_of_lt_of_le h.lb hB2) _ _, own_set hy.2.1 (Nat.lt_of_lt_of_le h.lb hB2) _ _, hy.2.2⟩
  have hlen : (ns ++ [x]).length = ns.length + 1 := by simp
  refine ⟨by rw [set_size]; exact Nat.le_trans h.big hbel.size, h.lr, (h.sc.up (hbel.mono (Nat.lt_trans h.lr h.lb))).set h.lr _ _, h.lb, ?_, ?_, ?_, ?_, (h.kp.below hbel).set _ _⟩
  · have := heap_setCell_same w' b0 0 _ _ (.slice A' (ns.length + 1) c') hbx
    rw [hlen]
    simpa using this
  · rw [hlen]; exact own_set ho h.lb _ _
  · intro j y hj
    by_cases hjl : j < ns.length
    · rw [List.getElem?_append_left hjl] at hj
      obtain ⟨h1, h2⟩ := h.ow j y hj
      exact ⟨hset y B (Nat.le_refl _) (h1.kept hg (htyp y B h1)), h2⟩
    · rw [List.getElem?_append_right (by omega)] at hj
      have : j - ns.length = 0 := by
        rcases Nat.eq_zero_or_pos (j - ns.length) with e | e
        · exact e
        · rw [List.getElem?_eq_none (by simp; omega)] at hj; cases hj
      rw [this] at hj
      injection hj with hj
      subst hj
      exact ⟨(hset x lo hB (hx.kept hg (htyp x lo hx))).base hB, hb⟩
  · intro i j y z g k hij hi hj hgy hkz
    by_cases hjl : j < ns.length
    · rw [List.getElem?_append_left hjl] at hj
      rw [List.getElem?_append_left (by omega)] at hi
      exact h.od i j y z g k hij hi hj hgy hkz
    · rw [List.getElem?_append_right (by omega)] at hj
      have : j - ns.length = 0 := by
        rcases Nat.eq_zero_or_pos (j - ns.length) with e | e
        · exact e
        · rw [List.getElem?_eq_none (by simp; omega)] at hj; cases hj
      rw [this] at hj
      injection hj with hj
      subst hj
      rw [List.getElem?_append_left (by omega)] at hi
      have h1 := hlo i y g hi hgy
      have h2 := (hx.lt hkz).1
      omega

theorem GsAt.nsIn {B r b0 : Nat} {W3 w : World} {A : Option Addr} {c : Nat} {ns : List Nd} {s : Sc} (h : GsAt B r b0 W3 w A c ns s) : NsIn w A ns.length ns := by
  refine ⟨rfl, fun hn => ?_⟩
  obtain ⟨g, hA, _, hlt, hcs⟩ := ownN_cells h.ro hn
  refine ⟨g, 0, hA, hlt, fun j x hj => ?_⟩
  have ha := cellsN_at ns j x hj
  obtain ⟨a0, a1, a2, a3, a4⟩ := ha
  simp only [Nat.zero_add]
  exact ⟨hcs _ _ a0, hcs _ _ a1, hcs _ _ a2, hcs _ _ a3, hcs _ _ a4, (h.ow j x hj).1.ok (h.ow j x hj).2⟩

theorem GsAt.but {B r b0 : Nat} {W3 w w' : World} {A : Option Addr} {c : Nat} {ns : List Nd} {s t : Sc} (h : GsAt B r b0 W3 w A c ns s) (hb : But r w w') (hs : ScAt w' r t) : GsAt B r b0 W3 w' A c ns t := by
  have hrB : r < B := Nat.lt_trans h.lr h.lb
  have hg : w.grownBy w' (some r) := hb.grown
  exact ⟨Nat.le_trans h.big hb.size, h.lr, hs, h.lb, (hb.block b0 (lt_of_heap h.bx) (by have := h.lr; omega)).trans h.bx, own_but h.ro hb hrB, fun j x hj => ⟨(h.ow j x hj).1.kept hg (fun g e => by
    injection e with e
    subst e
    intro hbk
    have := ((h.ow j x hj).1.lt hbk).1
    omega), (h.ow j x hj).2⟩, h.od, h.kp.but hb h.big⟩

theorem ownG_base {w : World} {B B' e s n : Nat} {v : Value} {xs : List Value} (h : w.ownsRow B e s v n xs) (hb : B' ≤ B) : w.ownsRow B' e s v n xs := by
  refine ⟨h.1, ?_⟩
  rcases h.2 with h1 | ⟨g, cap, cur, h1, h2, r⟩
  · exact .inl h1
  · exact .inr ⟨g, cap, cur, h1, Nat.le_trans hb h2, r⟩

theorem tkNodes_snoc : ∀ (k : Nat) (s : Sc), tkNodes (k + 1) s = ((tkNodes k s).1 ++ [(tkNode (tkNodes k s).2).1], (tkNode (tkNodes k s).2).2)
  | 0, s => rfl
  | k + 1, s => by
    rw [tkNodes, tkNodes_snoc k (tkNode s).2]
    rw [tkNodes]
    rfl

theorem ownN_but {w w' : World} {r B : Nat} {x : Nd} (h : OwnN w B x) (hb : But r w w') (hr : r < B) : OwnN w' B x := ⟨own_but h.1 hb hr, own_but h.2.1 hb hr, h.2.2⟩

set_option maxHeartbeats 8000000 in
theorem sgraph_any (r : Nat) (s : Sc) (w : World) (h : ScAt w r s) : Calls Tryz.prog 34 #[.pointer (some ⟨r, 0, none⟩)] w fun e w' => ∃ (ns : List Nd) (A : Option Addr) (c : Nat), ns.map Nd.tn = (tkGraph s).1 ∧ e = .returned (.agg #[.slice A ns.length c]) ∧ NsIn w' A ns.length ns ∧ w'.ownsRow w.heap.size 44 5 (.slice A ns.length c) ns.length (cellsN ns) ∧ (∀ (j : Nat) (x : Nd), ns[j]? = some x → OwnN w' w.heap.size x ∧ Bnd x) ∧ (∀ (i j : Nat) (x y : Nd) (g h : Nat), i < j → ns[i]? = some x → ns[j]? = some y → Blk x g → Blk y h → g < h) ∧ ScAt w' r (tkGraph s).2 ∧ But r w w' := by
  have hrl := h.lt
  obtain ⟨q, hq⟩ : ∃ q, q = w.heap.size + 1 := ⟨_, rfl⟩
  obtain ⟨W2, hW2⟩ : ∃ W, W = (w.alloc (.cells #[.slice none 0 0] 24)).alloc (.cells #[.slice none 0 0] 24) := ⟨_, rfl⟩
  have hB2 : Below w.heap.size w W2 := by rw [hW2]; exact ((Below.refl _ _).alloc (Nat.le_refl _) _).alloc (by simp) _
  have hs2 : W2.heap.size = q + 1 := by rw [hW2]; simp [hq]
  have hg1 : W2.heap[q]? = some (.cells #[.slice none 0 0] 24 (0, 0)) := by
    rw [hW2, hq]
    have := heap_alloc_new (w.alloc (.cells #[.slice none 0 0] 24)) (.cells #[.slice none 0 0] 24)
    simpa using this
  have hg0 : W2.heap[w.heap.size]? = some (.cells #[.slice none 0 0] 24 (0, 0)) := by
    rw [hW2]
    exact (Below.heap_alloc _ _ _ (by simp)).trans (heap_alloc_new w _)
  obtain ⟨B, hB⟩ : ∃ B, B = q + 1 := ⟨_, rfl⟩
  have hby := h.byte
  obtain ⟨hb1, hb2⟩ := tk_byte hby
  obtain ⟨n, hn⟩ : ∃ n : Nat, (tk s).1 = (n : Int) := ⟨(tk s).1.toNat, by omega⟩
  have hn6 : n < 256 := by omega
  obtain ⟨s1, hs1⟩ : ∃ s1, s1 = (tk s).2 := ⟨_, rfl⟩
  have htl : tkGraph s = tkNodes n s1 := by rw [tkGraph, hn, hs1]; simp
  rw [htl]
  have HC := hide (snum_any r s W2 (h.below hB2))
  rw [hn, ← hs1, hW2] at HC
  have HI0 : Hid (∀ w3, But r W2 w3 → ScAt w3 r s1 → GsAt B r q W2 w3 none 0 [] s1) := hide (fun w3 hbu hsc =>
    ⟨by have := hbu.size; omega, by omega, hsc, by omega, (hbu.block q (by omega) (by omega)).trans hg1, World.ownsRow_nil _ _ _ _, fun j x hj => by simp at hj, fun i j x y g h _ hi => by simp at hi, (Kp2.refl B r q W2).but hbu (by omega)⟩)
  have HOUT : Hid (∀ (wr : World) (A : Option Addr) (c : Nat) (ns : List Nd) (t : Sc), GsAt B r q W2 wr A c ns t → But r w wr) := hide (fun wr A c ns t hh => by
    have hsz := hB2.size
    exact ⟨hh.kp.os.trans hB2.os, hh.kp.tape.trans hB2.tape, hh.kp.output.trans hB2.output, Nat.le_trans hB2.size hh.kp.size, fun k hk hn => (hh.kp.block k (by omega) hn (by omega)).trans (hB2.block k hk)⟩)
  have HG0 : Hid (∀ (wr : World) (A : Option Addr) (c : Nat) (ns : List Nd) (t : Sc), GsAt B r q W2 wr A c ns t → wr.heap[w.heap.size]? = some (.cells #[.slice none 0 0] 24 (0, 0))) := hide (fun wr A c ns t hh => (hh.kp.block _ (by omega) (by omega) (by omega)).trans hg0)
  have hq' := hq.symm
  have HW2 := hide hW2
  have hB2w : w.heap.size ≤ B := by omega
  have hrB : r < B := by omega
  obtain ⟨iN, hiN, hzN0, hzN1, hzN2⟩ := info_parts infoN10
  have HIN := hide hiN
  have HZ0 := hide hzN0
  have HZ1 := hide hzN1
  have HZ2 := hide hzN2
  clear hiN hzN0 hzN1 hzN2 hW2 hB2 hs2 hg1 hg0 h hby hb1 hb2 hn hs1 htl hq hB
  go_enter Tryz.func34, Tryz.ntmps34
  go_wp2_with (go_at_call 64; refine HC.out.mono ?_; rintro e w3 ⟨rfl, hS, hb⟩; rw [← HW2.out] at hb; have HI := hide (HI0.out w3 hb hS); clear hS hb)
  go_loopw [6] (fun i wr => ∃ (k : Nat) (ns : List Nd) (A : Option Addr) (c : Nat), k ≤ n ∧ i = .int .i64 k ∧ Hid (ns.length = k) ∧ Hid (ns.map Nd.tn = (tkNodes k s1).1) ∧ Hid (GsAt B r q W2 wr A c ns (tkNodes k s1).2)) (fun i _ => n - (intOf i).toNat)
  case atStart => exact ⟨0, [], none, 0, Nat.zero_le _, rfl, hide rfl, hide rfl, HI⟩
  case round =>
    obtain ⟨k, ns, A, c, hkn, rfl, HLN, HTN, HP⟩ := hrel
    by_cases hlt : k < n
    · have f0 : (0 : Int) ≤ (k : Int) := by omega
      have f1 : (k : Int) < (n : Int) := by omega
      have hnl6 : ns.length < 256 := by rw [HLN.out]; omega
      have hsn := tkNodes_snoc k s1
      have HSN := hide hsn
      have hd1 : Below wr.heap.size wr wr.drew := below_drewN (Below.refl _ _) 1
      have HP1 := hide (HP.out.below hd1)
      have c1 := snode_any r _ wr.drew HP1.out.sc
      have hcx := cell_of_row _ _ 0 _ _ (0, 0) HP.out.bx
      simp only [List.getElem?_toArray, List.getElem?_cons_zero] at hcx
      have HSZ : Hid (B ≤ wr.drew.heap.size) := hide HP1.out.big
      clear hsn
      go_wp2
      have hS0 : Hid (wr.drew.cell? ⟨q, 0, none⟩ = some (.slice A ns.length c)) := hide (hcx)
      refine wp_region_U (fun b v => b = false → v.cell? ⟨q, 0, none⟩ = some (.slice A ns.length c)) 7 (by kernel_rfl) ?_
      refine wpAnyU_take (i := 0) (oi := { dst := some 8, op := _, type := _, pos := _, after := _, guard := none }) (v := .pointer (some ⟨q, 0, none⟩)) rfl (by kernel_rfl) (by kernel_rfl) (by kernel_rfl) (by kernel_rfl) (fun _ _ _ h => h) (yields_take rfl (fun w' hw => by have h1 := hw.no (by kernel_rfl) rfl; go_simp)) (fun _ => hS0.out) ?_
      simp only [Act.put, List.setIfInBounds_toArray, List.set_cons_zero, List.set_cons_succ]
      refine wpAnyU_take (i := 1) (oi := { dst := some 9, op := _, type := _, pos := _, after := _, guard := none }) (v := .slice A ns.length c) rfl (by kernel_rfl) (by kernel_rfl) (by kernel_rfl) (by kernel_rfl) (fun _ _ _ h => h) (yields_take rfl (fun w' hw => by have h1 := hw.no (by kernel_rfl) rfl; go_simp)) (fun _ => hS0.out) ?_
      simp only [Act.put, List.setIfInBounds_toArray, List.set_cons_zero, List.set_cons_succ]
      refine wpAnyU_take (i := 2) (oi := { dst := some 10, op := _, type := _, pos := _, after := _, guard := none }) (v := .pointer (some ⟨r, 0, none⟩)) rfl (by kernel_rfl) (by kernel_rfl) (by kernel_rfl) (by kernel_rfl) (fun _ _ _ h => h) (yields_take rfl (fun w' hw => by have h1 := hw.no (by kernel_rfl) rfl; go_simp)) (fun _ => hS0.out) ?_
      simp only [Act.put, List.setIfInBounds_toArray, List.set_cons_zero, List.set_cons_succ]
      refine wpAnyU_one (i := 3) (by kernel_rfl) rfl ?_
      intro K hK
      go_simp
      refine Calls.mono (c1) ?_
      rintro e w' ⟨x, htn, rfl, hown, hbnd, hsc, hbu⟩
      (try dsimp only)
      have HP2 := hide (HP1.out.but hbu hsc)
      unfold Nd.v
      (try dsimp only)
      have hS1 : Hid (w'.cell? ⟨q, 0, none⟩ = some (.slice A ns.length c)) := hide ((by have := cell_of_row _ _ 0 _ _ (0, 0) HP2.out.bx; simpa using this))
      refine hK.out _ _ (fun _ => hS1.out) (fun _ => ?_)
      clear hK K hS0
      have hbal : Below w'.heap.size w' (w'.alloc (.cells #[.int .u8 x.kd, .slice x.I x.ni x.ci, .slice x.S x.ns x.cs, .int .i64 x.N, .int .i64 x.P] 44)) := (Below.refl _ _).alloc (Nat.le_refl _) _
      have HP3 := hide (HP2.out.below hbal)
      refine wpAnyU_one (i := 4) (by kernel_rfl) rfl ?_
      intro K hK
      go_simp
      have hSa : Hid ((w'.alloc (.cells #[.int .u8 x.kd, .slice x.I x.ni x.ci, .slice x.S x.ns x.cs, .int .i64 x.N, .int .i64 x.P] 44)).cell? ⟨q, 0, none⟩ = some (.slice A ns.length c)) := hide (by have := cell_of_row _ _ 0 _ _ (0, 0) HP3.out.bx; simpa using this)
      refine hK.out _ _ (fun _ => hSa.out) (fun _ => ?_)
      clear hK K
      refine wpAnyU_one (i := 5) (by kernel_rfl) rfl ?_
      intro K hK
      refine step_append_srcN rfl _ _ 22 rfl 44 iN _ 5 72 Tryz.underlying22 HIN.out HZ0.out HZ1.out HZ2.out rfl (by decide) B (.slice A ns.length c) ns.length (cellsN ns) rfl HP3.out.ro HP3.out.big (some ⟨w'.heap.size, 0, none⟩) 1 1 x.five rfl rfl (fun _ => ⟨_, rfl, five_new w' x⟩) (fun h => by cases h) (fun u hu => by simp only [Nd.five, List.mem_cons, List.not_mem_nil, or_false] at hu; rcases hu with rfl | rfl | rfl | rfl | rfl <;> rfl) (by omega) (by unfold maxLen; omega) ?_
      intro A4 c4 w4 ho4 hg4 _
      have ho5 : w4.ownsRow B 44 5 (.slice A4 (ns.length + 1) c4) (ns.length + 1) (cellsN (ns ++ [x])) := by
        rw [cellsN_append]
        have e : cellsN [x] = x.five := by simp [cellsN]
        rw [e]
        exact ho4
      have hown3 : OwnN (w'.alloc (.cells #[.int .u8 x.kd, .slice x.I x.ni x.ci, .slice x.S x.ns x.cs, .int .i64 x.N, .int .i64 x.P] 44)) wr.heap.size x := hown.below hbal
      have HP4 := hide (HP3.out.push hown3 hbnd (fun j z g hj hg => ((HP.out.ow j z hj).1.lt hg).2) HP.out.big ho5 hg4)
      have hbel7 : Below B (w'.alloc (.cells #[.int .u8 x.kd, .slice x.I x.ni x.ci, .slice x.S x.ns x.cs, .int .i64 x.N, .int .i64 x.P] 44)) w4 := (Below.refl B _).grown hg4 HP3.out.big (fun g e => (HP3.out.ro.lt g e).1)
      have hbx4 := (hbel7.block q HP3.out.lb).trans HP3.out.bx
      have hSb : Hid (w4.cell? ⟨q, 0, none⟩ = some (.slice A ns.length c)) := hide (by have := cell_of_row _ _ 0 _ _ (0, 0) hbx4; simpa using this)
      have hfz := frozen_of_row _ _ 0 _ _ hbx4
      refine hK.out _ _ (fun _ => hSb.out) (fun _ => ?_)
      clear hK K hSa ho4 ho5 hg4 hbel7 hbx4 hown3
      refine wpAnyU_take (i := 6) (oi := { dst := some 14, op := _, type := _, pos := _, after := _, guard := none }) (v := .pointer (some ⟨q, 0, none⟩)) rfl (by kernel_rfl) (by kernel_rfl) (by kernel_rfl) (by kernel_rfl) (fun _ _ _ h => h) (yields_take rfl (fun w' hw => by have h1 := hw.no (by kernel_rfl) rfl; go_simp)) (fun _ => hSb.out) ?_
      simp only [Act.put, List.setIfInBounds_toArray, List.set_cons_zero, List.set_cons_succ]
      have hce := hSb.out
      refine wpAnyU_one (i := 7) (by kernel_rfl) rfl ?_
      intro K hK
      go_simp
      refine hK _ _ (fun h => by cases h) (fun _ => ?_)
      clear hK K
      refine wpAnyU_done (by kernel_rfl) ?_ _
      clear hSb
      go_wp2
      go_roundw
      case rel => exact ⟨k + 1, ns ++ [x], A4, c4, by omega, by go_num, hide (by rw [List.length_append, HLN.out]; rfl), hide (by rw [HSN.out, List.map_append, HTN.out, List.map_cons, htn]; rfl), hide (by have e := HSN.out; rw [e]; exact HP4.out)⟩
      case measure => simp [intOf]; omega
    · obtain rfl : k = n := by omega
      have hg0 := HG0.out _ _ _ _ _ HP.out
      have hcx := cell_of_row _ _ 0 _ _ (0, 0) HP.out.bx
      simp only [List.getElem?_toArray, List.getElem?_cons_zero] at hcx
      have hc0 := cell_of_row _ _ 0 _ _ (0, 0) hg0
      simp only [List.getElem?_toArray, List.getElem?_cons_zero] at hc0
      have hf0 := frozen_of_row _ _ 0 _ _ hg0
      have HG := hide hg0
      clear hg0
      go_wp2
      have hs5 := heap_setCell_same _ w.heap.size 0 _ _ (.slice A ns.length c) HG.out
      have d0 := cell_of_row _ _ 0 _ _ (0, 0) hs5
      simp only [List.setIfInBounds_toArray, List.set_cons_zero, List.getElem?_toArray, List.getElem?_cons_zero] at d0
      have hbel := below_set1 w.heap.size wr 0 (.slice A ns.length c)
      have hwq : w.heap.size < B := by have := HP.out.lb; omega
      have hro := own_set HP.out.ro hwq 0 (.slice A ns.length c)
      have how : ∀ (j : Nat) (x : Nd), ns[j]? = some x → OwnN (wr.setCell ⟨w.heap.size, 0, none⟩ (.slice A ns.length c)) B x ∧ Bnd x := fun j x hj => ⟨⟨own_set (HP.out.ow j x hj).1.1 hwq _ _, own_set (HP.out.ow j x hj).1.2.1 hwq _ _, (HP.out.ow j x hj).1.2.2⟩, (HP.out.ow j x hj).2⟩
      have hns : NsIn (wr.setCell ⟨w.heap.size, 0, none⟩ (.slice A ns.length c)) A ns.length ns := by
        refine ⟨rfl, fun hn => ?_⟩
        obtain ⟨g, hA, _, hlt2, hcs⟩ := ownN_cells hro hn
        refine ⟨g, 0, hA, hlt2, fun j x hj => ?_⟩
        obtain ⟨a0, a1, a2, a3, a4⟩ := cellsN_at ns j x hj
        simp only [Nat.zero_add]
        exact ⟨hcs _ _ a0, hcs _ _ a1, hcs _ _ a2, hcs _ _ a3, hcs _ _ a4, (how j x hj).1.ok (how j x hj).2⟩
      refine ⟨rfl, .agg #[.slice A ns.length c], ?_, ns, A, c, HTN.out, rfl, hns, ownG_base hro hB2w, fun j x hj => ⟨(how j x hj).1.base hB2w, (how j x hj).2⟩, HP.out.od, HP.out.sc.up (hbel.mono hrl), (HOUT.out _ _ _ _ _ HP.out).on hbel⟩
      have hres : Tryz.f34.results = #[.cell 2 24] := rfl
      simp [results, hres, go_sem, d0]

end

section
open Go.RowKit

theorem step_even {r : Nat} (h : r % 2 = 0) : step r = r / 2 := by unfold step; rw [if_neg (by omega)]

theorem step_odd {r : Nat} (h : r % 2 = 1) : step r = (r / 2) ^^^ 3988292384 := by unfold step; rw [if_pos h]

theorem and_one {x : Nat} (h : x < 4294967296) : bits .and .u32 (x : Int) 1 = ((x % 2 : Nat) : Int) := by
  rw [show (1 : Int) = ((1 : Nat) : Int) from rfl, u32_and_nat x 1 h (by omega), nat_mask1]

theorem and_fifteen {x : Nat} (h : x < 4294967296) : bits .and .u32 (x : Int) 15 = ((x % 16 : Nat) : Int) := by
  rw [show (15 : Int) = ((15 : Nat) : Int) from rfl, u32_and_nat x 15 h (by omega), nat_mask4]

theorem xor_half {x : Nat} (h : x < 4294967296) : bits .xor .u32 ((x : Int) / 2) 3988292384 = ((x / 2 ^^^ 3988292384 : Nat) : Int) := by
  have := u32_xor_nat (x / 2) 3988292384 (by omega) (by omega)
  simpa using this

set_option maxHeartbeats 400000 in
theorem shift_any (r : Nat) (h1 : r < 4294967296) (w : World) : Calls Tryz.prog 118 #[.int .u32 (r : Int)] w fun e w' => e = .returned (.int .u32 ((steps 4 r : Nat) : Int)) ∧ w = w' := by
  go_enter Tryz.func118, Tryz.ntmps118
  go_wp2
  go_loop [0, 4] (fun v i => ∃ k : Nat, k ≤ 4 ∧ i = .int .i64 k ∧ v = .int .u32 ((steps k r : Nat) : Int)) (fun _ i => 4 - (intOf i).toNat)
  case atStart => exact ⟨0, Nat.zero_le _, rfl, rfl⟩
  case round =>
    obtain ⟨k, hk, rfl, rfl⟩ := hrel
    have hlt4 := steps_lt k h1
    obtain ⟨x, hx⟩ : ∃ x, x = steps k r := ⟨_, rfl⟩
    have hsn := steps_succ k r
    rw [← hx] at hlt4 hsn ⊢
    have HSN := hide hsn
    have HX := hide hx
    clear hx hsn
    by_cases hlt : k < 4
    · rcases Nat.mod_two_eq_zero_or_one x with hm | hm
      · have hand : bits .and .u32 (x : Int) 1 = 0 := by rw [and_one hlt4, hm]; rfl
        have HE := hide (step_even hm)
        clear hm
        go_wp2
        go_round
        case rel => exact ⟨k + 1, by omega, by go_num, by rw [HSN.out, HE.out]; simp⟩
        case measure => simp [intOf]; omega
      · have hand : bits .and .u32 (x : Int) 1 = 1 := by rw [and_one hlt4, hm]; rfl
        have HE := hide (step_odd hm)
        have HXO := hide (xor_half hlt4)
        clear hm
        go_wp2
        go_round
        case rel => exact ⟨k + 1, by omega, by go_num, by rw [HSN.out, HE.out, HXO.out]⟩
        case measure => simp [intOf]; omega
    · obtain rfl : k = 4 := by omega
      go_wp2
      go_ret
      exact ⟨by rw [HX.out]; rfl, rfl⟩

/-- The table, its first k words filled. -/
def tabL (k : Nat) : List Value := (List.range 16).map fun j => .int .u32 (((if j < k then steps 4 j else 0) : Nat) : Int)

def tabA (k : Nat) : Array Value := (tabL k).toArray

theorem tab_size (k : Nat) : (tabA k).size = 16 := by simp [tabA, tabL]

theorem tab_at (k j : Nat) (h : j < 16) : (tabA k)[j]? = some (.int .u32 (((if j < k then steps 4 j else 0) : Nat) : Int)) := by simp [tabA, tabL, h]

theorem tab_set (k : Nat) (_h : k < 16) : (tabA k).setIfInBounds k (.int .u32 ((steps 4 k : Nat) : Int)) = tabA (k + 1) := by
  apply Array.ext_getElem?
  intro j
  rw [Array.getElem?_setIfInBounds]
  by_cases hj : j < 16
  · rw [tab_at (k + 1) j hj]
    by_cases e : k = j
    · subst e
      rw [if_pos rfl, if_pos (by rw [tab_size]; exact hj), if_pos (by omega)]
    · rw [if_neg e, tab_at k j hj]
      by_cases hjk : j < k
      · rw [if_pos hjk, if_pos (by omega)]
      · rw [if_neg hjk, if_neg (by omega)]
  · have h1 : (tabA (k + 1))[j]? = none := by rw [Array.getElem?_eq_none_iff, tab_size]; omega
    have h2 : (tabA k)[j]? = none := by rw [Array.getElem?_eq_none_iff, tab_size]; omega
    rw [if_neg (by omega), h1, h2]

theorem tab_zero : tabA 0 = #[.int .u32 0, .int .u32 0, .int .u32 0, .int .u32 0, .int .u32 0, .int .u32 0, .int .u32 0, .int .u32 0, .int .u32 0, .int .u32 0, .int .u32 0, .int .u32 0, .int .u32 0, .int .u32 0, .int .u32 0, .int .u32 0] := by rfl

/-- The whole table, written out. -/
def tabF : Array Value := #[.int .u32 0, .int .u32 498536548, .int .u32 997073096, .int .u32 651767980, .int .u32 1994146192, .int .u32 1802195444, .int .u32 1303535960, .int .u32 1342533948, .int .u32 3988292384, .int .u32 4027552580, .int .u32 3604390888, .int .u32 3412177804, .int .u32 2607071920, .int .u32 2262029012, .int .u32 2685067896, .int .u32 3183342108]

theorem tab_full : tabA 16 = #[.int .u32 0, .int .u32 498536548, .int .u32 997073096, .int .u32 651767980, .int .u32 1994146192, .int .u32 1802195444, .int .u32 1303535960, .int .u32 1342533948, .int .u32 3988292384, .int .u32 4027552580, .int .u32 3604390888, .int .u32 3412177804, .int .u32 2607071920, .int .u32 2262029012, .int .u32 2685067896, .int .u32 3183342108] := by rfl

theorem tab_word (j : Nat) (h : j < 16) : tabF[j]? = some (.int .u32 ((steps 4 j : Nat) : Int)) := by
  have := tab_at 16 j h
  rw [if_pos h, tab_full] at this
  exact this

set_option maxRecDepth 100000 in
set_option maxHeartbeats 2000000 in
theorem table_any (w : World) : Calls Tryz.prog 83 #[] w fun e w' => e = .returned (.agg tabF) ∧ Below w.heap.size w w' := by
  go_enter Tryz.func83, Tryz.ntmps83
  go_wp2
  go_loopw [3] (fun i wr => ∃ k : Nat, k ≤ 16 ∧ i = .int .i64 k ∧ wr = (w.alloc (.cells (tabA 0) 151)).alloc (.cells (tabA k) 151)) (fun i _ => 16 - (intOf i).toNat)
  case atStart => exact ⟨0, by omega, rfl, by rw [tab_zero]⟩
  case round =>
    obtain ⟨k, hk, rfl, rfl⟩ := hrel
    by_cases hlt : k < 16
    · have hsz := tab_size k
      have HT := hide (tab_set k hlt)
      have hat := tab_at k k hlt
      rw [if_neg (by omega)] at hat
      go_wp2_with fail
      have h0 : (0 : Int) ≤ (k : Int) := by omega
      have h3 : (k : Int) < 16 := by omega
      refine Calls.mono (shift_any k (by omega) _) ?_
      rintro e w4 ⟨rfl, rfl⟩
      go_wp2
      go_roundw
      case rel => exact ⟨k + 1, by omega, by go_num, by rw [HT.out]⟩
      case measure => simp [intOf]; omega
    · obtain rfl : k = 16 := by omega
      rw [tab_zero, tab_full]
      go_wp2
      exact bodyPost_ret (v := .agg tabF) (by simp [results, Tryz.results83, go_sem, tabF]) rfl ⟨rfl, ((Below.refl _ _).alloc (Nat.le_refl _) _).alloc (by simp) _⟩

end

section
open Go.RowKit

theorem xor_byte {x : Nat} {z : Int} (h : x < 4294967296) (h0 : 0 ≤ z) (h1 : z < 256) : bits .xor .u32 (x : Int) z = ((x ^^^ z.toNat : Nat) : Int) := by
  have := u32_xor_nat x z.toNat h (by omega)
  rwa [Int.toNat_of_nonneg h0] at this

theorem xor_word {x t : Nat} (h : x < 4294967296) (ht : t < 4294967296) : bits .xor .u32 ((x : Int) / 16) (t : Int) = ((x / 16 ^^^ t : Nat) : Int) := by
  have := u32_xor_nat (x / 16) t (by omega) ht
  simpa using this

theorem xor_max {x : Nat} (h : x < 4294967296) : bits .xor .u32 IntKind.u32.max (x : Int) = ((inv x : Nat) : Int) := by
  have := u32_xor_nat 4294967295 x (by omega) h
  rw [Nat.xor_comm] at this
  exact this

theorem table_cells (w1 : World) (t : TypeId) (j : Nat) (h : j < 16) : (w1.alloc (.cells tabF t)).cell? ⟨w1.heap.size, j, none⟩ = some (.int .u32 ((steps 4 j : Nat) : Int)) := by
  rw [cell_of_row _ _ j tabF t (0, 0) (heap_alloc_new w1 _), tab_word j h]

set_option maxRecDepth 100000 in
set_option maxHeartbeats 2000000 in
theorem on_any (s : Nat) (A : Option Addr) (n c : Nat) (zs : List Int) (w : World) (hs : s < 4294967296) (h : Lies w A n (zs.map (Value.int .u8))) (hz : ByteL zs) (hn : n ≤ 281474976710656) :
    Calls Tryz.prog 55 #[.int .u32 (s : Int), .slice A n c] w fun e w' => e = .returned (.int .u32 ((sumOn s zs : Nat) : Int)) ∧ Below w.heap.size w w' := by
  have HL := hide h
  have HZ := hide hz
  have HLEN : Hid (zs.length = n) := hide (by have := h.len; simpa using this)
  have hmax := xor_max hs
  have hinv := inv_lt hs
  clear h hz
  go_enter Tryz.func55, Tryz.ntmps55
  go_wp2_with fail
  refine Calls.mono (table_any _) ?_
  rintro e w1 ⟨rfl, hb1⟩
  have HB1 := hide hb1
  clear hb1
  unfold tabF
  go_wp2
  clear hmax
  refine (show Code.wp Tryz.prog _ _ _ (w1.alloc (.cells tabF 151)) from ?_)
  have HTC := hide (table_cells w1 151)
  have HL2 := hide ((HL.out.below HB1.out).alloc (.cells tabF 151))
  have HB2 := hide (HB1.out.alloc HB1.out.size (.cells tabF 151))
  generalize w1.alloc (.cells tabF 151) = w2 at HTC HL2 HB2 ⊢
  clear HL HB1
  go_loop [6, 14] (fun v i => ∃ k : Nat, k ≤ n ∧ i = .int .i64 k ∧ v = .int .u32 ((reg (inv s) (zs.take k) : Nat) : Int)) (fun _ i => n - (intOf i).toNat)
  case atStart => exact ⟨0, Nat.zero_le _, rfl, rfl⟩
  case round =>
    obtain ⟨k, hk, rfl, rfl⟩ := hrel
    have hx0lt : reg (inv s) (zs.take k) < 4294967296 := reg_lt hinv (fun z hz => HZ.out z (List.mem_of_mem_take hz))
    obtain ⟨x0, hx0⟩ : ∃ x, x = reg (inv s) (zs.take k) := ⟨_, rfl⟩
    rw [← hx0] at hx0lt ⊢
    have HX0 := hide hx0
    clear hx0
    by_cases hlt : k < n
    · obtain ⟨b, o, rfl, _, hx⟩ := byte_at HL2.out (by omega)
      obtain ⟨z, hz⟩ : ∃ z, z = zs.getD k 0 := ⟨_, rfl⟩
      have hc : w2.cell? ⟨b, o + k, none⟩ = some (.int .u8 z) := by rw [hz]; exact hx k hlt
      have hzb := bytes_getD (bs := zs) HZ.out k
      rw [← hz] at hzb
      obtain ⟨hz0, hz1⟩ := hzb
      have HZZ := hide hz
      clear hx hz
      have h1 := xor_byte hx0lt hz0 hz1
      have l1 : x0 ^^^ z.toNat < 4294967296 := xor_lt hx0lt (by omega)
      obtain ⟨x1, e1⟩ : ∃ x, x = x0 ^^^ z.toNat := ⟨_, rfl⟩
      rw [← e1] at h1 l1
      have h2 := and_fifteen l1
      have h3 := HTC.out (x1 % 16) (by omega)
      have l3 := steps_lt 4 (r := x1 % 16) (by omega)
      have h4 := xor_word l1 l3
      have l4 : x1 / 16 ^^^ steps 4 (x1 % 16) < 4294967296 := xor_lt (by omega) l3
      have e8 := steps_eight x1
      have hy1 : (x1 % 16) < 16 := by omega
      obtain ⟨y1, ey1⟩ : ∃ y, y = x1 % 16 := ⟨_, rfl⟩
      rw [← ey1] at h2 h3 h4 l3 l4 e8 hy1
      obtain ⟨t1, et1⟩ : ∃ t, t = steps 4 y1 := ⟨_, rfl⟩
      rw [← et1] at h3 h4 l3 l4 e8
      obtain ⟨x2, e2⟩ : ∃ x, x = x1 / 16 ^^^ t1 := ⟨_, rfl⟩
      rw [← e2] at h4 l4 e8
      have h5 := and_fifteen l4
      have h6 := HTC.out (x2 % 16) (by omega)
      have l6 := steps_lt 4 (r := x2 % 16) (by omega)
      have h7 := xor_word l4 l6
      have hy2 : (x2 % 16) < 16 := by omega
      obtain ⟨y2, ey2⟩ : ∃ y, y = x2 % 16 := ⟨_, rfl⟩
      rw [← ey2] at h5 h6 h7 l6 e8 hy2
      obtain ⟨t2, et2⟩ : ∃ t, t = steps 4 y2 := ⟨_, rfl⟩
      rw [← et2] at h6 h7 l6 e8
      obtain ⟨x3, e3⟩ : ∃ x, x = x2 / 16 ^^^ t2 := ⟨_, rfl⟩
      rw [← e3] at h7 e8
      have HEND : Hid (reg (inv s) (zs.take (k + 1)) = x3) := hide (by rw [reg_snoc _ _ _ (by rw [HLEN.out]; exact hlt), ← HX0.out, ← HZZ.out, e8, e1]; rfl)
      have hy1' : (y1 : Int) < 16 := by omega
      have hy2' : (y2 : Int) < 16 := by omega
      have hy10 : 0 ≤ (y1 : Int) := by omega
      have hy20 : 0 ≤ (y2 : Int) := by omega
      clear e1 e2 e3 ey1 ey2 et1 et2 e8 HZZ HX0
      go_wp2
      go_round
      case rel => exact ⟨k + 1, by omega, by go_num, by rw [HEND.out]⟩
      case measure => simp [intOf]; omega
    · obtain rfl : k = n := by omega
      have hm := xor_max hx0lt
      go_wp2
      go_ret
      refine ⟨?_, HB2.out⟩
      have hall : zs.take k = zs := List.take_of_length_le (by rw [HLEN.out]; exact Nat.le_refl _)
      have hx := HX0.out
      rw [hall] at hx
      unfold sumOn
      rw [← hx]
      rfl

theorem of_any (A : Option Addr) (n c : Nat) (zs : List Int) (w : World) (h : Lies w A n (zs.map (Value.int .u8))) (hz : ByteL zs) (hn : n ≤ 281474976710656) :
    Calls Tryz.prog 30 #[.slice A n c] w fun e w' => e = .returned (.int .u32 ((sumOf zs : Nat) : Int)) ∧ Below w.heap.size w w' := by
  have HC : Hid _ := on_any 0 A n c zs w (by omega) h hz hn
  clear h hz
  go_enter Tryz.func30, Tryz.ntmps30
  go_wp2_with fail
  refine Calls.mono HC.out ?_
  rintro e w' ⟨rfl, hb⟩
  have HB := hide hb
  clear hb
  go_wp2
  go_ret
  exact ⟨rfl, HB.out⟩

end

end Go.Proofs.YtohndckbhjakfaaGreatDoor

