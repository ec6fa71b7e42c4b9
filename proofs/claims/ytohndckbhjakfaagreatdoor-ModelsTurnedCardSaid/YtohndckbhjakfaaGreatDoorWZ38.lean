/- Merged: Pb4, Pb5, Pb6. -/
import Derived.Test.YtohndckbhjakfaaGreatDoorWZ37
import Derived.Test.YtohndckbhjakfaaGreatDoorWZ36
import Derived.Test.YtohndckbhjakfaaGreatDoorWZ09
import Derived.Test.YtohndckbhjakfaaGreatDoorWZ01
import Derived.Test.YtohndckbhjakfaaGreatDoorWZ34
import Derived.Test.YtohndckbhjakfaaGreatDoorWZ32
namespace Go.Proofs.YtohndckbhjakfaaGreatDoor

section
open Go.RowKit
set_option linter.unusedVariables false
set_option linter.unusedSimpArgs false
set_option maxRecDepth 100000

/-- A node that is read. -/
structure NdSc (B r q : Nat) (w3 w : World) (x : Nd) (ws : Sc) : Prop where
  big : B ≤ w.heap.size
  lr : r < B
  lq : q < B
  ne : r < q
  box : BoxN w q x
  oi : w.ownsRow B 3 1 (.slice x.I x.ni x.ci) x.ni (x.xs.map (Value.int .i64))
  os : w.ownsRow B 3 1 (.slice x.S x.ns x.cs) x.ns (x.sh.map (Value.int .i64))
  dj : ∀ g, (Value.slice x.I x.ni x.ci).ownBlock = some g → (Value.slice x.S x.ns x.cs).ownBlock ≠ some g
  rd : ScAt w r ws
  kp : Kp2 B r q w3 w
  kd : 0 ≤ x.kd ∧ x.kd < 256
  nb : -9223372036854775808 ≤ x.N ∧ x.N < 9223372036854775808
  pb : -9223372036854775808 ≤ x.P ∧ x.P < 9223372036854775808
  nl : x.ni ≤ 2000000
  sl : x.ns ≤ 1000000

theorem NdSc.but {B r q : Nat} {w3 w w' : World} {x : Nd} {ws t : Sc} (h : NdSc B r q w3 w x ws) (hb : But r w w') (hr : ScAt w' r t) : NdSc B r q w3 w' x t :=
  ⟨Nat.le_trans h.big hb.size, h.lr, h.lq, h.ne, (hb.block q (Nat.lt_of_lt_of_le h.lq h.big) (by have := h.ne; omega)).trans h.box, own_but h.oi hb h.lr, own_but h.os hb h.lr, h.dj, hr, h.kp.but hb h.big, h.kd, h.nb, h.pb, h.nl, h.sl⟩

theorem NdSc.setN {B r q : Nat} {w3 w : World} {x : Nd} {ws : Sc} (h : NdSc B r q w3 w x ws) (n : Int) (hn : -9223372036854775808 ≤ n ∧ n < 9223372036854775808) : NdSc B r q w3 (w.setCell ⟨q, 3, none⟩ (.int .i64 n)) { x with N := n } ws :=
  ⟨by rw [set_size]; exact h.big, h.lr, h.lq, h.ne, by have := heap_setCell_same w q 3 _ _ (.int .i64 n) h.box; simpa [BoxN] using this, own_set h.oi h.lq _ _, own_set h.os h.lq _ _, h.dj, h.rd.set h.ne _ _, h.kp.set _ _, h.kd, hn, h.pb, h.nl, h.sl⟩

theorem NdSc.setP {B r q : Nat} {w3 w : World} {x : Nd} {ws : Sc} (h : NdSc B r q w3 w x ws) (n : Int) (hn : -9223372036854775808 ≤ n ∧ n < 9223372036854775808) : NdSc B r q w3 (w.setCell ⟨q, 4, none⟩ (.int .i64 n)) { x with P := n } ws :=
  ⟨by rw [set_size]; exact h.big, h.lr, h.lq, h.ne, by have := heap_setCell_same w q 4 _ _ (.int .i64 n) h.box; simpa [BoxN] using this, own_set h.oi h.lq _ _, own_set h.os h.lq _ _, h.dj, h.rd.set h.ne _ _, h.kp.set _ _, h.kd, h.nb, hn, h.nl, h.sl⟩

/-- A list of numbers that was read becomes its inputs, or its shape. -/
theorem NdSc.setI {B r q : Nat} {w3 w w' : World} {x : Nd} {ws t : Sc} {A : Option Addr} {k c : Nat} {l : List Int} (h : NdSc B r q w3 w x ws) (hb : But r w w') (hr : ScAt w' r t) (ho : w'.ownsRow w.heap.size 3 1 (.slice A k c) k (l.map (Value.int .i64))) (hk : k ≤ 1000000) :
    NdSc B r q w3 (w'.setCell ⟨q, 1, none⟩ (.slice A k c)) { x with I := A, ni := k, ci := c, xs := l } t := by
  have h' := h.but hb hr
  refine ⟨by rw [set_size]; exact h'.big, h'.lr, h'.lq, h'.ne, by have := heap_setCell_same w' q 1 _ _ (.slice A k c) h'.box; simpa [BoxN] using this, own_set (own_base ho h.big) h'.lq _ _, own_set h'.os h'.lq _ _, ?_, h'.rd.set h'.ne _ _, h'.kp.set _ _, h'.kd, h'.nb, h'.pb, by simp only; omega, h'.sl⟩
  intro g hg hg2
  have := (ho.lt g hg).1
  have := own_blk_lt h.os hg2
  omega

theorem NdSc.setS {B r q : Nat} {w3 w w' : World} {x : Nd} {ws t : Sc} {A : Option Addr} {k c : Nat} {l : List Int} (h : NdSc B r q w3 w x ws) (hb : But r w w') (hr : ScAt w' r t) (ho : w'.ownsRow w.heap.size 3 1 (.slice A k c) k (l.map (Value.int .i64))) (hk : k ≤ 1000000) :
    NdSc B r q w3 (w'.setCell ⟨q, 2, none⟩ (.slice A k c)) { x with S := A, ns := k, cs := c, sh := l } t := by
  have h' := h.but hb hr
  refine ⟨by rw [set_size]; exact h'.big, h'.lr, h'.lq, h'.ne, by have := heap_setCell_same w' q 2 _ _ (.slice A k c) h'.box; simpa [BoxN] using this, own_set h'.oi h'.lq _ _, own_set (own_base ho h.big) h'.lq _ _, ?_, h'.rd.set h'.ne _ _, h'.kp.set _ _, h'.kd, h'.nb, h'.pb, h'.nl, hk⟩
  intro g hg hg2
  have := (ho.lt g hg2).1
  have := own_blk_lt h.oi hg
  omega

/-- A new block beside it. -/
theorem NdSc.below {B r q : Nat} {w3 w w' : World} {x : Nd} {ws : Sc} (h : NdSc B r q w3 w x ws) (hb : Below w.heap.size w w') : NdSc B r q w3 w' x ws :=
  h.but (Below.but hb) (h.rd.below hb)

theorem NdSc.setK {B r q : Nat} {w3 w : World} {x : Nd} {ws : Sc} (h : NdSc B r q w3 w x ws) (n : Int) (hn : 0 ≤ n ∧ n < 256) : NdSc B r q w3 (w.setCell ⟨q, 0, none⟩ (.int .u8 n)) { x with kd := n } ws :=
  ⟨by rw [set_size]; exact h.big, h.lr, h.lq, h.ne, by have := heap_setCell_same w q 0 _ _ (.int .u8 n) h.box; simpa [BoxN] using this, own_set h.oi h.lq _ _, own_set h.os h.lq _ _, h.dj, h.rd.set h.ne _ _, h.kp.set _ _, hn, h.nb, h.pb, h.nl, h.sl⟩

theorem tkList_small {s : Sc} (h : ByteL s.1) : (tkList s).1.length ≤ 1000000 := by
  rw [tkList, tkNums_len]
  have := (tk_byte h).1
  omega

theorem five_set {w : World} {b0 : Nat} {x y : Nd} (h0 : BoxN w b0 y) : BoxN (((((w.setCell ⟨b0, 0, none⟩ (.int .u8 x.kd)).setCell ⟨b0, 1, none⟩ (.slice x.I x.ni x.ci)).setCell ⟨b0, 2, none⟩ (.slice x.S x.ns x.cs)).setCell ⟨b0, 3, none⟩ (.int .i64 x.N)).setCell ⟨b0, 4, none⟩ (.int .i64 x.P)) b0 x := by
  have e0 := heap_setCell_same w b0 0 _ _ (.int .u8 x.kd) h0
  have e1 := heap_setCell_same _ b0 1 _ _ (.slice x.I x.ni x.ci) e0
  have e2 := heap_setCell_same _ b0 2 _ _ (.slice x.S x.ns x.cs) e1
  have e3 := heap_setCell_same _ b0 3 _ _ (.int .i64 x.N) e2
  have e4 := heap_setCell_same _ b0 4 _ _ (.int .i64 x.P) e3
  simpa [BoxN] using e4

set_option maxHeartbeats 8000000 in
theorem snode_any (r : Nat) (s : Sc) (w : World) (h : ScAt w r s) : Calls Tryz.prog 65 #[.pointer (some ⟨r, 0, none⟩)] w fun e w' => ∃ x : Nd, x.tn = (tkNode s).1 ∧ e = .returned x.v ∧ OwnN w' w.heap.size x ∧ Bnd x ∧ ScAt w' r (tkNode s).2 ∧ But r w w' := by
  have hrl := h.lt
  obtain ⟨q, hq⟩ : ∃ q, q = w.heap.size + 1 := ⟨_, rfl⟩
  obtain ⟨W2, hW2⟩ : ∃ W, W = (w.alloc (.cells #[.int .u8 0, .slice none 0 0, .slice none 0 0, .int .i64 0, .int .i64 0] 44)).alloc (.cells #[.int .u8 0, .slice none 0 0, .slice none 0 0, .int .i64 0, .int .i64 0] 44) := ⟨_, rfl⟩
  have hB2 : Below w.heap.size w W2 := by rw [hW2]; exact ((Below.refl _ _).alloc (Nat.le_refl _) _).alloc (by simp) _
  have hs2 : W2.heap.size = q + 1 := by rw [hW2]; simp [hq]
  have hg1 : BoxN W2 q nd0 := by
    rw [hW2, hq]
    have := heap_alloc_new (w.alloc (.cells #[.int .u8 0, .slice none 0 0, .slice none 0 0, .int .i64 0, .int .i64 0] 44)) (.cells #[.int .u8 0, .slice none 0 0, .slice none 0 0, .int .i64 0, .int .i64 0] 44)
    simpa [BoxN, nd0] using this
  have hg0 : BoxN W2 w.heap.size nd0 := by
    rw [hW2]
    exact (Below.heap_alloc _ _ _ (by simp)).trans (heap_alloc_new w _)
  obtain ⟨B, hB⟩ : ∃ B, B = q + 1 := ⟨_, rfl⟩
  have HI0 : Hid (NdSc B r q W2 W2 nd0 s) := hide (by
    refine ⟨by omega, by omega, by omega, by omega, hg1, World.ownsRow_nil _ _ _ _, World.ownsRow_nil _ _ _ _, fun g hg => by simp [nd0, Value.ownBlock] at hg, h.below hB2, Kp2.refl _ _ _ _, ?_, ?_, ?_, ?_, ?_⟩
    all_goals (simp only [nd0]; omega))
  have HOUT : Hid (∀ (wr : World) (x : Nd) (t : Sc), NdSc B r q W2 wr x t → But r w wr) := hide (fun wr x t hh => by
    have hsz := hB2.size
    exact ⟨hh.kp.os.trans hB2.os, hh.kp.tape.trans hB2.tape, hh.kp.output.trans hB2.output, Nat.le_trans hB2.size hh.kp.size, fun k hk hn => (hh.kp.block k (by omega) hn (by omega)).trans (hB2.block k hk)⟩)
  have HG0 : Hid (∀ (wr : World) (x : Nd) (t : Sc), NdSc B r q W2 wr x t → BoxN wr w.heap.size nd0) := hide (fun wr x t hh => (hh.kp.block _ (by omega) (by omega) (by omega)).trans hg0)
  obtain ⟨a, ha⟩ : ∃ a, a = tk s := ⟨_, rfl⟩
  obtain ⟨b, hb⟩ : ∃ b, b = tkList a.2 := ⟨_, rfl⟩
  obtain ⟨c, hc⟩ : ∃ c, c = tkList b.2 := ⟨_, rfl⟩
  obtain ⟨d, hd⟩ : ∃ d, d = tk c.2 := ⟨_, rfl⟩
  obtain ⟨f, hf⟩ : ∃ f, f = tk d.2 := ⟨_, rfl⟩
  have ht : tkNode s = (⟨a.1.toNat, b.1, c.1, d.1, f.1⟩, f.2) := by rw [tkNode, hf, hd, hc, hb, ha]
  rw [ht]
  have hby := h.byte
  have hab := tk_byte hby
  rw [← ha] at hab
  have HA := hide ha
  have HBq := hide hb
  have HCq := hide hc
  have HD := hide hd
  have HF := hide hf
  have hbd : ∀ u : Sc, ByteL u.1 → -9223372036854775808 ≤ (tk u).1 ∧ (tk u).1 < 9223372036854775808 := fun u hu => by have := (tk_byte hu).1; omega
  have HBD := hide hbd
  have hq' := hq.symm
  have HBE := hide hB
  have hu8 : IntKind.u8.wrap a.1 = a.1 := by rw [IntKind.wrap_u8]; omega
  have HAB := hide hab.1
  have hB2w : w.heap.size ≤ B := by omega
  have HW2 := hide hW2
  clear ha hb hc hd hf ht hW2 hB2 hs2 hg1 hg0 h hby hq hB hbd hab
  have HC1 := hide (fun (u : World) (t : Sc) (ht : ScAt u r t) => snum_any r t u ht)
  have HC2 := hide (fun (u : World) (t : Sc) (ht : ScAt u r t) => slist_any r t u ht)
  go_enter Tryz.func65, Tryz.ntmps65
  have c1 := HC1.out W2 s HI0.out.rd
  rw [← HA.out, HW2.out] at c1
  go_wp2_with (go_at_call 64; refine c1.mono ?_; rintro e w3 ⟨rfl, hS, hb⟩; rw [← HW2.out] at hb; have H1 := hide (HI0.out.but hb hS); have hcs := H1.out.box.cs; have hz := H1.out.box.frozen 0; clear hS hb)
  have H2 := hide (H1.out.setK a.1 HAB.out)
  have c2 := HC2.out _ _ H2.out.rd
  rw [← HBq.out] at c2
  clear hcs hz c1
  go_wp2_with (go_at_call 101; refine c2.mono ?_; rintro e w4 ⟨A1, k1, rfl, ho, hS, hb⟩; have H3 := hide (H2.out.setI hb hS ho (by rw [HBq.out]; exact tkList_small (by have := H2.out.rd.byte; exact this))); have H3b := hide (H2.out.but hb hS); have hcs := H3b.out.box.cs; have hz := H3b.out.box.frozen 1; clear hS hb ho)
  have c3 := HC2.out _ _ H3.out.rd
  rw [← HCq.out] at c3
  clear hcs hz c2
  go_wp2_with (go_at_call 101; refine c3.mono ?_; rintro e w5 ⟨A2, k2, rfl, ho, hS, hb⟩; have H4 := hide (H3.out.setS hb hS ho (by rw [HCq.out]; exact tkList_small (by have := H3.out.rd.byte; exact this))); have H4b := hide (H3.out.but hb hS); have hcs := H4b.out.box.cs; have hz := H4b.out.box.frozen 2; clear hS hb ho)
  have c4 := HC1.out _ _ H4.out.rd
  rw [← HD.out] at c4
  have hdb := HBD.out _ H4.out.rd.byte
  rw [← HD.out] at hdb
  clear hcs hz c3
  go_wp2_with (go_at_call 64; refine c4.mono ?_; rintro e w6 ⟨rfl, hS, hb⟩; have H5b := hide (H4.out.but hb hS); have hcs := H5b.out.box.cs; have hz := H5b.out.box.frozen 3; clear hS hb)
  have H5 := hide (H5b.out.setN d.1 hdb)
  have c5 := HC1.out _ _ H5.out.rd
  rw [← HF.out] at c5
  have hfb := HBD.out _ H5.out.rd.byte
  rw [← HF.out] at hfb
  clear hcs hz c4
  go_wp2_with (go_at_call 64; refine c5.mono ?_; rintro e w7 ⟨rfl, hS, hb⟩; have H6b := hide (H5.out.but hb hS); have hcs := H6b.out.box.cs; have hz := H6b.out.box.frozen 4; clear hS hb; have H6 := hide (H6b.out.setP f.1 hfb); have hcx := H6.out.box.cs; have hg0 := (HG0.out _ _ _ H6.out).cs; have zf0 := (HG0.out _ _ _ H6.out).frozen 0; have zf1 := (HG0.out _ _ _ H6.out).frozen 1; have zf2 := (HG0.out _ _ _ H6.out).frozen 2; have zf3 := (HG0.out _ _ _ H6.out).frozen 3; have zf4 := (HG0.out _ _ _ H6.out).frozen 4)
  obtain ⟨x, hx⟩ : ∃ x : Nd, x = ⟨a.1, A1, b.1.length, k1, A2, c.1.length, k2, d.1, f.1, b.1, c.1⟩ := ⟨_, rfl⟩
  obtain ⟨W7, hW7⟩ : ∃ W, W = w7.setCell ⟨q, 4, none⟩ (.int .i64 f.1) := ⟨_, rfl⟩
  have H7 : NdSc B r q W2 W7 x f.2 := by rw [hW7, hx]; exact H6.out
  rw [← hW7]
  have e1 : (Value.int .u8 a.1) = .int .u8 x.kd := by rw [hx]
  have e2 : (Value.slice A1 b.1.length k1) = .slice x.I x.ni x.ci := by rw [hx]
  have e3 : (Value.slice A2 c.1.length k2) = .slice x.S x.ns x.cs := by rw [hx]
  have e4 : (Value.int .i64 d.1) = .int .i64 x.N := by rw [hx]
  have e5 : (Value.int .i64 f.1) = .int .i64 x.P := by rw [hx]
  rw [e1, e2, e3, e4, e5]
  have htn : x.tn = { kd := a.1.toNat, xs := b.1, sh := c.1, N := d.1, P := f.1 } := by rw [hx]; rfl
  have hg0' := HG0.out _ _ _ H7
  clear hcs hz hcx hg0 zf0 zf1 zf2 zf3 zf4 H6 H6b H5 H5b H4 H4b H3 H3b H2 H1 hW7 hx e1 e2 e3 e4 e5 c5
  have hq0 : w.heap.size < B := by have := H7.lq; omega
  obtain ⟨W5, hW5⟩ : ∃ W, W = (((((W7.setCell ⟨w.heap.size, 0, none⟩ (.int .u8 x.kd)).setCell ⟨w.heap.size, 1, none⟩ (.slice x.I x.ni x.ci)).setCell ⟨w.heap.size, 2, none⟩ (.slice x.S x.ns x.cs)).setCell ⟨w.heap.size, 3, none⟩ (.int .i64 x.N)).setCell ⟨w.heap.size, 4, none⟩ (.int .i64 x.P)) := ⟨_, rfl⟩
  have hs5 := five_set (x := x) hg0'
  have ho1 := own_set5 H7.oi hq0 (.int .u8 x.kd) (.slice x.I x.ni x.ci) (.slice x.S x.ns x.cs) (.int .i64 x.N) (.int .i64 x.P)
  have ho2 := own_set5 H7.os hq0 (.int .u8 x.kd) (.slice x.I x.ni x.ci) (.slice x.S x.ns x.cs) (.int .i64 x.N) (.int .i64 x.P)
  have hbel := below_set5 W7 w.heap.size (.int .u8 x.kd) (.slice x.I x.ni x.ci) (.slice x.S x.ns x.cs) (.int .i64 x.N) (.int .i64 x.P)
  rw [← hW5] at hs5 ho1 ho2 hbel
  rw [← hW5]
  clear hW5
  have hbut := (HOUT.out _ _ _ H7).on hbel
  have hsc := H7.rd.up (hbel.mono hrl)
  obtain ⟨d0, d1, d2, d3, d4⟩ := hs5.cs
  have hnl := H7.nl
  have hsl := H7.sl
  refine ⟨rfl, x.v, ?_, x, htn, rfl, ⟨own_base ho1 hB2w, own_base ho2 hB2w, H7.dj⟩, ⟨own_le ho1, own_le ho2, by omega, by omega, H7.kd, H7.nb, H7.pb⟩, hsc, hbut⟩
  have hres : Tryz.f65.results = #[.cell 2 44] := rfl
  simp [results, hres, go_sem, Nd.v, d0, d1, d2, d3, d4]

end

section
open Go.RowKit
set_option linter.unusedVariables false
set_option linter.unusedSimpArgs false
set_option maxRecDepth 100000

/-- Nodes that are gathered in a row of their own. -/
structure GsAt (B r b0 : Nat) (W3 w : World) (A : Option Addr) (c : Nat) (ns : List Nd) (s : Sc) : Prop where
  big : B ≤ w.heap.size
  lr : r < b0
  sc : ScAt w r s
  lb : b0 < B
  bx : w.heap[b0]? = some (.cells #[.slice A ns.length c] 24 (0, 0))
  ro : w.ownsRow B 44 5 (.slice A ns.length c) ns.length (cellsN ns)
  ow : ∀ (j : Nat) (x : Nd), ns[j]? = some x → OwnN w B x ∧ Bnd x
  od : ∀ (i j : Nat) (x y : Nd) (g h : Nat), i < j → ns[i]? = some x → ns[j]? = some y → Blk x g → Blk y h → g < h
  kp : Kp2 B r b0 W3 w

theorem GsAt.below {B r b0 : Nat} {W3 w w' : World} {A : Option Addr} {c : Nat} {ns : List Nd} {s : Sc} (h : GsAt B r b0 W3 w A c ns s) (hb : Below w.heap.size w w') : GsAt B r b0 W3 w' A c ns s :=
  ⟨Nat.le_trans h.big hb.size, h.lr, h.sc.below hb, h.lb, (hb.block b0 (lt_of_heap h.bx)).trans h.bx, own_keep10 h.ro hb, fun j x hj => ⟨(h.ow j x hj).1.below hb, (h.ow j x hj).2⟩, h.od, h.kp.below (hb.mono h.big)⟩

/-- One node more. -/
theorem GsAt.push {B r b0 lo : Nat} {W3 w w' : World} {A A' : Option Addr} {c c' : Nat} {ns : List Nd} {x : Nd} {s : Sc} (h : GsAt B r b0 W3 w A c ns s) (hx : OwnN w lo x) (hb : Bnd x) (hlo : ∀ (j : Nat) (y : Nd) (g : Nat), ns[j]? = some y → Blk y g → g < lo) (hB : B ≤ lo)
    (ho : w'.ownsRow B 44 5 (.slice A' (ns.length + 1) c') (ns.length + 1) (cellsN (ns ++ [x]))) (hg : w.grownBy w' (Value.slice A ns.length c).ownBlock) :
    GsAt B r b0 W3 (w'.setCell ⟨b0, 0, none⟩ (.slice A' (ns.length + 1) c')) A' c' (ns ++ [x]) s := by
  have hne : ∀ g, (Value.slice A ns.length c).ownBlock = some g → B ≤ g := fun g e => (h.ro.lt g e).1
  have hbel : Below B w w' := (Below.refl B w).grown hg h.big hne
  have hbx : w'.heap[b0]? = some (.cells #[.slice A ns.length c] 24 (0, 0)) := (hbel.block b0 h.lb).trans h.bx
  have htyp : ∀ (y : Nd) (B2 : Nat), OwnN w B2 y → ∀ g, (Value.slice A ns.length c).ownBlock = some g → ¬ Blk y g := by
    intro y B2 hy g hgg hby
    obtain ⟨c1, e1⟩ := own_typ h.ro hgg
    obtain ⟨c2, e2⟩ := hy.typ hby
    rw [e1] at e2
    injection e2 with e2
    injection e2 with _ e2
    exact absurd e2 (by decide)
  have hset : ∀ (y : Nd) (B2 : Nat), B ≤ B2 → OwnN w' B2 y → OwnN (w'.setCell ⟨b0, 0, none⟩ (.slice A' (ns.length + 1) c')) B2 y := fun y B2 hB2 hy =>
    ⟨own_set hy.1 (Nat.lt_of_lt_of_le h.lb hB2) _ _, own_set hy.2.1 (Nat.lt_of_lt_of_le h.lb hB2) _ _, hy.2.2⟩
  have hlen : (ns ++ [x]).length = ns.length + 1 := by simp
  refine ⟨by rw [set_size]; exact Nat.le_trans h.big hbel.size, h.lr, (h.sc.up (hbel.mono (Nat.lt_trans h.lr h.lb))).set h.lr _ _, h.lb, ?_, ?_, ?_, ?_, (h.kp.below hbel).set _ _⟩
  · have := heap_setCell_same w' b0 0 _ _ (.slice A' (ns.length + 1) c') hbx
    rw [hlen]
    simpa using this
  · rw [hlen]; exact own_set ho h.lb _ _
  · intro j y hj
    by_cases hjl : j < ns.length
    · rw [List.getElem?_append_left hjl] at hj
      obtain ⟨h1, h2⟩ := h.ow j y hj
      exact ⟨hset y B (Nat.le_refl _) (h1.kept hg (htyp y B h1)), h2⟩
    · rw [List.getElem?_append_right (by omega)] at hj
      have : j - ns.length = 0 := by
        rcases Nat.eq_zero_or_pos (j - ns.length) with e | e
        · exact e
        · rw [List.getElem?_eq_none (by simp; omega)] at hj; cases hj
      rw [this] at hj
      injection hj with hj
      subst hj
      exact ⟨(hset x lo hB (hx.kept hg (htyp x lo hx))).base hB, hb⟩
  · intro i j y z g k hij hi hj hgy hkz
    by_cases hjl : j < ns.length
    · rw [List.getElem?_append_left hjl] at hj
      rw [List.getElem?_append_left (by omega)] at hi
      exact h.od i j y z g k hij hi hj hgy hkz
    · rw [List.getElem?_append_right (by omega)] at hj
      have : j - ns.length = 0 := by
        rcases Nat.eq_zero_or_pos (j - ns.length) with e | e
        · exact e
        · rw [List.getElem?_eq_none (by simp; omega)] at hj; cases hj
      rw [this] at hj
      injection hj with hj
      subst hj
      rw [List.getElem?_append_left (by omega)] at hi
      have h1 := hlo i y g hi hgy
      have h2 := (hx.lt hkz).1
      omega

theorem GsAt.nsIn {B r b0 : Nat} {W3 w : World} {A : Option Addr} {c : Nat} {ns : List Nd} {s : Sc} (h : GsAt B r b0 W3 w A c ns s) : NsIn w A ns.length ns := by
  refine ⟨rfl, fun hn => ?_⟩
  obtain ⟨g, hA, _, hlt, hcs⟩ := ownN_cells h.ro hn
  refine ⟨g, 0, hA, hlt, fun j x hj => ?_⟩
  have ha := cellsN_at ns j x hj
  obtain ⟨a0, a1, a2, a3, a4⟩ := ha
  simp only [Nat.zero_add]
  exact ⟨hcs _ _ a0, hcs _ _ a1, hcs _ _ a2, hcs _ _ a3, hcs _ _ a4, (h.ow j x hj).1.ok (h.ow j x hj).2⟩

theorem GsAt.but {B r b0 : Nat} {W3 w w' : World} {A : Option Addr} {c : Nat} {ns : List Nd} {s t : Sc} (h : GsAt B r b0 W3 w A c ns s) (hb : But r w w') (hs : ScAt w' r t) : GsAt B r b0 W3 w' A c ns t := by
  have hrB : r < B := Nat.lt_trans h.lr h.lb
  have hg : w.grownBy w' (some r) := hb.grown
  exact ⟨Nat.le_trans h.big hb.size, h.lr, hs, h.lb, (hb.block b0 (lt_of_heap h.bx) (by have := h.lr; omega)).trans h.bx, own_but h.ro hb hrB, fun j x hj => ⟨(h.ow j x hj).1.kept hg (fun g e => by
    injection e with e
    subst e
    intro hbk
    have := ((h.ow j x hj).1.lt hbk).1
    omega), (h.ow j x hj).2⟩, h.od, h.kp.but hb h.big⟩

theorem ownG_base {w : World} {B B' e s n : Nat} {v : Value} {xs : List Value} (h : w.ownsRow B e s v n xs) (hb : B' ≤ B) : w.ownsRow B' e s v n xs := by
  refine ⟨h.1, ?_⟩
  rcases h.2 with h1 | ⟨g, cap, cur, h1, h2, r⟩
  · exact .inl h1
  · exact .inr ⟨g, cap, cur, h1, Nat.le_trans hb h2, r⟩

theorem tkNodes_snoc : ∀ (k : Nat) (s : Sc), tkNodes (k + 1) s = ((tkNodes k s).1 ++ [(tkNode (tkNodes k s).2).1], (tkNode (tkNodes k s).2).2)
  | 0, s => rfl
  | k + 1, s => by
    rw [tkNodes, tkNodes_snoc k (tkNode s).2]
    rw [tkNodes]
    rfl

theorem ownN_but {w w' : World} {r B : Nat} {x : Nd} (h : OwnN w B x) (hb : But r w w') (hr : r < B) : OwnN w' B x := ⟨own_but h.1 hb hr, own_but h.2.1 hb hr, h.2.2⟩

set_option maxHeartbeats 8000000 in
theorem sgraph_any (r : Nat) (s : Sc) (w : World) (h : ScAt w r s) : Calls Tryz.prog 34 #[.pointer (some ⟨r, 0, none⟩)] w fun e w' => ∃ (ns : List Nd) (A : Option Addr) (c : Nat), ns.map Nd.tn = (tkGraph s).1 ∧ e = .returned (.agg #[.slice A ns.length c]) ∧ NsIn w' A ns.length ns ∧ w'.ownsRow w.heap.size 44 5 (.slice A ns.length c) ns.length (cellsN ns) ∧ (∀ (j : Nat) (x : Nd), ns[j]? = some x → OwnN w' w.heap.size x ∧ Bnd x) ∧ (∀ (i j : Nat) (x y : Nd) (g h : Nat), i < j → ns[i]? = some x → ns[j]? = some y → Blk x g → Blk y h → g < h) ∧ ScAt w' r (tkGraph s).2 ∧ But r w w' := by
  have hrl := h.lt
  obtain ⟨q, hq⟩ : ∃ q, q = w.heap.size + 1 := ⟨_, rfl⟩
  obtain ⟨W2, hW2⟩ : ∃ W, W = (w.alloc (.cells #[.slice none 0 0] 24)).alloc (.cells #[.slice none 0 0] 24) := ⟨_, rfl⟩
  have hB2 : Below w.heap.size w W2 := by rw [hW2]; exact ((Below.refl _ _).alloc (Nat.le_refl _) _).alloc (by simp) _
  have hs2 : W2.heap.size = q + 1 := by rw [hW2]; simp [hq]
  have hg1 : W2.heap[q]? = some (.cells #[.slice none 0 0] 24 (0, 0)) := by
    rw [hW2, hq]
    have := heap_alloc_new (w.alloc (.cells #[.slice none 0 0] 24)) (.cells #[.slice none 0 0] 24)
    simpa using this
  have hg0 : W2.heap[w.heap.size]? = some (.cells #[.slice none 0 0] 24 (0, 0)) := by
    rw [hW2]
    exact (Below.heap_alloc _ _ _ (by simp)).trans (heap_alloc_new w _)
  obtain ⟨B, hB⟩ : ∃ B, B = q + 1 := ⟨_, rfl⟩
  have hby := h.byte
  obtain ⟨hb1, hb2⟩ := tk_byte hby
  obtain ⟨n, hn⟩ : ∃ n : Nat, (tk s).1 = (n : Int) := ⟨(tk s).1.toNat, by omega⟩
  have hn6 : n < 256 := by omega
  obtain ⟨s1, hs1⟩ : ∃ s1, s1 = (tk s).2 := ⟨_, rfl⟩
  have htl : tkGraph s = tkNodes n s1 := by rw [tkGraph, hn, hs1]; simp
  rw [htl]
  have HC := hide (snum_any r s W2 (h.below hB2))
  rw [hn, ← hs1, hW2] at HC
  have HI0 : Hid (∀ w3, But r W2 w3 → ScAt w3 r s1 → GsAt B r q W2 w3 none 0 [] s1) := hide (fun w3 hbu hsc =>
    ⟨by have := hbu.size; omega, by omega, hsc, by omega, (hbu.block q (by omega) (by omega)).trans hg1, World.ownsRow_nil _ _ _ _, fun j x hj => by simp at hj, fun i j x y g h _ hi => by simp at hi, (Kp2.refl B r q W2).but hbu (by omega)⟩)
  have HOUT : Hid (∀ (wr : World) (A : Option Addr) (c : Nat) (ns : List Nd) (t : Sc), GsAt B r q W2 wr A c ns t → But r w wr) := hide (fun wr A c ns t hh => by
    have hsz := hB2.size
    exact ⟨hh.kp.os.trans hB2.os, hh.kp.tape.trans hB2.tape, hh.kp.output.trans hB2.output, Nat.le_trans hB2.size hh.kp.size, fun k hk hn => (hh.kp.block k (by omega) hn (by omega)).trans (hB2.block k hk)⟩)
  have HG0 : Hid (∀ (wr : World) (A : Option Addr) (c : Nat) (ns : List Nd) (t : Sc), GsAt B r q W2 wr A c ns t → wr.heap[w.heap.size]? = some (.cells #[.slice none 0 0] 24 (0, 0))) := hide (fun wr A c ns t hh => (hh.kp.block _ (by omega) (by omega) (by omega)).trans hg0)
  have hq' := hq.symm
  have HW2 := hide hW2
  have hB2w : w.heap.size ≤ B := by omega
  have hrB : r < B := by omega
  obtain ⟨iN, hiN, hzN0, hzN1, hzN2⟩ := info_parts infoN10
  have HIN := hide hiN
  have HZ0 := hide hzN0
  have HZ1 := hide hzN1
  have HZ2 := hide hzN2
  clear hiN hzN0 hzN1 hzN2 hW2 hB2 hs2 hg1 hg0 h hby hb1 hb2 hn hs1 htl hq hB
  go_enter Tryz.func34, Tryz.ntmps34
  go_wp2_with (go_at_call 64; refine HC.out.mono ?_; rintro e w3 ⟨rfl, hS, hb⟩; rw [← HW2.out] at hb; have HI := hide (HI0.out w3 hb hS); clear hS hb)
  go_loopw [6] (fun i wr => ∃ (k : Nat) (ns : List Nd) (A : Option Addr) (c : Nat), k ≤ n ∧ i = .int .i64 k ∧ Hid (ns.length = k) ∧ Hid (ns.map Nd.tn = (tkNodes k s1).1) ∧ Hid (GsAt B r q W2 wr A c ns (tkNodes k s1).2)) (fun i _ => n - (intOf i).toNat)
  case atStart => exact ⟨0, [], none, 0, Nat.zero_le _, rfl, hide rfl, hide rfl, HI⟩
  case round =>
    obtain ⟨k, ns, A, c, hkn, rfl, HLN, HTN, HP⟩ := hrel
    by_cases hlt : k < n
    · have f0 : (0 : Int) ≤ (k : Int) := by omega
      have f1 : (k : Int) < (n : Int) := by omega
      have hnl6 : ns.length < 256 := by rw [HLN.out]; omega
      have hsn := tkNodes_snoc k s1
      have HSN := hide hsn
      have hd1 : Below wr.heap.size wr wr.drew := below_drewN (Below.refl _ _) 1
      have HP1 := hide (HP.out.below hd1)
      have c1 := snode_any r _ wr.drew HP1.out.sc
      have hcx := cell_of_row _ _ 0 _ _ (0, 0) HP.out.bx
      simp only [List.getElem?_toArray, List.getElem?_cons_zero] at hcx
      have HSZ : Hid (B ≤ wr.drew.heap.size) := hide HP1.out.big
      clear hsn
      go_wp2
      have hS0 : Hid (wr.drew.cell? ⟨q, 0, none⟩ = some (.slice A ns.length c)) := hide (hcx)
      refine wp_region_U (fun b v => b = false → v.cell? ⟨q, 0, none⟩ = some (.slice A ns.length c)) 7 (by kernel_rfl) ?_
      refine wpAnyU_take (i := 0) (oi := { dst := some 8, op := _, type := _, pos := _, after := _, guard := none }) (v := .pointer (some ⟨q, 0, none⟩)) rfl (by kernel_rfl) (by kernel_rfl) (by kernel_rfl) (by kernel_rfl) (fun _ _ _ h => h) (yields_take rfl (fun w' hw => by have h1 := hw.no (by kernel_rfl) rfl; go_simp)) (fun _ => hS0.out) ?_
      simp only [Act.put, List.setIfInBounds_toArray, List.set_cons_zero, List.set_cons_succ]
      refine wpAnyU_take (i := 1) (oi := { dst := some 9, op := _, type := _, pos := _, after := _, guard := none }) (v := .slice A ns.length c) rfl (by kernel_rfl) (by kernel_rfl) (by kernel_rfl) (by kernel_rfl) (fun _ _ _ h => h) (yields_take rfl (fun w' hw => by have h1 := hw.no (by kernel_rfl) rfl; go_simp)) (fun _ => hS0.out) ?_
      simp only [Act.put, List.setIfInBounds_toArray, List.set_cons_zero, List.set_cons_succ]
      refine wpAnyU_take (i := 2) (oi := { dst := some 10, op := _, type := _, pos := _, after := _, guard := none }) (v := .pointer (some ⟨r, 0, none⟩)) rfl (by kernel_rfl) (by kernel_rfl) (by kernel_rfl) (by kernel_rfl) (fun _ _ _ h => h) (yields_take rfl (fun w' hw => by have h1 := hw.no (by kernel_rfl) rfl; go_simp)) (fun _ => hS0.out) ?_
      simp only [Act.put, List.setIfInBounds_toArray, List.set_cons_zero, List.set_cons_succ]
      refine wpAnyU_one (i := 3) (by kernel_rfl) rfl ?_
      intro K hK
      go_simp
      refine Calls.mono (c1) ?_
      rintro e w' ⟨x, htn, rfl, hown, hbnd, hsc, hbu⟩
      (try dsimp only)
      have HP2 := hide (HP1.out.but hbu hsc)
      unfold Nd.v
      (try dsimp only)
      have hS1 : Hid (w'.cell? ⟨q, 0, none⟩ = some (.slice A ns.length c)) := hide ((by have := cell_of_row _ _ 0 _ _ (0, 0) HP2.out.bx; simpa using this))
      refine hK.out _ _ (fun _ => hS1.out) (fun _ => ?_)
      clear hK K hS0
      have hbal : Below w'.heap.size w' (w'.alloc (.cells #[.int .u8 x.kd, .slice x.I x.ni x.ci, .slice x.S x.ns x.cs, .int .i64 x.N, .int .i64 x.P] 44)) := (Below.refl _ _).alloc (Nat.le_refl _) _
      have HP3 := hide (HP2.out.below hbal)
      refine wpAnyU_one (i := 4) (by kernel_rfl) rfl ?_
      intro K hK
      go_simp
      have hSa : Hid ((w'.alloc (.cells #[.int .u8 x.kd, .slice x.I x.ni x.ci, .slice x.S x.ns x.cs, .int .i64 x.N, .int .i64 x.P] 44)).cell? ⟨q, 0, none⟩ = some (.slice A ns.length c)) := hide (by have := cell_of_row _ _ 0 _ _ (0, 0) HP3.out.bx; simpa using this)
      refine hK.out _ _ (fun _ => hSa.out) (fun _ => ?_)
      clear hK K
      refine wpAnyU_one (i := 5) (by kernel_rfl) rfl ?_
      intro K hK
      refine step_append_srcN rfl _ _ 22 rfl 44 iN _ 5 72 Tryz.underlying22 HIN.out HZ0.out HZ1.out HZ2.out rfl (by decide) B (.slice A ns.length c) ns.length (cellsN ns) rfl HP3.out.ro HP3.out.big (some ⟨w'.heap.size, 0, none⟩) 1 1 x.five rfl rfl (fun _ => ⟨_, rfl, five_new w' x⟩) (fun h => by cases h) (fun u hu => by simp only [Nd.five, List.mem_cons, List.not_mem_nil, or_false] at hu; rcases hu with rfl | rfl | rfl | rfl | rfl <;> rfl) (by omega) (by unfold maxLen; omega) ?_
      intro A4 c4 w4 ho4 hg4 _
      have ho5 : w4.ownsRow B 44 5 (.slice A4 (ns.length + 1) c4) (ns.length + 1) (cellsN (ns ++ [x])) := by
        rw [cellsN_append]
        have e : cellsN [x] = x.five := by simp [cellsN]
        rw [e]
        exact ho4
      have hown3 : OwnN (w'.alloc (.cells #[.int .u8 x.kd, .slice x.I x.ni x.ci, .slice x.S x.ns x.cs, .int .i64 x.N, .int .i64 x.P] 44)) wr.heap.size x := hown.below hbal
      have HP4 := hide (HP3.out.push hown3 hbnd (fun j z g hj hg => ((HP.out.ow j z hj).1.lt hg).2) HP.out.big ho5 hg4)
      have hbel7 : Below B (w'.alloc (.cells #[.int .u8 x.kd, .slice x.I x.ni x.ci, .slice x.S x.ns x.cs, .int .i64 x.N, .int .i64 x.P] 44)) w4 := (Below.refl B _).grown hg4 HP3.out.big (fun g e => (HP3.out.ro.lt g e).1)
      have hbx4 := (hbel7.block q HP3.out.lb).trans HP3.out.bx
      have hSb : Hid (w4.cell? ⟨q, 0, none⟩ = some (.slice A ns.length c)) := hide (by have := cell_of_row _ _ 0 _ _ (0, 0) hbx4; simpa using this)
      have hfz := frozen_of_row _ _ 0 _ _ hbx4
      refine hK.out _ _ (fun _ => hSb.out) (fun _ => ?_)
      clear hK K hSa ho4 ho5 hg4 hbel7 hbx4 hown3
      refine wpAnyU_take (i := 6) (oi := { dst := some 14, op := _, type := _, pos := _, after := _, guard := none }) (v := .pointer (some ⟨q, 0, none⟩)) rfl (by kernel_rfl) (by kernel_rfl) (by kernel_rfl) (by kernel_rfl) (fun _ _ _ h => h) (yields_take rfl (fun w' hw => by have h1 := hw.no (by kernel_rfl) rfl; go_simp)) (fun _ => hSb.out) ?_
      simp only [Act.put, List.setIfInBounds_toArray, List.set_cons_zero, List.set_cons_succ]
      have hce := hSb.out
      refine wpAnyU_one (i := 7) (by kernel_rfl) rfl ?_
      intro K hK
      go_simp
      refine hK _ _ (fun h => by cases h) (fun _ => ?_)
      clear hK K
      refine wpAnyU_done (by kernel_rfl) ?_ _
      clear hSb
      go_wp2
      go_roundw
      case rel => exact ⟨k + 1, ns ++ [x], A4, c4, by omega, by go_num, hide (by rw [List.length_append, HLN.out]; rfl), hide (by rw [HSN.out, List.map_append, HTN.out, List.map_cons, htn]; rfl), hide (by have e := HSN.out; rw [e]; exact HP4.out)⟩
      case measure => simp [intOf]; omega
    · obtain rfl : k = n := by omega
      have hg0 := HG0.out _ _ _ _ _ HP.out
      have hcx := cell_of_row _ _ 0 _ _ (0, 0) HP.out.bx
      simp only [List.getElem?_toArray, List.getElem?_cons_zero] at hcx
      have hc0 := cell_of_row _ _ 0 _ _ (0, 0) hg0
      simp only [List.getElem?_toArray, List.getElem?_cons_zero] at hc0
      have hf0 := frozen_of_row _ _ 0 _ _ hg0
      have HG := hide hg0
      clear hg0
      go_wp2
      have hs5 := heap_setCell_same _ w.heap.size 0 _ _ (.slice A ns.length c) HG.out
      have d0 := cell_of_row _ _ 0 _ _ (0, 0) hs5
      simp only [List.setIfInBounds_toArray, List.set_cons_zero, List.getElem?_toArray, List.getElem?_cons_zero] at d0
      have hbel := below_set1 w.heap.size wr 0 (.slice A ns.length c)
      have hwq : w.heap.size < B := by have := HP.out.lb; omega
      have hro := own_set HP.out.ro hwq 0 (.slice A ns.length c)
      have how : ∀ (j : Nat) (x : Nd), ns[j]? = some x → OwnN (wr.setCell ⟨w.heap.size, 0, none⟩ (.slice A ns.length c)) B x ∧ Bnd x := fun j x hj => ⟨⟨own_set (HP.out.ow j x hj).1.1 hwq _ _, own_set (HP.out.ow j x hj).1.2.1 hwq _ _, (HP.out.ow j x hj).1.2.2⟩, (HP.out.ow j x hj).2⟩
      have hns : NsIn (wr.setCell ⟨w.heap.size, 0, none⟩ (.slice A ns.length c)) A ns.length ns := by
        refine ⟨rfl, fun hn => ?_⟩
        obtain ⟨g, hA, _, hlt2, hcs⟩ := ownN_cells hro hn
        refine ⟨g, 0, hA, hlt2, fun j x hj => ?_⟩
        obtain ⟨a0, a1, a2, a3, a4⟩ := cellsN_at ns j x hj
        simp only [Nat.zero_add]
        exact ⟨hcs _ _ a0, hcs _ _ a1, hcs _ _ a2, hcs _ _ a3, hcs _ _ a4, (how j x hj).1.ok (how j x hj).2⟩
      refine ⟨rfl, .agg #[.slice A ns.length c], ?_, ns, A, c, HTN.out, rfl, hns, ownG_base hro hB2w, fun j x hj => ⟨(how j x hj).1.base hB2w, (how j x hj).2⟩, HP.out.od, HP.out.sc.up (hbel.mono hrl), (HOUT.out _ _ _ _ _ HP.out).on hbel⟩
      have hres : Tryz.f34.results = #[.cell 2 24] := rfl
      simp [results, hres, go_sem, d0]

end

section
open Go.RowKit
set_option linter.unusedVariables false
set_option linter.unusedSimpArgs false
set_option maxRecDepth 100000

def md0 : Value := .agg #[.slice none 0 0, .slice none 0 0]

set_option maxHeartbeats 8000000 in
theorem get_short (A : Option Addr) (n c : Nat) (bs : List Int) (w : World) (h : Lies w A n (bs.map (Value.int .u8))) (hb : ByteL bs) (hn : n < 4) (hnc : n ≤ c) : Calls Tryz.prog 13 #[.slice A n c] w fun e w' => e = .returned (.tuple #[md0, .int .i64 5]) ∧ Below w.heap.size w w' := by
  have hz : max (0 : Int) ((n : Int) - 4) = 0 := by omega
  obtain ⟨W1, hW1⟩ : ∃ W, W = w.alloc (.cells #[.slice none 0 0, .slice none 0 0] 27) := ⟨_, rfl⟩
  have hB1 : Below w.heap.size w W1 := by rw [hW1]; exact (Below.refl _ _).alloc (Nat.le_refl _) _
  have HL := hide (h.below hB1)
  have hlt : (n : Int) - 4 < 0 := by omega
  have hW1' := hW1.symm
  have HB1 := hide hB1
  have HG1 : Hid (W1.heap[w.heap.size]? = some (.cells #[.slice none 0 0, .slice none 0 0] 27 (0, 0))) := hide (by rw [hW1]; exact heap_alloc_new w _)
  clear hW1 hB1 h
  go_enter Tryz.func13, Tryz.ntmps13
  have c4 := get4_short A n c W1 hn
  go_wp2_with (go_at_call 33; refine c4.mono ?_; rintro e w2 ⟨rfl, rfl⟩; have hb2 := Below.refl W1.heap.size W1; have HG2 := hide ((hb2.block w.heap.size (lt_of_heap HG1.out)).trans HG1.out); have HB2 := hide (HB1.out.trans (hb2.mono HB1.out.size)); have hq0 := cell_of_row _ _ 0 _ _ (0, 0) HG2.out; have hq1 := cell_of_row _ _ 1 _ _ (0, 0) HG2.out; have hf0 := frozen_of_row _ _ 0 _ _ HG2.out; have hf1 := frozen_of_row _ _ 1 _ _ HG2.out; simp only [List.getElem?_toArray, List.getElem?_cons_zero, List.getElem?_cons_succ] at hq0 hq1)
  have hs1 := heap_setCell_same _ w.heap.size 0 _ _ (.slice none 0 0) HG2.out
  have hs2 := heap_setCell_same _ w.heap.size 1 _ _ (.slice none 0 0) hs1
  have d0 := cell_of_row _ _ 0 _ _ (0, 0) hs2
  have d1 := cell_of_row _ _ 1 _ _ (0, 0) hs2
  have hbe := (HB2.out.trans (below_set1 w.heap.size _ 0 (.slice none 0 0))).trans (below_set1 w.heap.size _ 1 (.slice none 0 0))
  simp only [List.setIfInBounds_toArray, List.set_cons_zero, List.set_cons_succ, List.getElem?_toArray, List.getElem?_cons_zero, List.getElem?_cons_succ] at d0 d1
  refine ⟨rfl, .tuple #[md0, .int .i64 5], ?_, rfl, hbe⟩
  have hres : Tryz.f13.results = #[.cell 2 27, .tmp 3] := rfl
  simp [results, hres, go_sem, md0, d0, d1]

/-- What the bytes ahead of the sum are. -/
def bodyL (bs : List Int) : List Int := bs.take (bs.length - 4)

set_option maxHeartbeats 8000000 in
theorem get_sum (A : Option Addr) (n c : Nat) (bs : List Int) (w : World) (h : Lies w A n (bs.map (Value.int .u8))) (hb : ByteL bs) (hn : 4 ≤ n) (hn9 : n ≤ 1000000000) (hnc : n ≤ c) (hc : c ≤ 9223372036854775807) (hsum : head4 (bs.drop (n - 4)) ≠ ((sumOf (bs.take (n - 4)) : Nat) : Int)) : Calls Tryz.prog 13 #[.slice A n c] w fun e w' => e = .returned (.tuple #[md0, .int .i64 11]) ∧ Below w.heap.size w w' := by
  obtain ⟨b, o, rfl, hlt, _⟩ := h.cells (by omega)
  obtain ⟨m, hm⟩ : ∃ m, n = m + 4 := ⟨n - 4, by omega⟩
  subst hm
  simp only [Nat.add_sub_cancel] at hsum
  obtain ⟨W1, hW1⟩ : ∃ W, W = w.alloc (.cells #[.slice none 0 0, .slice none 0 0] 27) := ⟨_, rfl⟩
  have hB1 : Below w.heap.size w W1 := by rw [hW1]; exact (Below.refl _ _).alloc (Nat.le_refl _) _
  have hl1 := h.below hB1
  have hdr := hl1.drop (k := m) (cap := c) (by omega) hnc
  rw [if_neg (by omega)] at hdr
  simp only [Option.map_some, Addr.add, Nat.add_sub_cancel_left] at hdr
  have htk := hl1.take (k := m) (by omega)
  have hif : (if m = 0 then (⟨b, o, none⟩ : Addr) else ⟨b, o + m, none⟩) = ⟨b, o + m, none⟩ := by
    split
    · rename_i h0; rw [h0]; rfl
    · rfl
  rw [← List.map_drop] at hdr
  (try rw [hif] at hdr)
  rw [← List.map_take] at htk
  have hW1' := hW1.symm
  have HB1 := hide hB1
  have HG1 : Hid (W1.heap[w.heap.size]? = some (.cells #[.slice none 0 0, .slice none 0 0] 27 (0, 0))) := hide (by rw [hW1]; exact heap_alloc_new w _)
  have hbd : ByteL (bs.drop m) := fun z hz => hb z (List.mem_of_mem_drop hz)
  have hbt : ByteL (bs.take m) := fun z hz => hb z (List.mem_of_mem_take hz)
  have HC4 := hide (get4_long (some ⟨b, o + m, none⟩) 4 (c - m) (bs.drop m) W1 (by omega) hdr hbd)
  have HTK := hide htk
  obtain ⟨hd, hhd⟩ : ∃ hd, hd = head4 (bs.drop m) := ⟨_, rfl⟩
  obtain ⟨sm, hsm⟩ : ∃ sm : Int, sm = ((sumOf (bs.take m) : Nat) : Int) := ⟨_, rfl⟩
  rw [← hhd] at HC4 hsum
  rw [← hsm] at hsum
  have HSM := hide hsm
  have HBT := hide hbt
  have hne : (hd != sm) = true := by simpa using hsum
  have g0 : (0 : Int) ≤ ((m + 4 : Nat) : Int) - 4 := by omega
  have gmax : max (0 : Int) ((m : Int) + 4 - 4) = (m : Int) := by omega
  have gnc : ¬ c = m := by omega
  have hmc : m ≤ c := by omega
  clear hW1 hB1 h hl1 hdr htk hhd hsm hsum hbd hbt hb
  go_enter Tryz.func13, Tryz.ntmps13
  go_wp2_with (go_at_call 33; refine HC4.out.mono ?_; rintro e w2 ⟨rfl, k2, rfl⟩; have hd2 : Below W1.heap.size W1 (W1.drewN k2) := below_drewN (Below.refl _ _) k2; have HCS := hide (of_any (some ⟨b, o, none⟩) m c (bs.take m) (W1.drewN k2) (HTK.out.below hd2) HBT.out (by omega)))
  rw [← HSM.out] at HCS
  go_wp2_with (go_at_call 30; refine HCS.out.mono ?_; rintro e w3 ⟨rfl, hb3⟩; have hb23 := hd2.trans hb3; have HG2 := hide ((hb23.block w.heap.size (lt_of_heap HG1.out)).trans HG1.out); have HB2 := hide (HB1.out.trans (hb23.mono HB1.out.size)); have hq0 := cell_of_row _ _ 0 _ _ (0, 0) HG2.out; have hq1 := cell_of_row _ _ 1 _ _ (0, 0) HG2.out; have hf0 := frozen_of_row _ _ 0 _ _ HG2.out; have hf1 := frozen_of_row _ _ 1 _ _ HG2.out; simp only [List.getElem?_toArray, List.getElem?_cons_zero, List.getElem?_cons_succ] at hq0 hq1)
  have hs1 := heap_setCell_same _ w.heap.size 0 _ _ (.slice none 0 0) HG2.out
  have hs2 := heap_setCell_same _ w.heap.size 1 _ _ (.slice none 0 0) hs1
  have d0 := cell_of_row _ _ 0 _ _ (0, 0) hs2
  have d1 := cell_of_row _ _ 1 _ _ (0, 0) hs2
  have hbe := (HB2.out.trans (below_set1 w.heap.size _ 0 (.slice none 0 0))).trans (below_set1 w.heap.size _ 1 (.slice none 0 0))
  simp only [List.setIfInBounds_toArray, List.set_cons_zero, List.set_cons_succ, List.getElem?_toArray, List.getElem?_cons_zero, List.getElem?_cons_succ] at d0 d1
  refine ⟨rfl, .tuple #[md0, .int .i64 11], ?_, rfl, hbe⟩
  have hres : Tryz.f13.results = #[.cell 2 27, .tmp 3] := rfl
  simp [results, hres, go_sem, md0, d0, d1]

set_option maxHeartbeats 8000000 in
theorem get_form (A : Option Addr) (n c : Nat) (bs : List Int) (w : World) (h : Lies w A n (bs.map (Value.int .u8))) (hb : ByteL bs) (hn : 4 ≤ n) (hn9 : n ≤ 1000000000) (hnc : n ≤ c) (hc : c ≤ 9223372036854775807) (hsum : head4 (bs.drop (n - 4)) = ((sumOf (bs.take (n - 4)) : Nat) : Int)) (hsh : (tkGraph (bs.take (n - 4), false)).2.2 = true) : Calls Tryz.prog 13 #[.slice A n c] w fun e w' => e = .returned (.tuple #[md0, .int .i64 4]) ∧ Below w.heap.size w w' := by
  obtain ⟨b, o, rfl, hlt, _⟩ := h.cells (by omega)
  obtain ⟨m, hm⟩ : ∃ m, n = m + 4 := ⟨n - 4, by omega⟩
  subst hm
  simp only [Nat.add_sub_cancel] at hsum hsh
  obtain ⟨W1, hW1⟩ : ∃ W, W = w.alloc (.cells #[.slice none 0 0, .slice none 0 0] 27) := ⟨_, rfl⟩
  have hB1 : Below w.heap.size w W1 := by rw [hW1]; exact (Below.refl _ _).alloc (Nat.le_refl _) _
  have hl1 := h.below hB1
  have hdr := hl1.drop (k := m) (cap := c) (by omega) hnc
  rw [if_neg (by omega)] at hdr
  simp only [Option.map_some, Addr.add, Nat.add_sub_cancel_left] at hdr
  have htk := hl1.take (k := m) (by omega)
  have hif : (if m = 0 then (⟨b, o, none⟩ : Addr) else ⟨b, o + m, none⟩) = ⟨b, o + m, none⟩ := by
    split
    · rename_i h0; rw [h0]; rfl
    · rfl
  rw [← List.map_drop] at hdr
  (try rw [hif] at hdr)
  rw [← List.map_take] at htk
  have hW1' := hW1.symm
  have HB1 := hide hB1
  have HG1 : Hid (W1.heap[w.heap.size]? = some (.cells #[.slice none 0 0, .slice none 0 0] 27 (0, 0))) := hide (by rw [hW1]; exact heap_alloc_new w _)
  have hbd : ByteL (bs.drop m) := fun z hz => hb z (List.mem_of_mem_drop hz)
  have hbt : ByteL (bs.take m) := fun z hz => hb z (List.mem_of_mem_take hz)
  have HC4 := hide (get4_long (some ⟨b, o + m, none⟩) 4 (c - m) (bs.drop m) W1 (by omega) hdr hbd)
  have HTK := hide htk
  obtain ⟨hd, hhd⟩ : ∃ hd, hd = head4 (bs.drop m) := ⟨_, rfl⟩
  obtain ⟨sm, hsm⟩ : ∃ sm : Int, sm = ((sumOf (bs.take m) : Nat) : Int) := ⟨_, rfl⟩
  rw [← hhd] at HC4 hsum
  rw [← hsm] at hsum
  have HSM := hide hsm
  have HBT := hide hbt
  have hne : (hd != sm) = false := by simpa using hsum
  have g0 : (0 : Int) ≤ ((m + 4 : Nat) : Int) - 4 := by omega
  have gmax : max (0 : Int) ((m : Int) + 4 - 4) = (m : Int) := by omega
  have gnc : ¬ c = m := by omega
  have hmc : m ≤ c := by omega
  clear hW1 hB1 h hl1 hdr htk hhd hsm hsum hbd hbt hb
  go_enter Tryz.func13, Tryz.ntmps13
  go_wp2_with (go_at_call 33; refine HC4.out.mono ?_; rintro e w2 ⟨rfl, k2, rfl⟩; have hd2 : Below W1.heap.size W1 (W1.drewN k2) := below_drewN (Below.refl _ _) k2; have HCS := hide (of_any (some ⟨b, o, none⟩) m c (bs.take m) (W1.drewN k2) (HTK.out.below hd2) HBT.out (by omega)))
  rw [← HSM.out] at HCS
  go_wp2_with (go_at_call 30; refine HCS.out.mono ?_; rintro e w3 ⟨rfl, hb3⟩; have hb23 := hd2.trans hb3; have HTK3 := hide (HTK.out.below hb23); obtain ⟨W4, hW4⟩ : ∃ W, w3.alloc (.cells #[.slice (some ⟨b, o, none⟩) m c, .bool false] 81) = W := ⟨_, rfl⟩; have hb4 : Below w3.heap.size w3 W4 := (by rw [← hW4]; exact (Below.refl _ _).alloc (Nat.le_refl _) _); have hsc : ScAt W4 w3.heap.size (bs.take m, false) := ⟨some ⟨b, o, none⟩, m, c, (by rw [← hW4]; exact heap_alloc_new w3 _), HTK3.out.below hb4, hmc, hc, (by have := HTK3.out.len; rw [List.length_map] at this; exact this), (fun hm1 a ha => by injection ha with ha; subst ha; obtain ⟨b9, o9, e9, hlt9, _⟩ := HTK3.out.cells hm1; injection e9 with e9; injection e9 with e91 e92; subst e91 e92; exact hlt9), HBT.out⟩; have HSG := hide (sgraph_any w3.heap.size _ W4 hsc))
  have HSH := hide hsh
  have hw34 := hb4.size
  go_wp2_with (go_at_call 34; refine HSG.out.mono ?_; rintro e w5 ⟨ns, A5, c5, htn, rfl, hns, _, _, _, hsc5, hbu5⟩; obtain ⟨W6, hW6⟩ : ∃ W, w5.alloc (.cells #[.slice A5 ns.length c5] 24) = W := ⟨_, rfl⟩)
  have hb6 : Below w5.heap.size w5 W6 := by rw [← hW6]; exact (Below.refl _ _).alloc (Nat.le_refl _) _
  have hw3 : w.heap.size < w3.heap.size := Nat.lt_of_lt_of_le (lt_of_heap HG1.out) hb23.size
  have hb56 : Below w3.heap.size W4 w5 := hbu5.to (Nat.le_refl _) hw34
  have hW : Below w3.heap.size w3 W6 := hb4.trans (hb56.trans (hb6.mono (Nat.le_trans hw34 hbu5.size)))
  have HB2 := hide (HB1.out.trans ((hb23.mono HB1.out.size).trans (hW.mono (Nat.le_of_lt hw3))))
  have HG2 := hide ((hW.block w.heap.size hw3).trans ((hb23.block w.heap.size (lt_of_heap HG1.out)).trans HG1.out))
  have hq0 := cell_of_row _ _ 0 _ _ (0, 0) HG2.out
  have hq1 := cell_of_row _ _ 1 _ _ (0, 0) HG2.out
  have hf0 := frozen_of_row _ _ 0 _ _ HG2.out
  have hf1 := frozen_of_row _ _ 1 _ _ HG2.out
  simp only [List.getElem?_toArray, List.getElem?_cons_zero, List.getElem?_cons_succ] at hq0 hq1
  have hshc : W6.drew.cell? ⟨w3.heap.size, 1, none⟩ = some (.bool true) := by
    obtain ⟨A8, n8, c8, h8, _⟩ := (hsc5.below hb6).below (below_drewN (Below.refl _ _) 1)
    rw [HSH.out] at h8
    exact cell_of_row _ _ 1 _ _ (0, 0) h8
  clear hsc5 hbu5 hns htn hb6 hb56 hW
  go_wp2
  have hS0 : Hid (W6.drew.cell? ⟨w3.heap.size, 1, none⟩ = some (.bool true)) := hide (hshc)
  refine wp_region_U (fun _ v => v.cell? ⟨w3.heap.size, 1, none⟩ = some (.bool true)) 99 (by kernel_rfl) ?_
  refine wpAnyU_take (i := 0) (oi := { dst := some 37, op := _, type := _, pos := _, after := _, guard := none }) (v := .pointer (some ⟨w3.heap.size, 0, none⟩)) rfl (by kernel_rfl) (by kernel_rfl) (by kernel_rfl) (by kernel_rfl) (fun _ _ _ h => h) (yields_take rfl (fun w' hw => by have h1 := hw.const; go_simp)) hS0.out ?_
  simp only [Act.put, List.setIfInBounds_toArray, List.set_cons_zero, List.set_cons_succ]
  refine wpAnyU_take (i := 1) (oi := { dst := some 38, op := _, type := _, pos := _, after := _, guard := none }) (v := .pointer (some ⟨w3.heap.size, 0, none⟩)) rfl (by kernel_rfl) (by kernel_rfl) (by kernel_rfl) (by kernel_rfl) (fun _ _ _ h => h) (yields_take rfl (fun w' hw => by have h1 := hw.const; go_simp)) hS0.out ?_
  simp only [Act.put, List.setIfInBounds_toArray, List.set_cons_zero, List.set_cons_succ]
  refine wpAnyU_take (i := 2) (oi := { dst := some 39, op := _, type := _, pos := _, after := _, guard := none }) (v := .pointer (some ⟨w3.heap.size, 1, none⟩)) rfl (by kernel_rfl) (by kernel_rfl) (by kernel_rfl) (by kernel_rfl) (fun _ _ _ h => h) (yields_take rfl (fun w' hw => by have h1 := hw.const; go_simp)) hS0.out ?_
  simp only [Act.put, List.setIfInBounds_toArray, List.set_cons_zero, List.set_cons_succ]
  refine wpAnyU_take (i := 3) (oi := { dst := some 40, op := _, type := _, pos := _, after := _, guard := none }) (v := .bool true) rfl (by kernel_rfl) (by kernel_rfl) (by kernel_rfl) (by kernel_rfl) (fun _ _ _ h => h) (yields_take rfl (fun w' hw => by have h1 := hw.const; go_simp)) hS0.out ?_
  simp only [Act.put, List.setIfInBounds_toArray, List.set_cons_zero, List.set_cons_succ]
  refine wpAnyU_take (i := 4) (oi := { dst := some 41, op := _, type := _, pos := _, after := _, guard := none }) (v := .bool true) rfl (by kernel_rfl) (by kernel_rfl) (by kernel_rfl) (by kernel_rfl) (fun _ _ _ h => h) (yields_take rfl (fun w' hw => by have h1 := hw.const; go_simp)) hS0.out ?_
  simp only [Act.put, List.setIfInBounds_toArray, List.set_cons_zero, List.set_cons_succ]
  refine wpAnyU_take (i := 5) (oi := { dst := some 42, op := _, type := _, pos := _, after := _, guard := some (4, false) }) (v := undef) rfl (by kernel_rfl) (by kernel_rfl) (by kernel_rfl) (by kernel_rfl) (fun _ _ _ h => h) (.inr ⟨rfl, rfl⟩) hS0.out ?_
  simp only [Act.put, List.setIfInBounds_toArray, List.set_cons_zero, List.set_cons_succ]
  refine wpAnyU_take (i := 6) (oi := { dst := some 43, op := _, type := _, pos := _, after := _, guard := some (4, false) }) (v := undef) rfl (by kernel_rfl) (by kernel_rfl) (by kernel_rfl) (by kernel_rfl) (fun _ _ _ h => h) (.inr ⟨rfl, rfl⟩) hS0.out ?_
  simp only [Act.put, List.setIfInBounds_toArray, List.set_cons_zero, List.set_cons_succ]
  refine wpAnyU_take (i := 7) (oi := { dst := some 44, op := _, type := _, pos := _, after := _, guard := some (4, false) }) (v := undef) rfl (by kernel_rfl) (by kernel_rfl) (by kernel_rfl) (by kernel_rfl) (fun _ _ _ h => h) (.inr ⟨rfl, rfl⟩) hS0.out ?_
  simp only [Act.put, List.setIfInBounds_toArray, List.set_cons_zero, List.set_cons_succ]
  refine wpAnyU_take (i := 8) (oi := { dst := some 45, op := _, type := _, pos := _, after := _, guard := none }) (v := .bool true) rfl (by kernel_rfl) (by kernel_rfl) (by kernel_rfl) (by kernel_rfl) (fun _ _ _ h => h) (yields_take rfl (fun w' hw => by have h1 := hw.const; go_simp)) hS0.out ?_
  simp only [Act.put, List.setIfInBounds_toArray, List.set_cons_zero, List.set_cons_succ]
  refine wpAnyU_take (i := 9) (oi := { dst := some 46, op := _, type := _, pos := _, after := _, guard := none }) (v := .bool true) rfl (by kernel_rfl) (by kernel_rfl) (by kernel_rfl) (by kernel_rfl) (fun _ _ _ h => h) (yields_take rfl (fun w' hw => by have h1 := hw.const; go_simp)) hS0.out ?_
  simp only [Act.put, List.setIfInBounds_toArray, List.set_cons_zero, List.set_cons_succ]
  refine wpAnyU_take (i := 10) (oi := { dst := some 47, op := _, type := _, pos := _, after := _, guard := some (9, false) }) (v := undef) rfl (by kernel_rfl) (by kernel_rfl) (by kernel_rfl) (by kernel_rfl) (fun _ _ _ h => h) (.inr ⟨rfl, rfl⟩) hS0.out ?_
  simp only [Act.put, List.setIfInBounds_toArray, List.set_cons_zero, List.set_cons_succ]
  refine wpAnyU_take (i := 11) (oi := { dst := some 48, op := _, type := _, pos := _, after := _, guard := some (9, false) }) (v := undef) rfl (by kernel_rfl) (by kernel_rfl) (by kernel_rfl) (by kernel_rfl) (fun _ _ _ h => h) (.inr ⟨rfl, rfl⟩) hS0.out ?_
  simp only [Act.put, List.setIfInBounds_toArray, List.set_cons_zero, List.set_cons_succ]
  refine wpAnyU_take (i := 12) (oi := { dst := some 49, op := _, type := _, pos := _, after := _, guard := some (9, false) }) (v := undef) rfl (by kernel_rfl) (by kernel_rfl) (by kernel_rfl) (by kernel_rfl) (fun _ _ _ h => h) (.inr ⟨rfl, rfl⟩) hS0.out ?_
  simp only [Act.put, List.setIfInBounds_toArray, List.set_cons_zero, List.set_cons_succ]
  refine wpAnyU_take (i := 13) (oi := { dst := some 50, op := _, type := _, pos := _, after := _, guard := some (9, false) }) (v := undef) rfl (by kernel_rfl) (by kernel_rfl) (by kernel_rfl) (by kernel_rfl) (fun _ _ _ h => h) (.inr ⟨rfl, rfl⟩) hS0.out ?_
  simp only [Act.put, List.setIfInBounds_toArray, List.set_cons_zero, List.set_cons_succ]
  refine wpAnyU_take (i := 14) (oi := { dst := some 51, op := _, type := _, pos := _, after := _, guard := some (9, false) }) (v := undef) rfl (by kernel_rfl) (by kernel_rfl) (by kernel_rfl) (by kernel_rfl) (fun _ _ _ h => h) (.inr ⟨rfl, rfl⟩) hS0.out ?_
  simp only [Act.put, List.setIfInBounds_toArray, List.set_cons_zero, List.set_cons_succ]
  refine wpAnyU_take (i := 15) (oi := { dst := some 52, op := _, type := _, pos := _, after := _, guard := some (9, false) }) (v := undef) rfl (by kernel_rfl) (by kernel_rfl) (by kernel_rfl) (by kernel_rfl) (fun _ _ _ h => h) (.inr ⟨rfl, rfl⟩) hS0.out ?_
  simp only [Act.put, List.setIfInBounds_toArray, List.set_cons_zero, List.set_cons_succ]
  refine wpAnyU_take (i := 16) (oi := { dst := some 53, op := _, type := _, pos := _, after := _, guard := some (9, false) }) (v := undef) rfl (by kernel_rfl) (by kernel_rfl) (by kernel_rfl) (by kernel_rfl) (fun _ _ _ h => h) (.inr ⟨rfl, rfl⟩) hS0.out ?_
  simp only [Act.put, List.setIfInBounds_toArray, List.set_cons_zero, List.set_cons_succ]
  refine wpAnyU_take (i := 17) (oi := { dst := some 54, op := _, type := _, pos := _, after := _, guard := some (9, false) }) (v := undef) rfl (by kernel_rfl) (by kernel_rfl) (by kernel_rfl) (by kernel_rfl) (fun _ _ _ h => h) (.inr ⟨rfl, rfl⟩) hS0.out ?_
  simp only [Act.put, List.setIfInBounds_toArray, List.set_cons_zero, List.set_cons_succ]
  refine wpAnyU_take (i := 18) (oi := { dst := some 55, op := _, type := _, pos := _, after := _, guard := some (9, false) }) (v := undef) rfl (by kernel_rfl) (by kernel_rfl) (by kernel_rfl) (by kernel_rfl) (fun _ _ _ h => h) (.inr ⟨rfl, rfl⟩) hS0.out ?_
  simp only [Act.put, List.setIfInBounds_toArray, List.set_cons_zero, List.set_cons_succ]
  refine wpAnyU_take (i := 19) (oi := { dst := some 56, op := _, type := _, pos := _, after := _, guard := none }) (v := .bool true) rfl (by kernel_rfl) (by kernel_rfl) (by kernel_rfl) (by kernel_rfl) (fun _ _ _ h => h) (yields_take rfl (fun w' hw => by have h1 := hw.const; go_simp)) hS0.out ?_
  simp only [Act.put, List.setIfInBounds_toArray, List.set_cons_zero, List.set_cons_succ]
  refine wpAnyU_done (by kernel_rfl) ?_ _
  clear hS0
  go_wp2
  have hs1 := heap_setCell_same _ w.heap.size 0 _ _ (.slice none 0 0) HG2.out
  have hs2 := heap_setCell_same _ w.heap.size 1 _ _ (.slice none 0 0) hs1
  have d0 := cell_of_row _ _ 0 _ _ (0, 0) hs2
  have d1 := cell_of_row _ _ 1 _ _ (0, 0) hs2
  have hbe := (HB2.out.trans (below_set1 w.heap.size _ 0 (.slice none 0 0))).trans (below_set1 w.heap.size _ 1 (.slice none 0 0))
  have hbe2 := below_drewN hbe 1
  simp only [List.setIfInBounds_toArray, List.set_cons_zero, List.set_cons_succ, List.getElem?_toArray, List.getElem?_cons_zero, List.getElem?_cons_succ] at d0 d1
  refine ⟨rfl, .tuple #[md0, .int .i64 4], ?_, rfl, hbe2⟩
  have hres : Tryz.f13.results = #[.cell 2 27, .tmp 3] := rfl
  simp [results, hres, go_sem, md0, d0, d1]

end

end Go.Proofs.YtohndckbhjakfaaGreatDoor
