/- What lies in memory as the plays go on: a disk, its reference, the book, and blocks that are carried through with what they hold; each call's contract in these words. -/
import Derived.Test.YtapdaeafeejknaaGreatDoorPlay2
namespace Go.Proofs.YtapdaeafeejknaaGreatDoor
open Go.RowKit
set_option maxRecDepth 20000
set_option linter.unusedVariables false
set_option linter.unusedSimpArgs false

abbrev Blk := Nat × Obj
def Holds (w : World) (xs : List Blk) : Prop := ∀ q ∈ xs, w.heap[q.1]? = some q.2
theorem Holds.kp {B : Nat} {w w' : World} {xs : List Blk} (h : Holds w xs) (hk : Kp B (xs.map (·.1)) w w') : Holds w' xs := fun q hq => (hk.2 q.1 (List.mem_map_of_mem hq)).trans (h q hq)
def Rn (w0 w : World) (g g2 : Nat) (d : List Sec) (p : List Wr) (d2 : List Sec) (p2 : List Wr) (K N : Nat) (xs : List Blk) : Prop :=
  ∃ (L : Loc) (M : RLoc) (H : Option Addr) (c : Nat) (its : List It), L.g = g ∧ M.g = g2 ∧ PlayAt w0.heap.size w L M d p d2 p2 K N H c its (xs.map (·.1)) ∧ Below w0.heap.size w0 w ∧ Holds w xs
def RnW (w0 w : World) (g g2 : Nat) (d : List Sec) (p : List Wr) (d2 : List Sec) (p2 : List Wr) (K N : Nat) (xs : List Blk) (gj : Nat) (dj : List Sec) (pj : List Wr) : Prop :=
  ∃ (L : Loc) (M : RLoc) (H : Option Addr) (c : Nat) (its : List It) (J : Loc), L.g = g ∧ M.g = g2 ∧ J.g = gj ∧ PlayAt w0.heap.size w L M d p d2 p2 K N H c its (xs.map (·.1)) ∧ Below w0.heap.size w0 w ∧ Holds w xs ∧ Was w0.heap.size w J dj pj L M K H its (xs.map (·.1))
/-- A list whose block, if it has one, is among those that are carried through. -/
structure RowIn (B : Nat) (zs : List Blk) (A : Option Addr) (n c : Nat) (bs : List Int) : Prop where
  row : ∀ w, Holds w zs → Rw w B 5 ES (.slice A n c) n (bs.map (Value.int .u8))
  blk : ∀ g, (Value.slice A n c).ownBlock = some g → ∃ o, (g, o) ∈ zs

section
variable {w0 w w' : World} {g g2 K N gj : Nat} {d d2 dj : List Sec} {p p2 pj : List Wr} {xs ys zs : List Blk}
theorem Rn.size (h : Rn w0 w g g2 d p d2 p2 K N xs) : w0.heap.size ≤ w.heap.size := by
  obtain ⟨L, M, H, c, its, _, _, h1, _⟩ := h
  exact h1.book.baseW
theorem Rn.bel (h : Rn w0 w g g2 d p d2 p2 K N xs) : Below w0.heap.size w0 w := by
  obtain ⟨L, M, H, c, its, _, _, _, h2, _⟩ := h
  exact h2
theorem Rn.holds (h : Rn w0 w g g2 d p d2 p2 K N xs) : Holds w xs := by
  obtain ⟨L, M, H, c, its, _, _, _, _, h2⟩ := h
  exact h2
theorem Rn.facts (h : Rn w0 w g g2 d p d2 p2 K N xs) : 0 < d.length ∧ d.length ≤ 16384 ∧ 0 < d2.length ∧ d2.length ≤ 16384 := by
  obtain ⟨L, M, H, c, its, _, _, h1, _⟩ := h
  exact ⟨h1.disk.pos, h1.disk.max, h1.ref.pos, h1.ref.max⟩
theorem Rn.below (h : Rn w0 w g g2 d p d2 p2 K N xs) (hb : Below w.heap.size w w') : Rn w0 w' g g2 d p d2 p2 K N xs := by
  obtain ⟨L, M, H, c, its, e1, e2, h1, h2, h3⟩ := h
  obtain ⟨k1, k2⟩ := h1.below hb
  exact ⟨L, M, H, c, its, e1, e2, k1, h2.trans k2.1, h3.kp k2⟩
theorem RnW.below (h : RnW w0 w g g2 d p d2 p2 K N xs gj dj pj) (hb : Below w.heap.size w w') : RnW w0 w' g g2 d p d2 p2 K N xs gj dj pj := by
  obtain ⟨L, M, H, c, its, J, e1, e2, e3, h1, h2, h3, h4⟩ := h
  obtain ⟨k1, k2⟩ := h1.below hb
  exact ⟨L, M, H, c, its, J, e1, e2, e3, k1, h2.trans k2.1, h3.kp k2, h4.below hb⟩
theorem RnW.rn (h : RnW w0 w g g2 d p d2 p2 K N xs gj dj pj) : Rn w0 w g g2 d p d2 p2 K N xs := by
  obtain ⟨L, M, H, c, its, J, e1, e2, e3, h1, h2, h3, h4⟩ := h
  exact ⟨L, M, H, c, its, e1, e2, h1, h2, h3⟩
theorem Rn.push (h : Rn w0 w g g2 d p d2 p2 K N xs) (hb : Below w.heap.size w w') {x : Nat} (hx : w.heap.size ≤ x) {cur : Array Value} {t : TypeId} (hc : w'.heap[x]? = some (.cells cur t (0, 0))) (ht : t ∉ BT) :
    Rn w0 w' g g2 d p d2 p2 K N ((x, .cells cur t (0, 0)) :: xs) ∧ ∀ q ∈ xs, q.1 < w.heap.size := by
  obtain ⟨L, M, H, c, its, e1, e2, h1, h2, h3⟩ := h
  obtain ⟨k1, k2, k3⟩ := h1.push hb hx ⟨cur, t, hc, ht⟩
  refine ⟨⟨L, M, H, c, its, e1, e2, k1, h2.trans k2.1, fun q hq => ?_⟩, fun q hq => (h1.ext q.1 (List.mem_map_of_mem hq)).1.lt⟩
  rcases List.mem_cons.1 hq with rfl | hq
  · exact hc
  · exact h3.kp k2 q hq
theorem Rn.add (h : Rn w0 w g g2 d p d2 p2 K N xs) {A : Option Addr} {n cc : Nat} {bs : List Int} (hr : RowIn w0.heap.size zs A n cc bs) (hz : ∀ q ∈ zs, q ∈ xs) (hy : ∀ q ∈ ys, q ∈ xs) (hd : ∀ q ∈ zs, ∀ q2 ∈ ys, q.1 ≠ q2.1) (hn : n ≤ 1073741824) (hN : N + 1 ≤ 1048000) :
    Calls Tryz.prog 26 #[.pointer (some ⟨K, 0, none⟩), .slice A n cc] w fun e w' => e = .returned (.tuple #[]) ∧ Rn w0 w' g g2 d p d2 p2 K (N + 1) ys := by
  obtain ⟨L, M, H, c, its, e1, e2, h1, h2, h3⟩ := h
  have hmany := h1.book.manyByte
  refine (add_Byte K w0.heap.size N c n cc H A (bookCells N H c its) its w h1.book.blk rfl rfl h1.book.rowByte h1.book.baseW h1.book.baseB (by omega) (by omega)).mono ?_
  rintro e w' ⟨rfl, H', c', hk⟩
  have h4 : PlayAt w0.heap.size w L M d p d2 p2 K N H c its (ys.map (·.1)) := ⟨h1.disk, h1.ref, h1.book, h1.dr, h1.db, h1.rb, fun b hb => by
    obtain ⟨q, hq, rfl⟩ := List.mem_map.1 hb
    exact h1.ext q.1 (List.mem_map_of_mem (hy q hq))⟩
  obtain ⟨k1, k2⟩ := h4.add hk (hr.row w (fun q hq => h3 q (hz q hq))) hn hN (fun b hb => by
    obtain ⟨o, ho⟩ := hr.blk b hb
    have hx := h1.ext b (List.mem_map.2 ⟨(b, o), hz _ ho, rfl⟩)
    refine ⟨hx.2.1, hx.2.2.1, hx.2.2.2, fun hm => ?_⟩
    obtain ⟨q2, hq2, e⟩ := List.mem_map.1 hm
    exact hd _ ho q2 hq2 e.symm)
  have h5 : Holds w ys := fun q hq => h3 q (hy q hq)
  exact ⟨rfl, L, M, H', c', _, e1, e2, k1, h2.trans k2.1, h5.kp k2⟩
theorem rn_dwrite (n : Int) (A : Option Addr) (m c : Nat) (bs : List Int) (h : Rn w0 w g g2 d p d2 p2 K N xs) (hl : Lies w A m (bs.map (Value.int .u8))) (hb : ∀ x ∈ bs, 0 ≤ x ∧ x < 256) (hp : p.length ≤ 1000000000) :
    Calls Tryz.prog 8 #[.pointer (some ⟨g, 0, none⟩), .int .i64 n, .slice A m c] w fun e w' => e = .returned (.int .i64 (errI (wrOk d.length n m))) ∧ Rn w0 w' g g2 d (wrP d.length n bs p) d2 p2 K N xs := by
  obtain ⟨L, M, H, cc, its, rfl, rfl, h1, h2, h3⟩ := h
  refine (d_write n A m c bs w h1.disk hl hb hp).mono ?_
  rintro e w' ⟨rfl, L', hg, hd, hs⟩
  obtain ⟨k1, k2⟩ := h1.disk_to hd hs
  exact ⟨rfl, L', M, H, cc, its, hg, rfl, k1, h2.trans k2.1, h3.kp k2⟩
theorem rn_rwrite (n : Int) (A : Option Addr) (m c : Nat) (bs : List Int) (h : Rn w0 w g g2 d p d2 p2 K N xs) (hl : Lies w A m (bs.map (Value.int .u8))) (hb : ∀ x ∈ bs, 0 ≤ x ∧ x < 256) (hp : p2.length ≤ 1000000000) :
    Calls Tryz.prog 9 #[.pointer (some ⟨g2, 0, none⟩), .int .i64 n, .slice A m c] w fun e w' => e = .returned (.int .i64 (errI (wrOk d2.length n m))) ∧ Rn w0 w' g g2 d p d2 (wrP d2.length n bs p2) K N xs := by
  obtain ⟨L, M, H, cc, its, rfl, rfl, h1, h2, h3⟩ := h
  refine (r_write n A m c bs w h1.ref hl hb hp).mono ?_
  rintro e w' ⟨rfl, L', hg, hd, hs⟩
  obtain ⟨k1, k2⟩ := h1.ref_to hd hs
  exact ⟨rfl, L, L', H, cc, its, rfl, hg, k1, h2.trans k2.1, h3.kp k2⟩
theorem rn_dsync (h : Rn w0 w g g2 d p d2 p2 K N xs) (hp : p.length ≤ 1000000000) :
    Calls Tryz.prog 10 #[.pointer (some ⟨g, 0, none⟩)] w fun e w' => e = .returned (.int .i64 0) ∧ Rn w0 w' g g2 (seenOf d p) [] d2 p2 K N xs := by
  obtain ⟨L, M, H, cc, its, rfl, rfl, h1, h2, h3⟩ := h
  refine (sync_any w h1.disk hp).mono ?_
  rintro e w' ⟨rfl, L', hg, hd, hs⟩
  obtain ⟨k1, k2⟩ := h1.disk_to hd hs
  exact ⟨rfl, L', M, H, cc, its, hg, rfl, k1, h2.trans k2.1, h3.kp k2⟩
theorem rn_rsync (h : Rn w0 w g g2 d p d2 p2 K N xs) :
    Calls Tryz.prog 11 #[.pointer (some ⟨g2, 0, none⟩)] w fun e w' => e = .returned (.int .i64 0) ∧ Rn w0 w' g g2 d p (seenOf d2 p2) [] K N xs := by
  obtain ⟨L, M, H, cc, its, rfl, rfl, h1, h2, h3⟩ := h
  refine (rsync_any w h1.ref).mono ?_
  rintro e w' ⟨rfl, L', hg, hd, hs⟩
  obtain ⟨k1, k2⟩ := h1.ref_to hd hs
  exact ⟨rfl, L, L', H, cc, its, rfl, hg, k1, h2.trans k2.1, h3.kp k2⟩
theorem rn_drot (n q y : Int) (h : Rn w0 w g g2 d p d2 p2 K N xs) (hy : 0 ≤ y ∧ y < 256) (hp : p.length ≤ 1000000000) :
    Calls Tryz.prog 14 #[.pointer (some ⟨g, 0, none⟩), .int .i64 n, .int .i64 q, .int .u8 y] w fun e w' => e = .returned (.int .i64 (errI (rotOk d.length n q))) ∧ Rn w0 w' g g2 (rotDur n q y d) (rotPend n q y d p) d2 p2 K N xs := by
  obtain ⟨L, M, H, cc, its, rfl, rfl, h1, h2, h3⟩ := h
  refine (d_rot n q y w h1.disk hy hp).mono ?_
  rintro e w' ⟨rfl, hd, hs⟩
  obtain ⟨k1, k2⟩ := h1.disk_to hd hs
  exact ⟨rfl, L, M, H, cc, its, rfl, rfl, k1, h2.trans k2.1, h3.kp k2⟩
theorem rn_rrot (n q y : Int) (h : Rn w0 w g g2 d p d2 p2 K N xs) (hy : 0 ≤ y ∧ y < 256) (hp : p2.length ≤ 1000000000) :
    Calls Tryz.prog 15 #[.pointer (some ⟨g2, 0, none⟩), .int .i64 n, .int .i64 q, .int .u8 y] w fun e w' => e = .returned (.int .i64 (errI (rotOk d2.length n q))) ∧ Rn w0 w' g g2 d p (rotDur n q y d2) (rotPend n q y d2 p2) K N xs := by
  obtain ⟨L, M, H, cc, its, rfl, rfl, h1, h2, h3⟩ := h
  refine (r_rot n q y w h1.ref hy hp).mono ?_
  rintro e w' ⟨rfl, hd, hs⟩
  obtain ⟨k1, k2⟩ := h1.ref_to hd hs
  exact ⟨rfl, L, M, H, cc, its, rfl, rfl, k1, h2.trans k2.1, h3.kp k2⟩
theorem rn_dbad (n : Int) (h : Rn w0 w g g2 d p d2 p2 K N xs) (hp : p.length ≤ 1000000000) :
    Calls Tryz.prog 16 #[.pointer (some ⟨g, 0, none⟩), .int .i64 n] w fun e w' => e = .returned (.int .i64 (errI (badOk d.length n))) ∧ Rn w0 w' g g2 (badDur n d) (badPend n d p) d2 p2 K N xs := by
  obtain ⟨L, M, H, cc, its, rfl, rfl, h1, h2, h3⟩ := h
  refine (d_bad n w h1.disk hp).mono ?_
  rintro e w' ⟨rfl, hd, hs⟩
  obtain ⟨k1, k2⟩ := h1.disk_to hd hs
  exact ⟨rfl, L, M, H, cc, its, rfl, rfl, k1, h2.trans k2.1, h3.kp k2⟩
theorem rn_rbad (n : Int) (h : Rn w0 w g g2 d p d2 p2 K N xs) (hp : p2.length ≤ 1000000000) :
    Calls Tryz.prog 17 #[.pointer (some ⟨g2, 0, none⟩), .int .i64 n] w fun e w' => e = .returned (.int .i64 (errI (badOk d2.length n))) ∧ Rn w0 w' g g2 d p (badDur n d2) (badPend n d2 p2) K N xs := by
  obtain ⟨L, M, H, cc, its, rfl, rfl, h1, h2, h3⟩ := h
  refine (r_bad n w h1.ref hp).mono ?_
  rintro e w' ⟨rfl, hd, hs⟩
  obtain ⟨k1, k2⟩ := h1.ref_to hd hs
  exact ⟨rfl, L, M, H, cc, its, rfl, rfl, k1, h2.trans k2.1, h3.kp k2⟩
theorem rn_dfail (keep : Nat) (torn : Int) (h : Rn w0 w g g2 d p d2 p2 K N xs) (hkeep : keep < 18446744073709551616) (hp : p.length ≤ 1000000000) :
    Calls Tryz.prog 12 #[.pointer (some ⟨g, 0, none⟩), .int .u64 (keep : Int), .int .i64 torn] w fun e w' => ∃ g', e = .returned (.tuple #[.pointer (some ⟨g', 0, none⟩), .int .i64 0]) ∧ RnW w0 w' g' g2 (leftOf keep torn d p) [] d2 p2 K N xs g d p := by
  obtain ⟨L, M, H, cc, its, rfl, rfl, h1, h2, h3⟩ := h
  refine (fail_any keep torn w h1.disk hkeep hp).mono ?_
  rintro e w' ⟨L', rfl, hd, hn, hb⟩
  obtain ⟨k1, k2, k3⟩ := h1.disk_new hd hn hb
  exact ⟨L'.g, rfl, L', M, H, cc, its, L, rfl, rfl, rfl, k1, h2.trans k2.1, h3.kp k2, k3⟩
theorem rn_rfail (keep : Nat) (torn : Int) (h : RnW w0 w g g2 d p d2 p2 K N xs gj dj pj) (hkeep : keep < 18446744073709551616) (hp : p2.length ≤ 1000000000) :
    Calls Tryz.prog 13 #[.pointer (some ⟨g2, 0, none⟩), .int .u64 (keep : Int), .int .i64 torn] w fun e w' => ∃ g', e = .returned (.tuple #[.pointer (some ⟨g', 0, none⟩), .int .i64 0]) ∧ RnW w0 w' g g' d p (leftOf keep torn d2 p2) [] K N xs gj dj pj := by
  obtain ⟨L, M, H, cc, its, J, rfl, rfl, rfl, h1, h2, h3, h4⟩ := h
  refine (rfail_any keep torn w h1.ref hkeep hp).mono ?_
  rintro e w' ⟨M', rfl, hd, hn, hb⟩
  obtain ⟨k1, k2⟩ := h1.ref_new hd hn hb
  exact ⟨M'.g, rfl, L, M', H, cc, its, J, rfl, rfl, rfl, k1, h2.trans k2.1, h3.kp k2, h4.ref_new hn hb⟩
theorem rn_wwrite (n : Int) (A : Option Addr) (m c : Nat) (bs : List Int) (h : RnW w0 w g g2 d p d2 p2 K N xs gj dj pj) (hl : Lies w A m (bs.map (Value.int .u8))) (hb : ∀ x ∈ bs, 0 ≤ x ∧ x < 256) (hp : pj.length ≤ 1000000000) :
    Calls Tryz.prog 8 #[.pointer (some ⟨gj, 0, none⟩), .int .i64 n, .slice A m c] w fun e w' => e = .returned (.int .i64 (errI (wrOk dj.length n m))) ∧ RnW w0 w' g g2 d p d2 p2 K N xs gj dj (wrP dj.length n bs pj) := by
  obtain ⟨L, M, H, cc, its, J, rfl, rfl, rfl, h1, h2, h3, h4⟩ := h
  refine (d_write n A m c bs w h4.disk hl hb hp).mono ?_
  rintro e w' ⟨rfl, J', hg, hd, hs⟩
  obtain ⟨k1, k2, k3⟩ := h1.was_to h4 hd hs
  exact ⟨rfl, L, M, H, cc, its, J', rfl, rfl, hg, k1, h2.trans k2.1, h3.kp k2, k3⟩
theorem rn_wsync (h : RnW w0 w g g2 d p d2 p2 K N xs gj dj pj) (hp : pj.length ≤ 1000000000) :
    Calls Tryz.prog 10 #[.pointer (some ⟨gj, 0, none⟩)] w fun e w' => e = .returned (.int .i64 0) ∧ Rn w0 w' g g2 d p d2 p2 K N xs := by
  obtain ⟨L, M, H, cc, its, J, rfl, rfl, rfl, h1, h2, h3, h4⟩ := h
  refine (sync_any w h4.disk hp).mono ?_
  rintro e w' ⟨rfl, J', hg, hd, hs⟩
  obtain ⟨k1, k2, k3⟩ := h1.was_to h4 hd hs
  exact ⟨rfl, L, M, H, cc, its, rfl, rfl, k1, h2.trans k2.1, h3.kp k2⟩
theorem rn_dlen (h : Rn w0 w g g2 d p d2 p2 K N xs) : Calls Tryz.prog 18 #[.pointer (some ⟨g, 0, none⟩)] w fun e w' => e = .returned (.int .i64 (d.length : Int)) ∧ w = w' := by
  obtain ⟨L, M, H, cc, its, rfl, rfl, h1, h2, h3⟩ := h
  exact len_any w h1.disk
theorem rn_rlen (h : Rn w0 w g g2 d p d2 p2 K N xs) : Calls Tryz.prog 19 #[.pointer (some ⟨g2, 0, none⟩)] w fun e w' => e = .returned (.int .i64 (d2.length : Int)) ∧ w = w' := by
  obtain ⟨L, M, H, cc, its, rfl, rfl, h1, h2, h3⟩ := h
  exact rlen_any w h1.ref
theorem rn_dwaits (h : Rn w0 w g g2 d p d2 p2 K N xs) : Calls Tryz.prog 20 #[.pointer (some ⟨g, 0, none⟩)] w fun e w' => e = .returned (.int .i64 (p.length : Int)) ∧ w = w' := by
  obtain ⟨L, M, H, cc, its, rfl, rfl, h1, h2, h3⟩ := h
  exact waits_any w h1.disk
theorem rn_rwaits (h : Rn w0 w g g2 d p d2 p2 K N xs) : Calls Tryz.prog 21 #[.pointer (some ⟨g2, 0, none⟩)] w fun e w' => e = .returned (.int .i64 (p2.length : Int)) ∧ w = w' := by
  obtain ⟨L, M, H, cc, its, rfl, rfl, h1, h2, h3⟩ := h
  exact rwaits_any w h1.ref
theorem rdL_ok {l : List Sec} (h : ∀ s ∈ l, OkB s.b) (n : Int) : (rdL l n).length ≤ 64 := by
  unfold rdL
  split
  · simp
  · rename_i h1
    split
    · simp
    · have hok := secAt_ok h (n := n.toNat) (by omega)
      rw [hok.1]
      omega
theorem rn_dread (n : Int) (h : Rn w0 w g g2 d p d2 p2 K N xs) :
    Calls Tryz.prog 23 #[.pointer (some ⟨g, 0, none⟩), .int .i64 n] w fun e w' => ∃ A c zs, e = .returned (.tuple #[.slice A (rdL (seenOf d p) n).length c, .int .i64 (rdEr (seenOf d p) n)]) ∧
      RowIn w0.heap.size zs A (rdL (seenOf d p) n).length c (rdL (seenOf d p) n) ∧ Rn w0 w' g g2 d p d2 p2 K N (zs ++ xs) ∧ (∀ q ∈ zs, ∀ q2 ∈ xs, q.1 ≠ q2.1) ∧ (rdL (seenOf d p) n).length ≤ 64 := by
  have h0 := h
  obtain ⟨L, M, H, cc, its, rfl, rfl, h1, h2, h3⟩ := h
  have hle := rdL_ok (seen_ok h1.disk.okS (fun x hx => (h1.disk.okW x hx).1)) n
  refine (d_read n w h1.disk).mono ?_
  rintro e w' ⟨A, c, rfl, hr, hb⟩
  obtain ⟨m, hm⟩ : ∃ m, m = (rdL (seenOf d p) n).length := ⟨_, rfl⟩
  rw [← hm] at hr hle ⊢
  have hlen := hr.1
  rcases hr.2 with ⟨e1, e2⟩ | ⟨gb, cap, cur, t, e1, hgb, hh, ht, r⟩
  · refine ⟨A, c, [], rfl, ⟨fun w2 _ => ⟨hlen, .inl ⟨e1, e2⟩⟩, fun gg hgg => ?_⟩, ?_, fun q hq => by simp at hq, hle⟩
    · rw [e1] at hgg; simp [Value.ownBlock] at hgg
    · exact h0.below hb
  · obtain ⟨k1, k2⟩ := h0.push hb hgb hh (fun hm => by
      have e3 : ∀ t ∈ ES, t ∉ BT := by decide
      exact e3 t ht hm)
    refine ⟨A, c, [(gb, .cells cur t (0, 0))], rfl, ⟨fun w2 hw2 => ⟨hlen, .inr ⟨gb, cap, cur, t, e1, Nat.le_trans h0.size hgb, hw2 (gb, .cells cur t (0, 0)) (List.mem_singleton.2 rfl), ht, r⟩⟩, fun gg hgg => ?_⟩, k1, fun q hq q2 hq2 => ?_, hle⟩
    · rw [e1] at hgg
      simp [Value.ownBlock] at hgg
      subst hgg
      exact ⟨_, List.mem_singleton.2 rfl⟩
    · simp at hq
      subst hq
      have := k2 q2 hq2
      show gb ≠ q2.1
      omega
theorem rn_rread (n : Int) (h : Rn w0 w g g2 d p d2 p2 K N xs) :
    Calls Tryz.prog 24 #[.pointer (some ⟨g2, 0, none⟩), .int .i64 n] w fun e w' => ∃ A c, e = .returned (.tuple #[.slice A (rdL (seenOf d2 p2) n).length c, .int .i64 (rdEr (seenOf d2 p2) n)]) ∧
      Lies w' A (rdL (seenOf d2 p2) n).length ((rdL (seenOf d2 p2) n).map (Value.int .u8)) ∧ Rn w0 w' g g2 d p d2 p2 K N xs := by
  have h0 := h
  obtain ⟨L, M, H, cc, its, rfl, rfl, h1, h2, h3⟩ := h
  refine (r_read n w h1.ref).mono ?_
  rintro e w' ⟨A, c, rfl, hr, hb⟩
  exact ⟨A, c, rfl, hr, h0.below hb⟩
theorem rn_apart (h : Rn w0 w g g2 d p d2 p2 K N xs) :
    Calls Tryz.prog 27 #[.pointer (some ⟨K, 0, none⟩)] w fun e w' => e = .returned (.bool true) ∧ Below w0.heap.size w0 w' := by
  obtain ⟨L, M, H, cc, its, rfl, rfl, h1, h2, h3⟩ := h
  refine (apart_any w K w0.heap.size N H cc its h1.book).mono ?_
  rintro e w' ⟨rfl, hb⟩
  exact ⟨rfl, h2.trans hb⟩
end

/-- Both disks are new, and the book behind them. -/
def bookNew : Obj := .cells (bookCells 0 none 0 []).toArray 47
theorem Rn.start {w0 w1 w2 : World} {L : Loc} {M : RLoc} {d : List Sec} (hd : DiskAt w0.heap.size w1 L d []) (h1 : Below w0.heap.size w0 w1) (hr : RAt w1.heap.size w2 M d []) (hn : ∀ b, M.has b → w1.heap.size ≤ b) (h2 : Below w1.heap.size w1 w2) :
    Rn w0 (w2.alloc bookNew) L.g M.g d [] d [] w2.heap.size 0 [] := by
  have hs1 := h1.size
  have hs2 := h2.size
  have hb : Below w2.heap.size w2 (w2.alloc bookNew) := (Below.refl _ _).alloc (Nat.le_refl _) _
  have nob : ∀ b, b < w2.heap.size → ¬ bkHas w2.heap.size none [] b := by
    rintro b hlt (rfl | h | ⟨i, t, ht, _⟩)
    · omega
    · cases h
    · simp at ht
  refine ⟨L, M, none, 0, [], rfl, rfl, ⟨(hd.below h2).below hb, (hr.base_le hs1).below hb, ⟨heap_alloc_new w2 _, World.ownsRow_nil _ _ _ _, ⟨fun i t ht => by simp at ht, fun i j t u _ ht => by simp at ht⟩, Nat.le_refl _, fun i t ht => by simp at ht, by simp; omega, by omega, by omega⟩, ?_, ?_, ?_, ?_⟩, ?_, ?_⟩
  · intro b hb1 hb2
    have := (hd.lt b hb1).2
    have := hn b hb2
    omega
  · exact fun b hb1 => nob b (by have := (hd.lt b hb1).2; omega)
  · exact fun b hb1 => nob b (by have := (hr.lt b hb1).2; omega)
  · intro b hb1
    simp at hb1
  · exact (h1.trans (h2.mono hs1)).trans (hb.mono (by omega))
  · intro q hq
    simp at hq
/-- The twin of a list of bytes, as a block that is carried through. -/
def twinObj (bs : List Int) : Obj := .cells (bs.map (Value.int .u8) ++ [Value.int .u8 77]).toArray 5 (0, 0)
theorem twin_block {w : World} {B gt m : Nat} {bs : List Int} (hl : bs.length = m) (h : w.ownsRow B 5 1 (.slice (some ⟨gt, 0, none⟩) (m + 1) (m + 1)) (m + 1) (bs.map (Value.int .u8) ++ [.int .u8 77])) : w.heap[gt]? = some (twinObj bs) := by
  rcases h.2 with ⟨_, h0⟩ | ⟨g', cap, cur, e0, _, hh, hmc, hcm, hcs, hta⟩
  · omega
  · injection e0 with e0 _ e2
    injection e0 with e0
    injection e0 with e0
    subst e0
    subst e2
    have e3 : cur.toList = bs.map (Value.int .u8) ++ [.int .u8 77] := by
      rw [← hta, List.take_of_length_le]
      simp
      omega
    rw [hh, twinObj, ← e3]
theorem twin_row {B gt m : Nat} {bs : List Int} (hl : bs.length = m) (hB : B ≤ gt) (hm : m ≤ 1048576) : RowIn B [(gt, twinObj bs)] (some ⟨gt, 0, none⟩) m (m + 1) bs := by
  refine ⟨fun w hw => ⟨by simp [hl], .inr ⟨gt, m + 1, _, 5, rfl, hB, hw _ (List.mem_singleton.2 rfl), by decide, by omega, by unfold maxLen; omega, by simp [hl], .inr ⟨rfl, by simp [hl]⟩, ?_⟩⟩, fun g hg => ?_⟩
  · simp [hl]
  · simp [Value.ownBlock] at hg
    subst hg
    exact ⟨_, List.mem_singleton.2 rfl⟩
theorem twin_lies {w : World} {gt m : Nat} {bs : List Int} (hl : bs.length = m) (h : w.heap[gt]? = some (twinObj bs)) : Lies w (some ⟨gt, 0, none⟩) (m + 1) (bs.map (Value.int .u8) ++ [.int .u8 77]) :=
  ⟨by simp [hl], fun _ => ⟨gt, 0, rfl, lt_of_heap h, fun j hj => by rw [Nat.zero_add, cell_of_row w gt j _ _ _ h, List.getElem?_toArray]⟩⟩
end Go.Proofs.YtapdaeafeejknaaGreatDoor
