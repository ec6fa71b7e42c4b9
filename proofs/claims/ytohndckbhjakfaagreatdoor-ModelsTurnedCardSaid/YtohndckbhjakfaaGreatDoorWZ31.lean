/- Merged: In10, Back, TMath, TMath2, Mo1, Mo2, Mo3. -/
import Derived.Test.YtohndckbhjakfaaGreatDoorWZ30
import Derived.Test.YtohndckbhjakfaaGreatDoorWZ04
import Derived.Test.YtohndckbhjakfaaGreatDoorWZ05
import Derived.Test.YtohndckbhjakfaaGreatDoorWZ28
import Derived.Test.YtohndckbhjakfaaGreatDoorWZ27
import Derived.Test.YtohndckbhjakfaaGreatDoorWZ01
namespace Go.Proofs.YtohndckbhjakfaaGreatDoor

section
open Go.RowKit
set_option linter.unusedVariables false
set_option linter.unusedSimpArgs false
set_option maxRecDepth 100000

/-- Nodes in a row of the call's own, their lists too. -/
def TwRow (w : World) (base g n : Nat) (ts : List Nd) : Prop :=
  ts.length = n ∧ w.ownsRow base 44 5 (.slice (some ⟨g, 0, none⟩) (n + 1) (n + 1)) (n + 1) (cellsN ts ++ mark5) ∧ (∀ t ∈ ts, TwNd w (g + 1) t) ∧ TwAp ts

theorem TwAll.row {w : World} {base g n : Nat} {ns ts : List Nd} (h : TwAll w base g n ns ts) : TwRow w base g n ts := h.2

theorem TwRow.all {w : World} {base g n : Nat} {ts : List Nd} (h : TwRow w base g n ts) : TwAll w base g n ts ts := ⟨rfl, h⟩

theorem TwRow.below {w w' : World} {base g n : Nat} {ts : List Nd} (h : TwRow w base g n ts) (hb : Below w.heap.size w w') : TwRow w' base g n ts := (h.all.below hb).row

theorem TwAp.lt {ts : List Nd} (h : TwAp ts) {p q : Nat} {t u : Nd} (hp : ts[p]? = some t) (hq : ts[q]? = some u) (hpq : p < q) {a b : Nat} (ha : t.S = some ⟨a, 0, none⟩) (hb : u.I = some ⟨b, 0, none⟩) : a < b := by
  obtain ⟨l1, e1⟩ := List.getElem?_eq_some_iff.1 hp
  obtain ⟨l2, e2⟩ := List.getElem?_eq_some_iff.1 hq
  have := List.pairwise_iff_getElem.1 h p q l1 l2 hpq
  rw [e1, e2] at this
  exact this a b ha hb

theorem cellsN_set {ts : List Nd} {q : Nat} {t t' : Nd} (h : ts[q]? = some t) (he : t'.five = t.five) : cellsN (ts.set q t') = cellsN ts := by
  have e : (ts.set q t').map Nd.five = ts.map Nd.five := by
    refine List.ext_getElem? fun i => ?_
    rw [List.getElem?_map, List.getElem?_map]
    by_cases hi : i = q
    · subst hi
      rw [List.getElem?_set_self (List.getElem?_eq_some_iff.1 h).1, h, Option.map_some, Option.map_some, he]
    · rw [List.getElem?_set_ne (fun e => hi e.symm)]
  rw [cellsN, cellsN, List.flatMap, List.flatMap, e]

theorem TwAp.set {ts : List Nd} {q : Nat} {t t' : Nd} (h : TwAp ts) (hq : ts[q]? = some t) (h1 : t'.I = t.I) (h2 : t'.S = t.S) : TwAp (ts.set q t') := by
  unfold TwAp at h ⊢
  rw [List.pairwise_iff_getElem] at h ⊢
  intro i j hi hj hij a b ha hb
  have hl : (ts.set q t').length = ts.length := List.length_set
  obtain ⟨hql, hqe⟩ := List.getElem?_eq_some_iff.1 hq
  have key : ∀ (i : Nat) (hi : i < (ts.set q t').length) (hi2 : i < ts.length), (ts.set q t')[i].S = ts[i].S ∧ (ts.set q t')[i].I = ts[i].I := by
    intro i hi hi2
    rw [List.getElem_set]
    by_cases e : q = i
    · subst e
      rw [if_pos rfl]
      exact ⟨h2.trans (by rw [hqe]), h1.trans (by rw [hqe])⟩
    · rw [if_neg e]; exact ⟨rfl, rfl⟩
  rw [(key i hi (by omega)).1] at ha
  rw [(key j hj (by omega)).2] at hb
  exact h i j (by omega) (by omega) hij a b ha hb

/-- One number of what a node takes in is stored. -/
theorem TwRow.store {w : World} {base g n q j : Nat} {ts : List Nd} {t : Nd} {a : Nat} {z : Int} (h : TwRow w base g n ts) (hq : ts[q]? = some t) (ha : t.I = some ⟨a, 0, none⟩) (hj : j < t.ni) :
    TwRow (w.setCell ⟨a, j, none⟩ (.int .i64 z)) base g n (ts.set q { t with xs := t.xs.set j z }) := by
  obtain ⟨h1, h2, h3, h4⟩ := h
  have hgr := grown_set w a j (.int .i64 z)
  have htm := List.mem_of_getElem? hq
  obtain ⟨g0, k0, e1, e2, e0, e3, e4, e5, e6, m1, m2, r⟩ := h3 t htm
  rw [e1] at ha
  injection ha with ha
  injection ha with ha
  subst ha
  have hga := m1.lt
  refine ⟨by rw [List.length_set, h1], ?_, fun u hu => ?_, h4.set hq rfl rfl⟩
  · rw [cellsN_set (t' := { t with xs := t.xs.set j z }) hq rfl]
    exact h2.kept hgr (.inr (by simp only [Value.ownBlock]; intro e; injection e with e; omega))
  · obtain ⟨i, hi, rfl⟩ := List.mem_iff_getElem.1 hu
    rw [List.getElem_set]
    have hil : i < ts.length := by rw [List.length_set] at hi; exact hi
    by_cases e : q = i
    · rw [if_pos e]
      refine ⟨g0, k0, e1, e2, e0, e3, e4, by simpa using e5, e6, ?_, m2.kept hgr (by intro e; injection e with e; omega), r⟩
      have hm := own_set9 (v := .int .i64 z) m1 (show j < t.ni + 1 by omega)
      have e9 : (t.xs.map (Value.int .i64) ++ [Value.int .i64 77]).set j (Value.int .i64 z) = (t.xs.set j z).map (Value.int .i64) ++ [Value.int .i64 77] := by
        rw [List.set_append_left _ _ (by rw [List.length_map, e5]; exact hj), List.map_set]
      rw [e9] at hm
      exact hm
    · rw [if_neg e]
      have hti : ts[i]? = some ts[i] := List.getElem?_eq_getElem hil
      obtain ⟨g9, k9, f1, f2, f0, _⟩ := h3 ts[i] (List.getElem_mem hil)
      refine (h3 ts[i] (List.getElem_mem hil)).kept hgr (fun b hb => ?_)
      injection hb with hb
      subst hb
      rcases Nat.lt_or_ge q i with hlt | hge
      · have := h4.lt hq hti hlt e2 f1
        exact ⟨fun e => by rw [f1] at e; injection e with e; injection e with e; omega, fun e => by rw [f2] at e; injection e with e; injection e with e; omega⟩
      · have := h4.lt hti hq (show i < q by omega) f2 e1
        exact ⟨fun e => by rw [f1] at e; injection e with e; injection e with e; omega, fun e => by rw [f2] at e; injection e with e; injection e with e; omega⟩

/-- A box of a graph is no list of numbers. -/
theorem BoxG.setI {w : World} {p a j base : Nat} {v : Value} {t : Nd} {z : Value} (h : BoxG w p v) (ht : TwNd w base t) (ha : t.I = some ⟨a, 0, none⟩) : BoxG (w.setCell ⟨a, j, none⟩ z) p v := by
  obtain ⟨g0, k0, e1, e2, e0, e3, e4, e5, e6, m1, m2, r⟩ := ht
  rw [e1] at ha
  injection ha with ha
  injection ha with ha
  subst ha
  refine (heap_setCell_other _ _ _ _ ?_).trans h
  dsimp only
  intro e
  rcases m1.2 with ⟨e', _⟩ | ⟨q, cap, cur, e', _, hg, _⟩
  · cases e'
  · injection e' with e'
    injection e' with e'
    injection e' with e'
    subst e'
    unfold BoxG at h
    rw [e, hg] at h
    cases h

theorem BoxG.grown {w w' : World} {p base size n : Nat} {v u : Value} {e : TypeId} {xs : List Value} (h : BoxG w p v) (ho : w.ownsRow base e size u n xs) (he : e ≠ 24) (hg : w.grownBy w' u.ownBlock) : BoxG w' p v := by
  refine (hg.block p h.lt ?_).trans h
  intro e1
  rcases ho.2 with ⟨e', _⟩ | ⟨q, cap, cur, e', _, hh, _⟩
  · rw [e'] at e1; cases e1
  · rw [e'] at e1
    injection e1 with e1
    have e2 : p = q := e1
    unfold BoxG at h
    rw [e2, hh] at h
    injection h with h
    injection h with _ h
    exact he h

theorem fitN_pl (x : Nd) (ss : List (List Int)) : fitN (pl x) ss = fitN x ss ∧ shN (pl x) ss = shN x ss := ⟨rfl, rfl⟩

theorem allSh_pl : ∀ (ns : List Nd) (ss : List (List Int)), allSh (ns.map pl) ss = allSh ns ss
  | [], ss => rfl
  | x :: r, ss => by rw [List.map_cons, allSh, allSh, (fitN_pl x ss).1, (fitN_pl x ss).2, allSh_pl r]

theorem inIx_pl : ∀ ns : List Nd, inIx (ns.map pl) = inIx ns
  | [] => rfl
  | x :: r => by rw [List.map_cons, inIx, inIx, inIx_pl r]; rfl

theorem endsOk_pl (ns : List Nd) : endsOk (ns.map pl) = endsOk ns := by
  have hl : lastOk (ns.map pl) = lastOk ns := by
    rw [lastOk, lastOk, List.length_map, List.getElem?_map]
    cases ns[ns.length - 1]? <;> rfl
  rw [endsOk, endsOk, List.length_map, inIx_pl, ← List.map_drop, inIx_pl, hl]

theorem gph_pl (ns : List Nd) : gphB (ns.map pl) = gphB ns ∧ gphS (ns.map pl) = gphS ns := by
  have hb : gphB (ns.map pl) = gphB ns := by rw [gphB, gphB, endsOk_pl, allSh_pl]
  exact ⟨hb, by rw [gphS, gphS, hb, allSh_pl]⟩

theorem gph_same {ns ms : List Nd} (h : ns.map pl = ms.map pl) : gphB ns = gphB ms ∧ gphS ns = gphS ms :=
  ⟨by rw [← (gph_pl ns).1, h, (gph_pl ms).1], by rw [← (gph_pl ns).2, h, (gph_pl ms).2]⟩

theorem wtF_pl : ∀ (i : Nat) (ns : List Nd), wtF i (ns.map pl) = wtF i ns
  | _, [] => rfl
  | i, x :: r => by rw [List.map_cons, wtF, wtF, wtF_pl (i + 1) r]; rfl

end

section
open Go.RowKit

/-- Numbers of 32 bits with a sign. -/
def Words (l : List Int) : Prop := ∀ x ∈ l, -2147483648 ≤ x ∧ x < 2147483648

theorem enc_cons (z : Int) (zs : List Int) : enc (z :: zs) = four z ++ enc zs := rfl

theorem enc_bytes (zs : List Int) : Bytes (enc zs) := by
  intro x hx
  obtain ⟨z, _, h⟩ := List.mem_flatMap.1 hx
  exact four_bytes z x h

theorem head4_four (m : Int) (rest : List Int) (h0 : 0 ≤ m) (h1 : m < 4294967296) : head4 (four m ++ rest) = m := by
  show word (m % 256) (m / 256 % 256) (m / 65536 % 256) (m / 16777216 % 256) = m
  exact word_four m h0 h1

end

section
open Go.RowKit

/-- What Put answers. -/
def putB (s l : List Int) (m : Nat) : List Int := if tenOk s m = true then tenB s l else []

end

section
open Go.RowKit
set_option linter.unusedVariables false
set_option linter.unusedSimpArgs false

theorem four_word (a b c d : Int) (ha : 0 ≤ a ∧ a < 256) (hb : 0 ≤ b ∧ b < 256) (hc : 0 ≤ c ∧ c < 256) (hd : 0 ≤ d ∧ d < 256) : four (signed (word a b c d)) = [a, b, c, d] := by
  have h : ∀ z : Int, z % 4294967296 = word a b c d → four z = [a, b, c, d] := by
    intro z hz
    unfold word at hz
    simp only [four, List.cons.injEq, and_true]
    omega
  apply h
  rw [signed_eq]
  have := word_bounds ha hb hc hd
  omega

theorem wd_drop4 (bs : List Int) (j : Nat) : wd (bs.drop 4) j = wd bs (j + 1) := by
  unfold wd
  simp only [List.getD, List.getElem?_drop]
  rw [show 4 + 4 * j = 4 * (j + 1) by omega, show 4 + (4 * j + 1) = 4 * (j + 1) + 1 by omega, show 4 + (4 * j + 2) = 4 * (j + 1) + 2 by omega, show 4 + (4 * j + 3) = 4 * (j + 1) + 3 by omega]

theorem dec_succ (bs : List Int) (k : Nat) : dec bs (k + 1) = wd bs 0 :: dec (bs.drop 4) k := by
  simp only [dec, List.range_succ_eq_map, List.map_cons, List.map_map]
  congr 1
  exact List.map_congr_left (fun j _ => (wd_drop4 bs j).symm)

theorem enc_dec : ∀ (k : Nat) (bs : List Int), Bytes bs → bs.length = 4 * k → enc (dec bs k) = bs
  | 0, bs, _, h => by
    obtain rfl : bs = [] := List.eq_nil_of_length_eq_zero (by omega)
    rfl
  | k + 1, a :: b :: c :: d :: r, hb, h => by
    rw [dec_succ, enc_cons]
    have h0 := hb a (by simp)
    have h1 := hb b (by simp)
    have h2 := hb c (by simp)
    have h3 := hb d (by simp)
    rw [show wd (a :: b :: c :: d :: r) 0 = signed (word a b c d) from rfl, four_word a b c d h0 h1 h2 h3]
    rw [show List.drop 4 (a :: b :: c :: d :: r) = r from rfl, enc_dec k r (fun x hx => hb x (by simp [hx])) (by simp at h; omega)]
    rfl
  | k + 1, [], _, h => by simp at h
  | k + 1, [_], _, h => by simp at h; omega
  | k + 1, [_, _], _, h => by simp at h; omega
  | k + 1, [_, _, _], _, h => by simp at h; omega

/-- The shape, and the numbers, that are got. -/
def gotS (bs : List Int) : List Int := if getOk bs = true then shpOf bs (dimsOf bs) else []

def gotL (bs : List Int) : List Int := if getOk bs = true then dec (bs.drop (1 + dimsOf bs)) (sizeI (shpOf bs (dimsOf bs))).toNat else []

end

section
open Go.RowKit
set_option linter.unusedVariables false
set_option linter.unusedSimpArgs false
set_option maxRecDepth 100000

theorem getD_mem11 {l : List Int} {j : Nat} (h : j < l.length) : l.getD j 0 ∈ l := by
  have e : l.getD j 0 = l[j] := by simp [List.getD, h]
  rw [e]
  exact List.getElem_mem h

theorem take_getD11 {xs : List Int} {j : Nat} (h : j < xs.length) : xs.take (j + 1) = xs.take j ++ [xs.getD j 0] := by
  have e : xs.getD j 0 = xs[j] := by simp [List.getD, h]
  rw [e, List.take_succ_eq_append_getElem h]

/-- A tensor as it lies in a list of weights. -/
structure Wt where
  A : Option Addr
  n : Nat
  c : Nat
  B : Option Addr
  m : Nat
  d : Nat
  s : List Int
  l : List Int

def Wt.Ok (t : Wt) (w : World) : Prop := (Lies w t.A t.n (t.s.map (Value.int .i64)) ∧ Lies w t.B t.m (t.l.map (Value.int .i32))) ∧ (t.n ≤ t.c ∧ t.m ≤ t.d) ∧ (t.n ≤ 70368744177664 ∧ t.m ≤ 70368744177664) ∧ Words t.l

theorem Wt.Ok.below {t : Wt} {w w' : World} (h : t.Ok w) (hb : Below w.heap.size w w') : t.Ok w' := ⟨⟨h.1.1.below hb, h.1.2.below hb⟩, h.2⟩

/-- A list of weights lies there. -/
def WsAt (w : World) (b o : Nat) (ts : List Wt) : Prop :=
  ∀ j t, ts[j]? = some t → w.cell? ⟨b, o + j * 2, none⟩ = some (.slice t.A t.n t.c) ∧ w.cell? ⟨b, o + j * 2 + 1, none⟩ = some (.slice t.B t.m t.d) ∧ t.Ok w

def WsIn (w : World) (A : Option Addr) (n : Nat) (ts : List Wt) : Prop := ts.length = n ∧ (1 ≤ n → ∃ b o, A = some ⟨b, o, none⟩ ∧ b < w.heap.size ∧ WsAt w b o ts)

theorem WsAt.below {w w' : World} {b o : Nat} {ts : List Wt} (h : WsAt w b o ts) (hb : Below w.heap.size w w') (hlt : b < w.heap.size) : WsAt w' b o ts := by
  intro j t hj
  obtain ⟨h0, h1, h2⟩ := h j t hj
  have e := fun k => World.cell?_of_block (w := w) (w' := w') (a := ⟨b, k, none⟩) (hb.block b hlt)
  exact ⟨(e _).trans h0, (e _).trans h1, h2.below hb⟩

theorem WsIn.below {w w' : World} {A : Option Addr} {n : Nat} {ts : List Wt} (h : WsIn w A n ts) (hb : Below w.heap.size w w') : WsIn w' A n ts :=
  ⟨h.1, fun hn => by
    obtain ⟨b, o, e, hlt, hx⟩ := h.2 hn
    exact ⟨b, o, e, Nat.lt_of_lt_of_le hlt hb.size, hx.below hb hlt⟩⟩

theorem WsIn.at {w : World} {A : Option Addr} {n k : Nat} {ts : List Wt} (h : WsIn w A n ts) (hk : k < n) : ∃ b o t, A = some ⟨b, o, none⟩ ∧ ts[k]? = some t ∧ w.cell? ⟨b, o + k * 2, none⟩ = some (.slice t.A t.n t.c) ∧ w.cell? ⟨b, o + k * 2 + 1, none⟩ = some (.slice t.B t.m t.d) ∧ t.Ok w := by
  obtain ⟨b, o, e, _, hx⟩ := h.2 (by omega)
  obtain ⟨t, ht⟩ : ∃ t, ts[k]? = some t := ⟨ts[k]'(by rw [h.1]; exact hk), List.getElem?_eq_getElem (by rw [h.1]; exact hk)⟩
  exact ⟨b, o, t, e, ht, hx k t ht⟩

/-- A node's list. -/
def shOf (ns : List Nd) (i : Int) : List Int := match ns[i.toNat]? with
  | some x => x.sh
  | none => []

/-- Do the weights fit the nodes of some indices? -/
def wsFit (ns : List Nd) : List Int → List Wt → Bool
  | [], [] => true
  | i :: is, t :: ts => tenOk t.s t.m && decide (t.s = shOf ns i) && wsFit ns is ts
  | _, _ => false

theorem wsFit_len {ns : List Nd} : ∀ {is : List Int} {ts : List Wt}, wsFit ns is ts = true → is.length = ts.length
  | [], [], _ => rfl
  | [], _ :: _, h => by simp [wsFit] at h
  | _ :: _, [], h => by simp [wsFit] at h
  | i :: is, t :: ts, h => by
    simp only [wsFit, Bool.and_eq_true] at h
    rw [List.length_cons, List.length_cons, wsFit_len h.2]

theorem wsFit_at {ns : List Nd} : ∀ {is : List Int} {ts : List Wt} {k : Nat} {i : Int} {t : Wt}, wsFit ns is ts = true → is[k]? = some i → ts[k]? = some t → tenOk t.s t.m = true ∧ t.s = shOf ns i
  | [], _, _, _, _, _, hi, _ => by simp at hi
  | _ :: _, [], _, _, _, _, _, ht => by simp at ht
  | j :: is, u :: ts, 0, i, t, h, hi, ht => by
    simp only [wsFit, Bool.and_eq_true, decide_eq_true_eq] at h
    simp at hi ht
    subst hi ht
    exact h.1
  | j :: is, u :: ts, k + 1, i, t, h, hi, ht => by
    simp only [wsFit, Bool.and_eq_true] at h
    exact wsFit_at h.2 (by simpa using hi) (by simpa using ht)

theorem wsFit_mk {ns : List Nd} : ∀ {is : List Int} {ts : List Wt}, is.length = ts.length → (∀ (k : Nat) (i : Int) (t : Wt), is[k]? = some i → ts[k]? = some t → tenOk t.s t.m = true ∧ t.s = shOf ns i) → wsFit ns is ts = true
  | [], [], _, _ => rfl
  | [], _ :: _, h, _ => by simp at h
  | _ :: _, [], h, _ => by simp at h
  | j :: is, u :: ts, hl, h => by
    have h0 := h 0 j u rfl rfl
    have ih := wsFit_mk (is := is) (ts := ts) (by simpa using hl) (fun k i t hi ht => h (k + 1) i t (by simpa using hi) (by simpa using ht))
    rw [wsFit, h0.1, decide_eq_true h0.2, ih]
    rfl

/-- Which models may be. -/
def mdB (ns : List Nd) (ts : List Wt) : Bool := gphB ns && wsFit ns (wtF 0 ns) ts

theorem mdB_parts {ns : List Nd} {ts : List Wt} : mdB ns ts = true ↔ gphB ns = true ∧ wsFit ns (wtF 0 ns) ts = true := by rw [mdB, Bool.and_eq_true]

/-- The numbers of all weights, as bytes. -/
def wsI (ts : List Wt) : List Int := (ts.map Wt.l).flatMap enc

theorem wsI_cons (t : Wt) (ts : List Wt) : wsI (t :: ts) = enc t.l ++ wsI ts := by simp [wsI]

theorem wsI_append (a b : List Wt) : wsI (a ++ b) = wsI a ++ wsI b := by simp [wsI, List.flatMap_append]

/-- A model's bytes, ahead of their sum, and with it. -/
def mdI (ns : List Nd) (ts : List Wt) : List Int := graphI (ns.map Nd.tn) ++ wsI ts

def mdP (ns : List Nd) (ts : List Wt) : List Int := mdI ns ts ++ four ((sumOf (mdI ns ts) : Nat) : Int)

theorem wsI_bytes : ∀ ts : List Wt, ByteL (wsI ts)
  | [] => fun z hz => by simp [wsI] at hz
  | t :: ts => by
    rw [wsI_cons]
    intro z hz
    rcases List.mem_append.1 hz with hz | hz
    · exact enc_bytes _ z hz
    · exact wsI_bytes ts z hz

theorem mdI_bytes {ns : List Nd} {ts : List Wt} (h : gphB ns = true) : ByteL (mdI ns ts) := by
  obtain ⟨h1, h2⟩ := gph_form h
  intro z hz
  rcases List.mem_append.1 hz with hz | hz
  · refine graphI_byte (by rw [List.length_map]; omega) (fun x hx => ?_) z hz
    obtain ⟨y, hy, rfl⟩ := List.mem_map.1 hx
    exact (h2 y hy).2
  · exact wsI_bytes ts z hz

theorem mdP_bytes {ns : List Nd} {ts : List Wt} (h : gphB ns = true) : ByteL (mdP ns ts) := by
  intro z hz
  rcases List.mem_append.1 hz with hz | hz
  · exact mdI_bytes h z hz
  · exact four_bytes _ z hz

/-- How many numbers the weights of some nodes have. -/
def szW (ns : List Nd) : List Int → Nat
  | [] => 0
  | i :: is => (sizeI (shOf ns i)).toNat + szW ns is

theorem wsI_len {ns : List Nd} : ∀ {is : List Int} {ts : List Wt}, wsFit ns is ts = true → (∀ t ∈ ts, t.l.length = t.m) → (wsI ts).length = 4 * szW ns is
  | [], [], _, _ => rfl
  | [], _ :: _, h, _ => by simp [wsFit] at h
  | _ :: _, [], h, _ => by simp [wsFit] at h
  | i :: is, t :: ts, h, hl => by
    simp only [wsFit, Bool.and_eq_true, decide_eq_true_eq] at h
    have ih := wsI_len h.2 (fun u hu => hl u (List.mem_cons_of_mem _ hu))
    have h1 := h.1.1
    simp only [tenOk, Bool.and_eq_true, decide_eq_true_eq] at h1
    rw [h.1.2] at h1
    rw [wsI_cons, List.length_append, enc_len, ih, szW, hl t (List.mem_cons_self ..)]
    omega

theorem wtF_mem : ∀ (ns : List Nd) (i : Nat) (z : Int), z ∈ wtF i ns → ∃ (j : Nat) (x : Nd), z = ((i + j : Nat) : Int) ∧ ns[j]? = some x ∧ x.kd = 2
  | [], i, z, h => by simp [wtF] at h
  | x :: r, i, z, h => by
    rw [wtF] at h
    split at h
    · rename_i hx
      rcases List.mem_cons.1 h with rfl | h
      · exact ⟨0, x, rfl, rfl, hx⟩
      · obtain ⟨j, y, rfl, hy, hk⟩ := wtF_mem r (i + 1) z h
        exact ⟨j + 1, y, by omega, by simpa using hy, hk⟩
    · obtain ⟨j, y, rfl, hy, hk⟩ := wtF_mem r (i + 1) z h
      exact ⟨j + 1, y, by omega, by simpa using hy, hk⟩

theorem wt_node {ns : List Nd} {k : Nat} {z : Int} (h : (wtF 0 ns)[k]? = some z) : ∃ (j : Nat) (x : Nd), z = (j : Int) ∧ ns[j]? = some x ∧ x.kd = 2 ∧ shOf ns z = x.sh := by
  obtain ⟨j, x, e, hx, hk⟩ := wtF_mem ns 0 z (List.mem_of_getElem? h)
  rw [Nat.zero_add] at e
  refine ⟨j, x, e, hx, hk, ?_⟩
  rw [e, shOf, Int.toNat_natCast, hx]

theorem wtF_len11 : ∀ (ns : List Nd) (i : Nat), (wtF i ns).length ≤ ns.length
  | [], _ => Nat.le_refl _
  | x :: r, i => by
    have := wtF_len11 r (i + 1)
    rw [wtF, List.length_cons]
    split
    · rw [List.length_cons]; omega
    · omega

theorem gphB_n11 {ns : List Nd} (h : gphB ns = true) : ns.length ≤ 32 := (endsOk_parts (gphB_parts h).1).1

end

section
open Go.RowKit
set_option linter.unusedVariables false
set_option linter.unusedSimpArgs false
set_option maxRecDepth 100000

/-- All blocks but that of a row of the call's own are as they were; and the row goes on to none of them. -/
def Kept (w w' : World) (v v' : Value) : Prop := w.heap.size ≤ w'.heap.size ∧ ∀ p, p < w.heap.size → v.ownBlock ≠ some p → w'.heap[p]? = w.heap[p]? ∧ v'.ownBlock ≠ some p

theorem Kept.refl (w : World) (v : Value) : Kept w w v v := ⟨Nat.le_refl _, fun _ _ h => ⟨rfl, h⟩⟩

theorem Kept.trans {a b c : World} {u v z : Value} (h : Kept a b u v) (k : Kept b c v z) : Kept a c u z :=
  ⟨Nat.le_trans h.1 k.1, fun p hp hu => by
    obtain ⟨h1, h2⟩ := h.2 p hp hu
    obtain ⟨h3, h4⟩ := k.2 p (Nat.lt_of_lt_of_le hp h.1) h2
    exact ⟨h3.trans h1, h4⟩⟩

theorem Kept.below {w w' : World} (hb : Below w.heap.size w w') (v : Value) : Kept w w' v v := ⟨hb.size, fun p hp h => ⟨hb.block p hp, h⟩⟩

theorem Kept.moved {w w' : World} {v v' : Value} (hm : Moved w w' v v') : Kept w w' v v' := by
  rcases hm with ⟨he, hg⟩ | ⟨hg, hnew⟩
  · exact ⟨hg.size, fun p hp h => ⟨hg.block p hp (fun e => h e.symm), by rw [he]; exact h⟩⟩
  · refine ⟨hg.size, fun p hp h => ⟨hg.block p hp (by simp), fun e => ?_⟩⟩
    have := hnew p e
    omega

theorem Kept.block {w w' : World} {v v' : Value} (h : Kept w w' v v') {p : Nat} {o : Obj} (hp : w.heap[p]? = some o) (hv : v.ownBlock ≠ some p) : w'.heap[p]? = some o := (h.2 p (lt_of_heap hp) hv).1.trans hp

theorem u8_small {z : Int} (h : 0 ≤ z ∧ z < 256) : IntKind.u8.wrap z = z := by rw [IntKind.wrap_u8]; omega

set_option maxHeartbeats 4000000 in
theorem putList11_any (base : Nat) (A D : Option Addr) (n c m d : Nat) (bs l : List Int) (w0 w : World) (ho : w.ownsRow base 5 1 (.slice A n c) n (bs.map (Value.int .u8))) (hl : Lies w0 D m (l.map (Value.int .i64))) (hm : m < 256) (hb : ByteL l) (hbase : base ≤ w.heap.size) (hb0 : Below w0.heap.size w0 w) (h0 : w0.heap.size ≤ base) (hn : n ≤ 1000000) :
    Calls Tryz.prog 51 #[.slice A n c, .slice D m d] w fun e w' => ∃ (A' : Option Addr) (c' : Nat), e = .returned (.slice A' (n + 1 + m) c') ∧ w'.ownsRow base 5 1 (.slice A' (n + 1 + m) c') (n + 1 + m) ((bs ++ listI l).map (Value.int .u8)) ∧ Below base w w' ∧ Kept w w' (.slice A n c) (.slice A' (n + 1 + m) c') := by
  obtain ⟨i0, hi, hz0, hz1, hz2⟩ := info_parts Tryz.infoB
  have HI := hide hi
  have HZ0 := hide hz0
  have HZ1 := hide hz1
  have HZ2 := hide hz2
  have HO := hide ho
  have HL := hide hl
  have HLN : Hid (l.length = m) := hide (lies_len9 hl)
  have HBL := hide hb
  have HB0 := hide hb0
  have em : IntKind.u8.wrap (m : Int) = (m : Int) := u8_small ⟨by omega, by omega⟩
  have HX3 : Hid ((w.alloc (.cells #[.int .u8 (m : Int)] 5)).cell? ⟨w.heap.size, 0, none⟩ = some (.int .u8 (m : Int))) := hide (by have h := cells_new w [.int .u8 (m : Int)] 5 0 _ rfl; rwa [Addr.add_lit] at h)
  clear hi hz0 hz1 hz2 ho hl hb hb0
  go_enter Tryz.func51, Tryz.ntmps51
  go_wp2_with (at_builtin; refine wpList_append_one rfl (.tmp 7) (.tmp 11) 30 rfl 5 i0 (.int .u8 0) 1 Tryz.underlying30 HI.out HZ0.out HZ1.out HZ2.out rfl base A n c (bs.map (Value.int .u8)) rfl (HO.out.alloc _) (Nat.le_trans hbase (by simp)) ⟨w.heap.size, 0, none⟩ (.int .u8 (m : Int)) rfl HX3.out rfl (by omega) (by unfold maxLen; omega) ?_)
  intro A1 c1 w1 ho1 hm1
  have HO1 : Hid (w1.ownsRow base 5 1 (.slice A1 (n + 1) c1) (n + 1) ((bs ++ [(m : Int)]).map (Value.int .u8))) := hide (by rw [List.map_append]; exact ho1)
  have HB1 := hide (below_moved ((Below.refl base w).alloc hbase (.cells #[.int .u8 (m : Int)] 5)) (Nat.le_trans hbase (by simp)) (HO.out.alloc _) hm1)
  have HK1 : Hid (Kept w w1 (.slice A n c) (.slice A1 (n + 1) c1)) := hide ((Kept.below (below_al6 (Below.refl _ _)) _).trans (Kept.moved hm1))
  clear ho1 hm1 HX3
  go_wp2
  go_loopw [0, 15] (fun v i wr => ∃ (k q : Nat) (A2 : Option Addr) (c2 : Nat), k ≤ m ∧ q = n + 1 + k ∧ i = .int .i64 k ∧ v = .slice A2 q c2 ∧ Hid (wr.ownsRow base 5 1 (.slice A2 q c2) q ((bs ++ [(m : Int)] ++ l.take k).map (Value.int .u8))) ∧ Hid (Below base w wr) ∧ Hid (Kept w wr (.slice A n c) (.slice A2 q c2))) (fun _ i _ => m - (intOf i).toNat)
  case atStart => exact ⟨0, n + 1, A1, c1, Nat.zero_le _, rfl, rfl, rfl, hide (by simpa using HO1.out), HB1, HK1⟩
  case round =>
    obtain ⟨k, q, A2, c2, hk, hq, rfl, rfl, HR, HB, HK⟩ := hrel
    have hqb : q ≤ 1001000 := by omega
    have HQ := hide hq
    clear hq
    by_cases hlt : k < m
    · obtain ⟨b, o, eD, _, hx⟩ := byte_at (HL.out.below (HB0.out.trans (HB.out.mono h0))) (by omega)
      have hc1 := hx k hlt
      obtain ⟨z, hz⟩ : ∃ z, z = l.getD k 0 := ⟨_, rfl⟩
      rw [← hz] at hc1
      have ez := u8_small (HBL.out z (by rw [hz]; exact getD_mem11 (by rw [HLN.out]; exact hlt)))
      have HTK : Hid (l.take (k + 1) = l.take k ++ [z]) := hide (by rw [hz]; exact take_getD11 (by rw [HLN.out]; exact hlt))
      have f0 : (0 : Int) ≤ (k : Int) := by omega
      have f1 : (k : Int) < (m : Int) := by omega
      have hs1 := Nat.le_trans hbase HB.out.size
      have HX3 : Hid ((wr.alloc (.cells #[.int .u8 z] 5)).cell? ⟨wr.heap.size, 0, none⟩ = some (.int .u8 z)) := hide (by have h := cells_new wr [.int .u8 z] 5 0 _ rfl; rwa [Addr.add_lit] at h)
      rw [eD]
      have HED := hide eD
      clear hx hz eD
      go_wp2_with (at_builtin; refine wpList_append_one rfl (.tmp 19) (.tmp 22) 30 rfl 5 i0 (.int .u8 0) 1 Tryz.underlying30 HI.out HZ0.out HZ1.out HZ2.out rfl base A2 q c2 ((bs ++ [(m : Int)] ++ l.take k).map (Value.int .u8)) rfl (HR.out.alloc _) (Nat.le_trans hs1 (by simp)) ⟨wr.heap.size, 0, none⟩ (.int .u8 z) rfl HX3.out rfl (by omega) (by unfold maxLen; omega) ?_)
      intro A3 c3 w3 ho3 hm3
      have HR3 : Hid (w3.ownsRow base 5 1 (.slice A3 (q + 1) c3) (q + 1) ((bs ++ [(m : Int)] ++ l.take (k + 1)).map (Value.int .u8))) := hide (by
        rw [HTK.out, ← List.append_assoc, List.map_append (l₂ := [z])]
        simpa [List.map_take] using ho3)
      have HB3 := hide (below_moved (HB.out.alloc (Nat.le_trans hbase HB.out.size) (.cells #[.int .u8 z] 5)) (Nat.le_trans hs1 (by simp)) (HR.out.alloc _) hm3)
      have HK3 : Hid (Kept w w3 (.slice A n c) (.slice A3 (q + 1) c3)) := hide (by exact (HK.out.trans (Kept.below (below_al6 (Below.refl _ _)) _)).trans (Kept.moved hm3))
      clear ho3 hm3 HK HR HB HX3 hc1
      go_wp2
      go_roundw
      case rel => exact ⟨k + 1, q + 1, A3, c3, by omega, by have := HQ.out; omega, by go_num, rfl, HR3, HB3, HK3⟩
      case measure => simp [intOf] <;> omega
    · obtain rfl : k = m := by omega
      have f1 : ¬ ((k : Int) < (k : Int)) := by omega
      have hq := HQ.out
      subst hq
      have hR := HR.out
      rw [List.take_of_length_le (by rw [HLN.out]; exact Nat.le_refl _)] at hR
      have HRF : Hid (wr.ownsRow base 5 1 (.slice A2 (n + 1 + k) c2) (n + 1 + k) ((bs ++ listI l).map (Value.int .u8))) := hide (by
        have e : bs ++ listI l = bs ++ [(k : Int)] ++ l := by rw [listI, HLN.out]; simp
        rw [e]; exact hR)
      clear hR HR
      go_wp2
      go_ret
      exact ⟨A2, c2, rfl, by simpa using HRF.out, HB.out, HK.out⟩

end

section
open Go.RowKit
set_option linter.unusedVariables false
set_option linter.unusedSimpArgs false
set_option maxRecDepth 100000

theorem lit_lies11 (w : World) (k : IntKind) (zs : List Int) (t : TypeId) : Lies (w.alloc (.cells (zs.map (Value.int k)).toArray t)) (some ⟨w.heap.size, 0, none⟩) zs.length (zs.map (Value.int k)) := by
  have h := lies_new w (zs.map (Value.int k)) t
  rwa [List.length_map] at h

theorem nodeI_len {x : Tn} (h : ByteT x) : (nodeI x).length ≤ 515 ∧ (nodeI x).length = 1 + (1 + x.xs.length) + (1 + x.sh.length) + 2 := by
  have e : (nodeI x).length = 1 + (1 + x.xs.length) + (1 + x.sh.length) + 2 := by simp [nodeI, listI]; omega
  have h1 := h.2.1.1
  have h2 := h.2.2.1.1
  exact ⟨by omega, e⟩

/-- The bytes of the first k nodes. -/
def gB (ns : List Nd) (k : Nat) : List Int := (ns.length : Int) :: (ns.take k).flatMap (fun x => nodeI x.tn)

theorem gB_succ {ns : List Nd} {k : Nat} {x : Nd} (h : ns[k]? = some x) : gB ns (k + 1) = gB ns k ++ nodeI x.tn := by
  have e : ns.take (k + 1) = ns.take k ++ [x] := by
    obtain ⟨h1, h2⟩ := List.getElem?_eq_some_iff.1 h
    rw [List.take_succ_eq_append_getElem h1, h2]
  rw [gB, gB, e, List.flatMap_append]
  simp

theorem gB_all (ns : List Nd) : gB ns ns.length = graphI (ns.map Nd.tn) := by
  rw [gB, graphI, List.take_length, List.length_map, List.flatMap_map]

theorem gB_len {ns : List Nd} (h : ∀ x ∈ ns, ByteT x.tn) : ∀ k, k ≤ ns.length → (gB ns k).length ≤ 1 + k * 515
  | 0, _ => by simp [gB]
  | k + 1, hk => by
    have ih := gB_len h k (by omega)
    obtain ⟨x, hx⟩ : ∃ x, ns[k]? = some x := ⟨ns[k], List.getElem?_eq_getElem (by omega)⟩
    have h1 := (nodeI_len (h x (List.mem_of_getElem? hx))).1
    rw [gB_succ hx, List.length_append]
    omega

set_option maxHeartbeats 8000000 in
theorem putGraph11_any (A : Option Addr) (n c : Nat) (ns : List Nd) (w : World) (h : NsIn w A n ns) (hn : n ≤ 32) (hB : ∀ x ∈ ns, ByteT x.tn) :
    Calls Tryz.prog 27 #[.agg #[.slice A n c]] w fun e w' => ∃ (A' : Option Addr) (k c' : Nat), e = .returned (.slice A' k c') ∧ w'.ownsRow w.heap.size 5 1 (.slice A' k c') k ((graphI (ns.map Nd.tn)).map (Value.int .u8)) ∧ Below w.heap.size w w' := by
  obtain ⟨i0, hi, hz0, hz1, hz2⟩ := info_parts Tryz.infoB
  have HI := hide hi
  have HZ0 := hide hz0
  have HZ1 := hide hz1
  have HZ2 := hide hz2
  obtain ⟨W0, hW0⟩ : ∃ W0, W0 = w.alloc (.cells #[.slice A n c] 24) := ⟨_, rfl⟩
  have HB0 : Hid (Below w.heap.size w W0) := hide (by rw [hW0]; exact below_al6 (Below.refl _ _))
  have HX : Hid (BoxG W0 w.heap.size (.slice A n c)) := hide (by rw [hW0]; exact BoxG.new w _)
  have HL : Hid (ns.length = n) := hide h.1
  have HN := hide (h.below HB0.out)
  have HBT := hide hB
  have en : IntKind.u8.wrap (n : Int) = (n : Int) := u8_small ⟨by omega, by omega⟩
  obtain ⟨V, hV⟩ : ∃ V, V = W0.alloc (.cells #[.int .u8 (n : Int)] 5) := ⟨_, rfl⟩
  have HBV : Hid (Below W0.heap.size W0 V) := hide (by rw [hV]; exact below_al6 (Below.refl _ _))
  have HRV : Hid (V.ownsRow W0.heap.size 5 1 (.slice (some ⟨W0.heap.size, 0, none⟩) 1 1) 1 ((gB ns 0).map (Value.int .u8))) := hide (by
    have e : gB ns 0 = [(n : Int)] := by rw [gB, HL.out]; rfl
    rw [e]
    refine own_of_block (Nat.le_refl _) (cur := [.int .u8 (n : Int)]) (by rw [hV]; exact heap_alloc_new W0 _) rfl (Nat.le_refl _) (by unfold maxLen; omega) rfl)
  have c0 := HX.out.c0
  have c1 := (HX.out.kept HBV.out).c0
  have hW0' := hW0.symm
  have hV' := hV.symm
  clear hi hz0 hz1 hz2 hW0 h hB hV
  go_enter Tryz.func27, Tryz.ntmps27
  go_wp2
  clear c0 c1 hV' hW0'
  have HBW : Hid (Below w.heap.size w V) := hide (HB0.out.trans (HBV.out.mono HB0.out.size))
  go_loopw [3, 14] (fun v i wr => ∃ (k q : Nat) (A2 : Option Addr) (c2 : Nat), k ≤ n ∧ i = .int .i64 k ∧ v = .slice A2 q c2 ∧ Hid (wr.ownsRow W0.heap.size 5 1 (.slice A2 q c2) q ((gB ns k).map (Value.int .u8))) ∧ Hid (Below W0.heap.size W0 wr)) (fun _ i _ => n - (intOf i).toNat)
  case atStart => exact ⟨0, 1, some ⟨W0.heap.size, 0, none⟩, 1, Nat.zero_le _, rfl, rfl, HRV, HBV⟩
  case round =>
    obtain ⟨k, q, A2, c2, hk, rfl, rfl, HR, HB⟩ := hrel
    have hq : q ≤ 20000 := by
      have h1 := HR.out.1
      have h2 := gB_len HBT.out k (by rw [HL.out]; exact hk)
      rw [List.length_map] at h1
      omega
    by_cases hlt : k < n
    · obtain ⟨b, o, x, rfl, hxk, h0, h1, h2, h3, h4, hxo⟩ := (HN.out.below HB.out).at hlt
      have hbx := HBT.out x (List.mem_of_getElem? hxk)
      have HBX := hide hbx
      have HSU := hide (gB_succ hxk)
      have HXO : Hid (x.Ok W0) := hide (by
        obtain ⟨_, _, x2, _, hx2, _, _, _, _, _, ho2⟩ := HN.out.at hlt
        rw [hxk] at hx2
        cases hx2
        exact ho2)
      have f0 : (0 : Int) ≤ (k : Int) := by omega
      have f1 : (k : Int) < (n : Int) := by omega
      have hki := hxo.2.2.2.2.2.2.1
      have hkt : ((x.tn.kd : Nat) : Int) = x.kd := by show ((x.kd.toNat : Nat) : Int) = x.kd; omega
      have HKT := hide hkt
      have hni : x.xs.length = x.ni := lies_len9 hxo.1
      have hns : x.sh.length = x.ns := lies_len9 hxo.2.1
      have HNI := hide hni
      have HNS := hide hns
      have hI1 : x.ni < 256 := by rw [← hni]; exact hbx.2.1.1
      have hI2 : x.ns < 256 := by rw [← hns]; exact hbx.2.2.1.1
      have eN := u8_small hbx.2.2.2.1
      have eP := u8_small hbx.2.2.2.2
      have eN' : IntKind.u8.wrap x.N = x.N := eN
      have eP' : IntKind.u8.wrap x.P = x.P := eP
      obtain ⟨W1, hW1⟩ : ∃ W1, W1 = wr.alloc (.cells #[.int .u8 x.kd, .slice x.I x.ni x.ci, .slice x.S x.ns x.cs, .int .i64 x.N, .int .i64 x.P] 44) := ⟨_, rfl⟩
      have hs0 := HB.out.size
      have hb1 : Below wr.heap.size wr W1 := by rw [hW1]; exact below_al6 (Below.refl _ _)
      have HN1 : Hid (BoxN W1 wr.heap.size x) := hide (by rw [hW1]; exact BoxN.new wr x)
      have HR1 := hide (own_below HR.out hb1)
      have HB1 := hide (below_nx6 HB.out hb1)
      have hs1 := HB1.out.size
      have hW1' := hW1.symm
      obtain ⟨q0, q1, q2, q3, q4⟩ := HN1.out.cs
      have HX3 : Hid ((W1.alloc (.cells #[.int .u8 x.kd] 5)).cell? ⟨W1.heap.size, 0, none⟩ = some (.int .u8 x.kd)) := hide (by have h := cells_new W1 [.int .u8 x.kd] 5 0 _ rfl; rwa [Addr.add_lit] at h)
      clear hW1 hxk hxo hbx eN eP hb1 hki hkt hni hns
      go_wp2_with (at_builtin; refine wpList_append_one rfl (.tmp 18) (.tmp 21) 30 rfl 5 i0 (.int .u8 0) 1 Tryz.underlying30 HI.out HZ0.out HZ1.out HZ2.out rfl W0.heap.size A2 q c2 ((gB ns k).map (Value.int .u8)) rfl (HR1.out.alloc _) (Nat.le_trans hs1 (by simp)) ⟨W1.heap.size, 0, none⟩ (.int .u8 x.kd) rfl HX3.out rfl (by omega) (by unfold maxLen; omega) ?_)
      intro A3 c3 w3 ho3 hm3
      have hne1 : (Value.slice A2 q c2).ownBlock ≠ some wr.heap.size := fun e => by have := (HR.out.lt _ e).2; omega
      have hk3 : Kept W1 w3 (.slice A2 q c2) (.slice A3 (q + 1) c3) := (Kept.below (below_al6 (Below.refl _ _)) _).trans (Kept.moved hm3)
      have HN3 : Hid (BoxN w3 wr.heap.size x) := hide (hk3.block HN1.out hne1)
      have hne3 := (hk3.2 _ HN1.out.lt hne1).2
      have HO3 : Hid (w3.ownsRow W0.heap.size 5 1 (.slice A3 (q + 1) c3) (q + 1) ((gB ns k ++ [x.kd]).map (Value.int .u8))) := hide (by rw [List.map_append]; exact ho3)
      have HB3 := hide (below_moved (HB1.out.alloc hs1 (.cells #[.int .u8 x.kd] 5)) (Nat.le_trans hs1 (by simp)) (HR1.out.alloc _) hm3)
      have HNE3 := hide hne3
      clear ho3 hm3 HR HR1 HB HB1 HX3 h0 h1 h2 h3 h4 q0 q1 q2 q3 q4 hk3 hne1 hne3 HN1
      obtain ⟨q0, q1, q2, q3, q4⟩ := HN3.out.cs
      have hc1 := putList11_any W0.heap.size A3 x.I (q + 1) c3 x.ni x.ci (gB ns k ++ [x.kd]) x.xs W0 w3 HO3.out HXO.out.1 hI1 HBX.out.2.1.2 HB3.out.size HB3.out (Nat.le_refl _) (by omega)
      have HC1 := hide hc1
      clear hc1
      go_wp2_with fail
      refine Calls.mono HC1.out ?_
      rintro e w4 ⟨A4, c4, rfl, ho4, hb4, hk4⟩
      have HN4 : Hid (BoxN w4 wr.heap.size x) := hide (hk4.block HN3.out HNE3.out)
      have HNE4 := hide (hk4.2 _ HN3.out.lt HNE3.out).2
      have HO4 := hide ho4
      have HB4 : Hid (Below W0.heap.size W0 w4) := hide (HB3.out.trans hb4)
      clear ho4 hb4 hk4 HC1 HO3 HB3 HN3 HNE3 q0 q1 q2 q3 q4
      obtain ⟨q0, q1, q2, q3, q4⟩ := HN4.out.cs
      have hc2 := putList11_any W0.heap.size A4 x.S (q + 1 + 1 + x.ni) c4 x.ns x.cs (gB ns k ++ [x.kd] ++ listI x.xs) x.sh W0 w4 HO4.out HXO.out.2.1 hI2 HBX.out.2.2.1.2 HB4.out.size HB4.out (Nat.le_refl _) (by omega)
      have HC2 := hide hc2
      clear hc2
      go_wp2_with fail
      refine Calls.mono HC2.out ?_
      rintro e w5 ⟨A5, c5, rfl, ho5, hb5, hk5⟩
      have HN5 : Hid (BoxN w5 wr.heap.size x) := hide (hk5.block HN4.out HNE4.out)
      have HO5 := hide ho5
      have HB5 : Hid (Below W0.heap.size W0 w5) := hide (HB4.out.trans hb5)
      clear ho5 hb5 hk5 HC2 HO4 HB4 HN4 HNE4 q0 q1 q2 q3 q4
      obtain ⟨q0, q1, q2, q3, q4⟩ := HN5.out.cs
      have hs5 := HB5.out.size
      have HLT := hide (lit_lies11 w5 .u8 [x.N, x.P] 5)
      have HON : Hid (∀ u ∈ (([x.N, x.P] : List Int).map (Value.int .u8)), u.oneCell' = true) := hide (by intro u hu; obtain ⟨z, _, rfl⟩ := List.mem_map.1 hu; rfl)
      go_wp2_with (at_builtin; refine wpList_append_src rfl (.tmp 31) (.tmp 38) 30 rfl 5 i0 (.int .u8 0) 1 Tryz.underlying30 HI.out HZ0.out HZ1.out HZ2.out rfl W0.heap.size (.slice A5 (q + 1 + 1 + x.ni + 1 + x.ns) c5) (q + 1 + 1 + x.ni + 1 + x.ns) ((gB ns k ++ [x.kd] ++ listI x.xs ++ listI x.sh).map (Value.int .u8)) rfl (HO5.out.alloc _) (Nat.le_trans hs5 (by simp)) (some ⟨w5.heap.size, 0, none⟩) 2 2 (([x.N, x.P] : List Int).map (Value.int .u8)) rfl HLT.out (fun h => by cases h) HON.out (by omega) (by unfold maxLen; omega) ?_)
      intro A6 c6 w6 ho6 hg6
      have HR6 : Hid (w6.ownsRow W0.heap.size 5 1 (.slice A6 (q + 1 + 1 + x.ni + 1 + x.ns + 2) c6) (q + 1 + 1 + x.ni + 1 + x.ns + 2) ((gB ns (k + 1)).map (Value.int .u8))) := hide (by
        have e : gB ns (k + 1) = gB ns k ++ [x.kd] ++ listI x.xs ++ listI x.sh ++ [x.N, x.P] := by
          rw [HSU.out, nodeI, HKT.out]
          show _ = _
          simp [Nd.tn]
        rw [e]
        simpa using ho6)
      have HB6 : Hid (Below W0.heap.size W0 w6) := hide ((HB5.out.alloc hs5 _).grown hg6 (Nat.le_trans hs5 (by simp)) (fun g hgg => (HO5.out.lt g hgg).1))
      clear ho6 hg6 HO5 HB5 HN5 HLT HON q0 q1 q2 q3 q4
      go_wp2
      go_roundw
      case rel => exact ⟨k + 1, _, A6, c6, by omega, by go_num, rfl, HR6, HB6⟩
      case measure => simp [intOf] <;> omega
    · obtain rfl : k = n := by omega
      have f1 : ¬ ((k : Int) < (k : Int)) := by omega
      have hr := own_base HR.out HB0.out.size
      have e : gB ns k = graphI (ns.map Nd.tn) := by rw [← HL.out, gB_all]
      rw [e] at hr
      have HF := hide hr
      clear hr e HR
      go_wp2
      go_ret
      exact ⟨A2, q, c2, rfl, HF.out, HB0.out.trans (HB.out.mono HB0.out.size)⟩

set_option maxHeartbeats 8000000 in
theorem putNumbers11_any (base : Nat) (A D : Option Addr) (n c m d : Nat) (bs l : List Int) (w0 w : World) (ho : w.ownsRow base 5 1 (.slice A n c) n (bs.map (Value.int .u8))) (hn1 : 1 ≤ n) (hl : Lies w0 D m (l.map (Value.int .i32))) (hw : Words l) (hm : m ≤ 100000) (hbase : base ≤ w.heap.size) (hb0 : Below w0.heap.size w0 w) (h0 : w0.heap.size ≤ base) (hn : n ≤ 10000000) :
    Calls Tryz.prog 28 #[.slice A n c, .slice D m d] w fun e w' => ∃ (A' : Option Addr) (c' : Nat), e = .returned (.slice A' (n + 4 * m) c') ∧ w'.ownsRow base 5 1 (.slice A' (n + 4 * m) c') (n + 4 * m) ((bs ++ enc l).map (Value.int .u8)) ∧ Below base w w' := by
  obtain ⟨i0, hi, hz0, hz1, hz2⟩ := info_parts Tryz.infoB
  have HI := hide hi
  have HZ0 := hide hz0
  have HZ1 := hide hz1
  have HZ2 := hide hz2
  obtain ⟨g, rfl⟩ := own_some ho hn1
  have HL := hide hl
  have HLN : Hid (l.length = m) := hide (lies_len9 hl)
  have HB0 := hide hb0
  have hgr := grow_any g n c (4 * m) base (bs.map (Value.int .u8)) w ho hbase (by omega) (by omega)
  have HG := hide hgr
  have HLT := hide (ho.lt g rfl)
  clear hi hz0 hz1 hz2 hl hb0 hgr ho
  go_enter Tryz.func28, Tryz.ntmps28
  go_wp2_with fail
  rw [show (4 : Int) * (m : Int) = ((4 * m : Nat) : Int) from by omega]
  refine Calls.mono HG.out ?_
  rintro e w1 ⟨g1, c1, rfl, ho1, hg1⟩
  have HB1 : Hid (Below base w w1) := hide ((Below.refl base w).grown hg1 hbase (fun b hb => by cases hb; exact HLT.out.1))
  have HO1 := hide ho1
  clear ho1 hg1 HG
  go_wp2
  go_loopw [0, 14] (fun v i wr => ∃ (k q : Nat) (A2 : Option Addr) (c2 : Nat), k ≤ m ∧ q = n + 4 * k ∧ i = .int .i64 k ∧ v = .slice A2 q c2 ∧ Hid (wr.ownsRow base 5 1 (.slice A2 q c2) q ((bs ++ enc (l.take k)).map (Value.int .u8))) ∧ Hid (Below base w wr)) (fun _ i _ => m - (intOf i).toNat)
  case atStart => exact ⟨0, n, some ⟨g1, 0, none⟩, c1, Nat.zero_le _, by omega, rfl, rfl, hide (by simpa [enc] using HO1.out), HB1⟩
  case round =>
    obtain ⟨k, q, A2, c2, hk, hq, rfl, rfl, HR, HB⟩ := hrel
    by_cases hlt : k < m
    · obtain ⟨b, o, rfl, _, hx⟩ := byte_at (HL.out.below (HB0.out.trans (HB.out.mono h0))) (by omega)
      have hc1 := hx k hlt
      obtain ⟨z, hz⟩ : ∃ z, z = l.getD k 0 := ⟨_, rfl⟩
      rw [← hz] at hc1
      have HENC : Hid (enc (l.take (k + 1)) = enc (l.take k) ++ four z) := hide (by rw [take_getD11 (by rw [HLN.out]; exact hlt), ← hz]; simp [enc, List.flatMap_append])
      have f0 : (0 : Int) ≤ (k : Int) := by omega
      have f1 : (k : Int) < (m : Int) := by omega
      have hp := put4 none 0 0 (IntKind.u32.wrap z) [] wr Lies.nothing (by intro u hu; cases hu) (by omega)
      have e1 : encV [IntKind.u32.wrap z] = (four z).map (Value.int .u8) := by simp [encV, enc, four_wrap]
      rw [List.nil_append, e1] at hp
      have HP := hide hp
      have HQ := hide hq
      have hs1 := HB.out.size
      clear hx hz hp e1 hq
      go_wp2_with fail
      refine Calls.mono HP.out ?_
      rintro e w2 ⟨rfl, ho2, hb2⟩
      have HR2 := hide (own_below HR.out hb2)
      have HS2 : Hid (Lies w2 (some ⟨wr.heap.size, 0, none⟩) 4 ((four z).map (Value.int .u8))) := hide (lies_of_own ho2)
      have HB2 : Hid (Below base w w2) := hide (HB.out.trans (hb2.mono (Nat.le_trans hbase hs1)))
      have hs2 := HB2.out.size
      have HON : Hid (∀ u ∈ ((four z).map (Value.int .u8)), u.oneCell' = true) := hide (by intro u hu; obtain ⟨y, _, rfl⟩ := List.mem_map.1 hu; rfl)
      have hqb : q ≤ 20000000 := by have := HQ.out; omega
      clear ho2 hb2 HP
      go_wp2_with (at_builtin; refine wpList_append_src rfl (.tmp 18) (.tmp 21) 30 rfl 5 i0 (.int .u8 0) 1 Tryz.underlying30 HI.out HZ0.out HZ1.out HZ2.out rfl base (.slice A2 q c2) q ((bs ++ enc (l.take k)).map (Value.int .u8)) rfl HR2.out (Nat.le_trans hbase hs2) (some ⟨wr.heap.size, 0, none⟩) 4 4 ((four z).map (Value.int .u8)) rfl HS2.out (fun h => by cases h) HON.out (by omega) (by unfold maxLen; omega) ?_)
      intro A3 c3 w3 ho3 hg3
      have HR3 : Hid (w3.ownsRow base 5 1 (.slice A3 (q + 4) c3) (q + 4) ((bs ++ enc (l.take (k + 1))).map (Value.int .u8))) := hide (by
        rw [HENC.out, List.map_append, List.map_append]
        exact ho3)
      have HB3 : Hid (Below base w w3) := hide (HB2.out.grown hg3 (Nat.le_trans hbase hs2) (fun g hgg => (HR2.out.lt g hgg).1))
      clear ho3 hg3 HR HR2 HB HB2 HS2 HON hc1
      go_wp2
      go_roundw
      case rel => exact ⟨k + 1, q + 4, A3, c3, by omega, by have := HQ.out; omega, by go_num, rfl, HR3, HB3⟩
      case measure => simp [intOf] <;> omega
    · obtain rfl : k = m := by omega
      have f1 : ¬ ((k : Int) < (k : Int)) := by omega
      have hr := HR.out
      rw [List.take_of_length_le (by rw [HLN.out]; exact Nat.le_refl _), hq] at hr
      have HF := hide hr
      subst hq
      clear hr HR
      go_wp2
      go_ret
      exact ⟨A2, c2, rfl, by rw [← List.map_append]; exact HF.out, HB.out⟩

end

end Go.Proofs.YtohndckbhjakfaaGreatDoor

