/- Contracts of TwinNodes and TwinGraph. -/
import Derived.Test.YtdlhhkegkfhmoaaTw10M
namespace Go.Proofs.Ytdlhhkegkfhmoaa
open Go.RowKit
set_option linter.unusedVariables false
set_option linter.unusedSimpArgs false
set_option maxRecDepth 100000

/-- A node without where its lists lie. -/
def pl (x : Nd) : Nd := { x with I := none, ni := 0, ci := 0, S := none, ns := 0, cs := 0 }

/-- No two nodes' lists share a block. -/
def TwAp (ts : List Nd) : Prop := ts.Pairwise (fun t u => ∀ h g, t.S = some ⟨h, 0, none⟩ → u.I = some ⟨g, 0, none⟩ → h < g)

/-- The cells of the mark behind a list of nodes. -/
def mark5 : List Value := [.int .u8 0, .slice none 0 0, .slice none 0 0, .int .i64 77, .int .i64 0]

/-- A list of nodes of the call's own, a mark behind it. -/
def TwAll (w : World) (base g n : Nat) (ns ts : List Nd) : Prop :=
  ts.map pl = ns.map pl ∧ ts.length = n ∧ w.ownsRow base 35 5 (.slice (some ⟨g, 0, none⟩) (n + 1) (n + 1)) (n + 1) (cellsN ts ++ mark5) ∧ (∀ t ∈ ts, TwNd w (g + 1) t) ∧ TwAp ts

theorem TwAll.below {w w' : World} {base g n : Nat} {ns ts : List Nd} (h : TwAll w base g n ns ts) (hb : Below w.heap.size w w') : TwAll w' base g n ns ts :=
  ⟨h.1, h.2.1, own_keep10 h.2.2.1 hb, fun t ht => (h.2.2.2.1 t ht).below hb, h.2.2.2.2⟩

theorem TwAll.base {w : World} {b b' g n : Nat} {ns ts : List Nd} (h : TwAll w b g n ns ts) (hb : b' ≤ b) : TwAll w b' g n ns ts :=
  ⟨h.1, h.2.1, ⟨h.2.2.1.1, by
    rcases h.2.2.1.2 with e | ⟨q, cap, cur, e, h1, r⟩
    · exact .inl e
    · exact .inr ⟨q, cap, cur, e, by omega, r⟩⟩, h.2.2.2⟩

theorem TwAll.lt {w : World} {base g n : Nat} {ns ts : List Nd} (h : TwAll w base g n ns ts) : base ≤ g ∧ g < w.heap.size := h.2.2.1.lt g rfl

theorem TwAll.ns {w : World} {base g n : Nat} {ns ts : List Nd} (h : TwAll w base g n ns ts) : NsIn w (some ⟨g, 0, none⟩) n ts :=
  ⟨h.2.1, fun hn => by
    obtain ⟨g', e, _, hg, hx⟩ := ownN_cells h.2.2.1 (by omega)
    injection e with e
    injection e with e
    subst e
    refine ⟨g, 0, rfl, hg, fun j x hj => ?_⟩
    have hjl := (List.getElem?_eq_some_iff.1 hj).1
    obtain ⟨h0, h1, h2, h3, h4⟩ := cellsN_at ts j x hj
    have hl := cellsN_len ts
    have k : ∀ i, i < ts.length * 5 → ∀ u, (cellsN ts)[i]? = some u → w.cell? ⟨g, i, none⟩ = some u := fun i hi u hu => hx i u (by rw [List.getElem?_append_left (by omega)]; exact hu)
    rw [Nat.zero_add]
    exact ⟨k _ (by omega) _ h0, k _ (by omega) _ h1, k _ (by omega) _ h2, k _ (by omega) _ h3, k _ (by omega) _ h4, (h.2.2.2.1 x (List.mem_of_getElem? hj)).ok⟩⟩

theorem pl_len {ns ts : List Nd} (h : ts.map pl = ns.map pl) : ts.length = ns.length := by
  have := congrArg List.length h
  simpa using this

theorem twinApp {w w1 w2 : World} {g k : Nat} {ns ts : List Nd} {x : Nd} {a b : Nat} (hx : ns[k]? = some x) (hp : ts.map pl = (ns.take k).map pl) (hts : ∀ t ∈ ts, TwNd w (g + 1) t) (hap : TwAp ts) (hb : Below w.heap.size w w1) (ht : TwNd w1 w.heap.size (twN a b x)) (hg : w1.grownBy w2 (some g)) (hgw : g + 1 ≤ w.heap.size) :
    (ts ++ [twN a b x]).map pl = (ns.take (k + 1)).map pl ∧ (∀ t ∈ ts ++ [twN a b x], TwNd w2 (g + 1) t) ∧ TwAp (ts ++ [twN a b x]) := by
  refine ⟨?_, fun t htm => ?_, ?_⟩
  · rw [take_oneN hx, List.map_append, List.map_append, hp]; rfl
  · have hne : ∀ (t : Nd) (bs : Nat) (v : World), TwNd v bs t → g + 1 ≤ bs → ∀ q, some g = some q → (t.I ≠ some ⟨q, 0, none⟩ ∧ t.S ≠ some ⟨q, 0, none⟩) := fun t bs v h hbs q hq => by
      injection hq with hq
      subst hq
      exact ⟨fun e => by have := (h.spot g (.inl e)).1; omega, fun e => by have := (h.spot g (.inr e)).1; omega⟩
    rcases List.mem_append.1 htm with h | h
    · exact ((hts t h).below hb).kept hg (hne t (g + 1) w1 ((hts t h).below hb) (Nat.le_refl _))
    · rw [List.mem_singleton.1 h]
      exact (ht.kept hg (hne _ w.heap.size w1 ht hgw)).base hgw
  · unfold TwAp
    rw [List.pairwise_append]
    refine ⟨hap, List.pairwise_singleton _ _, fun t htm u hu q p e1 e2 => ?_⟩
    rw [List.mem_singleton.1 hu] at e2
    have h1 := ((hts t htm).spot q (.inr e1)).2
    have h2 := (ht.spot p (.inl e2)).1
    omega

set_option maxHeartbeats 4000000 in
theorem twinNodes_any (A : Option Addr) (n c : Nat) (ns : List Nd) (w : World) (h : NsIn w A n ns) (hsz : ∀ x ∈ ns, x.ni ≤ 1073741824 ∧ x.ns ≤ 1073741824) (hn : n ≤ 1048576) :
    Calls Try.prog 28 #[.slice A n c] w fun e w' => e = .returned (.slice (some ⟨w.heap.size, 0, none⟩) n (n + 1)) ∧ (∃ ts, TwAll w' w.heap.size w.heap.size n ns ts) ∧ Below w.heap.size w w' := by
  obtain ⟨i0, hi, hz0, hz1, hz2⟩ := info_parts infoN10
  have hb2 : i0.bytes * (n + 1) ≤ 281474976710656 := by rw [hz2]; omega
  have HI := hide hi
  have HZ0 := hide hz0
  have HZ1 := hide hz1
  have HB2 := hide hb2
  have HN := hide h
  have HSZ := hide hsz
  clear hi hz0 hz1 hz2 hb2 h hsz
  go_enter Try.func28, Try.ntmps28
  have r1 : IntKind.i64.wrap ((n : Int) + 1) = ((n + 1 : Nat) : Int) := by rw [IntKind.wrap_i64]; omega
  go_wp2_with (at_make; refine wpList_make_own _ rfl _ _ 22 rfl w.heap.size 35 i0 (.agg #[.int .u8 0, .slice none 0 0, .slice none 0 0, .int .i64 0, .int .i64 0]) 5 Try.underlying22 HI.out HZ0.out HZ1.out _ _ _ (n + 1) rfl rfl (by omega) HB2.out (by unfold maxLen; omega) (Nat.le_refl _) ?_)
  intro w1 ho1 hg1
  have HO1 := hide ho1
  have HB1 := hide ((Below.refl w.heap.size w).grown hg1 (Nat.le_refl _) (by simp))
  clear ho1 hg1
  go_wp2
  go_loopw [3, 4] (fun v i wr => ∃ (k : Nat) (ts : List Nd), k ≤ n ∧ i = .int .i64 k ∧ v = .slice (some ⟨w.heap.size, 0, none⟩) k (n + 1) ∧ Hid (wr.ownsRow w.heap.size 35 5 (.slice (some ⟨w.heap.size, 0, none⟩) k (n + 1)) k (cellsN ts)) ∧ Hid (ts.map pl = (ns.take k).map pl ∧ (∀ t ∈ ts, TwNd wr (w.heap.size + 1) t) ∧ TwAp ts) ∧ Hid (Below w.heap.size w wr ∧ w.heap.size + 1 ≤ wr.heap.size)) (fun _ i _ => n - (intOf i).toNat)
  case atStart => exact ⟨0, [], Nat.zero_le _, rfl, rfl, HO1, hide ⟨rfl, (fun t ht => by cases ht), List.Pairwise.nil⟩, hide ⟨HB1.out, by have := (HO1.out.lt w.heap.size rfl).2; omega⟩⟩
  case round =>
    obtain ⟨k, ts, hk, rfl, rfl, HR, HT, HB⟩ := hrel
    have hsr := HB.out.1.size
    have hgr1 := HB.out.2
    by_cases hlt : k < n
    · obtain ⟨bA, oA, x, rfl, hxk, h0, h1, h2, h3, h4, hxo⟩ := (HN.out.below HB.out.1).at hlt
      have HXK := hide hxk
      have f0 : (0 : Int) ≤ (k : Int) := by omega
      have f1 : (k : Int) < (n : Int) := by omega
      have hxs := HSZ.out x (List.mem_of_getElem? hxk)
      have HTW := hide (twinNode_any x wr hxo hxs.1 hxs.2)
      simp only [Nd.v, twN] at HTW
      clear hxk hxo hxs
      go_wp2_with fail
      refine Calls.mono HTW.out ?_
      rintro e w2 ⟨a, b, rfl, ht, hb⟩
      have HTN := hide ht
      have HR2 := hide (own_keep10 HR.out hb)
      have HB2 := hide hb
      have hs2 : wr.heap.size ≤ w2.heap.size := hb.size
      have HNEW := hide (cells_new w2 (twN a b x).five 35)
      simp only [twN, Nd.five] at HNEW
      clear ht hb HTW h0 h1 h2 h3 h4
      go_wp2_with (at_builtin; refine wpList_append_fits _ rfl (.tmp 15) (.tmp 21) 22 rfl w.heap.size 35 i0 5 Try.underlying22 HI.out HZ1.out w.heap.size k (n + 1) (cellsN ts) rfl (own_keep10 HR2.out (below_al6 (Below.refl _ _))) ⟨w2.heap.size, 0, none⟩ 1 1 (twN a b x).five rfl rfl HNEW.out (by intro u hu; simp only [twN, Nd.five, List.mem_cons, List.not_mem_nil, or_false] at hu; rcases hu with rfl | rfl | rfl | rfl | rfl <;> rfl) (by omega) ?_)
      intro w3 ho3 hg3
      have hA := twinApp HXK.out HT.out.1 HT.out.2.1 HT.out.2.2 (below_al6 (o := .cells (twN a b x).five.toArray 35) HB2.out) (HTN.out.below (below_al6 (Below.refl _ _))) hg3 hgr1
      have HR3 : Hid (w3.ownsRow w.heap.size 35 5 (.slice (some ⟨w.heap.size, 0, none⟩) (k + 1) (n + 1)) (k + 1) (cellsN (ts ++ [twN a b x]))) := hide (by
        rw [cellsN_append]
        have e : cellsN [twN a b x] = (twN a b x).five := by simp [cellsN]
        rw [e]
        exact ho3)
      have HT3 := hide hA
      have HB3 : Hid (Below w.heap.size w w3 ∧ w.heap.size + 1 ≤ w3.heap.size) := hide ⟨(below_nx6 HB.out.1 (below_al6 HB2.out)).grown hg3 (below_nx6 HB.out.1 (below_al6 HB2.out)).size (fun q hq => by injection hq with hq; omega), Nat.le_trans hgr1 (Nat.le_trans (below_al6 HB2.out).size hg3.size)⟩
      clear ho3 hg3 hA HR2 HTN HNEW HB2 hs2
      go_wp2
      go_roundw
      case rel => exact ⟨k + 1, _, by omega, by go_num, rfl, HR3, HT3, HB3⟩
      case measure => simp [intOf] <;> omega
    · obtain rfl : k = n := by omega
      have f1 : ¬ ((k : Int) < (k : Int)) := by omega
      have HNEW := hide (cells_new wr mark5 35)
      simp only [mark5] at HNEW
      go_wp2_with (at_builtin; refine wpList_append_fits _ rfl (.tmp 23) (.tmp 25) 22 rfl w.heap.size 35 i0 5 Try.underlying22 HI.out HZ1.out w.heap.size k (k + 1) (cellsN ts) rfl (own_keep10 HR.out (below_al6 (Below.refl _ _))) ⟨wr.heap.size, 0, none⟩ 1 1 mark5 rfl rfl HNEW.out (by intro u hu; simp only [mark5, List.mem_cons, List.not_mem_nil, or_false] at hu; rcases hu with rfl | rfl | rfl | rfl | rfl <;> rfl) (by omega) ?_)
      intro w3 ho3 hg3
      have HF : Hid ((∃ ts, TwAll w3 w.heap.size w.heap.size k ns ts) ∧ Below w.heap.size w w3) := hide ⟨⟨ts, by
        have hall : ns.take k = ns := List.take_of_length_le (by rw [HN.out.1]; exact Nat.le_refl _)
        have hp := HT.out.1
        rw [hall] at hp
        refine ⟨hp, by rw [pl_len hp, HN.out.1], ho3, fun t ht => ?_, HT.out.2.2⟩
        have h1 := HT.out.2.1 t ht
        exact (h1.below (below_al6 (Below.refl _ _))).kept hg3 (fun q hq => by
          injection hq with hq
          subst hq
          exact ⟨fun e => by have := (h1.spot _ (.inl e)).1; omega, fun e => by have := (h1.spot _ (.inr e)).1; omega⟩)⟩, (below_al6 HB.out.1).grown hg3 (below_al6 HB.out.1).size (fun q hq => by injection hq with hq; omega)⟩
      have q1 : (k : Int) ≤ (k : Int) + 1 := by omega
      clear ho3 hg3 HNEW
      go_wp2
      go_ret
      exact ⟨rfl, HF.out⟩

set_option maxHeartbeats 1000000 in
theorem twinGraph_any (A : Option Addr) (n c : Nat) (ns : List Nd) (w : World) (h : NsIn w A n ns) (hsz : ∀ x ∈ ns, x.ni ≤ 1073741824 ∧ x.ns ≤ 1073741824) (hn : n ≤ 1048576) :
    Calls Try.prog 17 #[.agg #[.slice A n c]] w fun e w' => ∃ g ts, e = .returned (.agg #[.slice (some ⟨g, 0, none⟩) n (n + 1)]) ∧ TwAll w' w.heap.size g n ns ts ∧ Below w.heap.size w w' := by
  obtain ⟨W1, hW1⟩ : ∃ W, W = w.alloc (.cells #[.slice A n c] 24) := ⟨_, rfl⟩
  obtain ⟨W0, hW0⟩ : ∃ W, W = W1.alloc (.cells #[.slice none 0 0] 24) := ⟨_, rfl⟩
  have s1 : W1.heap.size = w.heap.size + 1 := by rw [hW1]; simp
  have s0 : W0.heap.size = w.heap.size + 1 + 1 := by rw [hW0]; simp [s1]
  have HB0 : Hid (Below w.heap.size w W0) := hide (by rw [hW0, hW1]; exact below_al6 (below_al6 (Below.refl _ _)))
  have g1 : BoxG W1 w.heap.size (.slice A n c) := by rw [hW1]; exact BoxG.new w _
  have g3 : BoxG W0 (w.heap.size + 1) (.slice none 0 0) := by rw [← s1, hW0]; exact BoxG.new W1 _
  have c0 := (g1.kept (by rw [hW0]; exact below_al6 (Below.refl _ _) : Below W1.heap.size W1 W0)).c0
  have HGR := hide g3
  have HC := hide (twinNodes_any A n c ns W0 (h.below HB0.out) hsz hn)
  have HS0 := hide s0
  rw [hW1] at hW0
  have hW0' := hW0.symm
  clear hW0 hW1 s1 s0 g1 g3 h hsz
  go_enter Try.func17, Try.ntmps17
  go_wp2_with fail
  refine Calls.mono HC.out ?_
  rintro e w1 ⟨rfl, ⟨ts, ht⟩, hb⟩
  have HGR2 := hide (HGR.out.kept hb)
  have z0 := HGR2.out.c0
  have z1 := HGR2.out.f0 0
  obtain ⟨g, hg⟩ : ∃ g, g = W0.heap.size := ⟨_, rfl⟩
  have HF : Hid (TwAll (w1.setCell ⟨w.heap.size + 1, 0, none⟩ (.slice (some ⟨g, 0, none⟩) n (n + 1))) w.heap.size g n ns ts ∧ Below w.heap.size w (w1.setCell ⟨w.heap.size + 1, 0, none⟩ (.slice (some ⟨g, 0, none⟩) n (n + 1)))) := hide (by
    have hs := HS0.out
    rw [← hg] at ht
    have hgr := grown_set w1 (w.heap.size + 1) 0 (.slice (some ⟨g, 0, none⟩) n (n + 1))
    refine ⟨TwAll.base (b := g) ⟨ht.1, ht.2.1, ht.2.2.1.kept hgr (.inr (by simp only [Value.ownBlock]; intro e; injection e with e; omega)), fun t htm => (ht.2.2.2.1 t htm).kept hgr (fun q hq => by
        injection hq with hq
        subst hq
        exact ⟨fun e => by have := ((ht.2.2.2.1 t htm).spot _ (.inl e)).1; omega, fun e => by have := ((ht.2.2.2.1 t htm).spot _ (.inr e)).1; omega⟩), ht.2.2.2.2⟩ (by omega), ?_⟩
    exact (HB0.out.trans (hb.mono HB0.out.size)).setCell (by dsimp only; omega) _)
  rw [← hg]
  clear hg ht hb HC c0
  go_wp2
  (try simp only [Exit.inBlock, Exit.then])
  refine ret_gr (p := 2) rfl rfl (w.heap.size + 1) _ rfl (HGR2.out.set _) rfl ?_
  exact ⟨g, ts, rfl, HF.out⟩

end Go.Proofs.Ytdlhhkegkfhmoaa
