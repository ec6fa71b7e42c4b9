/- Same of package tensors: its numbers are gone through by a range over a method value. -/
import Derived.Test.YtlalfjlcgabnnaaTen3
namespace Go.Proofs.Ytlalfjlcgabnnaa
open Go.RowKit Go.Shelf
set_option linter.unusedVariables false
set_option linter.unusedSimpArgs false
set_option maxRecDepth 20000
attribute [local go_sem] Oper.semAt_some

set_option maxHeartbeats 1000000 in
theorem tsame_any (A B A' B' : Option Addr) (n c m d n' c' m' d' : Nat) (s l s' l' : List Int) (w : World) (hA : Lies w A n (s.map (Value.int .i64))) (hB : Lies w B m (l.map (Value.int .i32))) (hA' : Lies w A' n' (s'.map (Value.int .i64))) (hB' : Lies w B' m' (l'.map (Value.int .i32)))
    (hn : n ≤ 281474976710656) (hm : m ≤ 281474976710656) :
    Calls Try.prog 15 #[tenV A n c B m d, tenV A' n' c' B' m' d'] w fun e w' => e = .returned (.bool (decide (s = s' ∧ l = l'))) ∧ Below w.heap.size w w' := by
  have HA := hide hA
  have HB := hide hB
  have HA' := hide hA'
  have HB' := hide hB'
  have HL : Hid (l.length = m) := hide (by have := hB.len; simpa using this)
  have HL' : Hid (l'.length = m') := hide (by have := hB'.len; simpa using this)
  clear hA hB hA' hB'
  refine (callsIn_wide (n := 5)).1 ?_
  refine callsIn_of_wp_marks Try.func15 rfl trivial ?_ rfl
  simp only [Try.ntmps15, List.size_toArray, List.length_cons, List.length_nil, Nat.reduceAdd, Nat.reduceSub, Array.replicate_succ, Array.replicate_zero, List.push_toArray, List.append_toArray, List.nil_append, List.cons_append]
  refine wpIn_wide.2 ?_
  go_wp2_with fail
  have h0 := (((Below.refl w.heap.size w).alloc (Nat.le_refl _) (.cells #[.slice A n c, .slice B m d] 28)).alloc (by simp) (.cells #[.slice A' n' c', .slice B' m' d'] 28)).alloc (by simp; omega) (.cells #[.bool false] 4)
  refine Calls.mono (equal_ints A A' n c n' c' s s' _ (HA.out.below h0) (HA'.out.below h0) hn) ?_
  rintro e w1 ⟨rfl, j, hj⟩
  have HB0 : Hid (Below w.heap.size w w1) := hide (by rw [hj]; exact below_drewN h0 j)
  have HX0 : Hid (BoxT w1 w.heap.size (.slice A n c) (.slice B m d)) := hide (by
    rw [hj]; exact ((BoxT.new w _ _).alloc _).alloc _)
  have HX1 : Hid (BoxT w1 (w.heap.size + 1) (.slice A' n' c') (.slice B' m' d')) := hide (by
    rw [hj]
    have h := (BoxT.new (w.alloc (.cells #[.slice A n c, .slice B m d] 28)) (.slice A' n' c') (.slice B' m' d')).alloc (.cells #[.bool false] 4)
    rwa [World.size_alloc] at h)
  have HX2 : Hid (Box1 w1 (w.heap.size + 2) 4 (.bool false)) := hide (by
    rw [hj]
    have h := Box1.new ((w.alloc (.cells #[.slice A n c, .slice B m d] 28)).alloc (.cells #[.slice A' n' c', .slice B' m' d'] 28)) (.bool false) 4
    rwa [World.size_alloc, World.size_alloc] at h)
  clear hj h0
  have c01 := HX0.out.c1
  have c11 := HX1.out.c1
  have c2 := HX2.out.cell
  have f2 := HX2.out.frozen
  have hsz := HB0.out.size
  have lt2 := HX2.out.lt
  by_cases hs : s = s'
  · rw [decide_eq_true hs]
    by_cases hmm : m = m'
    · subst hmm
      go_wp2_with fail
      refine (wpIn_wide (n := 5)).1 ?_
      refine range_numbers 5 m d B (by omega) hm rfl rfl
        (fun k W => (BoxT W (w.heap.size + 1) (.slice A' n' c') (.slice B' m d') ∧ Box1 W (w.heap.size + 2) 4 (.bool false) ∧ l.take k = l'.take k) ∧ Below w.heap.size w W)
        (fun j W => (j = .ret ∧ Box1 W (w.heap.size + 2) 4 (.bool false) ∧ ¬ l = l') ∧ Below w.heap.size w W)
        (OwnFrom.and (fun k X Y row hk hg hr => ⟨heap_own hg hr hk.1 rfl, heap_own hg hr hk.2.1 rfl, hk.2.2⟩) (ownFrom_below (Nat.le_refl _) hsz))
        (OwnFrom.and (fun k X Y row hk hg hr => ⟨hk.1, heap_own hg hr hk.2.1 rfl, hk.2.2⟩) (ownFrom_below (Nat.le_refl _) hsz))
        ⟨⟨HX1.out, HX2.out, rfl⟩, HB0.out⟩
        (fun k W hk hI => by
          obtain ⟨b, o, e, _, hx⟩ := byte_at (HB.out.below hI.2) (by omega)
          exact ⟨_, b, o, e, hx k hk⟩)
        (fun k z => { tmps := #[tenV A n c B m d, tenV A' n' c' B' m d', .pointer (some ⟨w.heap.size, 0, none⟩), .pointer (some ⟨w.heap.size + 1, 0, none⟩), .pointer (some ⟨w.heap.size + 1 + 1, 0, none⟩), .int .i64 (k : Int), .int .i32 z,
          .pointer (some ⟨w.heap.size, 0, none⟩), .slice A n c, .pointer (some ⟨w.heap.size + 1, 0, none⟩), .slice A' n' c', .bool true, .bool false, .bool false, .pointer (some ⟨w.heap.size, 1, none⟩), .slice B m d, .int .i64 (m : Int),
          .pointer (some ⟨w.heap.size + 1, 1, none⟩), .slice B' m d', .int .i64 (m : Int), .bool false, .bool false, .pointer (some ⟨w.heap.size, 1, none⟩), .slice B m d, .func (.func 26) #[.slice B m d] #[], .int .i64 (k : Int), .int .i32 z, undef, undef, undef, undef, undef, undef, undef], defers := [] }) ?assign ?body ?done ?stop
      case assign =>
        intro l k z W K hK
        gi_wp2
        exact hK
      case body =>
        rintro q k z W hk ⟨⟨hx1, hx2, ht⟩, hb⟩ ⟨b, o, rfl, hc⟩
        obtain ⟨b1, o1, e1, _, hx⟩ := byte_at (HB.out.below hb) (by omega)
        cases e1
        have hz : z = l.getD k 0 := by
          have := (hx k hk).symm.trans hc
          injection this with this
          injection this with _ this
          exact this.symm
        obtain ⟨b', o', rfl, _, hy⟩ := byte_at (HB'.out.below hb) (by omega)
        obtain ⟨u, hu⟩ : ∃ u, u = l'.getD k 0 := ⟨_, rfl⟩
        have hc2 : W.cell? ⟨b', o' + k, none⟩ = some (.int .i32 u) := by rw [hu]; exact hy k hk
        have hcb := hx1.c1
        have hc3 := hx2.cell
        have hf3 := hx2.frozen
        have HB1 := hide hb
        have HZ := hide hz
        have HU := hide hu
        have HT := hide ht
        have HX := hide hx1
        have HXX := hide hx2
        have h3 : (k : Int) < (m : Int) := by omega
        clear hx hy hz hu ht hb hx1 hx2 hc
        by_cases he : z = u
        · subst he
          have HN : Hid (l.take (k + 1) = l'.take (k + 1)) := hide (take_more (by rw [HL.out]; exact hk) (by rw [HL'.out]; exact hk) HT.out (by rw [← HZ.out, ← HU.out]))
          gi_wp2
          exact ⟨KeepsFrom.refl _ _, ⟨HX.out, HXX.out, HN.out⟩, HB1.out⟩
        · have HN : Hid (¬ l = l') := hide (by intro e; rw [HZ.out, HU.out, e] at he; exact he rfl)
          have hb1 : (z == u) = false := beq_eq_false_iff_ne.2 he
          gi_wp2
          exact ⟨(KeepsOthers.setCell _ _ _).from _, ⟨rfl, HXX.out.set _, HN.out⟩, HB1.out.setCell (by simp; omega) _⟩
      case done =>
        rintro D W hD ⟨⟨hx1, hx2, ht⟩, hb⟩ hK
        have hc3 := hx2.cell
        have hf3 := hx2.frozen
        have hlt := lt_of_heap hK
        have HE := hide (take_end HL.out HL'.out ht)
        go_wp2
        have hK2 := (KeepsOthers.setCell W ⟨w.heap.size + 2, 0, none⟩ (.bool true)).same D _ hK rfl
        have hxx := heap_put (x := .deferred none) hK2 rfl (hx2.set (.bool true)) rfl
        have hcc : ((W.setCell ⟨w.heap.size + 2, 0, none⟩ (.bool true)).putObj D (.deferred none)).cell? ⟨w.heap.size + 2, 0, none⟩ = some (.bool true) := Box1.cell hxx
        refine markRet (v := .bool true) rfl hK2 (by simp [results, Try.f15, go_sem, hcc]) ⟨by rw [decide_eq_true ⟨hs, HE.out⟩], ?_⟩
        exact below_put (hb.setCell (by simp) _) (by omega) (lt_of_heap hK2) _
      case stop =>
        rintro D j W hD ⟨⟨rfl, hx2, hne⟩, hb⟩ hK
        have hxx := heap_put (x := .deferred none) hK rfl hx2 rfl
        have hcc : (W.putObj D (.deferred none)).cell? ⟨w.heap.size + 2, 0, none⟩ = some (.bool false) := Box1.cell hxx
        have HN : Hid (decide (s = s' ∧ l = l') = false) := hide (decide_eq_false (by rintro ⟨_, e⟩; exact hne e))
        refine wpIn_wide.2 ?_
        go_wp2
        refine markRet (v := .bool false) rfl hK (by simp [results, Try.f15, go_sem, hcc]) ⟨by rw [HN.out], ?_⟩
        exact below_put hb (by omega) (lt_of_heap hK) _
    · have hb1 : ((m : Int) == (m' : Int)) = false := beq_eq_false_iff_ne.2 (by omega)
      have HN : Hid (decide (s = s' ∧ l = l') = false) := hide (decide_eq_false (by rintro ⟨_, e⟩; rw [← HL.out, ← HL'.out, e] at hmm; exact hmm rfl))
      go_wp2_with fail
      have hb := HX2.out.set (.bool false)
      have hc3 := hb.cell
      refine plainRet rfl (v := .bool false) (by simp [results, Try.f15, go_sem, hc3]) ⟨by rw [HN.out], HB0.out.setCell (by simp; omega) _⟩
  · rw [decide_eq_false hs]
    have HN : Hid (decide (s = s' ∧ l = l') = false) := hide (decide_eq_false (by rintro ⟨e, _⟩; exact hs e))
    go_wp2_with fail
    have hb := HX2.out.set (.bool false)
    have hc3 := hb.cell
    refine plainRet rfl (v := .bool false) (by simp [results, Try.f15, go_sem, hc3]) ⟨by rw [HN.out], HB0.out.setCell (by simp; omega) _⟩

end Go.Proofs.Ytlalfjlcgabnnaa
