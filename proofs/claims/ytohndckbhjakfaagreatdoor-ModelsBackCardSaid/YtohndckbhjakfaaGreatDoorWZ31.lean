/- Merged: Kn11, Tx12, Tx14. -/
import Derived.Test.YtohndckbhjakfaaGreatDoorWZ23
import Derived.Test.YtohndckbhjakfaaGreatDoorWZ01
import Derived.Test.YtohndckbhjakfaaGreatDoorWZ29
import Derived.Test.YtohndckbhjakfaaGreatDoorWZ30
import Derived.Test.YtohndckbhjakfaaGreatDoorWZ26
import Derived.Test.YtohndckbhjakfaaGreatDoorWZ27
namespace Go.Proofs.YtohndckbhjakfaaGreatDoor

section
open Go.RowKit
set_option linter.unusedVariables false
set_option linter.unusedSimpArgs false
set_option maxRecDepth 100000

set_option maxHeartbeats 2000000 in
theorem known11_any (w : World) : Calls Tryz.prog 21 #[] w fun e w' => e = .returned (.agg #[.slice (some ⟨w.heap.size + 5, 0, none⟩) 4 4]) ∧ NsIn w' (some ⟨w.heap.size + 5, 0, none⟩) 4 (knN w.heap.size) ∧ Below w.heap.size w w' := by
  obtain ⟨q, hq⟩ : ∃ q, q = w.heap.size := ⟨_, rfl⟩
  obtain ⟨W1, hW1⟩ : ∃ W, W = w.alloc (.cells #[.slice none 0 0] 24) := ⟨_, rfl⟩
  obtain ⟨W2, hW2⟩ : ∃ W, W = W1.alloc (.cells #[.int .i64 2, .int .i64 3] 3) := ⟨_, rfl⟩
  obtain ⟨W3, hW3⟩ : ∃ W, W = W2.alloc (.cells #[.int .i64 3, .int .i64 2] 3) := ⟨_, rfl⟩
  obtain ⟨W4, hW4⟩ : ∃ W, W = W3.alloc (.cells #[.int .i64 0, .int .i64 1] 3) := ⟨_, rfl⟩
  obtain ⟨W5, hW5⟩ : ∃ W, W = W4.alloc (.cells #[.int .i64 2] 3) := ⟨_, rfl⟩
  obtain ⟨W6, hW6⟩ : ∃ W, W = W5.alloc (.cells #[.int .u8 1, .slice none 0 0, .slice (some ⟨q + 1, 0, none⟩) 2 2, .int .i64 0, .int .i64 0, .int .u8 2, .slice none 0 0, .slice (some ⟨q + 1 + 1, 0, none⟩) 2 2, .int .i64 0, .int .i64 0, .int .u8 7, .slice (some ⟨q + 1 + 1 + 1, 0, none⟩) 2 2, .slice none 0 0, .int .i64 0, .int .i64 0, .int .u8 5, .slice (some ⟨q + 1 + 1 + 1 + 1, 0, none⟩) 1 1, .slice none 0 0, .int .i64 0, .int .i64 0] 44) := ⟨_, rfl⟩
  have s1 : W1.heap.size = q + 1 := by rw [hW1, hq]; simp
  have s2 : W2.heap.size = q + 2 := by rw [hW2]; simp [s1]
  have s3 : W3.heap.size = q + 3 := by rw [hW3]; simp [s2]
  have s4 : W4.heap.size = q + 4 := by rw [hW4]; simp [s3]
  have s5 : W5.heap.size = q + 5 := by rw [hW5]; simp [s4]
  have b1 : Below q w W1 := by rw [hW1]; exact (Below.refl q w).alloc (by omega) _
  have b2 : Below (q + 1) W1 W2 := by rw [hW2]; exact (Below.refl (q + 1) W1).alloc (by omega) _
  have b3 : Below (q + 2) W2 W3 := by rw [hW3]; exact (Below.refl (q + 2) W2).alloc (by omega) _
  have b4 : Below (q + 3) W3 W4 := by rw [hW4]; exact (Below.refl (q + 3) W3).alloc (by omega) _
  have b5 : Below (q + 4) W4 W5 := by rw [hW5]; exact (Below.refl (q + 4) W4).alloc (by omega) _
  have b6 : Below (q + 5) W5 W6 := by rw [hW6]; exact (Below.refl (q + 5) W5).alloc (by omega) _
  have l2 : Lies W2 (some ⟨q + 1, 0, none⟩) 2 (([2, 3] : List Int).map (Value.int .i64)) := by have h := lit_lies W1 .i64 [2, 3] 3; rw [s1] at h; rw [hW2]; exact h
  have l3 : Lies W3 (some ⟨q + 2, 0, none⟩) 2 (([3, 2] : List Int).map (Value.int .i64)) := by have h := lit_lies W2 .i64 [3, 2] 3; rw [s2] at h; rw [hW3]; exact h
  have l4 : Lies W4 (some ⟨q + 3, 0, none⟩) 2 (([0, 1] : List Int).map (Value.int .i64)) := by have h := lit_lies W3 .i64 [0, 1] 3; rw [s3] at h; rw [hW4]; exact h
  have l5 : Lies W5 (some ⟨q + 4, 0, none⟩) 1 (([2] : List Int).map (Value.int .i64)) := by have h := lit_lies W4 .i64 [2] 3; rw [s4] at h; rw [hW5]; exact h
  have e6 : W6.heap[q + 5]? = some (.cells #[.int .u8 1, .slice none 0 0, .slice (some ⟨q + 1, 0, none⟩) 2 2, .int .i64 0, .int .i64 0, .int .u8 2, .slice none 0 0, .slice (some ⟨q + 1 + 1, 0, none⟩) 2 2, .int .i64 0, .int .i64 0, .int .u8 7, .slice (some ⟨q + 1 + 1 + 1, 0, none⟩) 2 2, .slice none 0 0, .int .i64 0, .int .i64 0, .int .u8 5, .slice (some ⟨q + 1 + 1 + 1 + 1, 0, none⟩) 1 1, .slice none 0 0, .int .i64 0, .int .i64 0] 44 (0, 0)) := by rw [hW6, ← s5]; exact heap_alloc_new W5 _
  have HB6 : Hid (Below q w W6) := hide (((((b1.trans (b2.mono (by omega))).trans (b3.mono (by omega))).trans (b4.mono (by omega))).trans (b5.mono (by omega))).trans (b6.mono (by omega)))
  have hs2 : W2.heap.size = q + 2 := s2
  have HN6 : Hid (∀ v : World, q + 6 ≤ v.heap.size → (∀ k, q < k → k < q + 6 → v.heap[k]? = W6.heap[k]?) → NsIn v (some ⟨q + 5, 0, none⟩) 4 (knN q) ) := hide (fun v hsz hbk => by
    have s6 : W6.heap.size = q + 6 := by rw [hW6]; simp [s5]
    have hk : ∀ (g : Nat) (n : Nat) (l : List Value), q < g → g < q + 6 → Lies W6 (some ⟨g, 0, none⟩) n l → Lies v (some ⟨g, 0, none⟩) n l := fun g n l h1 h2 h => h.keep (by omega) (fun b o e _ j => by cases e; exact World.cell?_of_block (hbk g h1 h2))
    have L2 := hk _ _ _ (by omega) (by omega) (((((l2.below (by rw [s2]; exact b3)).below (by rw [s3]; exact b4)).below (by rw [s4]; exact b5)).below (by rw [s5]; exact b6)))
    have L3 := hk _ _ _ (by omega) (by omega) ((((l3.below (by rw [s3]; exact b4)).below (by rw [s4]; exact b5)).below (by rw [s5]; exact b6)))
    have L4 := hk _ _ _ (by omega) (by omega) (((l4.below (by rw [s4]; exact b5)).below (by rw [s5]; exact b6)))
    have L5 := hk _ _ _ (by omega) (by omega) ((l5.below (by rw [s5]; exact b6)))
    have ev := (hbk (q + 5) (by omega) (by omega)).trans e6
    have c := fun (k : Nat) => cell_of_row v (q + 5) k _ _ (0, 0) ev
    refine ⟨rfl, fun _ => ⟨q + 5, 0, rfl, by omega, fun j x hj => ?_⟩⟩
    match j, hj with
    | 0, hj => cases hj; exact ⟨c 0, c 1, c 2, c 3, c 4, Lies.nothing, L2, Nat.le_refl _, Nat.le_refl _, by dsimp only; decide, by dsimp only; decide, by dsimp only; decide, by dsimp only; decide, by dsimp only; decide⟩
    | 1, hj => cases hj; exact ⟨c 5, c 6, c 7, c 8, c 9, Lies.nothing, L3, Nat.le_refl _, Nat.le_refl _, by dsimp only; decide, by dsimp only; decide, by dsimp only; decide, by dsimp only; decide, by dsimp only; decide⟩
    | 2, hj => cases hj; exact ⟨c 10, c 11, c 12, c 13, c 14, L4, Lies.nothing, Nat.le_refl _, Nat.le_refl _, by dsimp only; decide, by dsimp only; decide, by dsimp only; decide, by dsimp only; decide, by dsimp only; decide⟩
    | 3, hj => cases hj; exact ⟨c 15, c 16, c 17, c 18, c 19, L5, Lies.nothing, Nat.le_refl _, Nat.le_refl _, by dsimp only; decide, by dsimp only; decide, by dsimp only; decide, by dsimp only; decide, by dsimp only; decide⟩
    | j + 4, hj => simp [knN] at hj)
  have hc0 : BoxG W6 q (.slice none 0 0) := by
    have h : BoxG W1 q (.slice none 0 0) := by rw [hW1, hq]; exact BoxG.new w _
    unfold BoxG at h ⊢
    rw [b6.block q (by omega), b5.block q (by omega), b4.block q (by omega), b3.block q (by omega), b2.block q (by omega)]
    exact h
  have HG := hide hc0
  have HS6 : Hid (W6.heap.size = q + 6) := hide (by rw [hW6]; simp [s5])
  have hf := hc0.f0 0
  have hc := hc0.c0
  rw [← hq]
  have hq' := hq.symm
  rw [hW5, hW4, hW3, hW2, hW1] at hW6
  have hW6' := hW6.symm
  clear hW1 hW2 hW3 hW4 hW5 hW6 s1 s2 s3 s4 s5 b1 b2 b3 b4 b5 b6 l2 l3 l4 l5 e6 hq hc0 hs2
  go_enter Tryz.func21, Tryz.ntmps21
  go_wp2
  (try simp only [Exit.inBlock, Exit.then])
  refine ret_gr (p := 0) rfl rfl q _ rfl (HG.out.set _) rfl ?_
  exact ⟨rfl, HN6.out _ (by simp [World.setCell, HS6.out]) (fun k h1 h2 => heap_setCell_other _ _ _ _ (by dsimp only; omega)), HB6.out.setCell (by dsimp only; omega) _⟩

set_option maxHeartbeats 2000000 in
theorem four11_any (n : Nat) (hn : n < 4294967296) (w : World) : Calls Tryz.prog 17 #[.int .u32 (n : Int)] w fun e w' => e = .returned (.slice (some ⟨w.heap.size, 0, none⟩) 4 4) ∧ w' = w.alloc (.cells ((four (n : Int)).map (Value.int .u8)).toArray 5) := by
  go_enter Tryz.func17, Tryz.ntmps17
  go_wp2
  go_ret
  have h : (n : Int) / 16777216 % 256 = (n : Int) / 16777216 := by omega
  exact ⟨rfl, by simp [four, h]⟩

theorem info8 : (Tryz.prog.info? 5).map (fun i => (i.zero, i.size, i.bytes)) = some (some (.int .u8 0), 1, 1) := by kernel_rfl

set_option maxHeartbeats 4000000 in
theorem summed_any (A : Option Addr) (n c : Nat) (bs : List Int) (w : World) (h : Lies w A n (bs.map (Value.int .u8))) (hb : ByteL bs) (hnil : A = none → c = 0) (hn : n ≤ 1000000000) : Calls Tryz.prog 16 #[.slice A n c] w fun e w' => ∃ A' c', e = .returned (.slice A' (n + 4) c') ∧ w'.ownsRow w.heap.size 5 1 (.slice A' (n + 4) c') (n + 4) ((bs ++ four ((sumOf bs : Nat) : Int)).map (Value.int .u8)) ∧ Below w.heap.size w w' := by
  obtain ⟨i0, hi0, hz0, hz1, hz2⟩ := info_parts info8
  have HI := hide hi0
  have HZ0 := hide hz0
  have HZ1 := hide hz1
  have HZ2 := hide hz2
  have HL := hide h
  have HBL := hide hb
  have hone : ∀ u ∈ bs.map (Value.int .u8), u.oneCell' = true := by
    intro u hu
    obtain ⟨z, _, rfl⟩ := List.mem_map.1 hu
    rfl
  have hlt := sumOf_lt hb
  obtain ⟨sm, hsm⟩ : ∃ sm, sm = sumOf bs := ⟨_, rfl⟩
  rw [← hsm] at hlt ⊢
  have HSM := hide hsm
  clear hi0 hz0 hz1 hz2 h hb hsm
  go_enter Tryz.func16, Tryz.ntmps16
  go_wp2_with (first | (at_builtin; refine wpList_append_src rfl (.const (.slice none 0 0)) (.tmp 3) 30 rfl 5 i0 (.int .u8 0) 1 Tryz.underlying30 HI.out HZ0.out HZ1.out HZ2.out rfl w.heap.size (.slice none 0 0) 0 [] rfl (World.ownsRow_nil _ _ _ _) (Nat.le_refl _) A n c (bs.map (Value.int .u8)) rfl HL.out hnil hone (by omega) (by unfold maxLen; omega) ?_) | fail)
  intro A1 c1 w1 ho1 hg1
  have hb1 : Below w.heap.size w w1 := (Below.refl _ w).grown hg1 (Nat.le_refl _) (fun g e => by simp [Value.ownBlock] at e)
  have HO := hide (of_any A n c bs w1 (HL.out.below hb1) HBL.out (by omega))
  rw [← HSM.out] at HO
  have HO1 := hide ho1
  have HB1 := hide hb1
  clear ho1 hg1 hb1
  go_wp2_with (first | (go_at_call 30; refine HO.out.mono ?_; rintro e w2 ⟨rfl, hb2⟩; have HF := hide (four11_any sm hlt w2)) | (go_at_call 17; refine HF.out.mono ?_; rintro e w3 ⟨rfl, hw3⟩; have hb3 : Below w2.heap.size w2 w3 := (by rw [hw3]; exact (Below.refl _ _).alloc (Nat.le_refl _) _); have hl3 : Lies w3 (some ⟨w2.heap.size, 0, none⟩) 4 ((four (sm : Int)).map (Value.int .u8)) := (by rw [hw3]; exact ⟨rfl, fun _ => ⟨w2.heap.size, 0, rfl, by simp, fun j _ => by rw [cell_of_row _ _ _ _ _ (0, 0) (heap_alloc_new w2 _)]; simp⟩⟩); have HW3 := hide hw3; clear hw3) | (at_builtin; refine wpList_append_src rfl (.tmp 4) (.tmp 7) 30 rfl 5 i0 (.int .u8 0) 1 Tryz.underlying30 HI.out HZ0.out HZ1.out HZ2.out rfl w.heap.size (.slice A1 n c1) n (bs.map (Value.int .u8)) rfl (own_below HO1.out (hb2.trans (hb3.mono hb2.size))) (Nat.le_trans HB1.out.size (Nat.le_trans hb2.size hb3.size)) (some ⟨w2.heap.size, 0, none⟩) 4 4 ((four (sm : Int)).map (Value.int .u8)) rfl hl3 (fun h => by cases h) (fun u hu => by obtain ⟨z, _, rfl⟩ := List.mem_map.1 hu; rfl) (by omega) (by unfold maxLen; omega) ?_))
  intro A4 c4 w4 ho4 hg4
  have hb13 := hb2.trans (hb3.mono hb2.size)
  have hb4 : Below w.heap.size w w4 := (HB1.out.trans (hb13.mono HB1.out.size)).grown hg4 (Nat.le_trans HB1.out.size hb13.size) (fun g e => (HO1.out.lt g e).1)
  clear hg4
  go_wp2
  go_ret
  exact ⟨A4, c4, rfl, by rw [List.map_append]; exact ho4, hb4⟩

end

section
open Go.RowKit
set_option linter.unusedVariables false
set_option linter.unusedSimpArgs false
set_option maxRecDepth 100000

/-- The nodes of a text, or the line that is at fault. -/
def parseR (s : Wd) : List Tn ⊕ Nat := goP 0 [] (linesB s)

def gr0 : Value := .agg #[.slice none 0 0]

/-- What Parse comes to. -/
def ParseE (s : Wd) (w : World) (e : Ending) (w' : World) : Prop :=
  Below w.heap.size w w' ∧ ((65536 < s.length ∧ e = .returned (.tuple #[gr0, .int .i64 0, .int .i64 3])) ∨
  (s.length ≤ 65536 ∧ ∃ k : Nat, parseR s = .inr k ∧ e = .returned (.tuple #[gr0, .int .i64 k, .int .i64 4])) ∨
  (s.length ≤ 65536 ∧ ∃ ns : List Nd, parseR s = .inl (ns.map Nd.tn) ∧ gphB ns = false ∧ e = .returned (.tuple #[gr0, .int .i64 0, .int .i64 1]) ∧ ∀ x ∈ ns, 0 ≤ x.kd) ∨
  (s.length ≤ 65536 ∧ ∃ (ns : List Nd) (A : Option Addr) (c : Nat), parseR s = .inl (ns.map Nd.tn) ∧ gphB ns = true ∧ e = .returned (.tuple #[.agg #[.slice A ns.length c], .int .i64 0, .int .i64 0]) ∧ NsIn w' A ns.length ns ∧ w'.ownsRow w.heap.size 44 5 (.slice A ns.length c) ns.length (cellsN ns) ∧ (∀ (j : Nat) (x : Nd), ns[j]? = some x → OwnN w' w.heap.size x ∧ Bnd x) ∧ (∀ (i j : Nat) (x y : Nd) (g h : Nat), i < j → ns[i]? = some x → ns[j]? = some y → Blk x g → Blk y h → g < h)))

theorem goP_step {k : Nat} {done : List Tn} {l : Wd} {r : List Wd} {x : Tn} (h : nodeB l = some x) (hk : k < 32) : goP k done (l :: r) = goP (k + 1) (done ++ [x]) r := by
  rw [goP, h]; simp only; rw [if_neg (by omega)]

theorem goP_bad {k : Nat} {done : List Tn} {l : Wd} {r : List Wd} (h : nodeB l = none) : goP k done (l :: r) = .inr k := by rw [goP, h]

theorem goP_many {k : Nat} {done : List Tn} {l : Wd} {r : List Wd} {x : Tn} (h : nodeB l = some x) (hk : 32 ≤ k) : goP k done (l :: r) = .inr k := by
  rw [goP, h]; simp only; rw [if_pos hk]

theorem ownN_le {w : World} {B e s n c : Nat} {A : Option Addr} {xs : List Value} (h : w.ownsRow B e s (.slice A n c) n xs) : n ≤ c := by
  rcases h.2 with ⟨h1, h2⟩ | ⟨g, cap, cur, h1, _, _, h2, _⟩
  · omega
  · injection h1 with _ _ h3
    omega

theorem ownN_base {w : World} {B B' e s n : Nat} {v : Value} {xs : List Value} (h : w.ownsRow B e s v n xs) (hb : B' ≤ B) : w.ownsRow B' e s v n xs := by
  refine ⟨h.1, ?_⟩
  rcases h.2 with h1 | ⟨g, cap, cur, h1, h2, r⟩
  · exact .inl h1
  · exact .inr ⟨g, cap, cur, h1, Nat.le_trans hb h2, r⟩

theorem PsAt.same {B b0 : Nat} {W3 w : World} {A : Option Addr} {c : Nat} {ns : List Nd} (h : PsAt B b0 W3 w A c ns) : PsAt B b0 W3 (w.setCell ⟨b0, 0, none⟩ (.slice A ns.length c)) A c ns := by
  refine ⟨by rw [set_size]; exact h.big, h.b3, h.lb, ?_, own_set h.ro h.lb _ _, fun j x hj => ⟨⟨own_set (h.ow j x hj).1.1 h.lb _ _, own_set (h.ow j x hj).1.2.1 h.lb _ _, (h.ow j x hj).1.2.2⟩, (h.ow j x hj).2⟩, h.od, ?_⟩
  · have := heap_setCell_same w b0 0 _ _ (.slice A ns.length c) h.bx
    simpa using this
  · exact ⟨h.kp.os, h.kp.tape, h.kp.output, Nat.le_trans h.kp.size (by simp [World.setCell]), fun k hk hn => (Below.heap_setCell w _ _ k hn).trans (h.kp.block k hk hn)⟩

theorem lines_short (s : Wd) (hs : s.length ≤ 65536) : (∀ x ∈ linesB s, x.length ≤ 65536) ∧ (linesB s).length ≤ 65537 := by
  obtain ⟨h1, h2⟩ := splitC_short 10 s
  rw [linesB, split_eq]
  split
  · exact ⟨fun x hx => Nat.le_trans (h1 x ((List.dropLast_sublist _).subset hx)) hs, by rw [List.length_dropLast]; omega⟩
  · exact ⟨fun x hx => Nat.le_trans (h1 x hx) hs, by omega⟩

theorem nodeOf_no (s : Wd) (hs : s.length ≤ 900000) (kb : Nat) (w : World) (hv : LaidV w) (hk : w.heap[kb]? = some (.map (kdEs 14) 14)) (hn : nodeB s = none) : Calls Tryz.prog 47 #[strV s, .map (some kb)] w fun e w' => e = .returned (.tuple #[.agg #[.int .u8 0, .slice none 0 0, .slice none 0 0, .int .i64 0, .int .i64 0], .bool false]) ∧ Below w.heap.size w w' := by
  refine (nodeOf_any s hs kb w hv hk).mono ?_
  rintro e w' (⟨x, hx, _⟩ | ⟨_, he, hb⟩)
  · rw [hn] at hx; cases hx
  · exact ⟨he, hb⟩

theorem nodeOf_ok (s : Wd) (hs : s.length ≤ 900000) (kb : Nat) (w : World) (hv : LaidV w) (hk : w.heap[kb]? = some (.map (kdEs 14) 14)) {t : Tn} (hn : nodeB s = some t) : Calls Tryz.prog 47 #[strV s, .map (some kb)] w fun e w' => ∃ x : Nd, t = x.tn ∧ e = .returned (.tuple #[.agg #[.int .u8 x.kd, .slice x.I x.ni x.ci, .slice x.S x.ns x.cs, .int .i64 x.N, .int .i64 x.P], .bool true]) ∧ OwnN w' w.heap.size x ∧ Bnd x ∧ Below w.heap.size w w' := by
  refine (nodeOf_any s hs kb w hv hk).mono ?_
  rintro e w' (⟨x, hx, he, hok, hoi, hos, hdj, hb⟩ | ⟨hx, _⟩)
  · rw [hn] at hx
    injection hx with hx
    exact ⟨x, hx, he, ⟨hoi, hos, hdj⟩, hok.2.2, hb⟩
  · rw [hn] at hx; cases hx

set_option maxHeartbeats 16000000 in
theorem parse_any (s : Wd) (w : World) (hv : LaidV w) (hbig : s.length ≤ 281474976710656) : Calls Tryz.prog 22 #[strV s] w (ParseE s w) := by
  have hres : Tryz.f22.results = #[.cell 2 24, .tmp 3, .tmp 4] := rfl
  obtain ⟨b0, hb0⟩ : ∃ b, b = w.heap.size := ⟨_, rfl⟩
  obtain ⟨W1, hW1⟩ : ∃ W, W = w.alloc (.cells #[.slice none 0 0] 24) := ⟨_, rfl⟩
  have hg1 : W1.heap[b0]? = some (.cells #[.slice none 0 0] 24 (0, 0)) := by rw [hW1, hb0]; exact heap_alloc_new w _
  have hB1 : Below w.heap.size w W1 := by rw [hW1]; exact (Below.refl _ _).alloc (Nat.le_refl _) _
  have q0 := cell_of_row _ _ 0 _ _ (0, 0) hg1
  have q1 := frozen_of_row W1 b0 0 _ _ hg1
  by_cases hlong : 65536 < s.length
  · have hlt : (65536 : Int) < (s.length : Int) := by omega
    have hz : (⟨s.toArray⟩ : ByteArray).size = s.length := by simp [ByteArray.size]
    unfold strV
    rw [hb0] at q0
    rw [hW1] at q0 hB1
    clear hg1 q1 hb0 hW1
    go_enter Tryz.func22, Tryz.ntmps22
    go_wp2
    refine ⟨rfl, .tuple #[gr0, .int .i64 0, .int .i64 3], ?_, hB1, .inl ⟨hlong, rfl⟩⟩
    simp [results, hres, go_sem, gr0]
  · have hlt : ¬ ((65536 : Int) < (s.length : Int)) := by omega
    have hz : (⟨s.toArray⟩ : ByteArray).size = s.length := by simp [ByteArray.size]
    obtain ⟨hsh, hll⟩ := lines_short s (by omega)
    have HV := hide hv
    have hv1 := hv.below hB1
    have HK := hide (kinds_any W1 hv1)
    have HLO := hide (fun (u : World) (hb : Below W1.heap.size W1 u) => linesOf_any s (by omega) u (hv1.below hb))
    have HG1 := hide hg1
    have HB1 := hide hB1
    have HSH := hide hsh
    have hs1 : W1.heap.size = b0 + 1 := by rw [hW1, hb0]; simp
    have hW1' := hW1.symm
    have HBB := hide hb0
    obtain ⟨L, hL⟩ : ∃ L, L = (linesB s).length := ⟨_, rfl⟩
    have hL6 : L ≤ 65537 := by omega
    have HL := hide hL
    unfold strV at HLO ⊢
    rw [hb0] at q0 q1
    clear hv hv1 hg1 hB1 hsh hW1 hL hll q0 q1
    go_enter Tryz.func22, Tryz.ntmps22
    go_wp2_with (first | (go_at_call 45; refine HK.out.mono ?_; rintro e w2 ⟨kb, rfl, hkb, hkl, hkm, hb2⟩) | (go_at_call 46; refine (HLO.out w2 hb2).mono ?_; rintro e w3 ⟨lb, n, c0, rfl, hlb, hll, hLs, hnc, hnL, hb3⟩; have HNL := hide hnL; clear hnL))
    rw [← hb0]
    have hs2 := hb2.size
    have hs3 := hb3.size
    have HB3 := hide (HB1.out.trans ((hb2.mono HB1.out.size).trans (hb3.mono (Nat.le_trans HB1.out.size hb2.size))))
    obtain ⟨B, hB⟩ : ∃ B, B = w3.heap.size := ⟨_, rfl⟩
    have HBE := hide hB
    have HP0 : Hid (PsAt B b0 w3 w3 none 0 []) := hide ⟨by omega, hB, by omega, (hb3.block b0 (by omega)).trans ((hb2.block b0 (by omega)).trans HG1.out), World.ownsRow_nil _ _ _ _, fun j x hj => by simp at hj, fun i j x y g h _ hi => by simp at hi, But.refl _ _⟩
    have HMAP : Hid (∀ (wr : World) (A : Option Addr) (c : Nat) (ns : List Nd), PsAt B b0 w3 wr A c ns → wr.heap[kb]? = some (.map (kdEs 14) 14)) := hide (fun wr A c ns h => (h.kp.block kb (by omega) (by omega)).trans ((hb3.block kb hkl).trans hkm))
    have HLINE : Hid (∀ (wr : World) (A : Option Addr) (c : Nat) (ns : List Nd) (k : Nat) (y : Wd), PsAt B b0 w3 wr A c ns → (linesB s)[k]? = some y → wr.cell? ⟨lb, k, none⟩ = some (strV y)) := hide (fun wr A c ns k y h hy => by
      have hkn : k < n := by rw [HNL.out]; exact (List.getElem?_eq_some_iff.1 hy).1
      obtain ⟨b', o', e, hlt', hcs⟩ := hLs.cells (by omega)
      injection e with e
      injection e with e1 e2
      subst e1 e2
      have := hcs k hkn
      rw [Nat.zero_add, List.getElem?_map, hy] at this
      exact (World.cell?_of_block (h.kp.block lb (by omega) (by omega))).trans this)
    have HLV : Hid (∀ (wr : World) (A : Option Addr) (c : Nat) (ns : List Nd), PsAt B b0 w3 wr A c ns → Below w.heap.size w wr) := hide (fun wr A c ns h => HB3.out.trans (h.kp.to (by rw [HBB.out]; exact Nat.le_refl _) HB3.out.size))
    obtain ⟨R, hR⟩ : ∃ R, R = parseR s := ⟨_, rfl⟩
    have HR := hide hR
    have HR0 : Hid (goP 0 (([] : List Nd).map Nd.tn) ((linesB s).drop 0) = R) := hide (by rw [hR]; rfl)
    obtain ⟨iN, hiN, hzN0, hzN1, hzN2⟩ := info_parts infoN10
    have HIN := hide hiN
    have HZ0 := hide hzN0
    have HZ1 := hide hzN1
    have HZ2 := hide hzN2
    have hn6 : n ≤ 65537 := by rw [HNL.out, ← HL.out]; exact hL6
    clear hiN hzN0 hzN1 hzN2 hR hB hb0 hb2 hb3 hkb hkl hkm hlb hll hLs hnc hs1 hs2 hs3 hW1' HK HLO HG1 HB1
    go_loopw [18] (fun i wr => ∃ (k : Nat) (ns : List Nd) (A : Option Addr) (c : Nat), k ≤ n ∧ k ≤ 32 ∧ i = .int .i64 k ∧ Hid (ns.length = k) ∧ Hid (PsAt B b0 w3 wr A c ns) ∧ Hid (goP k (ns.map Nd.tn) ((linesB s).drop k) = R)) (fun i _ => n - (intOf i).toNat)
    case atStart => exact ⟨0, [], none, 0, Nat.zero_le _, by omega, rfl, hide rfl, HP0, HR0⟩
    case round =>
      obtain ⟨k, ns, A, c, hkn, hk32, rfl, HLN, HP, HRd⟩ := hrel
      by_cases hlt2 : k < n
      · obtain ⟨y, hy⟩ : ∃ y, (linesB s)[k]? = some y := ⟨_, List.getElem?_eq_getElem (by rw [← HNL.out]; exact hlt2)⟩
        have hdrop : (linesB s).drop k = y :: (linesB s).drop (k + 1) := by
          obtain ⟨hk2, e⟩ := List.getElem?_eq_some_iff.1 hy
          rw [← e]
          exact List.drop_eq_getElem_cons hk2
        have hyl : y.length ≤ 900000 := by have := HSH.out y (List.mem_of_getElem? hy); omega
        have hcell := HLINE.out wr A c ns k y HP.out hy
        have hbw := HLV.out _ _ _ _ HP.out
        have hvr := HV.out.below hbw
        have hmp := HMAP.out _ _ _ _ HP.out
        have f0 : (0 : Int) ≤ (k : Int) := by omega
        have f1 : (k : Int) < (n : Int) := by omega
        have hrd := HRd.out
        rw [hdrop] at hrd
        have HRD := hide hrd
        have HBW := hide hbw
        clear hy hdrop hrd HRd hbw
        cases hnb : nodeB y with
        | none =>
          have c1 := nodeOf_no y hyl kb wr hvr hmp hnb
          have hbad := HRD.out
          rw [goP_bad hnb] at hbad
          have HBAD := hide hbad
          unfold strV at hcell c1
          clear hbad hvr hmp hnb
          go_wp2_with (go_at_call 47; refine c1.mono ?_; rintro e w4 ⟨rfl, hb4⟩; have HP5 := hide ((HP.out.below hb4).below (w' := w4.alloc (.cells #[.int .u8 0, .slice none 0 0, .slice none 0 0, .int .i64 0, .int .i64 0] 44)) ((Below.refl _ _).alloc (Nat.le_refl _) _)); have hq := cell_of_row _ _ 0 _ _ (0, 0) HP5.out.bx; have hqf := frozen_of_row _ _ 0 _ _ HP5.out.bx)
          have hB5 := (HLV.out _ _ _ _ HP5.out).trans (below_set1 b0 _ 0 (.slice none 0 0) |>.mono (by rw [HBB.out]; exact Nat.le_refl _))
          have hs5 := heap_setCell_same _ b0 0 _ _ (.slice none 0 0) HP5.out.bx
          have d0 := cell_of_row _ _ 0 _ _ (0, 0) hs5
          simp only [List.setIfInBounds_toArray, List.set_cons_zero] at d0
          refine ⟨rfl, .tuple #[gr0, .int .i64 k, .int .i64 4], ?_, hB5, .inr (.inl ⟨by omega, k, by rw [← HR.out, ← HBAD.out], rfl⟩)⟩
          simp [results, hres, go_sem, gr0, d0]
        | some t =>
          have c1 := nodeOf_ok y hyl kb wr hvr hmp hnb
          by_cases hk2 : k = 32
          · have hbad := HRD.out
            rw [goP_many hnb (by omega)] at hbad
            have HBAD := hide hbad
            have h32 : ((32 : Int) ≤ (k : Int)) := by omega
            unfold strV at hcell c1
            clear hbad hvr hmp hnb hk2
            go_wp2_with (go_at_call 47; refine c1.mono ?_; rintro e w4 ⟨x, hx, rfl, hown, hbnd, hb4⟩; have HX := hide hx; clear hx; obtain ⟨V5, hV5⟩ : ∃ V, w4.alloc (.cells #[.int .u8 x.kd, .slice x.I x.ni x.ci, .slice x.S x.ns x.cs, .int .i64 x.N, .int .i64 x.P] 44) = V := ⟨_, rfl⟩; have hb5 : Below w4.heap.size w4 V5 := (by rw [← hV5]; exact (Below.refl _ _).alloc (Nat.le_refl _) _); have HP5 := hide ((HP.out.below hb4).below hb5); have hq := cell_of_row _ _ 0 _ _ (0, 0) HP5.out.bx; have hqf := frozen_of_row _ _ 0 _ _ HP5.out.bx)
            have hB5 := (HLV.out _ _ _ _ HP5.out).trans (below_set1 b0 _ 0 (.slice none 0 0) |>.mono (by rw [HBB.out]; exact Nat.le_refl _))
            have hs5 := heap_setCell_same _ b0 0 _ _ (.slice none 0 0) HP5.out.bx
            have d0 := cell_of_row _ _ 0 _ _ (0, 0) hs5
            simp only [List.setIfInBounds_toArray, List.set_cons_zero] at d0
            refine ⟨rfl, .tuple #[gr0, .int .i64 k, .int .i64 4], ?_, hB5, .inr (.inl ⟨by omega, k, by rw [← HR.out, ← HBAD.out], rfl⟩)⟩
            simp [results, hres, go_sem, gr0, d0]
          · have h32 : ¬ ((32 : Int) ≤ (k : Int)) := by omega
            have hgo := HRD.out
            rw [goP_step hnb (by omega)] at hgo
            have HGO := hide hgo
            have hwr : w.heap.size ≤ wr.heap.size := HBW.out.size
            unfold strV at hcell c1
            clear hgo hvr hmp hnb
            go_wp2_with (first | (go_at_call 47; refine c1.mono ?_; rintro e w4 ⟨x, hx, rfl, hown, hbnd, hb4⟩; have HX := hide hx; clear hx; obtain ⟨V5, hV5⟩ : ∃ V, w4.alloc (.cells #[.int .u8 x.kd, .slice x.I x.ni x.ci, .slice x.S x.ns x.cs, .int .i64 x.N, .int .i64 x.P] 44) = V := ⟨_, rfl⟩; have hb5 : Below w4.heap.size w4 V5 := (by rw [← hV5]; exact (Below.refl _ _).alloc (Nat.le_refl _) _); have HP5 := hide ((HP.out.below hb4).below hb5); have hq := cell_of_row _ _ 0 _ _ (0, 0) HP5.out.bx; have hbn := BoxN.new w4 x; rw [hV5] at hbn; have hcs := hbn.cs) | (at_builtin; refine wpList_append_srcN rfl (.tmp 38) (.tmp 40) 22 rfl 44 iN _ 5 72 Tryz.underlying22 HIN.out HZ0.out HZ1.out HZ2.out rfl (by decide) B (.slice A ns.length c) ns.length (cellsN ns) rfl (own_keep10 HP5.out.ro ((Below.refl _ _).alloc (Nat.le_refl _) _)) (Nat.le_trans HP5.out.big (by simp)) (some ⟨V5.heap.size, 0, none⟩) 1 1 x.five rfl rfl (fun _ => ⟨_, rfl, five_new V5 x⟩) (fun h => by cases h) (fun u hu => by simp only [Nd.five, List.mem_cons, List.not_mem_nil, or_false] at hu; rcases hu with rfl | rfl | rfl | rfl | rfl <;> rfl) (by rw [HLN.out]; omega) (by rw [HLN.out]; unfold maxLen; omega) ?_))
            intro A' c' w7 ho7 hg7 _
            have hb6 : Below V5.heap.size V5 (V5.alloc (.cells #[.int .u8 x.kd, .slice x.I x.ni x.ci, .slice x.S x.ns x.cs, .int .i64 x.N, .int .i64 x.P] 44)) := (Below.refl _ _).alloc (Nat.le_refl _) _
            have HP6 := hide (HP5.out.below hb6)
            have hown6 : OwnN (V5.alloc (.cells #[.int .u8 x.kd, .slice x.I x.ni x.ci, .slice x.S x.ns x.cs, .int .i64 x.N, .int .i64 x.P] 44)) wr.heap.size x := (hown.below hb5).below hb6
            have ho8 : w7.ownsRow B 44 5 (.slice A' (ns.length + 1) c') (ns.length + 1) (cellsN (ns ++ [x])) := by
              rw [cellsN_append]
              have e : cellsN [x] = x.five := by simp [cellsN]
              rw [e]
              exact ho7
            have HPN := hide (HP6.out.push hown6 hbnd (fun j z g hj hg => ((HP.out.ow j z hj).1.lt hg).2) HP.out.big ho8 hg7)
            have hbel7 : Below B (V5.alloc (.cells #[.int .u8 x.kd, .slice x.I x.ni x.ci, .slice x.S x.ns x.cs, .int .i64 x.N, .int .i64 x.P] 44)) w7 := (Below.refl B _).grown hg7 HP6.out.big (fun g e => (HP6.out.ro.lt g e).1)
            have hq7 := cell_of_row _ _ 0 _ _ (0, 0) ((hbel7.block b0 HP6.out.lb).trans HP6.out.bx)
            have hf7 := frozen_of_row _ _ 0 _ _ ((hbel7.block b0 HP6.out.lb).trans HP6.out.bx)
            clear ho7 hg7 hb6 hown6 ho8 hbel7 hown hbnd hb5 hV5 hbn hcs hq hb4 c1 HP5 HP6
            go_wp2
            go_roundw
            case rel => exact ⟨k + 1, ns ++ [x], A', c', by omega, by omega, by go_num, hide (by rw [List.length_append, HLN.out]; rfl), HPN, hide (by have := HGO.out; rw [HX.out] at this; rw [List.map_append]; exact this)⟩
            case measure => simp [intOf]; omega
      · obtain rfl : k = n := by omega
        have hR2 := HRd.out
        rw [List.drop_eq_nil_of_le (by rw [← HNL.out]; exact Nat.le_refl _), goP] at hR2
        have HR2 := hide hR2
        have hns := HP.out.nsIn
        have hcle : ns.length ≤ c := ownN_le HP.out.ro
        have HC := hide (gcheck_any A ns.length c ns wr hns (by rw [HLN.out]; omega) hcle)
        have hq := cell_of_row _ _ 0 _ _ (0, 0) HP.out.bx
        have hqf := frozen_of_row _ _ 0 _ _ HP.out.bx
        clear hR2 hns
        cases hgb : gphB ns with
        | false =>
          rw [hgb] at HC
          have HGB := hide hgb
          clear hgb
          go_wp2_with (go_at_call 9; refine HC.out.mono ?_; rintro e w4 ⟨rfl, hb4⟩; have HP5 := hide (HP.out.below hb4); have hq2 := cell_of_row _ _ 0 _ _ (0, 0) HP5.out.bx; have hqf2 := frozen_of_row _ _ 0 _ _ HP5.out.bx)
          have hB5 := (HLV.out _ _ _ _ HP5.out).trans (below_set1 b0 _ 0 (.slice none 0 0) |>.mono (by rw [HBB.out]; exact Nat.le_refl _))
          have hs5 := heap_setCell_same _ b0 0 _ _ (.slice none 0 0) HP5.out.bx
          have d0 := cell_of_row _ _ 0 _ _ (0, 0) hs5
          simp only [List.setIfInBounds_toArray, List.set_cons_zero] at d0
          refine ⟨rfl, .tuple #[gr0, .int .i64 0, .int .i64 1], ?_, hB5, .inr (.inr (.inl ⟨by omega, ns, by rw [← HR.out, ← HR2.out], HGB.out, rfl, fun x hx => by
            obtain ⟨j, hj, e⟩ := List.getElem_of_mem hx
            exact ((HP5.out.ow j x (by rw [List.getElem?_eq_getElem hj, e])).2).2.2.2.2.1.1⟩))⟩
          simp [results, hres, go_sem, gr0, d0]
        | true =>
          rw [hgb] at HC
          have HGB := hide hgb
          clear hgb
          go_wp2_with (go_at_call 9; refine HC.out.mono ?_; rintro e w4 ⟨rfl, hb4⟩; have HP5 := hide (HP.out.below hb4); have hq2 := cell_of_row _ _ 0 _ _ (0, 0) HP5.out.bx; have hqf2 := frozen_of_row _ _ 0 _ _ HP5.out.bx)
          have hcl : w4.setCell ⟨b0, 0, none⟩ (.slice A ns.length c) = w4.setCell ⟨b0, 0, none⟩ (.slice A ns.length c) := rfl
          clear hcl
          have hB5 := (HLV.out _ _ _ _ HP5.out).trans (below_set1 b0 w4 0 (.slice A ns.length c) |>.mono (by rw [HBB.out]; exact Nat.le_refl _))
          have hs5 := heap_setCell_same _ b0 0 _ _ (.slice A ns.length c) HP5.out.bx
          have HPN := HP5.out.same
          have d0 := cell_of_row _ _ 0 _ _ (0, 0) hs5
          simp only [List.setIfInBounds_toArray, List.set_cons_zero] at d0
          have hwB : w.heap.size ≤ B := by rw [HBE.out]; exact HB3.out.size
          refine ⟨rfl, .tuple #[.agg #[.slice A ns.length c], .int .i64 0, .int .i64 0], ?_, hB5, .inr (.inr (.inr ⟨by omega, ns, A, c, by rw [← HR.out, ← HR2.out], HGB.out, rfl, HPN.nsIn, ownN_base HPN.ro hwB, fun j x hj => ⟨(HPN.ow j x hj).1.base hwB, (HPN.ow j x hj).2⟩, HPN.od⟩))⟩
          simp [results, hres, go_sem, d0]

end

section
open Go.RowKit
set_option linter.unusedVariables false
set_option linter.unusedSimpArgs false
set_option maxRecDepth 100000

theorem form_A : ∀ (k : Nat) (x : Tn), FormK k x → [65] ∈ partsB k → 1 ≤ x.xs.length := by
  intro k x h hm
  match k, h with
  | 1, h | 2, h | 12, h => exact absurd hm (by decide)
  | 3, h | 4, h | 7, h => have := h.1; omega
  | 5, h => have := h.1; omega
  | 6, h | 9, h | 13, h => have := h.1; omega
  | 8, h => have := h.1; omega
  | 10, h | 11, h => have := h.1; omega

theorem form_B : ∀ (k : Nat) (x : Tn), FormK k x → [66] ∈ partsB k → 2 ≤ x.xs.length := by
  intro k x h hm
  match k, h with
  | 1, h | 2, h | 12, h | 5, h | 6, h | 9, h | 13, h | 10, h | 11, h => exact absurd hm (by decide)
  | 3, h | 4, h | 7, h => have := h.1; omega
  | 8, h => have := h.1; omega

theorem stepW_len (x : Tn) (hx : x.xs.length < 256) (hs : x.sh.length < 256) (p : Wd) : (stepW x p).length ≤ 256 := by
  unfold stepW
  repeat' split
  all_goals (simp only [List.length_cons, List.length_nil, List.length_map]; omega)

theorem flatW_len (x : Tn) (hx : x.xs.length < 256) (hs : x.sh.length < 256) : ∀ ps : List Wd, (ps.flatMap (stepW x)).length ≤ 256 * ps.length
  | [] => by simp
  | p :: r => by
    have h1 := stepW_len x hx hs p
    have h2 := flatW_len x hx hs r
    rw [List.flatMap_cons, List.length_append, List.length_cons]
    omega

theorem small_ints {l : List Int} (h : Small l) : Ints l := fun z hz => by have := h z hz; omega

theorem appN_off (base : Nat) (A D : Option Addr) (n c m d : Nat) (ws : List Wd) (l : List Int) (w0 w : World) (ho : w.ownsRow base 9 1 (.slice A n c) n (ws.map strV)) (hl : Lies w D m (l.map (Value.int .i64))) (hl0 : Lies w0 D m (l.map (Value.int .i64))) (hi : Ints l) (hbase : base ≤ w.heap.size) (hv : LaidV w0) (hb0 : Below w0.heap.size w0 w) (h0 : w0.heap.size ≤ base) (hnm : n + m ≤ 2000000) (hmd : m ≤ d) :
    Calls Tryz.prog 71 #[.slice A n c, .slice D m d] w fun e w' => ∃ A' c', e = .returned (.slice A' (n + m) c') ∧ w'.ownsRow base 9 1 (.slice A' (n + m) c') (n + m) ((ws ++ l.map Lib.itoa).map strV) ∧ Below base w w' := by
  by_cases hm : m = 0
  · subst hm
    have hle : l = [] := by have := lies_len9 hl; exact List.length_eq_zero_iff.1 this
    subst hle
    go_enter Tryz.func71, Tryz.ntmps71
    have HO := hide ho
    clear ho hl hl0
    go_wp2
    go_loop [0, 9] (fun v i => v = .slice A n c ∧ i = .int .i64 0) (fun _ _ => 0)
    case atStart => exact ⟨rfl, rfl⟩
    case round =>
      obtain ⟨rfl, rfl⟩ := hrel
      go_wp2
      go_ret
      exact ⟨A, c, rfl, by simpa using HO.out, Below.refl _ _⟩
  · obtain ⟨b, o, e, hlt, _⟩ := hl0.cells (by omega)
    refine appN_any base A D n c m d ws l w0 w ho hl hi hbase hv hb0 h0 (fun b' o' e' hv' => ?_) hnm hmd
    rw [e] at e'
    injection e' with e'
    injection e' with e1 e2
    have := (ho.lt b' hv').1
    omega

set_option maxHeartbeats 16000000 in
theorem wordsOf_any (x : Nd) (w : World) (hv : LaidV w) (hok : x.Ok w) (hf : FormT x.tn) (hx2 : x.xs.length < 256) (hs2 : x.sh.length < 256) :
    Calls Tryz.prog 40 #[x.v] w fun e w' => ∃ A c, e = .returned (.slice A (wordsB x.tn).length c) ∧ w'.ownsRow w.heap.size 9 1 (.slice A (wordsB x.tn).length c) (wordsB x.tn).length ((wordsB x.tn).map strV) ∧ Below w.heap.size w w' := by
  obtain ⟨hx, hs, hN, hP, hK⟩ := hf
  have hkd := hK.lt
  obtain ⟨kd, hkdn⟩ : ∃ kd : Nat, x.kd = (kd : Int) := ⟨x.kd.toNat, by have := hok.2.2.2.2.2.2.1; omega⟩
  have hk2 : x.tn.kd = kd := by simp [Nd.tn, hkdn]
  rw [hk2] at hK hkd
  have hk14 : kd < 14 := hkd.2
  obtain ⟨q, hq⟩ : ∃ q, q = w.heap.size := ⟨_, rfl⟩
  obtain ⟨W1, hW1⟩ : ∃ W, W = w.alloc (.cells #[.int .u8 x.kd, .slice x.I x.ni x.ci, .slice x.S x.ns x.cs, .int .i64 x.N, .int .i64 x.P] 44) := ⟨_, rfl⟩
  have hB1 : Below w.heap.size w W1 := by rw [hW1]; exact (Below.refl _ _).alloc (Nat.le_refl _) _
  have hbx : BoxN W1 q x := by rw [hW1, hq]; exact BoxN.new w x
  have hv1 := hv.below hB1
  have hok1 := hok.below hB1
  have hrow := hv1.rows kd hk14
  have HF := hide (fields_any kd hk14 W1 hv1)
  have hni : x.xs.length = x.ni := lies_len9 hok1.1
  have hns : x.sh.length = x.ns := lies_len9 hok1.2.1
  have hW1' := hW1.symm
  have hq' := hq.symm
  have HA := hide (fun h => form_A kd x.tn hK h)
  have HB := hide (fun h => form_B kd x.tn hK h)
  have HOK := hide hok1
  have HV := hide hv1
  have HB1 := hide hB1
  have HBX := hide hbx
  have hcx := hbx.cs
  rw [hkdn] at hcx
  have HX := hide hx
  have HS := hide hs
  have HN := hide hN
  have HP := hide hP
  have HQ := hide hq
  have hs1 : W1.heap.size = q + 1 := by rw [hW1, hq]; simp
  have hb13 := hok1.2.2
  obtain ⟨hnc, hsc, _⟩ := hb13
  have HKD := hide hk2
  obtain ⟨rb, hrb⟩ : ∃ rb : ByteArray, rb = ⟨(rowB kd).toArray⟩ := ⟨_, rfl⟩
  have hrv : strV (rowB kd) = .string rb := by rw [hrb]; rfl
  rw [hrv] at hrow HF
  rw [hkdn] at hW1'
  unfold Nd.v
  rw [hkdn]
  clear hW1 hB1 hbx hv1 hok1 hv hok hx hs hN hP hq hK hk2 hrv hrb hkdn
  go_enter Tryz.func40, Tryz.ntmps40
  go_wp2_with (go_at_call 70; refine HF.out.mono ?_; rintro e w3 ⟨A, rfl, hA, hAlt, hLA, hb3⟩)
  obtain ⟨B, hBB⟩ : ∃ B, B = w3.heap.size := ⟨_, rfl⟩
  have hs3 := hb3.size
  have HB3 := hide hb3
  have HBE := hide hBB
  have HKp : Hid (∀ wr, Below B w3 wr → BoxN wr q x ∧ x.Ok wr ∧ LaidV wr ∧ Lies wr (some ⟨A, 0, none⟩) (partsB kd).length ((partsB kd).map strV)) := hide (fun wr hb => by
    have hbw : Below W1.heap.size W1 wr := hb3.trans (hb.mono (by omega))
    exact ⟨(hbw.block q (by omega)).trans HBX.out, HOK.out.below hbw, HV.out.below hbw, hLA.below (hb.mono (by omega))⟩)
  obtain ⟨L, hL⟩ : ∃ L, L = (partsB kd).length := ⟨_, rfl⟩
  have hL9 : L < 100 := by rw [hL]; exact parts_len kd hk14
  have HL := hide hL
  rw [← hL]
  obtain ⟨i0, hi0, hz0, hz1, hz2⟩ := info_parts infoS
  have HI := hide hi0
  have HZ0 := hide hz0
  have HZ1 := hide hz1
  have HZ2 := hide hz2
  have HRB : Hid (∀ k, ((((partsB kd).take k).flatMap (stepW x.tn)).length ≤ 256 * k)) := hide (fun k => Nat.le_trans (flatW_len x.tn hx2 hs2 _) (by rw [List.length_take]; exact Nat.mul_le_mul_left _ (Nat.min_le_left _ _)))
  have hBq : q < B := by omega
  have hAB : A < B := by omega
  clear hL hi0 hz0 hz1 hz2 hBB hA hAlt hLA hb3 hrow HF hcx hW1' hs1 hs3
  go_loopw [3, 12] (fun v i wr => ∃ (k : Nat) (A2 : Option Addr) (n c2 : Nat), k ≤ L ∧ i = .int .i64 k ∧ v = .slice A2 n c2 ∧ Hid (n = (((partsB kd).take k).flatMap (stepW x.tn)).length) ∧ Hid (wr.ownsRow B 9 1 (.slice A2 n c2) n ((((partsB kd).take k).flatMap (stepW x.tn)).map strV)) ∧ Hid (Below B w3 wr)) (fun _ i _ => L - (intOf i).toNat)
  case atStart => exact ⟨0, none, 0, 0, Nat.zero_le _, rfl, rfl, hide rfl, hide (World.ownsRow_nil _ _ _ _), hide (Below.refl _ _)⟩
  case round =>
    obtain ⟨k, A2, n, c2, hkL, rfl, rfl, HNN, HR, HB4⟩ := hrel
    obtain ⟨hbx, hokr, hvr, hlr⟩ := HKp.out wr HB4.out
    have hsz : B ≤ wr.heap.size := by have := HB4.out.size; rw [← HBE.out] at this; exact this
    have hn6 : n ≤ 25600 := by rw [HNN.out]; exact Nat.le_trans (HRB.out k) (by omega)
    by_cases hlt : k < L
    · obtain ⟨pt, hpt⟩ : ∃ pt, (partsB kd)[k]? = some pt := ⟨_, List.getElem?_eq_getElem (by rw [← HL.out]; exact hlt)⟩
      have htk : ((partsB kd).take (k + 1)).flatMap (stepW x.tn) = ((partsB kd).take k).flatMap (stepW x.tn) ++ stepW x.tn pt := by
        rw [List.take_add_one, hpt, List.flatMap_append]; simp
      have hcell : wr.cell? ⟨A, k, none⟩ = some (strV pt) := by
        obtain ⟨b, o, e, _, hcs⟩ := hlr.cells (by rw [← HL.out]; omega)
        injection e with e
        injection e with e1 e2
        subst e1 e2
        have := hcs k (by rw [← HL.out]; exact hlt)
        rw [Nat.zero_add, List.getElem?_map, hpt] at this
        exact this
      have hmem : pt ∈ partsB kd := List.mem_of_getElem? hpt
      have f0 : (0 : Int) ≤ (k : Int) := by omega
      have f1 : (k : Int) < (L : Int) := by omega
      have hcx := hbx.cs
      have HTK := hide htk
      have HVR := hide hvr
      have HOKR := hide hokr
      have HLR := hide hlr
      clear hpt htk hvr hokr hlr hbx
      unfold strV at hcell
      have hWB : W1.heap.size ≤ B := by rw [HBE.out]; exact HB3.out.size
      by_cases hA1 : pt = [65]
      · subst hA1
        have h0 := HA.out hmem
        have hli := HOKR.out.1
        obtain ⟨bi, oi, hI, hbi, hci⟩ := hli.cells (by rw [← hni]; exact Nat.lt_of_lt_of_le (by omega) h0)
        have hc0 := hci 0 (by rw [← hni]; exact h0)
        have hz0 : (x.xs.map (Value.int .i64))[0]? = some (.int .i64 (x.xs.getD 0 0)) := by
          rw [List.getElem?_map, List.getD_eq_getElem?_getD, List.getElem?_eq_getElem (show 0 < x.xs.length from h0)]; rfl
        rw [hz0] at hc0
        have hzb := getD_nn x.xs HX.out 0
        have hzc : x.xs.getD 0 0 < 1000000000 := by
          rw [List.getD_eq_getElem?_getD, List.getElem?_eq_getElem (show 0 < x.xs.length from h0)]
          exact (HX.out _ (List.getElem_mem _)).2
        have hni1 : ((0 : Int) < (x.ni : Int)) := by rw [← hni]; have : 0 < x.xs.length := h0; omega
        rw [Nat.add_zero] at hc0
        clear hz0 hci hli hbi
        have hst : stepW x.tn [65] = [x.xs.getD 0 0].map Lib.itoa := by simp [stepW, Nd.tn]
        have hz : -9223372036854775808 ≤ x.xs.getD 0 0 ∧ x.xs.getD 0 0 ≤ 9223372036854775807 := by have := hzb; omega
        have hbl : Below wr.heap.size wr (wr.alloc (.cells #[.int .i64 (x.xs.getD 0 0)] 3)) := (Below.refl _ _).alloc (Nat.le_refl _) _
        have HC := hide (appN_any B A2 (some ⟨wr.heap.size, 0, none⟩) n c2 1 1 (((partsB kd).take k).flatMap (stepW x.tn)) [x.xs.getD 0 0] W1 (wr.alloc (.cells #[.int .i64 (x.xs.getD 0 0)] 3)) (own_below HR.out hbl) ⟨rfl, fun _ => ⟨wr.heap.size, 0, rfl, by simp, fun j hj => by obtain rfl : j = 0 := (by omega); exact cell_new1 wr (.int .i64 (x.xs.getD 0 0)) _⟩⟩ (fun y hy => by rw [List.mem_singleton] at hy; subst hy; exact hz) (Nat.le_trans hsz hbl.size) HV.out ((HB3.out.trans (HB4.out.mono hWB)).trans (hbl.mono (Nat.le_trans hWB hsz))) hWB (fun b o e hv => by injection e with e; injection e with e1 e2; have := (HR.out.lt b hv).2; omega) (by omega) (Nat.le_refl _))
        have HBL := hide hbl
        clear hbl
        go_wp2_with (go_at_call 71; refine HC.out.mono ?_; rintro e w5 ⟨A3, c3, rfl, ho3, hb5⟩; have hb3 : Below B wr w5 := (HBL.out.mono hsz).trans hb5)
        rw [← hI]
        clear hI
        go_roundw
        case rel => exact ⟨k + 1, A3, n + 1, c3, by omega, by go_num, rfl, hide (by rw [HTK.out, hst, List.length_append, ← HNN.out]; rfl), hide (by rw [HTK.out, hst]; exact ho3), hide (HB4.out.trans hb3)⟩
        case measure => simp [intOf]; omega
      by_cases hB1 : pt = [66]
      · subst hB1
        have h1 := HB.out hmem
        have hli := HOKR.out.1
        obtain ⟨bi, oi, hI, hbi, hci⟩ := hli.cells (by rw [← hni]; exact Nat.lt_of_lt_of_le (by omega) h1)
        have hc0 := hci 1 (by rw [← hni]; exact h1)
        have hz0 : (x.xs.map (Value.int .i64))[1]? = some (.int .i64 (x.xs.getD 1 0)) := by
          rw [List.getElem?_map, List.getD_eq_getElem?_getD, List.getElem?_eq_getElem (show 1 < x.xs.length from h1)]; rfl
        rw [hz0] at hc0
        have hzb := getD_nn x.xs HX.out 1
        have hzc : x.xs.getD 1 0 < 1000000000 := by
          rw [List.getD_eq_getElem?_getD, List.getElem?_eq_getElem (show 1 < x.xs.length from h1)]
          exact (HX.out _ (List.getElem_mem _)).2
        have hni1 : ((1 : Int) < (x.ni : Int)) := by rw [← hni]; have : 1 < x.xs.length := h1; omega
        clear hz0 hci hli hbi
        have hst : stepW x.tn [66] = [x.xs.getD 1 0].map Lib.itoa := by simp [stepW, Nd.tn]
        have hz : -9223372036854775808 ≤ x.xs.getD 1 0 ∧ x.xs.getD 1 0 ≤ 9223372036854775807 := by have := hzb; omega
        have hbl : Below wr.heap.size wr (wr.alloc (.cells #[.int .i64 (x.xs.getD 1 0)] 3)) := (Below.refl _ _).alloc (Nat.le_refl _) _
        have HC := hide (appN_any B A2 (some ⟨wr.heap.size, 0, none⟩) n c2 1 1 (((partsB kd).take k).flatMap (stepW x.tn)) [x.xs.getD 1 0] W1 (wr.alloc (.cells #[.int .i64 (x.xs.getD 1 0)] 3)) (own_below HR.out hbl) ⟨rfl, fun _ => ⟨wr.heap.size, 0, rfl, by simp, fun j hj => by obtain rfl : j = 0 := (by omega); exact cell_new1 wr (.int .i64 (x.xs.getD 1 0)) _⟩⟩ (fun y hy => by rw [List.mem_singleton] at hy; subst hy; exact hz) (Nat.le_trans hsz hbl.size) HV.out ((HB3.out.trans (HB4.out.mono hWB)).trans (hbl.mono (Nat.le_trans hWB hsz))) hWB (fun b o e hv => by injection e with e; injection e with e1 e2; have := (HR.out.lt b hv).2; omega) (by omega) (Nat.le_refl _))
        have HBL := hide hbl
        clear hbl
        go_wp2_with (go_at_call 71; refine HC.out.mono ?_; rintro e w5 ⟨A3, c3, rfl, ho3, hb5⟩; have hb3 : Below B wr w5 := (HBL.out.mono hsz).trans hb5)
        rw [← hI]
        clear hI
        go_roundw
        case rel => exact ⟨k + 1, A3, n + 1, c3, by omega, by go_num, rfl, hide (by rw [HTK.out, hst, List.length_append, ← HNN.out]; rfl), hide (by rw [HTK.out, hst]; exact ho3), hide (HB4.out.trans hb3)⟩
        case measure => simp [intOf]; omega
      by_cases hAS : pt = [65, 46, 46]
      · subst hAS
        have hst : stepW x.tn [65, 46, 46] = x.xs.map Lib.itoa := by simp [stepW, Nd.tn]
        have hli := HOKR.out.1
        have hli1 := HOK.out.1
        have HC := hide (appN_off B A2 x.I n c2 x.ni x.ci (((partsB kd).take k).flatMap (stepW x.tn)) x.xs W1 wr HR.out hli hli1 (small_ints HX.out) hsz HV.out (HB3.out.trans (HB4.out.mono hWB)) hWB (by rw [← hni]; omega) hnc)
        clear hli hli1
        go_wp2_with (go_at_call 71; refine HC.out.mono ?_; rintro e w5 ⟨A3, c3, rfl, ho3, hb3⟩)
        go_roundw
        case rel => exact ⟨k + 1, A3, n + x.ni, c3, by omega, by go_num, rfl, hide (by rw [HTK.out, hst, List.length_append, ← HNN.out, List.length_map, hni]), hide (by rw [HTK.out, hst]; exact ho3), hide (HB4.out.trans hb3)⟩
        case measure => simp [intOf]; omega
      by_cases hSS : pt = [83]
      · subst hSS
        have hst : stepW x.tn [83] = x.sh.map Lib.itoa := by simp [stepW, Nd.tn]
        have hli := HOKR.out.2.1
        have hli1 := HOK.out.2.1
        have HC := hide (appN_off B A2 x.S n c2 x.ns x.cs (((partsB kd).take k).flatMap (stepW x.tn)) x.sh W1 wr HR.out hli hli1 (small_ints HS.out) hsz HV.out (HB3.out.trans (HB4.out.mono hWB)) hWB (by rw [← hns]; omega) hsc)
        clear hli hli1
        go_wp2_with (go_at_call 71; refine HC.out.mono ?_; rintro e w5 ⟨A3, c3, rfl, ho3, hb3⟩)
        go_roundw
        case rel => exact ⟨k + 1, A3, n + x.ns, c3, by omega, by go_num, rfl, hide (by rw [HTK.out, hst, List.length_append, ← HNN.out, List.length_map, hns]), hide (by rw [HTK.out, hst]; exact ho3), hide (HB4.out.trans hb3)⟩
        case measure => simp [intOf]; omega
      by_cases hNN2 : pt = [78]
      · subst hNN2
        have hst : stepW x.tn [78] = [x.N].map Lib.itoa := by simp [stepW, Nd.tn]
        have hz : -9223372036854775808 ≤ x.N ∧ x.N ≤ 9223372036854775807 := by have := HN.out; omega
        have hbl : Below wr.heap.size wr (wr.alloc (.cells #[.int .i64 (x.N)] 3)) := (Below.refl _ _).alloc (Nat.le_refl _) _
        have HC := hide (appN_any B A2 (some ⟨wr.heap.size, 0, none⟩) n c2 1 1 (((partsB kd).take k).flatMap (stepW x.tn)) [x.N] W1 (wr.alloc (.cells #[.int .i64 (x.N)] 3)) (own_below HR.out hbl) ⟨rfl, fun _ => ⟨wr.heap.size, 0, rfl, by simp, fun j hj => by obtain rfl : j = 0 := (by omega); exact cell_new1 wr (.int .i64 (x.N)) _⟩⟩ (fun y hy => by rw [List.mem_singleton] at hy; subst hy; exact hz) (Nat.le_trans hsz hbl.size) HV.out ((HB3.out.trans (HB4.out.mono hWB)).trans (hbl.mono (Nat.le_trans hWB hsz))) hWB (fun b o e hv => by injection e with e; injection e with e1 e2; have := (HR.out.lt b hv).2; omega) (by omega) (Nat.le_refl _))
        have HBL := hide hbl
        clear hbl
        go_wp2_with (go_at_call 71; refine HC.out.mono ?_; rintro e w5 ⟨A3, c3, rfl, ho3, hb5⟩; have hb3 : Below B wr w5 := (HBL.out.mono hsz).trans hb5)
        go_roundw
        case rel => exact ⟨k + 1, A3, n + 1, c3, by omega, by go_num, rfl, hide (by rw [HTK.out, hst, List.length_append, ← HNN.out]; rfl), hide (by rw [HTK.out, hst]; exact ho3), hide (HB4.out.trans hb3)⟩
        case measure => simp [intOf]; omega
      by_cases hPP : pt = [80]
      · subst hPP
        have hst : stepW x.tn [80] = [x.P].map Lib.itoa := by simp [stepW, Nd.tn]
        have hz : -9223372036854775808 ≤ x.P ∧ x.P ≤ 9223372036854775807 := by have := HP.out; omega
        have hbl : Below wr.heap.size wr (wr.alloc (.cells #[.int .i64 (x.P)] 3)) := (Below.refl _ _).alloc (Nat.le_refl _) _
        have HC := hide (appN_any B A2 (some ⟨wr.heap.size, 0, none⟩) n c2 1 1 (((partsB kd).take k).flatMap (stepW x.tn)) [x.P] W1 (wr.alloc (.cells #[.int .i64 (x.P)] 3)) (own_below HR.out hbl) ⟨rfl, fun _ => ⟨wr.heap.size, 0, rfl, by simp, fun j hj => by obtain rfl : j = 0 := (by omega); exact cell_new1 wr (.int .i64 (x.P)) _⟩⟩ (fun y hy => by rw [List.mem_singleton] at hy; subst hy; exact hz) (Nat.le_trans hsz hbl.size) HV.out ((HB3.out.trans (HB4.out.mono hWB)).trans (hbl.mono (Nat.le_trans hWB hsz))) hWB (fun b o e hv => by injection e with e; injection e with e1 e2; have := (HR.out.lt b hv).2; omega) (by omega) (Nat.le_refl _))
        have HBL := hide hbl
        clear hbl
        go_wp2_with (go_at_call 71; refine HC.out.mono ?_; rintro e w5 ⟨A3, c3, rfl, ho3, hb5⟩; have hb3 : Below B wr w5 := (HBL.out.mono hsz).trans hb5)
        go_roundw
        case rel => exact ⟨k + 1, A3, n + 1, c3, by omega, by go_num, rfl, hide (by rw [HTK.out, hst, List.length_append, ← HNN.out]; rfl), hide (by rw [HTK.out, hst]; exact ho3), hide (HB4.out.trans hb3)⟩
        case measure => simp [intOf]; omega
      have n1 : (pt == [65]) = false := by simpa using hA1
      have n2 : (pt == [66]) = false := by simpa using hB1
      have n3 : (pt == [65, 46, 46]) = false := by simpa using hAS
      have n4 : (pt == [83]) = false := by simpa using hSS
      have n5 : (pt == [78]) = false := by simpa using hNN2
      have n6 : (pt == [80]) = false := by simpa using hPP
      have hst : stepW x.tn pt = [pt] := by simp [stepW, hA1, hB1, hAS, hSS, hNN2, hPP]
      go_wp2_with (at_builtin; refine wpList_append_one rfl (.tmp 17) (.tmp 19) 93 rfl 9 i0 (.string ByteArray.empty) 16 Tryz.underlying93 HI.out HZ0.out HZ1.out HZ2.out rfl B A2 n c2 ((((partsB kd).take k).flatMap (stepW x.tn)).map strV) rfl (HR.out.alloc _) (Nat.le_trans hsz (by simp)) ⟨wr.heap.size, 0, none⟩ (.string ⟨pt.toArray⟩) rfl (cell_new1 wr (.string ⟨pt.toArray⟩) _) rfl (by omega) (by unfold maxLen; omega) ?_)
      intro A3 c3 w5 ho5 hm5
      have hb3 : Below B wr w5 := below_moved ((Below.refl B wr).alloc hsz (.cells #[.string ⟨pt.toArray⟩] 9)) (Nat.le_trans hsz (by simp)) (HR.out.alloc _) hm5
      have ho3 : w5.ownsRow B 9 1 (.slice A3 (n + 1) c3) (n + 1) ((((partsB kd).take k).flatMap (stepW x.tn) ++ [pt]).map strV) := by rw [List.map_append]; exact ho5
      clear ho5 hm5
      go_wp2
      go_roundw
      case rel => exact ⟨k + 1, A3, n + 1, c3, by omega, by go_num, rfl, hide (by rw [HTK.out, hst, List.length_append, ← HNN.out]; rfl), hide (by rw [HTK.out, hst]; exact ho3), hide (HB4.out.trans hb3)⟩
      case measure => simp [intOf]; omega
    · obtain rfl : k = L := by omega
      clear hbx hokr hvr hlr
      go_wp2
      go_ret
      have hall : (partsB kd).take k = partsB kd := List.take_of_length_le (by rw [← HL.out]; exact Nat.le_refl _)
      have h9 := HR.out
      have hn9 := HNN.out
      rw [hall] at h9 hn9
      have hwb : wordsB x.tn = (partsB kd).flatMap (stepW x.tn) := by rw [wordsB, HKD.out]
      rw [hwb, ← hn9]
      exact ⟨A2, c2, rfl, own_base h9 (by rw [HBE.out]; exact Nat.le_trans HB1.out.size HB3.out.size), HB1.out.trans ((HB3.out.mono HB1.out.size).trans (HB4.out.mono (by rw [HBE.out]; exact Nat.le_trans HB1.out.size HB3.out.size)))⟩

end

end Go.Proofs.YtohndckbhjakfaaGreatDoor
