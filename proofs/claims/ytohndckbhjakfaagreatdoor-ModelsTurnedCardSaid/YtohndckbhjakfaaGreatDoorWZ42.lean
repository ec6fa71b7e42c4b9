/- Merged: Kn11, Tx12, Pl11, Ak11, Al11. -/
import Derived.Test.YtohndckbhjakfaaGreatDoorWZ29
import Derived.Test.YtohndckbhjakfaaGreatDoorWZ01
import Derived.Test.YtohndckbhjakfaaGreatDoorWZ38
import Derived.Test.YtohndckbhjakfaaGreatDoorWZ31
import Derived.Test.YtohndckbhjakfaaGreatDoorWZ27
import Derived.Test.YtohndckbhjakfaaGreatDoorWZ37
import Derived.Test.YtohndckbhjakfaaGreatDoorWZ32
import Derived.Test.YtohndckbhjakfaaGreatDoorWZ41
namespace Go.Proofs.YtohndckbhjakfaaGreatDoor

section
open Go.RowKit
set_option linter.unusedVariables false
set_option linter.unusedSimpArgs false
set_option maxRecDepth 100000

set_option maxHeartbeats 2000000 in
theorem known11_any (w : World) : Calls Tryz.prog 21 #[] w fun e w' => e = .returned (.agg #[.slice (some ⟨w.heap.size + 5, 0, none⟩) 4 4]) ∧ NsIn w' (some ⟨w.heap.size + 5, 0, none⟩) 4 (knN w.heap.size) ∧ Below w.heap.size w w' := by
  obtain ⟨q, hq⟩ : ∃ q, q = w.heap.size := ⟨_, rfl⟩
  obtain ⟨W1, hW1⟩ : ∃ W, W = w.alloc (.cells #[.slice none 0 0] 24) := ⟨_, rfl⟩
  obtain ⟨W2, hW2⟩ : ∃ W, W = W1.alloc (.cells #[.int .i64 2, .int .i64 3] 3) := ⟨_, rfl⟩
  obtain ⟨W3, hW3⟩ : ∃ W, W = W2.alloc (.cells #[.int .i64 3, .int .i64 2] 3) := ⟨_, rfl⟩
  obtain ⟨W4, hW4⟩ : ∃ W, W = W3.alloc (.cells #[.int .i64 0, .int .i64 1] 3) := ⟨_, rfl⟩
  obtain ⟨W5, hW5⟩ : ∃ W, W = W4.alloc (.cells #[.int .i64 2] 3) := ⟨_, rfl⟩
  obtain ⟨W6, hW6⟩ : ∃ W, W = W5.alloc (.cells #[.int .u8 1, .slice none 0 0, .slice (some ⟨q + 1, 0, none⟩) 2 2, .int .i64 0, .int .i64 0, .int .u8 2, .slice none 0 0, .slice (some ⟨q + 1 + 1, 0, none⟩) 2 2, .int .i64 0, .int .i64 0, .int .u8 7, .slice (some ⟨q + 1 + 1 + 1, 0, none⟩) 2 2, .slice none 0 0, .int .i64 0, .int .i64 0, .int .u8 5, .slice (some ⟨q + 1 + 1 + 1 + 1, 0, none⟩) 1 1, .slice none 0 0, .int .i64 0, .int .i64 0] 44) := ⟨_, rfl⟩
  have s1 : W1.heap.size = q + 1 := by rw [hW1, hq]; simp
  have s2 : W2.heap.size = q + 2 := by rw [hW2]; simp [s1]
  have s3 : W3.heap.size = q + 3 := by rw [hW3]; simp [s2]
  have s4 : W4.heap.size = q + 4 := by rw [hW4]; simp [s3]
  have s5 : W5.heap.size = q + 5 := by rw [hW5]; simp [s4]
  have b1 : Below q w W1 := by rw [hW1]; exact (Below.refl q w).alloc (by omega) _
  have b2 : Below (q + 1) W1 W2 := by rw [hW2]; exact (Below.refl (q + 1) W1).alloc (by omega) _
  have b3 : Below (q + 2) W2 W3 := by rw [hW3]; exact (Below.refl (q + 2) W2).alloc (by omega) _
  have b4 : Below (q + 3) W3 W4 := by rw [hW4]; exact (Below.refl (q + 3) W3).alloc (by omega) _
  have b5 : Below (q + 4) W4 W5 := by rw [hW5]; exact (Below.refl (q + 4) W4).alloc (by omega) _
  have b6 : Below (q + 5) W5 W6 := by rw [hW6]; exact (Below.refl (q + 5) W5).alloc (by omega) _
  have l2 : Lies W2 (some ⟨q + 1, 0, none⟩) 2 (([2, 3] : List Int).map (Value.int .i64)) := by have h := lit_lies W1 .i64 [2, 3] 3; rw [s1] at h; rw [hW2]; exact h
  have l3 : Lies W3 (some ⟨q + 2, 0, none⟩) 2 (([3, 2] : List Int).map (Value.int .i64)) := by have h := lit_lies W2 .i64 [3, 2] 3; rw [s2] at h; rw [hW3]; exact h
  have l4 : Lies W4 (some ⟨q + 3, 0, none⟩) 2 (([0, 1] : List Int).map (Value.int .i64)) := by have h := lit_lies W3 .i64 [0, 1] 3; rw [s3] at h; rw [hW4]; exact h
  have l5 : Lies W5 (some ⟨q + 4, 0, none⟩) 1 (([2] : List Int).map (Value.int .i64)) := by have h := lit_lies W4 .i64 [2] 3; rw [s4] at h; rw [hW5]; exact h
  have e6 : W6.heap[q + 5]? = some (.cells #[.int .u8 1, .slice none 0 0, .slice (some ⟨q + 1, 0, none⟩) 2 2, .int .i64 0, .int .i64 0, .int .u8 2, .slice none 0 0, .slice (some ⟨q + 1 + 1, 0, none⟩) 2 2, .int .i64 0, .int .i64 0, .int .u8 7, .slice (some ⟨q + 1 + 1 + 1, 0, none⟩) 2 2, .slice none 0 0, .int .i64 0, .int .i64 0, .int .u8 5, .slice (some ⟨q + 1 + 1 + 1 + 1, 0, none⟩) 1 1, .slice none 0 0, .int .i64 0, .int .i64 0] 44 (0, 0)) := by rw [hW6, ← s5]; exact heap_alloc_new W5 _
  have HB6 : Hid (Below q w W6) := hide (((((b1.trans (b2.mono (by omega))).trans (b3.mono (by omega))).trans (b4.mono (by omega))).trans (b5.mono (by omega))).trans (b6.mono (by omega)))
  have hs2 : W2.heap.size = q + 2 := s2
  have HN6 : Hid (∀ v : World, q + 6 ≤ v.heap.size → (∀ k, q < k → k < q + 6 → v.heap[k]? = W6.heap[k]?) → NsIn v (some ⟨q + 5, 0, none⟩) 4 (knN q) ) := hide (fun v hsz hbk => by
    have s6 : W6.heap.size = q + 6 := by rw [hW6]; simp [s5]
    have hk : ∀ (g : Nat) (n : Nat) (l : List Value), q < g → g < q + 6 → Lies W6 (some ⟨g, 0, none⟩) n l → Lies v (some ⟨g, 0, none⟩) n l := fun g n l h1 h2 h => h.keep (by omega) (fun b o e _ j => by cases e; exact World.cell?_of_block (hbk g h1 h2))
    have L2 := hk _ _ _ (by omega) (by omega) (((((l2.below (by rw [s2]; exact b3)).below (by rw [s3]; exact b4)).below (by rw [s4]; exact b5)).below (by rw [s5]; exact b6)))
    have L3 := hk _ _ _ (by omega) (by omega) ((((l3.below (by rw [s3]; exact b4)).below (by rw [s4]; exact b5)).below (by rw [s5]; exact b6)))
    have L4 := hk _ _ _ (by omega) (by omega) (((l4.below (by rw [s4]; exact b5)).below (by rw [s5]; exact b6)))
    have L5 := hk _ _ _ (by omega) (by omega) ((l5.below (by rw [s5]; exact b6)))
    have ev := (hbk (q + 5) (by omega) (by omega)).trans e6
    have c := fun (k : Nat) => cell_of_row v (q + 5) k _ _ (0, 0) ev
    refine ⟨rfl, fun _ => ⟨q + 5, 0, rfl, by omega, fun j x hj => ?_⟩⟩
    match j, hj with
    | 0, hj => cases hj; exact ⟨c 0, c 1, c 2, c 3, c 4, Lies.nothing, L2, Nat.le_refl _, Nat.le_refl _, by dsimp only; decide, by dsimp only; decide, by dsimp only; decide, by dsimp only; decide, by dsimp only; decide⟩
    | 1, hj => cases hj; exact ⟨c 5, c 6, c 7, c 8, c 9, Lies.nothing, L3, Nat.le_refl _, Nat.le_refl _, by dsimp only; decide, by dsimp only; decide, by dsimp only; decide, by dsimp only; decide, by dsimp only; decide⟩
    | 2, hj => cases hj; exact ⟨c 10, c 11, c 12, c 13, c 14, L4, Lies.nothing, Nat.le_refl _, Nat.le_refl _, by dsimp only; decide, by dsimp only; decide, by dsimp only; decide, by dsimp only; decide, by dsimp only; decide⟩
    | 3, hj => cases hj; exact ⟨c 15, c 16, c 17, c 18, c 19, L5, Lies.nothing, Nat.le_refl _, Nat.le_refl _, by dsimp only; decide, by dsimp only; decide, by dsimp only; decide, by dsimp only; decide, by dsimp only; decide⟩
    | j + 4, hj => simp [knN] at hj)
  have hc0 : BoxG W6 q (.slice none 0 0) := by
    have h : BoxG W1 q (.slice none 0 0) := by rw [hW1, hq]; exact BoxG.new w _
    unfold BoxG at h ⊢
    rw [b6.block q (by omega), b5.block q (by omega), b4.block q (by omega), b3.block q (by omega), b2.block q (by omega)]
    exact h
  have HG := hide hc0
  have HS6 : Hid (W6.heap.size = q + 6) := hide (by rw [hW6]; simp [s5])
  have hf := hc0.f0 0
  have hc := hc0.c0
  rw [← hq]
  have hq' := hq.symm
  rw [hW5, hW4, hW3, hW2, hW1] at hW6
  have hW6' := hW6.symm
  clear hW1 hW2 hW3 hW4 hW5 hW6 s1 s2 s3 s4 s5 b1 b2 b3 b4 b5 b6 l2 l3 l4 l5 e6 hq hc0 hs2
  go_enter Tryz.func21, Tryz.ntmps21
  go_wp2
  (try simp only [Exit.inBlock, Exit.then])
  refine ret_gr (p := 0) rfl rfl q _ rfl (HG.out.set _) rfl ?_
  exact ⟨rfl, HN6.out _ (by simp [World.setCell, HS6.out]) (fun k h1 h2 => heap_setCell_other _ _ _ _ (by dsimp only; omega)), HB6.out.setCell (by dsimp only; omega) _⟩

set_option maxHeartbeats 2000000 in
theorem four11_any (n : Nat) (hn : n < 4294967296) (w : World) : Calls Tryz.prog 17 #[.int .u32 (n : Int)] w fun e w' => e = .returned (.slice (some ⟨w.heap.size, 0, none⟩) 4 4) ∧ w' = w.alloc (.cells ((four (n : Int)).map (Value.int .u8)).toArray 5) := by
  go_enter Tryz.func17, Tryz.ntmps17
  go_wp2
  go_ret
  have h : (n : Int) / 16777216 % 256 = (n : Int) / 16777216 := by omega
  exact ⟨rfl, by simp [four, h]⟩

theorem info8 : (Tryz.prog.info? 5).map (fun i => (i.zero, i.size, i.bytes)) = some (some (.int .u8 0), 1, 1) := by kernel_rfl

set_option maxHeartbeats 4000000 in
theorem summed_any (A : Option Addr) (n c : Nat) (bs : List Int) (w : World) (h : Lies w A n (bs.map (Value.int .u8))) (hb : ByteL bs) (hnil : A = none → c = 0) (hn : n ≤ 1000000000) : Calls Tryz.prog 16 #[.slice A n c] w fun e w' => ∃ A' c', e = .returned (.slice A' (n + 4) c') ∧ w'.ownsRow w.heap.size 5 1 (.slice A' (n + 4) c') (n + 4) ((bs ++ four ((sumOf bs : Nat) : Int)).map (Value.int .u8)) ∧ Below w.heap.size w w' := by
  obtain ⟨i0, hi0, hz0, hz1, hz2⟩ := info_parts info8
  have HI := hide hi0
  have HZ0 := hide hz0
  have HZ1 := hide hz1
  have HZ2 := hide hz2
  have HL := hide h
  have HBL := hide hb
  have hone : ∀ u ∈ bs.map (Value.int .u8), u.oneCell' = true := by
    intro u hu
    obtain ⟨z, _, rfl⟩ := List.mem_map.1 hu
    rfl
  have hlt := sumOf_lt hb
  obtain ⟨sm, hsm⟩ : ∃ sm, sm = sumOf bs := ⟨_, rfl⟩
  rw [← hsm] at hlt ⊢
  have HSM := hide hsm
  clear hi0 hz0 hz1 hz2 h hb hsm
  go_enter Tryz.func16, Tryz.ntmps16
  go_wp2_with (first | (at_builtin; refine wpList_append_src rfl (.const (.slice none 0 0)) (.tmp 3) 30 rfl 5 i0 (.int .u8 0) 1 Tryz.underlying30 HI.out HZ0.out HZ1.out HZ2.out rfl w.heap.size (.slice none 0 0) 0 [] rfl (World.ownsRow_nil _ _ _ _) (Nat.le_refl _) A n c (bs.map (Value.int .u8)) rfl HL.out hnil hone (by omega) (by unfold maxLen; omega) ?_) | fail)
  intro A1 c1 w1 ho1 hg1
  have hb1 : Below w.heap.size w w1 := (Below.refl _ w).grown hg1 (Nat.le_refl _) (fun g e => by simp [Value.ownBlock] at e)
  have HO := hide (of_any A n c bs w1 (HL.out.below hb1) HBL.out (by omega))
  rw [← HSM.out] at HO
  have HO1 := hide ho1
  have HB1 := hide hb1
  clear ho1 hg1 hb1
  go_wp2_with (first | (go_at_call 30; refine HO.out.mono ?_; rintro e w2 ⟨rfl, hb2⟩; have HF := hide (four11_any sm hlt w2)) | (go_at_call 17; refine HF.out.mono ?_; rintro e w3 ⟨rfl, hw3⟩; have hb3 : Below w2.heap.size w2 w3 := (by rw [hw3]; exact (Below.refl _ _).alloc (Nat.le_refl _) _); have hl3 : Lies w3 (some ⟨w2.heap.size, 0, none⟩) 4 ((four (sm : Int)).map (Value.int .u8)) := (by rw [hw3]; exact ⟨rfl, fun _ => ⟨w2.heap.size, 0, rfl, by simp, fun j _ => by rw [cell_of_row _ _ _ _ _ (0, 0) (heap_alloc_new w2 _)]; simp⟩⟩); have HW3 := hide hw3; clear hw3) | (at_builtin; refine wpList_append_src rfl (.tmp 4) (.tmp 7) 30 rfl 5 i0 (.int .u8 0) 1 Tryz.underlying30 HI.out HZ0.out HZ1.out HZ2.out rfl w.heap.size (.slice A1 n c1) n (bs.map (Value.int .u8)) rfl (own_below HO1.out (hb2.trans (hb3.mono hb2.size))) (Nat.le_trans HB1.out.size (Nat.le_trans hb2.size hb3.size)) (some ⟨w2.heap.size, 0, none⟩) 4 4 ((four (sm : Int)).map (Value.int .u8)) rfl hl3 (fun h => by cases h) (fun u hu => by obtain ⟨z, _, rfl⟩ := List.mem_map.1 hu; rfl) (by omega) (by unfold maxLen; omega) ?_))
  intro A4 c4 w4 ho4 hg4
  have hb13 := hb2.trans (hb3.mono hb2.size)
  have hb4 : Below w.heap.size w w4 := (HB1.out.trans (hb13.mono HB1.out.size)).grown hg4 (Nat.le_trans HB1.out.size hb13.size) (fun g e => (HO1.out.lt g e).1)
  clear hg4
  go_wp2
  go_ret
  exact ⟨A4, c4, rfl, by rw [List.map_append]; exact ho4, hb4⟩

end

section
open Go.RowKit
set_option linter.unusedVariables false
set_option linter.unusedSimpArgs false
set_option maxRecDepth 100000

/-- The nodes of a text, or the line that is at fault. -/
def parseR (s : Wd) : List Tn ⊕ Nat := goP 0 [] (linesB s)

def gr0 : Value := .agg #[.slice none 0 0]

/-- What Parse comes to. -/
def ParseE (s : Wd) (w : World) (e : Ending) (w' : World) : Prop :=
  Below w.heap.size w w' ∧ ((65536 < s.length ∧ e = .returned (.tuple #[gr0, .int .i64 0, .int .i64 3])) ∨
  (s.length ≤ 65536 ∧ ∃ k : Nat, parseR s = .inr k ∧ e = .returned (.tuple #[gr0, .int .i64 k, .int .i64 4])) ∨
  (s.length ≤ 65536 ∧ ∃ ns : List Nd, parseR s = .inl (ns.map Nd.tn) ∧ gphB ns = false ∧ e = .returned (.tuple #[gr0, .int .i64 0, .int .i64 1]) ∧ ∀ x ∈ ns, 0 ≤ x.kd) ∨
  (s.length ≤ 65536 ∧ ∃ (ns : List Nd) (A : Option Addr) (c : Nat), parseR s = .inl (ns.map Nd.tn) ∧ gphB ns = true ∧ e = .returned (.tuple #[.agg #[.slice A ns.length c], .int .i64 0, .int .i64 0]) ∧ NsIn w' A ns.length ns ∧ w'.ownsRow w.heap.size 44 5 (.slice A ns.length c) ns.length (cellsN ns) ∧ (∀ (j : Nat) (x : Nd), ns[j]? = some x → OwnN w' w.heap.size x ∧ Bnd x) ∧ (∀ (i j : Nat) (x y : Nd) (g h : Nat), i < j → ns[i]? = some x → ns[j]? = some y → Blk x g → Blk y h → g < h)))

theorem goP_step {k : Nat} {done : List Tn} {l : Wd} {r : List Wd} {x : Tn} (h : nodeB l = some x) (hk : k < 32) : goP k done (l :: r) = goP (k + 1) (done ++ [x]) r := by
  rw [goP, h]; simp only; rw [if_neg (by omega)]

theorem goP_bad {k : Nat} {done : List Tn} {l : Wd} {r : List Wd} (h : nodeB l = none) : goP k done (l :: r) = .inr k := by rw [goP, h]

theorem goP_many {k : Nat} {done : List Tn} {l : Wd} {r : List Wd} {x : Tn} (h : nodeB l = some x) (hk : 32 ≤ k) : goP k done (l :: r) = .inr k := by
  rw [goP, h]; simp only; rw [if_pos hk]

theorem ownN_le {w : World} {B e s n c : Nat} {A : Option Addr} {xs : List Value} (h : w.ownsRow B e s (.slice A n c) n xs) : n ≤ c := by
  rcases h.2 with ⟨h1, h2⟩ | ⟨g, cap, cur, h1, _, _, h2, _⟩
  · omega
  · injection h1 with _ _ h3
    omega

theorem ownN_base {w : World} {B B' e s n : Nat} {v : Value} {xs : List Value} (h : w.ownsRow B e s v n xs) (hb : B' ≤ B) : w.ownsRow B' e s v n xs := by
  refine ⟨h.1, ?_⟩
  rcases h.2 with h1 | ⟨g, cap, cur, h1, h2, r⟩
  · exact .inl h1
  · exact .inr ⟨g, cap, cur, h1, Nat.le_trans hb h2, r⟩

theorem PsAt.same {B b0 : Nat} {W3 w : World} {A : Option Addr} {c : Nat} {ns : List Nd} (h : PsAt B b0 W3 w A c ns) : PsAt B b0 W3 (w.setCell ⟨b0, 0, none⟩ (.slice A ns.length c)) A c ns := by
  refine ⟨by rw [set_size]; exact h.big, h.b3, h.lb, ?_, own_set h.ro h.lb _ _, fun j x hj => ⟨⟨own_set (h.ow j x hj).1.1 h.lb _ _, own_set (h.ow j x hj).1.2.1 h.lb _ _, (h.ow j x hj).1.2.2⟩, (h.ow j x hj).2⟩, h.od, ?_⟩
  · have := heap_setCell_same w b0 0 _ _ (.slice A ns.length c) h.bx
    simpa using this
  · exact ⟨h.kp.os, h.kp.tape, h.kp.output, Nat.le_trans h.kp.size (by simp [World.setCell]), fun k hk hn => (Below.heap_setCell w _ _ k hn).trans (h.kp.block k hk hn)⟩

theorem lines_short (s : Wd) (hs : s.length ≤ 65536) : (∀ x ∈ linesB s, x.length ≤ 65536) ∧ (linesB s).length ≤ 65537 := by
  obtain ⟨h1, h2⟩ := splitC_short 10 s
  rw [linesB, split_eq]
  split
  · exact ⟨fun x hx => Nat.le_trans (h1 x ((List.dropLast_sublist _).subset hx)) hs, by rw [List.length_dropLast]; omega⟩
  · exact ⟨fun x hx => Nat.le_trans (h1 x hx) hs, by omega⟩

theorem nodeOf_no (s : Wd) (hs : s.length ≤ 900000) (kb : Nat) (w : World) (hv : LaidV w) (hk : w.heap[kb]? = some (.map (kdEs 14) 14)) (hn : nodeB s = none) : Calls Tryz.prog 47 #[strV s, .map (some kb)] w fun e w' => e = .returned (.tuple #[.agg #[.int .u8 0, .slice none 0 0, .slice none 0 0, .int .i64 0, .int .i64 0], .bool false]) ∧ Below w.heap.size w w' := by
  refine (nodeOf_any s hs kb w hv hk).mono ?_
  rintro e w' (⟨x, hx, _⟩ | ⟨_, he, hb⟩)
  · rw [hn] at hx; cases hx
  · exact ⟨he, hb⟩

theorem nodeOf_ok (s : Wd) (hs : s.length ≤ 900000) (kb : Nat) (w : World) (hv : LaidV w) (hk : w.heap[kb]? = some (.map (kdEs 14) 14)) {t : Tn} (hn : nodeB s = some t) : Calls Tryz.prog 47 #[strV s, .map (some kb)] w fun e w' => ∃ x : Nd, t = x.tn ∧ e = .returned (.tuple #[.agg #[.int .u8 x.kd, .slice x.I x.ni x.ci, .slice x.S x.ns x.cs, .int .i64 x.N, .int .i64 x.P], .bool true]) ∧ OwnN w' w.heap.size x ∧ Bnd x ∧ Below w.heap.size w w' := by
  refine (nodeOf_any s hs kb w hv hk).mono ?_
  rintro e w' (⟨x, hx, he, hok, hoi, hos, hdj, hb⟩ | ⟨hx, _⟩)
  · rw [hn] at hx
    injection hx with hx
    exact ⟨x, hx, he, ⟨hoi, hos, hdj⟩, hok.2.2, hb⟩
  · rw [hn] at hx; cases hx

set_option maxHeartbeats 16000000 in
theorem parse_any (s : Wd) (w : World) (hv : LaidV w) (hbig : s.length ≤ 281474976710656) : Calls Tryz.prog 22 #[strV s] w (ParseE s w) := by
  have hres : Tryz.f22.results = #[.cell 2 24, .tmp 3, .tmp 4] := rfl
  obtain ⟨b0, hb0⟩ : ∃ b, b = w.heap.size := ⟨_, rfl⟩
  obtain ⟨W1, hW1⟩ : ∃ W, W = w.alloc (.cells #[.slice none 0 0] 24) := ⟨_, rfl⟩
  have hg1 : W1.heap[b0]? = some (.cells #[.slice none 0 0] 24 (0, 0)) := by rw [hW1, hb0]; exact heap_alloc_new w _
  have hB1 : Below w.heap.size w W1 := by rw [hW1]; exact (Below.refl _ _).alloc (Nat.le_refl _) _
  have q0 := cell_of_row _ _ 0 _ _ (0, 0) hg1
  have q1 := frozen_of_row W1 b0 0 _ _ hg1
  by_cases hlong : 65536 < s.length
  · have hlt : (65536 : Int) < (s.length : Int) := by omega
    have hz : (⟨s.toArray⟩ : ByteArray).size = s.length := by simp [ByteArray.size]
    unfold strV
    rw [hb0] at q0
    rw [hW1] at q0 hB1
    clear hg1 q1 hb0 hW1
    go_enter Tryz.func22, Tryz.ntmps22
    go_wp2
    refine ⟨rfl, .tuple #[gr0, .int .i64 0, .int .i64 3], ?_, hB1, .inl ⟨hlong, rfl⟩⟩
    simp [results, hres, go_sem, gr0]
  · have hlt : ¬ ((65536 : Int) < (s.length : Int)) := by omega
    have hz : (⟨s.toArray⟩ : ByteArray).size = s.length := by simp [ByteArray.size]
    obtain ⟨hsh, hll⟩ := lines_short s (by omega)
    have HV := hide hv
    have hv1 := hv.below hB1
    have HK := hide (kinds_any W1 hv1)
    have HLO := hide (fun (u : World) (hb : Below W1.heap.size W1 u) => linesOf_any s (by omega) u (hv1.below hb))
    have HG1 := hide hg1
    have HB1 := hide hB1
    have HSH := hide hsh
    have hs1 : W1.heap.size = b0 + 1 := by rw [hW1, hb0]; simp
    have hW1' := hW1.symm
    have HBB := hide hb0
    obtain ⟨L, hL⟩ : ∃ L, L = (linesB s).length := ⟨_, rfl⟩
    have hL6 : L ≤ 65537 := by omega
    have HL := hide hL
    unfold strV at HLO ⊢
    rw [hb0] at q0 q1
    clear hv hv1 hg1 hB1 hsh hW1 hL hll q0 q1
    go_enter Tryz.func22, Tryz.ntmps22
    go_wp2_with (first | (go_at_call 45; refine HK.out.mono ?_; rintro e w2 ⟨kb, rfl, hkb, hkl, hkm, hb2⟩) | (go_at_call 46; refine (HLO.out w2 hb2).mono ?_; rintro e w3 ⟨lb, n, c0, rfl, hlb, hll, hLs, hnc, hnL, hb3⟩; have HNL := hide hnL; clear hnL))
    rw [← hb0]
    have hs2 := hb2.size
    have hs3 := hb3.size
    have HB3 := hide (HB1.out.trans ((hb2.mono HB1.out.size).trans (hb3.mono (Nat.le_trans HB1.out.size hb2.size))))
    obtain ⟨B, hB⟩ : ∃ B, B = w3.heap.size := ⟨_, rfl⟩
    have HBE := hide hB
    have HP0 : Hid (PsAt B b0 w3 w3 none 0 []) := hide ⟨by omega, hB, by omega, (hb3.block b0 (by omega)).trans ((hb2.block b0 (by omega)).trans HG1.out), World.ownsRow_nil _ _ _ _, fun j x hj => by simp at hj, fun i j x y g h _ hi => by simp at hi, But.refl _ _⟩
    have HMAP : Hid (∀ (wr : World) (A : Option Addr) (c : Nat) (ns : List Nd), PsAt B b0 w3 wr A c ns → wr.heap[kb]? = some (.map (kdEs 14) 14)) := hide (fun wr A c ns h => (h.kp.block kb (by omega) (by omega)).trans ((hb3.block kb hkl).trans hkm))
    have HLINE : Hid (∀ (wr : World) (A : Option Addr) (c : Nat) (ns : List Nd) (k : Nat) (y : Wd), PsAt B b0 w3 wr A c ns → (linesB s)[k]? = some y → wr.cell? ⟨lb, k, none⟩ = some (strV y)) := hide (fun wr A c ns k y h hy => by
      have hkn : k < n := by rw [HNL.out]; exact (List.getElem?_eq_some_iff.1 hy).1
      obtain ⟨b', o', e, hlt', hcs⟩ := hLs.cells (by omega)
      injection e with e
      injection e with e1 e2
      subst e1 e2
      have := hcs k hkn
      rw [Nat.zero_add, List.getElem?_map, hy] at this
      exact (World.cell?_of_block (h.kp.block lb (by omega) (by omega))).trans this)
    have HLV : Hid (∀ (wr : World) (A : Option Addr) (c : Nat) (ns : List Nd), PsAt B b0 w3 wr A c ns → Below w.heap.size w wr) := hide (fun wr A c ns h => HB3.out.trans (h.kp.to (by rw [HBB.out]; exact Nat.le_refl _) HB3.out.size))
    obtain ⟨R, hR⟩ : ∃ R, R = parseR s := ⟨_, rfl⟩
    have HR := hide hR
    have HR0 : Hid (goP 0 (([] : List Nd).map Nd.tn) ((linesB s).drop 0) = R) := hide (by rw [hR]; rfl)
    obtain ⟨iN, hiN, hzN0, hzN1, hzN2⟩ := info_parts infoN10
    have HIN := hide hiN
    have HZ0 := hide hzN0
    have HZ1 := hide hzN1
    have HZ2 := hide hzN2
    have hn6 : n ≤ 65537 := by rw [HNL.out, ← HL.out]; exact hL6
    clear hiN hzN0 hzN1 hzN2 hR hB hb0 hb2 hb3 hkb hkl hkm hlb hll hLs hnc hs1 hs2 hs3 hW1' HK HLO HG1 HB1
    go_loopw [18] (fun i wr => ∃ (k : Nat) (ns : List Nd) (A : Option Addr) (c : Nat), k ≤ n ∧ k ≤ 32 ∧ i = .int .i64 k ∧ Hid (ns.length = k) ∧ Hid (PsAt B b0 w3 wr A c ns) ∧ Hid (goP k (ns.map Nd.tn) ((linesB s).drop k) = R)) (fun i _ => n - (intOf i).toNat)
    case atStart => exact ⟨0, [], none, 0, Nat.zero_le _, by omega, rfl, hide rfl, HP0, HR0⟩
    case round =>
      obtain ⟨k, ns, A, c, hkn, hk32, rfl, HLN, HP, HRd⟩ := hrel
      by_cases hlt2 : k < n
      · obtain ⟨y, hy⟩ : ∃ y, (linesB s)[k]? = some y := ⟨_, List.getElem?_eq_getElem (by rw [← HNL.out]; exact hlt2)⟩
        have hdrop : (linesB s).drop k = y :: (linesB s).drop (k + 1) := by
          obtain ⟨hk2, e⟩ := List.getElem?_eq_some_iff.1 hy
          rw [← e]
          exact List.drop_eq_getElem_cons hk2
        have hyl : y.length ≤ 900000 := by have := HSH.out y (List.mem_of_getElem? hy); omega
        have hcell := HLINE.out wr A c ns k y HP.out hy
        have hbw := HLV.out _ _ _ _ HP.out
        have hvr := HV.out.below hbw
        have hmp := HMAP.out _ _ _ _ HP.out
        have f0 : (0 : Int) ≤ (k : Int) := by omega
        have f1 : (k : Int) < (n : Int) := by omega
        have hrd := HRd.out
        rw [hdrop] at hrd
        have HRD := hide hrd
        have HBW := hide hbw
        clear hy hdrop hrd HRd hbw
        cases hnb : nodeB y with
        | none =>
          have c1 := nodeOf_no y hyl kb wr hvr hmp hnb
          have hbad := HRD.out
          rw [goP_bad hnb] at hbad
          have HBAD := hide hbad
          unfold strV at hcell c1
          clear hbad hvr hmp hnb
          go_wp2_with (go_at_call 47; refine c1.mono ?_; rintro e w4 ⟨rfl, hb4⟩; have HP5 := hide ((HP.out.below hb4).below (w' := w4.alloc (.cells #[.int .u8 0, .slice none 0 0, .slice none 0 0, .int .i64 0, .int .i64 0] 44)) ((Below.refl _ _).alloc (Nat.le_refl _) _)); have hq := cell_of_row _ _ 0 _ _ (0, 0) HP5.out.bx; have hqf := frozen_of_row _ _ 0 _ _ HP5.out.bx)
          have hB5 := (HLV.out _ _ _ _ HP5.out).trans (below_set1 b0 _ 0 (.slice none 0 0) |>.mono (by rw [HBB.out]; exact Nat.le_refl _))
          have hs5 := heap_setCell_same _ b0 0 _ _ (.slice none 0 0) HP5.out.bx
          have d0 := cell_of_row _ _ 0 _ _ (0, 0) hs5
          simp only [List.setIfInBounds_toArray, List.set_cons_zero] at d0
          refine ⟨rfl, .tuple #[gr0, .int .i64 k, .int .i64 4], ?_, hB5, .inr (.inl ⟨by omega, k, by rw [← HR.out, ← HBAD.out], rfl⟩)⟩
          simp [results, hres, go_sem, gr0, d0]
        | some t =>
          have c1 := nodeOf_ok y hyl kb wr hvr hmp hnb
          by_cases hk2 : k = 32
          · have hbad := HRD.out
            rw [goP_many hnb (by omega)] at hbad
            have HBAD := hide hbad
            have h32 : ((32 : Int) ≤ (k : Int)) := by omega
            unfold strV at hcell c1
            clear hbad hvr hmp hnb hk2
            go_wp2_with (go_at_call 47; refine c1.mono ?_; rintro e w4 ⟨x, hx, rfl, hown, hbnd, hb4⟩; have HX := hide hx; clear hx; obtain ⟨V5, hV5⟩ : ∃ V, w4.alloc (.cells #[.int .u8 x.kd, .slice x.I x.ni x.ci, .slice x.S x.ns x.cs, .int .i64 x.N, .int .i64 x.P] 44) = V := ⟨_, rfl⟩; have hb5 : Below w4.heap.size w4 V5 := (by rw [← hV5]; exact (Below.refl _ _).alloc (Nat.le_refl _) _); have HP5 := hide ((HP.out.below hb4).below hb5); have hq := cell_of_row _ _ 0 _ _ (0, 0) HP5.out.bx; have hqf := frozen_of_row _ _ 0 _ _ HP5.out.bx)
            have hB5 := (HLV.out _ _ _ _ HP5.out).trans (below_set1 b0 _ 0 (.slice none 0 0) |>.mono (by rw [HBB.out]; exact Nat.le_refl _))
            have hs5 := heap_setCell_same _ b0 0 _ _ (.slice none 0 0) HP5.out.bx
            have d0 := cell_of_row _ _ 0 _ _ (0, 0) hs5
            simp only [List.setIfInBounds_toArray, List.set_cons_zero] at d0
            refine ⟨rfl, .tuple #[gr0, .int .i64 k, .int .i64 4], ?_, hB5, .inr (.inl ⟨by omega, k, by rw [← HR.out, ← HBAD.out], rfl⟩)⟩
            simp [results, hres, go_sem, gr0, d0]
          · have h32 : ¬ ((32 : Int) ≤ (k : Int)) := by omega
            have hgo := HRD.out
            rw [goP_step hnb (by omega)] at hgo
            have HGO := hide hgo
            have hwr : w.heap.size ≤ wr.heap.size := HBW.out.size
            unfold strV at hcell c1
            clear hgo hvr hmp hnb
            go_wp2_with (first | (go_at_call 47; refine c1.mono ?_; rintro e w4 ⟨x, hx, rfl, hown, hbnd, hb4⟩; have HX := hide hx; clear hx; obtain ⟨V5, hV5⟩ : ∃ V, w4.alloc (.cells #[.int .u8 x.kd, .slice x.I x.ni x.ci, .slice x.S x.ns x.cs, .int .i64 x.N, .int .i64 x.P] 44) = V := ⟨_, rfl⟩; have hb5 : Below w4.heap.size w4 V5 := (by rw [← hV5]; exact (Below.refl _ _).alloc (Nat.le_refl _) _); have HP5 := hide ((HP.out.below hb4).below hb5); have hq := cell_of_row _ _ 0 _ _ (0, 0) HP5.out.bx; have hbn := BoxN.new w4 x; rw [hV5] at hbn; have hcs := hbn.cs) | (at_builtin; refine wpList_append_srcN rfl (.tmp 38) (.tmp 40) 22 rfl 44 iN _ 5 72 Tryz.underlying22 HIN.out HZ0.out HZ1.out HZ2.out rfl (by decide) B (.slice A ns.length c) ns.length (cellsN ns) rfl (own_keep10 HP5.out.ro ((Below.refl _ _).alloc (Nat.le_refl _) _)) (Nat.le_trans HP5.out.big (by simp)) (some ⟨V5.heap.size, 0, none⟩) 1 1 x.five rfl rfl (fun _ => ⟨_, rfl, five_new V5 x⟩) (fun h => by cases h) (fun u hu => by simp only [Nd.five, List.mem_cons, List.not_mem_nil, or_false] at hu; rcases hu with rfl | rfl | rfl | rfl | rfl <;> rfl) (by rw [HLN.out]; omega) (by rw [HLN.out]; unfold maxLen; omega) ?_))
            intro A' c' w7 ho7 hg7 _
            have hb6 : Below V5.heap.size V5 (V5.alloc (.cells #[.int .u8 x.kd, .slice x.I x.ni x.ci, .slice x.S x.ns x.cs, .int .i64 x.N, .int .i64 x.P] 44)) := (Below.refl _ _).alloc (Nat.le_refl _) _
            have HP6 := hide (HP5.out.below hb6)
            have hown6 : OwnN (V5.alloc (.cells #[.int .u8 x.kd, .slice x.I x.ni x.ci, .slice x.S x.ns x.cs, .int .i64 x.N, .int .i64 x.P] 44)) wr.heap.size x := (hown.below hb5).below hb6
            have ho8 : w7.ownsRow B 44 5 (.slice A' (ns.length + 1) c') (ns.length + 1) (cellsN (ns ++ [x])) := by
              rw [cellsN_append]
              have e : cellsN [x] = x.five := by simp [cellsN]
              rw [e]
              exact ho7
            have HPN := hide (HP6.out.push hown6 hbnd (fun j z g hj hg => ((HP.out.ow j z hj).1.lt hg).2) HP.out.big ho8 hg7)
            have hbel7 : Below B (V5.alloc (.cells #[.int .u8 x.kd, .slice x.I x.ni x.ci, .slice x.S x.ns x.cs, .int .i64 x.N, .int .i64 x.P] 44)) w7 := (Below.refl B _).grown hg7 HP6.out.big (fun g e => (HP6.out.ro.lt g e).1)
            have hq7 := cell_of_row _ _ 0 _ _ (0, 0) ((hbel7.block b0 HP6.out.lb).trans HP6.out.bx)
            have hf7 := frozen_of_row _ _ 0 _ _ ((hbel7.block b0 HP6.out.lb).trans HP6.out.bx)
            clear ho7 hg7 hb6 hown6 ho8 hbel7 hown hbnd hb5 hV5 hbn hcs hq hb4 c1 HP5 HP6
            go_wp2
            go_roundw
            case rel => exact ⟨k + 1, ns ++ [x], A', c', by omega, by omega, by go_num, hide (by rw [List.length_append, HLN.out]; rfl), HPN, hide (by have := HGO.out; rw [HX.out] at this; rw [List.map_append]; exact this)⟩
            case measure => simp [intOf]; omega
      · obtain rfl : k = n := by omega
        have hR2 := HRd.out
        rw [List.drop_eq_nil_of_le (by rw [← HNL.out]; exact Nat.le_refl _), goP] at hR2
        have HR2 := hide hR2
        have hns := HP.out.nsIn
        have hcle : ns.length ≤ c := ownN_le HP.out.ro
        have HC := hide (gcheck_any A ns.length c ns wr hns (by rw [HLN.out]; omega) hcle)
        have hq := cell_of_row _ _ 0 _ _ (0, 0) HP.out.bx
        have hqf := frozen_of_row _ _ 0 _ _ HP.out.bx
        clear hR2 hns
        cases hgb : gphB ns with
        | false =>
          rw [hgb] at HC
          have HGB := hide hgb
          clear hgb
          go_wp2_with (go_at_call 9; refine HC.out.mono ?_; rintro e w4 ⟨rfl, hb4⟩; have HP5 := hide (HP.out.below hb4); have hq2 := cell_of_row _ _ 0 _ _ (0, 0) HP5.out.bx; have hqf2 := frozen_of_row _ _ 0 _ _ HP5.out.bx)
          have hB5 := (HLV.out _ _ _ _ HP5.out).trans (below_set1 b0 _ 0 (.slice none 0 0) |>.mono (by rw [HBB.out]; exact Nat.le_refl _))
          have hs5 := heap_setCell_same _ b0 0 _ _ (.slice none 0 0) HP5.out.bx
          have d0 := cell_of_row _ _ 0 _ _ (0, 0) hs5
          simp only [List.setIfInBounds_toArray, List.set_cons_zero] at d0
          refine ⟨rfl, .tuple #[gr0, .int .i64 0, .int .i64 1], ?_, hB5, .inr (.inr (.inl ⟨by omega, ns, by rw [← HR.out, ← HR2.out], HGB.out, rfl, fun x hx => by
            obtain ⟨j, hj, e⟩ := List.getElem_of_mem hx
            exact ((HP5.out.ow j x (by rw [List.getElem?_eq_getElem hj, e])).2).2.2.2.2.1.1⟩))⟩
          simp [results, hres, go_sem, gr0, d0]
        | true =>
          rw [hgb] at HC
          have HGB := hide hgb
          clear hgb
          go_wp2_with (go_at_call 9; refine HC.out.mono ?_; rintro e w4 ⟨rfl, hb4⟩; have HP5 := hide (HP.out.below hb4); have hq2 := cell_of_row _ _ 0 _ _ (0, 0) HP5.out.bx; have hqf2 := frozen_of_row _ _ 0 _ _ HP5.out.bx)
          have hcl : w4.setCell ⟨b0, 0, none⟩ (.slice A ns.length c) = w4.setCell ⟨b0, 0, none⟩ (.slice A ns.length c) := rfl
          clear hcl
          have hB5 := (HLV.out _ _ _ _ HP5.out).trans (below_set1 b0 w4 0 (.slice A ns.length c) |>.mono (by rw [HBB.out]; exact Nat.le_refl _))
          have hs5 := heap_setCell_same _ b0 0 _ _ (.slice A ns.length c) HP5.out.bx
          have HPN := HP5.out.same
          have d0 := cell_of_row _ _ 0 _ _ (0, 0) hs5
          simp only [List.setIfInBounds_toArray, List.set_cons_zero] at d0
          have hwB : w.heap.size ≤ B := by rw [HBE.out]; exact HB3.out.size
          refine ⟨rfl, .tuple #[.agg #[.slice A ns.length c], .int .i64 0, .int .i64 0], ?_, hB5, .inr (.inr (.inr ⟨by omega, ns, A, c, by rw [← HR.out, ← HR2.out], HGB.out, rfl, HPN.nsIn, ownN_base HPN.ro hwB, fun j x hj => ⟨(HPN.ow j x hj).1.base hwB, (HPN.ow j x hj).2⟩, HPN.od⟩))⟩
          simp [results, hres, go_sem, d0]

end

section
open Go.RowKit
set_option linter.unusedVariables false
set_option linter.unusedSimpArgs false
set_option maxRecDepth 100000

theorem i0_dec : Lib.itoa 0 = [48] := by rw [itoa_nat 0 (by omega)]; exact Lib.decDigits_one (by omega)

theorem i1_dec : Lib.itoa 1 = [49] := by rw [itoa_nat 1 (by omega)]; exact Lib.decDigits_one (by omega)

theorem i2_dec : Lib.itoa 2 = [50] := by rw [itoa_nat 2 (by omega)]; exact Lib.decDigits_one (by omega)

theorem i3_dec : Lib.itoa 3 = [51] := by rw [itoa_nat 3 (by omega)]; exact Lib.decDigits_one (by omega)

theorem i4_dec : Lib.itoa 4 = [52] := by rw [itoa_nat 4 (by omega)]; exact Lib.decDigits_one (by omega)

theorem kn_text (q : Nat) : textB ((knN q).map Nd.tn) = [105, 110, 112, 117, 116, 32, 50, 32, 51, 10, 119, 101, 105, 103, 104, 116, 32, 51, 32, 50, 10, 112, 114, 111, 100, 117, 99, 116, 32, 48, 32, 49, 10, 114, 101, 108, 117, 32, 50, 10] := by
  simp [textB, knN, Nd.tn, lineB, wordsB, partsB, stepW, Lib.join, i0_dec, i1_dec, i2_dec, i3_dec, List.intercalate]

theorem kn_may (q : Nat) : gphB (knN q) = true := by kernel_rfl

/-- A node by its plain part. -/
def nodeT (t : Tn) : Nd := ⟨(t.kd : Int), none, 0, 0, none, 0, 0, t.N, t.P, t.xs, t.sh⟩

theorem gph_tn {ns : List Nd} {ts : List Tn} (h : ns.map Nd.tn = ts) (hk : ∀ x ∈ ns, 0 ≤ x.kd) : gphB ns = gphB (ts.map nodeT) := by
  refine (gph_same ?_).1
  rw [← h, List.map_map, List.map_map]
  apply List.map_congr_left
  intro x hx
  have := hk x hx
  simp [pl, nodeT, Nd.tn, Int.toNat_of_nonneg this]

def s1 : Wd := [105, 110, 112, 117, 116, 32, 52, 10, 114, 101, 108, 117, 32, 48]

def s2 : Wd := [105, 110, 112, 117, 116, 32, 52, 10, 114, 101, 108, 117]

def s3 : Wd := [105, 110, 112, 117, 116, 32, 52, 10, 114, 101, 108, 117, 32, 49]

def s4 : Wd := [105, 110, 112, 117, 116, 32, 48, 52]

def tIn : Tn := ⟨1, [], [4], 0, 0⟩

theorem n_in : nodeB [105, 110, 112, 117, 116, 32, 52] = some tIn := by
  have h := node_line tIn ⟨by intro z hz; simp [tIn] at hz, by intro z hz; simp [tIn] at hz; omega, by simp [tIn], by simp [tIn], rfl, by simp [tIn], rfl, rfl⟩
  have e : lineB tIn = [105, 110, 112, 117, 116, 32, 52] := by simp [lineB, tIn, wordsB, partsB, stepW, Lib.join, i4_dec, List.intercalate]
  rwa [e] at h

theorem n_relu (z : Int) (hz : 0 ≤ z ∧ z < 2) : nodeB ([114, 101, 108, 117, 32] ++ Lib.itoa z) = some ⟨5, [z], [], 0, 0⟩ := by
  have h := node_line ⟨5, [z], [], 0, 0⟩ ⟨by intro y hy; simp at hy; omega, by intro y hy; simp at hy, by simp, by simp, rfl, rfl, rfl, rfl⟩
  have e : lineB ⟨5, [z], [], 0, 0⟩ = [114, 101, 108, 117, 32] ++ Lib.itoa z := by simp [lineB, wordsB, partsB, stepW, Lib.join, List.intercalate]
  rwa [e] at h

theorem l1 : linesB s1 = [[105, 110, 112, 117, 116, 32, 52], [114, 101, 108, 117, 32, 48]] := by decide +kernel

theorem l2 : linesB s2 = [[105, 110, 112, 117, 116, 32, 52], [114, 101, 108, 117]] := by decide +kernel

theorem l3 : linesB s3 = [[105, 110, 112, 117, 116, 32, 52], [114, 101, 108, 117, 32, 49]] := by decide +kernel

theorem l4 : linesB s4 = [[105, 110, 112, 117, 116, 32, 48, 52]] := by decide +kernel

theorem p1 : parseR s1 = .inl [tIn, ⟨5, [0], [], 0, 0⟩] := by
  have h : nodeB [114, 101, 108, 117, 32, 48] = some ⟨5, [0], [], 0, 0⟩ := by have h := n_relu 0 (by omega); rw [i0_dec] at h; exact h
  rw [parseR, l1, goP_step n_in (by omega), goP_step h (by omega), goP]
  rfl

theorem p2 : parseR s2 = .inr 1 := by
  rw [parseR, l2, goP_step n_in (by omega), goP_bad rfl]

theorem p3 : parseR s3 = .inl [tIn, ⟨5, [1], [], 0, 0⟩] := by
  have h : nodeB [114, 101, 108, 117, 32, 49] = some ⟨5, [1], [], 0, 0⟩ := by have h := n_relu 1 (by omega); rw [i1_dec] at h; exact h
  rw [parseR, l3, goP_step n_in (by omega), goP_step h (by omega), goP]
  rfl

theorem n04 : numB [48, 52] = none := by
  have h : Lib.atoiAll [48, 52] = .ok 4 := by decide
  simp [numB, h, i4_dec]

theorem p4 : parseR s4 = .inr 0 := by
  have h : nodeB [105, 110, 112, 117, 116, 32, 48, 52] = none := by
    have e : Lib.split [105, 110, 112, 117, 116, 32, 48, 52] [32] = [[105, 110, 112, 117, 116], [48, 52]] := by decide +kernel
    rw [nodeB, e]
    simp [nodeW, kindB, partsB, readB, stepR, numsB, n04]
  rw [parseR, l4, goP_bad h]

theorem g1_may : gphB ([tIn, ⟨5, [0], [], 0, 0⟩].map nodeT) = true := by kernel_rfl

theorem g3_may : gphB ([tIn, ⟨5, [1], [], 0, 0⟩].map nodeT) = false := by kernel_rfl

theorem parse_inr {s : Wd} {k : Nat} (hs : s.length ≤ 65536) (h : parseR s = .inr k) (w : World) (hv : LaidV w) : Calls Tryz.prog 22 #[strV s] w fun e w' => e = .returned (.tuple #[gr0, .int .i64 k, .int .i64 4]) ∧ Below w.heap.size w w' := by
  refine (parse_any s w hv (by omega)).mono ?_
  rintro e w' ⟨hb, hE⟩
  rcases hE with ⟨h1, _⟩ | ⟨_, k', hk, he⟩ | ⟨_, ns, hns, _⟩ | ⟨_, ns, A, c, hns, _⟩
  · omega
  · rw [h] at hk; injection hk with hk; subst hk; exact ⟨he, hb⟩
  · rw [h] at hns; cases hns
  · rw [h] at hns; cases hns

theorem parse_arg {s : Wd} {ts : List Tn} (hs : s.length ≤ 65536) (h : parseR s = .inl ts) (hg : gphB (ts.map nodeT) = false) (w : World) (hv : LaidV w) : Calls Tryz.prog 22 #[strV s] w fun e w' => e = .returned (.tuple #[gr0, .int .i64 0, .int .i64 1]) ∧ Below w.heap.size w w' := by
  refine (parse_any s w hv (by omega)).mono ?_
  rintro e w' ⟨hb, hE⟩
  rcases hE with ⟨h1, _⟩ | ⟨_, k', hk, he⟩ | ⟨_, ns, hns, _, he, _⟩ | ⟨_, ns, A, c, hns, hgb, _, _, _, how, _⟩
  · omega
  · rw [h] at hk; cases hk
  · exact ⟨he, hb⟩
  · rw [h] at hns
    injection hns with hns
    have := gph_tn hns.symm (fun x hx => by
      obtain ⟨j, hj, e⟩ := List.getElem_of_mem hx
      exact ((how j x (by rw [List.getElem?_eq_getElem hj, e])).2).2.2.2.2.1.1)
    rw [hgb, hg] at this
    cases this

/-- A text that is a graph's. -/
def ParseOk (ts : List Tn) (w : World) (e : Ending) (w' : World) : Prop :=
  ∃ (ns : List Nd) (A : Option Addr) (c : Nat), ns.map Nd.tn = ts ∧ gphB ns = true ∧ e = .returned (.tuple #[.agg #[.slice A ns.length c], .int .i64 0, .int .i64 0]) ∧ NsIn w' A ns.length ns ∧ ns.length ≤ c ∧ (∀ x ∈ ns, 0 ≤ x.kd) ∧ Below w.heap.size w w'

theorem parse_ok {s : Wd} {ts : List Tn} (hs : s.length ≤ 65536) (h : parseR s = .inl ts) (hg : gphB (ts.map nodeT) = true) (hkd : ∀ x ∈ ts, 0 ≤ (x.kd : Int)) (w : World) (hv : LaidV w) : Calls Tryz.prog 22 #[strV s] w (ParseOk ts w) := by
  refine (parse_any s w hv (by omega)).mono ?_
  rintro e w' ⟨hb, hE⟩
  rcases hE with ⟨h1, _⟩ | ⟨_, k', hk, he⟩ | ⟨_, ns, hns, hgb, he, hkn⟩ | ⟨_, ns, A, c, hns, hgb, he, hin, hro, how, _⟩
  · omega
  · rw [h] at hk; cases hk
  · rw [h] at hns
    injection hns with hns
    have := gph_tn hns.symm hkn
    rw [hgb, hg] at this
    cases this
  · rw [h] at hns
    injection hns with hns
    exact ⟨ns, A, c, hns.symm, hgb, he, hin, ownN_le hro, fun x hx => by
      obtain ⟨j, hj, e⟩ := List.getElem_of_mem hx
      exact ((how j x (by rw [List.getElem?_eq_getElem hj, e])).2).2.2.2.2.1.1, hb⟩

end

section
open Go.RowKit
set_option linter.unusedVariables false
set_option linter.unusedSimpArgs false
set_option maxRecDepth 100000

theorem parse11_res {s : Wd} {a b : Int} {w : World} (c : Calls Tryz.prog 22 #[strV s] w fun e w' => e = .returned (.tuple #[gr0, .int .i64 a, .int .i64 b]) ∧ Below w.heap.size w w') : Calls Tryz.prog 23 #[strV s] w fun e w' => e = .returned (.tuple #[.int .i64 a, .int .i64 b]) ∧ Below w.heap.size w w' := by
  unfold strV gr0 at *
  go_enter Tryz.func23, Tryz.ntmps23
  go_wp2_with (go_at_call 22; refine c.mono ?_; rintro e w1 ⟨rfl, hb⟩)
  go_ret2
  exact ⟨rfl, below_al6 hb⟩

theorem sh0 : (tkGraph ([], false)).2.2 = true := by kernel_rfl

theorem sh7 : (tkGraph ([7], false)).2.2 = true := by kernel_rfl

theorem own_max {w : World} {B e s n c : Nat} {A : Option Addr} {xs : List Value} (h : w.ownsRow B e s (.slice A n c) n xs) : c ≤ maxLen := by
  rcases h.2 with ⟨h1, h2⟩ | ⟨g, cap, cur, h1, _, _, _, h2, _⟩
  · injection h1 with _ _ h3; rw [h3]; exact Nat.zero_le _
  · injection h1 with _ _ h3; rw [h3]; exact h2

theorem own_max2 {w : World} {B e s n c : Nat} {A : Option Addr} {xs : List Value} (h : w.ownsRow B e s (.slice A n c) n xs) : c ≤ 9223372036854775807 := by
  have := own_max h
  unfold maxLen at this
  omega

theorem get_zero (A : Option Addr) (c : Nat) (w : World) (h : Lies w A 4 (([0, 0, 0, 0] : List Int).map (Value.int .u8))) (hnc : 4 ≤ c) (hc : c ≤ 9223372036854775807) : Calls Tryz.prog 13 #[.slice A 4 c] w fun e w' => e = .returned (.tuple #[md0, .int .i64 4]) ∧ Below w.heap.size w w' := by
  have e1 : ([0, 0, 0, 0] : List Int).take (4 - 4) = [] := rfl
  have e2 : ([0, 0, 0, 0] : List Int).drop (4 - 4) = [0, 0, 0, 0] := rfl
  refine get_form A 4 c [0, 0, 0, 0] w h (by intro z hz; simp at hz; omega) (by omega) (by omega) hnc hc ?_ ?_
  · rw [e1, e2, sumOf, sumOn_nil]
    rfl
  · rw [e1]
    exact sh0

theorem get_seven (A : Option Addr) (c sm : Nat) (hsm : sm = sumOf [7]) (w : World) (h : Lies w A 5 (([7] ++ four ((sm : Nat) : Int)).map (Value.int .u8))) (hnc : 5 ≤ c) (hc : c ≤ 9223372036854775807) : Calls Tryz.prog 13 #[.slice A 5 c] w fun e w' => e = .returned (.tuple #[md0, .int .i64 4]) ∧ Below w.heap.size w w' := by
  have h7 : ByteL [7] := by intro z hz; simp at hz; omega
  have hslt : sm < 4294967296 := by rw [hsm]; exact sumOf_lt h7
  have e1 : ([7] ++ four ((sm : Nat) : Int)).take (5 - 4) = [7] := rfl
  have e2 : ([7] ++ four ((sm : Nat) : Int)).drop (5 - 4) = four ((sm : Nat) : Int) := rfl
  have e3 : head4 (four ((sm : Nat) : Int)) = (sm : Int) := by
    simp only [head4, four, List.getD_cons_zero, List.getD_cons_succ]
    exact word_four (sm : Int) (by omega) (by omega)
  refine get_form A 5 c ([7] ++ four ((sm : Nat) : Int)) w h (byteL_append h7 (four_bytes _)) (by omega) (by omega) hnc hc ?_ ?_
  · rw [e1, e2, e3, hsm]
  · rw [e1]
    exact sh7

end

section
open Go.RowKit
set_option linter.unusedVariables false
set_option linter.unusedSimpArgs false
set_option maxRecDepth 100000

set_option maxHeartbeats 16000000 in
theorem alive11_any (w : World) (hv : LaidV w) : Calls Tryz.prog 6 #[] w fun e w' => e = .returned (.bool true) ∧ Below w.heap.size w w' := by
  have HV := hide hv
  have HK := hide (known11_any w)
  clear hv
  go_enter Tryz.func6, Tryz.ntmps6
  go_wp2_with (go_at_call 21; refine HK.out.mono ?_; rintro e w1 ⟨rfl, hns, hb1⟩; have HT := hide (text_any _ 4 4 (knN w.heap.size) w1 hns (by omega) (by omega) (HV.out.below hb1)); have HB1 := hide hb1; clear hns hb1)
  refine HT.out.mono ?_
  rintro e w2 ⟨hb2, hE⟩
  have he : e = .returned (.tuple #[strV [105, 110, 112, 117, 116, 32, 50, 32, 51, 10, 119, 101, 105, 103, 104, 116, 32, 51, 32, 50, 10, 112, 114, 111, 100, 117, 99, 116, 32, 48, 32, 49, 10, 114, 101, 108, 117, 32, 50, 10], .int .i64 0]) := by
    rcases hE with ⟨_, he⟩ | ⟨h, _⟩
    · rw [kn_text] at he; exact he
    · rw [kn_may] at h; cases h
  subst he
  have HB2 := hide (HB1.out.trans (hb2.mono HB1.out.size))
  clear hE hb2 HB1 HT HK
  have HP1 := hide (parse_ok (s := s1) (by decide) p1 g1_may (by intro x hx; exact Int.natCast_nonneg _) w2 (HV.out.below HB2.out))
  unfold strV s1 at HP1
  unfold strV
  (try dsimp only)
  go_wp2_with (go_at_call 22; refine HP1.out.mono ?_; rintro e w3 ⟨ns, A3, c3, hns, _, rfl, _, _, _, hb3⟩; have hnl : ns.length = 2 := (by rw [← List.length_map (f := Nd.tn), hns]; rfl); rw [hnl]; clear hns; obtain ⟨W3, hW3⟩ : ∃ W, w3.alloc (.cells #[.slice A3 2 c3] 24) = W := ⟨_, rfl⟩)
  have hb3w : Below w3.heap.size w3 W3 := by rw [← hW3]; exact (Below.refl _ _).alloc (Nat.le_refl _) _
  have hg3 : W3.heap[w3.heap.size]? = some (.cells #[.slice A3 2 c3] 24 (0, 0)) := by rw [← hW3]; exact heap_alloc_new w3 _
  have HG3 := hide hg3
  have HB3 := hide (HB2.out.trans ((hb3.mono HB2.out.size).trans (hb3w.mono (Nat.le_trans HB2.out.size hb3.size))))
  obtain ⟨q, hq⟩ : ∃ q, w3.heap.size = q := ⟨_, rfl⟩
  rw [hq] at HG3
  have hlg : q < W3.heap.size := lt_of_heap HG3.out
  clear hW3 hb3w hg3 hb3 HP1 HB2
  have HP2 := hide (parse11_res (parse_inr (s := s2) (by decide) p2 W3 (HV.out.below HB3.out)))
  unfold strV s2 at HP2
  go_wp2_with (go_at_call 23; refine HP2.out.mono ?_; rintro e w4 ⟨rfl, hb4⟩; clear HP2)
  have HB4 := hide (HB3.out.trans (hb4.mono HB3.out.size))
  have HP3 := hide (parse11_res (parse_arg (s := s3) (by decide) p3 g3_may w4 (HV.out.below HB4.out)))
  unfold strV s3 at HP3
  go_wp2_with (go_at_call 23; refine HP3.out.mono ?_; rintro e w5 ⟨rfl, hb5⟩; clear HP3)
  have HB5 := hide (HB4.out.trans (hb5.mono HB4.out.size))
  have HP4 := hide (parse11_res (parse_inr (s := s4) (by decide) p4 w5 (HV.out.below HB5.out)))
  unfold strV s4 at HP4
  go_wp2_with (go_at_call 23; refine HP4.out.mono ?_; rintro e w6 ⟨rfl, hb6⟩; obtain ⟨W7, hW7⟩ : ∃ W, w6.alloc (.cells #[.int .u8 1, .int .u8 2, .int .u8 3] 5) = W := ⟨_, rfl⟩)
  have HB6 := hide (HB5.out.trans (hb6.mono HB5.out.size))
  have hb7 : Below w6.heap.size w6 W7 := by rw [← hW7]; exact (Below.refl _ _).alloc (Nat.le_refl _) _
  have hl7 : Lies W7 (some ⟨w6.heap.size, 0, none⟩) 3 (([1, 2, 3] : List Int).map (Value.int .u8)) := ⟨rfl, fun _ => ⟨w6.heap.size, 0, rfl, by rw [← hW7]; simp, fun j _ => by rw [← hW7, cell_of_row _ _ _ _ _ (0, 0) (heap_alloc_new w6 _)]; simp⟩⟩
  have HC7 := hide (get_short (some ⟨w6.heap.size, 0, none⟩) 3 3 [1, 2, 3] W7 hl7 (by intro z hz; simp at hz; omega) (by omega) (by omega))
  have HG7 := hide (((hb4.trans ((hb5.mono hb4.size).trans ((hb6.mono (Nat.le_trans hb4.size hb5.size)).trans (hb7.mono (Nat.le_trans hb4.size (Nat.le_trans hb5.size hb6.size)))))).block q hlg).trans HG3.out)
  have HB7 := hide (HB6.out.trans (hb7.mono HB6.out.size))
  clear HP4 hl7 hb7 hb4 hb5 hb6 HB3 HB4 HB5 HB6
  unfold md0 at HC7
  go_wp2_with (go_at_call 13; refine HC7.out.mono ?_; rintro e w8 ⟨rfl, hb8⟩; clear HC7)
  obtain ⟨W10, hW10⟩ : ∃ W, (w8.alloc (.cells #[.slice none 0 0, .slice none 0 0] 27)).alloc (.cells #[.int .u8 0, .int .u8 0, .int .u8 0, .int .u8 0] 5) = W := ⟨_, rfl⟩
  have hb10 : Below w8.heap.size w8 W10 := by rw [← hW10]; exact ((Below.refl _ _).alloc (Nat.le_refl _) _).alloc (by simp) _
  have hg10 : W10.heap[w8.heap.size + 1]? = some (.cells #[.int .u8 0, .int .u8 0, .int .u8 0, .int .u8 0] 5 (0, 0)) := by
    rw [← hW10]
    have := heap_alloc_new (w8.alloc (.cells #[.slice none 0 0, .slice none 0 0] 27)) (.cells #[.int .u8 0, .int .u8 0, .int .u8 0, .int .u8 0] 5)
    simpa using this
  have hl10 : Lies W10 (some ⟨w8.heap.size + 1, 0, none⟩) 4 (([0, 0, 0, 0] : List Int).map (Value.int .u8)) := ⟨rfl, fun _ => ⟨_, 0, rfl, lt_of_heap hg10, fun j _ => by rw [cell_of_row _ _ _ _ _ (0, 0) hg10]; simp⟩⟩
  have HC10 := hide (get_zero (some ⟨w8.heap.size + 1, 0, none⟩) 4 W10 hl10 (by omega) (by omega))
  have hb710 := hb8.trans (hb10.mono hb8.size)
  have HG10 := hide ((hb710.block q (lt_of_heap HG7.out)).trans HG7.out)
  have HB10 := hide (HB7.out.trans (hb710.mono HB7.out.size))
  rw [hW10]
  clear hl10 hg10 hb10 hb710 hW10 hb8 HG7 HB7 hW7
  unfold md0 at HC10
  go_wp2_with (go_at_call 13; refine HC10.out.mono ?_; rintro e w11 ⟨rfl, hb11⟩; clear HC10)
  obtain ⟨W13, hW13⟩ : ∃ W, (w11.alloc (.cells #[.slice none 0 0, .slice none 0 0] 27)).alloc (.cells #[.int .u8 7] 5) = W := ⟨_, rfl⟩
  have hb13 : Below w11.heap.size w11 W13 := by rw [← hW13]; exact ((Below.refl _ _).alloc (Nat.le_refl _) _).alloc (by simp) _
  have hg13 : W13.heap[w11.heap.size + 1]? = some (.cells #[.int .u8 7] 5 (0, 0)) := by
    rw [← hW13]
    have := heap_alloc_new (w11.alloc (.cells #[.slice none 0 0, .slice none 0 0] 27)) (.cells #[.int .u8 7] 5)
    simpa using this
  have hl13 : Lies W13 (some ⟨w11.heap.size + 1, 0, none⟩) 1 (([7] : List Int).map (Value.int .u8)) := ⟨rfl, fun _ => ⟨_, 0, rfl, lt_of_heap hg13, fun j _ => by rw [cell_of_row _ _ _ _ _ (0, 0) hg13]; simp⟩⟩
  have h7 : ByteL [7] := by intro z hz; simp at hz; omega
  have HC13 := hide (summed_any (some ⟨w11.heap.size + 1, 0, none⟩) 1 1 [7] W13 hl13 h7 (fun h => by cases h) (by omega))
  have hb1013 := hb11.trans (hb13.mono hb11.size)
  have HG13 := hide ((hb1013.block q (lt_of_heap HG10.out)).trans HG10.out)
  have HB13 := hide (HB10.out.trans (hb1013.mono HB10.out.size))
  rw [hW13]
  clear hl13 hg13 hb13 hb1013 hW13 hb11 HG10 HB10
  obtain ⟨sm, hsm⟩ : ∃ sm, sm = sumOf [7] := ⟨_, rfl⟩
  have hslt : sm < 4294967296 := by rw [hsm]; exact sumOf_lt h7
  have HSM := hide hsm
  rw [← hsm] at HC13
  clear hsm
  go_wp2_with (go_at_call 16; refine HC13.out.mono ?_; rintro e w14 ⟨A14, c14, rfl, ho14, hb14⟩; clear HC13)
  have HC14 := hide (get_seven A14 c14 sm HSM.out w14 (lies_of_own ho14) (own_le ho14) (own_max2 ho14))
  have HG14 := hide ((hb14.block q (lt_of_heap HG13.out)).trans HG13.out)
  have HB14 := hide (HB13.out.trans (hb14.mono HB13.out.size))
  clear ho14 hb14 HG13 HB13
  unfold md0 at HC14
  go_wp2_with (go_at_call 13; refine HC14.out.mono ?_; rintro e w15 ⟨rfl, hb15⟩; clear HC14; have hg15 := (hb15.block q (lt_of_heap HG14.out)).trans HG14.out; have hq15 := cell_of_row _ _ 0 _ _ (0, 0) ((Below.heap_alloc w15 (.cells #[.slice none 0 0, .slice none 0 0] 27) q (lt_of_heap hg15)).trans hg15); simp only [List.getElem?_toArray, List.getElem?_cons_zero] at hq15)
  go_ret
  exact ⟨rfl, below_al6 (HB14.out.trans (hb15.mono HB14.out.size))⟩

end

end Go.Proofs.YtohndckbhjakfaaGreatDoor
