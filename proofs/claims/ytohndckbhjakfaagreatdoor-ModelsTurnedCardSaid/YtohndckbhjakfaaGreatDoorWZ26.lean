/- Merged: Mv11, Gr11, Gp1. -/
import Derived.Test.YtohndckbhjakfaaGreatDoorWZ25
import Derived.Test.YtohndckbhjakfaaGreatDoorWZ24
namespace Go.Proofs.YtohndckbhjakfaaGreatDoor

section
open Go.RowKit
set_option linter.unusedVariables false
set_option linter.unusedSimpArgs false
set_option maxRecDepth 100000

theorem pick_prod {s u : List Int} {n : Nat} (hl : s.length = n) (h : ordOk u n = true) (hn : n ≤ 4) : prodZ (pickL s u) = prodZ s := by
  obtain ⟨hul, hm⟩ := ordOk_iff.1 h
  match n, s, hl, u, hul with
  | 0, [], _, [], _ => rfl
  | 1, [x0], _, [a], _ =>
    have h0 := hm 0 (by omega)
    simp at h0
    subst h0
    simp [pickL]
  | 2, [x0, x1], _, [a, b], _ =>
    have h0 := hm 0 (by omega)
    have h1 := hm 1 (by omega)
    simp at h0 h1
    rcases h0 with h0 | h0 <;> rcases h1 with h1 | h1 <;> first | (exfalso; omega) | (subst h0 h1; simp [pickL, prodZ, Int.mul_comm, Int.mul_left_comm, Int.mul_assoc])
  | 3, [x0, x1, x2], _, [a, b, c], _ =>
    have h0 := hm 0 (by omega)
    have h1 := hm 1 (by omega)
    have h2 := hm 2 (by omega)
    simp at h0 h1 h2
    rcases h0 with h0 | h0 | h0 <;> rcases h1 with h1 | h1 | h1 <;> rcases h2 with h2 | h2 | h2 <;> first | (exfalso; omega) | (subst h0 h1 h2; simp [pickL, prodZ, Int.mul_comm, Int.mul_left_comm, Int.mul_assoc])
  | 4, [x0, x1, x2, x3], _, [a, b, c, d], _ =>
    have h0 := hm 0 (by omega)
    have h1 := hm 1 (by omega)
    have h2 := hm 2 (by omega)
    have h3 := hm 3 (by omega)
    simp at h0 h1 h2 h3
    rcases h0 with h0 | h0 | h0 | h0 <;> rcases h1 with h1 | h1 | h1 | h1 <;> first | (exfalso; omega) | (rcases h2 with h2 | h2 | h2 | h2 <;> first | (exfalso; omega) | (rcases h3 with h3 | h3 | h3 | h3 <;> first | (exfalso; omega) | (subst h0 h1 h2 h3; simp [pickL, prodZ, Int.mul_comm, Int.mul_left_comm, Int.mul_assoc])))
  | n + 5, _, _, _, _ => omega

theorem pick_size {s u : List Int} {n : Nat} (hl : s.length = n) (h : ordOk u n = true) (hn : n ≤ 4) : sizeI (pickL s u) = sizeI s := by
  unfold sizeI
  rw [pick_prod hl h hn, pickL_len, (ordOk_iff.1 h).1, hl]

/-- What moves.Turn answers. -/
def tuE (s : List Int) (m : Nat) (u : List Int) : Int := if tenOk s m = true ∧ ordOk u s.length = true then 0 else 1

def turnL (s l u : List Int) (m : Nat) : List Int := (List.range m).map fun k => l.getD (trN s (pickL s u) u k s.length) 0

def tuS (s : List Int) (m : Nat) (u : List Int) : List Int := if tuE s m u = 0 then pickL s u else []

def tuL (s : List Int) (m : Nat) (l u : List Int) : List Int := if tuE s m u = 0 then turnL s l u m else []

end

section
open Go.RowKit
set_option linter.unusedVariables false
set_option linter.unusedSimpArgs false
set_option maxRecDepth 100000

/-- What is joined, by the shapes of what is taken in. -/
def jA (K : Nat → List Int) (d : Nat) : Nat → Int
  | 0 => (K 0).getD d 0
  | k + 1 => jA K d k + (K (k + 1)).getD d 0

def jAll (K : Nat → List Int) (d m : Nat) : Bool := (List.range m).all (fun j => decide ((K (j + 1)).length = (K 0).length) && decide (outL (K (j + 1)) d = outL (K 0) d))

def jZ (K : Nat → List Int) (d m : Nat) : List Int := (K 0).set d (jA K d m)

def jE (K : Nat → List Int) (m : Nat) (d : Int) : Int :=
  if d < ((K 0).length : Int) then (if jAll K d.toNat (m - 1) = true ∧ 0 < sizeI (jZ K d.toNat (m - 1)) then 0 else 10) else 1

def jS (K : Nat → List Int) (m : Nat) (d : Int) : List Int := if jE K m d = 0 then jZ K d.toNat (m - 1) else []

theorem gjA_K (gs : List Sg) (xs : List Int) (d : Nat) : ∀ k, gjA gs xs d k = jA (kn gs xs) d k
  | 0 => rfl
  | k + 1 => by rw [gjA, jA, gjA_K gs xs d k]

theorem gjZ_K (gs : List Sg) (xs : List Int) (d m : Nat) : gjZ gs xs d m = jZ (kn gs xs) d m := by rw [gjZ, jZ, gjA_K]

theorem gjAll_K (gs : List Sg) (xs : List Int) (d m : Nat) : gjAll gs xs d m = jAll (kn gs xs) d m := rfl

theorem gjE_K (gs : List Sg) (xs : List Int) (d : Int) : gjE gs xs d = jE (kn gs xs) xs.length d := by rw [gjE, jE, gjZ_K, gjAll_K]

theorem gjS_K (gs : List Sg) (xs : List Int) (d : Int) : gjS gs xs d = jS (kn gs xs) xs.length d := by rw [gjS, jS, gjE_K, gjZ_K]

/-- The shape of a node, by the shapes of what it takes in; is there one? -/
def nodeE (x : Nd) (K : Nat → List Int) : Nat → Int
  | 1 => 0
  | 2 => 0
  | 3 => cmE (K 0) (K 1)
  | 4 => cmE (K 0) (K 1)
  | 5 => 0
  | 6 => 0
  | 7 => shp7E (K 0) (K 1)
  | 8 => shp8E (K 0) (K 1) x.N x.P
  | 9 => pp8E (K 0) x.N
  | 10 => reE x.sh (K 0)
  | 11 => gtE (K 0) x.sh
  | 12 => jE K x.xs.length x.N
  | _ => gsE (K 0) x.N

def nodeS (x : Nd) (K : Nat → List Int) : Nat → List Int
  | 1 => x.sh
  | 2 => x.sh
  | 3 => cmS (K 0) (K 1)
  | 4 => cmS (K 0) (K 1)
  | 5 => K 0
  | 6 => K 0
  | 7 => shp7S (K 0) (K 1)
  | 8 => shp8S (K 0) (K 1) x.N x.P
  | 9 => pp8S (K 0) x.N
  | 10 => reS x.sh (K 0)
  | 11 => gtS (K 0) x.sh
  | 12 => jS K x.xs.length x.N
  | _ => gsS (K 0) x.N

theorem three_cases {s : List Int} (h : s.length = 3) : s = [s.getD 0 0, s.getD 1 0, s.getD 2 0] := by
  match s, h with
  | [a, b, c], _ => rfl

theorem shp7_pos {a b : List Int} (h : shp7E a b = 0) : 0 < sizeI (shp7S a b) := by
  obtain ⟨⟨h1, h2⟩, h3, h4, h5⟩ := shp7E_iff.1 h
  rw [shp7S_ok h]
  have f1 := (size_dims h1).at (k := 0) (by omega)
  have f2 := (size_dims h2).at (k := 1) (by omega)
  obtain ⟨M, hM⟩ := Int.eq_ofNat_of_zero_le (show 0 ≤ a.getD 0 0 by omega)
  obtain ⟨N, hN⟩ := Int.eq_ofNat_of_zero_le (show 0 ≤ b.getD 1 0 by omega)
  rw [hM] at f1 ⊢
  rw [hN] at f2 ⊢
  obtain ⟨e1, e2, e3⟩ := two_size (M := M) (N := N) (by omega) (by omega)
  omega

theorem sz3_to {M K N : Nat} (h : 0 < sizeI [(M : Int), (K : Int), (N : Int)]) : (1 ≤ M ∧ M ≤ 64) ∧ (1 ≤ K ∧ K ≤ 64) ∧ (1 ≤ N ∧ N ≤ 64) ∧ M * K * N ≤ 4096 := by
  have h1 := size_dims h
  have ha := h1 (M : Int) (by simp)
  have hb := h1 (K : Int) (by simp)
  have hc := h1 (N : Int) (by simp)
  have h4 := sizeI_le [(M : Int), (K : Int), (N : Int)]
  rw [(sizeI_pos h).2.2, prodZ, prodZ, prodZ, prodZ, ha.2.2, hb.2.2, hc.2.2, Int.mul_one, ← Int.natCast_mul, ← Int.natCast_mul, ← Nat.mul_assoc] at h4
  refine ⟨by omega, by omega, by omega, by omega⟩

theorem sz3_of {M K N : Nat} (hM : 1 ≤ M ∧ M ≤ 64) (hK : 1 ≤ K ∧ K ≤ 64) (hN : 1 ≤ N ∧ N ≤ 64) (h : M * K * N ≤ 4096) : 0 < sizeI [(M : Int), (K : Int), (N : Int)] := by
  have e1 : dz (M : Int) = M := by unfold dz; rw [if_neg (by omega)]
  have e2 : dz (K : Int) = K := by unfold dz; rw [if_neg (by omega)]
  have e3 : dz (N : Int) = N := by unfold dz; rw [if_neg (by omega)]
  have h0 : 1 ≤ M * (K * N) := Nat.mul_pos (by omega) (Nat.mul_pos (by omega) (by omega))
  rw [Nat.mul_assoc] at h
  rw [sizeI, if_neg (by simp), prodZ, prodZ, prodZ, prodZ, e1, e2, e3, Int.mul_one, ← Int.natCast_mul, ← Int.natCast_mul, if_neg (by omega)]
  omega

theorem pp8_pos {s : List Int} {n : Int} (h : pp8E s n = 0) : 0 < sizeI (pp8S s n) := by
  obtain ⟨⟨h1, h2, h2'⟩, h3, h4, h5⟩ := pp8E_iff.1 h
  have g0 := (size_dims h1).at (k := 0) (by omega)
  have g1 := (size_dims h1).at (k := 1) (by omega)
  have g2 := (size_dims h1).at (k := 2) (by omega)
  obtain ⟨C, hC⟩ := Int.eq_ofNat_of_zero_le (show 0 ≤ s.getD 0 0 by omega)
  obtain ⟨H, hH⟩ := Int.eq_ofNat_of_zero_le (show 0 ≤ s.getD 1 0 by omega)
  obtain ⟨V, hV⟩ := Int.eq_ofNat_of_zero_le (show 0 ≤ s.getD 2 0 by omega)
  obtain ⟨W, hW⟩ := Int.eq_ofNat_of_zero_le (show 0 ≤ n by omega)
  have hs := three_cases h3
  rw [hC, hH, hV] at hs
  rw [pp8S, if_pos h, hC, hH, hV, hW, ← Int.natCast_ediv, ← Int.natCast_ediv]
  rw [hs] at h1
  rw [hH] at h4
  rw [hV] at h5
  obtain ⟨q1, q2, q3, q4⟩ := sz3_to h1
  have y1 : 1 ≤ H / W := (Nat.one_le_div_iff (by omega)).2 (by omega)
  have x1 : 1 ≤ V / W := (Nat.one_le_div_iff (by omega)).2 (by omega)
  have y2 : H / W ≤ H := Nat.div_le_self _ _
  have x2 : V / W ≤ V := Nat.div_le_self _ _
  have h := Nat.mul_le_mul (Nat.mul_le_mul (Nat.le_refl C) y2) x2
  exact sz3_of q1 (by omega) (by omega) (by omega)

theorem wo_pos {s : List Int} {a : Nat} (h : 0 < sizeI s) (ha : a < s.length) : 0 < sizeI (woL s a) :=
  (sumT_len (l := []) (m := (sizeI s).toNat) (tenOk_iff.2 ⟨h, by omega⟩) ha).2

theorem lOk_one {s : List Int} (h : lOk 1 s = true) : 0 < sizeI s := by simpa [lOk] using h

theorem lOk_two {s : List Int} (h : lOk 2 s = true) : isOrd s = true := h

/-- What a node that conforms to its kind has. -/
theorem alw_parts {r : Rl} {x : Nd} (h : alw r x = true) : (r.a ≤ (x.xs.length : Int) ∧ (x.xs.length : Int) ≤ r.b) ∧ (r.nl ≤ x.N ∧ x.N ≤ r.nm) ∧ (r.pl ≤ x.P ∧ x.P ≤ r.pm) ∧ lOk r.lk x.sh = true := by
  simp only [alw, Bool.and_eq_true, decide_eq_true_eq] at h
  exact ⟨h.1.1.1, h.1.1.2, h.1.2, h.2⟩

/-- The shape of a node is one, where those of what it takes in are. -/
theorem nodeS_pos {x : Nd} {K : Nat → List Int} {k : Nat} (h1 : 1 ≤ k) (h13 : k ≤ 13) (ha : alw (rlT k) x = true) (hK : ∀ j, j < x.xs.length → 0 < sizeI (K j)) (hE : nodeE x K k = 0) : 0 < sizeI (nodeS x K k) := by
  obtain ⟨ha1, ha2, ha3, ha4⟩ := alw_parts ha
  match k, h1, h13 with
  | 1, _, _ => exact lOk_one ha4
  | 2, _, _ => exact lOk_one ha4
  | 3, _, _ =>
    simp only [nodeE, nodeS, rlT] at *
    have h2 := hK 0 (by omega)
    by_cases e : K 0 = K 1
    · rw [cmS, if_pos e]; exact h2
    · rw [cmE, if_neg e] at hE; omega
  | 4, _, _ =>
    simp only [nodeE, nodeS, rlT] at *
    have h2 := hK 0 (by omega)
    by_cases e : K 0 = K 1
    · rw [cmS, if_pos e]; exact h2
    · rw [cmE, if_neg e] at hE; omega
  | 5, _, _ => simp only [nodeE, nodeS, rlT] at *; exact hK 0 (by omega)
  | 6, _, _ => simp only [nodeE, nodeS, rlT] at *; exact hK 0 (by omega)
  | 7, _, _ => exact shp7_pos hE
  | 8, _, _ =>
    simp only [nodeE, nodeS] at *
    rw [shp8S, if_pos hE]
    exact (shp8E_iff.1 hE).2.2
  | 9, _, _ => exact pp8_pos hE
  | 10, _, _ =>
    simp only [nodeE, nodeS] at *
    by_cases e : sizeI x.sh = sizeI (K 0)
    · rw [reS, if_pos e]; exact lOk_one ha4
    · rw [reE, if_neg e] at hE; omega
  | 11, _, _ =>
    simp only [nodeE, nodeS, rlT] at *
    have h2 := hK 0 (by omega)
    by_cases e : x.sh.length = (K 0).length
    · rw [gtS, if_pos e]
      obtain ⟨_, g2, g3⟩ := isOrd_iff.1 (lOk_two ha4)
      rw [pick_size e.symm g3 g2]
      exact h2
    · rw [gtE, if_neg e] at hE; omega
  | 12, _, _ =>
    simp only [nodeE, nodeS, rlT] at *
    rw [jS, if_pos hE]
    rw [jE] at hE
    by_cases e : x.N < ((K 0).length : Int)
    · rw [if_pos e] at hE
      by_cases e2 : jAll K x.N.toNat (x.xs.length - 1) = true ∧ 0 < sizeI (jZ K x.N.toNat (x.xs.length - 1))
      · exact e2.2
      · rw [if_neg e2] at hE; omega
    · rw [if_neg e] at hE; omega
  | 13, _, _ =>
    simp only [nodeE, nodeS, rlT] at *
    have h2 := hK 0 (by omega)
    by_cases e : x.N < ((K 0).length : Int)
    · rw [gsS, if_pos e]; exact wo_pos h2 (by omega)
    · rw [gsE, if_neg e] at hE; omega

/-- The look-up. -/
def zeroR : Value := .agg #[.int .i64 0, .int .i64 0, .int .i64 0, .int .i64 0, .int .i64 0, .int .i64 0, .nilFunc, .nilFunc]

theorem zeroR_run (w : World) : (zeroValue 121).run Tryz.prog w = .ok zeroR w := by kernel_rfl

theorem look_yes {w : World} {b p k : Nat} (hb : w.heap[b]? = some (.map (ruEs p 13) 13)) (h1 : 1 ≤ k) (h13 : k ≤ 13) :
    (Instr.lookup 114 (.map (some b)) (.int .u8 (k : Int)) true).run Tryz.prog w = .ok (.tuple #[(rlT k).v p, .bool true]) w := by
  have hkey : MapKept.IsKey (.int .u8) (.int .u8 (k : Int)) := rfl
  have ht : Tryz.prog.underlying 114 = some (.map 42 121) := Tryz.underlying114
  have hk : Tryz.prog.underlying 42 = some (.int .u8) := Tryz.underlying42
  rcases MapKept.findNow_spec hkey (ruEs p 13).toList 0 (ruKeys p 13) with ⟨_, h2⟩ | ⟨j, e, hf, h5, h6⟩
  · exfalso
    obtain ⟨i, rfl⟩ : ∃ i, k = i + 1 := ⟨k - 1, by omega⟩
    refine h2 ⟨.int .u8 ((i : Int) + 1), (rlT (i + 1)).v p, i⟩ ?_ (by simp)
    simp only [ruEs, List.mem_map, List.mem_range]
    exact ⟨i, by omega, rfl⟩
  · have hmem := List.mem_of_getElem? h5
    simp only [ruEs, List.mem_map, List.mem_range] at hmem
    obtain ⟨i, hi, rfl⟩ := hmem
    simp only [Value.int.injEq, true_and] at h6
    obtain rfl : k = i + 1 := by omega
    have e9 : ((i + 1 : Nat) : Int) = (i : Int) + 1 := by omega
    rw [e9] at hkey hf ⊢
    simp [Instr.lookup, run_underlying ht, MapKept.run_getObj_map hb, MapKept.run_checkKey hk hkey, MapKept.run_findKey hk hf, Result.andThen]

theorem look_no {w : World} {b p : Nat} {k : Int} (hb : w.heap[b]? = some (.map (ruEs p 13) 13)) (h1 : k < 1 ∨ 13 < k) :
    (Instr.lookup 114 (.map (some b)) (.int .u8 k) true).run Tryz.prog w = .ok (.tuple #[zeroR, .bool false]) w := by
  have hkey : MapKept.IsKey (.int .u8) (.int .u8 k) := rfl
  have ht : Tryz.prog.underlying 114 = some (.map 42 121) := Tryz.underlying114
  have hk : Tryz.prog.underlying 42 = some (.int .u8) := Tryz.underlying42
  rcases MapKept.findNow_spec hkey (ruEs p 13).toList 0 (ruKeys p 13) with ⟨hf, _⟩ | ⟨j, e, hf, h5, h6⟩
  · simp [Instr.lookup, run_underlying ht, MapKept.run_getObj_map hb, MapKept.run_checkKey hk hkey, MapKept.run_findKey hk hf, Result.andThen, zeroR_run]
    try rfl
  · exfalso
    have hmem := List.mem_of_getElem? h5
    simp only [ruEs, List.mem_map, List.mem_range] at hmem
    obtain ⟨i, hi, rfl⟩ := hmem
    simp only [Value.int.injEq, true_and] at h6
    omega

/-- What a rule answers, of a node that conforms to it and takes in nodes that are known. -/
theorem krule_any (k p : Nat) (A : Option Addr) (n c : Nat) (gs : List Sg) (x : Nd) (w : World) (h1 : 1 ≤ k) (h13 : k ≤ 13) (hK : KnAt w p A n c gs) (hx : x.Ok w) (ha : alw (rlT k) x = true) (hal : allKn x.xs n = true) (hpos : ∀ g ∈ gs, 0 < sizeI g.s) :
    Calls Tryz.prog (rlT k).f #[.pointer (some ⟨p, 0, none⟩), x.v] w fun e w' => ∃ R m kc, e = .returned (.tuple #[.slice R m kc, .int .i64 (nodeE x (kn gs x.xs) k)]) ∧ w'.ownsRow w.heap.size 3 1 (.slice R m kc) m ((nodeS x (kn gs x.xs) k).map (Value.int .i64)) ∧ m ≤ 4 ∧ Below w.heap.size w w' := by
  obtain ⟨ha1, ha2, ha3, ha4⟩ := alw_parts ha
  have hni : x.xs.length = x.ni := lies_len9 hx.1
  have hns : x.sh.length = x.ns := lies_len9 hx.2.1
  have hsz : ∀ s : List Int, 0 < sizeI s → 1 ≤ s.length ∧ s.length ≤ 4 := fun s h => ⟨(sizeI_pos h).1, (sizeI_pos h).2.1⟩
  match k, h1, h13 with
  | 1, _, _ => have h := hsz _ (lOk_one ha4); exact kown_any p A n c gs x w hK hx (by omega) (by omega)
  | 2, _, _ => have h := hsz _ (lOk_one ha4); exact kown_any p A n c gs x w hK hx (by omega) (by omega)
  | 3, _, _ => simp only [rlT] at *; exact kcommon_any p A n c gs x w hK hx (by omega) hal hpos
  | 4, _, _ => simp only [rlT] at *; exact kcommon_any p A n c gs x w hK hx (by omega) hal hpos
  | 5, _, _ => simp only [rlT] at *; exact kfirst_any p A n c gs x w hK hx (by omega) hal hpos
  | 6, _, _ => simp only [rlT] at *; exact kfirst_any p A n c gs x w hK hx (by omega) hal hpos
  | 7, _, _ => simp only [rlT] at *; exact kproduct_any p A n c gs x w hK hx (by omega) hal hpos
  | 8, _, _ => simp only [rlT] at *; exact kwindow_any p A n c gs x w hK hx (by omega) hal hpos
  | 9, _, _ => simp only [rlT] at *; exact kpool_any p A n c gs x w hK hx (by omega) hal hpos
  | 10, _, _ => have h := hsz _ (lOk_one ha4); simp only [rlT] at *; exact kshaped_any p A n c gs x w hK hx (by omega) hal hpos (by omega) (by omega)
  | 11, _, _ => have h := lOk_two ha4; simp only [rlT] at *; exact kturned_any p A n c gs x w hK hx (by omega) hal hpos h
  | 12, _, _ =>
    simp only [rlT] at *
    have h := kjoined_any p A n c gs x w hK hx (by omega) hal hpos (by omega) (by omega)
    rw [gjE_K, gjS_K] at h
    exact h
  | 13, _, _ => simp only [rlT] at *; exact ksummed_any p A n c gs x w hK hx (by omega) hal hpos (by omega)

end

section
open Go.RowKit
set_option linter.unusedVariables false
set_option linter.unusedSimpArgs false
set_option maxRecDepth 100000

/-- The shape of the j-th node that is taken in. -/
def knL (ss : List (List Int)) (xs : List Int) (j : Nat) : List Int := match ss[(xs.getD j 0).toNat]? with
  | some s => s
  | none => []

theorem kn_map (gs : List Sg) (xs : List Int) : kn gs xs = knL (gs.map Sg.s) xs := by
  funext j
  rw [kn, knL, List.getElem?_map]
  cases gs[(xs.getD j 0).toNat]? <;> rfl

/-- Does a node fit behind nodes of these shapes? -/
def fitN (x : Nd) (ss : List (List Int)) : Bool := decide (1 ≤ x.kd ∧ x.kd ≤ 13) && alw (rlT x.kd.toNat) x && allKn x.xs ss.length && decide (nodeE x (knL ss x.xs) x.kd.toNat = 0)

/-- Its shape. -/
def shN (x : Nd) (ss : List (List Int)) : List Int := nodeS x (knL ss x.xs) x.kd.toNat

/-- The shapes of all nodes behind those. -/
def allSh : List Nd → List (List Int) → Option (List (List Int))
  | [], ss => some ss
  | x :: r, ss => if fitN x ss = true then allSh r (ss ++ [shN x ss]) else none

/-- The error of a graph, its shapes. -/
def gphB (ns : List Nd) : Bool := endsOk ns && (allSh ns []).isSome

def gphE (ns : List Nd) : Int := if gphB ns = true then 0 else 1

def gphS (ns : List Nd) : List (List Int) := if gphB ns = true then (allSh ns []).getD [] else []

theorem fitN_parts {x : Nd} {ss : List (List Int)} (h : fitN x ss = true) : (1 ≤ x.kd ∧ x.kd ≤ 13) ∧ alw (rlT x.kd.toNat) x = true ∧ allKn x.xs ss.length = true ∧ nodeE x (knL ss x.xs) x.kd.toNat = 0 := by
  simp only [fitN, Bool.and_eq_true, decide_eq_true_eq] at h
  exact ⟨h.1.1.1, h.1.1.2, h.1.2, h.2⟩

theorem fitN_mk {x : Nd} {ss : List (List Int)} (h1 : 1 ≤ x.kd ∧ x.kd ≤ 13) (h2 : alw (rlT x.kd.toNat) x = true) (h3 : allKn x.xs ss.length = true) (h4 : nodeE x (knL ss x.xs) x.kd.toNat = 0) : fitN x ss = true := by
  simp only [fitN, Bool.and_eq_true, decide_eq_true_eq]
  exact ⟨⟨⟨h1, h2⟩, h3⟩, h4⟩

theorem allSh_append : ∀ (a b : List Nd) (ss : List (List Int)), allSh (a ++ b) ss = (allSh a ss).bind (allSh b)
  | [], b, ss => rfl
  | x :: r, b, ss => by
    rw [List.cons_append, allSh, allSh]
    split
    · exact allSh_append r b _
    · rfl

theorem allSh_ext : ∀ (a : List Nd) (ss ts : List (List Int)), allSh a ss = some ts → ∃ us, ts = ss ++ us ∧ us.length = a.length
  | [], ss, ts, h => ⟨[], by rw [allSh] at h; cases h; simp, rfl⟩
  | x :: r, ss, ts, h => by
    rw [allSh] at h
    split at h
    · obtain ⟨us, e, hl⟩ := allSh_ext r _ _ h
      exact ⟨shN x ss :: us, by rw [e]; simp, by simp [hl]⟩
    · cases h

theorem allSh_len {a : List Nd} {ts : List (List Int)} (h : allSh a [] = some ts) : ts.length = a.length := by
  obtain ⟨us, e, hl⟩ := allSh_ext a [] ts h
  rw [e, List.nil_append, hl]

/-- A beginning of a graph has a beginning of its shapes. -/
theorem allSh_take {a : List Nd} {ts : List (List Int)} (h : allSh a [] = some ts) (k : Nat) (hk : k ≤ a.length) : allSh (a.take k) [] = some (ts.take k) := by
  rw [← List.take_append_drop k a, allSh_append] at h
  cases h2 : allSh (a.take k) [] with
  | none => rw [h2] at h; cases h
  | some us =>
    rw [h2] at h
    obtain ⟨vs, e, _⟩ := allSh_ext _ _ _ (show allSh (a.drop k) us = some ts from h)
    have hl := allSh_len h2
    rw [List.length_take, Nat.min_eq_left hk] at hl
    rw [e, List.take_left' hl]

theorem gphB_parts {ns : List Nd} (h : gphB ns = true) : endsOk ns = true ∧ ∃ ss, allSh ns [] = some ss ∧ gphS ns = ss := by
  have h0 := h
  simp only [gphB, Bool.and_eq_true] at h
  obtain ⟨ss, hs⟩ := Option.isSome_iff_exists.1 h.2
  exact ⟨h.1, ss, hs, by rw [gphS, if_pos h0, hs]; rfl⟩

theorem gphB_mk {ns : List Nd} {ss : List (List Int)} (h1 : endsOk ns = true) (h2 : allSh ns [] = some ss) : gphB ns = true := by
  simp only [gphB, h1, h2]; rfl

theorem gphE_zero {ns : List Nd} : gphE ns = 0 ↔ gphB ns = true := by
  rw [gphE]
  split <;> simp [*]

theorem gphS_no {ns : List Nd} (h : gphB ns = false) : gphS ns = [] := by rw [gphS, h]; rfl

theorem endsOk_parts {ns : List Nd} (h : endsOk ns = true) : ns.length ≤ 32 ∧ 0 ≤ inIx ns ∧ inIx (ns.drop ((inIx ns).toNat + 1)) < 0 ∧ lastOk ns = true := by
  simp only [endsOk, Bool.and_eq_true, Bool.not_eq_true', decide_eq_true_eq, decide_eq_false_iff_not] at h
  exact ⟨h.1.1.1, h.1.1.2, by omega, h.2⟩

/-- The shapes of what is taken in are shapes. -/
theorem knL_pos {ss : List (List Int)} {xs : List Int} (h : ∀ s ∈ ss, 0 < sizeI s) (hal : allKn xs ss.length = true) (j : Nat) (hj : j < xs.length) : 0 < sizeI (knL ss xs j) := by
  have hx := List.all_eq_true.1 hal (xs[j]) (List.getElem_mem hj)
  simp only [Bool.and_eq_true, decide_eq_true_eq] at hx
  have e : xs.getD j 0 = xs[j] := by simp [List.getD, hj]
  obtain ⟨i, hi⟩ := Int.eq_ofNat_of_zero_le hx.1
  have hin : i < ss.length := by omega
  rw [knL, e, hi, Int.toNat_natCast, List.getElem?_eq_getElem hin]
  exact h _ (List.getElem_mem hin)

theorem shN_pos {x : Nd} {ss : List (List Int)} (h : ∀ s ∈ ss, 0 < sizeI s) (hf : fitN x ss = true) : 0 < sizeI (shN x ss) := by
  obtain ⟨h1, h2, h3, h4⟩ := fitN_parts hf
  exact nodeS_pos (by omega) (by omega) h2 (fun j hj => knL_pos h h3 j hj) h4

theorem allSh_pos : ∀ (a : List Nd) (ss ts : List (List Int)), (∀ s ∈ ss, 0 < sizeI s) → allSh a ss = some ts → ∀ s ∈ ts, 0 < sizeI s
  | [], ss, ts, h, e => by rw [allSh] at e; cases e; exact h
  | x :: r, ss, ts, h, e => by
    rw [allSh] at e
    split at e
    · next hf =>
      refine allSh_pos r _ ts (fun s hs => ?_) e
      rcases List.mem_append.1 hs with hs | hs
      · exact h s hs
      · rw [List.mem_singleton.1 hs]; exact shN_pos h hf
    · cases e

end

end Go.Proofs.YtohndckbhjakfaaGreatDoor

