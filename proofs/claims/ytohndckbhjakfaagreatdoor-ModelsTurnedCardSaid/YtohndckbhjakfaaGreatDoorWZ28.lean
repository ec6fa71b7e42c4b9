/- Merged: Tx1, Pb1, Tx3. -/
import Derived.Lib.SpaceU
import Derived.Lib.AtoiAll
import Derived.Lib.ItoaLen
import Derived.Lib.SplitLaws
import Derived.Lib.Join
import Derived.Test.YtohndckbhjakfaaGreatDoorWZ27
namespace Go.Proofs.YtohndckbhjakfaaGreatDoor

section
open Go
set_option linter.unusedVariables false
set_option linter.unusedSimpArgs false
set_option maxRecDepth 100000

/-- A word. -/
abbrev Wd := List UInt8

/-- A node, plainly. -/
structure Tn where
  kd : Nat
  xs : List Int
  sh : List Int
  N : Int
  P : Int

/-- The row of a kind. -/
def rowB : Nat → Wd
  | 0 => []
  | 1 => [105, 110, 112, 117, 116, 32, 83]
  | 2 => [119, 101, 105, 103, 104, 116, 32, 83]
  | 3 => [97, 100, 100, 32, 65, 32, 66]
  | 4 => [109, 117, 108, 32, 65, 32, 66]
  | 5 => [114, 101, 108, 117, 32, 65]
  | 6 => [115, 104, 105, 102, 116, 32, 65, 32, 98, 121, 32, 78]
  | 7 => [112, 114, 111, 100, 117, 99, 116, 32, 65, 32, 66]
  | 8 => [119, 105, 110, 100, 111, 119, 32, 65, 32, 66, 32, 115, 116, 101, 112, 32, 78, 32, 112, 97, 100, 32, 80]
  | 9 => [112, 111, 111, 108, 32, 65, 32, 119, 105, 100, 101, 32, 78]
  | 10 => [115, 104, 97, 112, 101, 32, 65, 32, 116, 111, 32, 83]
  | 11 => [116, 117, 114, 110, 32, 65, 32, 116, 111, 32, 83]
  | 12 => [106, 111, 105, 110, 32, 65, 46, 46, 32, 97, 108, 111, 110, 103, 32, 78]
  | 13 => [115, 117, 109, 32, 65, 32, 97, 108, 111, 110, 103, 32, 78]
  | _ => []

/-- Its parts. -/
def partsB : Nat → List Wd
  | 0 => []
  | 1 => [[105, 110, 112, 117, 116], [83]]
  | 2 => [[119, 101, 105, 103, 104, 116], [83]]
  | 3 => [[97, 100, 100], [65], [66]]
  | 4 => [[109, 117, 108], [65], [66]]
  | 5 => [[114, 101, 108, 117], [65]]
  | 6 => [[115, 104, 105, 102, 116], [65], [98, 121], [78]]
  | 7 => [[112, 114, 111, 100, 117, 99, 116], [65], [66]]
  | 8 => [[119, 105, 110, 100, 111, 119], [65], [66], [115, 116, 101, 112], [78], [112, 97, 100], [80]]
  | 9 => [[112, 111, 111, 108], [65], [119, 105, 100, 101], [78]]
  | 10 => [[115, 104, 97, 112, 101], [65], [116, 111], [83]]
  | 11 => [[116, 117, 114, 110], [65], [116, 111], [83]]
  | 12 => [[106, 111, 105, 110], [65, 46, 46], [97, 108, 111, 110, 103], [78]]
  | 13 => [[115, 117, 109], [65], [97, 108, 111, 110, 103], [78]]
  | _ => []

/-- The kind of a first word. -/
def kindB (w : Wd) : Nat :=
  if w = [105, 110, 112, 117, 116] then 1 else if w = [119, 101, 105, 103, 104, 116] then 2 else if w = [97, 100, 100] then 3 else if w = [109, 117, 108] then 4 else if w = [114, 101, 108, 117] then 5 else if w = [115, 104, 105, 102, 116] then 6 else if w = [112, 114, 111, 100, 117, 99, 116] then 7 else if w = [119, 105, 110, 100, 111, 119] then 8 else if w = [112, 111, 111, 108] then 9 else if w = [115, 104, 97, 112, 101] then 10 else if w = [116, 117, 114, 110] then 11 else if w = [106, 111, 105, 110] then 12 else if w = [115, 117, 109] then 13 else 0

/-- The words for a part. -/
def stepW (x : Tn) (p : Wd) : List Wd :=
  if p = [65] then [Lib.itoa (x.xs.getD 0 0)]
  else if p = [66] then [Lib.itoa (x.xs.getD 1 0)]
  else if p = [65, 46, 46] then x.xs.map Lib.itoa
  else if p = [83] then x.sh.map Lib.itoa
  else if p = [78] then [Lib.itoa x.N]
  else if p = [80] then [Lib.itoa x.P]
  else [p]

/-- A node's words, its line, a graph's text. -/
def wordsB (x : Tn) : List Wd := (partsB x.kd).flatMap (stepW x)

def lineB (x : Tn) : Wd := Lib.join (wordsB x) [32]

def textB (ns : List Tn) : Wd := ns.flatMap fun x => lineB x ++ [10]

/-- The number that a word is. -/
def numB (w : Wd) : Option Int := if 9 < w.length then none else match Lib.atoiAll w with
  | .ok n => if n < 0 ∨ Lib.itoa n ≠ w then none else some n
  | _ => none

/-- As many numbers as there are. -/
def numsB : List Wd → List Int
  | [] => []
  | w :: r => match numB w with
    | none => []
    | some n => n :: numsB r

/-- What is read so far, and the words that are left. -/
structure Rd where
  xs : List Int
  sh : List Int
  N : Int
  P : Int
  rest : List Wd

def stepR (r : Rd) (p : Wd) : Option Rd :=
  if p = [65] ∨ p = [66] then match r.rest with
    | [] => none
    | w :: t => (numB w).map fun n => { r with xs := r.xs ++ [n], rest := t }
  else if p = [65, 46, 46] then if numsB r.rest = [] then none else some { r with xs := numsB r.rest, rest := r.rest.drop (numsB r.rest).length }
  else if p = [83] then if numsB r.rest = [] then none else some { r with sh := numsB r.rest, rest := r.rest.drop (numsB r.rest).length }
  else if p = [78] then match r.rest with
    | [] => none
    | w :: t => (numB w).map fun n => { r with N := n, rest := t }
  else if p = [80] then match r.rest with
    | [] => none
    | w :: t => (numB w).map fun n => { r with P := n, rest := t }
  else match r.rest with
    | [] => none
    | w :: t => if w = p then some { r with rest := t } else none

/-- All parts, one behind the other. -/
def readB : List Wd → Rd → Option Rd
  | [], r => some r
  | p :: ps, r => (stepR r p).bind (readB ps)

/-- The node whose words these are. -/
def nodeW (ws : List Wd) : Option Tn :=
  if kindB (ws.headD []) = 0 then none else (readB (partsB (kindB (ws.headD []))) ⟨[], [], 0, 0, ws⟩).bind fun r => if r.rest = [] then some ⟨kindB (ws.headD []), r.xs, r.sh, r.N, r.P⟩ else none

def nodeB (line : Wd) : Option Tn := nodeW (Lib.split line [32])

/-- The lines of a text. -/
def linesB (s : Wd) : List Wd := if (Lib.split s [10]).getLast? = some [] then (Lib.split s [10]).dropLast else Lib.split s [10]

/-- The nodes of lines, or the line that is at fault. -/
def goP : Nat → List Tn → List Wd → List Tn ⊕ Nat
  | at', done, [] => .inl done
  | at', done, l :: r => match nodeB l with
    | none => .inr at'
    | some x => if 32 ≤ at' then .inr at' else goP (at' + 1) (done ++ [x]) r

/-! ### Splitting at one byte -/

def splitC (c : UInt8) : Wd → List Wd
  | [] => [[]]
  | b :: l => if b = c then [] :: splitC c l else match splitC c l with
    | [] => [[b]]
    | w :: r => (b :: w) :: r

theorem splitC_ne (c : UInt8) (s : Wd) : splitC c s ≠ [] := by
  cases s with
  | nil => simp [splitC]
  | cons b l => rw [splitC]; split; · simp
                split <;> simp

theorem split_eq (c : UInt8) (s : Wd) : Lib.split s [c] = splitC c s := by
  have key : ∀ (s : Wd), Lib.splitK [c] 0 (s.count c) s = splitC c s := by
    intro s
    induction s with
    | nil => rfl
    | cons b l ih =>
      by_cases hb : b = c
      · subst hb
        rw [List.count_cons_self, Lib.splitK, splitC, if_pos rfl]
        have h0 : Lib.index (b :: l) [b] = 0 := by simp [Lib.index]
        rw [h0]
        simpa using ih
      · rw [List.count_cons_of_ne (by simpa using hb), splitC, if_neg hb]
        have hidx : Lib.index (b :: l) [c] = if Lib.index l [c] == -1 then -1 else Lib.index l [c] + 1 := by
          rw [Lib.index, if_neg (by simp [List.isPrefixOf]; exact fun e => hb e.symm)]
        cases hk : l.count c with
        | zero =>
          rw [hk] at ih
          rw [← ih]
          rfl
        | succ k =>
          rw [hk] at ih
          rw [← ih, Lib.splitK, Lib.splitK, hidx]
          by_cases hm : Lib.index l [c] = -1
          · simp [hm]
          · have hge := Lib.index_ge l [c]
            have hn : (Lib.index l [c] == -1) = false := by simpa using hm
            have hn2 : (Lib.index l [c] + 1 == -1) = false := by simp; omega
            rw [hn]
            simp only [Bool.false_eq_true, if_false]
            rw [hn2]
            simp only [Bool.false_eq_true, if_false]
            have e : (Lib.index l [c] + 1).toNat = (Lib.index l [c]).toNat + 1 := by omega
            rw [e]
            simp [Nat.add_right_comm]
  rw [Lib.split, Lib.count_one]
  exact key s

theorem splitC_none (c : UInt8) : ∀ s : Wd, c ∉ s → splitC c s = [s]
  | [], _ => rfl
  | b :: l, h => by
    rw [splitC, if_neg (by intro e; exact h (by simp [e])), splitC_none c l (by intro e; exact h (by simp [e]))]

theorem splitC_app (c : UInt8) : ∀ (a s : Wd), c ∉ a → splitC c (a ++ c :: s) = a :: splitC c s
  | [], s, _ => by rw [List.nil_append, splitC, if_pos rfl]
  | b :: l, s, h => by
    rw [List.cons_append, splitC, if_neg (by intro e; exact h (by simp [e])), splitC_app c l s (by intro e; exact h (by simp [e]))]

theorem split_join (c : UInt8) : ∀ ws : List Wd, ws ≠ [] → (∀ w ∈ ws, c ∉ w) → splitC c (Lib.join ws [c]) = ws
  | [], h, _ => absurd rfl h
  | [w], _, h => by rw [Lib.join_one]; exact splitC_none c w (h w (by simp))
  | w :: v :: r, _, h => by
    have ih := split_join c (v :: r) (by simp) (fun u hu => h u (List.mem_cons_of_mem _ hu))
    have e : Lib.join (w :: v :: r) [c] = w ++ c :: Lib.join (v :: r) [c] := by
      rw [Lib.join_cons, Lib.join_cons, Lib.joinTail, Lib.joinTail]; simp
    rw [e, splitC_app c w _ (h w (by simp)), ih]

/-! ### Numbers as words -/

theorem dec_digits : ∀ (u : Nat) (b : UInt8), b ∈ Lib.decDigits u → 48 ≤ b.toNat ∧ b.toNat ≤ 57 := by
  intro u
  induction u using Nat.strongRecOn with
  | _ u ih =>
    intro b hb
    rw [Lib.decDigits] at hb
    split at hb
    · rename_i h
      simp only [List.mem_singleton] at hb
      subst hb
      rw [UInt8.toNat_ofNat']
      omega
    · rename_i h
      rw [List.mem_append] at hb
      rcases hb with hb | hb
      · exact ih (u / 10) (by omega) b hb
      · simp only [List.mem_singleton] at hb
        subst hb
        rw [UInt8.toNat_ofNat']
        omega

theorem dec_ne (u : Nat) : Lib.decDigits u ≠ [] := by
  rw [Lib.decDigits]; split <;> simp

theorem parse_app : ∀ (a b : Wd) (acc m : Nat), Lib.parseUint10 acc a = .ok m → Lib.parseUint10 acc (a ++ b) = Lib.parseUint10 m b
  | [], b, acc, m, h => by simp only [Lib.parseUint10] at h; injection h with h; subst h; rfl
  | c :: r, b, acc, m, h => by
    simp only [Lib.parseUint10, List.cons_append] at h ⊢
    split at h
    · rename_i h1
      rw [if_pos h1]
      split at h
      · cases h
      · rename_i h2
        rw [if_neg h2]
        split at h
        · cases h
        · rename_i h3
          rw [if_neg h3]
          exact parse_app r b _ m h
    · cases h

theorem parse_dec : ∀ u : Nat, u < 1000000000 → Lib.parseUint10 0 (Lib.decDigits u) = .ok u := by
  intro u
  induction u using Nat.strongRecOn with
  | _ u ih =>
    intro hu
    rw [Lib.decDigits]
    split
    · rename_i h
      have e : (UInt8.ofNat (48 + u)).toNat = 48 + u := by rw [UInt8.toNat_ofNat']; omega
      simp only [Lib.parseUint10, e]
      rw [if_pos (by omega), if_neg (by omega), if_neg (by omega)]
      congr 1; omega
    · rename_i h
      rw [parse_app _ _ _ _ (ih (u / 10) (by omega) (by omega))]
      have e : (UInt8.ofNat (48 + u % 10)).toNat = 48 + u % 10 := by rw [UInt8.toNat_ofNat']; omega
      simp only [Lib.parseUint10, e]
      rw [if_pos (by omega), if_neg (by omega), if_neg (by omega)]
      congr 1; omega

theorem itoa_nat (n : Int) (h : 0 ≤ n) : Lib.itoa n = Lib.decDigits n.toNat := by rw [Lib.itoa, if_neg (by omega)]

theorem nDig9 (u : Nat) (h : u < 1000000000) : Lib.nDigits u ≤ 9 := by
  rcases Nat.lt_or_ge (Lib.nDigits u) 10 with h2 | h2
  · omega
  · exfalso
    have h3 : ∀ (k u : Nat), k + 1 ≤ Lib.nDigits u → 10 ^ k ≤ u ∨ k = 0 := by
      intro k
      induction k with
      | zero => intro u _; exact .inr rfl
      | succ k ih =>
        intro u hk
        left
        by_cases hs : u < 10
        · rw [Lib.nDigits_small hs] at hk; omega
        · rw [Lib.nDigits_big hs] at hk
          rcases ih (u / 10) (by omega) with h4 | h4
          · rw [Nat.pow_succ]; omega
          · subst h4; simp; omega
    rcases h3 9 u (by omega) with h4 | h4
    · simp at h4; omega
    · omega

/-- A number is read back. -/
theorem num_itoa (n : Int) (h0 : 0 ≤ n) (h1 : n < 1000000000) : numB (Lib.itoa n) = some n := by
  have hl : (Lib.itoa n).length ≤ 9 := by rw [itoa_nat n h0, Lib.decDigits_length]; exact nDig9 _ (by omega)
  have ha : Lib.atoiAll (Lib.itoa n) = .ok n := by
    rw [itoa_nat n h0]
    cases hd : Lib.decDigits n.toNat with
    | nil => exact absurd hd (dec_ne _)
    | cons c r =>
      have hc := dec_digits n.toNat c (by rw [hd]; simp)
      have hp := parse_dec n.toNat (by omega)
      rw [hd] at hp
      simp only [Lib.atoiAll]
      rw [if_neg (by omega), Lib.parseMag, if_neg (by simp), hp]
      simp only
      rw [if_neg (by omega), if_neg (by omega), if_neg (by omega)]
      congr 1; omega
  rw [numB, if_neg (by omega), ha]
  simp only
  rw [if_neg (by simp; exact h0)]

theorem itoa_clean (n : Int) (h : 0 ≤ n) (b : UInt8) (hb : b ∈ Lib.itoa n) : 48 ≤ b.toNat ∧ b.toNat ≤ 57 := by
  rw [itoa_nat n h] at hb
  exact dec_digits _ b hb

/-- Numbers that are words. -/
def Small (l : List Int) : Prop := ∀ n ∈ l, 0 ≤ n ∧ n < 1000000000

theorem nums_app : ∀ (l : List Int) (r : List Wd), Small l → (∀ w, r.head? = some w → numB w = none) → numsB (l.map Lib.itoa ++ r) = l
  | [], r, _, h => by
    rw [List.map_nil, List.nil_append]
    cases r with
    | nil => rfl
    | cons w t => rw [numsB, h w rfl]
  | n :: l, r, hs, h => by
    have ih := nums_app l r (fun m hm => hs m (List.mem_cons_of_mem _ hm)) h
    rw [List.map_cons, List.cons_append, numsB, num_itoa n (hs n (by simp)).1 (hs n (by simp)).2]
    simp only
    rw [ih]
/-! ### What is written is read -/

/-- The form of a node of a kind. -/
def FormK : Nat → Tn → Prop
  | 1, x => x.xs = [] ∧ x.sh ≠ [] ∧ x.N = 0 ∧ x.P = 0
  | 2, x => x.xs = [] ∧ x.sh ≠ [] ∧ x.N = 0 ∧ x.P = 0
  | 3, x => x.xs.length = 2 ∧ x.sh = [] ∧ x.N = 0 ∧ x.P = 0
  | 4, x => x.xs.length = 2 ∧ x.sh = [] ∧ x.N = 0 ∧ x.P = 0
  | 5, x => x.xs.length = 1 ∧ x.sh = [] ∧ x.N = 0 ∧ x.P = 0
  | 6, x => x.xs.length = 1 ∧ x.sh = [] ∧ x.P = 0
  | 7, x => x.xs.length = 2 ∧ x.sh = [] ∧ x.N = 0 ∧ x.P = 0
  | 8, x => x.xs.length = 2 ∧ x.sh = []
  | 9, x => x.xs.length = 1 ∧ x.sh = [] ∧ x.P = 0
  | 10, x => x.xs.length = 1 ∧ x.sh ≠ [] ∧ x.N = 0 ∧ x.P = 0
  | 11, x => x.xs.length = 1 ∧ x.sh ≠ [] ∧ x.N = 0 ∧ x.P = 0
  | 12, x => x.xs ≠ [] ∧ x.sh = [] ∧ x.P = 0
  | 13, x => x.xs.length = 1 ∧ x.sh = [] ∧ x.P = 0
  | _, _ => False

def FormT (x : Tn) : Prop := Small x.xs ∧ Small x.sh ∧ (0 ≤ x.N ∧ x.N < 1000000000) ∧ (0 ≤ x.P ∧ x.P < 1000000000) ∧ FormK x.kd x

theorem len_one {l : List Int} (h : l.length = 1) : ∃ a, l = [a] := by
  match l, h with
  | [a], _ => exact ⟨a, rfl⟩

theorem len_two {l : List Int} (h : l.length = 2) : ∃ a b, l = [a, b] := by
  match l, h with
  | [a, b], _ => exact ⟨a, b, rfl⟩

theorem nums_all (l : List Int) (h : Small l) : numsB (l.map Lib.itoa) = l := by
  have := nums_app l [] h (by simp)
  rwa [List.append_nil] at this

theorem num_along : numB [97, 108, 111, 110, 103] = none := by decide

theorem nums_along (l : List Int) (h : Small l) (t : List Wd) : numsB (l.map Lib.itoa ++ [97, 108, 111, 110, 103] :: t) = l :=
  nums_app l _ h (by intro w hw; simp at hw; subst hw; exact num_along)

theorem node_words (x : Tn) (h : FormT x) : nodeW (wordsB x) = some x := by
  obtain ⟨k, xs, sh, N, P⟩ := x
  obtain ⟨hx, hs, hN, hP, hk⟩ := h
  simp only at hx hs hN hP hk
  have nN := num_itoa N hN.1 hN.2
  have nP := num_itoa P hP.1 hP.2
  match k, hk with
  | 1, ⟨e1, e2, e3, e4⟩ | 2, ⟨e1, e2, e3, e4⟩ =>
    simp only at e1 e2 e3 e4
    subst e1 e3 e4
    simp [nodeW, wordsB, partsB, stepW, kindB, readB, stepR, nums_all sh hs, e2, List.drop_length]
  | 3, ⟨e1, e2, e3, e4⟩ | 4, ⟨e1, e2, e3, e4⟩ | 7, ⟨e1, e2, e3, e4⟩ =>
    simp only at e1 e2 e3 e4
    obtain ⟨a, b, rfl⟩ := len_two e1
    subst e2 e3 e4
    have na := num_itoa a (hx a (by simp)).1 (hx a (by simp)).2
    have nb := num_itoa b (hx b (by simp)).1 (hx b (by simp)).2
    simp [nodeW, wordsB, partsB, stepW, kindB, readB, stepR, na, nb]
  | 5, ⟨e1, e2, e3, e4⟩ =>
    simp only at e1 e2 e3 e4
    obtain ⟨a, rfl⟩ := len_one e1
    subst e2 e3 e4
    have na := num_itoa a (hx a (by simp)).1 (hx a (by simp)).2
    simp [nodeW, wordsB, partsB, stepW, kindB, readB, stepR, na]
  | 6, ⟨e1, e2, e4⟩ | 9, ⟨e1, e2, e4⟩ | 13, ⟨e1, e2, e4⟩ =>
    simp only at e1 e2 e4
    obtain ⟨a, rfl⟩ := len_one e1
    subst e2 e4
    have na := num_itoa a (hx a (by simp)).1 (hx a (by simp)).2
    simp [nodeW, wordsB, partsB, stepW, kindB, readB, stepR, na, nN]
  | 8, ⟨e1, e2⟩ =>
    simp only at e1 e2
    obtain ⟨a, b, rfl⟩ := len_two e1
    subst e2
    have na := num_itoa a (hx a (by simp)).1 (hx a (by simp)).2
    have nb := num_itoa b (hx b (by simp)).1 (hx b (by simp)).2
    simp [nodeW, wordsB, partsB, stepW, kindB, readB, stepR, na, nb, nN, nP]
  | 10, ⟨e1, e2, e3, e4⟩ | 11, ⟨e1, e2, e3, e4⟩ =>
    simp only at e1 e2 e3 e4
    obtain ⟨a, rfl⟩ := len_one e1
    subst e3 e4
    have na := num_itoa a (hx a (by simp)).1 (hx a (by simp)).2
    simp [nodeW, wordsB, partsB, stepW, kindB, readB, stepR, na, nums_all sh hs, e2]
  | 12, ⟨e1, e2, e4⟩ =>
    simp only at e1 e2 e4
    subst e2 e4
    have hn := nums_along xs hx [Lib.itoa N]
    have hd : (List.map Lib.itoa xs ++ [[97, 108, 111, 110, 103], Lib.itoa N]).drop xs.length = [[97, 108, 111, 110, 103], Lib.itoa N] := by
      rw [List.drop_append_of_le_length (by simp)]; simp
    simp [nodeW, wordsB, partsB, stepW, kindB, readB, stepR, hn, hd, e1, nN]

theorem parts_clean : ∀ k, k < 14 → ∀ p ∈ partsB k, 32 ∉ p ∧ 10 ∉ p := by decide

theorem FormK.lt {k : Nat} {x : Tn} (h : FormK k x) : 1 ≤ k ∧ k < 14 := by
  match k, h with
  | 1, _ | 2, _ | 3, _ | 4, _ | 5, _ | 6, _ | 7, _ | 8, _ | 9, _ | 10, _ | 11, _ | 12, _ | 13, _ => omega

theorem itoa_cl (n : Int) (h : 0 ≤ n) : (32 : UInt8) ∉ Lib.itoa n ∧ (10 : UInt8) ∉ Lib.itoa n := by
  constructor
  · intro e; have := itoa_clean n h _ e; simp at this
  · intro e; have := itoa_clean n h _ e; simp at this

theorem getD_nn (l : List Int) (h : Small l) (k : Nat) : 0 ≤ l.getD k 0 := by
  rw [List.getD_eq_getElem?_getD]
  cases hk : l[k]? with
  | none => simp
  | some n => exact (h n (List.mem_of_getElem? hk)).1

theorem words_clean (x : Tn) (h : FormT x) (w : Wd) (hw : w ∈ wordsB x) : 32 ∉ w ∧ 10 ∉ w := by
  obtain ⟨hx, hs, hN, hP, hk⟩ := h
  rw [wordsB, List.mem_flatMap] at hw
  obtain ⟨p, hp, hw⟩ := hw
  have hpc := parts_clean x.kd hk.lt.2 p hp
  rw [stepW] at hw
  repeat' split at hw
  · simp only [List.mem_singleton] at hw; subst hw; exact itoa_cl _ (getD_nn _ hx 0)
  · simp only [List.mem_singleton] at hw; subst hw; exact itoa_cl _ (getD_nn _ hx 1)
  · obtain ⟨n, hn, rfl⟩ := List.mem_map.1 hw; exact itoa_cl _ (hx n hn).1
  · obtain ⟨n, hn, rfl⟩ := List.mem_map.1 hw; exact itoa_cl _ (hs n hn).1
  · simp only [List.mem_singleton] at hw; subst hw; exact itoa_cl _ hN.1
  · simp only [List.mem_singleton] at hw; subst hw; exact itoa_cl _ hP.1
  · simp only [List.mem_singleton] at hw; subst hw; exact hpc

theorem words_head (x : Tn) (h : 1 ≤ x.kd ∧ x.kd < 14) : ∃ c t r, wordsB x = (c :: t) :: r := by
  obtain ⟨k, xs, sh, N, P⟩ := x
  simp only at h
  match k, h with
  | 1, _ | 2, _ | 3, _ | 4, _ | 5, _ | 6, _ | 7, _ | 8, _ | 9, _ | 10, _ | 11, _ | 12, _ | 13, _ => exact ⟨_, _, _, rfl⟩

theorem words_ne (x : Tn) (h : 1 ≤ x.kd ∧ x.kd < 14) : wordsB x ≠ [] := by
  obtain ⟨c, t, r, e⟩ := words_head x h
  rw [e]; simp

/-- The line of a node is read. -/
theorem node_line (x : Tn) (h : FormT x) : nodeB (lineB x) = some x := by
  rw [nodeB, split_eq, lineB, split_join 32 _ (words_ne x h.2.2.2.2.lt) (fun w hw => (words_clean x h w hw).1)]
  exact node_words x h

theorem text_cons (x : Tn) (r : List Tn) : textB (x :: r) = lineB x ++ 10 :: textB r := by simp [textB]
/-! ### What is read, written again -/

theorem ite_lt14 {c : Prop} [Decidable c] {a b n : Nat} (ha : a < n) (hb : b < n) : (if c then a else b) < n := by split <;> assumption

theorem kind_lt (w : Wd) : kindB w < 14 := by
  unfold kindB
  repeat refine ite_lt14 (by decide) ?_
  decide

end

section
open Go
set_option linter.unusedVariables false
set_option linter.unusedSimpArgs false
set_option maxRecDepth 100000

/-- The bytes of a list of numbers, how many ahead; of a node; of a graph. -/
def listI (l : List Int) : List Int := (l.length : Int) :: l

def nodeI (x : Tn) : List Int := (x.kd : Int) :: (listI x.xs ++ listI x.sh ++ [x.N, x.P])

def graphI (ns : List Tn) : List Int := (ns.length : Int) :: ns.flatMap nodeI

/-- A node whose numbers are bytes. -/
def ByteT (x : Tn) : Prop := x.kd < 256 ∧ (x.xs.length < 256 ∧ ByteL x.xs) ∧ (x.sh.length < 256 ∧ ByteL x.sh) ∧ (0 ≤ x.N ∧ x.N < 256) ∧ (0 ≤ x.P ∧ x.P < 256)

theorem listI_byte {l : List Int} (h : l.length < 256 ∧ ByteL l) : ByteL (listI l) := by
  intro z hz
  rcases List.mem_cons.1 hz with e | e
  · subst e; omega
  · exact h.2 z e

theorem nodeI_byte {x : Tn} (h : ByteT x) : ByteL (nodeI x) := by
  obtain ⟨h1, h2, h3, h4, h5⟩ := h
  intro z hz
  rcases List.mem_cons.1 hz with e | e
  · subst e; omega
  · rcases List.mem_append.1 e with e | e
    · rcases List.mem_append.1 e with e | e
      · exact listI_byte h2 z e
      · exact listI_byte h3 z e
    · simp only [List.mem_cons, List.not_mem_nil, or_false] at e
      rcases e with e | e
      · subst e; exact h4
      · subst e; exact h5

theorem graphI_byte {ns : List Tn} (hl : ns.length < 256) (h : ∀ x ∈ ns, ByteT x) : ByteL (graphI ns) := by
  intro z hz
  rcases List.mem_cons.1 hz with e | e
  · subst e; omega
  · obtain ⟨x, hx, e⟩ := List.mem_flatMap.1 e
    exact nodeI_byte (h x hx) z e

/-- Bytes that are read from the front, and whether any was missing. -/
abbrev Sc := List Int × Bool

def tk (s : Sc) : Int × Sc := match s.1 with
  | [] => (0, ([], true))
  | b :: r => (b, (r, s.2))

def tkNums : Nat → Sc → List Int × Sc
  | 0, s => ([], s)
  | k + 1, s => ((tk s).1 :: (tkNums k (tk s).2).1, (tkNums k (tk s).2).2)

def tkList (s : Sc) : List Int × Sc := tkNums (tk s).1.toNat (tk s).2

def tkNode (s : Sc) : Tn × Sc :=
  let a := tk s
  let b := tkList a.2
  let c := tkList b.2
  let d := tk c.2
  let e := tk d.2
  (⟨a.1.toNat, b.1, c.1, d.1, e.1⟩, e.2)

def tkNodes : Nat → Sc → List Tn × Sc
  | 0, s => ([], s)
  | k + 1, s => ((tkNode s).1 :: (tkNodes k (tkNode s).2).1, (tkNodes k (tkNode s).2).2)

def tkGraph (s : Sc) : List Tn × Sc := tkNodes (tk s).1.toNat (tk s).2

/-! ### What is put is got -/

theorem tkNums_app : ∀ (l r : List Int) (b : Bool), tkNums l.length (l ++ r, b) = (l, (r, b))
  | [], r, b => rfl
  | x :: l, r, b => by
    rw [List.length_cons, tkNums, tk, List.cons_append]
    simp only
    rw [tkNums_app l r b]

theorem tkList_app (l r : List Int) (b : Bool) : tkList (listI l ++ r, b) = (l, (r, b)) := by
  rw [tkList, listI, List.cons_append, tk]
  simp only [Int.toNat_natCast]
  exact tkNums_app l r b

theorem tkNode_app (x : Tn) (r : List Int) (b : Bool) : tkNode (nodeI x ++ r, b) = (x, (r, b)) := by
  have e : nodeI x ++ r = (x.kd : Int) :: (listI x.xs ++ (listI x.sh ++ (x.N :: x.P :: r))) := by simp [nodeI]
  rw [tkNode, e]
  simp only [tk, tkList_app, Int.toNat_natCast]

theorem tkNodes_app : ∀ (ns : List Tn) (r : List Int) (b : Bool), tkNodes ns.length (ns.flatMap nodeI ++ r, b) = (ns, (r, b))
  | [], r, b => rfl
  | x :: ns, r, b => by
    rw [List.length_cons, List.flatMap_cons, List.append_assoc, tkNodes, tkNode_app]
    simp only
    rw [tkNodes_app ns r b]

theorem tkGraph_app (ns : List Tn) (r : List Int) (b : Bool) : tkGraph (graphI ns ++ r, b) = (ns, (r, b)) := by
  rw [tkGraph, graphI, List.cons_append, tk]
  simp only [Int.toNat_natCast]
  exact tkNodes_app ns r b

/-! ### What is got has these bytes -/

theorem tk_short (s : Sc) (h : (tk s).2.2 = false) : s.2 = false ∧ s.1 = (tk s).1 :: (tk s).2.1 := by
  obtain ⟨l, b⟩ := s
  cases l with
  | nil => simp [tk] at h
  | cons c r => exact ⟨h, rfl⟩

theorem tkNums_short : ∀ (k : Nat) (s : Sc), (tkNums k s).2.2 = false → s.2 = false ∧ s.1 = (tkNums k s).1 ++ (tkNums k s).2.1 ∧ (tkNums k s).1.length = k
  | 0, s, h => ⟨h, rfl, rfl⟩
  | k + 1, s, h => by
    rw [tkNums] at h ⊢
    simp only at h ⊢
    obtain ⟨h1, h2, h3⟩ := tkNums_short k _ h
    obtain ⟨h4, h5⟩ := tk_short s h1
    exact ⟨h4, by rw [h5, h2]; rfl, by rw [List.length_cons, h3]⟩

theorem tkList_short (s : Sc) (hb : ByteL s.1) (h : (tkList s).2.2 = false) : s.2 = false ∧ s.1 = listI (tkList s).1 ++ (tkList s).2.1 ∧ (tkList s).1.length < 256 := by
  rw [tkList] at h ⊢
  obtain ⟨h1, h2, h3⟩ := tkNums_short _ _ h
  obtain ⟨h4, h5⟩ := tk_short s h1
  have hbd := hb (tk s).1 (by rw [h5]; simp)
  refine ⟨h4, ?_, by rw [h3]; omega⟩
  rw [listI, h3, Int.toNat_of_nonneg hbd.1, List.cons_append, ← h2]
  exact h5

theorem byteL_app {a b : List Int} (h : ByteL (a ++ b)) : ByteL a ∧ ByteL b := ⟨fun z hz => h z (by simp [hz]), fun z hz => h z (by simp [hz])⟩

theorem tkNode_short (s : Sc) (hb : ByteL s.1) (h : (tkNode s).2.2 = false) : s.2 = false ∧ s.1 = nodeI (tkNode s).1 ++ (tkNode s).2.1 ∧ ByteT (tkNode s).1 := by
  obtain ⟨a, sa⟩ : ∃ a, a = tk s := ⟨_, rfl⟩
  obtain ⟨b, sb⟩ : ∃ b, b = tkList a.2 := ⟨_, rfl⟩
  obtain ⟨c, sc⟩ : ∃ c, c = tkList b.2 := ⟨_, rfl⟩
  obtain ⟨d, sd⟩ : ∃ d, d = tk c.2 := ⟨_, rfl⟩
  obtain ⟨e, se⟩ : ∃ e, e = tk d.2 := ⟨_, rfl⟩
  have ht : tkNode s = (⟨a.1.toNat, b.1, c.1, d.1, e.1⟩, e.2) := by rw [tkNode, se, sd, sc, sb, sa]
  rw [ht] at h ⊢
  simp only at h ⊢
  have hd : d.2.2 = false ∧ d.2.1 = e.1 :: e.2.1 := by rw [se]; exact tk_short _ (by rw [← se]; exact h)
  have hc : c.2.2 = false ∧ c.2.1 = d.1 :: d.2.1 := by rw [sd]; exact tk_short _ (by rw [← sd]; exact hd.1)
  have hc0 := hc.1
  have a0 : a.2.2 = false ∧ s.1 = a.1 :: a.2.1 ∧ s.2 = false ∧ a.2.1 = listI b.1 ++ b.2.1 ∧ b.1.length < 256 ∧ b.2.1 = listI c.1 ++ c.2.1 ∧ c.1.length < 256 := by
    have hb2 : b.2.2 = false := by
      have hh : (tkList b.2).2.2 = false := by rw [← sc]; exact hc0
      rw [tkList] at hh
      have := (tk_short b.2 (tkNums_short _ _ hh).1).1
      exact this
    have ha2 : a.2.2 = false := by
      have hh : (tkList a.2).2.2 = false := by rw [← sb]; exact hb2
      rw [tkList] at hh
      exact (tk_short a.2 (tkNums_short _ _ hh).1).1
    have hs := tk_short s (by rw [← sa]; exact ha2)
    rw [← sa] at hs
    have hba : ByteL a.2.1 := fun z hz => hb z (by rw [hs.2]; simp [hz])
    have hlb := tkList_short a.2 hba (by rw [← sb]; exact hb2)
    rw [← sb] at hlb
    have hbb : ByteL b.2.1 := (byteL_app (by rw [← hlb.2.1]; exact hba)).2
    have hlc := tkList_short b.2 hbb (by rw [← sc]; exact hc0)
    rw [← sc] at hlc
    exact ⟨ha2, hs.2, hs.1, hlb.2.1, hlb.2.2, hlc.2.1, hlc.2.2⟩
  obtain ⟨_, e1, e2, e3, l1, e4, l2⟩ := a0
  have hall : s.1 = a.1 :: (listI b.1 ++ (listI c.1 ++ (d.1 :: e.1 :: e.2.1))) := by rw [e1, e3, e4, hc.2, hd.2]
  have hin : ∀ z, z = a.1 ∨ z ∈ b.1 ∨ z ∈ c.1 ∨ z = d.1 ∨ z = e.1 → 0 ≤ z ∧ z < 256 := by
    intro z hz
    apply hb z
    rw [hall]
    rcases hz with q | q | q | q | q <;> simp [listI, q]
  have ha := hin a.1 (.inl rfl)
  refine ⟨e2, ?_, ?_, ⟨l1, fun z hz => hin z (.inr (.inl hz))⟩, ⟨l2, fun z hz => hin z (.inr (.inr (.inl hz)))⟩, hin d.1 (by simp), hin e.1 (by simp)⟩
  · rw [hall]; simp [nodeI, Int.toNat_of_nonneg ha.1]
  · simp only; omega

theorem tkNodes_short : ∀ (k : Nat) (s : Sc), ByteL s.1 → (tkNodes k s).2.2 = false → s.2 = false ∧ s.1 = (tkNodes k s).1.flatMap nodeI ++ (tkNodes k s).2.1 ∧ (tkNodes k s).1.length = k ∧ ∀ x ∈ (tkNodes k s).1, ByteT x
  | 0, s, _, h => ⟨h, rfl, rfl, by simp [tkNodes]⟩
  | k + 1, s, hb, h => by
    have h0 : (tkNode s).2.2 = false := by
      -- what is short stays so
      have mono : ∀ (k : Nat) (s : Sc), (tkNodes k s).2.2 = false → s.2 = false := by
        have m1 : ∀ s : Sc, (tk s).2.2 = false → s.2 = false := fun s h => (tk_short s h).1
        have m2 : ∀ s : Sc, (tkList s).2.2 = false → s.2 = false := fun s h => m1 s (tkNums_short _ _ h).1
        intro k
        induction k with
        | zero => intro s h; exact h
        | succ k ih =>
          intro s h
          rw [tkNodes] at h
          have := ih _ h
          rw [tkNode] at this
          exact m1 _ (m2 _ (m2 _ (m1 _ (m1 _ this))))
      rw [tkNodes] at h
      exact mono k _ h
    obtain ⟨h1, h2, h3⟩ := tkNode_short s hb h0
    rw [tkNodes] at h ⊢
    simp only at h ⊢
    have hb2 : ByteL (tkNode s).2.1 := (byteL_app (by rw [← h2]; exact hb)).2
    obtain ⟨h4, h5, h6, h7⟩ := tkNodes_short k _ hb2 h
    refine ⟨h1, ?_, by rw [List.length_cons, h6], ?_⟩
    · rw [List.flatMap_cons, List.append_assoc, ← h5]
      exact h2
    · intro x hx
      rcases List.mem_cons.1 hx with e | e
      · subst e; exact h3
      · exact h7 x e

theorem tkGraph_short (l : List Int) (hb : ByteL l) (h : (tkGraph (l, false)).2.2 = false) : l = graphI (tkGraph (l, false)).1 ++ (tkGraph (l, false)).2.1 ∧ (∀ x ∈ (tkGraph (l, false)).1, ByteT x) ∧ (tkGraph (l, false)).1.length < 256 := by
  rw [tkGraph] at h ⊢
  cases l with
  | nil =>
    simp only [tk] at h ⊢
    simp [tkNodes] at h
  | cons b r =>
    simp only [tk] at h ⊢
    have hbb := hb b (by simp)
    obtain ⟨_, h2, h3, h4⟩ := tkNodes_short b.toNat (r, false) (fun z hz => hb z (by simp [hz])) h
    refine ⟨?_, h4, by rw [h3]; omega⟩
    rw [graphI, h3, Int.toNat_of_nonneg hbb.1, List.cons_append, ← h2]

end

section
open Go.RowKit
set_option linter.unusedVariables false
set_option linter.unusedSimpArgs false
set_option maxRecDepth 100000

/-- A node's plain part. -/
def Nd.tn (x : Nd) : Tn := ⟨x.kd.toNat, x.xs, x.sh, x.N, x.P⟩

theorem size_len4 {s : List Int} (h : 0 < sizeI s) : 1 ≤ s.length ∧ s.length ≤ 4 := by
  by_cases h4 : s.length ≤ 4
  · refine ⟨?_, h4⟩
    by_cases h0 : s = []
    · subst h0; simp [sizeI] at h
    · exact List.length_pos_iff.2 h0
  · exfalso
    simp [sizeI] at h
    omega

theorem size_small {s : List Int} (h : 0 < sizeI s) : (1 ≤ s.length ∧ s.length ≤ 4) ∧ ∀ z ∈ s, 0 ≤ z ∧ z < 256 :=
  ⟨size_len4 h, fun z hz => by have := size_dims h z hz; omega⟩

theorem ord_small {u : List Int} (h : isOrd u = true) : (1 ≤ u.length ∧ u.length ≤ 4) ∧ ∀ z ∈ u, 0 ≤ z ∧ z < 256 := by
  simp only [isOrd, Bool.and_eq_true, decide_eq_true_eq] at h
  refine ⟨h.1, fun z hz => ?_⟩
  obtain ⟨k, hk, e⟩ := List.getElem_of_mem hz
  have := ord_in h.2 h.1.2 k hk
  rw [List.getD_eq_getElem?_getD, List.getElem?_eq_getElem hk, Option.getD_some, e] at this
  omega

theorem all_small {xs : List Int} {n : Nat} (h : allKn xs n = true) (hn : n ≤ 32) : ∀ z ∈ xs, 0 ≤ z ∧ z < 256 := by
  intro z hz
  have := List.all_eq_true.1 h z hz
  simp only [Bool.and_eq_true, decide_eq_true_eq] at this
  omega

theorem nil_of {s : List Int} (h : lOk 0 s = true) : s = [] := by
  simp only [lOk, decide_eq_true_eq] at h
  exact List.length_eq_zero_iff.1 h

/-- The form of a node that fits, and its bytes. -/
theorem fit_form {x : Nd} {ss : List (List Int)} (h : fitN x ss = true) (hs : ss.length ≤ 32) : FormT x.tn ∧ ByteT x.tn := by
  obtain ⟨hk, ha, hi, _⟩ := fitN_parts h
  have hx := all_small hi hs
  obtain ⟨k, hk2⟩ : ∃ k : Nat, x.kd = (k : Int) := ⟨x.kd.toNat, by omega⟩
  have hsm : ∀ {l : List Int}, (∀ z ∈ l, 0 ≤ z ∧ z < 256) → Small l := fun h z hz => by have := h z hz; omega
  rw [hk2, Int.toNat_natCast] at ha
  have hcs : k = 1 ∨ k = 2 ∨ k = 3 ∨ k = 4 ∨ k = 5 ∨ k = 6 ∨ k = 7 ∨ k = 8 ∨ k = 9 ∨ k = 10 ∨ k = 11 ∨ k = 12 ∨ k = 13 := by omega
  have hall : ∀ (r : Rl), alw r x = true → (r.a ≤ (x.xs.length : Int) ∧ (x.xs.length : Int) ≤ r.b) ∧ (r.nl ≤ x.N ∧ x.N ≤ r.nm) ∧ (r.pl ≤ x.P ∧ x.P ≤ r.pm) ∧ lOk r.lk x.sh = true := by
    intro r hr
    simp only [alw, Bool.and_eq_true, decide_eq_true_eq] at hr
    exact ⟨hr.1.1.1, hr.1.1.2, hr.1.2, hr.2⟩
  obtain ⟨c1, c2, c3, c4⟩ := hall _ ha
  have hkt : x.tn.kd = k := by simp [Nd.tn, hk2]
  suffices hh : ((x.sh.length ≤ 4 ∧ ∀ z ∈ x.sh, 0 ≤ z ∧ z < 256) ∧ x.xs.length ≤ 4 ∧ (0 ≤ x.N ∧ x.N < 256) ∧ (0 ≤ x.P ∧ x.P < 256)) ∧ FormK k x.tn by
    obtain ⟨⟨g1, g2, g3, g4⟩, g5⟩ := hh
    refine ⟨⟨hsm hx, hsm g1.2, ⟨g3.1, ?_⟩, ⟨g4.1, ?_⟩, ?_⟩, ?_, ⟨?_, hx⟩, ⟨?_, g1.2⟩, g3, g4⟩
    · show x.N < _; omega
    · show x.P < _; omega
    · rw [hkt]; exact g5
    · rw [hkt]; omega
    · show x.xs.length < 256; omega
    · show x.sh.length < 256; omega
  clear ha hall
  have hsh : (1 ≤ x.sh.length ∧ x.sh.length ≤ 4) → x.sh ≠ [] := fun h e => by rw [e] at h; simp at h
  have hxne : 1 ≤ x.xs.length → x.xs ≠ [] := fun h e => by rw [e] at h; simp at h
  rcases hcs with rfl | rfl | rfl | rfl | rfl | rfl | rfl | rfl | rfl | rfl | rfl | rfl | rfl
  case inl | inr.inl =>
    simp only [rlT] at c1 c2 c3 c4
    have h4 := size_small (s := x.sh) (by simpa [lOk] using c4)
    exact ⟨⟨⟨h4.1.2, h4.2⟩, by omega, by omega, by omega⟩, List.length_eq_zero_iff.1 (show x.xs.length = 0 by omega), hsh h4.1, (show x.N = 0 by omega), (show x.P = 0 by omega)⟩
  case inr.inr.inl | inr.inr.inr.inl | inr.inr.inr.inr.inr.inr.inl =>
    simp only [rlT] at c1 c2 c3 c4
    have h4 := nil_of c4
    exact ⟨⟨⟨by rw [h4]; simp, by rw [h4]; simp⟩, by omega, by omega, by omega⟩, (show x.xs.length = 2 by omega), h4, (show x.N = 0 by omega), (show x.P = 0 by omega)⟩
  case inr.inr.inr.inr.inl =>
    simp only [rlT] at c1 c2 c3 c4
    have h4 := nil_of c4
    exact ⟨⟨⟨by rw [h4]; simp, by rw [h4]; simp⟩, by omega, by omega, by omega⟩, (show x.xs.length = 1 by omega), h4, (show x.N = 0 by omega), (show x.P = 0 by omega)⟩
  case inr.inr.inr.inr.inr.inl | inr.inr.inr.inr.inr.inr.inr.inr.inl | inr.inr.inr.inr.inr.inr.inr.inr.inr.inr.inr.inr =>
    simp only [rlT] at c1 c2 c3 c4
    have h4 := nil_of c4
    exact ⟨⟨⟨by rw [h4]; simp, by rw [h4]; simp⟩, by omega, by omega, by omega⟩, (show x.xs.length = 1 by omega), h4, (show x.P = 0 by omega)⟩
  case inr.inr.inr.inr.inr.inr.inr.inl =>
    simp only [rlT] at c1 c2 c3 c4
    have h4 := nil_of c4
    exact ⟨⟨⟨by rw [h4]; simp, by rw [h4]; simp⟩, by omega, by omega, by omega⟩, (show x.xs.length = 2 by omega), h4⟩
  case inr.inr.inr.inr.inr.inr.inr.inr.inr.inl =>
    simp only [rlT] at c1 c2 c3 c4
    have h4 := size_small (s := x.sh) (by simpa [lOk] using c4)
    exact ⟨⟨⟨h4.1.2, h4.2⟩, by omega, by omega, by omega⟩, (show x.xs.length = 1 by omega), hsh h4.1, (show x.N = 0 by omega), (show x.P = 0 by omega)⟩
  case inr.inr.inr.inr.inr.inr.inr.inr.inr.inr.inl =>
    simp only [rlT] at c1 c2 c3 c4
    have h4 := ord_small (u := x.sh) (by simpa [lOk] using c4)
    exact ⟨⟨⟨h4.1.2, h4.2⟩, by omega, by omega, by omega⟩, (show x.xs.length = 1 by omega), hsh h4.1, (show x.N = 0 by omega), (show x.P = 0 by omega)⟩
  case inr.inr.inr.inr.inr.inr.inr.inr.inr.inr.inr.inl =>
    simp only [rlT] at c1 c2 c3 c4
    have h4 := nil_of c4
    exact ⟨⟨⟨by rw [h4]; simp, by rw [h4]; simp⟩, by omega, by omega, by omega⟩, hxne (by omega), h4, (show x.P = 0 by omega)⟩

/-- All nodes of a graph that may be. -/
theorem all_form : ∀ (ns : List Nd) (ss ts : List (List Int)), allSh ns ss = some ts → ss.length + ns.length ≤ 32 → ∀ x ∈ ns, FormT x.tn ∧ ByteT x.tn
  | [], _, _, _, _ => by simp
  | x :: r, ss, ts, h, hl => by
    rw [allSh] at h
    rw [List.length_cons] at hl
    split at h
    · rename_i hf
      intro y hy
      rcases List.mem_cons.1 hy with e | e
      · subst e; exact fit_form hf (by omega)
      · exact all_form r _ _ h (by rw [List.length_append, List.length_singleton]; omega) y e
    · cases h

theorem gph_form {ns : List Nd} (h : gphB ns = true) : ns.length ≤ 32 ∧ ∀ x ∈ ns, FormT x.tn ∧ ByteT x.tn := by
  simp only [gphB, Bool.and_eq_true, endsOk, decide_eq_true_eq] at h
  obtain ⟨⟨⟨⟨h1, _⟩, _⟩, _⟩, h2⟩ := h
  obtain ⟨ts, ht⟩ := Option.isSome_iff_exists.1 h2
  exact ⟨h1, all_form ns [] ts ht (by simpa using h1)⟩

end

end Go.Proofs.YtohndckbhjakfaaGreatDoor

