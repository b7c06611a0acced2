/- The plain side of package ckpt: a checkpoint, whether it may be, its sector as bytes, the checkpoint of bytes; that a sector tells its checkpoint, and what a torn one tells. No program is spoken of. -/
import Derived.Test.YtdnkhjikfdalbaaRecW
import Derived.Test.YtdnkhjikfdalbaaRecC
namespace Go.Proofs.Ytdnkhjikfdalbaa
open Go.RowKit Go.Lib Wd Cr
set_option linter.unusedVariables false

/-- A checkpoint: Gen, Epoch, LSN, Ver, Order, Lens. -/
structure Chk where
  g : Int
  e : Int
  l : Int
  v : Int
  o : List Int
  n : List Int
deriving DecidableEq

/-- Its numbers are what their kinds can hold. -/
structure Fits (c : Chk) : Prop where
  g0 : 0 ≤ c.g
  g1 : c.g < 18446744073709551616
  e0 : 0 ≤ c.e
  e1 : c.e < 4294967296
  l0 : 0 ≤ c.l
  l1 : c.l < 18446744073709551616
  v0 : 0 ≤ c.v
  v1 : c.v < 18446744073709551616

/-- May the segments be? -/
def segB (o n : List Int) : Bool := decide (1 ≤ o.length ∧ o.length ≤ 16 ∧ n.length = o.length ∧ (∀ x ∈ o, 0 ≤ x ∧ x < 16) ∧ (∀ x ∈ n, 0 ≤ x ∧ x ≤ 30) ∧ o.Nodup)
theorem segB_iff (o n : List Int) : segB o n = true ↔ 1 ≤ o.length ∧ o.length ≤ 16 ∧ n.length = o.length ∧ (∀ x ∈ o, 0 ≤ x ∧ x < 16) ∧ (∀ x ∈ n, 0 ≤ x ∧ x ≤ 30) ∧ o.Nodup := by
  unfold segB; rw [decide_eq_true_iff]
theorem segB_no {o n : List Int} (h : ¬ (1 ≤ o.length ∧ o.length ≤ 16 ∧ n.length = o.length ∧ (∀ x ∈ o, 0 ≤ x ∧ x < 16) ∧ (∀ x ∈ n, 0 ≤ x ∧ x ≤ 30) ∧ o.Nodup)) : segB o n = false := by
  unfold segB; rw [decide_eq_false_iff_not]; exact h

/-- May it be? -/
def okC (c : Chk) : Bool := decide (c.g ≠ 0 ∧ c.l ≠ 0) && segB c.o c.n
theorem okC_iff (c : Chk) : okC c = true ↔ (c.g ≠ 0 ∧ c.l ≠ 0) ∧ segB c.o c.n = true := by
  unfold okC; rw [Bool.and_eq_true, decide_eq_true_iff]

/-- The first k pairs, a byte each. -/
def pairsF (f g : Nat → Int) : Nat → List UInt8
  | 0 => []
  | k + 1 => pairsF f g k ++ (putL (f k).toNat 1 ++ putL (g k).toNat 1)
theorem pairsF_len (f g : Nat → Int) : ∀ k, (pairsF f g k).length = 2 * k
  | 0 => rfl
  | k + 1 => by rw [pairsF, List.length_append, pairsF_len f g k, List.length_append, putL_length, putL_length]; omega
def nth (l : List Int) (i : Nat) : Int := l.getD i 0
def pairsL (o n : List Int) : List UInt8 := pairsF (nth o) (nth n) o.length

/-- What stands ahead of the zeros. -/
def headL (c : Chk) : List UInt8 := putL c.g.toNat 8 ++ putL c.e.toNat 4 ++ putL c.l.toNat 8 ++ putL c.v.toNat 8 ++ putL c.o.length 1
def fieldsL (c : Chk) : List UInt8 := headL c ++ pairsL c.o c.n
def bodyL (c : Chk) : List UInt8 := fieldsL c ++ List.replicate (116 - (fieldsL c).length) 0
/-- Its sector. -/
def secL (c : Chk) : List UInt8 := bodyL c ++ putL (Crc.more 0 (bodyL c)) 4 ++ putL c.g.toNat 8

theorem headL_len (c : Chk) : (headL c).length = 29 := by simp [headL, putL_length]
theorem fieldsL_len (c : Chk) : (fieldsL c).length = 29 + 2 * c.o.length := by
  rw [fieldsL, List.length_append, headL_len, pairsL, pairsF_len]
theorem okC_o {c : Chk} (h : okC c = true) : 1 ≤ c.o.length ∧ c.o.length ≤ 16 ∧ c.n.length = c.o.length := by
  obtain ⟨h1, h2, h3, _⟩ := (segB_iff _ _).1 ((okC_iff c).1 h).2
  exact ⟨h1, h2, h3⟩
theorem bodyL_len {c : Chk} (h : okC c = true) : (bodyL c).length = 116 := by
  have h1 := okC_o h
  rw [bodyL, List.length_append, List.length_replicate, fieldsL_len]; omega
theorem secL_len {c : Chk} (h : okC c = true) : (secL c).length = 128 := by
  rw [secL, List.length_append, List.length_append, bodyL_len h, putL_length, putL_length]

/-- The checkpoint of bytes, field by field, whatever they are. -/
def cutC (s : List UInt8) : Chk :=
  { g := (getN (s.take 8) : Nat), e := (getN ((s.drop 8).take 4) : Nat), l := (getN ((s.drop 12).take 8) : Nat), v := (getN ((s.drop 20).take 8) : Nat),
    o := (List.range (byteAt s 28)).map fun i => ((byteAt s (29 + 2 * i) : Nat) : Int), n := (List.range (byteAt s 28)).map fun i => ((byteAt s (30 + 2 * i) : Nat) : Int) }

theorem getN_lt_of (l : List UInt8) (k n : Nat) (h : l.length ≤ k) (hk : k ≤ 8) (hn : 256 ^ k = n) : getN l < n := by
  unfold getN
  rw [← hn]
  exact leN_lt_of (by rw [List.length_take]; omega)

theorem cutC_fits (s : List UInt8) : Fits (cutC s) := by
  have h1 := getN_lt (s.take 8)
  have h2 := getN_lt_of ((s.drop 8).take 4) 4 4294967296 (by rw [List.length_take]; omega) (by omega) (by decide)
  have h3 := getN_lt ((s.drop 12).take 8)
  have h4 := getN_lt ((s.drop 20).take 8)
  constructor <;> simp only [cutC] <;> omega

theorem getN_putL (n k : Nat) (h : k ≤ 8) : getN (putL n k) = n % 256 ^ k := by
  unfold getN
  rw [List.take_of_length_le (by rw [putL_length]; exact h), leN_putL]

theorem take_at (p q r : List UInt8) (n m : Nat) (hp : p.length = n) (hq : q.length = m) : ((p ++ (q ++ r)).drop n).take m = q := by
  rw [List.drop_append_of_le_length (by omega), List.drop_of_length_le (by omega), List.nil_append, List.take_append_of_le_length (by omega), List.take_of_length_le (by omega)]

theorem byteAt_right (p q : List UInt8) (n i : Nat) (h : p.length = n) : byteAt (p ++ q) (n + i) = byteAt q i := by
  unfold byteAt
  rw [List.getElem?_append_right (by omega)]
  congr 3
  omega
theorem byteAt_left (p q : List UInt8) (i : Nat) (h : i < p.length) : byteAt (p ++ q) i = byteAt p i := by
  unfold byteAt
  rw [List.getElem?_append_left h]
theorem byteAt_put1 (n : Nat) (r : List UInt8) : byteAt (putL n 1 ++ r) 0 = n % 256 := by
  simp [byteAt, putL]

theorem pairs_at (f g : Nat → Int) : ∀ (k i : Nat) (r : List UInt8), i < k → byteAt (pairsF f g k ++ r) (2 * i) = (f i).toNat % 256 ∧ byteAt (pairsF f g k ++ r) (2 * i + 1) = (g i).toNat % 256
  | 0, i, r, h => by omega
  | k + 1, i, r, h => by
    rw [pairsF, List.append_assoc]
    by_cases e : i = k
    · subst e
      have hl := pairsF_len f g i
      constructor
      · have := byteAt_right (pairsF f g i) (putL (f i).toNat 1 ++ putL (g i).toNat 1 ++ r) (2 * i) 0 hl
        rw [Nat.add_zero] at this
        rw [this, List.append_assoc]
        exact byteAt_put1 _ _
      · rw [byteAt_right (pairsF f g i) (putL (f i).toNat 1 ++ putL (g i).toNat 1 ++ r) (2 * i) 1 hl, List.append_assoc]
        have := byteAt_right (putL (f i).toNat 1) (putL (g i).toNat 1 ++ r) 1 0 (putL_length _ _)
        rw [Nat.add_zero] at this
        rw [this]
        exact byteAt_put1 _ _
    · exact pairs_at f g k i _ (by omega)

/-- A sector's fields stand where they should. -/
theorem secL_split (c : Chk) : ∃ Z, secL c = putL c.g.toNat 8 ++ (putL c.e.toNat 4 ++ (putL c.l.toNat 8 ++ (putL c.v.toNat 8 ++ (putL c.o.length 1 ++ (pairsL c.o c.n ++ Z))))) := by
  refine ⟨List.replicate (116 - (fieldsL c).length) 0 ++ (putL (Crc.more 0 (bodyL c)) 4 ++ putL c.g.toNat 8), ?_⟩
  have e0 : secL c = fieldsL c ++ (List.replicate (116 - (fieldsL c).length) 0 ++ (putL (Crc.more 0 (bodyL c)) 4 ++ putL c.g.toNat 8)) := by
    rw [secL, List.append_assoc]
    generalize putL (Crc.more 0 (bodyL c)) 4 ++ putL c.g.toNat 8 = T
    rw [bodyL, List.append_assoc]
  rw [e0]
  generalize List.replicate (116 - (fieldsL c).length) 0 ++ (putL (Crc.more 0 (bodyL c)) 4 ++ putL c.g.toNat 8) = T
  simp only [fieldsL, headL, List.append_assoc]

structure Stands (c : Chk) (s : List UInt8) : Prop where
  g : s.take 8 = putL c.g.toNat 8
  e : (s.drop 8).take 4 = putL c.e.toNat 4
  l : (s.drop 12).take 8 = putL c.l.toNat 8
  v : (s.drop 20).take 8 = putL c.v.toNat 8
  k : byteAt s 28 = c.o.length % 256
  p : ∀ i, i < c.o.length → byteAt s (29 + 2 * i) = (nth c.o i).toNat % 256 ∧ byteAt s (30 + 2 * i) = (nth c.n i).toNat % 256

theorem secL_stands (c : Chk) : Stands c (secL c) := by
  obtain ⟨Z, e⟩ := secL_split c
  rw [e]
  refine ⟨?_, ?_, ?_, ?_, ?_, fun i hi => ?_⟩
  · have := take_at [] (putL c.g.toNat 8) (putL c.e.toNat 4 ++ (putL c.l.toNat 8 ++ (putL c.v.toNat 8 ++ (putL c.o.length 1 ++ (pairsL c.o c.n ++ Z))))) 0 8 rfl (putL_length _ _)
    simpa using this
  · exact take_at _ _ _ _ _ (putL_length _ _) (putL_length _ _)
  · have := take_at (putL c.g.toNat 8 ++ putL c.e.toNat 4) (putL c.l.toNat 8) (putL c.v.toNat 8 ++ (putL c.o.length 1 ++ (pairsL c.o c.n ++ Z))) 12 8 (by simp [putL_length]) (putL_length _ _)
    simpa [List.append_assoc] using this
  · have := take_at (putL c.g.toNat 8 ++ putL c.e.toNat 4 ++ putL c.l.toNat 8) (putL c.v.toNat 8) (putL c.o.length 1 ++ (pairsL c.o c.n ++ Z)) 20 8 (by simp [putL_length]) (putL_length _ _)
    simpa [List.append_assoc] using this
  · have := byteAt_right (putL c.g.toNat 8 ++ putL c.e.toNat 4 ++ putL c.l.toNat 8 ++ putL c.v.toNat 8) (putL c.o.length 1 ++ (pairsL c.o c.n ++ Z)) 28 0 (by simp [putL_length])
    rw [byteAt_put1] at this
    simpa [List.append_assoc] using this
  · have h := pairs_at (nth c.o) (nth c.n) c.o.length i Z hi
    have e1 : ∀ j, byteAt (putL c.g.toNat 8 ++ (putL c.e.toNat 4 ++ (putL c.l.toNat 8 ++ (putL c.v.toNat 8 ++ (putL c.o.length 1 ++ (pairsL c.o c.n ++ Z)))))) (29 + j) = byteAt (pairsL c.o c.n ++ Z) j := by
      intro j
      have := byteAt_right (putL c.g.toNat 8 ++ putL c.e.toNat 4 ++ putL c.l.toNat 8 ++ putL c.v.toNat 8 ++ putL c.o.length 1) (pairsL c.o c.n ++ Z) 29 j (by simp [putL_length])
      simpa [List.append_assoc] using this
    refine ⟨?_, ?_⟩
    · rw [e1]; exact h.1
    · rw [show 30 + 2 * i = 29 + (2 * i + 1) by omega, e1]; exact h.2

theorem nth_mem {l : List Int} {i : Nat} (h : i < l.length) : nth l i ∈ l := by
  unfold nth
  rw [List.getD_eq_getElem?_getD, List.getElem?_eq_getElem h]
  exact List.getElem_mem h
theorem list_nth {l : List Int} {f : Nat → Int} (k : Nat) (hk : k = l.length) (h : ∀ i, i < k → f i = nth l i) : (List.range k).map f = l := by
  subst hk
  apply List.ext_getElem
  · simp
  · intro i h1 h2
    rw [List.getElem_map, List.getElem_range, h i h2]
    unfold nth
    rw [List.getD_eq_getElem?_getD, List.getElem?_eq_getElem h2]
    rfl

theorem cutC_secL {c : Chk} (hf : Fits c) (h : okC c = true) : cutC (secL c) = c := by
  have S := secL_stands c
  obtain ⟨g0, g1, e0, e1, l0, l1, v0, v1⟩ := hf
  obtain ⟨h1, h2, h3, h4, h5, h6⟩ := (segB_iff _ _).1 ((okC_iff c).1 h).2
  have g : ∀ (n k : Nat), k ≤ 8 → n < 256 ^ k → getN (putL n k) = n := fun n k hk hn => by rw [getN_putL n k hk, Nat.mod_eq_of_lt hn]
  have hk : byteAt (secL c) 28 = c.o.length := by rw [S.k]; omega
  have ho : (List.range c.o.length).map (fun i => ((byteAt (secL c) (29 + 2 * i) : Nat) : Int)) = c.o := by
    refine list_nth c.o.length rfl fun i hi => ?_
    rw [(S.p i hi).1]
    have := h4 _ (nth_mem hi)
    omega
  have hn : (List.range c.o.length).map (fun i => ((byteAt (secL c) (30 + 2 * i) : Nat) : Int)) = c.n := by
    refine list_nth c.o.length h3.symm fun i hi => ?_
    rw [(S.p i hi).2]
    have := h5 _ (nth_mem (l := c.n) (i := i) (by omega))
    omega
  unfold cutC
  rw [S.g, S.e, S.l, S.v, hk, ho, hn, g _ 8 (by omega) (by omega), g _ 4 (by omega) (by omega), g _ 8 (by omega) (by omega), g _ 8 (by omega) (by omega)]
  rw [Int.toNat_of_nonneg g0, Int.toNat_of_nonneg e0, Int.toNat_of_nonneg l0, Int.toNat_of_nonneg v0]

/-- Are the bytes the sector of a checkpoint? -/
def isSec (s : List UInt8) : Bool := okC (cutC s) && decide (secL (cutC s) = s)
theorem isSec_iff (s : List UInt8) : isSec s = true ↔ okC (cutC s) = true ∧ secL (cutC s) = s := by
  unfold isSec; rw [Bool.and_eq_true, decide_eq_true_iff]
theorem isSec_secL {c : Chk} (hf : Fits c) (h : okC c = true) : isSec (secL c) = true := by
  rw [isSec_iff, cutC_secL hf h]; exact ⟨h, rfl⟩
theorem secL_inj {c d : Chk} (hf : Fits c) (h : okC c = true) (hg : Fits d) (k : okC d = true) (e : secL c = secL d) : c = d := by
  rw [← cutC_secL hf h, e, cutC_secL hg k]
theorem isSec_len {s : List UInt8} (h : isSec s = true) : s.length = 128 := by
  obtain ⟨h1, h2⟩ := (isSec_iff s).1 h
  rw [← h2]; exact secL_len h1

theorem secL_last {c : Chk} (h : okC c = true) : (secL c).drop 120 = putL c.g.toNat 8 := by
  unfold secL
  rw [List.drop_append_of_le_length (by rw [List.length_append, bodyL_len h, putL_length]; omega), List.drop_of_length_le (by rw [List.length_append, bodyL_len h, putL_length]; omega), List.nil_append]
theorem secL_body {c : Chk} (h : okC c = true) : (secL c).take 116 = bodyL c := by
  unfold secL
  rw [List.append_assoc, List.take_append_of_le_length (by rw [bodyL_len h]; omega), List.take_of_length_le (by rw [bodyL_len h]; omega)]
theorem secL_sum {c : Chk} (h : okC c = true) : ((secL c).drop 116).take 4 = putL (Crc.more 0 (bodyL c)) 4 := by
  unfold secL
  rw [List.append_assoc]
  exact take_at _ _ _ _ _ (bodyL_len h) (putL_length _ _)
theorem putL_inj {n m k : Nat} (hn : n < 256 ^ k) (hm : m < 256 ^ k) (h : putL n k = putL m k) : n = m := by
  have := congrArg leN h
  rw [leN_putL, leN_putL, Nat.mod_eq_of_lt hn, Nat.mod_eq_of_lt hm] at this
  exact this

/-- What the program asks of bytes, field by field. -/
structure Reads (s : List UInt8) : Prop where
  len : s.length = 128
  ends : s.drop 120 = s.take 8
  sum : getN ((s.drop 116).take 4) = Crc.more 0 (s.take 116)
  cnt : byteAt s 28 ≤ 16
  zero : ∀ i, 29 + 2 * byteAt s 28 ≤ i → i < 116 → byteAt s i = 0
  ok : okC (cutC s) = true

theorem putL_getN {l : List UInt8} {k : Nat} (hl : l.length = k) (hk : k ≤ 8) : putL (getN l) k = l := by
  unfold getN
  rw [List.take_of_length_le (by omega), ← hl, putL_leN]
theorem pairs_of (s : List UInt8) : ∀ k, 29 + 2 * k ≤ s.length → pairsF (fun i => ((byteAt s (29 + 2 * i) : Nat) : Int)) (fun i => ((byteAt s (30 + 2 * i) : Nat) : Int)) k = (s.drop 29).take (2 * k)
  | 0, _ => rfl
  | k + 1, h => by
    have b1 : ∀ i, i < s.length → putL (byteAt s i) 1 = [s.getD i 0] := fun i hi => by
      simp [putL, byteAt, List.getD_eq_getElem?_getD]
    rw [pairsF, pairs_of s k (by omega), Int.toNat_natCast, Int.toNat_natCast, b1 _ (by omega), b1 _ (by omega), show 2 * (k + 1) = 2 * k + 1 + 1 by omega,
      List.take_succ_eq_append_getElem (i := 2 * k + 1) (by rw [List.length_drop]; omega), List.take_succ_eq_append_getElem (i := 2 * k) (by rw [List.length_drop]; omega), List.append_assoc]
    congr 1
    simp only [List.getElem_drop, List.cons_append, List.nil_append, List.getD_eq_getElem?_getD]
    rw [List.getElem?_eq_getElem (by omega), List.getElem?_eq_getElem (by omega)]
    simp only [Option.getD_some]
    congr 2
    simp only [show 30 + 2 * k = 29 + (2 * k + 1) by omega]
theorem nth_map {f : Nat → Int} {k i : Nat} (h : i < k) : nth ((List.range k).map f) i = f i := by
  unfold nth
  simp [h]
theorem pairsF_congr {f g f' g' : Nat → Int} : ∀ k, (∀ i, i < k → f i = f' i) → (∀ i, i < k → g i = g' i) → pairsF f g k = pairsF f' g' k
  | 0, _, _ => rfl
  | k + 1, h, h' => by rw [pairsF, pairsF, pairsF_congr k (fun i hi => h i (by omega)) (fun i hi => h' i (by omega)), h k (by omega), h' k (by omega)]

theorem zeros_of {s : List UInt8} (h : ∀ i, i < s.length → byteAt s i = 0) : s = List.replicate s.length 0 := by
  apply List.ext_getElem
  · simp
  · intro i h1 h2
    have := h i h1
    unfold byteAt at this
    rw [List.getElem?_eq_getElem h1] at this
    rw [List.getElem_replicate]
    exact UInt8.toNat_inj.1 (by simpa using this)
theorem byteAt_drop (s : List UInt8) (n i : Nat) : byteAt (s.drop n) i = byteAt s (n + i) := by
  unfold byteAt; rw [List.getElem?_drop]
theorem byteAt_take (s : List UInt8) (n i : Nat) (h : i < n) : byteAt (s.take n) i = byteAt s i := by
  unfold byteAt; rw [List.getElem?_take_of_lt h]

theorem cut_o_len (s : List UInt8) : (cutC s).o.length = byteAt s 28 := by simp [cutC]
theorem reads_body {s : List UInt8} (h : Reads s) : bodyL (cutC s) = s.take 116 := by
  obtain ⟨hl, _, _, hc, hz, _⟩ := h
  have e : fieldsL (cutC s) = s.take (29 + 2 * byteAt s 28) := by
    unfold fieldsL headL
    rw [cut_o_len]
    have p1 : pairsL (cutC s).o (cutC s).n = (s.drop 29).take (2 * byteAt s 28) := by
      unfold pairsL
      rw [cut_o_len, ← pairs_of s (byteAt s 28) (by omega)]
      exact pairsF_congr _ (fun i hi => nth_map hi) (fun i hi => nth_map hi)
    rw [p1]
    simp only [cutC, Int.toNat_natCast]
    rw [putL_getN (by rw [List.length_take]; omega) (by omega), putL_getN (by rw [List.length_take, List.length_drop]; omega) (by omega), putL_getN (by rw [List.length_take, List.length_drop]; omega) (by omega), putL_getN (by rw [List.length_take, List.length_drop]; omega) (by omega)]
    have p2 : putL (byteAt s 28) 1 = (s.drop 28).take 1 := by
      have : getN ((s.drop 28).take 1) = byteAt s 28 := by
        rw [getN_eq]
        have : ∀ i, 0 < i → byteAt ((s.drop 28).take 1) i = 0 := fun i hi => by
          unfold byteAt
          rw [List.getElem?_eq_none (by rw [List.length_take]; omega)]
          rfl
        rw [this 1 (by omega), this 2 (by omega), this 3 (by omega), this 4 (by omega), this 5 (by omega), this 6 (by omega), this 7 (by omega), byteAt_take _ _ _ (by omega), byteAt_drop, Nat.add_zero]
      rw [← this]
      exact putL_getN (by rw [List.length_take, List.length_drop]; omega) (by omega)
    rw [p2]
    have tk : ∀ a b, s.take a ++ (s.drop a).take b = s.take (a + b) := fun a b => by rw [List.take_add]
    rw [tk, tk, tk, tk, tk]
  unfold bodyL
  rw [e]
  have hlen : (s.take (29 + 2 * byteAt s 28)).length = 29 + 2 * byteAt s 28 := by rw [List.length_take]; omega
  rw [hlen]
  have e2 : (s.drop (29 + 2 * byteAt s 28)).take (116 - (29 + 2 * byteAt s 28)) = List.replicate (116 - (29 + 2 * byteAt s 28)) 0 := by
    have hl2 : ((s.drop (29 + 2 * byteAt s 28)).take (116 - (29 + 2 * byteAt s 28))).length = 116 - (29 + 2 * byteAt s 28) := by rw [List.length_take, List.length_drop]; omega
    have := zeros_of (s := (s.drop (29 + 2 * byteAt s 28)).take (116 - (29 + 2 * byteAt s 28))) (fun i hi => by
      rw [hl2] at hi
      rw [byteAt_take _ _ _ hi, byteAt_drop]
      exact hz _ (by omega) (by omega))
    rw [hl2] at this
    exact this
  rw [← e2, ← List.take_add]
  congr 1
  omega

theorem reads_sec {s : List UInt8} (h : Reads s) : isSec s = true := by
  rw [isSec_iff]
  refine ⟨h.ok, ?_⟩
  unfold secL
  rw [reads_body h, ← h.sum]
  have hl := h.len
  rw [putL_getN (by rw [List.length_take, List.length_drop]; omega) (by omega)]
  simp only [cutC, Int.toNat_natCast]
  rw [putL_getN (by rw [List.length_take]; omega) (by omega), ← h.ends]
  have tk : ∀ a b, s.take a ++ (s.drop a).take b = s.take (a + b) := fun a b => by rw [List.take_add]
  rw [tk, List.take_append_drop]

theorem sec_reads {s : List UInt8} (h : isSec s = true) : Reads s := by
  obtain ⟨h1, h2⟩ := (isSec_iff s).1 h
  have hl := isSec_len h
  have hf := cutC_fits s
  have S := secL_stands (cutC s)
  rw [h2] at S
  have hb := secL_body h1
  rw [h2] at hb
  have ho := okC_o h1
  rw [cut_o_len] at ho
  refine ⟨hl, ?_, ?_, ho.2.1, fun i h3 h4 => ?_, h1⟩
  · have := secL_last h1
    rw [h2] at this
    rw [this, S.g]
  · have := secL_sum h1
    rw [h2] at this
    rw [this, hb, getN_putL _ 4 (by omega)]
    exact Nat.mod_eq_of_lt (Crc.more_lt _ (by omega))
  · rw [← byteAt_take s 116 i h4, hb]
    unfold bodyL
    have hfl : (fieldsL (cutC s)).length = 29 + 2 * byteAt s 28 := by rw [fieldsL_len, cut_o_len]
    obtain ⟨j, rfl⟩ : ∃ j, i = 29 + 2 * byteAt s 28 + j := ⟨i - (29 + 2 * byteAt s 28), by omega⟩
    rw [byteAt_right _ _ _ _ hfl]
    unfold byteAt
    rw [List.getElem?_replicate]
    split <;> rfl

/-- No checkpoint: all zero. -/
def zeroC : Chk := ⟨0, 0, 0, 0, [], []⟩
/-- What Decode tells. -/
def decC (s : List UInt8) : Chk := if isSec s = true then cutC s else zeroC
def decE (s : List UInt8) : Int := if isSec s = true then 0 else 5
theorem dec_yes {s : List UInt8} (h : isSec s = true) : decC s = cutC s ∧ decE s = 0 := by unfold decC decE; rw [if_pos h, if_pos h]; exact ⟨rfl, rfl⟩
theorem dec_no {s : List UInt8} (h : isSec s = false) : decC s = zeroC ∧ decE s = 5 := by unfold decC decE; rw [if_neg (by rw [h]; decide), if_neg (by rw [h]; decide)]; exact ⟨rfl, rfl⟩

/-- A new sector written over an old one, and torn: no checkpoint, or the whole new one, or one of the old one's number. -/
theorem torn {u : Chk} {s : List UInt8} (hf : Fits u) (hu : okC u = true) (hs : s.length = 128) (k : Nat) (hk : k ≤ 128) (h : isSec ((secL u).take k ++ s.drop k) = true) :
    (secL u).take k ++ s.drop k = secL u ∨ (cutC ((secL u).take k ++ s.drop k)).g = (getN (s.drop 120) : Nat) := by
  have R := sec_reads h
  have hl := secL_len hu
  by_cases hk2 : k ≤ 120
  · right
    show ((getN (((secL u).take k ++ s.drop k).take 8) : Nat) : Int) = _
    rw [← R.ends]
    congr 2
    rw [List.drop_append, List.drop_of_length_le (by rw [List.length_take]; omega), List.nil_append, List.length_take, List.drop_drop]
    congr 1
    omega
  · left
    have e1 : ((secL u).take k ++ s.drop k).take 120 = (secL u).take 120 := by
      rw [List.take_append_of_le_length (by rw [List.length_take]; omega), List.take_take]
      congr 1; omega
    have e2 : ((secL u).take k ++ s.drop k).take 8 = (secL u).take 8 := by
      rw [List.take_append_of_le_length (by rw [List.length_take]; omega), List.take_take]
      congr 1; omega
    have S := secL_stands u
    rw [← List.take_append_drop 120 ((secL u).take k ++ s.drop k), R.ends, e1, e2, S.g, ← secL_last hu, List.take_append_drop]

/-- The best of two. -/
def bestI (s t : List UInt8) : Nat := if (decC t).g > (decC s).g then 1 else 0
def bestC (s t : List UInt8) : Chk := if (decC t).g > (decC s).g then decC t else decC s
def bestE (s t : List UInt8) : Int := if isSec s = false ∧ isSec t = false then 5 else 0

theorem dec_g0 (s : List UInt8) : 0 ≤ (decC s).g ∧ (isSec s = true → 0 < (decC s).g) := by
  have := (cutC_fits s).g0
  cases h : isSec s
  · rw [(dec_no h).1]; exact ⟨by decide, by simp⟩
  · rw [(dec_yes h).1]
    refine ⟨this, fun _ => ?_⟩
    have := ((okC_iff _).1 ((isSec_iff s).1 h).1).1.1
    omega

end Go.Proofs.Ytdnkhjikfdalbaa
