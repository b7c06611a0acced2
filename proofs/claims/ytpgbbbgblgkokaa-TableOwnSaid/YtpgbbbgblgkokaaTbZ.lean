/- The plain side of the law TableRoom: what a call does to the room and to the records. No program is spoken of. -/
import Derived.Test.YtpgbbbgblgkokaaTbM
namespace Go.Proofs.Ytpgbbbgblgkokaa
open Go.RowKit Go.Lib
set_option linter.unusedVariables false

def S : List Int → Int
  | [] => 0
  | x :: r => x + S r
theorem fold_S : ∀ (l : List Int) (a : Int), l.foldl (· + ·) a = a + S l
  | [], a => by simp [S]
  | x :: r, a => by rw [List.foldl_cons, fold_S r]; simp only [S]; omega
theorem used_S (t : Tab) : usedT t = S t.l := by
  unfold usedT sumTo; rw [List.take_length, fold_S]; omega
theorem S_app : ∀ (l m : List Int), S (l ++ m) = S l + S m
  | [], m => by simp [S]
  | x :: r, m => by simp only [List.cons_append, S]; rw [S_app r m]; omega
theorem S_set : ∀ (l : List Int) (i : Nat) (x : Int), i < l.length → S (l.set i x) = S l - nth l i + x
  | [], i, x, h => by simp at h
  | y :: r, 0, x, h => by simp [S, nth]; omega
  | y :: r, i + 1, x, h => by
    have := S_set r i x (by simpa using h)
    simp only [List.set_cons_succ, S]
    rw [this, show nth (y :: r) (i + 1) = nth r i from rfl]
    omega
theorem S_erase : ∀ (l : List Int) (i : Nat), i < l.length → S (l.eraseIdx i) = S l - nth l i
  | [], i, h => by simp at h
  | y :: r, 0, h => by simp [S, nth]; omega
  | y :: r, i + 1, h => by
    have := S_erase r i (by simpa using h)
    simp only [List.eraseIdx_cons_succ, S]
    rw [this, show nth (y :: r) (i + 1) = nth r i from rfl]
    omega
theorem S_le {c : Int} : ∀ (l : List Int), (∀ x ∈ l, 0 ≤ x ∧ x ≤ c) → 0 ≤ S l ∧ S l ≤ c * l.length
  | [], h => by simp [S]
  | x :: r, h => by
    have h1 := S_le r (fun y hy => h y (List.mem_cons_of_mem _ hy))
    have h2 := h x (List.mem_cons_self ..)
    simp only [S, List.length_cons]
    rw [show (((r.length + 1 : Nat)) : Int) = (r.length : Int) + 1 by omega, Int.mul_add]
    omega
theorem nth_set {l : List Int} {i : Nat} {x : Int} (h : i < l.length) : nth (l.set i x) i = x := by
  unfold nth; simp [List.getD, h]
theorem last_app (l : List Int) (x : Int) : lastN (l ++ [x]) = x := by
  unfold lastN; rw [show (l ++ [x]).length - 1 = l.length by simp, nth_last]
theorem last_set (l : List Int) (x : Int) (h : 1 ≤ l.length) : lastN (l.set (l.length - 1) x) = x := by
  unfold lastN; rw [List.length_set, nth_set (by omega)]
theorem last_erase {l : List Int} {i : Nat} (h : i + 1 < l.length) : lastN (l.eraseIdx i) = lastN l := by
  unfold lastN
  rw [List.length_eraseIdx, if_pos (by omega)]
  unfold nth
  simp only [List.getD_eq_getElem?_getD, List.getElem?_eraseIdx]
  rw [if_neg (by omega), show l.length - 1 - 1 + 1 = l.length - 1 by omega]

/-- What the open segment can still have. -/
def openT (t : Tab) : Int := t.st - lastN t.l
structure Bd (t : Tab) : Prop where
  o : 0 ≤ openT t ∧ openT t ≤ 30
  r : 0 ≤ roomT t ∧ roomT t ≤ 480
  u : 0 ≤ usedT t ∧ usedT t ≤ 480
  m : 0 ≤ t.sg * t.st ∧ t.sg * t.st ≤ 480
  s : roomT t + usedT t ≤ t.sg * t.st
  f : ((freeT t).length : Int) + t.o.length = t.sg
  l : 1 ≤ t.o.length ∧ t.o.length ≤ 16
theorem ok_free {t : Tab} (h : okP t) : ((freeT t).length : Int) + t.o.length = t.sg := by
  have := free_len (o := t.o) (n := t.sg.toNat) (fun x hx => by have := h.2.2.2.1 x hx; have := h.1; omega) h.2.2.2.2.1
  have h1 := h.1
  unfold freeT
  omega
theorem ok_bounds {t : Tab} (h : okP t) : Bd t := by
  have hf := ok_free h
  obtain ⟨h1, h2, h3, h4, h5, h6, h7, h8⟩ := h
  have hl := h6 _ (last_mem (l := t.l) (by omega))
  have hs := S_le t.l h6
  have hi := S_le (t.l.take (t.l.length - 1)) (fun x hx => h6 x (List.mem_of_mem_take hx))
  have he : S t.l = S (t.l.take (t.l.length - 1)) + lastN t.l := by
    have := take_nth (l := t.l) (i := t.l.length - 1) (by omega)
    rw [show t.l.length - 1 + 1 = t.l.length by omega, List.take_length] at this
    conv => lhs; rw [this, S_app]
    simp [S, lastN]
  rw [List.length_take, show min (t.l.length - 1) t.l.length = t.o.length - 1 by omega] at hi
  have hc : (((t.o.length - 1 : Nat)) : Int) = (t.o.length : Int) - 1 := by omega
  rw [hc] at hi
  have e1 : t.st * ((t.o.length : Int) - 1) = t.st * (t.o.length : Int) - t.st := by rw [Int.mul_sub]; omega
  have e2 : t.st * (t.sg - (t.o.length : Int)) = t.sg * t.st - t.st * (t.o.length : Int) := by rw [Int.mul_sub, Int.mul_comm t.st t.sg]
  have e3 : t.sg * t.st ≤ 480 := by
    calc t.sg * t.st ≤ 16 * t.st := Int.mul_le_mul_of_nonneg_right h1.2 (by omega)
      _ ≤ 480 := by omega
  have e4 : 0 ≤ t.sg * t.st := Int.mul_nonneg (by omega) (by omega)
  have e5 : 0 ≤ t.st * (t.sg - (t.o.length : Int)) := Int.mul_nonneg (by omega) (by omega)
  have e6 : 0 ≤ t.st * ((t.o.length : Int) - 1) := Int.mul_nonneg (by omega) (by omega)
  refine ⟨?_, ?_, ?_, ⟨e4, e3⟩, ?_, hf, ⟨h3, by omega⟩⟩
  · unfold openT; omega
  · unfold roomT; omega
  · rw [used_S]; omega
  · unfold roomT; rw [used_S]; omega

theorem count_case {t : Tab} (h : okP t) : (countT t = none ∧ openT t = 0) ∨ ∃ u, countT t = some u ∧ okP u ∧ 0 < openT t ∧ roomT u = roomT t - 1 ∧ usedT u = usedT t + 1 := by
  have hb := ok_bounds h
  by_cases hc : lastN t.l = t.st
  · left
    exact ⟨by unfold countT; rw [if_pos hc], by unfold openT; omega⟩
  · right
    have hs : countT t = some (countedT t) := by unfold countT; rw [if_neg hc]
    refine ⟨_, hs, count_ok h hs, ?_, ?_, ?_⟩
    · have := hb.o; unfold openT at *; omega
    · have hl : 1 ≤ t.l.length := by have := h.2.2.1; have := h.2.2.2.2.2.2.1; omega
      simp only [roomT, countedT]
      rw [last_set _ _ hl]
      omega
    · have hl : 1 ≤ t.l.length := by have := h.2.2.1; have := h.2.2.2.2.2.2.1; omega
      rw [used_S, used_S]
      simp only [countedT]
      rw [S_set _ _ _ (by omega)]
      unfold lastN
      omega
theorem roll_case {t : Tab} (first : Int) (h : okP t) : (rollT t first = none ∧ (t.o.length : Int) = t.sg) ∨ ∃ u, rollT t first = some u ∧ okP u ∧ (t.o.length : Int) < t.sg ∧ roomT u = roomT t - openT t ∧ usedT u = usedT t := by
  have hf := ok_free h
  cases hx : freeT t with
  | nil =>
    left
    rw [hx] at hf
    exact ⟨by unfold rollT; rw [hx], by simpa using hf⟩
  | cons s r =>
    right
    have hs : rollT t first = some (openedT t s first) := by unfold rollT; rw [hx]
    rw [hx] at hf
    simp only [List.length_cons] at hf
    refine ⟨_, hs, roll_ok h hs, by omega, ?_, ?_⟩
    · simp only [roomT, openedT, openT, last_app, List.length_append, List.length_singleton]
      rw [show t.sg - (((t.o.length + 1 : Nat)) : Int) = (t.sg - t.o.length) - 1 by omega, Int.mul_sub]
      omega
    · rw [used_S, used_S]
      simp only [openedT, S_app, S]
      omega
theorem drop_case {t : Tab} (x : Int) (h : okP t) : (dropT t x = none) ∨ ∃ u, dropT t x = some u ∧ okP u ∧ roomT u = roomT t + t.st ∧ usedT u = usedT t - lenT t x ∧ lenT u x = 0 := by
  by_cases hc : idx t.o x < 0 ∨ idx t.o x = t.o.length - 1
  · left; unfold dropT; rw [if_pos hc]
  · right
    have hs : dropT t x = some (droppedT t (idx t.o x).toNat) := by unfold dropT; rw [if_neg hc]
    have hi := idx_lt (l := t.o) (x := x)
    have hg := idx_ge (l := t.o) (x := x)
    have h7 := h.2.2.2.2.2.2.1
    obtain ⟨i, ei⟩ : ∃ i : Nat, idx t.o x = i := ⟨(idx t.o x).toNat, by omega⟩
    have hx := idx_get ei
    have hil : i + 1 < t.o.length := by omega
    refine ⟨_, hs, drop_ok h hs, ?_, ?_, ?_⟩
    · simp only [roomT, droppedT, ei, Int.toNat_natCast]
      rw [last_erase (by omega), List.length_eraseIdx, if_pos (by omega), show t.sg - (((t.o.length - 1 : Nat)) : Int) = (t.sg - t.o.length) + 1 by omega, Int.mul_add]
      omega
    · rw [used_S, used_S]
      simp only [droppedT, ei, Int.toNat_natCast, lenT]
      rw [S_erase _ _ (by omega), if_neg (by omega)]
    · simp only [lenT, droppedT, ei, Int.toNat_natCast]
      rw [if_pos]
      rw [idx_neg]
      intro hm
      have hnd := h.2.2.2.2.1
      have := (List.mem_eraseIdx_iff_getElem.1 hm)
      obtain ⟨j, hj, hne, hje⟩ := this
      have e1 := hx.2
      rw [nth_lt hx.1] at e1
      have e2 := hje.trans e1.symm
      rcases Nat.lt_trichotomy j i with h' | h' | h'
      · exact (List.pairwise_iff_getElem.1 hnd) j i hj hx.1 h' e2
      · exact hne h'
      · exact (List.pairwise_iff_getElem.1 hnd) i j hx.1 hj h' e2.symm
end Go.Proofs.Ytpgbbbgblgkokaa
