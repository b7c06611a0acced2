/- The plain side of package table: a table, whether it may be, what is free, its room, its records, and each call; what follows of them. No program is spoken of. -/
import Derived.WalkKit
import Derived.Lib.Hide
namespace Go.Proofs.Ytpgbbbgblgkokaa
open Go.RowKit Go.Lib
set_option linter.unusedVariables false

/-- A table: Segs, Slots, Order, Lens, Firsts. -/
structure Tab where
  sg : Int
  st : Int
  o : List Int
  l : List Int
  f : List Int
deriving DecidableEq

def nth (l : List Int) (i : Nat) : Int := l.getD i 0
theorem nth_lt {l : List Int} {i : Nat} (h : i < l.length) : nth l i = l[i] := by
  unfold nth; rw [List.getD_eq_getElem?_getD, List.getElem?_eq_getElem h]; rfl
theorem nth_mem {l : List Int} {i : Nat} (h : i < l.length) : nth l i ∈ l := by
  rw [nth_lt h]; exact List.getElem_mem h
theorem take_nth {l : List Int} {i : Nat} (h : i < l.length) : l.take (i + 1) = l.take i ++ [nth l i] := by
  rw [List.take_succ_eq_append_getElem h, nth_lt h]
theorem nth_take {l : List Int} {i j : Nat} (h : j < i) : nth (l.take i) j = nth l j := by
  unfold nth; rw [List.getD_eq_getElem?_getD, List.getD_eq_getElem?_getD, List.getElem?_take_of_lt h]
theorem nth_app {l m : List Int} {i : Nat} (h : i < l.length) : nth (l ++ m) i = nth l i := by
  unfold nth; rw [List.getD_eq_getElem?_getD, List.getD_eq_getElem?_getD, List.getElem?_append_left h]
theorem nth_last (l : List Int) (x : Int) : nth (l ++ [x]) l.length = x := by
  unfold nth; simp

/-- The place of x; -1: it is not there. -/
def idx (l : List Int) (x : Int) : Int := if x ∈ l then (l.idxOf x : Nat) else -1
theorem idx_no {l : List Int} {x : Int} (h : x ∉ l) : idx l x = -1 := if_neg h
theorem idx_yes {l : List Int} {x : Int} (h : x ∈ l) : idx l x = (l.idxOf x : Nat) := if_pos h
theorem idx_lt {l : List Int} {x : Int} : idx l x < l.length := by
  unfold idx; split
  · have := List.idxOf_lt_length_of_mem (by assumption); omega
  · omega
theorem idx_ge {l : List Int} {x : Int} : -1 ≤ idx l x := by unfold idx; split <;> omega
theorem idx_neg {l : List Int} {x : Int} : idx l x < 0 ↔ x ∉ l := by
  unfold idx; split
  · constructor
    · intro h; omega
    · intro h; exact absurd (by assumption) h
  · constructor
    · intro _; assumption
    · intro _; omega
theorem idxOf_at : ∀ {l : List Int} {x : Int} {i : Nat}, i < l.length → nth l i = x → x ∉ l.take i → l.idxOf x = i
  | [], _, _, h, _, _ => by simp at h
  | a :: l, x, 0, _, h, _ => by
    obtain rfl : a = x := by simpa [nth] using h
    simp
  | a :: l, x, i + 1, hi, h, hn => by
    simp only [List.take_succ_cons, List.mem_cons, not_or] at hn
    have e := idxOf_at (l := l) (i := i) (by simpa using hi) (by simpa [nth] using h) hn.2
    have e2 : (a == x) = false := by simpa using fun e => hn.1 e.symm
    rw [List.idxOf_cons, e, e2, cond_false]
theorem idx_at {l : List Int} {x : Int} {i : Nat} (hi : i < l.length) (h : nth l i = x) (hn : x ∉ l.take i) : idx l x = i := by
  rw [idx_yes (h ▸ nth_mem hi), idxOf_at hi h hn]
theorem idx_get {l : List Int} {x : Int} {i : Nat} (h : idx l x = i) : i < l.length ∧ nth l i = x := by
  have hm : x ∈ l := by
    refine Decidable.byContradiction fun hn => ?_
    rw [idx_no hn] at h; omega
  rw [idx_yes hm] at h
  have hi : l.idxOf x = i := by omega
  have hl := List.idxOf_lt_length_of_mem hm
  subst hi
  exact ⟨hl, by rw [nth_lt hl]; exact List.getElem_idxOf hl⟩

/-- May it be? -/
def okP (t : Tab) : Prop := (4 ≤ t.sg ∧ t.sg ≤ 16) ∧ (1 ≤ t.st ∧ t.st ≤ 30) ∧ 1 ≤ t.o.length ∧ (∀ x ∈ t.o, 0 ≤ x ∧ x < t.sg) ∧ t.o.Nodup ∧ (∀ x ∈ t.l, 0 ≤ x ∧ x ≤ t.st) ∧ t.l.length = t.o.length ∧ t.f.length = t.o.length
instance (t : Tab) : Decidable (okP t) := by unfold okP; infer_instance
def okT (t : Tab) : Bool := decide (okP t)
theorem okT_iff (t : Tab) : okT t = true ↔ okP t := by unfold okT; rw [decide_eq_true_iff]
theorem okT_no {t : Tab} (h : ¬ okP t) : okT t = false := by unfold okT; rw [decide_eq_false_iff_not]; exact h

/-- What is free. -/
def upto (n : Nat) : List Int := (List.range n).map fun i : Nat => (i : Int)
theorem upto_succ (n : Nat) : upto (n + 1) = upto n ++ [(n : Int)] := by simp [upto, List.range_succ]
theorem mem_upto {n : Nat} {x : Int} : x ∈ upto n ↔ 0 ≤ x ∧ x < n := by
  simp only [upto, List.mem_map, List.mem_range]
  constructor
  · rintro ⟨i, hi, rfl⟩; omega
  · rintro ⟨h1, h2⟩; exact ⟨x.toNat, by omega, by omega⟩
def freeTo (o : List Int) (n : Nat) : List Int := (upto n).filter fun x => decide (x ∉ o)
theorem freeTo_zero (o : List Int) : freeTo o 0 = [] := by simp [freeTo, upto]
theorem freeTo_yes {o : List Int} {n : Nat} (h : (n : Int) ∉ o) : freeTo o (n + 1) = freeTo o n ++ [(n : Int)] := by
  simp [freeTo, upto_succ, List.filter_append, h]
theorem freeTo_no {o : List Int} {n : Nat} (h : (n : Int) ∈ o) : freeTo o (n + 1) = freeTo o n := by
  simp [freeTo, upto_succ, List.filter_append, h]
theorem freeTo_len (o : List Int) : ∀ n, (freeTo o n).length ≤ n
  | 0 => by simp [freeTo_zero]
  | n + 1 => by
    have := freeTo_len o n
    by_cases h : (n : Int) ∈ o
    · rw [freeTo_no h]; omega
    · rw [freeTo_yes h, List.length_append]; simp; omega
def freeT (t : Tab) : List Int := freeTo t.o t.sg.toNat
theorem mem_freeTo {o : List Int} {n : Nat} {x : Int} : x ∈ freeTo o n ↔ (0 ≤ x ∧ x < n) ∧ x ∉ o := by
  simp [freeTo, mem_upto]
theorem upto_nodup : ∀ n, (upto n).Nodup
  | 0 => by simp [upto]
  | n + 1 => by
    rw [upto_succ, List.nodup_append]
    refine ⟨upto_nodup n, by simp, ?_⟩
    intro a ha b hb e
    simp at hb
    subst hb
    rw [mem_upto] at ha
    omega
theorem split_len (p : Int → Bool) : ∀ l : List Int, (l.filter p).length + (l.filter fun x => !p x).length = l.length
  | [] => rfl
  | a :: l => by
    have := split_len p l
    cases h : p a <;> simp [h] <;> omega
/-- Of so many segments those in use and the free ones are all. -/
theorem free_len {o : List Int} {n : Nat} (hr : ∀ x ∈ o, 0 ≤ x ∧ x < (n : Int)) (hd : o.Nodup) : (freeTo o n).length + o.length = n := by
  have h1 : ((upto n).filter fun x => decide (x ∈ o)).length = o.length := by
    apply List.Perm.length_eq
    rw [List.perm_ext_iff_of_nodup ((upto_nodup n).filter _) hd]
    intro x
    rw [List.mem_filter, mem_upto, decide_eq_true_iff]
    exact ⟨fun h => h.2, fun h => ⟨hr x h, h⟩⟩
  have h2 : (upto n).length = n := by simp [upto]
  have h3 := split_len (fun x => decide (x ∈ o)) (upto n)
  have h4 : (freeTo o n) = (upto n).filter fun x => !decide (x ∈ o) := by
    unfold freeTo; congr 1; funext x; simp
  rw [h4]; omega

def lastN (l : List Int) : Int := nth l (l.length - 1)
def roomT (t : Tab) : Int := t.st - lastN t.l + t.st * (t.sg - t.o.length)
def sumTo (l : List Int) (i : Nat) : Int := (l.take i).foldl (· + ·) 0
theorem sumTo_zero (l : List Int) : sumTo l 0 = 0 := rfl
theorem sumTo_succ {l : List Int} {i : Nat} (h : i < l.length) : sumTo l (i + 1) = sumTo l i + nth l i := by
  unfold sumTo; rw [take_nth h, List.foldl_append]; rfl
def usedT (t : Tab) : Int := sumTo t.l t.l.length
def lenT (t : Tab) (x : Int) : Int := if idx t.o x < 0 then 0 else nth t.l (idx t.o x).toNat

/-- One segment more; one record more; one segment less: none: it can't be done. -/
def openedT (t : Tab) (s first : Int) : Tab := ⟨t.sg, t.st, t.o ++ [s], t.l ++ [0], t.f ++ [first]⟩
def rollT (t : Tab) (first : Int) : Option Tab := match freeT t with
  | [] => none
  | s :: _ => some (openedT t s first)
def countedT (t : Tab) : Tab := ⟨t.sg, t.st, t.o, t.l.set (t.l.length - 1) (lastN t.l + 1), t.f⟩
def countT (t : Tab) : Option Tab := if lastN t.l = t.st then none else some (countedT t)
def droppedT (t : Tab) (i : Nat) : Tab := ⟨t.sg, t.st, t.o.eraseIdx i, t.l.eraseIdx i, t.f.eraseIdx i⟩
def dropT (t : Tab) (x : Int) : Option Tab := if idx t.o x < 0 ∨ idx t.o x = t.o.length - 1 then none else some (droppedT t (idx t.o x).toNat)
def zeroT : Tab := ⟨0, 0, [], [], []⟩
def newT (sg st first : Int) : Tab := ⟨sg, st, [0], [0], [first]⟩
def sizeB (sg st : Int) : Bool := decide ((4 ≤ sg ∧ sg ≤ 16) ∧ 1 ≤ st ∧ st ≤ 30)

theorem last_mem {l : List Int} (h : 1 ≤ l.length) : lastN l ∈ l := nth_mem (by omega)
theorem new_ok {sg st first : Int} (h : sizeB sg st = true) : okP (newT sg st first) := by
  unfold sizeB at h
  rw [decide_eq_true_iff] at h
  refine ⟨h.1, h.2, by simp [newT], ?_, by simp [newT], ?_, by simp [newT], by simp [newT]⟩
  · intro x hx; simp [newT] at hx ⊢; omega
  · intro x hx; simp [newT] at hx ⊢; omega
theorem free_in {t : Tab} {s : Int} (h : s ∈ freeT t) (h0 : 0 ≤ t.sg) : 0 ≤ s ∧ s < t.sg ∧ s ∉ t.o := by
  unfold freeT at h
  rw [mem_freeTo] at h
  exact ⟨h.1.1, by omega, h.2⟩
theorem opened_ok {t : Tab} {s first : Int} (h : okP t) (hs : s ∈ freeT t) : okP (openedT t s first) := by
  obtain ⟨h1, h2, h3, h4, h5, h6, h7, h8⟩ := h
  have hf := free_in hs (by omega)
  refine ⟨h1, h2, by simp [openedT], ?_, ?_, ?_, by simp [openedT, h7], by simp [openedT, h8]⟩
  · intro x hx
    simp [openedT] at hx ⊢
    rcases hx with hx | rfl
    · exact h4 x hx
    · omega
  · simp only [openedT]
    rw [List.nodup_append]
    exact ⟨h5, by simp, fun a ha b hb e => by simp at hb; subst hb; subst e; exact hf.2.2 ha⟩
  · intro x hx
    simp [openedT] at hx ⊢
    rcases hx with hx | rfl
    · exact h6 x hx
    · omega
theorem roll_ok {t u : Tab} {first : Int} (h : okP t) (hu : rollT t first = some u) : okP u := by
  unfold rollT at hu
  split at hu
  · cases hu
  · rename_i s r hs
    injection hu with hu
    subst hu
    exact opened_ok h (by rw [hs]; simp)
theorem count_ok {t u : Tab} (h : okP t) (hu : countT t = some u) : okP u := by
  unfold countT at hu
  split at hu
  · cases hu
  · rename_i hn
    injection hu with hu
    subst hu
    obtain ⟨h1, h2, h3, h4, h5, h6, h7, h8⟩ := h
    have hl := h6 _ (last_mem (l := t.l) (by omega))
    refine ⟨h1, h2, h3, h4, h5, ?_, by simp [countedT, h7], h8⟩
    intro x hx
    simp only [countedT] at hx ⊢
    rcases List.mem_or_eq_of_mem_set hx with hx | rfl
    · exact h6 x hx
    · omega
theorem drop_ok {t u : Tab} {x : Int} (h : okP t) (hu : dropT t x = some u) : okP u := by
  unfold dropT at hu
  split at hu
  · cases hu
  · rename_i hn
    injection hu with hu
    subst hu
    obtain ⟨h1, h2, h3, h4, h5, h6, h7, h8⟩ := h
    have hi := idx_lt (l := t.o) (x := x)
    have hg := idx_ge (l := t.o) (x := x)
    refine ⟨h1, h2, ?_, ?_, ?_, ?_, ?_, ?_⟩
    · simp only [droppedT]; rw [List.length_eraseIdx, if_pos (by omega)]; omega
    · intro y hy; exact h4 y (List.mem_of_mem_eraseIdx hy)
    · exact h5.sublist (List.eraseIdx_sublist _ _)
    · intro y hy; exact h6 y (List.mem_of_mem_eraseIdx hy)
    · simp only [droppedT]; rw [List.length_eraseIdx, List.length_eraseIdx, h7]
    · simp only [droppedT]; rw [List.length_eraseIdx, List.length_eraseIdx, h8]

/-- Where a record stands. -/
def sectorT (slots seg slot : Int) : Int := if 1 ≤ slots ∧ slots ≤ 30 ∧ 0 ≤ seg ∧ seg ≤ 15 ∧ 0 ≤ slot ∧ slot ≤ slots then 2 + seg * (slots + 1) + slot else -1

/-- What a call tells: the table, and what is wrong. -/
def tabOf (r : Option Tab) : Tab := r.getD zeroT
def errOf (r : Option Tab) (e : Int) : Int := match r with
  | none => e
  | some _ => 0
end Go.Proofs.Ytpgbbbgblgkokaa
