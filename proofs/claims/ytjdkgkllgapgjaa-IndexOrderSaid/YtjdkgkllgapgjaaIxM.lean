/- The plain side of an index: where records stand, and the newest ones, by rising ids; what each call does. No program is spoken of. -/
import Derived.Test.YtjdkgkllgapgjaaReM
namespace Go.Proofs.Ytjdkgkllgapgjaa.Ix
open Re
set_option linter.unusedVariables false

structure Std where
  i : ByteArray
  s : Int
  p : Int
structure Nw where
  i : ByteArray
  v : Int
  d : Int
  b : Bool
  z : Int
  s : Int
  p : Int
structure Idx where
  S : List Std
  L : List Nw
def Std.key (a : Std) : Key := a.i.toList
def Nw.key (a : Nw) : Key := a.i.toList
def isAt (s p : Int) (a : Std) : Bool := decide (a.s = s) && decide (a.p = p)
def atX (x : Idx) (s p : Int) : Option Std := x.S.find? (isAt s p)
def fndX (x : Idx) (k : Key) : Option Nw := x.L.find? fun a => decide (a.key = k)
/-- By rising ids, at most one of an id. -/
def Up (l : List Nw) : Prop := l.Pairwise fun a b => a.key < b.key
def setL (e : Nw) (l : List Nw) : List Nw := l.filter (fun a => decide (a.key < e.key)) ++ e :: l.filter (fun a => decide (e.key < a.key))
theorem Up.set {l : List Nw} (h : Up l) (e : Nw) : Up (setL e l) := by
  unfold Up setL
  rw [List.pairwise_append]
  refine ⟨h.filter _, List.pairwise_cons.2 ⟨fun a ha => ?_, h.filter _⟩, fun a ha b hb => ?_⟩
  · simpa using (List.mem_filter.1 ha).2
  · have h1 : a.key < e.key := by simpa using (List.mem_filter.1 ha).2
    rcases List.mem_cons.1 hb with rfl | hb
    · exact h1
    · have h2 : e.key < b.key := by simpa using (List.mem_filter.1 hb).2
      exact List.lt_trans h1 h2
theorem mem_set {e a : Nw} {l : List Nw} : a ∈ setL e l ↔ a = e ∨ (a ∈ l ∧ a.key ≠ e.key) := by
  unfold setL
  rw [List.mem_append, List.mem_cons, List.mem_filter, List.mem_filter]
  constructor
  · rintro (⟨h1, h2⟩ | h | ⟨h1, h2⟩)
    · refine .inr ⟨h1, fun e1 => ?_⟩
      rw [e1] at h2
      simp [List.lt_irrefl] at h2
    · exact .inl h
    · refine .inr ⟨h1, fun e1 => ?_⟩
      rw [e1] at h2
      simp [List.lt_irrefl] at h2
  · rintro (h | ⟨h1, h2⟩)
    · exact .inr (.inl h)
    · by_cases h3 : a.key < e.key
      · exact .inl ⟨h1, by simpa using h3⟩
      · exact .inr (.inr ⟨h1, by simpa using key_total h3 h2⟩)
theorem up_one {l : List Nw} (h : Up l) {a b : Nw} (ha : a ∈ l) (hb : b ∈ l) (e : a.key = b.key) : a = b := by
  induction l with
  | nil => cases ha
  | cons c l ih =>
    obtain ⟨h1, h2⟩ := List.pairwise_cons.1 h
    rcases List.mem_cons.1 ha with rfl | ha'
    · rcases List.mem_cons.1 hb with rfl | hb'
      · rfl
      · have := h1 b hb'
        rw [e] at this
        exact absurd this (List.lt_irrefl _)
    · rcases List.mem_cons.1 hb with rfl | hb'
      · have := h1 a ha'
        rw [e] at this
        exact absurd this (List.lt_irrefl _)
      · exact ih h2 ha' hb'
theorem fnd_some {x : Idx} {k : Key} {q : Nw} (h : fndX x k = some q) : q ∈ x.L ∧ q.key = k := by
  unfold fndX at h
  exact ⟨List.mem_of_find?_eq_some h, by simpa using List.find?_some h⟩
theorem fnd_none {x : Idx} {k : Key} : fndX x k = none ↔ ∀ q ∈ x.L, q.key ≠ k := by
  unfold fndX
  rw [List.find?_eq_none]
  simp
theorem fnd_at {x : Idx} (h : Up x.L) {q : Nw} (hq : q ∈ x.L) : fndX x q.key = some q := by
  cases hf : fndX x q.key with
  | none => exact absurd rfl (fnd_none.1 hf q hq)
  | some r =>
    obtain ⟨h1, h2⟩ := fnd_some hf
    rw [up_one h h1 hq h2]
theorem at_some {x : Idx} {s p : Int} {a : Std} (h : atX x s p = some a) : a ∈ x.S ∧ a.s = s ∧ a.p = p := by
  unfold atX at h
  have h2 := List.find?_some h
  simp only [isAt, Bool.and_eq_true, decide_eq_true_iff] at h2
  exact ⟨List.mem_of_find?_eq_some h, h2⟩
theorem at_none {x : Idx} {s p : Int} : atX x s p = none ↔ ∀ a ∈ x.S, ¬ (a.s = s ∧ a.p = p) := by
  unfold atX
  rw [List.find?_eq_none]
  simp [isAt]
/-- The entry of a record. -/
def entOf (r : Rec) (s p : Int) : Nw := ⟨r.i, r.v, r.d, decide (r.k = 1), 31 + r.i.size + r.a.size, s, p⟩
/-- It is not the newest. -/
def older (x : Idx) (r : Rec) : Bool := match fndX x r.key with
  | some q => decide (r.v < q.v)
  | none => false
def mayX (x : Idx) (r : Rec) (s p : Int) : Bool := isL r && (atX x s p).isNone
def addB (x : Idx) (r : Rec) (s p : Int) : Bool := mayX x r s p && !(older x r)
def addX (x : Idx) (r : Rec) (s p : Int) : Idx :=
  if mayX x r s p then ⟨x.S ++ [⟨r.i, s, p⟩], if older x r then x.L else setL (entOf r s p) x.L⟩ else x
def liveX (x : Idx) (k : Key) : Bool := match fndX x k with
  | some q => q.b
  | none => false
def kill1 (q : Nw) : Nw := { q with b := false }
def killX (x : Idx) (k : Key) : Idx := match fndX x k with
  | some q => if q.b then ⟨x.S, setL (kill1 q) x.L⟩ else x
  | none => x
def goneX (x : Idx) (s : Int) : Idx := ⟨x.S.filter fun a => decide (a.s ≠ s), x.L.filter fun a => decide (a.s ≠ s)⟩
def goneN (x : Idx) (s : Int) : Nat := x.S.length - (goneX x s).S.length
def othX (x : Idx) (k : Key) (s : Int) : Nat := x.S.countP fun a => decide (a.key = k) && decide (a.s ≠ s)
def idsX (x : Idx) : List ByteArray := (x.L.filter Nw.b).map Nw.i
def inN (x : Idx) (s : Int) : Nat := x.L.countP fun a => decide (a.s = s)
def inL (x : Idx) (s : Int) : Nat := x.L.countP fun a => decide (a.s = s) && a.b
def inZ (x : Idx) (s : Int) : Int := ((x.L.filter fun a => decide (a.s = s) && a.b).map Nw.z).sum
/-- Records as the statements add them. -/
structure RF (r : Rec) : Prop where
  v : 0 ≤ r.v ∧ r.v < 18446744073709551616
  d : 0 ≤ r.d ∧ r.d < 18446744073709551616
  i : r.i.size ≤ 80
  a : r.a.size ≤ 80
/-- An index as the statements' calls leave one. -/
structure Good (x : Idx) : Prop where
  u : x.S.Pairwise fun a b => ¬ (a.s = b.s ∧ a.p = b.p)
  o : Up x.L
  st : ∀ a ∈ x.L, ∃ c ∈ x.S, c.i = a.i ∧ c.s = a.s ∧ c.p = a.p
  v : ∀ a ∈ x.L, 0 ≤ a.v ∧ a.v < 18446744073709551616
  d : ∀ a ∈ x.L, 0 ≤ a.d ∧ a.d < 18446744073709551616
  z : ∀ a ∈ x.L, 31 ≤ a.z ∧ a.z ≤ 191
  i : ∀ a ∈ x.S, a.i.size ≤ 80
  n : x.S.length ≤ 200
theorem Good.nil : Good ⟨[], []⟩ := ⟨List.Pairwise.nil, List.Pairwise.nil, (fun a h => by cases h), (fun a h => by cases h), (fun a h => by cases h), (fun a h => by cases h), (fun a h => by cases h), by simp⟩
theorem Good.add {x : Idx} (h : Good x) {r : Rec} (hr : RF r) (s p : Int) (hn : x.S.length < 200) : Good (addX x r s p) := by
  unfold addX
  by_cases hm : mayX x r s p = true
  · rw [if_pos hm]
    have hat : ∀ a ∈ x.S, ¬ (a.s = s ∧ a.p = p) := by
      simp only [mayX, Bool.and_eq_true, Option.isNone_iff_eq_none] at hm
      exact at_none.1 hm.2
    have hL : ∀ a ∈ (if older x r then x.L else setL (entOf r s p) x.L), a = entOf r s p ∨ a ∈ x.L := fun a ha => by
      split at ha
      · exact .inr ha
      · rcases mem_set.1 ha with h1 | h1
        · exact .inl h1
        · exact .inr h1.1
    refine ⟨?_, ?_, fun a ha => ?_, fun a ha => ?_, fun a ha => ?_, fun a ha => ?_, fun a ha => ?_, by show (x.S ++ [_]).length ≤ 200; rw [List.length_append, List.length_singleton]; omega⟩
    · rw [List.pairwise_append]
      refine ⟨h.u, List.pairwise_singleton .., fun a ha b hb => ?_⟩
      simp only [List.mem_singleton] at hb
      subst hb
      exact hat a ha
    · show Up (if older x r then x.L else setL (entOf r s p) x.L)
      split
      · exact h.o
      · exact h.o.set _
    · rcases hL a ha with rfl | h1
      · exact ⟨⟨r.i, s, p⟩, by simp, rfl, rfl, rfl⟩
      · obtain ⟨c, hc, h2⟩ := h.st a h1
        exact ⟨c, List.mem_append_left _ hc, h2⟩
    · rcases hL a ha with rfl | h1
      · exact hr.v
      · exact h.v a h1
    · rcases hL a ha with rfl | h1
      · exact hr.d
      · exact h.d a h1
    · rcases hL a ha with rfl | h1
      · have h2 := hr.i
        have h3 := hr.a
        show 31 ≤ (31 : Int) + (r.i.size : Nat) + (r.a.size : Nat) ∧ (31 : Int) + (r.i.size : Nat) + (r.a.size : Nat) ≤ 191
        omega
      · exact h.z a h1
    · rcases List.mem_append.1 ha with h1 | h1
      · exact h.i a h1
      · simp only [List.mem_singleton] at h1
        subst h1
        exact hr.i
  · rw [if_neg hm]
    exact h
theorem Good.kill {x : Idx} (h : Good x) (k : Key) : Good (killX x k) := by
  unfold killX
  cases hf : fndX x k with
  | none => exact h
  | some q =>
    obtain ⟨h1, h2⟩ := fnd_some hf
    simp only
    split
    · have hL : ∀ a ∈ setL (kill1 q) x.L, a = kill1 q ∨ a ∈ x.L := fun a ha => by
        rcases mem_set.1 ha with h1 | h1
        · exact .inl h1
        · exact .inr h1.1
      refine ⟨h.u, h.o.set _, fun a ha => ?_, fun a ha => ?_, fun a ha => ?_, fun a ha => ?_, h.i, h.n⟩
      · rcases hL a ha with rfl | h3
        · exact h.st q h1
        · exact h.st a h3
      · rcases hL a ha with rfl | h3
        · exact h.v q h1
        · exact h.v a h3
      · rcases hL a ha with rfl | h3
        · exact h.d q h1
        · exact h.d a h3
      · rcases hL a ha with rfl | h3
        · exact h.z q h1
        · exact h.z a h3
    · exact h
theorem Good.gone {x : Idx} (h : Good x) (s : Int) : Good (goneX x s) := by
  refine ⟨h.u.filter _, List.Pairwise.filter _ h.o, fun a ha => ?_, fun a ha => h.v a (List.mem_filter.1 ha).1, fun a ha => h.d a (List.mem_filter.1 ha).1, fun a ha => h.z a (List.mem_filter.1 ha).1, fun a ha => h.i a (List.mem_filter.1 ha).1, Nat.le_trans (List.length_filter_le _ _) h.n⟩
  obtain ⟨h1, h2⟩ := List.mem_filter.1 ha
  obtain ⟨c, hc, e1, e2, e3⟩ := h.st a h1
  refine ⟨c, List.mem_filter.2 ⟨hc, ?_⟩, e1, e2, e3⟩
  rw [e2]
  exact h2
end Go.Proofs.Ytjdkgkllgapgjaa.Ix
