/- The plain side of a wheel: timers in order, at most one of an id; what is set, cancelled and told; places by digits. No program is spoken of. -/
import Derived.WalkKit
import Derived.Lib.Strings
namespace Go.Proofs.Ytogfpakopckfoaa.Wl
set_option linter.unusedVariables false

structure Tm where
  i : ByteArray
  d : Int
abbrev Key := List UInt8
def Tm.key (t : Tm) : Key := t.i.toList
/-- A timer comes ahead of another one. -/
def ahd (a b : Tm) : Bool := decide (a.d < b.d) || (decide (a.d = b.d) && decide (a.key < b.key))
theorem ahd_iff {a b : Tm} : ahd a b = true ↔ a.d < b.d ∨ (a.d = b.d ∧ a.key < b.key) := by simp [ahd]
theorem ahd_trans {a b c : Tm} (h : ahd a b = true) (k : ahd b c = true) : ahd a c = true := by
  rw [ahd_iff] at *
  rcases h with h | ⟨h, h'⟩ <;> rcases k with k | ⟨k, k'⟩
  · exact .inl (by omega)
  · exact .inl (by omega)
  · exact .inl (by omega)
  · exact .inr ⟨by omega, List.lt_trans h' k'⟩
theorem ahd_total {a b : Tm} (h : ahd a b = false) (hk : a.key ≠ b.key) : ahd b a = true := by
  rw [ahd_iff]
  have h1 : ¬ (a.d < b.d ∨ (a.d = b.d ∧ a.key < b.key)) := fun x => by rw [ahd_iff.2 x] at h; cases h
  by_cases e : a.d = b.d
  · refine .inr ⟨e.symm, ?_⟩
    have h2 : ¬ a.key < b.key := fun x => h1 (.inr ⟨e, x⟩)
    rcases List.le_iff_lt_or_eq.1 (List.not_lt.1 h2) with h3 | h3
    · exact h3
    · exact absurd h3.symm hk
  · exact .inl (by
      have h2 : ¬ a.d < b.d := fun x => h1 (.inl x)
      omega)
theorem ahd_le {a b : Tm} (h : ahd a b = true) : a.d ≤ b.d := by
  rw [ahd_iff] at h
  rcases h with h | h <;> omega
structure Wh where
  t : Int
  l : List Tm
structure Ok (l : List Tm) : Prop where
  s : l.Pairwise (fun a b => ahd a b = true)
  u : l.Pairwise (fun a b => a.key ≠ b.key)
theorem Ok.nil : Ok [] := ⟨List.Pairwise.nil, List.Pairwise.nil⟩
theorem Ok.filter {l : List Tm} (h : Ok l) (p : Tm → Bool) : Ok (l.filter p) := ⟨h.s.filter p, h.u.filter p⟩
def rem (l : List Tm) (x : Key) : List Tm := l.filter fun t => decide (t.key ≠ x)
def find (l : List Tm) (x : Key) : Option Tm := l.find? fun t => decide (t.key = x)
def ins (t : Tm) (l : List Tm) : List Tm := l.takeWhile (fun a => ahd a t) ++ t :: l.dropWhile (fun a => ahd a t)
theorem mem_rem {l : List Tm} {x : Key} {t : Tm} : t ∈ rem l x ↔ t ∈ l ∧ t.key ≠ x := by simp [rem]
theorem mem_ins {l : List Tm} {t a : Tm} : a ∈ ins t l ↔ a = t ∨ a ∈ l := by
  unfold ins
  rw [List.mem_append, List.mem_cons]
  constructor
  · rintro (h | h | h)
    · exact .inr ((List.takeWhile_sublist _).subset h)
    · exact .inl h
    · exact .inr ((List.dropWhile_sublist _).subset h)
  · rintro (h | h)
    · exact .inr (.inl h)
    · rw [← List.takeWhile_append_dropWhile (p := fun a => ahd a t) (l := l), List.mem_append] at h
      rcases h with h | h
      · exact .inl h
      · exact .inr (.inr h)
theorem ins_len (t : Tm) (l : List Tm) : (ins t l).length = l.length + 1 := by
  unfold ins
  have := congrArg List.length (List.takeWhile_append_dropWhile (p := fun a => ahd a t) (l := l))
  rw [List.length_append] at this ⊢
  rw [List.length_cons]
  omega
theorem take_all {p : Tm → Bool} : ∀ {l : List Tm}, ∀ a ∈ l.takeWhile p, p a = true
  | [], a, h => by cases h
  | b :: l, a, h => by
    rw [List.takeWhile_cons] at h
    split at h
    · rename_i hb
      rcases List.mem_cons.1 h with rfl | h
      · exact hb
      · exact take_all a h
    · cases h
/-- In order, what does not come ahead of t comes behind it. -/
theorem drop_all {t : Tm} : ∀ {l : List Tm}, Ok l → (∀ a ∈ l, a.key ≠ t.key) → ∀ a ∈ l.dropWhile (fun a => ahd a t), ahd t a = true
  | [], _, _, a, h => by cases h
  | b :: l, hl, hk, a, h => by
    rw [List.dropWhile_cons] at h
    obtain ⟨s1, s2⟩ := List.pairwise_cons.1 hl.s
    obtain ⟨u1, u2⟩ := List.pairwise_cons.1 hl.u
    split at h
    · exact drop_all ⟨s2, u2⟩ (fun a ha => hk a (List.mem_cons_of_mem _ ha)) a h
    · rename_i hb
      have h0 : ahd t b = true := ahd_total (by simpa using hb) (hk b (List.mem_cons_self ..))
      rcases List.mem_cons.1 h with rfl | h
      · exact h0
      · exact ahd_trans h0 (s1 a h)
theorem Ok.ins {l : List Tm} (h : Ok l) {t : Tm} (hk : ∀ a ∈ l, a.key ≠ t.key) : Ok (ins t l) := by
  have hs := List.takeWhile_append_dropWhile (p := fun a => ahd a t) (l := l)
  obtain ⟨s1, s2, s3⟩ := List.pairwise_append.1 (hs ▸ h.s)
  obtain ⟨u1, u2, u3⟩ := List.pairwise_append.1 (hs ▸ h.u)
  have hin : ∀ a ∈ l.takeWhile (fun a => ahd a t), a ∈ l := fun a ha => (List.takeWhile_sublist _).subset ha
  have hin2 : ∀ a ∈ l.dropWhile (fun a => ahd a t), a ∈ l := fun a ha => (List.dropWhile_sublist _).subset ha
  refine ⟨List.pairwise_append.2 ⟨s1, List.pairwise_cons.2 ⟨fun a ha => drop_all h hk a ha, s2⟩, fun a ha b hb => ?_⟩, List.pairwise_append.2 ⟨u1, List.pairwise_cons.2 ⟨fun a ha => (hk a (hin2 a ha)).symm, u2⟩, fun a ha b hb => ?_⟩⟩
  · rcases List.mem_cons.1 hb with rfl | hb
    · exact take_all (p := fun a => ahd a b) a ha
    · exact s3 a ha b hb
  · rcases List.mem_cons.1 hb with rfl | hb
    · exact hk a (hin a ha)
    · exact u3 a ha b hb
theorem Ok.set {l : List Tm} (h : Ok l) (t : Tm) : Ok (Wl.ins t (rem l t.key)) := (h.filter _).ins fun a ha => (mem_rem.1 ha).2
/-- What is told up to a time; what is left. -/
def dueL (l : List Tm) (t : Int) : List Tm := l.filter fun a => decide (a.d ≤ t)
def rest (l : List Tm) (t : Int) : List Tm := l.filter fun a => decide (t < a.d)
theorem due_rest {l : List Tm} (h : Ok l) (t : Int) : l.takeWhile (fun a => decide (a.d ≤ t)) = dueL l t ∧ l.dropWhile (fun a => decide (a.d ≤ t)) = rest l t := by
  induction l with
  | nil => exact ⟨rfl, rfl⟩
  | cons b l ih =>
    obtain ⟨s1, s2⟩ := List.pairwise_cons.1 h.s
    obtain ⟨u1, u2⟩ := List.pairwise_cons.1 h.u
    obtain ⟨i1, i2⟩ := ih ⟨s2, u2⟩
    unfold dueL rest at *
    by_cases hb : b.d ≤ t
    · have hb2 : ¬ t < b.d := by omega
      simp [hb, hb2, i1, i2]
    · have hb2 : t < b.d := by omega
      have n1 : l.filter (fun a => decide (a.d ≤ t)) = [] := List.filter_eq_nil_iff.2 fun a ha => by
        have := ahd_le (s1 a ha)
        simp; omega
      have n2 : l.filter (fun a => decide (t < a.d)) = l := List.filter_eq_self.2 fun a ha => by
        have := ahd_le (s1 a ha)
        simp; omega
      simp [hb, hb2, n1, n2]
theorem due_join {l : List Tm} (h : Ok l) (t : Int) : dueL l t ++ rest l t = l := by
  obtain ⟨h1, h2⟩ := due_rest h t
  rw [← h1, ← h2, List.takeWhile_append_dropWhile]
/-- What follows: a list of two parts, the first one up to t, the other one above it. -/
theorem due_parts {a b : List Tm} {t : Int} (ha : ∀ x ∈ a, x.d ≤ t) (hb : ∀ x ∈ b, t < x.d) : dueL (a ++ b) t = a ∧ rest (a ++ b) t = b := by
  unfold dueL rest
  rw [List.filter_append, List.filter_append]
  have e1 : a.filter (fun x => decide (x.d ≤ t)) = a := List.filter_eq_self.2 fun x hx => decide_eq_true (ha x hx)
  have e2 : b.filter (fun x => decide (x.d ≤ t)) = [] := List.filter_eq_nil_iff.2 fun x hx => by have := hb x hx; simp; omega
  have e3 : a.filter (fun x => decide (t < x.d)) = [] := List.filter_eq_nil_iff.2 fun x hx => by have := ha x hx; simp; omega
  have e4 : b.filter (fun x => decide (t < x.d)) = b := List.filter_eq_self.2 fun x hx => decide_eq_true (hb x hx)
  rw [e1, e2, e3, e4, List.append_nil, List.nil_append]
  exact ⟨rfl, rfl⟩
theorem due_mem {l : List Tm} {t : Int} {a : Tm} : a ∈ dueL l t ↔ a ∈ l ∧ a.d ≤ t := by simp [dueL]
theorem rest_mem {l : List Tm} {t : Int} {a : Tm} : a ∈ rest l t ↔ a ∈ l ∧ t < a.d := by simp [rest]

/-! ### What each call does -/
def setW (s : Wh) (i : ByteArray) (d : Int) : Wh := ⟨s.t, ins ⟨i, d⟩ (rem s.l i.toList)⟩
def canW (s : Wh) (i : ByteArray) : Wh := ⟨s.t, rem s.l i.toList⟩
def advW (s : Wh) (n : Int) : Wh := ⟨max s.t n, rest s.l (max s.t n)⟩
theorem Ok.setW {s : Wh} (h : Ok s.l) (i : ByteArray) (d : Int) : Ok (setW s i d).l := h.set ⟨i, d⟩
theorem Ok.canW {s : Wh} (h : Ok s.l) (i : ByteArray) : Ok (canW s i).l := h.filter _
theorem Ok.advW {s : Wh} (h : Ok s.l) (n : Int) : Ok (advW s n).l := h.filter _
theorem find_some {l : List Tm} {x : Key} {t : Tm} (h : find l x = some t) : t ∈ l ∧ t.key = x := by
  unfold find at h
  exact ⟨List.mem_of_find?_eq_some h, by simpa using List.find?_some h⟩
theorem find_none {l : List Tm} {x : Key} : find l x = none ↔ ∀ t ∈ l, t.key ≠ x := by
  unfold find
  rw [List.find?_eq_none]
  simp
/-- Behind the first one with the id no other has it: without it is without the id. -/
theorem rem_at {l : List Tm} (h : Ok l) {k : Nat} {t : Tm} (hk : l[k]? = some t) : rem l t.key = l.take k ++ l.drop (k + 1) := by
  have hlt := (List.getElem?_eq_some_iff.1 hk).1
  have hs : l = l.take k ++ t :: l.drop (k + 1) := by
    have h1 : l[k] = t := (List.getElem?_eq_some_iff.1 hk).2
    rw [← h1, List.getElem_cons_drop, List.take_append_drop]
  have hu := h.u
  rw [hs] at hu
  obtain ⟨_, u2, u3⟩ := List.pairwise_append.1 hu
  obtain ⟨u4, _⟩ := List.pairwise_cons.1 u2
  have e : rem l t.key = rem (l.take k ++ t :: l.drop (k + 1)) t.key := by rw [← hs]
  rw [e]
  unfold rem
  rw [List.filter_append, List.filter_cons, if_neg (by simp)]
  rw [List.filter_eq_self.2 fun a ha => by
      have := u3 a ha t (List.mem_cons_self ..)
      simpa using this]
  rw [List.filter_eq_self.2 fun a ha => by
      have := u4 a ha
      simpa using this.symm]
theorem rem_none {l : List Tm} {x : Key} (h : find l x = none) : rem l x = l := List.filter_eq_self.2 fun a ha => by
  have := find_none.1 h a ha
  simpa using this
theorem find_at {l : List Tm} (h : Ok l) {k : Nat} {t : Tm} (hk : l[k]? = some t) : find l t.key = some t := by
  cases hf : find l t.key with
  | none => exact absurd rfl (find_none.1 hf t (List.mem_of_getElem? hk))
  | some q =>
    obtain ⟨h1, h2⟩ := find_some hf
    obtain ⟨j, hj⟩ := List.mem_iff_getElem?.1 h1
    by_cases e : j = k
    · subst e
      rw [hk] at hj
      exact hj.symm
    · have hp := List.pairwise_iff_getElem.1 h.u
      have a1 := List.getElem?_eq_some_iff.1 hj
      have a2 := List.getElem?_eq_some_iff.1 hk
      rcases Nat.lt_or_gt_of_ne e with hlt | hlt
      · have := hp j k a1.1 a2.1 hlt
        rw [a1.2, a2.2] at this
        exact absurd h2 this
      · have := hp k j a2.1 a1.1 hlt
        rw [a1.2, a2.2] at this
        exact absurd h2.symm this

/-! ### Places -/
/-- The highest digit in which both are unlike, of the first n ones; that digit of the second one. -/
def plR (a b : Nat) : Nat → Nat × Nat
  | 0 => (0, 0)
  | n + 1 => if a / 16 ^ n % 16 ≠ b / 16 ^ n % 16 then (n, b / 16 ^ n % 16) else plR a b n
def place (a b : Nat) : Nat × Nat :=
  if b ≤ a then (0, a % 16) else if 3 < (plR a b 16).1 then (4, 0) else plR a b 16
theorem plR_slot (a b : Nat) : ∀ n, (plR a b n).2 < 16
  | 0 => by unfold plR; decide
  | n + 1 => by
    unfold plR
    split
    · exact Nat.mod_lt _ (by decide)
    · exact plR_slot a b n
theorem place_lt (a b : Nat) : (place a b).1 ≤ 4 ∧ (place a b).2 < 16 := by
  unfold place
  split
  · exact ⟨by simp, Nat.mod_lt _ (by decide)⟩
  · split
    · exact ⟨by decide, by decide⟩
    · exact ⟨by omega, plR_slot a b 16⟩
/-- The level of a deadline, at a time. -/
def lvl (t d : Int) : Nat := (place t.toNat d.toNat).1
def cnt (t : Int) (l : List Tm) (k : Nat) : Nat := l.countP fun a => decide (lvl t a.d = k)
theorem cnt_nil (t : Int) (k : Nat) : cnt t [] k = 0 := rfl
theorem cnt_snoc (t : Int) (l : List Tm) (a : Tm) (k : Nat) : cnt t (l ++ [a]) k = cnt t l k + (if lvl t a.d = k then 1 else 0) := by
  unfold cnt
  rw [List.countP_append, List.countP_cons, List.countP_nil]
  simp
theorem cnt_perm {t : Int} {l l' : List Tm} (h : l.Perm l') (k : Nat) : cnt t l k = cnt t l' k := h.countP_eq _
end Go.Proofs.Ytogfpakopckfoaa.Wl
