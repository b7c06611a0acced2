/- The plain side of what records say: the newest record of each id, sorted lists of these, sessions. No program is spoken of. -/
import Derived.WalkKit
import Derived.Lib.Strings
namespace Go.Proofs.Ytjdkgkllgapgjaa.Re
set_option linter.unusedVariables false

structure Rec where
  l : Int
  e : Int
  k : Int
  v : Int
  d : Int
  i : ByteArray
  a : ByteArray
abbrev Key := List UInt8
def Rec.key (r : Rec) : Key := r.i.toList
/-- Live, or a Tomb. -/
def isL (r : Rec) : Bool := r.k = 1 || r.k = 2
def joinR : Option Rec → Option Rec → Option Rec
  | o, none => o
  | none, some q => some q
  | some p, some q => if p.v ≤ q.v then some q else some p
def one (x : Key) (r : Rec) : Option Rec := if isL r = true ∧ r.key = x then some r else none
/-- The newest one of an id. -/
def best (l : List Rec) (x : Key) : Option Rec := l.foldl (fun o r => joinR o (one x r)) none

theorem join_two (p q : Rec) : joinR (some p) (some q) = if p.v ≤ q.v then some q else some p := rfl
theorem join_none (o : Option Rec) : joinR none o = o := by cases o <;> rfl
theorem join_assoc (o p q : Option Rec) : joinR (joinR o p) q = joinR o (joinR p q) := by
  cases q with
  | none => rfl
  | some q =>
    cases p with
    | none => rw [join_none]; cases o <;> rfl
    | some p =>
      cases o with
      | none => rw [join_none, join_none]
      | some o =>
        by_cases h1 : o.v ≤ p.v <;> by_cases h2 : p.v ≤ q.v <;> by_cases h3 : o.v ≤ q.v <;> simp [joinR, h1, h2, h3] <;> omega
theorem fold_join (x : Key) : ∀ (l : List Rec) (o : Option Rec), l.foldl (fun o r => joinR o (one x r)) o = joinR o (best l x)
  | [], o => by cases o <;> rfl
  | r :: l, o => by
    unfold best
    rw [List.foldl_cons, List.foldl_cons, fold_join x l, fold_join x l, join_none, join_assoc]
theorem best_nil (x : Key) : best [] x = none := rfl
theorem best_append (l k : List Rec) (x : Key) : best (l ++ k) x = joinR (best l x) (best k x) := by
  show (l ++ k).foldl _ _ = _
  rw [List.foldl_append, fold_join]
  rfl
theorem best_cons (r : Rec) (l : List Rec) (x : Key) : best (r :: l) x = joinR (one x r) (best l x) := by
  show (r :: l).foldl _ _ = _
  rw [List.foldl_cons, fold_join, join_none]
theorem best_one (r : Rec) (x : Key) : best [r] x = one x r := by
  rw [best_cons]; cases one x r <;> rfl
theorem best_snoc (l : List Rec) (r : Rec) (x : Key) : best (l ++ [r]) x = joinR (best l x) (one x r) := by rw [best_append, best_one]
theorem one_some {x : Key} {r p : Rec} (h : one x r = some p) : p = r ∧ isL r = true ∧ r.key = x := by
  unfold one at h
  split at h
  · rename_i h1
    injection h with h
    exact ⟨h.symm, h1⟩
  · cases h
theorem join_some {o p : Option Rec} {r : Rec} (h : joinR o p = some r) : o = some r ∨ p = some r := by
  cases p with
  | none => cases o <;> exact .inl h
  | some q =>
    cases o with
    | none => exact .inr h
    | some p =>
      rw [join_two] at h
      split at h
      · exact .inr h
      · exact .inl h
theorem join_is_none {o p : Option Rec} : joinR o p = none ↔ o = none ∧ p = none := by
  cases p with
  | none => cases o <;> simp [joinR]
  | some q =>
    cases o with
    | none => simp [joinR]
    | some p => by_cases h : p.v ≤ q.v <;> simp [joinR, h]
theorem best_mem {x : Key} {r : Rec} : ∀ {l : List Rec}, best l x = some r → r ∈ l ∧ isL r = true ∧ r.key = x
  | [], h => by cases h
  | p :: l, h => by
    rw [best_cons] at h
    rcases join_some h with h | h
    · obtain ⟨rfl, h⟩ := one_some h
      exact ⟨List.mem_cons_self .., h⟩
    · have := best_mem h
      exact ⟨List.mem_cons_of_mem _ this.1, this.2⟩
theorem best_none {x : Key} : ∀ {l : List Rec}, best l x = none ↔ ∀ r ∈ l, isL r = true → r.key ≠ x
  | [] => by simp [best_nil]
  | p :: l => by
    rw [best_cons, join_is_none, best_none (l := l)]
    unfold one
    constructor
    · rintro ⟨h1, h2⟩ r hr hl
      rcases List.mem_cons.1 hr with rfl | hr
      · intro e
        rw [if_pos ⟨hl, e⟩] at h1
        cases h1
      · exact h2 r hr hl
    · intro h
      refine ⟨?_, fun r hr hl => h r (List.mem_cons_of_mem _ hr) hl⟩
      rw [if_neg]
      rintro ⟨h1, h2⟩
      exact h p (List.mem_cons_self ..) h1 h2
/-- It has the greatest version. -/
theorem best_ge {x : Key} {r : Rec} : ∀ {l : List Rec}, best l x = some r → ∀ p ∈ l, isL p = true → p.key = x → p.v ≤ r.v
  | [], h => by cases h
  | q :: l, h => by
    intro p hp hl hk
    rw [best_cons] at h
    cases hb : best l x with
    | none =>
      rw [hb] at h
      rcases List.mem_cons.1 hp with rfl | hp
      · have : one x p = some p := by unfold one; rw [if_pos ⟨hl, hk⟩]
        rw [this] at h
        injection h with h
        rw [h]; exact Int.le_refl _
      · exact absurd hk (best_none.1 hb p hp hl)
    | some b =>
      rw [hb] at h
      have hge := best_ge hb
      cases ho : one x q with
      | none =>
        rw [ho, join_none] at h
        injection h with h
        subst h
        rcases List.mem_cons.1 hp with rfl | hp
        · unfold one at ho
          rw [if_pos ⟨hl, hk⟩] at ho
          cases ho
        · exact hge p hp hl hk
      | some q' =>
        obtain ⟨rfl, h1, h2⟩ := one_some ho
        rw [ho, join_two] at h
        split at h
        · rename_i hle
          injection h with h
          subst h
          rcases List.mem_cons.1 hp with rfl | hp
          · exact hle
          · exact hge p hp hl hk
        · rename_i hle
          injection h with h
          subst h
          rcases List.mem_cons.1 hp with rfl | hp
          · exact Int.le_refl _
          · have := hge p hp hl hk; omega

/-! ### Sorted lists -/
def Srt (l : List Rec) : Prop := l.Pairwise (fun a b => a.key < b.key)
def look (l : List Rec) (x : Key) : Option Rec := l.find? fun r => r.key = x
theorem key_trans {a b c : Key} (h : a < b) (k : b < c) : a < c := List.lt_trans h k
theorem key_irr (a : Key) : ¬ a < a := List.lt_irrefl a
theorem srt_look {l : List Rec} {r : Rec} (h : Srt l) (hr : r ∈ l) : look l r.key = some r := by
  induction l with
  | nil => cases hr
  | cons a l ih =>
    obtain ⟨h1, h2⟩ := List.pairwise_cons.1 h
    unfold look
    rw [List.find?_cons]
    rcases List.mem_cons.1 hr with rfl | hr
    · simp
    · have hne : a.key ≠ r.key := fun e => by
        have := h1 r hr
        rw [e] at this
        exact key_irr _ this
      simp only [hne, decide_false]
      exact ih h2 hr
theorem look_mem {l : List Rec} {x : Key} {r : Rec} (h : look l x = some r) : r ∈ l ∧ r.key = x := by
  unfold look at h
  have h1 := List.mem_of_find?_eq_some h
  have h2 := List.find?_some h
  exact ⟨h1, by simpa using h2⟩
/-- Of sorted lists, those that tell the same of each id are the same. -/
theorem srt_ext : ∀ {l k : List Rec}, Srt l → Srt k → (∀ x, look l x = look k x) → l = k
  | [], [], _, _, _ => rfl
  | [], b :: k, _, hk, h => by
    have h1 := h b.key
    rw [srt_look hk (List.mem_cons_self ..)] at h1
    cases h1
  | a :: l, [], hl, _, h => by
    have h1 := h a.key
    rw [srt_look hl (List.mem_cons_self ..)] at h1
    cases h1
  | a :: l, b :: k, hl, hk, h => by
    obtain ⟨l1, l2⟩ := List.pairwise_cons.1 hl
    obtain ⟨k1, k2⟩ := List.pairwise_cons.1 hk
    have ha : a ∈ b :: k := by
      have h1 := h a.key
      rw [srt_look hl (List.mem_cons_self ..)] at h1
      exact (look_mem h1.symm).1
    have hb : b ∈ a :: l := by
      have h1 := h b.key
      rw [srt_look hk (List.mem_cons_self ..)] at h1
      exact (look_mem h1).1
    have hab : a = b := by
      rcases List.mem_cons.1 ha with e | ha
      · exact e
      · rcases List.mem_cons.1 hb with e | hb
        · exact e.symm
        · exact absurd (key_trans (k1 a ha) (l1 b hb)) (key_irr _)
    subst hab
    rw [srt_ext l2 k2 fun x => ?_]
    by_cases hx : a.key = x
    · have n1 : look l x = none := by
        cases hn : look l x with
        | none => rfl
        | some r =>
          obtain ⟨m1, m2⟩ := look_mem hn
          have := l1 r m1
          rw [m2, hx] at this
          exact absurd this (key_irr _)
      have n2 : look k x = none := by
        cases hn : look k x with
        | none => rfl
        | some r =>
          obtain ⟨m1, m2⟩ := look_mem hn
          have := k1 r m1
          rw [m2, hx] at this
          exact absurd this (key_irr _)
      rw [n1, n2]
    · have := h x
      unfold look at this ⊢
      rw [List.find?_cons, List.find?_cons] at this
      simpa [hx] using this
/-- What is newest in a sorted list of Live ones and Tombs is what it has. -/
theorem best_srt : ∀ {l : List Rec}, Srt l → (∀ r ∈ l, isL r = true) → ∀ x, best l x = look l x
  | [], _, _, x => rfl
  | a :: l, h, hl, x => by
    obtain ⟨h1, h2⟩ := List.pairwise_cons.1 h
    rw [best_cons, best_srt h2 (fun r hr => hl r (List.mem_cons_of_mem _ hr))]
    unfold one look
    rw [List.find?_cons]
    by_cases hx : a.key = x
    · have n1 : l.find? (fun r => r.key = x) = none := by
        cases hn : l.find? (fun r => r.key = x) with
        | none => rfl
        | some r =>
          obtain ⟨m1, m2⟩ := look_mem (l := l) hn
          have := h1 r m1
          rw [m2, hx] at this
          exact absurd this (key_irr _)
      rw [if_pos ⟨hl a (List.mem_cons_self ..), hx⟩, n1]
      simp [hx, joinR]
    · rw [if_neg (fun h => hx h.2), join_none]
      simp [hx]

/-! ### The newest ones, as the document has them -/
/-- One more, ahead of all that are not below it. -/
def ins (r : Rec) : List Rec → List Rec
  | [] => [r]
  | a :: l => if a.key < r.key then a :: ins r l else r :: a :: l
theorem ins_mem {r p : Rec} : ∀ {l : List Rec}, p ∈ ins r l ↔ p = r ∨ p ∈ l
  | [] => by simp [ins]
  | a :: l => by
    unfold ins
    split
    · rw [List.mem_cons, ins_mem, List.mem_cons]
      constructor
      · rintro (h | h | h)
        · exact .inr (.inl h)
        · exact .inl h
        · exact .inr (.inr h)
      · rintro (h | h | h)
        · exact .inr (.inl h)
        · exact .inl h
        · exact .inr (.inr h)
    · rw [List.mem_cons]
theorem key_total {a b : Key} (h : ¬ a < b) (hne : a ≠ b) : b < a := by
  refine Classical.byContradiction fun h2 => hne (List.le_antisymm (List.not_lt.1 h2) (List.not_lt.1 h))
theorem ins_srt {r : Rec} : ∀ {l : List Rec}, Srt l → (∀ p ∈ l, p.key ≠ r.key) → Srt (ins r l)
  | [], _, _ => List.pairwise_singleton _ _
  | a :: l, h, hn => by
    obtain ⟨h1, h2⟩ := List.pairwise_cons.1 h
    unfold ins
    split
    · rename_i hlt
      refine List.pairwise_cons.2 ⟨fun p hp => ?_, ins_srt h2 fun p hp => hn p (List.mem_cons_of_mem _ hp)⟩
      rcases ins_mem.1 hp with rfl | hp
      · exact hlt
      · exact h1 p hp
    · rename_i hlt
      have h3 := key_total hlt (hn a (List.mem_cons_self ..))
      refine List.pairwise_cons.2 ⟨fun p hp => ?_, h⟩
      rcases List.mem_cons.1 hp with rfl | hp
      · exact h3
      · exact key_trans h3 (h1 p hp)
/-- Is the record at k newer than that at i? -/
def newB (l : List Rec) (i k : Nat) : Bool := match l[i]?, l[k]? with
  | some r, some p => isL p && decide (p.key = r.key) && (decide (r.v < p.v) || (decide (p.v = r.v) && decide (i < k)))
  | _, _ => false
def liveB (l : List Rec) (i : Nat) : Bool := match l[i]? with
  | some r => isL r
  | none => false
def isNew (l : List Rec) (i : Nat) : Bool := !(List.range l.length).any (newB l i) && liveB l i
def docN (l : List Rec) : Nat → List Rec
  | 0 => []
  | n + 1 => match l[n]? with
    | some r => if isNew l n then ins r (docN l n) else docN l n
    | none => docN l n
def newest (l : List Rec) : List Rec := docN l l.length
theorem new_iff {l : List Rec} {i : Nat} {r : Rec} (hi : l[i]? = some r) : isNew l i = true ↔ isL r = true ∧ ∀ k p, l[k]? = some p → isL p = true → p.key = r.key → ¬ (r.v < p.v ∨ (p.v = r.v ∧ i < k)) := by
  unfold isNew liveB
  rw [hi, Bool.and_eq_true, Bool.not_eq_true', and_comm]
  refine and_congr_right fun _ => ?_
  rw [← Bool.not_eq_true, List.any_eq_true]
  constructor
  · intro h k p hk hl he hn
    refine h ⟨k, List.mem_range.2 (List.getElem?_eq_some_iff.1 hk).1, ?_⟩
    unfold newB
    rw [hi, hk]
    simpa [hl, he] using hn
  · rintro h ⟨k, _, hk⟩
    unfold newB at hk
    rw [hi] at hk
    cases hp : l[k]? with
    | none => rw [hp] at hk; cases hk
    | some p =>
      rw [hp] at hk
      simp only [Bool.and_eq_true, Bool.or_eq_true, decide_eq_true_eq] at hk
      exact h k p hp hk.1.1 hk.1.2 hk.2
theorem split_at {l : List Rec} {i : Nat} {r : Rec} (hi : l[i]? = some r) : l = l.take i ++ r :: l.drop (i + 1) := by
  obtain ⟨h1, h2⟩ := List.getElem?_eq_some_iff.1 hi
  rw [← h2, List.getElem_cons_drop, List.take_append_drop]
theorem new_best {l : List Rec} {i : Nat} {r : Rec} (hi : l[i]? = some r) (h : isNew l i = true) : best l r.key = some r := by
  obtain ⟨h1, h2⟩ := (new_iff hi).1 h
  have e := split_at hi
  have hlt := (List.getElem?_eq_some_iff.1 hi).1
  have e1 : one r.key r = some r := by unfold one; rw [if_pos ⟨h1, rfl⟩]
  rw [e, best_append, best_cons, e1]
  have g1 : joinR (some r) (best (l.drop (i + 1)) r.key) = some r := by
    cases hb : best (l.drop (i + 1)) r.key with
    | none => rfl
    | some p =>
      obtain ⟨m1, m2, m3⟩ := best_mem hb
      obtain ⟨j, hj, hp⟩ := List.getElem_of_mem m1
      have hp2 : l[i + 1 + j]? = some p := by
        rw [← List.getElem?_drop]
        exact List.getElem?_eq_some_iff.2 ⟨hj, hp⟩
      have := h2 _ p hp2 m2 m3
      rw [join_two, if_neg (by omega)]
  rw [g1]
  cases hb : best (l.take i) r.key with
  | none => rfl
  | some p =>
    obtain ⟨m1, m2, m3⟩ := best_mem hb
    obtain ⟨j, hj, hp⟩ := List.getElem_of_mem m1
    have hj2 : j < i := by have := hj; rw [List.length_take] at this; omega
    have hp2 : l[j]? = some p := by
      rw [← List.getElem?_take_of_lt hj2]
      exact List.getElem?_eq_some_iff.2 ⟨hj, hp⟩
    have := h2 _ p hp2 m2 m3
    rw [join_two, if_pos (by omega)]
/-- The one that none is newer than. -/
theorem top_of (l : List Rec) (x : Key) : ∀ n, n ≤ l.length → (∀ k p, k < n → l[k]? = some p → isL p = true → p.key ≠ x) ∨ ∃ i r, i < n ∧ l[i]? = some r ∧ isL r = true ∧ r.key = x ∧ ∀ k p, k < n → l[k]? = some p → isL p = true → p.key = x → ¬ (r.v < p.v ∨ (p.v = r.v ∧ i < k))
  | 0, _ => .inl fun k p hk => by omega
  | n + 1, hn => by
    obtain ⟨q, hq⟩ : ∃ q, l[n]? = some q := ⟨_, List.getElem?_eq_getElem (by omega)⟩
    have hcase : ∀ k p, k < n + 1 → l[k]? = some p → (k < n ∨ (k = n ∧ p = q)) := fun k p hk hp => by
      rcases Nat.lt_or_ge k n with h | h
      · exact .inl h
      · obtain rfl : k = n := by omega
        rw [hq] at hp
        injection hp with hp
        exact .inr ⟨rfl, hp.symm⟩
    by_cases hl : isL q = true ∧ q.key = x
    · rcases top_of l x n (by omega) with h | ⟨i, r, h1, h2, h3, h4, h5⟩
      · refine .inr ⟨n, q, by omega, hq, hl.1, hl.2, fun k p hk hp hpl hpk => ?_⟩
        rcases hcase k p hk hp with h6 | ⟨rfl, rfl⟩
        · exact absurd hpk (h k p h6 hp hpl)
        · omega
      · by_cases hv : r.v ≤ q.v
        · refine .inr ⟨n, q, by omega, hq, hl.1, hl.2, fun k p hk hp hpl hpk => ?_⟩
          rcases hcase k p hk hp with h6 | ⟨rfl, rfl⟩
          · have := h5 k p h6 hp hpl hpk; omega
          · omega
        · refine .inr ⟨i, r, by omega, h2, h3, h4, fun k p hk hp hpl hpk => ?_⟩
          rcases hcase k p hk hp with h6 | ⟨rfl, rfl⟩
          · exact h5 k p h6 hp hpl hpk
          · omega
    · rcases top_of l x n (by omega) with h | ⟨i, r, h1, h2, h3, h4, h5⟩
      · refine .inl fun k p hk hp hpl hpk => ?_
        rcases hcase k p hk hp with h6 | ⟨rfl, rfl⟩
        · exact h k p h6 hp hpl hpk
        · exact hl ⟨hpl, hpk⟩
      · refine .inr ⟨i, r, by omega, h2, h3, h4, fun k p hk hp hpl hpk => ?_⟩
        rcases hcase k p hk hp with h6 | ⟨rfl, rfl⟩
        · exact h5 k p h6 hp hpl hpk
        · exact absurd ⟨hpl, hpk⟩ hl
theorem best_new {l : List Rec} {x : Key} {r : Rec} (h : best l x = some r) : ∃ i, l[i]? = some r ∧ isNew l i = true := by
  obtain ⟨m1, m2, m3⟩ := best_mem h
  rcases top_of l x l.length (Nat.le_refl _) with h1 | ⟨i, p, h1, h2, h3, h4, h5⟩
  · obtain ⟨j, hj, hp⟩ := List.getElem_of_mem m1
    exact absurd m3 (h1 j r hj (List.getElem?_eq_some_iff.2 ⟨hj, hp⟩) m2)
  · have hn : isNew l i = true := (new_iff h2).2 ⟨h3, fun k q hq hl hk => h5 k q (List.getElem?_eq_some_iff.1 hq).1 hq hl (hk.trans h4)⟩
    have := new_best h2 hn
    rw [h4, h] at this
    injection this with this
    exact ⟨i, this ▸ h2, hn⟩
theorem doc_mem {l : List Rec} {p : Rec} : ∀ {n : Nat}, p ∈ docN l n ↔ ∃ i, i < n ∧ l[i]? = some p ∧ isNew l i = true
  | 0 => by simp [docN]
  | n + 1 => by
    unfold docN
    have step : (∃ i, i < n + 1 ∧ l[i]? = some p ∧ isNew l i = true) ↔ (l[n]? = some p ∧ isNew l n = true) ∨ ∃ i, i < n ∧ l[i]? = some p ∧ isNew l i = true := by
      constructor
      · rintro ⟨i, h1, h2⟩
        rcases Nat.lt_or_ge i n with h | h
        · exact .inr ⟨i, h, h2⟩
        · obtain rfl : i = n := by omega
          exact .inl h2
      · rintro (h | ⟨i, h1, h2⟩)
        · exact ⟨n, by omega, h⟩
        · exact ⟨i, by omega, h2⟩
    rw [step]
    cases hr : l[n]? with
    | none => simp only; rw [doc_mem (n := n)]; simp
    | some r =>
      simp only
      split
      · rename_i hn
        rw [ins_mem, doc_mem (n := n)]
        refine or_congr_left ⟨fun h => ⟨by rw [h], hn⟩, fun h => ?_⟩
        injection h.1 with h
        exact h.symm
      · rename_i hn
        rw [doc_mem (n := n)]
        simp [hn]
theorem doc_srt (l : List Rec) : ∀ n, Srt (docN l n)
  | 0 => List.Pairwise.nil
  | n + 1 => by
    unfold docN
    cases hr : l[n]? with
    | none => exact doc_srt l n
    | some r =>
      simp only
      split
      · rename_i hn
        refine ins_srt (doc_srt l n) fun p hp e => ?_
        obtain ⟨i, h1, h2, h3⟩ := doc_mem.1 hp
        have g1 := ((new_iff h2).1 h3).2 n r hr ((new_iff hr).1 hn).1 e.symm
        have g2 := ((new_iff hr).1 hn).2 i p h2 ((new_iff h2).1 h3).1 e
        omega
      · exact doc_srt l n
theorem newest_srt (l : List Rec) : Srt (newest l) := doc_srt l _
theorem newest_live {l : List Rec} {r : Rec} (h : r ∈ newest l) : isL r = true ∧ r ∈ l := by
  obtain ⟨i, h1, h2, h3⟩ := doc_mem.1 h
  exact ⟨((new_iff h2).1 h3).1, List.mem_of_getElem? h2⟩
theorem newest_look (l : List Rec) (x : Key) : look (newest l) x = best l x := by
  cases hb : best l x with
  | none =>
    cases hl : look (newest l) x with
    | none => rfl
    | some r =>
      obtain ⟨m1, m2⟩ := look_mem hl
      obtain ⟨n1, n2⟩ := newest_live m1
      exact absurd m2 (best_none.1 hb r n2 n1)
  | some r =>
    obtain ⟨i, h1, h2⟩ := best_new hb
    have hm : r ∈ newest l := doc_mem.2 ⟨i, (List.getElem?_eq_some_iff.1 h1).1, h1, h2⟩
    have := srt_look (newest_srt l) hm
    rw [(best_mem hb).2.2] at this
    exact this
/-- What the newest ones are hangs on what is newest of each id alone. -/
theorem newest_ext {l k : List Rec} (h : ∀ x, best l x = best k x) : newest l = newest k :=
  srt_ext (newest_srt l) (newest_srt k) fun x => by rw [newest_look, newest_look, h]
theorem newest_of {l k : List Rec} (hk : Srt k) (h : ∀ x, look k x = best l x) : k = newest l :=
  srt_ext hk (newest_srt l) fun x => by rw [newest_look, h]
theorem best_newest (l : List Rec) (x : Key) : best (newest l) x = best l x := by
  rw [best_srt (newest_srt l) (fun r hr => (newest_live hr).1), newest_look]
theorem join_self (o : Option Rec) : joinR o o = o := by
  cases o with
  | none => rfl
  | some p => rw [join_two, if_pos (Int.le_refl _)]
end Go.Proofs.Ytjdkgkllgapgjaa.Re
