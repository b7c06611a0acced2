/- Plain facts of a sweep's states (no program). -/
import Derived.WalkKit
namespace Go.Proofs.Ytfhdckmpodmejaa.Sw
set_option linter.unusedVariables false

/-- A state: what is still to come, the victim, how many were looked at, of how many. -/
structure St where
  t : List Int
  v : Int
  c : Int
  n : Int
deriving DecidableEq
def idle : St := ⟨[], -1, 0, 0⟩
def zero : St := ⟨[], 0, 0, 0⟩
/-- A number of 64 bits. -/
def I64 (n : Int) : Prop := -9223372036854775808 ≤ n ∧ n ≤ 9223372036854775807
structure SIn (s : St) : Prop where
  t : ∀ x ∈ s.t, I64 x
  v : I64 s.v
  c : I64 s.c
  n : I64 s.n
/-- The numbers that are to come. -/
def TodoOk (t : List Int) (v : Int) : Prop := (∀ x ∈ t, 0 ≤ x ∧ x ≤ 15 ∧ x ≠ v) ∧ t.Nodup
/-- The victim's numbers. -/
def VicOk (v c n : Int) : Prop := (v = -1 ∧ c = 0 ∧ n = 0) ∨ (0 ≤ v ∧ v ≤ 15 ∧ 0 ≤ n ∧ n ≤ 30 ∧ 0 ≤ c ∧ c ≤ n)
instance (t : List Int) (v : Int) : Decidable (TodoOk t v) := by unfold TodoOk; infer_instance
instance (v c n : Int) : Decidable (VicOk v c n) := by unfold VicOk; infer_instance
structure Right (s : St) : Prop where
  t : TodoOk s.t s.v
  v : VicOk s.v s.c s.n
theorem right_iff (s : St) : Right s ↔ TodoOk s.t s.v ∧ VicOk s.v s.c s.n := ⟨fun h => ⟨h.t, h.v⟩, fun h => ⟨h.1, h.2⟩⟩
instance (s : St) : Decidable (Right s) := decidable_of_iff _ (right_iff s).symm
theorem all_len : ∀ (n : Nat) (l : List Int), l.Nodup → (∀ x ∈ l, 0 ≤ x ∧ x < n) → l.length ≤ n
  | 0, l, _, h => by
    cases l with
    | nil => exact Nat.le_refl _
    | cons x l => have := h x (List.mem_cons_self ..); omega
  | n + 1, l, hd, h => by
    have ih := all_len n (l.erase (n : Int)) (hd.erase _) (fun x hx => by
      have h1 := (hd.mem_erase_iff).1 hx
      have := h x h1.2
      omega)
    have := List.le_length_erase (a := (n : Int)) (l := l)
    omega
theorem todo_len {t : List Int} {v : Int} (h : TodoOk t v) : t.length ≤ 16 := all_len 16 t h.2 (fun x hx => by have := h.1 x hx; omega)
theorem right_len {s : St} (h : Right s) : s.t.length ≤ 16 := todo_len h.t
theorem right_in {s : St} (h : Right s) : SIn s := by
  have hv := h.v
  unfold VicOk at hv
  refine ⟨fun x hx => ?_, ?_, ?_, ?_⟩
  · have := h.t.1 x hx
    unfold I64
    omega
  · unfold I64; omega
  · unfold I64; omega
  · unfold I64; omega
/-- What comes next. -/
def next (s : St) (g : Bool) : Int := if 0 ≤ s.v ∧ s.c < s.n then 3 else if 0 ≤ s.v then 4 else if s.t ≠ [] then 2 else if g = true then 1 else 0
/-- The calls: none is ErrArg. -/
def begins (s : St) (l : List Int) : Option St := if 0 ≤ s.v ∨ s.t ≠ [] ∨ ¬ Right ⟨l, -1, 0, 0⟩ then none else some ⟨l, -1, 0, 0⟩
def less (t : List Int) (x : Int) : List Int := t.filter (fun y => decide (y ≠ x))
def takes (s : St) (x n : Int) : Option St := if 0 ≤ s.v ∨ x ∉ s.t ∨ n < 0 ∨ 30 < n then none else some ⟨less s.t x, x, 0, n⟩
def sees (s : St) : Option St := if next s false = 3 then some ⟨s.t, s.v, s.c + 1, s.n⟩ else none
def gives (s : St) : Option St := if next s false = 4 then some ⟨s.t, -1, 0, 0⟩ else none
/-- What a call tells: a state, and an error's number. -/
def st (o : Option St) : St := o.getD zero
def er (o : Option St) : Int := if o.isSome then 0 else 1
def need (s : St) (k : Int) : Int := if 0 ≤ s.v then s.n - s.c else k
def left (s : St) (k : Int) : Int := (s.t.length : Int) * (k + 2) + if 0 ≤ s.v then s.n - s.c + 1 else 0
theorem idle_right : Right idle := by decide
theorem less_len (t : List Int) (x : Int) : (less t x).length ≤ t.length := List.length_filter_le _ _
theorem begins_right {s : St} {l : List Int} {r : St} (h : begins s l = some r) : Right r := by
  unfold begins at h
  split at h
  · cases h
  · rename_i hn
    injection h with h
    subst h
    exact Classical.byContradiction fun k => hn (.inr (.inr k))
theorem takes_right {s : St} {x n : Int} {r : St} (hs : Right s) (h : takes s x n = some r) : Right r := by
  unfold takes at h
  split at h
  · cases h
  · rename_i hn
    injection h with h
    subst h
    have hx : x ∈ s.t := Classical.byContradiction fun k => hn (.inr (.inl k))
    have hb := hs.t.1 x hx
    refine ⟨⟨fun y hy => ?_, hs.t.2.sublist List.filter_sublist⟩, .inr ⟨hb.1, hb.2.1, by simp only; omega, by simp only; omega, Int.le_refl _, by simp only; omega⟩⟩
    have h1 := List.mem_filter.1 hy
    have h2 := hs.t.1 y h1.1
    exact ⟨h2.1, h2.2.1, by simpa using h1.2⟩
theorem sees_right {s : St} {r : St} (hs : Right s) (h : sees s = some r) : Right r := by
  unfold sees at h
  split at h
  · rename_i hn
    injection h with h
    subst h
    have hv := hs.v
    unfold next at hn
    refine ⟨hs.t, ?_⟩
    unfold VicOk at hv ⊢
    simp only
    split at hn
    · omega
    · split at hn
      · cases hn
      · split at hn
        · cases hn
        · cases hn
  · cases h
theorem gives_right {s : St} {r : St} (hs : Right s) (h : gives s = some r) : Right r := by
  unfold gives at h
  split at h
  · injection h with h
    subst h
    refine ⟨⟨fun x hx => ?_, hs.t.2⟩, .inl ⟨rfl, rfl, rfl⟩⟩
    have := hs.t.1 x hx
    exact ⟨this.1, this.2.1, by simp only; omega⟩
  · cases h
theorem need_in {s : St} {k : Int} (hs : Right s) (hk : 0 ≤ k ∧ k ≤ 30) : 0 ≤ need s k ∧ need s k ≤ 30 := by
  have hv := hs.v
  unfold VicOk at hv
  unfold need
  split <;> omega
end Go.Proofs.Ytfhdckmpodmejaa.Sw
