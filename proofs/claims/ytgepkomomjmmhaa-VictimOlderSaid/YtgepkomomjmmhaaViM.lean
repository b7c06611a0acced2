/- Plain facts of candidates (no program): gain, cost, better as a weak order, the place of the best one, all places in order. -/
import Derived.WalkKit
namespace Go.Proofs.Ytgepkomomjmmhaa.Vi
set_option linter.unusedVariables false

/-- A candidate. -/
structure Cd where
  s : Int
  l : Int
  v : Int
  n : Int
  a : Int
deriving DecidableEq
instance : Inhabited Cd := ⟨⟨0, 0, 0, 0, 0⟩⟩
/-- Its age is a number of 64 bits. -/
def COk (c : Cd) : Prop := 0 ≤ c.a ∧ c.a < 18446744073709551616
def num (c : Cd) : Int := max 0 (min c.l 30)
def liv (c : Cd) : Int := max 0 (min c.v (num c))
def agec (c : Cd) : Int := min c.a 1099511627776
def gain (c : Cd) : Int := (num c - liv c) * agec c
def cost (c : Cd) : Int := if num c + liv c = 0 then 1 else num c + liv c
def better (a b : Cd) : Bool := decide (gain b * cost a < gain a * cost b)
theorem num_ge (c : Cd) : 0 ≤ num c := by unfold num; omega
theorem num_le (c : Cd) : num c ≤ 30 := by unfold num; omega
theorem liv_ge (c : Cd) : 0 ≤ liv c := by unfold liv; omega
theorem liv_le (c : Cd) : liv c ≤ num c := by have := num_ge c; unfold liv; omega
theorem cost_pos (c : Cd) : 0 < cost c := by have := num_ge c; have := liv_ge c; unfold cost; split <;> omega
theorem cost_le (c : Cd) : cost c ≤ 60 := by have := num_le c; have := liv_le c; unfold cost; split <;> omega
theorem agec_ge {c : Cd} (h : COk c) : 0 ≤ agec c := by have := h.1; unfold agec; omega
theorem agec_le (c : Cd) : agec c ≤ 1099511627776 := by unfold agec; omega
theorem gain_ge {c : Cd} (h : COk c) : 0 ≤ gain c := Int.mul_nonneg (by have := liv_le c; omega) (agec_ge h)
theorem gain_le {c : Cd} (h : COk c) : gain c ≤ 32985348833280 := by
  have h1 : gain c ≤ 30 * agec c := Int.mul_le_mul_of_nonneg_right (by have := liv_ge c; have := num_le c; omega) (agec_ge h)
  have := agec_le c
  omega
theorem prod_ge {a b : Cd} (h : COk a) : 0 ≤ gain a * cost b := Int.mul_nonneg (gain_ge h) (Int.le_of_lt (cost_pos b))
theorem prod_lt {a b : Cd} (h : COk a) : gain a * cost b < 18446744073709551616 := by
  have h1 : gain a * cost b ≤ gain a * 60 := Int.mul_le_mul_of_nonneg_left (cost_le b) (gain_ge h)
  have := gain_le h
  omega
/-- One is as good as another, or better. -/
theorem not_better {a b : Cd} : better a b = false ↔ gain a * cost b ≤ gain b * cost a := by
  unfold better
  rw [decide_eq_false_iff_not]
  exact Int.not_lt
theorem is_better {a b : Cd} : better a b = true ↔ gain b * cost a < gain a * cost b := by
  unfold better
  rw [decide_eq_true_iff]
theorem better_self (a : Cd) : better a a = false := not_better.2 (Int.le_refl _)
theorem better_not {a b : Cd} (h : better a b = true) : better b a = false := not_better.2 (Int.le_of_lt (is_better.1 h))
/-- As good, one behind the other. -/
theorem worse_trans {a b c : Cd} (h : better a b = false) (k : better b c = false) : better a c = false := by
  have h1 := not_better.1 h
  have h2 := not_better.1 k
  refine not_better.2 ?_
  have hb := cost_pos b
  refine Int.le_of_mul_le_mul_right ?_ hb
  have k1 := Int.mul_le_mul_of_nonneg_right h1 (Int.le_of_lt (cost_pos c))
  have k2 := Int.mul_le_mul_of_nonneg_right h2 (Int.le_of_lt (cost_pos a))
  have e1 : gain a * cost b * cost c = gain a * cost c * cost b := Int.mul_right_comm ..
  have e2 : gain b * cost a * cost c = gain b * cost c * cost a := Int.mul_right_comm ..
  have e3 : gain c * cost b * cost a = gain c * cost a * cost b := Int.mul_right_comm ..
  omega
theorem better_trans {a b c : Cd} (h : better a b = true) (k : better b c = true) : better a c = true := by
  cases hc : better a c with
  | true => rfl
  | false =>
    have h1 := worse_trans hc (better_not k)
    rw [h1] at h
    cases h
/-- Better than one that is not worse. -/
theorem better_le {a b c : Cd} (h : better a b = true) (k : better c b = false) : better a c = true := by
  cases hc : better a c with
  | true => rfl
  | false =>
    have h1 := worse_trans hc k
    rw [h1] at h
    cases h
theorem le_better {a b c : Cd} (h : better b a = false) (k : better b c = true) : better a c = true := by
  cases hc : better a c with
  | true => rfl
  | false =>
    have h1 := worse_trans h hc
    rw [h1] at k
    cases k
theorem better_older {a b : Cd} (hl : b.l = a.l) (hv : b.v = a.v) (ha : a.a ≤ b.a) (h : COk a) : better a b = false := by
  have e1 : num b = num a := by unfold num; rw [hl]
  have e2 : liv b = liv a := by unfold liv; rw [hv, e1]
  have e3 : cost b = cost a := by unfold cost; rw [e1, e2]
  refine not_better.2 ?_
  rw [e3]
  refine Int.mul_le_mul_of_nonneg_right ?_ (Int.le_of_lt (cost_pos a))
  unfold gain
  rw [e1, e2]
  refine Int.mul_le_mul_of_nonneg_left (by unfold agec; omega) ?_
  have := liv_le a
  omega
theorem better_less {a b : Cd} (hl : b.l = a.l) (ha : b.a = a.a) (hv : b.v ≤ a.v) (h : COk a) : better a b = false := by
  have e1 : num b = num a := by unfold num; rw [hl]
  have e2 : liv b ≤ liv a := by unfold liv; rw [e1]; omega
  have e3 : cost b ≤ cost a := by have := num_ge a; have := liv_ge b; have := liv_ge a; have := liv_le a; unfold cost; rw [e1]; split <;> split <;> omega
  have e4 : gain a ≤ gain b := by
    unfold gain
    rw [e1, show agec b = agec a by unfold agec; rw [ha]]
    exact Int.mul_le_mul_of_nonneg_right (by omega) (agec_ge h)
  refine not_better.2 ?_
  have k1 : gain a * cost b ≤ gain a * cost a := Int.mul_le_mul_of_nonneg_left e3 (gain_ge h)
  have k2 : gain a * cost a ≤ gain b * cost a := Int.mul_le_mul_of_nonneg_right e4 (Int.le_of_lt (cost_pos a))
  omega

/-! ### The best one of some -/
/-- The best one of those before n for which P holds, and the first one of those that are as good. -/
structure Top (n : Nat) (c : Nat → Cd) (P : Nat → Bool) (i : Nat) : Prop where
  lt : i < n
  p : P i = true
  no : ∀ k, k < n → P k = true → better (c k) (c i) = false
  ah : ∀ k, k < i → P k = true → better (c i) (c k) = true
theorem Top.one {n : Nat} {c : Nat → Cd} {P : Nat → Bool} {i j : Nat} (h : Top n c P i) (k : Top n c P j) : i = j := by
  rcases Nat.lt_trichotomy i j with h1 | h1 | h1
  · have := k.ah i h1 h.p
    rw [h.no j k.lt k.p] at this
    cases this
  · exact h1
  · have := h.ah j h1 k.p
    rw [k.no i h.lt h.p] at this
    cases this
/-- Its place; -1: there is none. -/
def best : Nat → (Nat → Cd) → (Nat → Bool) → Int
  | 0, _, _ => -1
  | n + 1, c, P => if P n = true ∧ (best n c P < 0 ∨ better (c n) (c (best n c P).toNat) = true) then (n : Int) else best n c P
/-- What best tells. -/
inductive Best (n : Nat) (c : Nat → Cd) (P : Nat → Bool) : Int → Prop
  | none (h : ∀ k, k < n → P k = false) : Best n c P (-1)
  | some (i : Nat) (h : Top n c P i) : Best n c P (i : Int)
theorem best_is (c : Nat → Cd) (P : Nat → Bool) : ∀ n, Best n c P (best n c P)
  | 0 => .none (fun k hk => by omega)
  | n + 1 => by
    have ih := best_is c P n
    show Best (n + 1) c P (if P n = true ∧ (best n c P < 0 ∨ better (c n) (c (best n c P).toNat) = true) then (n : Int) else best n c P)
    generalize best n c P = b at ih
    cases ih with
    | none h =>
      by_cases hp : P n = true
      · rw [if_pos ⟨hp, .inl (by decide)⟩]
        refine .some n ⟨Nat.lt_succ_self n, hp, fun k hk hpk => ?_, fun k hk hpk => ?_⟩
        · rcases Nat.lt_succ_iff_lt_or_eq.1 hk with h1 | h1
          · rw [h k h1] at hpk; cases hpk
          · rw [h1]; exact better_self _
        · rw [h k hk] at hpk; cases hpk
      · rw [if_neg (fun h => hp h.1)]
        refine .none (fun k hk => ?_)
        rcases Nat.lt_succ_iff_lt_or_eq.1 hk with h1 | h1
        · exact h k h1
        · rw [h1]; simpa using hp
    | some i h =>
      rw [Int.toNat_natCast]
      by_cases hp : P n = true ∧ better (c n) (c i) = true
      · rw [if_pos ⟨hp.1, .inr hp.2⟩]
        refine .some n ⟨Nat.lt_succ_self n, hp.1, fun k hk hpk => ?_, fun k hk hpk => ?_⟩
        · rcases Nat.lt_succ_iff_lt_or_eq.1 hk with h1 | h1
          · exact worse_trans (h.no k h1 hpk) (better_not hp.2)
          · rw [h1]; exact better_self _
        · exact better_le hp.2 (h.no k hk hpk)
      · rw [if_neg (by
          rintro ⟨h1, h2 | h2⟩
          · omega
          · exact hp ⟨h1, h2⟩)]
        refine .some i ⟨Nat.lt_succ_of_lt h.lt, h.p, fun k hk hpk => ?_, h.ah⟩
        rcases Nat.lt_succ_iff_lt_or_eq.1 hk with h1 | h1
        · exact h.no k h1 hpk
        · subst h1
          cases hb : better (c k) (c i) with
          | false => rfl
          | true => exact absurd ⟨hpk, hb⟩ hp
theorem best_top {n : Nat} {c : Nat → Cd} {P : Nat → Bool} {i : Nat} (h : Top n c P i) : best n c P = i := by
  have hb := best_is c P n
  generalize best n c P = b at hb
  cases hb with
  | none k => have := h.p; rw [k i h.lt] at this; cases this
  | some j k => rw [k.one h]
theorem best_none {n : Nat} {c : Nat → Cd} {P : Nat → Bool} (h : ∀ k, k < n → P k = false) : best n c P = -1 := by
  have hb := best_is c P n
  generalize best n c P = b at hb
  cases hb with
  | none k => rfl
  | some j k => have := k.p; rw [h j k.lt] at this; cases this
theorem best_some {n : Nat} {c : Nat → Cd} {P : Nat → Bool} {k : Nat} (hk : k < n) (hp : P k = true) : ∃ i : Nat, best n c P = (i : Int) ∧ Top n c P i := by
  have hb := best_is c P n
  generalize best n c P = b at hb
  cases hb with
  | none h => rw [h k hk] at hp; cases hp
  | some i h => exact ⟨i, rfl, h⟩
theorem best_ge (n : Nat) (c : Nat → Cd) (P : Nat → Bool) : -1 ≤ best n c P := by
  have hb := best_is c P n
  generalize best n c P = b at hb
  cases hb with
  | none h => omega
  | some i h => omega
theorem best_lt (n : Nat) (c : Nat → Cd) (P : Nat → Bool) : best n c P < n := by
  have hb := best_is c P n
  generalize best n c P = b at hb
  cases hb with
  | none h => omega
  | some i h => have := h.lt; omega
theorem best_same {n : Nat} {c d : Nat → Cd} {P Q : Nat → Bool} (hP : ∀ k, k < n → P k = Q k) (hc : ∀ i k, i < n → k < n → better (c i) (c k) = better (d i) (d k)) : best n c P = best n d Q := by
  have hb := best_is d Q n
  generalize best n d Q = b at hb
  cases hb with
  | none h => exact best_none (fun k hk => by rw [hP k hk]; exact h k hk)
  | some i h =>
    exact best_top ⟨h.lt, by rw [hP i h.lt]; exact h.p, fun k hk hpk => by rw [hc k i hk h.lt]; exact h.no k hk (by rw [← hP k hk]; exact hpk), fun k hk hpk => by
      have := h.lt
      rw [hc i k h.lt (by omega)]; exact h.ah k hk (by rw [← hP k (by omega)]; exact hpk)⟩

/-! ### All places in order -/
/-- Behind so many steps: the places, and which are left. -/
def ordS (n : Nat) (c : Nat → Cd) : Nat → List Nat × (Nat → Bool)
  | 0 => ([], fun _ => true)
  | k + 1 => ((ordS n c k).1 ++ [(best n c (ordS n c k).2).toNat], fun j => (ordS n c k).2 j && !decide (j = (best n c (ordS n c k).2).toNat))
def ord (n : Nat) (c : Nat → Cd) : List Nat := (ordS n c n).1
/-- What stands behind so many steps. -/
structure OrdP (n : Nat) (c : Nat → Cd) (k : Nat) (o : List Nat) (P : Nat → Bool) : Prop where
  len : o.length = k
  lt : ∀ x ∈ o, x < n
  nd : o.Nodup
  p : ∀ j, P j = !decide (j ∈ o)
  no : ∀ x ∈ o, ∀ j, j < n → P j = true → better (c j) (c x) = false ∧ (j < x → better (c x) (c j) = true)
  up : ∀ i j x y : Nat, i < j → o[i]? = some x → o[j]? = some y → better (c y) (c x) = false ∧ (y < x → better (c x) (c y) = true)
theorem all_len : ∀ (n : Nat) (o : List Nat), (∀ j, j < n → j ∈ o) → n ≤ o.length
  | 0, _, _ => Nat.zero_le _
  | n + 1, o, h => by
    have h1 := h n (Nat.lt_succ_self n)
    have h2 := all_len n (o.erase n) (fun j hj => (List.mem_erase_of_ne (by omega)).2 (h j (by omega)))
    rw [List.length_erase_of_mem h1] at h2
    have h3 := List.length_pos_of_mem h1
    omega
theorem free_lt {n k : Nat} {o : List Nat} (hk : o.length = k) (hkn : k < n) : ∃ j, j < n ∧ ¬ j ∈ o := by
  refine Classical.byContradiction fun hno => ?_
  have h1 := all_len n o (fun j hj => Classical.byContradiction fun h => hno ⟨j, hj, h⟩)
  omega
theorem ordS_is (n : Nat) (c : Nat → Cd) : ∀ k, k ≤ n → OrdP n c k (ordS n c k).1 (ordS n c k).2
  | 0, _ => ⟨rfl, by simp [ordS], by simp [ordS], by simp [ordS], by simp [ordS], by simp [ordS]⟩
  | k + 1, hk => by
    have ih := ordS_is n c k (by omega)
    obtain ⟨j0, hj0, hn0⟩ := free_lt (n := n) ih.len (by omega)
    have hp0 : (ordS n c k).2 j0 = true := by rw [ih.p]; simp [hn0]
    obtain ⟨i, hi, ht⟩ := best_some (c := c) hj0 hp0
    have hi2 : (best n c (ordS n c k).2).toNat = i := by rw [hi]; exact Int.toNat_natCast i
    show OrdP n c (k + 1) ((ordS n c k).1 ++ [(best n c (ordS n c k).2).toNat]) (fun j => (ordS n c k).2 j && !decide (j = (best n c (ordS n c k).2).toNat))
    rw [hi2]
    generalize (ordS n c k).1 = o at ih
    generalize (ordS n c k).2 = P at ih ht
    have hio : ¬ i ∈ o := by have := ht.p; rw [ih.p] at this; simpa using this
    refine ⟨by simp [ih.len], ?_, ?_, ?_, ?_, ?_⟩
    · intro x hx
      rcases List.mem_append.1 hx with h | h
      · exact ih.lt x h
      · rw [List.mem_singleton.1 h]; exact ht.lt
    · rw [List.nodup_append]
      refine ⟨ih.nd, by simp, fun x hx y hy => ?_⟩
      rw [List.mem_singleton.1 hy]
      rintro rfl
      exact hio hx
    · intro j
      show (P j && !decide (j = i)) = !decide (j ∈ o ++ [i])
      rw [ih.p j]
      by_cases h1 : j ∈ o <;> by_cases h2 : j = i <;> simp [h1, h2]
    · intro x hx j hj hpj
      have hpj2 : P j = true ∧ ¬ j = i := by simpa using hpj
      rcases List.mem_append.1 hx with h | h
      · exact ih.no x h j hj hpj2.1
      · rw [List.mem_singleton.1 h]
        exact ⟨ht.no j hj hpj2.1, fun h1 => ht.ah j h1 hpj2.1⟩
    · intro a b x y hab hx hy
      have hb : b < k + 1 := by
        have := (List.getElem?_eq_some_iff.1 hy).1
        rw [List.length_append, ih.len] at this
        simpa using this
      rw [List.getElem?_append_left (by rw [ih.len]; omega)] at hx
      by_cases hbk : b < k
      · rw [List.getElem?_append_left (by rw [ih.len]; omega)] at hy
        exact ih.up a b x y hab hx hy
      · obtain rfl : b = k := by omega
        rw [List.getElem?_append_right (by rw [ih.len]; omega), ih.len] at hy
        have e : i = y := by simpa using hy
        subst e
        exact ih.no x (List.mem_of_getElem? hx) i ht.lt ht.p
theorem ord_is (n : Nat) (c : Nat → Cd) : OrdP n c n (ord n c) (ordS n c n).2 := ordS_is n c n (Nat.le_refl _)
theorem ordS_same {n : Nat} {c d : Nat → Cd} (hc : ∀ i k, i < n → k < n → better (c i) (c k) = better (d i) (d k)) : ∀ k, ordS n c k = ordS n d k
  | 0 => rfl
  | k + 1 => by
    have ih := ordS_same hc k
    show (((ordS n c k).1 ++ [(best n c (ordS n c k).2).toNat], fun j => (ordS n c k).2 j && !decide (j = (best n c (ordS n c k).2).toNat)) : List Nat × (Nat → Bool)) = ((ordS n d k).1 ++ [(best n d (ordS n d k).2).toNat], fun j => (ordS n d k).2 j && !decide (j = (best n d (ordS n d k).2).toNat))
    rw [ih, best_same (P := (ordS n d k).2) (Q := (ordS n d k).2) (fun _ _ => rfl) hc]
theorem ord_same {n : Nat} {c d : Nat → Cd} (hc : ∀ i k, i < n → k < n → better (c i) (c k) = better (d i) (d k)) : ord n c = ord n d := by
  unfold ord
  rw [ordS_same hc]
/-- At a step there is one. -/
theorem ord_step {n k : Nat} {c : Nat → Cd} (hk : k < n) : ∃ i : Nat, best n c (ordS n c k).2 = (i : Int) ∧ Top n c (ordS n c k).2 i ∧ (ordS n c (k + 1)).1 = (ordS n c k).1 ++ [i] ∧ (ordS n c (k + 1)).2 = fun j => (ordS n c k).2 j && !decide (j = i) := by
  have ih := ordS_is n c k (by omega)
  obtain ⟨j0, hj0, hn0⟩ := free_lt (n := n) ih.len hk
  have hp0 : (ordS n c k).2 j0 = true := by rw [ih.p]; simp [hn0]
  obtain ⟨i, hi, ht⟩ := best_some (c := c) hj0 hp0
  refine ⟨i, hi, ht, ?_, ?_⟩
  · show (ordS n c k).1 ++ [(best n c (ordS n c k).2).toNat] = _
    rw [hi, Int.toNat_natCast]
  · show (fun j => (ordS n c k).2 j && !decide (j = (best n c (ordS n c k).2).toNat)) = _
    rw [hi, Int.toNat_natCast]

/-! ### Lists -/
/-- The candidate at a place of a list. -/
def cdA (L : List Cd) : Nat → Cd := fun i => (L[i]?).getD default
theorem cdA_of {L : List Cd} {i : Nat} {x : Cd} (h : L[i]? = some x) : cdA L i = x := by unfold cdA; rw [h]; rfl
def may (L : List Cd) (room : Int) : Nat → Bool := fun i => decide ((cdA L i).n ≤ room)
def pick (L : List Cd) (room : Int) : Int := best L.length (cdA L) (may L room)
def order (L : List Cd) : List Int := (ord L.length (cdA L)).map Int.ofNat
theorem pick_ge (L : List Cd) (room : Int) : -1 ≤ pick L room := best_ge ..
theorem pick_lt (L : List Cd) (room : Int) : pick L room < L.length := best_lt ..
theorem order_len (L : List Cd) : (order L).length = L.length := by unfold order; rw [List.length_map, (ord_is _ _).len]
end Go.Proofs.Ytgepkomomjmmhaa.Vi
