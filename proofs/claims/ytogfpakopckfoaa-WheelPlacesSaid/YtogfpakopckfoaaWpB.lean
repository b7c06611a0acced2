/- Where a timer stands, as one number; what an advance takes out, and that all others stand where they stood. No program is spoken of. -/
import Derived.Test.YtogfpakopckfoaaWpA
namespace Go.Proofs.Ytogfpakopckfoaa.Wl
set_option linter.unusedVariables false

/-- 16 times the level, and the slot; 64: far. -/
def ix (t d : Nat) : Nat := 16 * (place t d).1 + (place t d).2
theorem place_far {a b : Nat} (h : (place a b).1 = 4) : place a b = (4, 0) := by
  unfold place at h ⊢
  split
  · rename_i h1
    rw [if_pos h1] at h
    cases h
  · rename_i h1
    rw [if_neg h1] at h
    split
    · rfl
    · rename_i h2
      rw [if_neg h2] at h
      omega
theorem ix_le (t d : Nat) : ix t d ≤ 64 := by
  obtain ⟨h1, h2⟩ := place_lt t d
  unfold ix
  by_cases h : (place t d).1 = 4
  · rw [place_far h]; decide
  · omega
theorem ix_far {t d : Nat} : ix t d = 64 ↔ (place t d).1 = 4 := by
  obtain ⟨h1, h2⟩ := place_lt t d
  unfold ix
  constructor
  · intro h
    omega
  · intro h
    rw [place_far h]; rfl
theorem ix_near {t d : Nat} (h : ix t d < 64) : (place t d).1 = ix t d / 16 ∧ (place t d).2 = ix t d % 16 ∧ (place t d).1 < 4 := by
  obtain ⟨h1, h2⟩ := place_lt t d
  unfold ix at h ⊢
  omega
theorem ix_due {t d : Nat} (h : d ≤ t) : ix t d = t % 16 := by
  unfold ix place
  rw [if_pos h]
  simp
theorem Top.ix {t d L : Nat} (h : Top t d L) : ix t d = if 3 < L then 64 else 16 * L + d / 16 ^ L % 16 := by
  unfold Wl.ix
  rw [h.place]
  split <;> rfl
theorem due_ix {n d : Nat} (hd : d < 18446744073709551616) : ix n d = n % 16 ↔ d ≤ n := by
  constructor
  · intro h
    rcases Nat.lt_or_ge n d with h1 | h1
    · obtain ⟨L, hL⟩ := Top.is h1 hd
      rw [hL.ix] at h
      split at h
      · omega
      · by_cases e : L = 0
        · subst e
          have h2 := hL.up
          have h3 := hL.at_
          simp only [Nat.zero_add, Nat.pow_one, Nat.pow_zero, Nat.div_one, Nat.mul_zero] at h h2 h3
          omega
        · omega
    · exact h1
  · exact ix_due
/-- Time goes from t to n: whether a slot is emptied; whether a timer leaves its place. -/
def em (t n k : Nat) : Bool := decide (k < 16 * (place t n).1) || (decide ((place t n).1 < 4) && decide (16 * (place t n).1 + t / 16 ^ (place t n).1 % 16 ≤ k) && decide (k ≤ ix t n))
def gn (t n d : Nat) : Bool := em t n (ix t d) || (decide ((place t n).1 = 4) && decide (ix t d = 64) && decide (ix n d < 64))
theorem em_iff {t n k : Nat} : em t n k = true ↔ k < 16 * (place t n).1 ∨ ((place t n).1 < 4 ∧ 16 * (place t n).1 + t / 16 ^ (place t n).1 % 16 ≤ k ∧ k ≤ ix t n) := by
  simp [em, and_assoc]
theorem em_far (t n : Nat) : em t n 64 = false := by
  obtain ⟨h1, h2⟩ := place_lt t n
  have := ix_le t n
  cases h : em t n 64 with
  | false => rfl
  | true =>
    rcases em_iff.1 h with h3 | ⟨h3, h4, h5⟩
    · omega
    · unfold ix at h5
      omega
theorem Top.on {t n d L M : Nat} (h : Top t d L) (k : Top t n M) (hl : M < L) : Top n d L := by
  have e1 := div_same k.up (m := L) (by omega)
  have e2 := div_same k.up (m := L + 1) (by omega)
  exact ⟨h.lt, by rw [← e2]; exact h.up, by rw [← e1]; exact h.at_⟩
theorem moved {t n d : Nat} (h : t ≤ n) (hn : n < 18446744073709551616) (hd : d < 18446744073709551616) (hg : gn t n d = false) : ix n d = ix t d := by
  rcases Nat.lt_or_eq_of_le h with h1 | rfl
  · obtain ⟨M, hM⟩ := Top.is h1 hn
    unfold gn at hg
    rw [Bool.or_eq_false_iff] at hg
    obtain ⟨g1, g2⟩ := hg
    have hne : ¬ (ix t d < 16 * (place t n).1 ∨ ((place t n).1 < 4 ∧ 16 * (place t n).1 + t / 16 ^ (place t n).1 % 16 ≤ ix t d ∧ ix t d ≤ ix t n)) := fun e => by
      rw [em_iff.2 e] at g1; cases g1
    by_cases hb : 3 < M
    · have hp : (place t n).1 = 4 := by rw [hM.place, if_pos hb]
      have hi : ix t d = 64 := by
        have := ix_le t d
        rw [hp] at hne
        omega
      have : ¬ ix n d < 64 := fun e => by simp [hp, hi, e] at g2
      have := ix_le n d
      omega
    · have hp : place t n = (M, n / 16 ^ M % 16) := by rw [hM.place, if_neg hb]
      have hin : ix t n = 16 * M + n / 16 ^ M % 16 := by rw [hM.ix, if_neg hb]
      rw [hin, hp] at hne
      simp only at hne
      have a1 := hM.at_
      have a2 := hM.up
      rw [dps, dps] at a2
      rcases Nat.lt_or_ge t d with h2 | h2
      · obtain ⟨L, hL⟩ := Top.is h2 hd
        have hx := hL.ix
        rcases Nat.lt_trichotomy L M with h3 | h3 | h3
        · rw [if_neg (by omega)] at hx
          have : d / 16 ^ L % 16 < 16 := Nat.mod_lt _ (by decide)
          omega
        · subst h3
          rw [if_neg hb] at hx
          have b1 := hL.at_
          have b2 := hL.up
          rw [dps, dps] at b2
          have hT : Top n d L := ⟨hL.lt, by rw [dps, dps]; omega, by omega⟩
          rw [hT.ix, if_neg hb, hx]
        · rw [(hL.on hM h3).ix, hx]
      · exfalso
        have hx := ix_due h2
        apply hne
        by_cases e : M = 0
        · subst e
          right
          simp only [Nat.pow_zero, Nat.div_one, Nat.mul_zero, Nat.zero_add] at a1 a2 ⊢
          omega
        · left; omega
  · rfl
end Go.Proofs.Ytogfpakopckfoaa.Wl
