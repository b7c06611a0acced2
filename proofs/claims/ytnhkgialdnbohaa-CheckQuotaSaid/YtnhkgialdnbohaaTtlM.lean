/- The plain mathematics of float64 as the model has it: what a word's bits are worth, how two words stand to each other, what is left without the fraction, and that rounding keeps the order and leaves exact numbers alone. No condition: every lemma says its own. -/
import Derived.Laws.FloatArith
namespace Go.Proofs.Ytnhkgialdnbohaa
namespace Flt
open Ieee

theorem sw : double.signWeight = 9223372036854775808 := rfl
theorem bn : double.binade = 4503599627370496 := rfl
theorem ir : double.infRung = 9218868437227405312 := rfl
theorem lp : double.leastPlace = -1074 := rfl
theorem fb : double.fractionBits = 52 := rfl

/-- What a rung is worth, in units of 2^-1074. -/
def val (r : Nat) : Nat := if r < 4503599627370496 then r else (4503599627370496 + r % 4503599627370496) * 2 ^ (r / 4503599627370496 - 1)

theorem val_lo {r : Nat} (h : r < 4503599627370496) : val r = r := if_pos h
theorem val_hi {r : Nat} (h : 4503599627370496 ≤ r) : val r = (4503599627370496 + r % 4503599627370496) * 2 ^ (r / 4503599627370496 - 1) := if_neg (by omega)

theorem val_zero : val 0 = 0 := rfl

theorem val_lt {r s : Nat} (h : r < s) : val r < val s := by
  by_cases hs : s < 4503599627370496
  · rw [val_lo hs, val_lo (by omega)]; exact h
  rw [val_hi (r := s) (by omega)]
  by_cases hr : r < 4503599627370496
  · rw [val_lo hr]
    have h1 : 1 ≤ 2 ^ (s / 4503599627370496 - 1) := Nat.one_le_two_pow
    have h2 := Nat.mul_le_mul (Nat.le_add_right 4503599627370496 (s % 4503599627370496)) h1
    omega
  rw [val_hi (r := r) (by omega)]
  by_cases he : r / 4503599627370496 = s / 4503599627370496
  · rw [he]
    exact Nat.mul_lt_mul_of_pos_right (by omega) (Nat.two_pow_pos _)
  · have hlt : r / 4503599627370496 < s / 4503599627370496 := by omega
    have e1 : 2 ^ (s / 4503599627370496 - 1) = 2 ^ (r / 4503599627370496 - 1) * 2 ^ (s / 4503599627370496 - r / 4503599627370496) := by
      rw [← Nat.pow_add]; congr 1; omega
    have h2 : 2 ≤ 2 ^ (s / 4503599627370496 - r / 4503599627370496) := by
      have := Nat.pow_le_pow_right (n := 2) (by omega) (show 1 ≤ s / 4503599627370496 - r / 4503599627370496 by omega)
      simpa using this
    rw [e1]
    have hp : 0 < 2 ^ (r / 4503599627370496 - 1) := Nat.two_pow_pos _
    generalize 2 ^ (r / 4503599627370496 - 1) = P at *
    generalize 2 ^ (s / 4503599627370496 - r / 4503599627370496) = Q at *
    calc (4503599627370496 + r % 4503599627370496) * P < (4503599627370496 * 2) * P := Nat.mul_lt_mul_of_pos_right (by omega) hp
      _ = 4503599627370496 * (P * 2) := by rw [Nat.mul_assoc, Nat.mul_comm 2 P]
      _ ≤ (4503599627370496 + s % 4503599627370496) * (P * Q) := Nat.mul_le_mul (by omega) (Nat.mul_le_mul_left _ h2)

theorem val_lt_iff {r s : Nat} : val r < val s ↔ r < s := by
  refine ⟨fun h => ?_, val_lt⟩
  by_cases h1 : r < s
  · exact h1
  by_cases h2 : r = s
  · subst h2; omega
  · have := val_lt (show s < r by omega); omega
theorem val_le {r s : Nat} (h : r ≤ s) : val r ≤ val s := by
  by_cases e : r = s
  · subst e; exact Nat.le_refl _
  · exact Nat.le_of_lt (val_lt (by omega))
theorem val_inj {r s : Nat} (h : val r = val s) : r = s := by
  have h1 := @val_lt_iff r s
  have h2 := @val_lt_iff s r
  omega

/-- A word's rung and sign. -/
abbrev sgn (b : Nat) : Bool := b / 9223372036854775808 % 2 == 1

/-- A word as a whole number, in the order of the numbers. -/
def key (b : Nat) : Int := if b < 9223372036854775808 then (b : Int) else 9223372036854775808 - (b : Int)

theorem key_spec (b : Nat) : (b < 9223372036854775808 ∧ key b = b) ∨ (9223372036854775808 ≤ b ∧ key b = 9223372036854775808 - (b : Int)) := by
  unfold key; split <;> omega

theorem sgn_spec (b : Nat) (h : b < 18446744073709551616) : sgn b = decide (9223372036854775808 ≤ b) := by
  unfold sgn; rw [Bool.eq_iff_iff]; simp; omega

theorem read_num (b : Nat) (h : b % 9223372036854775808 < 9218868437227405312) : ∃ (m : Nat) (i : Int), double.read b = .number (sgn b) m i ∧ -1074 ≤ i ∧ m * 2 ^ (i + 1074).toNat = val (b % 9223372036854775808) := by
  unfold Format.read
  simp only [sw, bn, ir, lp]
  by_cases h1 : b % 9223372036854775808 < 4503599627370496
  · refine ⟨_, _, if_pos h1, by omega, ?_⟩
    rw [val_lo h1]
    simp
  · refine ⟨_, _, (if_neg h1).trans (if_pos h), by omega, ?_⟩
    rw [val_hi (by omega)]
    congr 2
    omega

theorem read_inf (b : Nat) (h : (b % 9223372036854775808) = 9218868437227405312) : double.read b = .infinity (sgn b) := by
  unfold Format.read
  simp only [sw, bn, ir, lp]
  exact (if_neg (by omega)).trans ((if_neg (by omega)).trans (if_pos h))

theorem read_nan (b : Nat) (h : 9218868437227405312 < (b % 9223372036854775808)) : ∃ s f, double.read b = .nan s f := by
  unfold Format.read
  simp only [sw, bn, ir, lp]
  exact ⟨_, _, (if_neg (by omega)).trans ((if_neg (by omega)).trans (if_neg (by omega)))⟩

theorem cmp_lt {a b : Int} (h : a < b) : compare a b = .lt := by
  show compareOfLessAndEq a b = _
  unfold compareOfLessAndEq; rw [if_pos h]
theorem cmp_eq {a b : Int} (h : a = b) : compare a b = .eq := by
  show compareOfLessAndEq a b = _
  unfold compareOfLessAndEq; rw [if_neg (by omega), if_pos h]
theorem cmp_gt {a b : Int} (h : b < a) : compare a b = .gt := by
  show compareOfLessAndEq a b = _
  unfold compareOfLessAndEq; rw [if_neg (by omega), if_neg (by omega)]

theorem cmp_iff {a b c d : Int} (h1 : a < b ↔ c < d) (h2 : a = b ↔ c = d) : compare a b = compare c d := by
  show compareOfLessAndEq a b = compareOfLessAndEq c d
  unfold compareOfLessAndEq
  by_cases h : c < d
  · rw [if_pos h, if_pos (h1.2 h)]
  · rw [if_neg h, if_neg (fun k => h (h1.1 k))]
    by_cases g : c = d
    · rw [if_pos g, if_pos (h2.2 g)]
    · rw [if_neg g, if_neg (fun k => g (h2.1 k))]

/-- The number with its sign. -/
def sg (s : Bool) (m : Nat) : Int := if s then -(m : Int) else m

theorem signed_eq (s : Bool) (m u : Nat) : signed s m u = sg s (m * 2 ^ u) := by
  unfold signed sg
  rw [Nat.shiftLeft_eq]

theorem sg_mul (s : Bool) (m c : Nat) : sg s (m * c) = sg s m * (c : Int) := by
  unfold sg
  cases s <;> simp [Int.neg_mul]

theorem order_num (s t : Bool) (m n : Nat) (i j : Int) (hi : -1074 ≤ i) (hj : -1074 ≤ j) :
    Datum.order (.number s m i) (.number t n j) = some (compare (sg s (m * 2 ^ (i + 1074).toNat)) (sg t (n * 2 ^ (j + 1074).toNat))) := by
  show some (compare (signed s m (i - min i j).toNat) (signed t n (j - min i j).toNat)) = _
  rw [signed_eq, signed_eq]
  congr 1
  have e1 : m * 2 ^ (i + 1074).toNat = m * 2 ^ (i - min i j).toNat * 2 ^ (min i j + 1074).toNat := by
    rw [Nat.mul_assoc, ← Nat.pow_add]; congr 2; omega
  have e2 : n * 2 ^ (j + 1074).toNat = n * 2 ^ (j - min i j).toNat * 2 ^ (min i j + 1074).toNat := by
    rw [Nat.mul_assoc, ← Nat.pow_add]; congr 2; omega
  rw [e1, e2, sg_mul s (m * 2 ^ (i - min i j).toNat), sg_mul t (n * 2 ^ (j - min i j).toNat)]
  have hp : (0 : Int) < ((2 ^ (min i j + 1074).toNat : Nat) : Int) := by
    have := Nat.two_pow_pos (min i j + 1074).toNat
    omega
  generalize ((2 ^ (min i j + 1074).toNat : Nat) : Int) = c at *
  generalize sg s _ = x
  generalize sg t _ = y
  refine cmp_iff ?_ ?_
  · exact ⟨fun h => Int.mul_lt_mul_of_pos_right h hp, fun h => Int.lt_of_mul_lt_mul_right h (Int.le_of_lt hp)⟩
  · exact ⟨fun h => by rw [h], fun h => Int.eq_of_mul_eq_mul_right (by omega) h⟩

theorem key_cmp (x y : Nat) (hx : x < 18446744073709551616) (hy : y < 18446744073709551616) : compare (sg (sgn x) (val (x % 9223372036854775808))) (sg (sgn y) (val (y % 9223372036854775808))) = compare (key x) (key y) := by
  have a := @val_lt_iff (x % 9223372036854775808) (y % 9223372036854775808)
  have b := @val_lt_iff (y % 9223372036854775808) (x % 9223372036854775808)
  have c := @val_lt_iff 0 (x % 9223372036854775808)
  have d := @val_lt_iff 0 (y % 9223372036854775808)
  rw [val_zero] at c d
  rw [sgn_spec x hx, sgn_spec y hy]
  unfold sg
  simp only [decide_eq_true_eq]
  have kx := key_spec x
  have ky := key_spec y
  generalize val (x % 9223372036854775808) = vx at *
  generalize val (y % 9223372036854775808) = vy at *
  generalize key x = kx at *
  generalize key y = ky at *
  refine cmp_iff ?_ ?_
  · split <;> split <;> omega
  · split <;> split <;> omega

/-- HOW TWO WORDS STAND TO EACH OTHER. -/
theorem order_key (x y : Nat) (hx : x < 18446744073709551616) (hy : y < 18446744073709551616) (nx : x % 9223372036854775808 ≤ 9218868437227405312) (ny : y % 9223372036854775808 ≤ 9218868437227405312) :
    double.order x y = some (compare (key x) (key y)) := by
  have kx := key_spec x
  have ky := key_spec y
  unfold Format.order
  by_cases ix : x % 9223372036854775808 = 9218868437227405312 <;> by_cases iy : y % 9223372036854775808 = 9218868437227405312
  · rw [read_inf x ix, read_inf y iy, sgn_spec x hx, sgn_spec y hy]
    show some (compare _ _) = _
    congr 1
    by_cases a : 9223372036854775808 ≤ x <;> by_cases b : 9223372036854775808 ≤ y
    · rw [decide_eq_true a, decide_eq_true b, cmp_eq (by omega)]; rfl
    · rw [decide_eq_true a, decide_eq_false b, cmp_lt (by omega)]; rfl
    · rw [decide_eq_false a, decide_eq_true b, cmp_gt (by omega)]; rfl
    · rw [decide_eq_false a, decide_eq_false b, cmp_eq (by omega)]; rfl
  · obtain ⟨m, i, h, _, _⟩ := read_num y (by omega)
    rw [read_inf x ix, h, sgn_spec x hx]
    show some (if decide (9223372036854775808 ≤ x) = true then Ordering.lt else Ordering.gt) = _
    congr 1
    by_cases a : 9223372036854775808 ≤ x
    · rw [cmp_lt (by omega), if_pos (decide_eq_true a)]
    · rw [cmp_gt (by omega), decide_eq_false a]; rfl
  · obtain ⟨m, i, h, _, _⟩ := read_num x (by omega)
    rw [read_inf y iy, h, sgn_spec y hy]
    show some (if decide (9223372036854775808 ≤ y) = true then Ordering.gt else Ordering.lt) = _
    congr 1
    by_cases a : 9223372036854775808 ≤ y
    · rw [cmp_gt (by omega), if_pos (decide_eq_true a)]
    · rw [cmp_lt (by omega), decide_eq_false a]; rfl
  · obtain ⟨m, i, h, hi, hm⟩ := read_num x (by omega)
    obtain ⟨n, j, g, hj, hn⟩ := read_num y (by omega)
    rw [h, g, order_num _ _ _ _ _ _ hi hj, hm, hn, key_cmp x y hx hy]

theorem order_nan_left (x y : Nat) (h : 9218868437227405312 < (x % 9223372036854775808)) : double.order x y = none := by
  obtain ⟨s, f, e⟩ := read_nan x h
  unfold Format.order
  rw [e]
  rfl
theorem order_nan_right (x y : Nat) (h : 9218868437227405312 < (y % 9223372036854775808)) : double.order x y = none := by
  obtain ⟨s, f, e⟩ := read_nan y h
  unfold Format.order
  rw [e]
  cases double.read x <;> rfl

theorem pw {a b : Nat} (h : a = b) : 2 ^ a = 2 ^ b := by rw [h]

/-- As many least units as make one. -/
def two (k : Nat) : Nat := 2 ^ k
theorem two_pos (k : Nat) : 0 < two k := Nat.two_pow_pos k
def U : Nat := two 1074
theorem U_eq (k : Nat) (h : k = 1074) : 2 ^ k = U := by
  show two k = two 1074
  rw [h]
theorem U_pos : 0 < U := two_pos 1074
theorem U_is : ∃ k : Nat, k = 1074 ∧ U = 2 ^ k := ⟨_, rfl, (U_eq _ rfl).symm⟩

/-- What is left without the fraction. -/
def fl (r : Nat) : Nat := val r / U

theorem fl_mono {r s : Nat} (h : r ≤ s) : fl r ≤ fl s := Nat.div_le_div_right (val_le h)

theorem cut_zero (neg : Bool) (n d : Nat) : Toward.zero.cut neg n d = n / 2 ^ d := by
  show n / (1 <<< min d (n.log2 + 2)) + 0 = _
  rw [Nat.add_zero, Nat.shiftLeft_eq, Nat.one_mul]
  by_cases h : d ≤ n.log2 + 2
  · rw [Nat.min_eq_left h]
  · have h1 : n < 2 ^ (n.log2 + 1) := Nat.lt_log2_self
    have h2 : 2 ^ (n.log2 + 1) ≤ 2 ^ (n.log2 + 2) := Nat.pow_le_pow_right (by omega) (by omega)
    have h3 : 2 ^ (n.log2 + 2) ≤ 2 ^ d := Nat.pow_le_pow_right (by omega) (by omega)
    rw [Nat.min_eq_right (by omega), Nat.div_eq_of_lt (by omega), Nat.div_eq_of_lt (by omega)]

theorem floor_num (m : Nat) (i : Int) (hi : -1074 ≤ i) : (m <<< i.toNat) / 2 ^ (-i).toNat = m * 2 ^ (i + 1074).toNat / U := by
  rw [Nat.shiftLeft_eq]
  by_cases h : 0 ≤ i
  · have e1 : (-i).toNat = 0 := by omega
    have e2 : (i + 1074).toNat = i.toNat + 1074 := by omega
    rw [e1, e2, Nat.pow_zero, Nat.div_one, Nat.pow_add, ← Nat.mul_assoc, U_eq _ rfl, Nat.mul_div_cancel _ U_pos]
  · have e1 : i.toNat = 0 := by omega
    have e2 : U = 2 ^ (-i).toNat * 2 ^ (i + 1074).toNat := by rw [← Nat.pow_add, U_eq _ (by omega)]
    rw [e1, e2, Nat.pow_zero, Nat.mul_one, Nat.mul_div_mul_right _ _ (Nat.two_pow_pos _)]

theorem toInt_num (b : Nat) (h : b % 9223372036854775808 < 9218868437227405312) : (double.read b).toInt .zero = some (sg (sgn b) (fl (b % 9223372036854775808))) := by
  obtain ⟨m, i, e, hi, hm⟩ := read_num b h
  rw [e]
  show some (signed (sgn b) (Toward.zero.cut (sgn b) (m <<< i.toNat) (-i).toNat) 0) = _
  rw [cut_zero, floor_num m i hi, hm, signed_eq, Nat.pow_zero, Nat.mul_one]
  rfl

/-- 'n / 2 ^ d', to the nearest, and between two to the even one. -/
def re (n d : Nat) : Nat := n / 2 ^ d + (if 2 ^ d < 2 * (n % 2 ^ d) ∨ (2 ^ d = 2 * (n % 2 ^ d) ∧ n / 2 ^ d % 2 = 1) then 1 else 0)

theorem cut_even (neg : Bool) (n d : Nat) : Toward.even.cut neg n d = re n d := by
  show n / (1 <<< min d (n.log2 + 2)) + (decide ((1 <<< min d (n.log2 + 2)) < 2 * (n % (1 <<< min d (n.log2 + 2)))) || ((1 <<< min d (n.log2 + 2)) == 2 * (n % (1 <<< min d (n.log2 + 2))) && n / (1 <<< min d (n.log2 + 2)) % 2 == 1)).toNat = _
  rw [Nat.shiftLeft_eq, Nat.one_mul]
  have key : ∀ g : Nat, n / g + (decide (g < 2 * (n % g)) || (g == 2 * (n % g) && n / g % 2 == 1)).toNat = n / g + (if g < 2 * (n % g) ∨ (g = 2 * (n % g) ∧ n / g % 2 = 1) then 1 else 0) := by
    intro g
    congr 1
    by_cases h : g < 2 * (n % g) ∨ (g = 2 * (n % g) ∧ n / g % 2 = 1)
    · rw [if_pos h]
      have : (decide (g < 2 * (n % g)) || (g == 2 * (n % g) && n / g % 2 == 1)) = true := by simpa using h
      rw [this]; rfl
    · rw [if_neg h]
      have : (decide (g < 2 * (n % g)) || (g == 2 * (n % g) && n / g % 2 == 1)) = false := by
        rw [← Bool.not_eq_true]; intro k; exact h (by simpa using k)
      rw [this]; rfl
  rw [key]
  by_cases h : d ≤ n.log2 + 2
  · rw [Nat.min_eq_left h]; rfl
  · have h1 : n < 2 ^ (n.log2 + 1) := Nat.lt_log2_self
    have h2 : 2 ^ (n.log2 + 2) = 2 ^ (n.log2 + 1) * 2 := Nat.pow_succ ..
    have h3 : 2 ^ (n.log2 + 2) ≤ 2 ^ d := Nat.pow_le_pow_right (by omega) (by omega)
    rw [Nat.min_eq_right (by omega)]
    unfold re
    rw [Nat.div_eq_of_lt (show n < 2 ^ (n.log2 + 2) by omega), Nat.mod_eq_of_lt (show n < 2 ^ (n.log2 + 2) by omega), Nat.div_eq_of_lt (show n < 2 ^ d by omega), Nat.mod_eq_of_lt (show n < 2 ^ d by omega)]
    rw [if_neg (by omega), if_neg (by omega)]

theorem re_scale (n d k : Nat) : re (n * 2 ^ k) (d + k) = re n d := by
  have hp : 0 < 2 ^ k := Nat.two_pow_pos k
  unfold re
  rw [Nat.pow_add, Nat.mul_div_mul_right _ _ hp, Nat.mul_mod_mul_right]
  congr 1
  have e1 : 2 ^ d * 2 ^ k < 2 * (n % 2 ^ d * 2 ^ k) ↔ 2 ^ d < 2 * (n % 2 ^ d) := by
    rw [← Nat.mul_assoc]; exact Nat.mul_lt_mul_right hp
  have e2 : 2 ^ d * 2 ^ k = 2 * (n % 2 ^ d * 2 ^ k) ↔ 2 ^ d = 2 * (n % 2 ^ d) := by
    rw [← Nat.mul_assoc]; exact Nat.mul_right_cancel_iff hp ..
  simp only [e1, e2]

theorem re_lo (n d : Nat) : n / 2 ^ d ≤ re n d := Nat.le_add_right _ _
theorem re_hi (n d : Nat) : re n d ≤ n / 2 ^ d + 1 := by unfold re; split <;> omega

theorem re_mono {n m : Nat} (d : Nat) (h : n ≤ m) : re n d ≤ re m d := by
  have hq : n / 2 ^ d ≤ m / 2 ^ d := Nat.div_le_div_right h
  by_cases e : n / 2 ^ d = m / 2 ^ d
  · have a := Nat.div_add_mod n (2 ^ d)
    have b := Nat.div_add_mod m (2 ^ d)
    rw [e] at a
    have hr : n % 2 ^ d ≤ m % 2 ^ d := by omega
    unfold re
    rw [e]
    generalize n % 2 ^ d = r at *
    generalize m % 2 ^ d = s at *
    generalize m / 2 ^ d = q at *
    split <;> split <;> omega
  · have := re_hi n d
    have := re_lo m d
    omega

theorem re_exact (n d : Nat) : re (n * 2 ^ d) d = n := by
  have hp : 0 < 2 ^ d := Nat.two_pow_pos d
  unfold re
  rw [Nat.mul_div_cancel _ hp, Nat.mul_mod_left, if_neg (by omega)]
  omega

/-- Where the last digit stands that is kept of a number in units of 2^-2148, and the rung of that number. -/
def dd (V : Nat) : Nat := max (V.log2 - 52) 1074
def nr (V : Nat) : Nat := min ((dd V - 1074) * 4503599627370496 + re V (dd V)) 9218868437227405312

theorem re_zero (d : Nat) : re 0 d = 0 := by have := re_exact 0 d; rw [Nat.zero_mul] at this; exact this
theorem dd_zero : dd 0 = 1074 := by unfold dd; rw [Nat.log2_zero]; omega
theorem nr_zero : nr 0 = 0 := by unfold nr; rw [re_zero, dd_zero]; omega

theorem log2_mul (m k : Nat) (h : m ≠ 0) : (m * 2 ^ k).log2 = m.log2 + k := by
  have h1 : 2 ^ m.log2 ≤ m := Nat.log2_self_le h
  have h2 : m < 2 ^ (m.log2 + 1) := Nat.lt_log2_self
  have hp : 0 < 2 ^ k := Nat.two_pow_pos k
  have hne : m * 2 ^ k ≠ 0 := by
    have := Nat.mul_pos (Nat.pos_of_ne_zero h) hp
    omega
  refine (Nat.log2_eq_iff hne).2 ⟨?_, ?_⟩
  · rw [Nat.pow_add]; exact Nat.mul_le_mul_right _ h1
  · have e : 2 ^ (m.log2 + k + 1) = 2 ^ (m.log2 + 1) * 2 ^ k := by rw [← Nat.pow_add]; congr 1; omega
    rw [e]; exact (Nat.mul_lt_mul_right hp).2 h2

theorem nearest_eq (neg : Bool) (m : Nat) (p : Int) (hp : -2148 ≤ p) : double.nearest neg m p = double.word neg (nr (m * 2 ^ (p + 2148).toNat)) := by
  unfold Format.nearest
  by_cases h : m = 0
  · subst h
    rw [if_pos rfl, Nat.zero_mul, nr_zero]
  · rw [if_neg h]
    dsimp only
    rw [cut_even, fb, lp, bn, ir]
    have hl := log2_mul m (p + 2148).toNat h
    unfold nr
    have e0 : (max (p + (m.log2 : Int) - ((52 : Nat) : Int)) (-1074) - -1074).toNat = dd (m * 2 ^ (p + 2148).toNat) - 1074 := by unfold dd; rw [hl]; omega
    rw [e0]
    suffices hs : re (m <<< (p - max (p + (m.log2 : Int) - ((52 : Nat) : Int)) (-1074)).toNat) (max (p + (m.log2 : Int) - ((52 : Nat) : Int)) (-1074) - p).toNat = re (m * 2 ^ (p + 2148).toNat) (dd (m * 2 ^ (p + 2148).toNat)) by rw [hs]
    have hd : (dd (m * 2 ^ (p + 2148).toNat) : Int) = max (p + (m.log2 : Int) - 52) (-1074) + 2148 := by unfold dd; rw [hl]; omega
    have e52 : (((52 : Nat) : Int)) = 52 := rfl
    rw [e52]
    generalize max (p + (m.log2 : Int) - 52) (-1074) = last at *
    generalize dd (m * 2 ^ (p + 2148).toNat) = D at *
    rw [Nat.shiftLeft_eq]
    by_cases g : p ≤ last
    · have e1 : (p - last).toNat = 0 := by omega
      have e2 : D = (last - p).toNat + (p + 2148).toNat := by omega
      rw [e1, e2, re_scale, Nat.pow_zero, Nat.mul_one]
    · have e1 : (last - p).toNat = 0 := by omega
      have e2 : (p + 2148).toNat = (p - last).toNat + D := by omega
      have e3 := re_scale (m * 2 ^ (p - last).toNat) 0 D
      rw [Nat.zero_add] at e3
      rw [e1, e2, Nat.pow_add, ← Nat.mul_assoc, e3]

theorem nr_mono {V W : Nat} (h : V ≤ W) : nr V ≤ nr W := by
  unfold nr
  suffices hs : (dd V - 1074) * 4503599627370496 + re V (dd V) ≤ (dd W - 1074) * 4503599627370496 + re W (dd W) by omega
  by_cases hV : V = 0
  · subst hV
    rw [re_zero, dd_zero]; omega
  have hl : V.log2 ≤ W.log2 := (Nat.le_log2 (by omega)).2 (Nat.le_trans (Nat.log2_self_le hV) h)
  by_cases hd : dd V = dd W
  · rw [hd]; exact Nat.add_le_add_left (re_mono _ h) _
  · have h1 : dd V < dd W := by unfold dd at *; omega
    have hV1 : V < 2 ^ (V.log2 + 1) := Nat.lt_log2_self
    have hV2 : 2 ^ (V.log2 + 1) ≤ 9007199254740992 * 2 ^ dd V := by
      have : (9007199254740992 : Nat) = 2 ^ 53 := rfl
      rw [this, ← Nat.pow_add]
      exact Nat.pow_le_pow_right (by omega) (by unfold dd; omega)
    have a : V / 2 ^ dd V < 9007199254740992 := Nat.div_lt_of_lt_mul (by rw [Nat.mul_comm]; omega)
    have hW1 : 2 ^ W.log2 ≤ W := Nat.log2_self_le (by omega)
    have hW2 : 4503599627370496 * 2 ^ dd W = 2 ^ W.log2 := by
      have : (4503599627370496 : Nat) = 2 ^ 52 := rfl
      rw [this, ← Nat.pow_add]; congr 1; unfold dd at *; omega
    have b : 4503599627370496 ≤ W / 2 ^ dd W := (Nat.le_div_iff_mul_le (Nat.two_pow_pos _)).2 (by omega)
    have c := re_hi V (dd V)
    have d := re_lo W (dd W)
    have e : 1074 ≤ dd V := by unfold dd; omega
    omega

theorem nr_exact (r : Nat) (h : r ≤ 9218868437227405312) : nr (val r * U) = r := by
  by_cases h0 : r = 0
  · subst h0; rw [val_zero, Nat.zero_mul, nr_zero]
  obtain ⟨K, hK⟩ : ∃ K : Nat, K = 1074 := ⟨_, rfl⟩
  rw [← U_eq K hK]
  unfold nr
  by_cases h1 : r < 4503599627370496
  · rw [val_lo h1]
    have hl := log2_mul r K h0
    have h2 : r.log2 < 52 := (Nat.log2_lt h0).2 h1
    have e : dd (r * 2 ^ K) = K := by unfold dd; rw [hl]; omega
    rw [e, re_exact]; omega
  · rw [val_hi (by omega)]
    have hm : 4503599627370496 + r % 4503599627370496 ≠ 0 := by omega
    have h2 : (4503599627370496 + r % 4503599627370496).log2 = 52 := (Nat.log2_eq_iff hm).2 ⟨by omega, by omega⟩
    have e : 2 ^ (r / 4503599627370496 - 1) * 2 ^ K = 2 ^ (r / 4503599627370496 - 1 + K) := (Nat.pow_add ..).symm
    rw [Nat.mul_assoc, e]
    have hl := log2_mul _ (r / 4503599627370496 - 1 + K) hm
    have e2 : dd ((4503599627370496 + r % 4503599627370496) * 2 ^ (r / 4503599627370496 - 1 + K)) = r / 4503599627370496 - 1 + K := by unfold dd; rw [hl, h2]; omega
    rw [e2, re_exact]; omega

theorem nr_le (V : Nat) : nr V ≤ 9218868437227405312 := Nat.min_le_right _ _

/-- Numbers of at most 53 digits stand on a rung. -/
theorem rep (m e : Nat) (hm : m < 9007199254740992) (he : e ≤ 2045) : ∃ r, r < 9218868437227405312 ∧ val r = m * 2 ^ e := by
  by_cases h0 : m = 0
  · subst h0; exact ⟨0, by omega, by rw [Nat.zero_mul]; rfl⟩
  have hl : m.log2 < 53 := (Nat.log2_lt h0).2 hm
  have h1 : 2 ^ m.log2 ≤ m := Nat.log2_self_le h0
  have h2 : m < 2 ^ (m.log2 + 1) := Nat.lt_log2_self
  by_cases h : 52 ≤ m.log2 + e
  · have a : 4503599627370496 ≤ m * 2 ^ (52 - m.log2) := by
      have : (4503599627370496 : Nat) = 2 ^ m.log2 * 2 ^ (52 - m.log2) := by
        rw [← Nat.pow_add, Nat.add_sub_cancel' (by omega)]
      rw [this]; exact Nat.mul_le_mul_right _ h1
    have b : m * 2 ^ (52 - m.log2) < 9007199254740992 := by
      have : (9007199254740992 : Nat) = 2 ^ (m.log2 + 1) * 2 ^ (52 - m.log2) := by
        rw [← Nat.pow_add]; have : m.log2 + 1 + (52 - m.log2) = 53 := by omega
        rw [this]
      rw [this]; exact (Nat.mul_lt_mul_right (Nat.two_pow_pos _)).2 h2
    have c : 2 ^ e = 2 ^ (52 - m.log2) * 2 ^ (e - (52 - m.log2)) := by rw [← Nat.pow_add]; congr 1; omega
    rw [c, ← Nat.mul_assoc]
    generalize m * 2 ^ (52 - m.log2) = M at *
    refine ⟨(e - (52 - m.log2) + 1) * 4503599627370496 + (M - 4503599627370496), by omega, ?_⟩
    rw [val_hi (by omega)]
    have e1 : ((e - (52 - m.log2) + 1) * 4503599627370496 + (M - 4503599627370496)) % 4503599627370496 = M - 4503599627370496 := by omega
    have e2 : ((e - (52 - m.log2) + 1) * 4503599627370496 + (M - 4503599627370496)) / 4503599627370496 = e - (52 - m.log2) + 1 := by omega
    have e3 : 4503599627370496 + (M - 4503599627370496) = M := by omega
    rw [e1, e2, e3, Nat.add_sub_cancel]
  · have a : m * 2 ^ e < 4503599627370496 := by
      have : 2 ^ (m.log2 + 1) * 2 ^ e ≤ 4503599627370496 := by
        rw [← Nat.pow_add]; exact Nat.pow_le_pow_right (n := 2) (j := 52) (by omega) (by omega)
      exact Nat.lt_of_lt_of_le ((Nat.mul_lt_mul_right (Nat.two_pow_pos _)).2 h2) this
    exact ⟨m * 2 ^ e, by omega, val_lo a⟩

theorem UU (k : Nat) (h : k = 2148) : 2 ^ k = U * U := by
  obtain ⟨K, hK, hU⟩ := U_is
  rw [hU, ← Nat.pow_add]
  exact pw (by omega)

theorem word_pos (r : Nat) : double.word false r = r := rfl
theorem word_neg (r : Nat) : double.word true r = 9223372036854775808 + r := rfl

theorem mul_fin (x y : Nat) (hx : x % 9223372036854775808 < 9218868437227405312) (hy : y % 9223372036854775808 < 9218868437227405312) :
    double.mul x y = some (double.word (sgn x ^^ sgn y) (nr (val (x % 9223372036854775808) * val (y % 9223372036854775808)))) := by
  obtain ⟨m, i, e1, hi, hm⟩ := read_num x hx
  obtain ⟨n, j, e2, hj, hn⟩ := read_num y hy
  unfold Format.mul
  rw [e1, e2]
  show some (double.nearest (sgn x ^^ sgn y) (m * n) (i + j)) = _
  rw [nearest_eq _ _ _ (by omega)]
  refine congrArg (fun V => some (double.word _ (nr V))) ?_
  have e : 2 ^ (i + j + 2148).toNat = 2 ^ (i + 1074).toNat * 2 ^ (j + 1074).toNat := by rw [← Nat.pow_add]; exact pw (by omega)
  rw [e, ← hm, ← hn, Nat.mul_mul_mul_comm]

theorem add_pos (x y : Nat) (hx : x < 9218868437227405312) (hy : y < 9218868437227405312) : double.add x y = some (nr ((val x + val y) * U)) := by
  have mx : x % 9223372036854775808 = x := Nat.mod_eq_of_lt (by omega)
  have my : y % 9223372036854775808 = y := Nat.mod_eq_of_lt (by omega)
  obtain ⟨m, i, e1, hi, hm⟩ := read_num x (by omega)
  obtain ⟨n, j, e2, hj, hn⟩ := read_num y (by omega)
  have s1 : sgn x = false := by rw [sgn_spec x (by omega), decide_eq_false (by omega)]
  have s2 : sgn y = false := by rw [sgn_spec y (by omega), decide_eq_false (by omega)]
  rw [mx] at hm
  rw [my] at hn
  unfold Format.add
  rw [e1, e2, s1, s2]
  show some (double.nearest _ (signed false m (i - min i j).toNat + signed false n (j - min i j).toNat).natAbs (min i j)) = _
  rw [signed_eq, signed_eq]
  have e3 : (sg false (m * 2 ^ (i - min i j).toNat) + sg false (n * 2 ^ (j - min i j).toNat)) = ((m * 2 ^ (i - min i j).toNat + n * 2 ^ (j - min i j).toNat : Nat) : Int) := by
    unfold sg
    simp only [Bool.false_eq_true, if_false]
    omega
  rw [e3, Int.natAbs_natCast, nearest_eq _ _ _ (by omega)]
  have e4 : (if ((m * 2 ^ (i - min i j).toNat + n * 2 ^ (j - min i j).toNat : Nat) : Int) = 0 then (false && false) else decide (((m * 2 ^ (i - min i j).toNat + n * 2 ^ (j - min i j).toNat : Nat) : Int) < 0)) = false := by
    split
    · rfl
    · rw [decide_eq_false (by omega)]
  rw [e4, word_pos]
  refine congrArg (fun V => some (nr V)) ?_
  have a : 2 ^ (min i j + 2148).toNat = 2 ^ (min i j + 1074).toNat * U := by obtain ⟨K, hK, hU⟩ := U_is; rw [hU, ← Nat.pow_add]; exact pw (by omega)
  have b : 2 ^ (i + 1074).toNat = 2 ^ (i - min i j).toNat * 2 ^ (min i j + 1074).toNat := by rw [← Nat.pow_add]; exact pw (by omega)
  have c : 2 ^ (j + 1074).toNat = 2 ^ (j - min i j).toNat * 2 ^ (min i j + 1074).toNat := by rw [← Nat.pow_add]; exact pw (by omega)
  rw [a, ← Nat.mul_assoc, Nat.add_mul, ← hm, ← hn, b, c, Nat.mul_assoc m, Nat.mul_assoc n]

theorem sub_zero (x : Nat) (h0 : 0 < x) (hx : x < 9218868437227405312) : double.sub 0 x = some (9223372036854775808 + x) := by
  have mx : x % 9223372036854775808 = x := Nat.mod_eq_of_lt (by omega)
  obtain ⟨n, j, e2, hj, hn⟩ := read_num x (by omega)
  have s2 : sgn x = false := by rw [sgn_spec x (by omega), decide_eq_false (by omega)]
  have e1 : double.read 0 = .number false 0 (-1074) := rfl
  rw [mx] at hn
  unfold Format.sub
  rw [e1, e2, s2]
  show some (double.nearest _ (signed false 0 (-1074 - min (-1074) j).toNat + signed true n (j - min (-1074) j).toNat).natAbs (min (-1074) j)) = _
  have em : min (-1074) j = -1074 := by omega
  rw [em]
  have en : (!false) = true := rfl
  rw [en, signed_eq, signed_eq true, Nat.zero_mul]
  have ej : (j - -1074).toNat = (j + 1074).toNat := by omega
  rw [ej, hn]
  have hv : 0 < val x := by have := val_lt h0; rw [val_zero] at this; exact this
  have e3 : sg false 0 + sg true (val x) = -((val x : Nat) : Int) := by unfold sg; simp
  rw [e3, Int.natAbs_neg, Int.natAbs_natCast, nearest_eq _ _ _ (by omega)]
  have e4 : (if -((val x : Nat) : Int) = 0 then (false && true) else decide (-((val x : Nat) : Int) < 0)) = true := by
    rw [if_neg (by omega), decide_eq_true (by omega)]
  rw [e4, word_neg]
  have e5 : 2 ^ ((-1074 : Int) + 2148).toNat = U := U_eq _ (by decide)
  rw [e5, nr_exact x (by omega)]

theorem of_int (n : Nat) : floatOfInt .f64 (n : Int) = nr (n * (U * U)) := by
  show double.nearest (decide ((n : Int) < 0)) ((n : Int).natAbs) 0 = _
  rw [Int.natAbs_natCast, decide_eq_false (by omega), nearest_eq _ _ _ (by omega), UU _ (by decide), word_pos]

/-- A whole number below 2^53 is a float64 by itself. -/
theorem of_small (n : Nat) (h : n < 9007199254740992) : ∃ r, floatOfInt .f64 (n : Int) = r ∧ r < 9218868437227405312 ∧ val r = n * U := by
  obtain ⟨K, hK, hU⟩ := U_is
  obtain ⟨r, hr, hv⟩ := rep n K h (by omega)
  rw [← hU] at hv
  refine ⟨r, ?_, hr, hv⟩
  rw [of_int, ← Nat.mul_assoc, ← hv, nr_exact r (by omega)]

def W : Nat := two 1066
theorem W_eq (k : Nat) (h : k = 1066) : 2 ^ k = W := by
  show two k = two 1066
  rw [h]
theorem W_is : ∃ k : Nat, k = 1066 ∧ W = 2 ^ k := ⟨_, rfl, (W_eq _ rfl).symm⟩
theorem W_U : 256 * W = U := by
  have e : (256 : Nat) = 2 ^ 8 := rfl
  obtain ⟨K, hK, hU⟩ := U_is
  obtain ⟨L, hL, hW⟩ := W_is
  rw [hU, hW, e, ← Nat.pow_add]
  exact pw (by omega)

theorem read_log (b : Nat) (h : b % 9223372036854775808 < 9218868437227405312) : ∃ (m : Nat) (i : Int), double.read b = .number (sgn b) m i ∧ -1074 ≤ i ∧ m * 2 ^ (i + 1074).toNat = val (b % 9223372036854775808) ∧ m < 9007199254740992 := by
  unfold Format.read
  simp only [sw, bn, ir, lp]
  by_cases h1 : b % 9223372036854775808 < 4503599627370496
  · refine ⟨_, _, if_pos h1, by omega, ?_, by omega⟩
    rw [val_lo h1]
    simp
  · refine ⟨_, _, (if_neg h1).trans (if_pos h), by omega, ?_, by omega⟩
    rw [val_hi (by omega)]
    exact congrArg (fun V => _ * V) (pw (by omega))

theorem div_256 (x : Nat) (hx : x < 9218868437227405312) : double.div x 4643211215818981376 = some (nr (val x * W)) := by
  have mx : x % 9223372036854775808 = x := Nat.mod_eq_of_lt (by omega)
  obtain ⟨m, i, e2, hi, hm, hl⟩ := read_log x (by omega)
  have s2 : sgn x = false := by rw [sgn_spec x (by omega), decide_eq_false (by omega)]
  have e1 : double.read 4643211215818981376 = .number false 4503599627370496 (-44) := rfl
  have hl52 : (4503599627370496 : Nat).log2 = 52 := (Nat.log2_eq_iff (by omega)).2 ⟨by omega, by omega⟩
  rw [mx] at hm
  have hml : m.log2 ≤ 52 := by
    by_cases h0 : m = 0
    · subst h0; rw [Nat.log2_zero]; omega
    · have := (Nat.log2_lt (k := 53) h0).2 hl
      omega
  unfold Format.div
  rw [e1, e2, s2]
  show some (double.nearest (false ^^ false) (2 * ((m <<< (54 + (4503599627370496 : Nat).log2 - m.log2)) / 4503599627370496) + ((m <<< (54 + (4503599627370496 : Nat).log2 - m.log2)) % 4503599627370496 != 0).toNat) (i - -44 - ((54 + (4503599627370496 : Nat).log2 - m.log2 : Nat) : Int) - 1)) = _
  rw [hl52]
  generalize hk : 54 + 52 - m.log2 = k
  have e3 : m <<< k = m * 2 ^ (k - 52) * 4503599627370496 := by
    have e : (4503599627370496 : Nat) = 2 ^ 52 := rfl
    rw [Nat.shiftLeft_eq, e, Nat.mul_assoc, ← Nat.pow_add, Nat.sub_add_cancel (by omega)]
  rw [e3, Nat.mul_div_cancel _ (by omega), Nat.mul_mod_left]
  have e4 : (((0 : Nat) != 0).toNat) = 0 := rfl
  rw [e4, Nat.add_zero, nearest_eq _ _ _ (by omega)]
  have e5 : (false ^^ false) = false := rfl
  rw [e5, word_pos]
  refine congrArg (fun V => some (nr V)) ?_
  obtain ⟨L, hL, hW⟩ := W_is
  rw [← hm, hW, Nat.mul_comm 2, Nat.mul_assoc, Nat.mul_assoc, Nat.mul_assoc]
  refine congrArg (fun V => m * V) ?_
  rw [← Nat.pow_add]
  have e6 : 2 * 2 ^ (i - -44 - (k : Int) - 1 + 2148).toNat = 2 ^ ((i - -44 - (k : Int) - 1 + 2148).toNat + 1) := by rw [Nat.pow_succ, Nat.mul_comm]
  rw [e6, ← Nat.pow_add]
  exact pw (by omega)

theorem val_pow (a : Nat) (h : 1 ≤ a) : val (a * 4503599627370496) = 2 ^ (51 + a) := by
  rw [val_hi (by omega), Nat.mul_mod_left, Nat.mul_div_cancel _ (by omega)]
  have e : (4503599627370496 : Nat) = 2 ^ 52 := rfl
  rw [Nat.add_zero, e, ← Nat.pow_add]
  exact pw (by omega)

/-- The powers of 2, from 1 on. -/
theorem val_two (n : Nat) : val ((1023 + n) * 4503599627370496) = U * 2 ^ n := by
  obtain ⟨K, hK, hU⟩ := U_is
  rw [val_pow _ (by omega), hU, ← Nat.pow_add]
  exact pw (by omega)
theorem val_one : val 4607182418800017408 = U := by
  have := val_two 0
  rwa [Nat.pow_zero, Nat.mul_one] at this
theorem val_64 : val 4895412794951729152 = U * 18446744073709551616 := by
  have := val_two 64
  have e : (2 : Nat) ^ 64 = 18446744073709551616 := by decide
  rw [e] at this
  exact this

theorem fl_of (r n q : Nat) (h : val r = n * U + q) (hq : q < U) : fl r = n := by
  unfold fl
  rw [h, Nat.mul_comm, Nat.mul_add_div U_pos, Nat.div_eq_of_lt hq, Nat.add_zero]

theorem fl_zero_of (r : Nat) (h : r < 4607182418800017408) : fl r = 0 := by
  have := val_lt h
  rw [val_one] at this
  exact Nat.div_eq_of_lt this
theorem fl_pos_of (r : Nat) (h : 4607182418800017408 ≤ r) : 1 ≤ fl r := by
  have := val_le h
  rw [val_one] at this
  exact (Nat.le_div_iff_mul_le U_pos).2 (by omega)
theorem fl_lt_of (r : Nat) (h : r < 4895412794951729152) : fl r < 18446744073709551616 := by
  have := val_lt h
  rw [val_64] at this
  exact Nat.div_lt_of_lt_mul this

theorem lt_64 (r n : Nat) (h : val r = n * U) (hn : n < 18446744073709551616) : r < 4895412794951729152 := by
  apply val_lt_iff.1
  rw [val_64, h, Nat.mul_comm]
  exact Nat.mul_lt_mul_of_pos_left hn U_pos

/-- The document's own way to a whole number. -/
theorem fl_bits (r : Nat) (h1 : 4607182418800017408 ≤ r) :
    fl r = (r % 4503599627370496 + 4503599627370496) * 2 ^ (r / 4503599627370496 - 1075) / 2 ^ (1075 - r / 4503599627370496) := by
  have e := floor_num (r % 4503599627370496 + 4503599627370496) ((r / 4503599627370496 : Nat) - 1075 : Int) (by omega)
  rw [Nat.shiftLeft_eq] at e
  have e1 : ((r / 4503599627370496 : Nat) - 1075 : Int).toNat = r / 4503599627370496 - 1075 := by omega
  have e2 : (-((r / 4503599627370496 : Nat) - 1075 : Int)).toNat = 1075 - r / 4503599627370496 := by omega
  have e3 : ((r / 4503599627370496 : Nat) - 1075 + 1074 : Int).toNat = r / 4503599627370496 - 1 := by omega
  rw [e1, e2, e3] at e
  rw [e]
  unfold fl
  rw [val_hi (by omega), Nat.add_comm 4503599627370496]

/-- The rung of a share. -/
def shr (x n : Nat) : Nat := nr (val (x % 9223372036854775808) * (n * U))

theorem shr_def (x n : Nat) : shr x n = nr (val (x % 9223372036854775808) * (n * U)) := by unfold shr; rfl

theorem shr_le (x n : Nat) (h : x % 9223372036854775808 ≤ 4607182418800017408) (hn : n < 9007199254740992) : ∃ f, floatOfInt .f64 (n : Int) = f ∧ f < 9218868437227405312 ∧ val f = n * U ∧ shr x n ≤ f ∧ fl (shr x n) ≤ n ∧ shr x n < 4895412794951729152 := by
  obtain ⟨f, e, hf, hv⟩ := of_small n hn
  have a : shr x n ≤ f := by
    have h1 := val_le h
    rw [val_one] at h1
    have h2 : nr (val (x % 9223372036854775808) * (n * U)) ≤ nr (U * (n * U)) := nr_mono (Nat.mul_le_mul_right _ h1)
    rw [← hv, Nat.mul_comm U, nr_exact f (by omega), hv] at h2
    exact h2
  have b := fl_mono a
  rw [fl_of f n 0 (by rw [hv, Nat.add_zero]) U_pos] at b
  have c := lt_64 f n hv (by omega)
  exact ⟨f, e, hf, hv, a, b, by omega⟩

theorem shr_mono (x y n : Nat) (h : x % 9223372036854775808 ≤ y % 9223372036854775808) : shr x n ≤ shr y n := nr_mono (Nat.mul_le_mul_right _ (val_le h))
theorem shr_zero (x n : Nat) (h : x % 9223372036854775808 = 0) : shr x n = 0 := by unfold shr; rw [h, val_zero, Nat.zero_mul, nr_zero]
theorem shr_one (n : Nat) (hn : n < 9007199254740992) : fl (shr 4607182418800017408 n) = n := by
  obtain ⟨f, e, hf, hv⟩ := of_small n hn
  unfold shr
  have e1 : 4607182418800017408 % 9223372036854775808 = 4607182418800017408 := rfl
  rw [e1, val_one, Nat.mul_comm U, ← hv, nr_exact f (by omega)]
  exact fl_of f n 0 (by rw [hv, Nat.add_zero]) U_pos

end Flt
end Go.Proofs.Ytnhkgialdnbohaa
