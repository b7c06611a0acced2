/- The plain mathematics of CRC-32, over natural numbers below 2^32: one halving, eight of them, bytes in their order; that it goes by exclusive or, and that it loses nothing. No program is spoken of. -/
import Derived.KernelRfl
namespace Go.Proofs.Ythppijlfaoegpaa.Crc

theorem xor_swap (a b c d : Nat) : (a ^^^ b) ^^^ (c ^^^ d) = (a ^^^ c) ^^^ (b ^^^ d) := by
  rw [Nat.xor_assoc, Nat.xor_assoc, ← Nat.xor_assoc b, Nat.xor_comm b c, Nat.xor_assoc c]
theorem xor_back (a b : Nat) : (a ^^^ b) ^^^ b = a := by rw [Nat.xor_assoc, Nat.xor_self, Nat.xor_zero]
theorem xor_inj {a b c : Nat} (h : a ^^^ c = b ^^^ c) : a = b := by rw [← xor_back a c, h, xor_back]
theorem xor_injl {a b c : Nat} (h : c ^^^ a = c ^^^ b) : a = b := by
  rw [Nat.xor_comm c a, Nat.xor_comm c b] at h; exact xor_inj h
theorem xor_zero_eq {a b : Nat} (h : a ^^^ b = 0) : a = b := by
  have e : b ^^^ b = 0 := Nat.xor_self b
  rw [← e] at h; exact xor_inj h
theorem xor_lt {a b : Nat} (ha : a < 4294967296) (hb : b < 4294967296) : a ^^^ b < 4294967296 :=
  Nat.xor_lt_two_pow (n := 32) ha hb

/-- One halving. -/
def step (r : Nat) : Nat := if r % 2 = 1 then r / 2 ^^^ 3988292384 else r / 2

theorem step_odd {r : Nat} (h : r % 2 = 1) : step r = r / 2 ^^^ 3988292384 := by unfold step; rw [if_pos h]
theorem step_ev {r : Nat} (h : ¬ r % 2 = 1) : step r = r / 2 := by unfold step; rw [if_neg h]

theorem step_lt {r : Nat} (h : r < 4294967296) : step r < 4294967296 := by
  unfold step
  split
  · exact xor_lt (by omega) (by omega)
  · omega

theorem step_xor (a b : Nat) : step (a ^^^ b) = step a ^^^ step b := by
  have hx := @Nat.xor_mod_two_eq_one a b
  by_cases ha : a % 2 = 1 <;> by_cases hb : b % 2 = 1
  · have : ¬ (a ^^^ b) % 2 = 1 := by rw [hx]; simp [ha, hb]
    rw [step_ev this, step_odd ha, step_odd hb, Nat.xor_div_two, xor_swap, Nat.xor_self, Nat.xor_zero]
  · have : (a ^^^ b) % 2 = 1 := by rw [hx]; simp [ha]; omega
    rw [step_odd this, step_odd ha, step_ev hb, Nat.xor_div_two, Nat.xor_assoc, Nat.xor_assoc, Nat.xor_comm (b / 2)]
  · have : (a ^^^ b) % 2 = 1 := by rw [hx]; simp [hb]; omega
    rw [step_odd this, step_ev ha, step_odd hb, Nat.xor_div_two, Nat.xor_assoc]
  · have : ¬ (a ^^^ b) % 2 = 1 := by rw [hx]; omega
    rw [step_ev this, step_ev ha, step_ev hb, Nat.xor_div_two]

theorem step_zero {r : Nat} (h : r < 4294967296) (e : step r = 0) : r = 0 := by
  by_cases ho : r % 2 = 1
  · rw [step_odd ho] at e
    have := xor_zero_eq e
    omega
  · rw [step_ev ho] at e; omega

theorem step_two (q : Nat) : step (2 * q) = q := by
  have : ¬ (2 * q) % 2 = 1 := by omega
  rw [step_ev this]; omega

/-- So many halvings. -/
def steps : Nat → Nat → Nat
  | 0, r => r
  | n + 1, r => steps n (step r)

theorem steps_succ (n r : Nat) : steps (n + 1) r = step (steps n r) := by
  induction n generalizing r with
  | zero => rfl
  | succ n ih => rw [steps, ih, steps]
theorem steps_add (n m r : Nat) : steps (n + m) r = steps m (steps n r) := by
  induction n generalizing r with
  | zero => rw [Nat.zero_add, steps]
  | succ n ih => rw [Nat.succ_add, steps, ih, steps]
theorem steps_lt {n r : Nat} (h : r < 4294967296) : steps n r < 4294967296 := by
  induction n generalizing r with
  | zero => exact h
  | succ n ih => exact ih (step_lt h)
theorem steps_xor (n a b : Nat) : steps n (a ^^^ b) = steps n a ^^^ steps n b := by
  induction n generalizing a b with
  | zero => rfl
  | succ n ih => rw [steps, step_xor, ih, steps, steps]
theorem steps_zero {n r : Nat} (h : r < 4294967296) (e : steps n r = 0) : r = 0 := by
  induction n generalizing r with
  | zero => exact e
  | succ n ih => exact step_zero h (ih (step_lt h) e)
theorem steps_pow (n q : Nat) : steps n (2 ^ n * q) = q := by
  induction n generalizing q with
  | zero => rw [steps, Nat.pow_zero, Nat.one_mul]
  | succ n ih => rw [steps, Nat.pow_succ, Nat.mul_comm (2 ^ n) 2, Nat.mul_assoc, step_two, ih]
theorem steps_inj {n a b : Nat} (ha : a < 4294967296) (hb : b < 4294967296) (h : steps n a = steps n b) : a = b := by
  have e : steps n (a ^^^ b) = 0 := by rw [steps_xor, h, Nat.xor_self]
  exact xor_zero_eq (steps_zero (xor_lt ha hb) e)

theorem split8 (r : Nat) : 2 ^ 8 * (r / 2 ^ 8) ^^^ r % 2 ^ 8 = r := by
  apply Nat.eq_of_testBit_eq
  intro i
  rw [Nat.testBit_xor, Nat.mul_comm, Nat.testBit_mul_two_pow, Nat.testBit_mod_two_pow, Nat.testBit_div_two_pow]
  by_cases h : 8 ≤ i
  · have h2 : ¬ i < 8 := by omega
    have e : i - 8 + 8 = i := by omega
    simp [h, h2, e]
  · have h2 : i < 8 := by omega
    simp [h, h2]

/-- A byte taken in, as the document says it. -/
def one (r c : Nat) : Nat := steps 8 (r ^^^ c)

/-- A byte taken in by the table of all bytes' rests. -/
theorem one_table (r c : Nat) : r / 256 ^^^ steps 8 (r % 256 ^^^ c) = one r c := by
  unfold one
  have e : r ^^^ c = 2 ^ 8 * (r / 2 ^ 8) ^^^ (r % 2 ^ 8 ^^^ c) := by
    rw [← Nat.xor_assoc, split8]
  have k : steps 8 (2 ^ 8 * (r / 2 ^ 8) ^^^ (r % 2 ^ 8 ^^^ c)) = steps 8 (2 ^ 8 * (r / 2 ^ 8)) ^^^ steps 8 (r % 2 ^ 8 ^^^ c) := steps_xor 8 _ _
  rw [e, k, steps_pow]
theorem one_lt {r c : Nat} (hr : r < 4294967296) (hc : c < 256) : one r c < 4294967296 := steps_lt (xor_lt hr (by omega))
theorem one_xor (a b c d : Nat) : one (a ^^^ b) (c ^^^ d) = one a c ^^^ one b d := by
  unfold one; rw [xor_swap, steps_xor]

/-- The rest behind bytes. -/
def run (r : Nat) (l : List UInt8) : Nat := l.foldl (fun r c => one r c.toNat) r

theorem run_nil (r : Nat) : run r [] = r := by unfold run; rw [List.foldl_nil]
theorem run_cons (r : Nat) (c : UInt8) (l : List UInt8) : run r (c :: l) = run (one r c.toNat) l := by unfold run; rw [List.foldl_cons]
theorem run_append (r : Nat) (l m : List UInt8) : run r (l ++ m) = run (run r l) m := by
  induction l generalizing r with
  | nil => rw [List.nil_append, run_nil]
  | cons c l ih => rw [List.cons_append, run_cons, ih, run_cons]
theorem run_snoc (r : Nat) (l : List UInt8) (c : UInt8) : run r (l ++ [c]) = one (run r l) c.toNat := by
  rw [run_append, run_cons, run_nil]
theorem run_lt {r : Nat} (l : List UInt8) (h : r < 4294967296) : run r l < 4294967296 := by
  induction l generalizing r with
  | nil => rw [run_nil]; exact h
  | cons c l ih => rw [run_cons]; exact ih (one_lt h (UInt8.toNat_lt c))
theorem run_xor : ∀ (l m : List UInt8) (a b : Nat), l.length = m.length → run (a ^^^ b) (List.zipWith (· ^^^ ·) l m) = run a l ^^^ run b m
  | [], [], _, _, _ => by rw [List.zipWith_nil_left, run_nil, run_nil, run_nil]
  | [], _ :: _, _, _, h => by simp at h
  | _ :: _, [], _, _, h => by simp at h
  | c :: l, d :: m, a, b, h => by
    rw [List.zipWith_cons_cons, run_cons, UInt8.toNat_xor, one_xor, run_xor l m _ _ (by simpa using h), run_cons, run_cons]
theorem run_zeros (n : Nat) : run 0 (List.replicate n 0) = 0 := by
  induction n with
  | zero => rw [List.replicate_zero, run_nil]
  | succ n ih =>
    have e : one 0 (0 : UInt8).toNat = 0 := by decide
    rw [List.replicate_succ, run_cons, e]
    exact ih
theorem zip_zeros (l : List UInt8) : List.zipWith (· ^^^ ·) l (List.replicate l.length 0) = l := by
  induction l with
  | nil => rfl
  | cons c l ih => rw [List.length_cons, List.replicate_succ, List.zipWith_cons_cons, ih, UInt8.xor_zero]
theorem zip_self (l : List UInt8) : List.zipWith (· ^^^ ·) l l = List.replicate l.length 0 := by
  induction l with
  | nil => rfl
  | cons c l ih => rw [List.length_cons, List.replicate_succ, List.zipWith_cons_cons, ih, UInt8.xor_self]
/-- How two rests are unlike hangs on how many bytes come behind alone. -/
theorem run_unlike (a b : Nat) (l : List UInt8) : run a l ^^^ run b l = run (a ^^^ b) (List.replicate l.length 0) := by
  rw [← zip_self, run_xor l l a b rfl]
theorem run_inj {a b : Nat} (l : List UInt8) (ha : a < 4294967296) (hb : b < 4294967296) (h : run a l = run b l) : a = b := by
  induction l generalizing a b with
  | nil => rw [run_nil, run_nil] at h; exact h
  | cons c l ih =>
    rw [run_cons, run_cons] at h
    have hc := UInt8.toNat_lt c
    have := ih (one_lt ha hc) (one_lt hb hc) h
    have := steps_inj (xor_lt ha (by omega)) (xor_lt hb (by omega)) this
    exact xor_inj this

/-- Bytes as one number, the first one lowest. -/
def val : List UInt8 → Nat
  | [] => 0
  | c :: l => c.toNat ^^^ 2 ^ 8 * val l

theorem run_val (r : Nat) (l : List UInt8) : run r l = steps (8 * l.length) (r ^^^ val l) := by
  induction l generalizing r with
  | nil => rw [run_nil, val, Nat.xor_zero, List.length_nil, Nat.mul_zero, steps]
  | cons c l ih =>
    rw [run_cons, ih, val, List.length_cons, Nat.mul_succ, Nat.add_comm (8 * l.length) 8, steps_add, one, ← Nat.xor_assoc, steps_xor 8 (r ^^^ c.toNat), steps_pow]
theorem val_cons_mod (c : UInt8) (l : List UInt8) : val (c :: l) % 2 ^ 8 = c.toNat := by
  have hc := UInt8.toNat_lt c
  rw [val, Nat.xor_mod_two_pow, Nat.mul_mod_right, Nat.xor_zero]
  omega
theorem val_cons_div (c : UInt8) (l : List UInt8) : val (c :: l) / 2 ^ 8 = val l := by
  have hc := UInt8.toNat_lt c
  have e : c.toNat / 2 ^ 8 = 0 := by omega
  rw [val, Nat.xor_div_two_pow, e, Nat.zero_xor]
  omega
theorem val_lt (l : List UInt8) : val l < 2 ^ (8 * l.length) := by
  induction l with
  | nil => exact Nat.one_pos
  | cons c l ih =>
    have h1 := val_cons_mod c l
    have h2 := val_cons_div c l
    have hc := UInt8.toNat_lt c
    rw [List.length_cons, Nat.mul_succ, Nat.pow_add]
    omega
theorem val_inj : ∀ (l m : List UInt8), l.length = m.length → val l = val m → l = m
  | [], [], _, _ => rfl
  | [], _ :: _, h, _ => by simp at h
  | _ :: _, [], h, _ => by simp at h
  | c :: l, d :: m, h, e => by
    have h1 := val_cons_mod c l
    have h2 := val_cons_div c l
    rw [e] at h1 h2
    rw [val_cons_mod] at h1
    rw [val_cons_div] at h2
    rw [val_inj l m (by simpa using h) h2.symm, UInt8.toNat_inj.1 h1.symm]
/-- Four bytes or fewer are told by the rest. -/
theorem run_four {r : Nat} (l m : List UInt8) (hr : r < 4294967296) (hl : l.length = m.length) (h4 : m.length ≤ 4) (h : run r l = run r m) : l = m := by
  have bound : ∀ k : List UInt8, k.length ≤ 4 → val k < 4294967296 := by
    intro k hk
    have h1 := val_lt k
    have h2 : 2 ^ (8 * k.length) ≤ 2 ^ 32 := Nat.pow_le_pow_right (by omega) (by omega)
    omega
  rw [run_val, run_val, hl] at h
  exact val_inj l m hl (xor_injl (steps_inj (xor_lt hr (bound l (by omega))) (xor_lt hr (bound m h4)) h))

/-- All bits turned. -/
def neg (r : Nat) : Nat := r ^^^ 4294967295
theorem neg_lt {r : Nat} (h : r < 4294967296) : neg r < 4294967296 := xor_lt h (by omega)
theorem neg_neg (r : Nat) : neg (neg r) = r := xor_back r _
theorem neg_inj {a b : Nat} (h : neg a = neg b) : a = b := xor_inj h
theorem neg_xor (a b : Nat) : neg a ^^^ neg b = a ^^^ b := by unfold neg; rw [xor_swap, Nat.xor_self, Nat.xor_zero]

/-- The sum with more bytes behind. -/
def more (s : Nat) (l : List UInt8) : Nat := neg (run (neg s) l)
theorem more_lt {s : Nat} (l : List UInt8) (h : s < 4294967296) : more s l < 4294967296 := neg_lt (run_lt l (neg_lt h))
theorem more_nil (s : Nat) : more s [] = s := neg_neg s
theorem more_append (s : Nat) (l m : List UInt8) : more s (l ++ m) = more (more s l) m := by
  unfold more; rw [run_append, neg_neg]
theorem more_inj {a b : Nat} (l : List UInt8) (ha : a < 4294967296) (hb : b < 4294967296) (h : more a l = more b l) : a = b :=
  neg_inj (run_inj l (neg_lt ha) (neg_lt hb) (neg_inj h))
theorem more_unlike (a b : Nat) (l : List UInt8) : more a l ^^^ more b l = more (a ^^^ b) (List.replicate l.length 0) ^^^ more 0 (List.replicate l.length 0) := by
  unfold more
  rw [neg_xor, neg_xor, run_unlike, run_unlike, neg_xor, neg_xor, Nat.xor_zero, List.length_replicate]
theorem more_over (l m : List UInt8) (h : l.length = m.length) : more 0 l ^^^ more 0 m ^^^ more 0 (List.replicate l.length 0) = more 0 (List.zipWith (· ^^^ ·) l m) := by
  have hz : (List.zipWith (· ^^^ ·) l m).length = l.length := by rw [List.length_zipWith]; omega
  have e : run (neg 0) (List.zipWith (· ^^^ ·) l m) = run (neg 0) l ^^^ run (neg 0) m ^^^ run (neg 0) (List.replicate l.length 0) := by
    rw [← run_xor l m _ _ h, ← hz, ← run_xor (List.zipWith (· ^^^ ·) l m) _ _ _ (by rw [List.length_replicate]), zip_zeros, Nat.xor_self, Nat.zero_xor]
  unfold more
  rw [e, neg_xor]
  unfold neg
  rw [← Nat.xor_assoc]
/-- The sum tells four bytes or fewer between the same ones. -/
theorem more_four {s : Nat} (p l m q : List UInt8) (hs : s < 4294967296) (hl : l.length = m.length) (h4 : m.length ≤ 4) (h : more s (p ++ l ++ q) = more s (p ++ m ++ q)) : l = m := by
  unfold more at h
  rw [run_append, run_append, run_append, run_append] at h
  have hp := run_lt p (neg_lt hs)
  exact run_four l m hp hl h4 (run_inj q (run_lt l hp) (run_lt m hp) (neg_inj h))

theorem neg_int (r : Nat) (h : r < 4294967296) : neg r = 4294967295 - r := by
  unfold neg
  have e : r ^^^ 4294967295 = ((BitVec.ofNat 32 r) ^^^ (BitVec.allOnes 32)).toNat := by
    rw [BitVec.toNat_xor, BitVec.toNat_ofNat, BitVec.toNat_allOnes, Nat.mod_eq_of_lt (by omega)]
  rw [e, BitVec.xor_allOnes, BitVec.toNat_not, BitVec.toNat_ofNat, Nat.mod_eq_of_lt (by omega)]

end Go.Proofs.Ythppijlfaoegpaa.Crc
