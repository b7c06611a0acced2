/- Contracts of crc.Sum and of the document's own (lodgerref02), as in stage 2, and a string's bytes in memory of their own, for this seat's program. -/
import Derived.Test.YtdnkhjikfdalbaaRows
import Derived.KernelRfl
import Derived.WalkKit
import Derived.WalkSpells
import Derived.WalkLawsBesides
import Derived.Laws.BitsAllLaws
import Derived.Lib.Hide
import Derived.Laws.ResultCell
import Derived.Deep.LoopGhost
import Derived.Deep.WholeRow
import Derived.LoopN
import Derived.Lib.Strings
import Derived.Lib.ConvBytes
import Derived.Laws.BytesArg
namespace Go.Proofs.Ytdnkhjikfdalbaa
open Go.RowKit Go.Lib
set_option linter.unusedVariables false
namespace Cr
namespace Crc
theorem xor_swap (a b c d : Nat) : (a ^^^ b) ^^^ (c ^^^ d) = (a ^^^ c) ^^^ (b ^^^ d) := by
  rw [Nat.xor_assoc, Nat.xor_assoc, ← Nat.xor_assoc b, Nat.xor_comm b c, Nat.xor_assoc c]
theorem xor_back (a b : Nat) : (a ^^^ b) ^^^ b = a := by rw [Nat.xor_assoc, Nat.xor_self, Nat.xor_zero]
theorem xor_inj {a b c : Nat} (h : a ^^^ c = b ^^^ c) : a = b := by rw [← xor_back a c, h, xor_back]
theorem xor_injl {a b c : Nat} (h : c ^^^ a = c ^^^ b) : a = b := by
  rw [Nat.xor_comm c a, Nat.xor_comm c b] at h; exact xor_inj h
theorem xor_zero_eq {a b : Nat} (h : a ^^^ b = 0) : a = b := by
  have e : b ^^^ b = 0 := Nat.xor_self b
  rw [← e] at h; exact xor_inj h
theorem xor_lt {a b : Nat} (ha : a < 4294967296) (hb : b < 4294967296) : a ^^^ b < 4294967296 :=
  Nat.xor_lt_two_pow (n := 32) ha hb
/-- One halving. -/
def step (r : Nat) : Nat := if r % 2 = 1 then r / 2 ^^^ 3988292384 else r / 2
theorem step_odd {r : Nat} (h : r % 2 = 1) : step r = r / 2 ^^^ 3988292384 := by unfold step; rw [if_pos h]
theorem step_ev {r : Nat} (h : ¬ r % 2 = 1) : step r = r / 2 := by unfold step; rw [if_neg h]
theorem step_lt {r : Nat} (h : r < 4294967296) : step r < 4294967296 := by
  unfold step
  split
  · exact xor_lt (by omega) (by omega)
  · omega
theorem step_xor (a b : Nat) : step (a ^^^ b) = step a ^^^ step b := by
  have hx := @Nat.xor_mod_two_eq_one a b
  by_cases ha : a % 2 = 1 <;> by_cases hb : b % 2 = 1
  · have : ¬ (a ^^^ b) % 2 = 1 := by rw [hx]; simp [ha, hb]
    rw [step_ev this, step_odd ha, step_odd hb, Nat.xor_div_two, xor_swap, Nat.xor_self, Nat.xor_zero]
  · have : (a ^^^ b) % 2 = 1 := by rw [hx]; simp [ha]; omega
    rw [step_odd this, step_odd ha, step_ev hb, Nat.xor_div_two, Nat.xor_assoc, Nat.xor_assoc, Nat.xor_comm (b / 2)]
  · have : (a ^^^ b) % 2 = 1 := by rw [hx]; simp [hb]; omega
    rw [step_odd this, step_ev ha, step_odd hb, Nat.xor_div_two, Nat.xor_assoc]
  · have : ¬ (a ^^^ b) % 2 = 1 := by rw [hx]; omega
    rw [step_ev this, step_ev ha, step_ev hb, Nat.xor_div_two]
theorem step_zero {r : Nat} (h : r < 4294967296) (e : step r = 0) : r = 0 := by
  by_cases ho : r % 2 = 1
  · rw [step_odd ho] at e
    have := xor_zero_eq e
    omega
  · rw [step_ev ho] at e; omega
theorem step_two (q : Nat) : step (2 * q) = q := by
  have : ¬ (2 * q) % 2 = 1 := by omega
  rw [step_ev this]; omega
/-- So many halvings. -/
def steps : Nat → Nat → Nat
  | 0, r => r
  | n + 1, r => steps n (step r)
theorem steps_succ (n r : Nat) : steps (n + 1) r = step (steps n r) := by
  induction n generalizing r with
  | zero => rfl
  | succ n ih => rw [steps, ih, steps]
theorem steps_add (n m r : Nat) : steps (n + m) r = steps m (steps n r) := by
  induction n generalizing r with
  | zero => rw [Nat.zero_add, steps]
  | succ n ih => rw [Nat.succ_add, steps, ih, steps]
theorem steps_lt {n r : Nat} (h : r < 4294967296) : steps n r < 4294967296 := by
  induction n generalizing r with
  | zero => exact h
  | succ n ih => exact ih (step_lt h)
theorem steps_xor (n a b : Nat) : steps n (a ^^^ b) = steps n a ^^^ steps n b := by
  induction n generalizing a b with
  | zero => rfl
  | succ n ih => rw [steps, step_xor, ih, steps, steps]
theorem steps_zero {n r : Nat} (h : r < 4294967296) (e : steps n r = 0) : r = 0 := by
  induction n generalizing r with
  | zero => exact e
  | succ n ih => exact step_zero h (ih (step_lt h) e)
theorem steps_pow (n q : Nat) : steps n (2 ^ n * q) = q := by
  induction n generalizing q with
  | zero => rw [steps, Nat.pow_zero, Nat.one_mul]
  | succ n ih => rw [steps, Nat.pow_succ, Nat.mul_comm (2 ^ n) 2, Nat.mul_assoc, step_two, ih]
theorem steps_inj {n a b : Nat} (ha : a < 4294967296) (hb : b < 4294967296) (h : steps n a = steps n b) : a = b := by
  have e : steps n (a ^^^ b) = 0 := by rw [steps_xor, h, Nat.xor_self]
  exact xor_zero_eq (steps_zero (xor_lt ha hb) e)
theorem split8 (r : Nat) : 2 ^ 8 * (r / 2 ^ 8) ^^^ r % 2 ^ 8 = r := by
  apply Nat.eq_of_testBit_eq
  intro i
  rw [Nat.testBit_xor, Nat.mul_comm, Nat.testBit_mul_two_pow, Nat.testBit_mod_two_pow, Nat.testBit_div_two_pow]
  by_cases h : 8 ≤ i
  · have h2 : ¬ i < 8 := by omega
    have e : i - 8 + 8 = i := by omega
    simp [h, h2, e]
  · have h2 : i < 8 := by omega
    simp [h, h2]
/-- A byte taken in, as the document says it. -/
def one (r c : Nat) : Nat := steps 8 (r ^^^ c)
/-- A byte taken in by the table of all bytes' rests. -/
theorem one_table (r c : Nat) : r / 256 ^^^ steps 8 (r % 256 ^^^ c) = one r c := by
  unfold one
  have e : r ^^^ c = 2 ^ 8 * (r / 2 ^ 8) ^^^ (r % 2 ^ 8 ^^^ c) := by
    rw [← Nat.xor_assoc, split8]
  have k : steps 8 (2 ^ 8 * (r / 2 ^ 8) ^^^ (r % 2 ^ 8 ^^^ c)) = steps 8 (2 ^ 8 * (r / 2 ^ 8)) ^^^ steps 8 (r % 2 ^ 8 ^^^ c) := steps_xor 8 _ _
  rw [e, k, steps_pow]
theorem one_lt {r c : Nat} (hr : r < 4294967296) (hc : c < 256) : one r c < 4294967296 := steps_lt (xor_lt hr (by omega))
theorem one_xor (a b c d : Nat) : one (a ^^^ b) (c ^^^ d) = one a c ^^^ one b d := by
  unfold one; rw [xor_swap, steps_xor]
/-- The rest behind bytes. -/
def run (r : Nat) (l : List UInt8) : Nat := l.foldl (fun r c => one r c.toNat) r
theorem run_nil (r : Nat) : run r [] = r := by unfold run; rw [List.foldl_nil]
theorem run_cons (r : Nat) (c : UInt8) (l : List UInt8) : run r (c :: l) = run (one r c.toNat) l := by unfold run; rw [List.foldl_cons]
theorem run_append (r : Nat) (l m : List UInt8) : run r (l ++ m) = run (run r l) m := by
  induction l generalizing r with
  | nil => rw [List.nil_append, run_nil]
  | cons c l ih => rw [List.cons_append, run_cons, ih, run_cons]
theorem run_snoc (r : Nat) (l : List UInt8) (c : UInt8) : run r (l ++ [c]) = one (run r l) c.toNat := by
  rw [run_append, run_cons, run_nil]
theorem run_lt {r : Nat} (l : List UInt8) (h : r < 4294967296) : run r l < 4294967296 := by
  induction l generalizing r with
  | nil => rw [run_nil]; exact h
  | cons c l ih => rw [run_cons]; exact ih (one_lt h (UInt8.toNat_lt c))
theorem run_xor : ∀ (l m : List UInt8) (a b : Nat), l.length = m.length → run (a ^^^ b) (List.zipWith (· ^^^ ·) l m) = run a l ^^^ run b m
  | [], [], _, _, _ => by rw [List.zipWith_nil_left, run_nil, run_nil, run_nil]
  | [], _ :: _, _, _, h => by simp at h
  | _ :: _, [], _, _, h => by simp at h
  | c :: l, d :: m, a, b, h => by
    rw [List.zipWith_cons_cons, run_cons, UInt8.toNat_xor, one_xor, run_xor l m _ _ (by simpa using h), run_cons, run_cons]
theorem run_zeros (n : Nat) : run 0 (List.replicate n 0) = 0 := by
  induction n with
  | zero => rw [List.replicate_zero, run_nil]
  | succ n ih =>
    have e : one 0 (0 : UInt8).toNat = 0 := by decide
    rw [List.replicate_succ, run_cons, e]
    exact ih
theorem zip_zeros (l : List UInt8) : List.zipWith (· ^^^ ·) l (List.replicate l.length 0) = l := by
  induction l with
  | nil => rfl
  | cons c l ih => rw [List.length_cons, List.replicate_succ, List.zipWith_cons_cons, ih, UInt8.xor_zero]
theorem zip_self (l : List UInt8) : List.zipWith (· ^^^ ·) l l = List.replicate l.length 0 := by
  induction l with
  | nil => rfl
  | cons c l ih => rw [List.length_cons, List.replicate_succ, List.zipWith_cons_cons, ih, UInt8.xor_self]
/-- How two rests are unlike hangs on how many bytes come behind alone. -/
theorem run_unlike (a b : Nat) (l : List UInt8) : run a l ^^^ run b l = run (a ^^^ b) (List.replicate l.length 0) := by
  rw [← zip_self, run_xor l l a b rfl]
theorem run_inj {a b : Nat} (l : List UInt8) (ha : a < 4294967296) (hb : b < 4294967296) (h : run a l = run b l) : a = b := by
  induction l generalizing a b with
  | nil => rw [run_nil, run_nil] at h; exact h
  | cons c l ih =>
    rw [run_cons, run_cons] at h
    have hc := UInt8.toNat_lt c
    have := ih (one_lt ha hc) (one_lt hb hc) h
    have := steps_inj (xor_lt ha (by omega)) (xor_lt hb (by omega)) this
    exact xor_inj this
/-- Bytes as one number, the first one lowest. -/
def val : List UInt8 → Nat
  | [] => 0
  | c :: l => c.toNat ^^^ 2 ^ 8 * val l
theorem run_val (r : Nat) (l : List UInt8) : run r l = steps (8 * l.length) (r ^^^ val l) := by
  induction l generalizing r with
  | nil => rw [run_nil, val, Nat.xor_zero, List.length_nil, Nat.mul_zero, steps]
  | cons c l ih =>
    rw [run_cons, ih, val, List.length_cons, Nat.mul_succ, Nat.add_comm (8 * l.length) 8, steps_add, one, ← Nat.xor_assoc, steps_xor 8 (r ^^^ c.toNat), steps_pow]
theorem val_cons_mod (c : UInt8) (l : List UInt8) : val (c :: l) % 2 ^ 8 = c.toNat := by
  have hc := UInt8.toNat_lt c
  rw [val, Nat.xor_mod_two_pow, Nat.mul_mod_right, Nat.xor_zero]
  omega
theorem val_cons_div (c : UInt8) (l : List UInt8) : val (c :: l) / 2 ^ 8 = val l := by
  have hc := UInt8.toNat_lt c
  have e : c.toNat / 2 ^ 8 = 0 := by omega
  rw [val, Nat.xor_div_two_pow, e, Nat.zero_xor]
  omega
theorem val_lt (l : List UInt8) : val l < 2 ^ (8 * l.length) := by
  induction l with
  | nil => exact Nat.one_pos
  | cons c l ih =>
    have h1 := val_cons_mod c l
    have h2 := val_cons_div c l
    have hc := UInt8.toNat_lt c
    rw [List.length_cons, Nat.mul_succ, Nat.pow_add]
    omega
theorem val_inj : ∀ (l m : List UInt8), l.length = m.length → val l = val m → l = m
  | [], [], _, _ => rfl
  | [], _ :: _, h, _ => by simp at h
  | _ :: _, [], h, _ => by simp at h
  | c :: l, d :: m, h, e => by
    have h1 := val_cons_mod c l
    have h2 := val_cons_div c l
    rw [e] at h1 h2
    rw [val_cons_mod] at h1
    rw [val_cons_div] at h2
    rw [val_inj l m (by simpa using h) h2.symm, UInt8.toNat_inj.1 h1.symm]
/-- Four bytes or fewer are told by the rest. -/
theorem run_four {r : Nat} (l m : List UInt8) (hr : r < 4294967296) (hl : l.length = m.length) (h4 : m.length ≤ 4) (h : run r l = run r m) : l = m := by
  have bound : ∀ k : List UInt8, k.length ≤ 4 → val k < 4294967296 := by
    intro k hk
    have h1 := val_lt k
    have h2 : 2 ^ (8 * k.length) ≤ 2 ^ 32 := Nat.pow_le_pow_right (by omega) (by omega)
    omega
  rw [run_val, run_val, hl] at h
  exact val_inj l m hl (xor_injl (steps_inj (xor_lt hr (bound l (by omega))) (xor_lt hr (bound m h4)) h))
/-- All bits turned. -/
def neg (r : Nat) : Nat := r ^^^ 4294967295
theorem neg_lt {r : Nat} (h : r < 4294967296) : neg r < 4294967296 := xor_lt h (by omega)
theorem neg_neg (r : Nat) : neg (neg r) = r := xor_back r _
theorem neg_inj {a b : Nat} (h : neg a = neg b) : a = b := xor_inj h
theorem neg_xor (a b : Nat) : neg a ^^^ neg b = a ^^^ b := by unfold neg; rw [xor_swap, Nat.xor_self, Nat.xor_zero]
/-- The sum with more bytes behind. -/
def more (s : Nat) (l : List UInt8) : Nat := neg (run (neg s) l)
theorem more_lt {s : Nat} (l : List UInt8) (h : s < 4294967296) : more s l < 4294967296 := neg_lt (run_lt l (neg_lt h))
theorem more_nil (s : Nat) : more s [] = s := neg_neg s
theorem more_append (s : Nat) (l m : List UInt8) : more s (l ++ m) = more (more s l) m := by
  unfold more; rw [run_append, neg_neg]
theorem more_inj {a b : Nat} (l : List UInt8) (ha : a < 4294967296) (hb : b < 4294967296) (h : more a l = more b l) : a = b :=
  neg_inj (run_inj l (neg_lt ha) (neg_lt hb) (neg_inj h))
theorem more_unlike (a b : Nat) (l : List UInt8) : more a l ^^^ more b l = more (a ^^^ b) (List.replicate l.length 0) ^^^ more 0 (List.replicate l.length 0) := by
  unfold more
  rw [neg_xor, neg_xor, run_unlike, run_unlike, neg_xor, neg_xor, Nat.xor_zero, List.length_replicate]
theorem more_over (l m : List UInt8) (h : l.length = m.length) : more 0 l ^^^ more 0 m ^^^ more 0 (List.replicate l.length 0) = more 0 (List.zipWith (· ^^^ ·) l m) := by
  have hz : (List.zipWith (· ^^^ ·) l m).length = l.length := by rw [List.length_zipWith]; omega
  have e : run (neg 0) (List.zipWith (· ^^^ ·) l m) = run (neg 0) l ^^^ run (neg 0) m ^^^ run (neg 0) (List.replicate l.length 0) := by
    rw [← run_xor l m _ _ h, ← hz, ← run_xor (List.zipWith (· ^^^ ·) l m) _ _ _ (by rw [List.length_replicate]), zip_zeros, Nat.xor_self, Nat.zero_xor]
  unfold more
  rw [e, neg_xor]
  unfold neg
  rw [← Nat.xor_assoc]
/-- The sum tells four bytes or fewer between the same ones. -/
theorem more_four {s : Nat} (p l m q : List UInt8) (hs : s < 4294967296) (hl : l.length = m.length) (h4 : m.length ≤ 4) (h : more s (p ++ l ++ q) = more s (p ++ m ++ q)) : l = m := by
  unfold more at h
  rw [run_append, run_append, run_append, run_append] at h
  have hp := run_lt p (neg_lt hs)
  exact run_four l m hp hl h4 (run_inj q (run_lt l hp) (run_lt m hp) (neg_inj h))
theorem neg_int (r : Nat) (h : r < 4294967296) : neg r = 4294967295 - r := by
  unfold neg
  have e : r ^^^ 4294967295 = ((BitVec.ofNat 32 r) ^^^ (BitVec.allOnes 32)).toNat := by
    rw [BitVec.toNat_xor, BitVec.toNat_ofNat, BitVec.toNat_allOnes, Nat.mod_eq_of_lt (by omega)]
  rw [e, BitVec.xor_allOnes, BitVec.toNat_not, BitVec.toNat_ofNat, Nat.mod_eq_of_lt (by omega)]
end Crc
open Go.RowKit Go.Lib
theorem ret_int {k : IntKind} {a b : Int} (h : a = b) : Ending.returned (.int k a) = .returned (.int k b) := by rw [h]
theorem and1 (r : Nat) (h : r < 4294967296) : bits .and .u32 (r : Int) 1 = ((r % 2 : Nat) : Int) := by
  have := u32_and_nat r 1 h (by omega)
  rw [Nat.and_one_is_mod] at this
  exact this
theorem halved_any (r : Nat) (w : World) (h : r < 4294967296) :
    Calls Try.prog 55 #[.int .u32 r] w fun e w' => e = .returned (.int .u32 (Crc.step r : Nat)) ∧ w = w' := by
  have ha := and1 r h
  by_cases ho : r % 2 = 1
  · have e : ((r % 2 : Nat) : Int) = 1 := by omega
    rw [e] at ha
    have X := Lib.hid (u32_xor_nat (r / 2) 3988292384 (by omega) (by omega))
    rw [Crc.step_odd ho]
    clear e ho
    go_enter Try.func55, Try.ntmps55
    go_wp2
    go_ret
    exact ⟨ret_int (by rw [← X.out]; rfl), rfl⟩
  · have e : ((r % 2 : Nat) : Int) = 0 := by omega
    rw [e] at ha
    rw [Crc.step_ev ho]
    clear e ho
    go_enter Try.func55, Try.ntmps55
    go_wp2
    go_ret
    exact ⟨rfl, rfl⟩
/-- The table of the first k bytes' rests; zeros behind. -/
def tab (k : Nat) : Array Value := ((List.range 256).map fun i => if i < k then Value.int .u32 ((Crc.steps 8 i : Nat) : Int) else .int .u32 0).toArray
theorem tab_size (k : Nat) : (tab k).size = 256 := by simp [tab]
theorem tab_get (k i : Nat) (h : i < 256) : (tab k)[i]? = some (if i < k then Value.int .u32 ((Crc.steps 8 i : Nat) : Int) else .int .u32 0) := by
  unfold tab
  rw [List.getElem?_toArray, List.getElem?_map, List.getElem?_range h]
  rfl
theorem tab_zero : Array.replicate 256 (Value.int .u32 0) = tab 0 := by
  apply Array.ext_getElem?
  intro i
  by_cases h : i < 256
  · rw [tab_get 0 i h, if_neg (by omega), Array.getElem?_replicate, if_pos h]
  · rw [Array.getElem?_eq_none (by simp; omega), Array.getElem?_eq_none (by rw [tab_size]; omega)]
theorem tab_set (k : Nat) (hk : k < 256) : (tab k).setIfInBounds k (.int .u32 ((Crc.steps 8 k : Nat) : Int)) = tab (k + 1) := by
  apply Array.ext_getElem?
  intro i
  rw [Array.getElem?_setIfInBounds]
  by_cases h : i < 256
  · rw [tab_get (k + 1) i h, tab_get k i h]
    by_cases e : k = i
    · subst e; rw [if_pos rfl, if_pos (by rw [tab_size]; exact hk), if_pos (by omega)]
    · rw [if_neg e]
      by_cases l : i < k
      · rw [if_pos l, if_pos (by omega)]
      · rw [if_neg l, if_neg (by omega)]
  · rw [Array.getElem?_eq_none (show (tab (k + 1)).size ≤ i by rw [tab_size]; omega), if_neg (by omega), Array.getElem?_eq_none (by rw [tab_size]; omega)]
theorem tab_one (k : Nat) : (tab k).all (·.oneCell') = true := by
  rw [Array.all_eq_true]
  intro i h
  rw [tab_size] at h
  have e := tab_get k i h
  rw [Array.getElem?_eq_getElem (by rw [tab_size]; exact h)] at e
  rw [Option.some.inj e]
  split <;> rfl
/-- A table lies whole at block b. -/
def Lies (w : World) (b : Nat) : Prop := ∀ i, i < 256 → w.cell? ⟨b, i, none⟩ = some (.int .u32 ((Crc.steps 8 i : Nat) : Int))
set_option maxRecDepth 1000000 in
theorem next_at (b r c x y z : Nat) (w : World) (hx : (x : Int) < 256) (cell : w.cell? ⟨b, x, none⟩ = some (.int .u32 (y : Int)))
    (X8 : bits .xor .u8 ((r : Int) % 256) (c : Int) = (x : Int)) (X : Hid (bits .xor .u32 ((r : Int) / 256) (y : Int) = (z : Int))) :
    Calls Try.prog 48 #[.pointer (some ⟨b, 0, none⟩), .int .u32 r, .int .u8 c] w fun e w' => e = .returned (.int .u32 z) ∧ w = w' := by
  go_enter Try.func48, Try.ntmps48
  go_wp2
  go_ret
  exact ⟨ret_int X.out, rfl⟩
theorem next_any (b r : Nat) (c : Nat) (w : World) (hr : r < 4294967296) (hc : c < 256) (hl : Lies w b) :
    Calls Try.prog 48 #[.pointer (some ⟨b, 0, none⟩), .int .u32 r, .int .u8 c] w fun e w' => e = .returned (.int .u32 (Crc.one r c : Nat)) ∧ w = w' := by
  have hx : r % 256 ^^^ c < 256 := Nat.xor_lt_two_pow (n := 8) (by omega) hc
  have hs : Crc.steps 8 (r % 256 ^^^ c) < 4294967296 := Crc.steps_lt (by omega)
  have X := u32_xor_nat (r / 256) (Crc.steps 8 (r % 256 ^^^ c)) (by omega) hs
  rw [Crc.one_table] at X
  exact next_at b r c _ _ _ w (by omega) (hl _ hx) (u8_xor_nat (r % 256) c (by omega) hc) (Lib.hid X)
/-- How many zeros n counts as. -/
def zn (n : Int) : Nat := if n < 0 then 0 else if n > 100000 then 100000 else n.toNat
theorem zn_le (n : Int) : zn n ≤ 100000 := by unfold zn; split <;> (try split) <;> omega
open Go.RowKit Go.Lib
theorem zero_tab : (∀ w, (zeroValue 87).run Try.prog w = .ok (.agg (Array.replicate 256 (.int .u32 0))) w) ∧ (Try.prog.info? 87).map (·.size) = some 256 :=
  zero_of_info (by kernel_rfl)
theorem below_setRow {B : Nat} {a w : World} (h : Below B a w) {g : Nat} (hg : B ≤ g) (cs : Array Value) : Below B a (w.setRow g cs) :=
  ⟨h.os, h.tape, h.output, by rw [size_setRow]; exact h.size, fun k hk => (setRow_other w g k cs (by omega)).trans (h.block k hk)⟩
set_option maxHeartbeats 4000000 in
set_option maxRecDepth 1000000 in
theorem rests_any (w : World) :
    Calls Try.prog 47 #[] w fun e w' => e = .returned (.agg (tab 256)) ∧ Below w.heap.size w w' := by
  obtain ⟨hv, hi⟩ := zero_tab
  rw [tab_zero] at hv
  have HI := Lib.hid hi
  clear hi
  go_enter Try.func47, Try.ntmps47
  go_wp2
  go_loopg [4] 256 (fun g s4 wx => ∃ i : Nat, i + g = 256 ∧ s4 = .int .i64 i ∧ wx = (w.alloc (.cells (tab 0) 87)).alloc (.cells (tab i) 87))
  case atStart => exact ⟨0, by omega, rfl, rfl⟩
  case round =>
    obtain ⟨i, hig, rfl, rfl⟩ := hrel
    cases gk with
    | zero =>
      obtain rfl : i = 256 := by omega
      have hin : (Try.prog.info? 87).map (·.size) = some (tab 256).size := by rw [tab_size]; exact HI.out
      go_wp2_with (first | (with_reducible refine wpList_load_row rfl 87 (.tmp 1) rfl (w.heap.size + 1) rfl 87 (tab 256) (0, 0) _ (heap_alloc2_new w _ _) Try.underlying87 rfl hin ?_) | (with_reducible refine wpList_store_row rfl 87 (.tmp 0) (.tmp 18) rfl w.heap.size (tab 256) rfl rfl 87 (tab 0) (heap_alloc2_old w _ _) hin (by rw [tab_size, tab_size]) (tab_one 256) ?_))
      have hh := setRow_heap ((w.alloc (.cells (tab 0) 87)).alloc (.cells (tab 256) 87)) w.heap.size (tab 0) (tab 256) 87 _ (heap_alloc2_old w _ _)
      refine bodyPost_ret (v := .agg (tab 256)) (results_cell_row (by rfl) _ _ w.heap.size _ (tab 256) _ _ (by rfl) hh Try.underlying87 rfl hin) rfl ⟨rfl, ?_⟩
      exact below_setRow (((Below.refl _ _).alloc (Nat.le_refl _) _).alloc (by simp) _) (Nat.le_refl _) _
    | succ g =>
      have hi : i < 256 := by omega
      have hiz : (i : Int) < 256 := by omega
      have hs := tab_size i
      go_wp2_with fail
      go_loop [3, 9] (fun r j => ∃ k : Nat, k ≤ 8 ∧ j = .int .i64 k ∧ r = .int .u32 ((Crc.steps k i : Nat) : Int)) (fun _ j => 8 - (intOf j).toNat)
      case atStart => exact ⟨0, by omega, rfl, rfl⟩
      case round =>
        obtain ⟨k, hk, rfl, rfl⟩ := hrel
        have hb : Crc.steps k i < 4294967296 := Crc.steps_lt (by omega)
        by_cases hlt : k < 8
        · go_wp2_with (go_at_call 55; refine (halved_any _ _ hb).mono ?_; rintro e w' ⟨rfl, rfl⟩)
          go_round
          case rel => exact ⟨k + 1, by omega, by go_num, by rw [Crc.steps_succ]⟩
          case measure => simp [intOf]; omega
        · obtain rfl : k = 8 := by omega
          go_wp2
          rw [tab_set i hi]
          go_roundg g
          case measure => omega
          case rel => exact ⟨i + 1, by omega, by go_num, rfl⟩
open Go.RowKit Go.Lib
theorem lies_tab (w : World) (t : TypeId) : Lies (w.alloc (.cells (tab 256) t)) w.heap.size := by
  intro i h
  rw [cell_of_row _ _ i (tab 256) t (0, 0) (heap_alloc_new w _), tab_get 256 i h, if_pos h]
theorem not_u32 (a : Nat) (h : a < 4294967296) : bits .xor .u32 IntKind.u32.max (a : Int) = ((Crc.neg a : Nat) : Int) := by
  have e := u32_xor_nat 4294967295 a (by omega) h
  rw [Nat.xor_comm] at e
  exact e
theorem take_snoc (s : ByteArray) (k : Nat) (h : k < s.size) : s.data.toList.take (k + 1) = s.data.toList.take k ++ [s[k]] := by
  rw [List.take_succ_eq_append_getElem (by simpa using h)]; rfl
set_option maxHeartbeats 4000000 in
set_option maxRecDepth 1000000 in
theorem more_any (a : Nat) (s : ByteArray) (w : World) (ha : a < 4294967296) (hs : s.size ≤ maxLen) :
    Calls Try.prog 34 #[.int .u32 a, .string s] w fun e w' => e = .returned (.int .u32 (Crc.more a s.data.toList : Nat)) ∧ Below w.heap.size w w' := by
  unfold maxLen at hs
  obtain ⟨hv, hi⟩ := zero_tab
  rw [tab_zero] at hv
  have HI := Lib.hid (show (Try.prog.info? 87).map (·.size) = some (tab 256).size by rw [tab_size]; exact hi)
  clear hi
  go_enter Try.func34, Try.ntmps34
  go_wp2_with fail
  refine (rests_any _).mono ?_
  rintro e w1 ⟨rfl, hb⟩
  go_wp2_with (with_reducible refine wpList_store_row rfl 87 (.tmp 5) (.tmp 8) rfl w1.heap.size (tab 256) rfl rfl 87 (tab 0) (heap_alloc_new w1 _) HI.out (by rw [tab_size, tab_size]) (tab_one 256) ?_)
  rw [World.setRow_alloc_new]
  rw [not_u32 a ha]
  have hn := Crc.neg_lt ha
  have hl := Lib.hid (lies_tab w1 87)
  have HB := Lib.hid ((hb.trans (((Below.refl _ _).alloc (Nat.le_refl _) _).mono hb.size)) : Below w.heap.size w (w1.alloc (.cells (tab 256) 87)))
  clear hb hv HI
  generalize w1.alloc (.cells (tab 256) 87) = w2 at *
  generalize w1.heap.size = b at *
  have D := Lib.hid (show Crc.more a s.data.toList = Crc.neg (Crc.run (Crc.neg a) s.data.toList) from rfl)
  generalize Crc.neg a = n at *
  go_loop [6, 13] (fun r i => ∃ k : Nat, k ≤ s.size ∧ i = .int .i64 k ∧ r = .int .u32 ((Crc.run n (s.data.toList.take k) : Nat) : Int)) (fun _ i => s.size - (intOf i).toNat)
  case atStart => exact ⟨0, Nat.zero_le _, rfl, by rw [List.take_zero, Crc.run_nil]⟩
  case round =>
    obtain ⟨k, hk, rfl, rfl⟩ := hrel
    have hr := Crc.run_lt (s.data.toList.take k) hn
    by_cases hlt : k < s.size
    · have E := Lib.hid (show Crc.run n (s.data.toList.take (k + 1)) = Crc.one (Crc.run n (s.data.toList.take k)) s[k].toNat by rw [take_snoc s k hlt, Crc.run_snoc])
      have hc := UInt8.toNat_lt s[k]
      generalize Crc.run n (s.data.toList.take k) = r at *
      go_wp2_with (go_at_call 48; refine (next_any _ _ _ _ hr hc hl.out).mono ?_; rintro e w' ⟨rfl, rfl⟩)
      go_round
      case rel => exact ⟨k + 1, by omega, by go_num, by rw [E.out]⟩
      case measure => simp [intOf]; omega
    · obtain rfl : s.size = k := by omega
      go_wp2
      go_ret
      exact ⟨ret_int (by rw [not_u32 _ hr, D.out, List.take_of_length_le (by simp)]), HB.out⟩
theorem sum_any (s : ByteArray) (w : World) (hs : s.size ≤ maxLen) :
    Calls Try.prog 25 #[.string s] w fun e w' => e = .returned (.int .u32 (Crc.more 0 s.data.toList : Nat)) ∧ Below w.heap.size w w' := by
  have C := Lib.hid (fun w => more_any 0 s w (by omega) hs)
  go_enter Try.func25, Try.ntmps25
  go_wp2_with fail
  refine (C.out _).mono ?_
  rintro e w1 ⟨rfl, hb⟩
  go_wp2
  go_ret
  exact ⟨rfl, hb⟩
theorem Ge.trans {a b c : World} (h : Below a.heap.size a b) (k : Below b.heap.size b c) : Below a.heap.size a c := h.trans (k.mono h.size)
/-- The same, the answer under a name, told of a first world. -/
theorem more_ge (w0 : World) (a m : Nat) (s : ByteArray) (w : World) (ha : a < 4294967296) (hs : s.size ≤ maxLen) (hm : Crc.more a s.data.toList = m) (hw : Below w0.heap.size w0 w) :
    Calls Try.prog 34 #[.int .u32 a, .string s] w fun e w' => e = .returned (.int .u32 (m : Int)) ∧ Below w0.heap.size w0 w' := by
  subst hm
  exact (more_any a s w ha hs).mono fun _ _ ⟨he, hb⟩ => ⟨he, Ge.trans hw hb⟩
theorem sum_ge (w0 : World) (m : Nat) (s : ByteArray) (w : World) (hs : s.size ≤ maxLen) (hm : Crc.more 0 s.data.toList = m) (hw : Below w0.heap.size w0 w) :
    Calls Try.prog 25 #[.string s] w fun e w' => e = .returned (.int .u32 (m : Int)) ∧ Below w0.heap.size w0 w' := by
  subst hm
  exact (sum_any s w hs).mono fun _ _ ⟨he, hb⟩ => ⟨he, Ge.trans hw hb⟩
open Go.RowKit Go.Lib
/-- So many bytes 0. -/
def zstr (n : Nat) : ByteArray := ⟨(List.replicate n (0 : UInt8)).toArray⟩
theorem zstr_list (n : Nat) : (zstr n).data.toList = List.replicate n 0 := by simp [zstr]
theorem zstr_size (n : Nat) : (zstr n).size = n := by rw [size_eq, zstr_list, List.length_replicate]
theorem zstr_snoc (n : Nat) : zstr n ++ (⟨#[0]⟩ : ByteArray) = zstr (n + 1) := by
  apply ByteArray.ext
  apply Array.toList_inj.1
  rw [ByteArray.data_append, Array.toList_append, zstr_list, zstr_list, List.replicate_succ']
open Go.RowKit Go.Lib
theorem val_int {k : IntKind} {a b : Int} (h : a = b) : Value.int k a = .int k b := by rw [h]
theorem step_int (k x : Nat) (h : Crc.steps k x < 4294967296) :
    ((Crc.steps (k + 1) x : Nat) : Int) = if ((Crc.steps k x : Nat) : Int) % 2 = 1 then bits .xor .u32 (((Crc.steps k x : Nat) : Int) / 2) 3988292384 else ((Crc.steps k x : Nat) : Int) / 2 := by
  rw [Crc.steps_succ]
  by_cases ho : Crc.steps k x % 2 = 1
  · rw [if_pos (by omega), Crc.step_odd ho, ← u32_xor_nat (Crc.steps k x / 2) 3988292384 (by omega) (by omega)]; rfl
  · rw [if_neg (by omega), Crc.step_ev ho]; rfl
set_option maxHeartbeats 1000000 in
theorem refone_any (r c : Nat) (w : World) (hr : r < 4294967296) (hc : c < 256) :
    Calls Try.prog 49 #[.int .u32 r, .int .u8 c] w fun e w' => e = .returned (.int .u32 (Crc.one r c : Nat)) ∧ w = w' := by
  have X := u32_xor_nat r c hr (by omega)
  have hx := Crc.xor_lt hr (show c < 4294967296 by omega)
  have O := Lib.hid (show Crc.one r c = Crc.steps 8 (r ^^^ c) from rfl)
  have hc' : (c : Int) < 256 := by omega
  generalize Crc.one r c = o at *
  generalize r ^^^ c = x at *
  go_enter Try.func49, Try.ntmps49
  go_wp2
  go_loop [0, 5] (fun r i => ∃ k : Nat, k ≤ 8 ∧ i = .int .i64 k ∧ r = .int .u32 ((Crc.steps k x : Nat) : Int)) (fun _ i => 8 - (intOf i).toNat)
  case atStart => exact ⟨0, Nat.zero_le _, rfl, rfl⟩
  case round =>
    obtain ⟨k, hk, rfl, rfl⟩ := hrel
    have hb : Crc.steps k x < 4294967296 := Crc.steps_lt hx
    by_cases hlt : k < 8
    · have E := Lib.hid (step_int k x hb)
      have hY0 : 0 ≤ ((Crc.steps k x : Nat) : Int) := by omega
      have hY1 : ((Crc.steps k x : Nat) : Int) < 4294967296 := by omega
      clear hb hx hr X hc hc' O
      generalize ((Crc.steps k x : Nat) : Int) = Y at *
      by_cases ho : Y % 2 = 1
      · go_wp2_with fail
        go_round
        case rel => exact ⟨k + 1, by omega, by go_num, val_int (by rw [E.out, if_pos ho])⟩
        case measure => simp [intOf]; omega
      · have e : Y % 2 = 0 := by omega
        go_wp2
        go_round
        case rel => exact ⟨k + 1, by omega, by go_num, val_int (by rw [E.out, if_neg ho])⟩
        case measure => simp [intOf]; omega
    · obtain rfl : k = 8 := by omega
      go_wp2
      go_ret
      exact ⟨ret_int (by rw [O.out]), rfl⟩
theorem xorF (a : Nat) (h : a < 4294967296) : bits .xor .u32 (a : Int) 4294967295 = ((Crc.neg a : Nat) : Int) := u32_xor_nat a 4294967295 h (by omega)
set_option maxHeartbeats 1000000 in
theorem refmore_any (a : Nat) (s : ByteArray) (w : World) (ha : a < 4294967296) (hs : s.size ≤ maxLen) :
    Calls Try.prog 36 #[.int .u32 a, .string s] w fun e w' => e = .returned (.int .u32 (Crc.more a s.data.toList : Nat)) ∧ w = w' := by
  unfold maxLen at hs
  have X := xorF a ha
  have hn := Crc.neg_lt ha
  have D := Lib.hid (show Crc.more a s.data.toList = Crc.neg (Crc.run (Crc.neg a) s.data.toList) from rfl)
  generalize Crc.more a s.data.toList = m at *
  generalize Crc.neg a = n at *
  go_enter Try.func36, Try.ntmps36
  go_wp2
  go_loop [5, 6] (fun r i => ∃ k : Nat, k ≤ s.size ∧ i = .int .i64 k ∧ r = .int .u32 ((Crc.run n (s.data.toList.take k) : Nat) : Int)) (fun _ i => s.size - (intOf i).toNat)
  case atStart => exact ⟨0, Nat.zero_le _, rfl, by rw [List.take_zero, Crc.run_nil]⟩
  case round =>
    obtain ⟨k, hk, rfl, rfl⟩ := hrel
    have hr := Crc.run_lt (s.data.toList.take k) hn
    by_cases hlt : k < s.size
    · have E := Lib.hid (show Crc.run n (s.data.toList.take (k + 1)) = Crc.one (Crc.run n (s.data.toList.take k)) s[k].toNat by rw [take_snoc s k hlt, Crc.run_snoc])
      have hc := UInt8.toNat_lt s[k]
      generalize Crc.run n (s.data.toList.take k) = r at *
      go_wp2_with (go_at_call 49; refine (refone_any _ _ _ hr hc).mono ?_; rintro e w' ⟨rfl, rfl⟩)
      go_round
      case rel => exact ⟨k + 1, by omega, by go_num, by rw [E.out]⟩
      case measure => simp [intOf]; omega
    · obtain rfl : s.size = k := by omega
      go_wp2
      go_ret
      exact ⟨ret_int (by rw [xorF _ hr, D.out, List.take_of_length_le (by simp)]), rfl⟩
theorem refsum_any (s : ByteArray) (w : World) (hs : s.size ≤ maxLen) :
    Calls Try.prog 27 #[.string s] w fun e w' => e = .returned (.int .u32 (Crc.more 0 s.data.toList : Nat)) ∧ w = w' := by
  have C := Lib.hid (fun w => refmore_any 0 s w (by omega) hs)
  go_enter Try.func27, Try.ntmps27
  go_wp2_with fail
  refine (C.out _).mono ?_
  rintro e w1 ⟨rfl, rfl⟩
  go_wp2
  go_ret
  exact ⟨rfl, rfl⟩
theorem zn_lo {c : Int} (h : c < 0) : zn c = 0 := by unfold zn; rw [if_pos h]
theorem zn_in {c : Int} (h : 0 ≤ c) (h' : c ≤ 100000) : (zn c : Int) = c := by
  unfold zn; rw [if_neg (by omega), if_neg (by omega)]; omega
open Go.RowKit Go.Lib
/-- The bytes l lie at block b, and may be written. -/
structure Row (b : Nat) (l : List UInt8) (W : World) : Prop where
  cell : ∀ j, j < l.length → W.cell? ⟨b, j, none⟩ = some (.int .u8 (((l.getD j 0).toNat : Nat) : Int))
  free : ∀ j, j < l.length → W.frozen? ⟨b, j, none⟩ = false
  there : b < W.heap.size
theorem Row.set {b : Nat} {l : List UInt8} {W : World} (h : Row b l W) (i : Nat) (hi : i < l.length) (v : UInt8) : Row b (l.set i v) (W.setCell ⟨b, i, none⟩ (.int .u8 ((v.toNat : Nat) : Int))) := by
  refine ⟨fun j hj => ?_, fun j hj => ?_, by simp [World.setCell]; exact h.there⟩
  · rw [List.length_set] at hj
    by_cases e : i = j
    · subst e
      rw [World.cell?_setCell_same W _ _ (h.cell i hi), List.getD_eq_getElem?_getD, List.getElem?_set_self hi]
      rfl
    · rw [World.cell?_setCell_other W _ _ _ (by intro h; exact e (by injection h)), h.cell j hj, List.getD_eq_getElem?_getD, List.getD_eq_getElem?_getD, List.getElem?_set_ne e]
  · rw [List.length_set] at hj
    rw [World.frozen?_setCell]; exact h.free j hj
theorem Row.below {b : Nat} {l : List UInt8} {W W' : World} (h : Row b l W) (hb : Below W.heap.size W W') : Row b l W' :=
  ⟨fun j hj => (hb.cell (p := ⟨b, j, none⟩) h.there).trans (h.cell j hj), fun j hj => (hb.frozen (p := ⟨b, j, none⟩) h.there).trans (h.free j hj), Nat.lt_of_lt_of_le h.there hb.size⟩
theorem Row.drew {b : Nat} {l : List UInt8} {W : World} (h : Row b l W) : Row b l W.drew := ⟨h.cell, h.free, h.there⟩
/-- A string's bytes in new memory. -/
theorem bytes_new (W : World) (s : ByteArray) :
    ∃ (cap : Nat) (W1 : World), (convert 9 57 (.string s)).run Try.prog W = .ok (.slice (some ⟨W.heap.size, 0, none⟩) s.size cap) W1 ∧ Row W.heap.size s.data.toList W1 ∧ Below W.heap.size W W1 := by
  refine ⟨_, _, Lib.run_convert_string_bytes W 9 57 5 s Try.underlying9 Try.underlying57 Try.underlying5, ⟨fun j hj => ?_, fun j hj => ?_, ?_⟩, ⟨rfl, ?_, ?_, ?_, fun k hk => bytesWorld_at_old W _ s k hk⟩⟩
  · rw [← Go.Lib.size_eq] at hj
    exact bytesWorld_cell W _ s j hj
  · rw [← Go.Lib.size_eq] at hj
    have hn := bytesWorld_at_new W 5 s
    have hz : s.size ≤ (bytesCells W 5 s).size := by
      unfold bytesCells
      rw [Array.size_append, Array.size_map]
      exact Nat.le_add_right _ _
    simp only [World.frozen?, hn]
    simp
    omega
  · rw [bytesWorld_size]; omega
  · simp [bytesWorld, World.freeze, World.alloc, World.drew, -World.alloc_eq, -World.drew_eq]
  · simp [bytesWorld, World.freeze, World.alloc, World.drew, -World.alloc_eq, -World.drew_eq]
  · rw [bytesWorld_size]; omega
/-- And back. -/
theorem bytes_back {b cap : Nat} {l : List UInt8} {W : World} (h : Row b l W) :
    (convert 57 9 (.slice (some ⟨b, 0, none⟩) l.length cap)).run Try.prog W = .ok (.string ⟨l.toArray⟩) W := by
  have := run_convert_bytes_arg (P := Try.prog) W 57 5 Try.underlying57 Try.underlying5 b 0 l.length cap (l.map fun x => (x.toNat : Int)) (by simp) (fun i hi => by
    rw [Nat.zero_add, h.cell i hi]
    simp [List.getD, List.getElem?_map, List.getElem?_eq_getElem hi]) 9 Try.underlying9
  rw [this]
  congr 2
  unfold strOfNums
  rw [List.map_map]
  congr 2
  conv => rhs; rw [← List.map_id l]
  apply List.map_congr_left
  intro x _
  simp
/-- Bytes that are the same but for four of them, one behind the other, have the same sum just if they are the same. -/
theorem burst_eq (l l' : List UInt8) (i : Nat) (hl : l'.length = l.length) (ht : l'.take i = l.take i) (hd : l'.drop (i + 4) = l.drop (i + 4)) (h : Crc.more 0 l' = Crc.more 0 l) : l' = l := by
  have parts : ∀ k : List UInt8, k.take i ++ (k.drop i).take 4 ++ k.drop (i + 4) = k := by
    intro k
    rw [List.append_assoc, ← List.drop_drop, List.take_append_drop, List.take_append_drop]
  have hm : ((l'.drop i).take 4).length = ((l.drop i).take 4).length := by
    rw [List.length_take, List.length_take, List.length_drop, List.length_drop, hl]
  have h4 : ((l.drop i).take 4).length ≤ 4 := List.length_take_le _ _
  rw [← parts l', ← parts l, ht, hd] at h ⊢
  rw [Crc.more_four _ _ _ _ (by omega) hm h4 h]
end Cr

end Go.Proofs.Ytdnkhjikfdalbaa
