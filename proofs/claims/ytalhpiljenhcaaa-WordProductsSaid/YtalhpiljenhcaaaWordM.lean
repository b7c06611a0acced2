/- Plain arithmetic of bytes, for every number and every list of bytes: the bytes of a number (putL), the number of bytes (leN), and that each comes back of the other. -/
import Derived.WalkKit
namespace Go.Proofs.Ytalhpiljenhcaaa

/-- The first k bytes of n, the lowest first. -/
def putL : Nat → Nat → List UInt8
  | _, 0 => []
  | n, k + 1 => UInt8.ofNat (n % 256) :: putL (n / 256) k

/-- The number of bytes, the lowest first. -/
def leN : List UInt8 → Nat
  | [] => 0
  | b :: r => b.toNat + 256 * leN r

theorem putL_length : ∀ (k n : Nat), (putL n k).length = k
  | 0, _ => rfl
  | k + 1, n => by simp [putL, putL_length k]

theorem toNat_ofNat_mod (n : Nat) : (UInt8.ofNat (n % 256)).toNat = n % 256 := by
  simp

theorem leN_putL : ∀ (k n : Nat), leN (putL n k) = n % 256 ^ k
  | 0, n => by simp [putL, leN, Nat.mod_one]
  | k + 1, n => by
    rw [putL, leN, leN_putL k, toNat_ofNat_mod, Nat.pow_succ, Nat.mul_comm (256 ^ k) 256, Nat.mod_mul]

theorem byte_lt (b : UInt8) : b.toNat < 256 := b.toNat_lt

theorem leN_lt : ∀ (l : List UInt8), leN l < 256 ^ l.length
  | [] => by simp [leN]
  | b :: r => by
    have h := leN_lt r
    have hb := byte_lt b
    rw [leN, List.length_cons, Nat.pow_succ]
    omega

theorem leN_lt_of {l : List UInt8} {k : Nat} (h : l.length ≤ k) : leN l < 256 ^ k :=
  Nat.lt_of_lt_of_le (leN_lt l) (Nat.pow_le_pow_right (by omega) h)

theorem putL_leN : ∀ (l : List UInt8), putL (leN l) l.length = l
  | [] => rfl
  | b :: r => by
    have hb := byte_lt b
    have e1 : (leN (b :: r)) % 256 = b.toNat := by rw [leN]; omega
    have e2 : (leN (b :: r)) / 256 = leN r := by rw [leN]; omega
    rw [List.length_cons, putL, e1, e2, putL_leN r]
    simp

theorem leN_append : ∀ (a b : List UInt8), leN (a ++ b) = leN a + 256 ^ a.length * leN b
  | [], b => by simp [leN]
  | x :: a, b => by
    rw [List.cons_append, leN, leN_append a b, leN, List.length_cons, Nat.pow_succ, Nat.mul_add, Nat.add_assoc, Nat.mul_comm (256 ^ a.length) 256, Nat.mul_assoc]

theorem leN_zeros : ∀ (k : Nat), leN (List.replicate k 0) = 0
  | 0 => rfl
  | k + 1 => by rw [List.replicate_succ, leN, leN_zeros k]; rfl

/-- A size as it counts: at least 0, at most 8. -/
def clampN (s : Int) : Nat := if s < 0 then 0 else if 8 < s then 8 else s.toNat

theorem clampN_le (s : Int) : clampN s ≤ 8 := by unfold clampN; split <;> (try split) <;> omega
theorem clampN_lo {s : Int} (h : s < 0) : clampN s = 0 := by unfold clampN; rw [if_pos h]
theorem clampN_hi {s : Int} (h : 8 < s) : clampN s = 8 := by unfold clampN; rw [if_neg (by omega), if_pos h]
theorem clampN_in {s : Int} (h : 0 ≤ s) (h' : s ≤ 8) : clampN s = s.toNat := by unfold clampN; rw [if_neg (by omega), if_neg (by omega)]

/-- What Get tells: the number of the first 8 bytes. -/
def getN (l : List UInt8) : Nat := leN (l.take 8)

theorem getN_lt (l : List UInt8) : getN l < 18446744073709551616 := by
  have h := leN_lt_of (l := l.take 8) (k := 8) (by simp; omega)
  unfold getN; omega

/-- The byte at place i, 0 where there is none. -/
def byteAt (l : List UInt8) (i : Nat) : Nat := (l[i]?.getD 0).toNat

theorem byteAt_lt (l : List UInt8) (i : Nat) : byteAt l i < 256 := byte_lt _

theorem leN_take_succ (l : List UInt8) (k : Nat) : leN (l.take (k + 1)) = leN (l.take k) + 256 ^ k * byteAt l k := by
  rcases Nat.lt_or_ge k l.length with h | h
  · rw [List.take_succ_eq_append_getElem h, leN_append]
    have e : (l.take k).length = k := by simp; omega
    rw [e]
    simp [byteAt, leN, List.getElem?_eq_getElem h]
  · rw [List.take_of_length_le h, List.take_of_length_le (by omega)]
    simp [byteAt, List.getElem?_eq_none h]

theorem getN_eq (l : List UInt8) : getN l = byteAt l 0 + 256 * byteAt l 1 + 65536 * byteAt l 2 + 16777216 * byteAt l 3 + 4294967296 * byteAt l 4 + 1099511627776 * byteAt l 5 + 281474976710656 * byteAt l 6 + 72057594037927936 * byteAt l 7 := by
  unfold getN
  rw [leN_take_succ, leN_take_succ, leN_take_succ, leN_take_succ, leN_take_succ, leN_take_succ, leN_take_succ, leN_take_succ]
  simp [leN]

end Go.Proofs.Ytalhpiljenhcaaa
