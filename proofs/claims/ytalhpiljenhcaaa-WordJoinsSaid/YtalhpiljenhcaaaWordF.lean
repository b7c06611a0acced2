/- The fixed calls of the statements about package word: the call 'fixed' returns true, whatever memory holds, and changes nothing that was there. -/
import Derived.Test.YtalhpiljenhcaaaWordB
namespace Go.Proofs.Ytalhpiljenhcaaa
open Go.RowKit Go.Lib

theorem Ge.trans {a b c : World} (h : Below a.heap.size a b) (k : Below b.heap.size b c) : Below a.heap.size a c := h.trans (k.mono h.size)

theorem toL (l : List UInt8) : (⟨l.toArray⟩ : ByteArray).data.toList = l := by simp
theorem put_size (n : Nat) (k : Nat) : (⟨(putL n k).toArray⟩ : ByteArray).size = k := by
  rw [size_eq, toL, putL_length]

/-- The small calls, with the answer under a name. -/
theorem add_is (a b c : Int) (w : World) (ha : 0 ≤ a) (hb : 0 ≤ b) (hc : a + b = c) (h : c < 18446744073709551616) :
    Calls Try.prog 10 #[.int .u64 a, .int .u64 b] w fun e w' => e = .returned (.tuple #[.int .u64 c, .bool false]) ∧ w = w' := by
  subst hc; exact add_small a b w ha hb h
theorem less_is (a b c : Int) (w : World) (ha : a < 18446744073709551616) (hb : 0 ≤ b) (hc : lessI a b = c) :
    Calls Try.prog 18 #[.int .u64 a, .int .u64 b] w fun e w' => e = .returned (.int .u64 c) ∧ w = w' := by
  subst hc; exact less_any a b w hb ha
theorem mul_is (a b c : Int) (w : World) (ha : 0 ≤ a) (hb : 0 ≤ b) (ha' : a < 18446744073709551616) (hb' : b < 18446744073709551616) (hc : a * b = c) (h : c < 18446744073709551616) :
    Calls Try.prog 12 #[.int .u64 a, .int .u64 b] w fun e w' => e = .returned (.tuple #[.int .u64 c, .bool false]) ∧ w = w' := by
  obtain ⟨a, rfl⟩ := Int.eq_ofNat_of_zero_le ha
  obtain ⟨b, rfl⟩ := Int.eq_ofNat_of_zero_le hb
  rw [← Int.natCast_mul] at hc
  subst hc
  exact mul_small a b w (by omega) (by omega) (by omega)
theorem mul_over (a b : Int) (w : World) (ha : 0 ≤ a) (hb : 0 ≤ b) (ha' : a < 18446744073709551616) (hb' : b < 18446744073709551616) (h : 18446744073709551616 ≤ a * b) :
    Calls Try.prog 12 #[.int .u64 a, .int .u64 b] w fun e w' => e = .returned (.tuple #[.int .u64 18446744073709551615, .bool true]) ∧ w = w' := by
  obtain ⟨a, rfl⟩ := Int.eq_ofNat_of_zero_le ha
  obtain ⟨b, rfl⟩ := Int.eq_ofNat_of_zero_le hb
  rw [← Int.natCast_mul] at h
  exact mul_big a b w (by omega) (by omega) (by omega)

/-- word.Put at fixed numbers. -/
theorem put_at (n s : Int) (r : ByteArray) (w : World) (h0 : 0 ≤ n) (h1 : n < 18446744073709551616) (hr : (⟨(putL n.toNat (clampN s)).toArray⟩ : ByteArray) = r) :
    Calls Try.prog 14 #[.int .u64 n, .int .i64 s] w fun e w' => e = .returned (.string r) ∧ Below w.heap.size w w' := by
  subst hr; exact put_any n s w h0 h1
theorem get_at (s : ByteArray) (r : Int) (w : World) (hr : (getN s.data.toList : Int) = r) :
    Calls Try.prog 16 #[.string s] w fun e w' => e = .returned (.int .u64 r) ∧ Below w.heap.size w w' := by
  subst hr; exact get_any s w

/-- The same, told of a first world. -/
theorem put_ge (w0 : World) (n s : Int) (r : ByteArray) (w : World) (h0 : 0 ≤ n) (h1 : n < 18446744073709551616) (hr : (⟨(putL n.toNat (clampN s)).toArray⟩ : ByteArray) = r) (hw : Below w0.heap.size w0 w) :
    Calls Try.prog 14 #[.int .u64 n, .int .i64 s] w fun e w' => e = .returned (.string r) ∧ Below w0.heap.size w0 w' :=
  (put_at n s r w h0 h1 hr).mono fun _ _ ⟨he, hb⟩ => ⟨he, Ge.trans hw hb⟩
theorem get_ge (w0 : World) (s : ByteArray) (r : Int) (w : World) (hr : (getN s.data.toList : Int) = r) (hw : Below w0.heap.size w0 w) :
    Calls Try.prog 16 #[.string s] w fun e w' => e = .returned (.int .u64 r) ∧ Below w0.heap.size w0 w' :=
  (get_at s r w hr).mono fun _ _ ⟨he, hb⟩ => ⟨he, Ge.trans hw hb⟩

set_option maxHeartbeats 1000000 in
theorem fixed_any (w : World) : Calls Try.prog 20 #[] w fun e w' => e = .returned (.bool true) ∧ Below w.heap.size w w' := by
  go_enter Try.func20, Try.ntmps20
  go_wp2_with fail
  refine (add_big 18446744073709551615 1 _ (by omega) (by omega) (by omega) (by omega) (by omega)).mono ?_
  rintro e w0 ⟨rfl, rfl⟩
  go_wp2_with fail
  refine (add_small 3 4 _ (by omega) (by omega) (by omega)).mono ?_
  rintro e w0 ⟨rfl, rfl⟩
  go_wp2_with fail
  refine (mul_big 8589934592 8589934592 _ (by omega) (by omega) (by omega)).mono ?_
  rintro e w0 ⟨rfl, rfl⟩
  go_wp2_with fail
  refine (mul_small 6 7 _ (by omega) (by omega) (by omega)).mono ?_
  rintro e w0 ⟨rfl, rfl⟩
  go_wp2_with fail
  refine (put_at 258 2 ⟨#[2, 1]⟩ _ (by omega) (by omega) rfl).mono ?_
  rintro e w1 ⟨rfl, h1⟩
  go_wp2_with fail
  refine (put_at 258 1 ⟨#[2]⟩ _ (by omega) (by omega) rfl).mono ?_
  rintro e w2 ⟨rfl, h2⟩
  go_wp2_with fail
  refine (put_at 1 8 ⟨#[1, 0, 0, 0, 0, 0, 0, 0]⟩ _ (by omega) (by omega) rfl).mono ?_
  rintro e w3 ⟨rfl, h3⟩
  go_wp2_with fail
  refine (put_at 9 (-1) ⟨#[]⟩ _ (by omega) (by omega) rfl).mono ?_
  rintro e w4 ⟨rfl, h4⟩
  go_wp2_with fail
  refine (get_at ⟨#[2, 1]⟩ 258 _ rfl).mono ?_
  rintro e w5 ⟨rfl, h5⟩
  go_wp2_with fail
  refine (get_at ⟨#[]⟩ 0 _ rfl).mono ?_
  rintro e w6 ⟨rfl, h6⟩
  go_wp2_with fail
  refine (less_lt 3 5 _ (by omega)).mono ?_
  rintro e w0 ⟨rfl, rfl⟩
  go_wp2_with fail
  refine (less_ge 5 3 _ (by omega) (by omega) (by omega)).mono ?_
  rintro e w0 ⟨rfl, rfl⟩
  go_wp2_with fail
  go_ret
  exact ⟨rfl, Ge.trans h1 (Ge.trans h2 (Ge.trans h3 (Ge.trans h4 (Ge.trans h5 h6))))⟩

end Go.Proofs.Ytalhpiljenhcaaa
