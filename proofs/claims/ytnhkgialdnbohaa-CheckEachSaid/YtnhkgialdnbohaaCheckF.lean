/- The fixed calls of the statements about package check: the call 'fixed' returns true, and all memory that was there stays as it was. -/
import Derived.Test.YtnhkgialdnbohaaCheckD
import Derived.Deep.QuietTactic
import Derived.BigQuiet
namespace Go.Proofs.Ytnhkgialdnbohaa
open Go.RowKit Go.Lib Flt
set_option linter.unusedVariables false

theorem id_is (s : ByteArray) (b : Bool) (w : World) (hs : s.size ≤ maxLen) (h : idB s.data.toList = b) :
    Calls Try.prog 8 #[.string s] w fun e w' => e = .returned (.bool b) ∧ w = w' := by
  subst h; exact id_any s w hs
theorem value_is (s : ByteArray) (b : Bool) (w : World) (hs : s.size ≤ maxLen) (h : vaB s.size = b) :
    Calls Try.prog 10 #[.string s] w fun e w' => e = .returned (.bool b) ∧ w = w' := by
  subst h; exact value_any s w hs

/-- Contracts from a world on that stands below. -/
theorem ge_of {P : Program} {W w : World} {f : FuncId} {args : Array Value} {v : Value} (hW : Below W.heap.size W w) (h : Calls P f args w fun e w' => e = .returned v ∧ Below w.heap.size w w') :
    Calls P f args w fun e w' => e = .returned v ∧ Below W.heap.size W w' :=
  h.mono fun _ _ ⟨he, hb⟩ => ⟨he, hW.trans (hb.mono hW.size)⟩
theorem ge_same {P : Program} {W w : World} {f : FuncId} {args : Array Value} {v : Value} (hW : Below W.heap.size W w) (h : Calls P f args w fun e w' => e = .returned v ∧ w = w') :
    Calls P f args w fun e w' => e = .returned v ∧ Below W.heap.size W w' :=
  h.mono fun _ _ ⟨he, hb⟩ => ⟨he, hb ▸ hW⟩

theorem conf_is (sg sl rt : Int) (x : Nat) (c : Int) (w : World) (hx : x < 18446744073709551616) (h : ceC sg sl x rt = c) :
    Calls Try.prog 12 #[.agg #[.int .i64 sg, .int .i64 sl, .float .f64 x, .int .i64 rt]] w fun e w' => e = .returned (.int .i64 c) ∧ Below w.heap.size w w' := by
  subst h; exact conf_any sg sl rt x w hx
theorem sectors_is (sg sl rt : Int) (x : Nat) (c : Int) (w : World) (hx : x < 18446744073709551616) (h : scC sg sl x rt = c) :
    Calls Try.prog 14 #[.agg #[.int .i64 sg, .int .i64 sl, .float .f64 x, .int .i64 rt]] w fun e w' => e = .returned (.int .i64 c) ∧ Below w.heap.size w w' := by
  subst h; exact sectors_any sg sl rt x w hx
theorem quota_is (sg sl rt : Int) (x : Nat) (c : Int) (w : World) (hx : x < 18446744073709551616) (h : quC sg sl x rt = c) :
    Calls Try.prog 16 #[.agg #[.int .i64 sg, .int .i64 sl, .float .f64 x, .int .i64 rt]] w fun e w' => e = .returned (.int .i64 c) ∧ Below w.heap.size w w' := by
  subst h; exact quota_any sg sl rt x w hx
theorem bound_is (sg sl rt : Int) (x : Nat) (c : Int) (w : World) (hx : x < 18446744073709551616) (h : boC sg sl x rt = c) :
    Calls Try.prog 18 #[.agg #[.int .i64 sg, .int .i64 sl, .float .f64 x, .int .i64 rt]] w fun e w' => e = .returned (.int .i64 c) ∧ Below w.heap.size w w' := by
  subst h; exact bound_any sg sl rt x w hx

theorem lay3 (w : World) : LiesC (((w.alloc (.cells #[.int .i64 4, .int .i64 10, .float .f64 4602678819172646912, .int .i64 0] 24)).alloc (.cells #[.int .i64 4, .int .i64 10, .float .f64 9221120237041090561, .int .i64 0] 24)).alloc (.cells #[.int .i64 4, .int .i64 10, .float .f64 9223372036854775808, .int .i64 0] 24)) w.heap.size 4 10 4602678819172646912 0 ∧ LiesC (((w.alloc (.cells #[.int .i64 4, .int .i64 10, .float .f64 4602678819172646912, .int .i64 0] 24)).alloc (.cells #[.int .i64 4, .int .i64 10, .float .f64 9221120237041090561, .int .i64 0] 24)).alloc (.cells #[.int .i64 4, .int .i64 10, .float .f64 9223372036854775808, .int .i64 0] 24)) (w.heap.size + 1) 4 10 9221120237041090561 0 ∧ LiesC (((w.alloc (.cells #[.int .i64 4, .int .i64 10, .float .f64 4602678819172646912, .int .i64 0] 24)).alloc (.cells #[.int .i64 4, .int .i64 10, .float .f64 9221120237041090561, .int .i64 0] 24)).alloc (.cells #[.int .i64 4, .int .i64 10, .float .f64 9223372036854775808, .int .i64 0] 24)) (w.heap.size + 1 + 1) 4 10 9223372036854775808 0 ∧ Below w.heap.size w (((w.alloc (.cells #[.int .i64 4, .int .i64 10, .float .f64 4602678819172646912, .int .i64 0] 24)).alloc (.cells #[.int .i64 4, .int .i64 10, .float .f64 9221120237041090561, .int .i64 0] 24)).alloc (.cells #[.int .i64 4, .int .i64 10, .float .f64 9223372036854775808, .int .i64 0] 24)) := by
  have b3 : Below w.heap.size w (((w.alloc (.cells #[.int .i64 4, .int .i64 10, .float .f64 4602678819172646912, .int .i64 0] 24)).alloc (.cells #[.int .i64 4, .int .i64 10, .float .f64 9221120237041090561, .int .i64 0] 24)).alloc (.cells #[.int .i64 4, .int .i64 10, .float .f64 9223372036854775808, .int .i64 0] 24)) := (((Below.refl _ _).alloc (Nat.le_refl _) _).alloc (by simp) _).alloc (by simp; omega) _
  refine ⟨((lay1 4 10 0 4602678819172646912 w).later ((Below.refl _ _).alloc (Nat.le_refl _) _)).later ((Below.refl _ _).alloc (Nat.le_refl _) _), ?_, ?_, b3⟩
  · have := (lay1 4 10 0 9221120237041090561 (w.alloc (.cells #[.int .i64 4, .int .i64 10, .float .f64 4602678819172646912, .int .i64 0] 24))).later ((Below.refl _ _).alloc (Nat.le_refl _) (.cells #[.int .i64 4, .int .i64 10, .float .f64 9223372036854775808, .int .i64 0] 24))
    simpa using this
  · have := lay1 4 10 0 9223372036854775808 ((w.alloc (.cells #[.int .i64 4, .int .i64 10, .float .f64 4602678819172646912, .int .i64 0] 24)).alloc (.cells #[.int .i64 4, .int .i64 10, .float .f64 9221120237041090561, .int .i64 0] 24))
    simpa using this

set_option maxRecDepth 100000 in
set_option maxHeartbeats 1000000 in
theorem fixed_any (w : World) : Calls Try.prog 20 #[] w fun e w' => e = .returned (.bool true) ∧ Below w.heap.size w w' := by
  have f1 : ∀ w, (callFunc 30 #[.int .u64 9221120237041090561]).run Try.prog w = .ok (.value (.float .f64 9221120237041090561)) w := from_bits 9221120237041090561
  have f2 : ∀ w, (callFunc 30 #[.int .u64 9223372036854775808]).run Try.prog w = .ok (.value (.float .f64 9223372036854775808)) w := from_bits 9223372036854775808
  have hsf := fun (a : Addr) (x : Nat) (w : World) => run_store Try.prog w a (.float .f64 x) .plain rfl
  go_enter Try.func20, Try.ntmps20
  go_wp2_with fail
  refine (id_is ⟨#[97, 45, 57]⟩ true _ (by decide +kernel) (by decide +kernel)).mono ?_
  rintro e w0 ⟨rfl, rfl⟩
  go_wp2_with fail
  refine (id_is ⟨#[]⟩ false _ (by decide +kernel) (by decide +kernel)).mono ?_
  rintro e w0 ⟨rfl, rfl⟩
  go_wp2_with fail
  refine (id_is ⟨#[65]⟩ false _ (by decide +kernel) (by decide +kernel)).mono ?_
  rintro e w0 ⟨rfl, rfl⟩
  go_wp2_with fail
  refine (id_is ⟨#[48, 49, 50, 51, 52, 53, 54, 55, 56, 57, 48, 49, 50, 51, 52, 53, 54]⟩ false _ (by decide +kernel) (by decide +kernel)).mono ?_
  rintro e w0 ⟨rfl, rfl⟩
  go_wp2_with fail
  refine (id_is ⟨#[48, 49, 50, 51, 52, 53, 54, 55, 56, 57, 48, 49, 50, 51, 52, 53]⟩ true _ (by decide +kernel) (by decide +kernel)).mono ?_
  rintro e w0 ⟨rfl, rfl⟩
  go_wp2_with fail
  refine (value_is ⟨#[]⟩ true _ (by decide +kernel) (by decide +kernel)).mono ?_
  rintro e w0 ⟨rfl, rfl⟩
  go_wp2_with fail
  clear hsf f1 f2
  obtain ⟨L1, L2, L3, hb0⟩ := lay3 w
  generalize (((w.alloc (.cells #[.int .i64 4, .int .i64 10, .float .f64 4602678819172646912, .int .i64 0] 24)).alloc (.cells #[.int .i64 4, .int .i64 10, .float .f64 9221120237041090561, .int .i64 0] 24)).alloc (.cells #[.int .i64 4, .int .i64 10, .float .f64 9223372036854775808, .int .i64 0] 24)) = W at L1 L2 L3 hb0 ⊢
  have B0 : Below W.heap.size W W := Below.refl _ _
  refine (ge_of B0 (conf_is 4 10 0 4602678819172646912 0 _ (by omega) (by unfold ceC; rw [if_pos (by unfold MayC inS; omega)]))).mono ?_
  rintro e w1 ⟨rfl, B1⟩
  obtain ⟨l0, a0, b0, c0, d0⟩ := L1.later B1
  go_wp2_with fail
  clear l0 a0 b0 c0 d0
  refine (ge_of B1 (sectors_is 4 10 0 4602678819172646912 46 _ (by omega) (by unfold scC; rw [if_pos (by unfold MayC inS; omega)]; rfl))).mono ?_
  rintro e w2 ⟨rfl, B2⟩
  obtain ⟨l1, a1, b1, c1, d1⟩ := L1.later B2
  go_wp2_with fail
  clear l1 a1 b1 c1 d1
  refine (ge_of B2 (quota_is 4 10 0 4602678819172646912 10 _ (by omega) (by unfold quC; rw [if_pos (by unfold MayC inS; omega)]; decide +kernel))).mono ?_
  rintro e w3 ⟨rfl, B3⟩
  obtain ⟨l2, a2, b2, c2, d2⟩ := L1.later B3
  go_wp2_with fail
  clear l2 a2 b2 c2 d2
  refine (ge_of B3 (bound_is 4 10 0 4602678819172646912 111 _ (by omega) (by unfold boC; rw [if_pos (by unfold MayC inS; omega)]; rfl))).mono ?_
  rintro e w4 ⟨rfl, B4⟩
  obtain ⟨l3, a3, b3, c3, d3⟩ := L2.later B4
  go_wp2_with fail
  clear l3 a3 b3 c3 d3
  refine (ge_of B4 (conf_is 4 10 0 9221120237041090561 1 _ (by omega) (by unfold ceC; rw [if_neg (by unfold MayC inS; omega)]))).mono ?_
  rintro e w5 ⟨rfl, B5⟩
  obtain ⟨l4, a4, b4, c4, d4⟩ := L2.later B5
  go_wp2_with fail
  clear l4 a4 b4 c4 d4
  refine (ge_of B5 (quota_is 4 10 0 9221120237041090561 0 _ (by omega) (by unfold quC; rw [if_neg (by unfold MayC inS; omega)]))).mono ?_
  rintro e w6 ⟨rfl, B6⟩
  obtain ⟨l5, a5, b5, c5, d5⟩ := L3.later B6
  go_wp2_with fail
  clear l5 a5 b5 c5 d5
  refine (ge_of B6 (conf_is 4 10 0 9223372036854775808 0 _ (by omega) (by unfold ceC; rw [if_pos (by unfold MayC inS; omega)]))).mono ?_
  rintro e w7 ⟨rfl, B7⟩
  obtain ⟨l6, a6, b6, c6, d6⟩ := L3.later B7
  go_wp2_with fail
  clear l6 a6 b6 c6 d6
  refine (ge_of B7 (quota_is 4 10 0 9223372036854775808 0 _ (by omega) (by unfold quC; rw [if_pos (by unfold MayC inS; omega)]; decide +kernel))).mono ?_
  rintro e w8 ⟨rfl, B8⟩
  go_wp2_with fail
  refine (ge_of B8 (conf_is 3 10 0 4607182418800017408 1 _ (by omega) (by unfold ceC; rw [if_neg (by unfold MayC inS; omega)]))).mono ?_
  rintro e w9 ⟨rfl, B9⟩
  go_wp2_with fail
  refine (ge_of B9 (conf_is 4 31 0 4607182418800017408 1 _ (by omega) (by unfold ceC; rw [if_neg (by unfold MayC inS; omega)]))).mono ?_
  rintro e w10 ⟨rfl, B10⟩
  go_wp2_with fail
  refine (ge_of B10 (conf_is 4 1 9 4607182418800017408 1 _ (by omega) (by unfold ceC; rw [if_neg (by unfold MayC inS; omega)]))).mono ?_
  rintro e w11 ⟨rfl, B11⟩
  go_wp2_with fail
  go_ret
  exact ⟨rfl, hb0.trans (B11.mono hb0.size)⟩
end Go.Proofs.Ytnhkgialdnbohaa
