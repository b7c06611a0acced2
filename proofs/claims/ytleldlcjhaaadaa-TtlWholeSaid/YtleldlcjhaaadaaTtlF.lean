/- The sums of package word and the later times of package ttl, for all numbers; and the fixed calls of the statements about package ttl: the call 'fixed' returns true, and changes nothing. -/
import Derived.Test.YtleldlcjhaaadaaTtlA
import Derived.Deep.QuietTactic
import Derived.BigQuiet
namespace Go.Proofs.Ytleldlcjhaaadaa
open Go.RowKit Go.Lib Flt

theorem add64_0 (x y : Int) (hx : 0 ≤ x) (hy : 0 ≤ y) (w : World) : (callFunc 36 #[.int .u64 x, .int .u64 y, .int .u64 0]).run Try.prog w =
    .ok (.value (.tuple #[.int .u64 ((x + y) % 18446744073709551616), .int .u64 ((x + y) / 18446744073709551616)])) w := by
  rw [run_callFunc_extern Try.func36 (by kernel_rfl) (by kernel_rfl) (by kernel_rfl) (e := add64Entry) (by kernel_rfl)]
  have h := run_add64 (P := Try.prog) (w := w) x y 0 (by omega) (by omega) (by omega) (by omega)
  rw [Int.add_zero] at h
  rw [h]
  rfl

theorem add_small (a b : Int) (w : World) (ha : 0 ≤ a) (hb : 0 ≤ b) (h : a + b < 18446744073709551616) :
    Calls Try.prog 30 #[.int .u64 a, .int .u64 b] w fun e w' => e = .returned (.tuple #[.int .u64 (a + b), .bool false]) ∧ w = w' := by
  have e1 : (a + b) % 18446744073709551616 = a + b := by omega
  have e2 : (a + b) / 18446744073709551616 = 0 := by omega
  have e : ∀ w, (callFunc 36 #[.int .u64 a, .int .u64 b, .int .u64 0]).run Try.prog w = .ok (.value (.tuple #[.int .u64 (a + b), .int .u64 0])) w := by
    intro w; rw [add64_0 a b ha hb, e1, e2]
  clear e1 e2
  go_enter Try.func30, Try.ntmps30
  go_wp2
  go_ret2
  exact ⟨rfl, rfl⟩

theorem add_big (a b : Int) (w : World) (ha : 0 ≤ a) (hb : 0 ≤ b) (h : 18446744073709551616 ≤ a + b) (ha' : a < 18446744073709551616) (hb' : b < 18446744073709551616) :
    Calls Try.prog 30 #[.int .u64 a, .int .u64 b] w fun e w' => e = .returned (.tuple #[.int .u64 18446744073709551615, .bool true]) ∧ w = w' := by
  have e2 : (a + b) / 18446744073709551616 = 1 := by omega
  obtain ⟨m, hm⟩ : ∃ m, (a + b) % 18446744073709551616 = m := ⟨_, rfl⟩
  have e : ∀ w, (callFunc 36 #[.int .u64 a, .int .u64 b, .int .u64 0]).run Try.prog w = .ok (.value (.tuple #[.int .u64 m, .int .u64 1])) w := by
    intro w; rw [add64_0 a b ha hb, hm, e2]
  clear e2 hm h
  go_enter Try.func30, Try.ntmps30
  go_wp2
  go_ret2
  exact ⟨rfl, rfl⟩

/-- A later time. -/
def lat (a b : Int) : Int := if a + b < 18446744073709551616 then a + b else 18446744073709551615

theorem lat_bd (a b : Int) (ha : 0 ≤ a) (hb : 0 ≤ b) (ha' : a < 18446744073709551616) (hb' : b < 18446744073709551616) : 0 ≤ lat a b ∧ a ≤ lat a b ∧ b ≤ lat a b ∧ lat a b < 18446744073709551616 := by unfold lat; split <;> omega

theorem later_any (a b : Int) (w : World) (ha : 0 ≤ a) (hb : 0 ≤ b) (ha' : a < 18446744073709551616) (hb' : b < 18446744073709551616) :
    Calls Try.prog 19 #[.int .u64 a, .int .u64 b] w fun e w' => e = .returned (.int .u64 (lat a b)) ∧ w = w' := by
  unfold lat
  by_cases h : a + b < 18446744073709551616
  · rw [if_pos h]
    have C := Lib.hid (fun w => add_small a b w ha hb h)
    obtain ⟨c, hc⟩ : ∃ c, a + b = c := ⟨_, rfl⟩
    rw [hc] at C ⊢
    clear hc h
    go_enter Try.func19, Try.ntmps19
    go_wp2_with fail
    refine (C.out _).mono ?_
    rintro e w' ⟨rfl, rfl⟩
    go_wp2_with fail
    go_ret
    exact ⟨rfl, rfl⟩
  · rw [if_neg h]
    have C := Lib.hid (fun w => add_big a b w ha hb (by omega) ha' hb')
    clear h
    go_enter Try.func19, Try.ntmps19
    go_wp2_with fail
    refine (C.out _).mono ?_
    rintro e w' ⟨rfl, rfl⟩
    go_wp2_with fail
    go_ret
    exact ⟨rfl, rfl⟩

theorem max_any (w : World) : Calls Try.prog 23 #[] w fun e w' => e = .returned (.int .u64 18446744073709551615) ∧ w = w' := by
  go_enter Try.func23, Try.ntmps23
  go_wp2
  go_ret
  exact ⟨rfl, rfl⟩

theorem none_any (w : World) : Calls Try.prog 33 #[] w fun e w' => e = .returned (.float .f64 9221120237041090561) ∧ w = w' := by
  have e : ∀ w, (callFunc 22 #[.int .u64 9221120237041090561]).run Try.prog w = .ok (.value (.float .f64 9221120237041090561)) w := from_bits 9221120237041090561
  go_enter Try.func33, Try.ntmps33
  go_wp2
  go_ret
  exact ⟨rfl, rfl⟩
theorem minus_any (w : World) : Calls Try.prog 34 #[] w fun e w' => e = .returned (.float .f64 9223372036854775808) ∧ w = w' := by
  have e : ∀ w, (callFunc 22 #[.int .u64 9223372036854775808]).run Try.prog w = .ok (.value (.float .f64 9223372036854775808)) w := from_bits 9223372036854775808
  go_enter Try.func34, Try.ntmps34
  go_wp2
  go_ret
  exact ⟨rfl, rfl⟩
theorem inf_1 (w : World) : Calls Try.prog 32 #[.int .i64 1] w fun e w' => e = .returned (.float .f64 9218868437227405312) ∧ w = w' := by
  have e : ∀ w, (callFunc 22 #[.int .u64 9218868437227405312]).run Try.prog w = .ok (.value (.float .f64 9218868437227405312)) w := from_bits 9218868437227405312
  go_enter Try.func32, Try.ntmps32
  go_wp2
  go_ret
  exact ⟨rfl, rfl⟩
theorem inf_m (w : World) : Calls Try.prog 32 #[.int .i64 (-1)] w fun e w' => e = .returned (.float .f64 18442240474082181120) ∧ w = w' := by
  have e : ∀ w, (callFunc 22 #[.int .u64 18442240474082181120]).run Try.prog w = .ok (.value (.float .f64 18442240474082181120)) w := from_bits 18442240474082181120
  go_enter Try.func32, Try.ntmps32
  go_wp2
  go_ret
  exact ⟨rfl, rfl⟩

/-- The same calls, with the answer under a name. -/
theorem ticks_is (b : Nat) (t e0 : Int) (w : World) (hb : b < 18446744073709551616) (h1 : tk b = t) (h2 : te b = e0) :
    Calls Try.prog 10 #[.float .f64 b] w fun e w' => e = .returned (.tuple #[.int .u64 t, .int .i64 e0]) ∧ w = w' := by
  subst h1 h2; exact ticks_any b w hb
theorem kind_is (b : Nat) (k : Int) (w : World) (hb : b < 18446744073709551616) (h1 : kd b = k) :
    Calls Try.prog 14 #[.float .f64 b] w fun e w' => e = .returned (.int .i64 k) ∧ w = w' := by
  subst h1; exact kind_any b w hb
theorem later_is (a b c : Int) (w : World) (ha : 0 ≤ a) (hb : 0 ≤ b) (ha' : a < 18446744073709551616) (hb' : b < 18446744073709551616) (h : lat a b = c) :
    Calls Try.prog 19 #[.int .u64 a, .int .u64 b] w fun e w' => e = .returned (.int .u64 c) ∧ w = w' := by
  subst h; exact later_any a b w ha hb ha' hb'
theorem least_is (a b c : Nat) (w : World) (ha : a < 18446744073709551616) (hb : b < 18446744073709551616) (h : ls a b = c) :
    Calls Try.prog 17 #[.float .f64 a, .float .f64 b] w fun e w' => e = .returned (.float .f64 c) ∧ w = w' := by
  subst h; exact least_any a b w ha hb
theorem share_half (w : World) :
    Calls Try.prog 12 #[.float .f64 4602678819172646912, .int .i64 9] w fun e w' => e = .returned (.tuple #[.int .i64 4, .int .i64 0]) ∧ w = w' := by
  have h := share_yes 4602678819172646912 9 w (by unfold inS; omega) (by omega)
  have e : fl (shr 4602678819172646912 9) = 4 := by decide +kernel
  rw [e] at h
  exact h
theorem share_minus (w : World) :
    Calls Try.prog 12 #[.float .f64 9223372036854775808, .int .i64 9] w fun e w' => e = .returned (.tuple #[.int .i64 0, .int .i64 0]) ∧ w = w' := by
  have h := share_yes 9223372036854775808 9 w (by unfold inS; omega) (by omega)
  have e : fl (shr 9223372036854775808 9) = 0 := by decide +kernel
  rw [e] at h
  exact h

set_option maxRecDepth 100000 in
set_option maxHeartbeats 1000000 in
theorem fixed_any (w : World) : Calls Try.prog 21 #[] w fun e w' => e = .returned (.bool true) ∧ w = w' := by
  have o3 : FloatKind.f64.format.order 4613937818241073152 4613937818241073152 = some .eq := oeq _ _ (by omega) (by omega) (by omega) (by omega) rfl
  have o2 : FloatKind.f64.format.order 4611686018427387904 4611686018427387904 = some .eq := oeq _ _ (by omega) (by omega) (by omega) (by omega) rfl
  go_enter Try.func21, Try.ntmps21
  go_wp2_with fail
  refine (ticks_is 4611235658464650854 1 0 _ (by omega) (by decide +kernel) (by decide +kernel)).mono ?_
  rintro e w0 ⟨rfl, rfl⟩
  go_wp2_with fail
  refine (ticks_is 4602678819172646912 0 1 _ (by omega) (by decide +kernel) (by decide +kernel)).mono ?_
  rintro e w0 ⟨rfl, rfl⟩
  go_wp2_with fail
  refine (inf_1 _).mono ?_
  rintro e w0 ⟨rfl, rfl⟩
  go_wp2_with fail
  refine (ticks_is 9218868437227405312 18446744073709551615 0 _ (by omega) (by decide +kernel) (by decide +kernel)).mono ?_
  rintro e w0 ⟨rfl, rfl⟩
  go_wp2_with fail
  refine (none_any _).mono ?_
  rintro e w0 ⟨rfl, rfl⟩
  go_wp2_with fail
  refine (ticks_is 9221120237041090561 0 1 _ (by omega) (by decide +kernel) (by decide +kernel)).mono ?_
  rintro e w0 ⟨rfl, rfl⟩
  go_wp2_with fail
  refine (minus_any _).mono ?_
  rintro e w0 ⟨rfl, rfl⟩
  go_wp2_with fail
  refine (ticks_is 9223372036854775808 0 1 _ (by omega) (by decide +kernel) (by decide +kernel)).mono ?_
  rintro e w0 ⟨rfl, rfl⟩
  go_wp2_with fail
  refine (ticks_is 4895412794951729152 18446744073709551615 0 _ (by omega) (by decide +kernel) (by decide +kernel)).mono ?_
  rintro e w0 ⟨rfl, rfl⟩
  go_wp2_with fail
  refine (share_half _).mono ?_
  rintro e w0 ⟨rfl, rfl⟩
  go_wp2_with fail
  refine (minus_any _).mono ?_
  rintro e w0 ⟨rfl, rfl⟩
  go_wp2_with fail
  refine (share_minus _).mono ?_
  rintro e w0 ⟨rfl, rfl⟩
  go_wp2_with fail
  refine (none_any _).mono ?_
  rintro e w0 ⟨rfl, rfl⟩
  go_wp2_with fail
  refine (share_no 9221120237041090561 9 _ (by omega) (.inl (by unfold inS; omega))).mono ?_
  rintro e w0 ⟨rfl, rfl⟩
  go_wp2_with fail
  refine (share_no 4609434218613702656 9 _ (by omega) (.inl (by unfold inS; omega))).mono ?_
  rintro e w0 ⟨rfl, rfl⟩
  go_wp2_with fail
  refine (share_no 4602678819172646912 100001 _ (by omega) (.inr (.inr (by omega)))).mono ?_
  rintro e w0 ⟨rfl, rfl⟩
  go_wp2_with fail
  refine (max_any _).mono ?_
  rintro e w0 ⟨rfl, rfl⟩
  go_wp2_with fail
  refine (max_any _).mono ?_
  rintro e w0 ⟨rfl, rfl⟩
  go_wp2_with fail
  refine (none_any _).mono ?_
  rintro e w0 ⟨rfl, rfl⟩
  go_wp2_with fail
  refine (kind_is 9221120237041090561 0 _ (by omega) (by decide +kernel)).mono ?_
  rintro e w0 ⟨rfl, rfl⟩
  go_wp2_with fail
  refine (inf_m _).mono ?_
  rintro e w0 ⟨rfl, rfl⟩
  go_wp2_with fail
  refine (kind_is 18442240474082181120 1 _ (by omega) (by decide +kernel)).mono ?_
  rintro e w0 ⟨rfl, rfl⟩
  go_wp2_with fail
  refine (kind_is 13835058055282163712 2 _ (by omega) (by decide +kernel)).mono ?_
  rintro e w0 ⟨rfl, rfl⟩
  go_wp2_with fail
  refine (minus_any _).mono ?_
  rintro e w0 ⟨rfl, rfl⟩
  go_wp2_with fail
  refine (kind_is 9223372036854775808 3 _ (by omega) (by decide +kernel)).mono ?_
  rintro e w0 ⟨rfl, rfl⟩
  go_wp2_with fail
  refine (kind_is 0 4 _ (by omega) (by decide +kernel)).mono ?_
  rintro e w0 ⟨rfl, rfl⟩
  go_wp2_with fail
  refine (kind_is 4611686018427387904 5 _ (by omega) (by decide +kernel)).mono ?_
  rintro e w0 ⟨rfl, rfl⟩
  go_wp2_with fail
  refine (inf_1 _).mono ?_
  rintro e w0 ⟨rfl, rfl⟩
  go_wp2_with fail
  refine (kind_is 9218868437227405312 6 _ (by omega) (by decide +kernel)).mono ?_
  rintro e w0 ⟨rfl, rfl⟩
  go_wp2_with fail
  refine (max_any _).mono ?_
  rintro e w0 ⟨rfl, rfl⟩
  go_wp2_with fail
  refine (later_is 18446744073709551614 5 18446744073709551615 _ (by omega) (by omega) (by omega) (by omega) (by decide +kernel)).mono ?_
  rintro e w0 ⟨rfl, rfl⟩
  go_wp2_with fail
  refine (max_any _).mono ?_
  rintro e w0 ⟨rfl, rfl⟩
  go_wp2_with fail
  refine (later_is 3 4 7 _ (by omega) (by omega) (by omega) (by omega) (by decide +kernel)).mono ?_
  rintro e w0 ⟨rfl, rfl⟩
  go_wp2_with fail
  refine (none_any _).mono ?_
  rintro e w0 ⟨rfl, rfl⟩
  go_wp2_with fail
  refine (least_is 9221120237041090561 4613937818241073152 4613937818241073152 _ (by omega) (by omega) (by decide +kernel)).mono ?_
  rintro e w0 ⟨rfl, rfl⟩
  go_wp2_with fail
  refine (least_is 4611686018427387904 4613937818241073152 4611686018427387904 _ (by omega) (by omega) (by decide +kernel)).mono ?_
  rintro e w0 ⟨rfl, rfl⟩
  go_wp2_with fail
  go_ret
  exact ⟨rfl, rfl⟩

end Go.Proofs.Ytleldlcjhaaadaa
