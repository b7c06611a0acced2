/- Contracts of the calls of package ttl (Kind, Ticks, Later, Share, Least) and of the calls of package math that they make, for every float64, every time and every number: what each returns, and that memory stays as it was. -/
import Derived.Test.YtleldlcjhaaadaaTtlM
import Derived.Test.YtleldlcjhaaadaaRows
import Derived.WalkKit
import Derived.WalkSpells
import Derived.WalkLawsBesides
import Derived.Laws.Bits64b
import Derived.Laws.Externs
import Derived.Lib.Hide
import Derived.IntWalk
namespace Go.Proofs.Ytleldlcjhaaadaa
open Go.RowKit Go.Lib

namespace Flt
/-- The order of two words, as the walk spells it. -/
theorem olt (x y : Nat) (hx : x < 18446744073709551616) (hy : y < 18446744073709551616) (nx : x % 9223372036854775808 ≤ 9218868437227405312) (ny : y % 9223372036854775808 ≤ 9218868437227405312) (h : key x < key y) : FloatKind.f64.format.order x y = some .lt := by
  have := order_key x y hx hy nx ny
  rw [cmp_lt h] at this; exact this
theorem oeq (x y : Nat) (hx : x < 18446744073709551616) (hy : y < 18446744073709551616) (nx : x % 9223372036854775808 ≤ 9218868437227405312) (ny : y % 9223372036854775808 ≤ 9218868437227405312) (h : key x = key y) : FloatKind.f64.format.order x y = some .eq := by
  have := order_key x y hx hy nx ny
  rw [cmp_eq h] at this; exact this
theorem ogt (x y : Nat) (hx : x < 18446744073709551616) (hy : y < 18446744073709551616) (nx : x % 9223372036854775808 ≤ 9218868437227405312) (ny : y % 9223372036854775808 ≤ 9218868437227405312) (h : key y < key x) : FloatKind.f64.format.order x y = some .gt := by
  have := order_key x y hx hy nx ny
  rw [cmp_gt h] at this; exact this
theorem onl (x y : Nat) (h : 9218868437227405312 < x % 9223372036854775808) : FloatKind.f64.format.order x y = none := order_nan_left x y h
theorem onr (x y : Nat) (h : 9218868437227405312 < y % 9223372036854775808) : FloatKind.f64.format.order x y = none := order_nan_right x y h
end Flt
open Flt

theorem isnan_yes (b : Nat) (w : World) (h : 9218868437227405312 < b % 9223372036854775808) :
    Calls Try.prog 25 #[.float .f64 b] w fun e w' => e = .returned (.bool true) ∧ w = w' := by
  have e := onl b b h
  clear h
  go_enter Try.func25, Try.ntmps25
  go_wp2
  go_ret
  exact ⟨rfl, rfl⟩

theorem isnan_no (b : Nat) (w : World) (hb : b < 18446744073709551616) (h : b % 9223372036854775808 ≤ 9218868437227405312) :
    Calls Try.prog 25 #[.float .f64 b] w fun e w' => e = .returned (.bool false) ∧ w = w' := by
  have e := oeq b b hb hb h h rfl
  clear h hb
  go_enter Try.func25, Try.ntmps25
  go_wp2
  go_ret
  exact ⟨rfl, rfl⟩

def fbitsE : Array Value → Sem Value := Extern.MathFloatBits.float64bits
def fromE : Array Value → Sem Value := Extern.MathFloatBits.float64frombits

theorem fbits (b : Nat) (w : World) : (callFunc 24 #[.float .f64 b]).run Try.prog w = .ok (.value (.int .u64 (b : Int))) w := by
  rw [run_callFunc_extern Try.func24 (by kernel_rfl) (by kernel_rfl) (by kernel_rfl) (e := fbitsE) (by kernel_rfl)]
  rfl
theorem from_bits (b : Nat) (w : World) : (callFunc 22 #[.int .u64 (b : Int)]).run Try.prog w = .ok (.value (.float .f64 b)) w := by
  rw [run_callFunc_extern Try.func22 (by kernel_rfl) (by kernel_rfl) (by kernel_rfl) (e := fromE) (by kernel_rfl)]
  rfl

theorem signbit_yes (b : Nat) (w : World) (hb : b < 18446744073709551616) (h : 9223372036854775808 ≤ b) :
    Calls Try.prog 29 #[.float .f64 b] w fun e w' => e = .returned (.bool true) ∧ w = w' := by
  have e := fbits b
  have e2 : IntKind.i64.wrap (b : Int) = (b : Int) - 18446744073709551616 := by rw [IntKind.wrap_i64]; omega
  have h1 : (b : Int) - 18446744073709551616 < 0 := by omega
  clear h hb
  go_enter Try.func29, Try.ntmps29
  go_wp2
  go_ret
  exact ⟨rfl, rfl⟩
theorem signbit_no (b : Nat) (w : World) (h : b < 9223372036854775808) :
    Calls Try.prog 29 #[.float .f64 b] w fun e w' => e = .returned (.bool false) ∧ w = w' := by
  have e := fbits b
  have h1 : (b : Int) < 9223372036854775808 := by omega
  clear h
  go_enter Try.func29, Try.ntmps29
  go_wp2
  go_ret
  exact ⟨rfl, rfl⟩

theorem xor_lo (b : Nat) (h : b < 9223372036854775808) : b ^^^ 9223372036854775808 = 9223372036854775808 + b := by
  have e : (9223372036854775808 : Nat) = 2 ^ 63 := by decide
  rw [e] at *
  apply Nat.eq_of_testBit_eq
  intro i
  rw [Nat.testBit_xor]
  by_cases h1 : i < 63
  · rw [Nat.testBit_two_pow_add_gt h1, Nat.testBit_two_pow_of_ne (by omega), Bool.xor_false]
  by_cases h2 : i = 63
  · subst h2
    rw [Nat.testBit_two_pow_add_eq, Nat.testBit_two_pow_self, Bool.xor_true]
  · have h3 : 2 ^ 64 ≤ 2 ^ i := Nat.pow_le_pow_right (by omega) (by omega)
    have h4 : (2 : Nat) ^ 64 = 2 ^ 63 + 2 ^ 63 := by decide
    rw [Nat.testBit_two_pow_of_ne (by omega), Nat.testBit_lt_two_pow (by omega), Nat.testBit_lt_two_pow (by omega)]
    rfl
theorem xor_hi (b : Nat) (h : b < 9223372036854775808) : (9223372036854775808 + b) ^^^ 9223372036854775808 = b := by
  rw [← xor_lo b h, Nat.xor_assoc, Nat.xor_self, Nat.xor_zero]

/-- The word with the other sign. -/
def flip (b : Nat) : Nat := if b < 9223372036854775808 then 9223372036854775808 + b else b - 9223372036854775808
theorem neg_flip (b : Nat) (hb : b < 18446744073709551616) : Op.negFloat .f64 b = flip b := by
  show b ^^^ 2 ^ (11 + 52) = flip b
  have e : (2 : Nat) ^ (11 + 52) = 9223372036854775808 := by decide
  rw [e]
  unfold flip
  by_cases h : b < 9223372036854775808
  · rw [if_pos h, xor_lo b h]
  · rw [if_neg h]
    have := xor_hi (b - 9223372036854775808) (by omega)
    rw [show 9223372036854775808 + (b - 9223372036854775808) = b by omega] at this
    exact this
theorem flip_key (b : Nat) (hb : b < 18446744073709551616) : key (flip b) = - key b := by
  unfold key flip
  split <;> split <;> omega
theorem flip_bd (b : Nat) (hb : b < 18446744073709551616) : flip b < 18446744073709551616 ∧ flip b % 9223372036854775808 = b % 9223372036854775808 := by
  unfold flip
  split <;> omega

theorem key_max : key 9218868437227405311 = 9218868437227405311 := rfl
theorem key_0 : key 0 = 0 := rfl
theorem key_1 : key 4607182418800017408 = 4607182418800017408 := rfl
theorem key_64 : key 4895412794951729152 = 4895412794951729152 := rfl

set_option maxHeartbeats 400000 in
theorem inf_yes (b : Nat) (w : World) (h : b = 9218868437227405312) :
    Calls Try.prog 28 #[.float .f64 b, .int .i64 1] w fun e w' => e = .returned (.bool true) ∧ w = w' := by
  have e := ogt b 9218868437227405311 (by omega) (by omega) (by omega) (by omega) (by subst h; decide)
  clear h
  go_enter Try.func28, Try.ntmps28
  go_wp2
  go_ret
  exact ⟨rfl, rfl⟩
theorem inf_no (b : Nat) (w : World) (hb : b < 18446744073709551616) (h : b ≠ 9218868437227405312) (hn : b % 9223372036854775808 ≤ 9218868437227405312) :
    Calls Try.prog 28 #[.float .f64 b, .int .i64 1] w fun e w' => e = .returned (.bool false) ∧ w = w' := by
  have e : (FloatKind.f64.format.order b 9218868437227405311 == some .gt) = false := by
    have k := key_spec b
    by_cases g : key b = key 9218868437227405311
    · rw [oeq b _ hb (by omega) hn (by omega) g]; rfl
    · rw [olt b _ hb (by omega) hn (by omega) (by rw [key_max] at *; omega)]; rfl
  clear h hb hn
  go_enter Try.func28, Try.ntmps28
  go_wp2
  go_ret
  exact ⟨rfl, rfl⟩
theorem minf_yes (b : Nat) (w : World) (h : b = 18442240474082181120) :
    Calls Try.prog 28 #[.float .f64 b, .int .i64 (-1)] w fun e w' => e = .returned (.bool true) ∧ w = w' := by
  have hb : b < 18446744073709551616 := by omega
  have n : Op.unary .neg (.float .f64 b) = pure (.float .f64 (flip b)) := by rw [← neg_flip b hb]; rfl
  have f : flip b = 9218868437227405312 := by subst h; rfl
  have e := ogt (flip b) 9218868437227405311 (by omega) (by omega) (by omega) (by omega) (by rw [f]; decide)
  clear h f hb
  go_enter Try.func28, Try.ntmps28
  go_wp2
  go_ret
  exact ⟨rfl, rfl⟩
theorem minf_no (b : Nat) (w : World) (hb : b < 18446744073709551616) (h : b ≠ 18442240474082181120) (hn : b % 9223372036854775808 ≤ 9218868437227405312) :
    Calls Try.prog 28 #[.float .f64 b, .int .i64 (-1)] w fun e w' => e = .returned (.bool false) ∧ w = w' := by
  have n : Op.unary .neg (.float .f64 b) = pure (.float .f64 (flip b)) := by rw [← neg_flip b hb]; rfl
  obtain ⟨f1, f2⟩ := flip_bd b hb
  have f3 := flip_key b hb
  have e : (FloatKind.f64.format.order (flip b) 9218868437227405311 == some .gt) = false := by
    have k := key_spec b
    by_cases g : key (flip b) = key 9218868437227405311
    · rw [oeq (flip b) _ f1 (by omega) (by omega) (by omega) g]; rfl
    · rw [olt (flip b) _ f1 (by omega) (by omega) (by omega) (by rw [key_max] at *; omega)]; rfl
  clear h hb hn f1 f2 f3
  go_enter Try.func28, Try.ntmps28
  go_wp2
  go_ret
  exact ⟨rfl, rfl⟩

/-- A number's kind, by its bits. -/
def kd (b : Nat) : Int :=
  if 9218868437227405312 < b % 9223372036854775808 then 0
  else if b = 18442240474082181120 then 1
  else if b = 9218868437227405312 then 6
  else if b = 9223372036854775808 then 3
  else if b = 0 then 4
  else if 9223372036854775808 < b then 2
  else 5

theorem kd_cases (b : Nat) (hb : b < 18446744073709551616) :
    (9218868437227405312 < b % 9223372036854775808 ∧ kd b = 0) ∨ (b % 9223372036854775808 ≤ 9218868437227405312 ∧
      ((b = 18442240474082181120 ∧ kd b = 1) ∨ (b = 9218868437227405312 ∧ kd b = 6) ∨ (b = 9223372036854775808 ∧ kd b = 3) ∨ (b = 0 ∧ kd b = 4) ∨
       (9223372036854775808 < b ∧ b < 18442240474082181120 ∧ kd b = 2) ∨ (0 < b ∧ b < 9218868437227405312 ∧ kd b = 5))) := by
  unfold kd
  split
  · exact .inl ⟨by omega, rfl⟩
  · refine .inr ⟨by omega, ?_⟩
    split
    · simp_all
    split
    · simp_all
    split
    · simp_all
    split
    · simp_all
    split <;> omega

set_option maxHeartbeats 400000 in
theorem kind_any (b : Nat) (w : World) (hb : b < 18446744073709551616) :
    Calls Try.prog 14 #[.float .f64 b] w fun e w' => e = .returned (.int .i64 (kd b)) ∧ w = w' := by
  rcases kd_cases b hb with ⟨h, e⟩ | ⟨hn, ⟨h, e⟩ | ⟨h, e⟩ | ⟨h, e⟩ | ⟨h, e⟩ | ⟨h, h', e⟩ | ⟨h, h', e⟩⟩ <;> rw [e] <;> clear e
  · go_enter Try.func14, Try.ntmps14
    go_wp2_with fail
    refine (isnan_yes b _ h).mono ?_
    rintro e w' ⟨rfl, rfl⟩
    go_wp2_with fail
    go_ret
    exact ⟨rfl, rfl⟩
  · have C1 := Lib.hid (fun w => isnan_no b w hb hn)
    have C2 := Lib.hid (fun w => minf_yes b w h)
    clear h hn hb
    go_enter Try.func14, Try.ntmps14
    go_wp2_with fail
    refine (C1.out _).mono ?_
    rintro e w' ⟨rfl, rfl⟩
    go_wp2_with fail
    refine (C2.out _).mono ?_
    rintro e w' ⟨rfl, rfl⟩
    go_wp2_with fail
    go_ret
    exact ⟨rfl, rfl⟩
  · have C1 := Lib.hid (fun w => isnan_no b w hb hn)
    have C2 := Lib.hid (fun w => minf_no b w hb (by omega) hn)
    have C3 := Lib.hid (fun w => inf_yes b w h)
    clear h hn hb
    go_enter Try.func14, Try.ntmps14
    go_wp2_with fail
    refine (C1.out _).mono ?_
    rintro e w' ⟨rfl, rfl⟩
    go_wp2_with fail
    refine (C2.out _).mono ?_
    rintro e w' ⟨rfl, rfl⟩
    go_wp2_with fail
    refine (C3.out _).mono ?_
    rintro e w' ⟨rfl, rfl⟩
    go_wp2_with fail
    go_ret
    exact ⟨rfl, rfl⟩
  · have C1 := Lib.hid (fun w => isnan_no b w hb hn)
    have C2 := Lib.hid (fun w => minf_no b w hb (by omega) hn)
    have C3 := Lib.hid (fun w => inf_no b w hb (by omega) hn)
    have C4 := Lib.hid (fun w => signbit_yes b w hb (by omega))
    have o := oeq b 0 hb (by omega) hn (by omega) (by subst h; rfl)
    clear h hn hb
    go_enter Try.func14, Try.ntmps14
    go_wp2_with fail
    refine (C1.out _).mono ?_
    rintro e w' ⟨rfl, rfl⟩
    go_wp2_with fail
    refine (C2.out _).mono ?_
    rintro e w' ⟨rfl, rfl⟩
    go_wp2_with fail
    refine (C3.out _).mono ?_
    rintro e w' ⟨rfl, rfl⟩
    go_wp2_with fail
    refine (C4.out _).mono ?_
    rintro e w' ⟨rfl, rfl⟩
    go_wp2_with fail
    go_ret
    exact ⟨rfl, rfl⟩
  · have C1 := Lib.hid (fun w => isnan_no b w hb hn)
    have C2 := Lib.hid (fun w => minf_no b w hb (by omega) hn)
    have C3 := Lib.hid (fun w => inf_no b w hb (by omega) hn)
    have C4 := Lib.hid (fun w => signbit_no b w (by omega))
    have o := oeq b 0 hb (by omega) hn (by omega) (by subst h; rfl)
    clear h hn hb
    go_enter Try.func14, Try.ntmps14
    go_wp2_with fail
    refine (C1.out _).mono ?_
    rintro e w' ⟨rfl, rfl⟩
    go_wp2_with fail
    refine (C2.out _).mono ?_
    rintro e w' ⟨rfl, rfl⟩
    go_wp2_with fail
    refine (C3.out _).mono ?_
    rintro e w' ⟨rfl, rfl⟩
    go_wp2_with fail
    refine (C4.out _).mono ?_
    rintro e w' ⟨rfl, rfl⟩
    go_wp2_with fail
    go_ret
    exact ⟨rfl, rfl⟩
  · have C1 := Lib.hid (fun w => isnan_no b w hb hn)
    have C2 := Lib.hid (fun w => minf_no b w hb (by omega) hn)
    have C3 := Lib.hid (fun w => inf_no b w hb (by omega) hn)
    have o := olt b 0 hb (by omega) hn (by omega) (by have := key_spec b; rw [key_0]; omega)
    clear h hn hb h'
    go_enter Try.func14, Try.ntmps14
    go_wp2_with fail
    refine (C1.out _).mono ?_
    rintro e w' ⟨rfl, rfl⟩
    go_wp2_with fail
    refine (C2.out _).mono ?_
    rintro e w' ⟨rfl, rfl⟩
    go_wp2_with fail
    refine (C3.out _).mono ?_
    rintro e w' ⟨rfl, rfl⟩
    go_wp2_with fail
    go_ret
    exact ⟨rfl, rfl⟩
  · have C1 := Lib.hid (fun w => isnan_no b w hb hn)
    have C2 := Lib.hid (fun w => minf_no b w hb (by omega) hn)
    have C3 := Lib.hid (fun w => inf_no b w hb (by omega) hn)
    have o := ogt b 0 hb (by omega) hn (by omega) (by have := key_spec b; rw [key_0]; omega)
    clear h hn hb h'
    go_enter Try.func14, Try.ntmps14
    go_wp2_with fail
    refine (C1.out _).mono ?_
    rintro e w' ⟨rfl, rfl⟩
    go_wp2_with fail
    refine (C2.out _).mono ?_
    rintro e w' ⟨rfl, rfl⟩
    go_wp2_with fail
    refine (C3.out _).mono ?_
    rintro e w' ⟨rfl, rfl⟩
    go_wp2_with fail
    go_ret
    exact ⟨rfl, rfl⟩

/-- A time's ticks, and their error. -/
def te (b : Nat) : Int := if 9218868437227405312 < b % 9223372036854775808 ∨ key b < 4607182418800017408 then 1 else 0
def tk (b : Nat) : Int := if 9218868437227405312 < b % 9223372036854775808 ∨ key b < 4607182418800017408 then 0 else if 4895412794951729152 ≤ b then 18446744073709551615 else fl b

theorem tk_cases (b : Nat) (hb : b < 18446744073709551616) :
    (9218868437227405312 < b % 9223372036854775808 ∧ te b = 1 ∧ tk b = 0) ∨ (b % 9223372036854775808 ≤ 9218868437227405312 ∧
      ((key b < 4607182418800017408 ∧ te b = 1 ∧ tk b = 0) ∨ (4895412794951729152 ≤ b ∧ b ≤ 9218868437227405312 ∧ te b = 0 ∧ tk b = 18446744073709551615) ∨
       (4607182418800017408 ≤ b ∧ b < 4895412794951729152 ∧ te b = 0 ∧ tk b = fl b))) := by
  have k := key_spec b
  unfold te tk
  by_cases h : 9218868437227405312 < b % 9223372036854775808
  · refine .inl ⟨h, ?_, ?_⟩ <;> rw [if_pos (.inl h)]
  · refine .inr ⟨by omega, ?_⟩
    by_cases g : key b < 4607182418800017408
    · refine .inl ⟨g, ?_, ?_⟩ <;> rw [if_pos (.inr g)]
    · rw [if_neg (by omega), if_neg (by omega)]
      by_cases f : 4895412794951729152 ≤ b
      · exact .inr (.inl ⟨f, by omega, rfl, if_pos f⟩)
      · exact .inr (.inr ⟨by omega, by omega, rfl, if_neg f⟩)

theorem f2u (b : Nat) (h : b < 4895412794951729152) : floatToIntVal .f64 b .u64 = some ((fl b : Nat) : Int) := by
  have hm : b % 9223372036854775808 = b := Nat.mod_eq_of_lt (by omega)
  have e := toInt_num b (by omega)
  have hs : sgn b = false := by rw [sgn_spec b (by omega), decide_eq_false (by omega)]
  have hl := fl_lt_of b h
  rw [hm, hs] at e
  unfold floatToIntVal
  show (match (Ieee.double.read b).toInt .zero with | some n => if IntKind.u64.min ≤ n ∧ n ≤ IntKind.u64.max then some n else none | none => none) = _
  rw [e]
  have e2 : sg false (fl b) = ((fl b : Nat) : Int) := rfl
  have e3 : IntKind.u64.min = 0 := by decide
  have e4 : IntKind.u64.max = 18446744073709551615 := by decide
  rw [e2, e3, e4]
  exact if_pos (by omega)

theorem conv_u (b : Nat) (h : b < 4895412794951729152) (w : World) : (convert 22 23 (.float .f64 b)).run Try.prog w = .ok (.int .u64 ((fl b : Nat) : Int)) w :=
  run_convert_float_int w _ _ .f64 .u64 b _ (by rw [Try.underlying22]; rfl) Try.underlying23 (f2u b h)

theorem f2i (b : Nat) (hb : b < 18446744073709551616) (h : fl (b % 9223372036854775808) ≤ 100000) (hn : b % 9223372036854775808 < 9218868437227405312) (hz : 9223372036854775808 ≤ b → fl (b % 9223372036854775808) = 0) : floatToIntVal .f64 b .i64 = some ((fl (b % 9223372036854775808) : Nat) : Int) := by
  have e := toInt_num b hn
  have e0 : sg (sgn b) (fl (b % 9223372036854775808)) = ((fl (b % 9223372036854775808) : Nat) : Int) := by
    rw [sgn_spec b hb]
    unfold sg
    by_cases g : 9223372036854775808 ≤ b
    · rw [if_pos (decide_eq_true g), hz g]; rfl
    · rw [if_neg (by rw [decide_eq_false g]; decide)]
  rw [e0] at e
  unfold floatToIntVal
  show (match (Ieee.double.read b).toInt .zero with | some n => if IntKind.i64.min ≤ n ∧ n ≤ IntKind.i64.max then some n else none | none => none) = _
  rw [e]
  have e3 : IntKind.i64.min = -9223372036854775808 := by decide
  have e4 : IntKind.i64.max = 9223372036854775807 := by decide
  rw [e3, e4]
  exact if_pos (by omega)

set_option maxHeartbeats 400000 in
theorem ticks_any (b : Nat) (w : World) (hb : b < 18446744073709551616) :
    Calls Try.prog 10 #[.float .f64 b] w fun e w' => e = .returned (.tuple #[.int .u64 (tk b), .int .i64 (te b)]) ∧ w = w' := by
  have k := key_spec b
  rcases tk_cases b hb with ⟨h, e1, e2⟩ | ⟨hn, ⟨h, e1, e2⟩ | ⟨h, h', e1, e2⟩ | ⟨h, h', e1, e2⟩⟩ <;> rw [e1, e2] <;> clear e1 e2
  · have C1 := Lib.hid (fun w => isnan_yes b w h)
    clear h hb k
    go_enter Try.func10, Try.ntmps10
    go_wp2_with fail
    refine (C1.out _).mono ?_
    rintro e w' ⟨rfl, rfl⟩
    go_wp2_with fail
    go_ret2
    exact ⟨rfl, rfl⟩
  · have C1 := Lib.hid (fun w => isnan_no b w hb hn)
    have o := olt b 4607182418800017408 hb (by omega) hn (by omega) (by rw [key_1]; omega)
    clear h hn hb k
    go_enter Try.func10, Try.ntmps10
    go_wp2_with fail
    refine (C1.out _).mono ?_
    rintro e w' ⟨rfl, rfl⟩
    go_wp2_with fail
    go_ret2
    exact ⟨rfl, rfl⟩
  · have C1 := Lib.hid (fun w => isnan_no b w hb hn)
    have o := ogt b 4607182418800017408 hb (by omega) hn (by omega) (by rw [key_1]; omega)
    have o2 : (FloatKind.f64.format.order b 4895412794951729152 == some .gt || FloatKind.f64.format.order b 4895412794951729152 == some .eq) = true := by
      by_cases g : b = 4895412794951729152
      · rw [oeq b _ hb (by omega) hn (by omega) (by rw [g])]; rfl
      · rw [ogt b _ hb (by omega) hn (by omega) (by rw [key_64]; omega)]; rfl
    clear h hn hb h' k
    go_enter Try.func10, Try.ntmps10
    go_wp2_with fail
    refine (C1.out _).mono ?_
    rintro e w' ⟨rfl, rfl⟩
    go_wp2_with fail
    go_ret2
    exact ⟨rfl, rfl⟩
  · have C1 := Lib.hid (fun w => isnan_no b w hb hn)
    have c := conv_u b h'
    have o : (FloatKind.f64.format.order b 4607182418800017408 == some .lt) = false := by
      by_cases g : b = 4607182418800017408
      · rw [oeq b _ hb (by omega) hn (by omega) (by rw [g])]; rfl
      · rw [ogt b _ hb (by omega) hn (by omega) (by rw [key_1]; omega)]; rfl
    have o2 := olt b 4895412794951729152 hb (by omega) hn (by omega) (by rw [key_64]; omega)
    clear h hn hb h' k
    go_enter Try.func10, Try.ntmps10
    go_wp2_with fail
    refine (C1.out _).mono ?_
    rintro e w' ⟨rfl, rfl⟩
    go_wp2_with fail
    go_ret2
    exact ⟨rfl, rfl⟩

/-- The lesser one of two, by their bits. -/
def ls (a b : Nat) : Nat := if 9218868437227405312 < a % 9223372036854775808 ∨ (b % 9223372036854775808 ≤ 9218868437227405312 ∧ key b < key a) then b else a

set_option maxHeartbeats 400000 in
theorem least_any (a b : Nat) (w : World) (ha : a < 18446744073709551616) (hb : b < 18446744073709551616) :
    Calls Try.prog 17 #[.float .f64 a, .float .f64 b] w fun e w' => e = .returned (.float .f64 (ls a b)) ∧ w = w' := by
  unfold ls
  by_cases h : 9218868437227405312 < a % 9223372036854775808
  · rw [if_pos (.inl h)]
    have C1 := Lib.hid (fun w => isnan_yes a w h)
    clear h hb ha
    go_enter Try.func17, Try.ntmps17
    go_wp2_with fail
    refine (C1.out _).mono ?_
    rintro e w' ⟨rfl, rfl⟩
    go_wp2_with fail
    go_ret
    exact ⟨rfl, rfl⟩
  have C1 := Lib.hid (fun w => isnan_no a w ha (by omega))
  by_cases g : b % 9223372036854775808 ≤ 9218868437227405312 ∧ key b < key a
  · rw [if_pos (.inr g)]
    have o := olt b a hb ha g.1 (by omega) g.2
    clear h hb ha g
    go_enter Try.func17, Try.ntmps17
    go_wp2_with fail
    refine (C1.out _).mono ?_
    rintro e w' ⟨rfl, rfl⟩
    go_wp2_with fail
    go_ret
    exact ⟨rfl, rfl⟩
  · rw [if_neg (by omega)]
    have o : (FloatKind.f64.format.order b a == some .lt) = false := by
      by_cases n : 9218868437227405312 < b % 9223372036854775808
      · rw [onl b a n]; rfl
      by_cases e : key b = key a
      · rw [oeq b a hb ha (by omega) (by omega) e]; rfl
      · rw [ogt b a hb ha (by omega) (by omega) (by omega)]; rfl
    clear h hb ha g
    go_enter Try.func17, Try.ntmps17
    go_wp2_with fail
    refine (C1.out _).mono ?_
    rintro e w' ⟨rfl, rfl⟩
    go_wp2_with fail
    go_ret
    exact ⟨rfl, rfl⟩

/-- A share of 0 to 1. -/
def inS (x : Nat) : Prop := x ≤ 4607182418800017408 ∨ x = 9223372036854775808

theorem isshare_yes (x : Nat) (w : World) (h : inS x) :
    Calls Try.prog 27 #[.float .f64 x] w fun e w' => e = .returned (.bool true) ∧ w = w' := by
  unfold inS at h
  have k := key_spec x
  have hb : x < 18446744073709551616 := by omega
  have hn : x % 9223372036854775808 ≤ 9218868437227405312 := by omega
  have o1 : (FloatKind.f64.format.order x 0 == some .gt || FloatKind.f64.format.order x 0 == some .eq) = true := by
    by_cases g : key x = 0
    · rw [oeq x 0 hb (by omega) hn (by omega) g]; rfl
    · rw [ogt x 0 hb (by omega) hn (by omega) (by rw [key_0]; omega)]; rfl
  have o2 : (FloatKind.f64.format.order x 4607182418800017408 == some .lt || FloatKind.f64.format.order x 4607182418800017408 == some .eq) = true := by
    by_cases g : x = 4607182418800017408
    · rw [oeq x _ hb (by omega) hn (by omega) (by rw [g])]; rfl
    · rw [olt x _ hb (by omega) hn (by omega) (by rw [key_1]; omega)]; rfl
  clear k hb hn h
  go_enter Try.func27, Try.ntmps27
  go_wp2
  go_ret
  exact ⟨rfl, rfl⟩

theorem isshare_no (x : Nat) (w : World) (hb : x < 18446744073709551616) (h : ¬ inS x) :
    Calls Try.prog 27 #[.float .f64 x] w fun e w' => e = .returned (.bool false) ∧ w = w' := by
  unfold inS at h
  have k := key_spec x
  by_cases hn : x % 9223372036854775808 ≤ 9218868437227405312
  · by_cases g : key x < 0
    · have o := olt x 0 hb (by omega) hn (by omega) (by rw [key_0]; omega)
      clear k hb hn h g
      go_enter Try.func27, Try.ntmps27
      go_wp2
      go_ret
      exact ⟨rfl, rfl⟩
    · have o1 := ogt x 0 hb (by omega) hn (by omega) (by rw [key_0]; omega)
      have o2 := ogt x 4607182418800017408 hb (by omega) hn (by omega) (by rw [key_1]; omega)
      clear k hb hn h g
      go_enter Try.func27, Try.ntmps27
      go_wp2
      go_ret
      exact ⟨rfl, rfl⟩
  · have o := onl x 0 (by omega)
    clear k hb hn h
    go_enter Try.func27, Try.ntmps27
    go_wp2
    go_ret
    exact ⟨rfl, rfl⟩

theorem share_no (x : Nat) (n : Int) (w : World) (hb : x < 18446744073709551616) (h : ¬ inS x ∨ n < 0 ∨ 100000 < n) :
    Calls Try.prog 12 #[.float .f64 x, .int .i64 n] w fun e w' => e = .returned (.tuple #[.int .i64 0, .int .i64 1]) ∧ w = w' := by
  by_cases hs : inS x
  · have C1 := Lib.hid (fun w => isshare_yes x w hs)
    have h' : n < 0 ∨ 100000 < n := by rcases h with h | h; exact absurd hs h; exact h
    clear hs hb h
    rcases h' with h' | h'
    · go_enter Try.func12, Try.ntmps12
      go_wp2_with fail
      refine (C1.out _).mono ?_
      rintro e w' ⟨rfl, rfl⟩
      go_wp2_with fail
      go_ret2
      exact ⟨rfl, rfl⟩
    · have h0 : ¬ n < 0 := by omega
      go_enter Try.func12, Try.ntmps12
      go_wp2_with fail
      refine (C1.out _).mono ?_
      rintro e w' ⟨rfl, rfl⟩
      go_wp2_with fail
      go_ret2
      exact ⟨rfl, rfl⟩
  · have C1 := Lib.hid (fun w => isshare_no x w hb hs)
    clear hs hb h
    go_enter Try.func12, Try.ntmps12
    go_wp2_with fail
    refine (C1.out _).mono ?_
    rintro e w' ⟨rfl, rfl⟩
    go_wp2_with fail
    go_ret2
    exact ⟨rfl, rfl⟩

/-- The word of a product of a share and a whole number; what it is worth. -/
def shw (x n : Nat) : Nat := if x = 9223372036854775808 then 9223372036854775808 else shr x n

theorem shw_spec (x n : Nat) (h : inS x) (hn : n ≤ 100000) : ∃ f, floatOfInt .f64 (n : Int) = f ∧ floatBits .mul .f64 x f = some (shw x n) ∧ shw x n < 18446744073709551616 ∧ shw x n % 9223372036854775808 = shr x n ∧ shr x n < 4895412794951729152 ∧ fl (shr x n) ≤ n ∧ (9223372036854775808 ≤ shw x n → shr x n = 0) := by
  unfold inS at h
  obtain ⟨f, e, hf, hv, h1, h2, h3⟩ := shr_le x n (by omega) (by omega)
  have hm := mul_fin x f (by omega) (by omega)
  have hfm : f % 9223372036854775808 = f := Nat.mod_eq_of_lt (by omega)
  have hfs : sgn f = false := by rw [sgn_spec f (by omega), decide_eq_false (by omega)]
  rw [hfm, hv, hfs, Bool.xor_false] at hm
  refine ⟨f, e, ?_, ?_, ?_, h3, h2, ?_⟩
  · show Ieee.double.mul x f = _
    rw [hm]
    unfold shw
    by_cases g : x = 9223372036854775808
    · have z := shr_zero x n (by omega)
      unfold shr at z
      rw [if_pos g, z, sgn_spec x (by omega), decide_eq_true (by omega)]
      rfl
    · rw [if_neg g, sgn_spec x (by omega), decide_eq_false (by omega), word_pos, shr_def]
  · unfold shw; split <;> omega
  · unfold shw
    by_cases g : x = 9223372036854775808
    · rw [if_pos g, shr_zero x n (by omega)]
    · rw [if_neg g]; omega
  · unfold shw
    by_cases g : x = 9223372036854775808
    · intro _; exact shr_zero x n (by omega)
    · rw [if_neg g]; omega

set_option maxHeartbeats 400000 in
theorem share_yes (x n : Nat) (w : World) (h : inS x) (hn : n ≤ 100000) :
    Calls Try.prog 12 #[.float .f64 x, .int .i64 (n : Int)] w fun e w' => e = .returned (.tuple #[.int .i64 ((fl (shr x n) : Nat) : Int), .int .i64 0]) ∧ w = w' := by
  have C1 := Lib.hid (fun w => isshare_yes x w h)
  obtain ⟨f, e1, e2, e3, e4, e5, e6, e7⟩ := shw_spec x n h hn
  have c2 : ∀ w, (binOp .mul 22 (.float .f64 x) (.float .f64 f)).run Try.prog w = .ok (.float .f64 (shw x n)) w := fun w => run_float_arith w .mul _ .f64 x f _ e2
  have c3 : ∀ w, (convert 22 3 (.float .f64 (shw x n))).run Try.prog w = .ok (.int .i64 ((fl (shr x n) : Nat) : Int)) w := by
    intro w
    refine run_convert_float_int w _ _ .f64 .i64 _ _ (by rw [Try.underlying22]; rfl) Try.underlying3 ?_
    have := f2i (shw x n) e3 (by rw [e4]; omega) (by rw [e4]; omega) (by rw [e4]; intro g; rw [e7 g]; exact fl_zero_of 0 (by omega))
    rw [e4] at this
    exact this
  have h1 : ¬ (n : Int) < 0 := by omega
  have h2 : ¬ 100000 < (n : Int) := by omega
  clear e2 e3 e4 e5 e6 e7 h hn
  generalize shw x n = y at *
  generalize fl (shr x n) = z at *
  go_enter Try.func12, Try.ntmps12
  go_wp2_with fail
  refine (C1.out _).mono ?_
  rintro e w' ⟨rfl, rfl⟩
  go_wp2_with fail
  go_ret2
  exact ⟨rfl, rfl⟩

end Go.Proofs.Ytleldlcjhaaadaa
