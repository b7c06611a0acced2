/- Shares of numbers and kinds of numbers, for every float64 and every number: contracts of ttl.Share (with ttl.isShare) and of the document's own answers lodgerref03.Kind and lodgerref03.Share: what each returns, and that memory stays as it was. -/
import Derived.Test.YtnhkgialdnbohaaTtlM
import Derived.Test.YtnhkgialdnbohaaRows
import Derived.WalkKit
import Derived.WalkSpells
import Derived.WalkLawsBesides
import Derived.Laws.Bits64b
import Derived.Laws.Externs
import Derived.Lib.Hide
import Derived.IntWalk
import Derived.Deep.LoopGhost
import Derived.WalkSmall
namespace Go.Proofs.Ytnhkgialdnbohaa
open Go.RowKit Go.Lib
set_option linter.unusedVariables false

namespace Flt
/-- The order of two words, as the walk spells it. -/
theorem olt (x y : Nat) (hx : x < 18446744073709551616) (hy : y < 18446744073709551616) (nx : x % 9223372036854775808 ≤ 9218868437227405312) (ny : y % 9223372036854775808 ≤ 9218868437227405312) (h : key x < key y) : FloatKind.f64.format.order x y = some .lt := by
  have := order_key x y hx hy nx ny
  rw [cmp_lt h] at this; exact this
theorem oeq (x y : Nat) (hx : x < 18446744073709551616) (hy : y < 18446744073709551616) (nx : x % 9223372036854775808 ≤ 9218868437227405312) (ny : y % 9223372036854775808 ≤ 9218868437227405312) (h : key x = key y) : FloatKind.f64.format.order x y = some .eq := by
  have := order_key x y hx hy nx ny
  rw [cmp_eq h] at this; exact this
theorem ogt (x y : Nat) (hx : x < 18446744073709551616) (hy : y < 18446744073709551616) (nx : x % 9223372036854775808 ≤ 9218868437227405312) (ny : y % 9223372036854775808 ≤ 9218868437227405312) (h : key y < key x) : FloatKind.f64.format.order x y = some .gt := by
  have := order_key x y hx hy nx ny
  rw [cmp_gt h] at this; exact this
theorem onl (x y : Nat) (h : 9218868437227405312 < x % 9223372036854775808) : FloatKind.f64.format.order x y = none := order_nan_left x y h
theorem onr (x y : Nat) (h : 9218868437227405312 < y % 9223372036854775808) : FloatKind.f64.format.order x y = none := order_nan_right x y h
end Flt
open Flt

def fbitsE : Array Value → Sem Value := Extern.MathFloatBits.float64bits
def fromE : Array Value → Sem Value := Extern.MathFloatBits.float64frombits

theorem fbits (b : Nat) (w : World) : (callFunc 31 #[.float .f64 b]).run Try.prog w = .ok (.value (.int .u64 (b : Int))) w := by
  rw [run_callFunc_extern Try.func31 (by kernel_rfl) (by kernel_rfl) (by kernel_rfl) (e := fbitsE) (by kernel_rfl)]
  rfl
theorem from_bits (b : Nat) (w : World) : (callFunc 30 #[.int .u64 (b : Int)]).run Try.prog w = .ok (.value (.float .f64 b)) w := by
  rw [run_callFunc_extern Try.func30 (by kernel_rfl) (by kernel_rfl) (by kernel_rfl) (e := fromE) (by kernel_rfl)]
  rfl

theorem key_0 : key 0 = 0 := rfl
theorem key_1 : key 4607182418800017408 = 4607182418800017408 := rfl
theorem key_64 : key 4895412794951729152 = 4895412794951729152 := rfl

/-- A number's kind, by its bits. -/
def kd (b : Nat) : Int :=
  if 9218868437227405312 < b % 9223372036854775808 then 0
  else if b = 18442240474082181120 then 1
  else if b = 9218868437227405312 then 6
  else if b = 9223372036854775808 then 3
  else if b = 0 then 4
  else if 9223372036854775808 < b then 2
  else 5

theorem kd_cases (b : Nat) (hb : b < 18446744073709551616) :
    (9218868437227405312 < b % 9223372036854775808 ∧ kd b = 0) ∨ (b % 9223372036854775808 ≤ 9218868437227405312 ∧
      ((b = 18442240474082181120 ∧ kd b = 1) ∨ (b = 9218868437227405312 ∧ kd b = 6) ∨ (b = 9223372036854775808 ∧ kd b = 3) ∨ (b = 0 ∧ kd b = 4) ∨
       (9223372036854775808 < b ∧ b < 18442240474082181120 ∧ kd b = 2) ∨ (0 < b ∧ b < 9218868437227405312 ∧ kd b = 5))) := by
  unfold kd
  split
  · exact .inl ⟨by omega, rfl⟩
  · refine .inr ⟨by omega, ?_⟩
    split
    · simp_all
    split
    · simp_all
    split
    · simp_all
    split
    · simp_all
    split <;> omega

theorem f2i (b : Nat) (hb : b < 18446744073709551616) (h : fl (b % 9223372036854775808) ≤ 100000) (hn : b % 9223372036854775808 < 9218868437227405312) (hz : 9223372036854775808 ≤ b → fl (b % 9223372036854775808) = 0) : floatToIntVal .f64 b .i64 = some ((fl (b % 9223372036854775808) : Nat) : Int) := by
  have e := toInt_num b hn
  have e0 : sg (sgn b) (fl (b % 9223372036854775808)) = ((fl (b % 9223372036854775808) : Nat) : Int) := by
    rw [sgn_spec b hb]
    unfold sg
    by_cases g : 9223372036854775808 ≤ b
    · rw [if_pos (decide_eq_true g), hz g]; rfl
    · rw [if_neg (by rw [decide_eq_false g]; decide)]
  rw [e0] at e
  unfold floatToIntVal
  show (match (Ieee.double.read b).toInt .zero with | some n => if IntKind.i64.min ≤ n ∧ n ≤ IntKind.i64.max then some n else none | none => none) = _
  rw [e]
  have e3 : IntKind.i64.min = -9223372036854775808 := by decide
  have e4 : IntKind.i64.max = 9223372036854775807 := by decide
  rw [e3, e4]
  exact if_pos (by omega)

/-- A share of 0 to 1. -/
def inS (x : Nat) : Prop := x ≤ 4607182418800017408 ∨ x = 9223372036854775808

theorem isshare_yes (x : Nat) (w : World) (h : inS x) :
    Calls Try.prog 39 #[.float .f64 x] w fun e w' => e = .returned (.bool true) ∧ w = w' := by
  unfold inS at h
  have k := key_spec x
  have hb : x < 18446744073709551616 := by omega
  have hn : x % 9223372036854775808 ≤ 9218868437227405312 := by omega
  have o1 : (FloatKind.f64.format.order x 0 == some .gt || FloatKind.f64.format.order x 0 == some .eq) = true := by
    by_cases g : key x = 0
    · rw [oeq x 0 hb (by omega) hn (by omega) g]; rfl
    · rw [ogt x 0 hb (by omega) hn (by omega) (by rw [key_0]; omega)]; rfl
  have o2 : (FloatKind.f64.format.order x 4607182418800017408 == some .lt || FloatKind.f64.format.order x 4607182418800017408 == some .eq) = true := by
    by_cases g : x = 4607182418800017408
    · rw [oeq x _ hb (by omega) hn (by omega) (by rw [g])]; rfl
    · rw [olt x _ hb (by omega) hn (by omega) (by rw [key_1]; omega)]; rfl
  clear k hb hn h
  go_enter Try.func39, Try.ntmps39
  go_wp2
  go_ret
  exact ⟨rfl, rfl⟩

theorem isshare_no (x : Nat) (w : World) (hb : x < 18446744073709551616) (h : ¬ inS x) :
    Calls Try.prog 39 #[.float .f64 x] w fun e w' => e = .returned (.bool false) ∧ w = w' := by
  unfold inS at h
  have k := key_spec x
  by_cases hn : x % 9223372036854775808 ≤ 9218868437227405312
  · by_cases g : key x < 0
    · have o := olt x 0 hb (by omega) hn (by omega) (by rw [key_0]; omega)
      clear k hb hn h g
      go_enter Try.func39, Try.ntmps39
      go_wp2
      go_ret
      exact ⟨rfl, rfl⟩
    · have o1 := ogt x 0 hb (by omega) hn (by omega) (by rw [key_0]; omega)
      have o2 := ogt x 4607182418800017408 hb (by omega) hn (by omega) (by rw [key_1]; omega)
      clear k hb hn h g
      go_enter Try.func39, Try.ntmps39
      go_wp2
      go_ret
      exact ⟨rfl, rfl⟩
  · have o := onl x 0 (by omega)
    clear k hb hn h
    go_enter Try.func39, Try.ntmps39
    go_wp2
    go_ret
    exact ⟨rfl, rfl⟩

theorem share_no (x : Nat) (n : Int) (w : World) (hb : x < 18446744073709551616) (h : ¬ inS x ∨ n < 0 ∨ 100000 < n) :
    Calls Try.prog 28 #[.float .f64 x, .int .i64 n] w fun e w' => e = .returned (.tuple #[.int .i64 0, .int .i64 1]) ∧ w = w' := by
  by_cases hs : inS x
  · have C1 := Lib.hid (fun w => isshare_yes x w hs)
    have h' : n < 0 ∨ 100000 < n := by rcases h with h | h; exact absurd hs h; exact h
    clear hs hb h
    rcases h' with h' | h'
    · go_enter Try.func28, Try.ntmps28
      go_wp2_with fail
      refine (C1.out _).mono ?_
      rintro e w' ⟨rfl, rfl⟩
      go_wp2_with fail
      go_ret2
      exact ⟨rfl, rfl⟩
    · have h0 : ¬ n < 0 := by omega
      go_enter Try.func28, Try.ntmps28
      go_wp2_with fail
      refine (C1.out _).mono ?_
      rintro e w' ⟨rfl, rfl⟩
      go_wp2_with fail
      go_ret2
      exact ⟨rfl, rfl⟩
  · have C1 := Lib.hid (fun w => isshare_no x w hb hs)
    clear hs hb h
    go_enter Try.func28, Try.ntmps28
    go_wp2_with fail
    refine (C1.out _).mono ?_
    rintro e w' ⟨rfl, rfl⟩
    go_wp2_with fail
    go_ret2
    exact ⟨rfl, rfl⟩

/-- The word of a product of a share and a whole number; what it is worth. -/
def shw (x n : Nat) : Nat := if x = 9223372036854775808 then 9223372036854775808 else shr x n

theorem shw_spec (x n : Nat) (h : inS x) (hn : n ≤ 100000) : ∃ f, floatOfInt .f64 (n : Int) = f ∧ floatBits .mul .f64 x f = some (shw x n) ∧ shw x n < 18446744073709551616 ∧ shw x n % 9223372036854775808 = shr x n ∧ shr x n < 4895412794951729152 ∧ fl (shr x n) ≤ n ∧ (9223372036854775808 ≤ shw x n → shr x n = 0) := by
  unfold inS at h
  obtain ⟨f, e, hf, hv, h1, h2, h3⟩ := shr_le x n (by omega) (by omega)
  have hm := mul_fin x f (by omega) (by omega)
  have hfm : f % 9223372036854775808 = f := Nat.mod_eq_of_lt (by omega)
  have hfs : sgn f = false := by rw [sgn_spec f (by omega), decide_eq_false (by omega)]
  rw [hfm, hv, hfs, Bool.xor_false] at hm
  refine ⟨f, e, ?_, ?_, ?_, h3, h2, ?_⟩
  · show Ieee.double.mul x f = _
    rw [hm]
    unfold shw
    by_cases g : x = 9223372036854775808
    · have z := shr_zero x n (by omega)
      unfold shr at z
      rw [if_pos g, z, sgn_spec x (by omega), decide_eq_true (by omega)]
      rfl
    · rw [if_neg g, sgn_spec x (by omega), decide_eq_false (by omega), word_pos, shr_def]
  · unfold shw; split <;> omega
  · unfold shw
    by_cases g : x = 9223372036854775808
    · rw [if_pos g, shr_zero x n (by omega)]
    · rw [if_neg g]; omega
  · unfold shw
    by_cases g : x = 9223372036854775808
    · intro _; exact shr_zero x n (by omega)
    · rw [if_neg g]; omega

set_option maxHeartbeats 400000 in
theorem share_yes (x n : Nat) (w : World) (h : inS x) (hn : n ≤ 100000) :
    Calls Try.prog 28 #[.float .f64 x, .int .i64 (n : Int)] w fun e w' => e = .returned (.tuple #[.int .i64 ((fl (shr x n) : Nat) : Int), .int .i64 0]) ∧ w = w' := by
  have C1 := Lib.hid (fun w => isshare_yes x w h)
  obtain ⟨f, e1, e2, e3, e4, e5, e6, e7⟩ := shw_spec x n h hn
  have c2 : ∀ w, (binOp .mul 22 (.float .f64 x) (.float .f64 f)).run Try.prog w = .ok (.float .f64 (shw x n)) w := fun w => run_float_arith w .mul _ .f64 x f _ e2
  have c3 : ∀ w, (convert 22 3 (.float .f64 (shw x n))).run Try.prog w = .ok (.int .i64 ((fl (shr x n) : Nat) : Int)) w := by
    intro w
    refine run_convert_float_int w _ _ .f64 .i64 _ _ (by rw [Try.underlying22]; rfl) Try.underlying3 ?_
    have := f2i (shw x n) e3 (by rw [e4]; omega) (by rw [e4]; omega) (by rw [e4]; intro g; rw [e7 g]; exact fl_zero_of 0 (by omega))
    rw [e4] at this
    exact this
  have h1 : ¬ (n : Int) < 0 := by omega
  have h2 : ¬ 100000 < (n : Int) := by omega
  clear e2 e3 e4 e5 e6 e7 h hn
  generalize shw x n = y at *
  generalize fl (shr x n) = z at *
  go_enter Try.func28, Try.ntmps28
  go_wp2_with fail
  refine (C1.out _).mono ?_
  rintro e w' ⟨rfl, rfl⟩
  go_wp2_with fail
  go_ret2
  exact ⟨rfl, rfl⟩

namespace R3
/-- Kind, by the two fields of the bits. -/
theorem kind_at (b : Nat) (B lo hi k : Int) (w : World) (eb : ∀ w, (callFunc 31 #[.float .f64 b]).run Try.prog w = .ok (.value (.int .u64 B)) w) (hB : 0 ≤ B) (hb : B < 18446744073709551616) (e1 : B % 4503599627370496 = lo) (e2 : B / 4503599627370496 % 2048 = hi) (h0 : 0 ≤ lo) (h1 : 0 ≤ hi)
    (h : (hi = 2047 ∧ 0 < lo ∧ k = 0) ∨ (hi = 2047 ∧ lo = 0 ∧ 9223372036854775808 ≤ B ∧ k = 1) ∨ (hi = 2047 ∧ lo = 0 ∧ B < 9223372036854775808 ∧ k = 6) ∨
      (hi = 0 ∧ lo = 0 ∧ 9223372036854775808 ≤ B ∧ k = 3) ∨ (hi = 0 ∧ lo = 0 ∧ B < 9223372036854775808 ∧ k = 4) ∨
      (hi = 0 ∧ 0 < lo ∧ 9223372036854775808 ≤ B ∧ k = 2) ∨ (hi = 0 ∧ 0 < lo ∧ B < 9223372036854775808 ∧ k = 5) ∨
      (0 < hi ∧ hi < 2047 ∧ 9223372036854775808 ≤ B ∧ k = 2) ∨ (0 < hi ∧ hi < 2047 ∧ B < 9223372036854775808 ∧ k = 5)) :
    Calls Try.prog 21 #[.float .f64 b] w fun e w' => e = .returned (.int .i64 k) ∧ w = w' := by
  rcases h with ⟨rfl, h2, rfl⟩ | ⟨rfl, rfl, h2, rfl⟩ | ⟨rfl, rfl, h2, rfl⟩ | ⟨rfl, rfl, h2, rfl⟩ | ⟨rfl, rfl, h2, rfl⟩ | ⟨rfl, h3, h2, rfl⟩ | ⟨rfl, h3, h2, rfl⟩ | ⟨h3, h4, h2, rfl⟩ | ⟨h3, h4, h2, rfl⟩
  · go_enter Try.func21, Try.ntmps21
    go_wp2_with fail
    go_ret
    exact ⟨rfl, rfl⟩
  · go_enter Try.func21, Try.ntmps21
    go_wp2_with fail
    go_ret
    exact ⟨rfl, rfl⟩
  · go_enter Try.func21, Try.ntmps21
    go_wp2_with fail
    go_ret
    exact ⟨rfl, rfl⟩
  · go_enter Try.func21, Try.ntmps21
    go_wp2_with fail
    go_ret
    exact ⟨rfl, rfl⟩
  · go_enter Try.func21, Try.ntmps21
    go_wp2_with fail
    go_ret
    exact ⟨rfl, rfl⟩
  · go_enter Try.func21, Try.ntmps21
    go_wp2_with fail
    go_ret
    exact ⟨rfl, rfl⟩
  · go_enter Try.func21, Try.ntmps21
    go_wp2_with fail
    go_ret
    exact ⟨rfl, rfl⟩
  · go_enter Try.func21, Try.ntmps21
    go_wp2_with fail
    go_ret
    exact ⟨rfl, rfl⟩
  · go_enter Try.func21, Try.ntmps21
    go_wp2_with fail
    go_ret
    exact ⟨rfl, rfl⟩

theorem kind_any (b : Nat) (w : World) (hb : b < 18446744073709551616) :
    Calls Try.prog 21 #[.float .f64 b] w fun e w' => e = .returned (.int .i64 (kd b)) ∧ w = w' := by
  have h := kd_cases b hb
  generalize kd b = k at *
  refine kind_at b b _ _ _ w (fbits b) (by omega) (by omega) rfl rfl (by omega) (by omega) ?_
  rcases h with ⟨h, e⟩ | ⟨hn, ⟨h, e⟩ | ⟨h, e⟩ | ⟨h, e⟩ | ⟨h, e⟩ | ⟨h, h', e⟩ | ⟨h, h', e⟩⟩
  · exact .inl (by omega)
  · exact .inr (.inl (by omega))
  · exact .inr (.inr (.inl (by omega)))
  · exact .inr (.inr (.inr (.inl (by omega))))
  · exact .inr (.inr (.inr (.inr (.inl (by omega)))))
  · by_cases g : (b : Int) / 4503599627370496 % 2048 = 0
    · exact .inr (.inr (.inr (.inr (.inr (.inl (by omega))))))
    · exact .inr (.inr (.inr (.inr (.inr (.inr (.inr (.inl (by omega))))))))
  · by_cases g : (b : Int) / 4503599627370496 % 2048 = 0
    · exact .inr (.inr (.inr (.inr (.inr (.inr (.inl (by omega)))))))
    · exact .inr (.inr (.inr (.inr (.inr (.inr (.inr (.inr (by omega))))))))

theorem ret_int {k : IntKind} {a b : Int} (h : a = b) : Ending.returned (.int k a) = .returned (.int k b) := by rw [h]
theorem half_step (N k : Nat) : N / 2 ^ (k + 1) = N / 2 ^ k / 2 := by
  rw [Nat.pow_succ, Nat.div_div_eq_div_mul]

set_option maxHeartbeats 1000000 in
theorem whole_lo (b : Nat) (B lo hi : Int) (N d : Nat) (w : World) (eb : ∀ w, (callFunc 31 #[.float .f64 b]).run Try.prog w = .ok (.value (.int .u64 B)) w) (hB : 0 ≤ B) (hb : B < 18446744073709551616)
    (e1 : B % 4503599627370496 = lo) (e2 : B / 4503599627370496 % 2048 = hi) (h0 : 0 ≤ lo) (h1 : lo < 4503599627370496) (h2 : 0 ≤ hi) (h3 : hi < 1075) (hd : Hid (hi + (d : Int) = 1075)) (hN : Hid ((N : Int) = lo + 4503599627370496)) :
    Calls Try.prog 40 #[.float .f64 b] w fun e w' => e = .returned (.int .u64 ((N / 2 ^ d : Nat) : Int)) ∧ w = w' := by
  go_enter Try.func40, Try.ntmps40
  go_wp2_with fail
  go_loopg [4, 5] d (fun gk s4 s5 wr => ∃ k : Nat, k ≤ d ∧ gk = d - k ∧ s5 = .int .i64 ((k : Int) - d) ∧ s4 = .int .u64 ((N / 2 ^ k : Nat) : Int) ∧ w = wr)
  case atStart => exact ⟨0, by omega, by omega, by have := hd.out; congr 1; omega, by have := hN.out; rw [Nat.pow_zero, Nat.div_one]; congr 1; omega, rfl⟩
  case round =>
    obtain ⟨k, hk, hgk, rfl, rfl, rfl⟩ := hrel
    have HG := Lib.hid hgk
    clear hgk e1 e2 eb
    obtain ⟨m, M⟩ : ∃ m, Hid (N / 2 ^ k = m) := ⟨_, rfl⟩
    have hm : (m : Int) < 9007199254740992 := by
      have := hN.out
      have h5 : N / 2 ^ k ≤ N := Nat.div_le_self _ _
      rw [M.out] at h5
      omega
    have M2 : Hid (N / 2 ^ (k + 1) = m / 2) := by
      show N / 2 ^ (k + 1) = m / 2
      rw [half_step, M.out]
    have hd52 : (d : Int) ≤ 1075 := by have := hd.out; omega
    rw [M.out]
    by_cases hlt : k < d
    · have hlt' : (k : Int) - d < 0 := by omega
      have hge : -1075 ≤ (k : Int) - d := by omega
      go_wp2_with fail
      go_roundg (d - (k + 1))
      case measure => have := HG.out; omega
      case rel => exact ⟨k + 1, by omega, rfl, by congr 1; omega, by rw [M2.out]; congr 1, rfl⟩
    · obtain rfl : d = k := by omega
      have hz : (d : Int) - d = 0 := by omega
      rw [hz]
      clear hz hlt hk
      go_wp2_with fail
      refine wp_loop_rounds 1 ?_
      rw [rounds_succ]
      go_wp2_with fail
      go_ret
      exact ⟨ret_int (by rw [M.out]), rfl⟩

set_option maxHeartbeats 1000000 in
theorem whole_hi (b : Nat) (B lo hi : Int) (N d : Nat) (w : World) (eb : ∀ w, (callFunc 31 #[.float .f64 b]).run Try.prog w = .ok (.value (.int .u64 B)) w) (hB : 0 ≤ B) (hb : B < 18446744073709551616)
    (e1 : B % 4503599627370496 = lo) (e2 : B / 4503599627370496 % 2048 = hi) (h0 : 0 ≤ lo) (h1 : lo < 4503599627370496) (h2 : 1075 ≤ hi) (h3 : hi ≤ 1086) (hd : Hid (hi = 1075 + (d : Int))) (hN : Hid ((N : Int) = lo + 4503599627370496)) :
    Calls Try.prog 40 #[.float .f64 b] w fun e w' => e = .returned (.int .u64 ((N * 2 ^ d : Nat) : Int)) ∧ w = w' := by
  go_enter Try.func40, Try.ntmps40
  go_wp2_with fail
  refine wp_loop_rounds 1 ?_
  rw [rounds_succ]
  go_wp2_with fail
  go_loopg [4, 5] d (fun gk s4 s5 wr => ∃ k : Nat, k ≤ d ∧ gk = d - k ∧ s5 = .int .i64 ((d : Int) - k) ∧ s4 = .int .u64 ((N * 2 ^ k : Nat) : Int) ∧ w = wr)
  case atStart => exact ⟨0, by omega, by omega, by have := hd.out; congr 1; omega, by have := hN.out; rw [Nat.pow_zero, Nat.mul_one]; congr 1; omega, rfl⟩
  case round =>
    obtain ⟨k, hk, hgk, rfl, rfl, rfl⟩ := hrel
    have HG := Lib.hid hgk
    clear hgk e1 e2 eb
    have hd52 : (d : Int) ≤ 11 := by have := hd.out; omega
    have hpk : 2 ^ k ≤ 2 ^ 11 := Nat.pow_le_pow_right (by omega) (by omega)
    obtain ⟨m, M⟩ : ∃ m, Hid (N * 2 ^ k = m) := ⟨_, rfl⟩
    have hmm : m ≤ 9007199254740991 * 2 ^ 11 := by
      have := hN.out
      have h5 : N * 2 ^ k ≤ 9007199254740991 * 2 ^ 11 := Nat.mul_le_mul (by omega) hpk
      rw [M.out] at h5
      exact h5
    have hk' : k < d → 2 ^ k ≤ 2 ^ 10 := fun h => Nat.pow_le_pow_right (by omega) (by omega)
    have hm : k < d → (m : Int) ≤ 9223372036854774784 := by
      intro h
      have := hN.out
      have h5 : N * 2 ^ k ≤ 9007199254740991 * 2 ^ 10 := Nat.mul_le_mul (by omega) (hk' h)
      rw [M.out] at h5
      omega
    have M2 : Hid (N * 2 ^ (k + 1) = m * 2) := by
      show N * 2 ^ (k + 1) = m * 2
      rw [Nat.pow_succ, ← Nat.mul_assoc, M.out]
    clear hpk hk'
    rw [M.out]
    by_cases hlt : k < d
    · have hm1 := hm hlt
      clear hm hmm
      have hlt' : 0 < (d : Int) - k := by omega
      have hge : (d : Int) - k ≤ 1075 := by omega
      go_wp2_with fail
      go_roundg (d - (k + 1))
      case measure => have := HG.out; omega
      case rel => exact ⟨k + 1, by omega, rfl, by congr 1; omega, by rw [M2.out]; congr 1, rfl⟩
    · obtain rfl : d = k := by omega
      have hz : (d : Int) - d = 0 := by omega
      rw [hz]
      clear hz hlt hk hm hmm
      go_wp2_with fail
      go_ret
      exact ⟨ret_int (by rw [M.out]), rfl⟩

theorem whole_any (b : Nat) (w : World) (h1 : 4607182418800017408 ≤ b) (h2 : b < 4895412794951729152) :
    Calls Try.prog 40 #[.float .f64 b] w fun e w' => e = .returned (.int .u64 ((fl b : Nat) : Int)) ∧ w = w' := by
  have e := fl_bits b h1
  by_cases h : b / 4503599627370496 < 1075
  · have c := whole_lo b b _ _ (b % 4503599627370496 + 4503599627370496) (1075 - b / 4503599627370496) w (fbits b) (by omega) (by omega) rfl rfl (by omega) (by omega) (by omega) (by omega) (Lib.hid (by omega)) (Lib.hid (by omega))
    have z : b / 4503599627370496 - 1075 = 0 := by omega
    rw [z, Nat.pow_zero, Nat.mul_one] at e
    rw [e]
    exact c
  · have c := whole_hi b b _ _ (b % 4503599627370496 + 4503599627370496) (b / 4503599627370496 - 1075) w (fbits b) (by omega) (by omega) rfl rfl (by omega) (by omega) (by omega) (by omega) (Lib.hid (by omega)) (Lib.hid (by omega))
    have z : 1075 - b / 4503599627370496 = 0 := by omega
    rw [z, Nat.pow_zero, Nat.div_one] at e
    rw [e]
    exact c

theorem kd_bd (b : Nat) (hb : b < 18446744073709551616) : 0 ≤ kd b ∧ kd b ≤ 6 := by
  have := kd_cases b hb
  omega

set_option maxHeartbeats 400000 in
theorem share_no (x : Nat) (n : Int) (w : World) (hb : x < 18446744073709551616) (h : ¬ inS x ∨ n < 0 ∨ 100000 < n) :
    Calls Try.prog 29 #[.float .f64 x, .int .i64 n] w fun e w' => e = .returned (.tuple #[.int .i64 0, .int .i64 1]) ∧ w = w' := by
  have kc := kd_cases x hb
  obtain ⟨k0, k6⟩ := kd_bd x hb
  have C1 := Lib.hid (fun w => kind_any x w hb)
  unfold inS at h
  by_cases h1 : kd x < 3
  · clear kc h hb
    generalize kd x = K at *
    go_enter Try.func29, Try.ntmps29
    go_wp2_with fail
    refine (C1.out _).mono ?_
    rintro e w' ⟨rfl, rfl⟩
    go_wp2_with fail
    go_ret2
    exact ⟨rfl, rfl⟩
  by_cases h2 : kd x = 6
  · rw [h2] at C1
    clear kc h hb k0 k6 h1 h2
    go_enter Try.func29, Try.ntmps29
    go_wp2_with fail
    refine (C1.out _).mono ?_
    rintro e w' ⟨rfl, rfl⟩
    go_wp2_with fail
    go_ret2
    exact ⟨rfl, rfl⟩
  have h2' : (kd x == 6) = false := by rw [beq_eq_false_iff_ne]; omega
  have hx := key_spec x
  by_cases h3 : 4607182418800017408 < key x
  · have o := ogt x 4607182418800017408 hb (by omega) (by omega) (by omega) (by rw [key_1]; omega)
    clear kc h hb h3 h2 hx
    generalize kd x = K at *
    go_enter Try.func29, Try.ntmps29
    go_wp2_with fail
    refine (C1.out _).mono ?_
    rintro e w' ⟨rfl, rfl⟩
    go_wp2_with fail
    go_ret2
    exact ⟨rfl, rfl⟩
  have o : (FloatKind.f64.format.order x 4607182418800017408 == some .gt) = false := by
    by_cases g : key x = 4607182418800017408
    · rw [oeq x _ hb (by omega) (by omega) (by omega) (by rw [key_1]; omega)]; rfl
    · rw [olt x _ hb (by omega) (by omega) (by omega) (by rw [key_1]; omega)]; rfl
  have h4 : n < 0 ∨ 100000 < n := by omega
  clear kc h hb h3 h2 hx
  generalize kd x = K at *
  rcases h4 with h4 | h4
  · go_enter Try.func29, Try.ntmps29
    go_wp2_with fail
    refine (C1.out _).mono ?_
    rintro e w' ⟨rfl, rfl⟩
    go_wp2_with fail
    go_ret2
    exact ⟨rfl, rfl⟩
  · have h5 : ¬ n < 0 := by omega
    go_enter Try.func29, Try.ntmps29
    go_wp2_with fail
    refine (C1.out _).mono ?_
    rintro e w' ⟨rfl, rfl⟩
    go_wp2_with fail
    go_ret2
    exact ⟨rfl, rfl⟩

set_option maxHeartbeats 400000 in
theorem share_yes (x n : Nat) (w : World) (h : inS x) (hn : n ≤ 100000) :
    Calls Try.prog 29 #[.float .f64 x, .int .i64 (n : Int)] w fun e w' => e = .returned (.tuple #[.int .i64 ((fl (shr x n) : Nat) : Int), .int .i64 0]) ∧ w = w' := by
  obtain ⟨f, e1, e2, e3, e4, e5, e6, e7⟩ := shw_spec x n h hn
  unfold inS at h
  have hb : x < 18446744073709551616 := by omega
  have kc := kd_cases x hb
  have kx := key_spec x
  have C1 := Lib.hid (fun w => kind_any x w hb)
  have c2 : ∀ w, (binOp .mul 22 (.float .f64 x) (.float .f64 f)).run Try.prog w = .ok (.float .f64 (shw x n)) w := fun w => run_float_arith w .mul _ .f64 x f _ e2
  have k1 : ¬ kd x < 3 := by omega
  have k2 : (kd x == 6) = false := by rw [beq_eq_false_iff_ne]; omega
  have o : (FloatKind.f64.format.order x 4607182418800017408 == some .gt) = false := by
    by_cases g : key x = 4607182418800017408
    · rw [oeq x _ hb (by omega) (by omega) (by omega) (by rw [key_1]; omega)]; rfl
    · rw [olt x _ hb (by omega) (by omega) (by omega) (by rw [key_1]; omega)]; rfl
  have h1 : ¬ (n : Int) < 0 := by omega
  have h2 : ¬ 100000 < (n : Int) := by omega
  have ky := key_spec (shw x n)
  by_cases g : shr x n < 4607182418800017408
  · have z := fl_zero_of _ g
    have o2 := olt (shw x n) 4607182418800017408 e3 (by omega) (by omega) (by omega) (by rw [key_1]; omega)
    rw [z]
    clear e2 e3 e4 e5 e6 e7 h hn z g ky kx kc hb
    generalize shw x n = y at *
    generalize kd x = K at *
    go_enter Try.func29, Try.ntmps29
    go_wp2_with fail
    refine (C1.out _).mono ?_
    rintro e w' ⟨rfl, rfl⟩
    go_wp2_with fail
    go_ret2
    exact ⟨rfl, rfl⟩
  · have hs : shw x n = shr x n := by
      by_cases q : 9223372036854775808 ≤ shw x n
      · have := e7 q; omega
      · omega
    rw [hs] at c2 e3 ky
    have o2 : (FloatKind.f64.format.order (shr x n) 4607182418800017408 == some .lt) = false := by
      by_cases q : key (shr x n) = 4607182418800017408
      · rw [oeq _ _ e3 (by omega) (by omega) (by omega) (by rw [key_1]; omega)]; rfl
      · rw [ogt _ _ e3 (by omega) (by omega) (by omega) (by rw [key_1]; omega)]; rfl
    have C2 := Lib.hid (fun w => whole_any (shr x n) w (by omega) (by omega))
    have z : ((fl (shr x n) : Nat) : Int) ≤ 100000 := by omega
    clear e2 e3 e4 e5 e6 e7 h hn g ky kx kc hb hs
    generalize fl (shr x n) = F at *
    generalize shr x n = y at *
    generalize kd x = K at *
    go_enter Try.func29, Try.ntmps29
    go_wp2_with fail
    refine (C1.out _).mono ?_
    rintro e w' ⟨rfl, rfl⟩
    go_wp2_with fail
    refine (C2.out _).mono ?_
    rintro e w' ⟨rfl, rfl⟩
    go_wp2_with fail
    go_ret2
    exact ⟨rfl, rfl⟩

end R3
end Go.Proofs.Ytnhkgialdnbohaa
