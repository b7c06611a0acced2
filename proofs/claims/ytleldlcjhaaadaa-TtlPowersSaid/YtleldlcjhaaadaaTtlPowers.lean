/- For every number of 16 bits the statement TtlPowers about ttl.Ticks returns true, and changes nothing. Conditions: none. -/
import Derived.Test.YtleldlcjhaaadaaTtlR
import Derived.Test.YtleldlcjhaaadaaClass
import Derived.Test.YtleldlcjhaaadaaFrame
import Derived.Laws.Cover2
import Derived.Deep.QuietTactic
import Derived.BigQuiet
import Derived.StillTailTactics
import Derived.WalkSmall
import Derived.Deep.DeepCutAuto
import Derived.Deep.RegionWith
import Derived.Deep.LoopGhost
import Derived.ProofKit
import Derived.OpenShut
import Derived.ShutString
import Derived.SizedLaws
namespace Go.Proofs.Ytleldlcjhaaadaa.ttlPowers
open Go.ChangeShapes Go.WideShapes Go.ChangeAt Go.RowKit Go.Lib
open Go.ChangeMaps (open_string shut_string)
set_option linter.unusedVariables false

theorem own : ownKnob Try.prog.godebug = none := by kernel_rfl

open Flt
set_option maxHeartbeats 1000000 in
theorem loop64 (a0 n : Int) (X Y Z : Nat) (t u eu : Int) (w : World) (wa : 0 ≤ a0) (wb : a0 ≤ 65535) (h0 : a0 % 1024 = n) (n0 : 0 ≤ n) (n1 : n < 1024)
    (ef : ∀ w, (callFunc 22 #[.int .u64 ((1023 + n) * 4503599627370496)]).run Try.prog w = .ok (.value (.float .f64 X)) w)
    (eb : ∀ w, (callFunc 24 #[.float .f64 X]).run Try.prog w = .ok (.value (.int .u64 ((1023 + n) * 4503599627370496))) w)
    (ef2 : ∀ w, (callFunc 22 #[.int .u64 ((1023 + n) * 4503599627370496 - 1)]).run Try.prog w = .ok (.value (.float .f64 Y)) w)
    (es : ∀ w, (binOp .sub 22 (.float .f64 0) (.float .f64 X)).run Try.prog w = .ok (.float .f64 Z) w)
    (C1 : Hid (∀ w, Calls Try.prog 10 #[.float .f64 X] w fun e w' => e = .returned (.tuple #[.int .u64 t, .int .i64 0]) ∧ w = w'))
    (C2 : Hid (∀ w, Calls Try.prog 10 #[.float .f64 Y] w fun e w' => e = .returned (.tuple #[.int .u64 u, .int .i64 eu]) ∧ w = w'))
    (C3 : Hid (∀ w, Calls Try.prog 10 #[.float .f64 Z] w fun e w' => e = .returned (.tuple #[.int .u64 0, .int .i64 1]) ∧ w = w')) (N : Nat) (hn : n = N) (hN : N < 64) (hp : 0 < N) (ht : Hid (t = ((2 ^ N : Nat) : Int))) (hu : eu = 0) (hut : u < t) :
    Calls Try.prog 9 #[.int .u16 a0] w fun e w' => e = .returned (.bool true) ∧ Below w.heap.size w w' := by
  subst hu
  subst hn
  have g0 : ((N : Int) == 0) = false := by rw [beq_eq_false_iff_ne]; omega
  have hN' : (N : Int) < 64 := by omega
  go_enter Try.func9, Try.ntmps9
  go_wp2_with fail
  refine (C1.out _).mono ?_
  rintro e w0 ⟨rfl, rfl⟩
  go_wp2_with fail
  refine (C2.out _).mono ?_
  rintro e w0 ⟨rfl, rfl⟩
  go_wp2_with fail
  refine (C3.out _).mono ?_
  rintro e w0 ⟨rfl, rfl⟩
  go_wp2_with fail
  refine (max_any _).mono ?_
  rintro e w0 ⟨rfl, rfl⟩
  go_wp2_with fail
  go_loopg [11, 12] N (fun gk s11 s12 wr => ∃ k : Nat, k ≤ N ∧ gk = N - k ∧ s12 = .int .i64 (k : Int) ∧ s11 = .int .u64 ((2 ^ k : Nat) : Int) ∧ w = wr)
  case atStart => exact ⟨0, by omega, by omega, rfl, by rfl, rfl⟩
  case round =>
    obtain ⟨k, hk, hgk, rfl, rfl, rfl⟩ := hrel
    have HG := Lib.hid hgk
    have hut' : u ≤ t := by omega
    clear hgk ef eb ef2 es C1 C2 C3
    obtain ⟨m, M⟩ : ∃ m : Nat, Hid (2 ^ k = m) := ⟨_, Lib.hid rfl⟩
    have M2 : Hid (2 ^ (k + 1) = m * 2) := by
      show 2 ^ (k + 1) = m * 2
      rw [Nat.pow_succ, M.out]
    by_cases hlt : k < N
    · have hm : (m : Int) ≤ 4611686018427387904 := by
        have h5 : 2 ^ k ≤ 2 ^ 62 := Nat.pow_le_pow_right (by omega) (by omega)
        rw [M.out] at h5
        omega
      have hlti : (k : Int) < (N : Int) := by omega
      have hk8 : (k : Int) < 64 := by omega
      rw [M.out]
      go_wp2_with fail
      go_roundg (N - (k + 1))
      case measure => have := HG.out; omega
      case rel => exact ⟨k + 1, by omega, rfl, by go_num, by rw [M2.out]; congr 1, rfl⟩
    · obtain rfl : N = k := by omega
      have hD : decide (N < N) = false := by rw [decide_eq_false_iff_not]; omega
      have e5 : ((2 ^ N : Nat) : Int) = t := ht.out.symm
      rw [e5]
      have g1 : ¬ 64 < (N : Int) := by omega
      clear hlt hk M M2 e5
      go_wp2_with fail
      refine (fixed_any _).mono ?_
      rintro e w0 ⟨rfl, rfl⟩
      go_wp2_with fail
      go_ret
      exact ⟨rfl, Below.refl _ _⟩

set_option maxHeartbeats 1000000 in
theorem loop0 (a0 n : Int) (X Y Z : Nat) (t u eu : Int) (w : World) (wa : 0 ≤ a0) (wb : a0 ≤ 65535) (h0 : a0 % 1024 = n) (n0 : 0 ≤ n) (n1 : n < 1024)
    (ef : ∀ w, (callFunc 22 #[.int .u64 ((1023 + n) * 4503599627370496)]).run Try.prog w = .ok (.value (.float .f64 X)) w)
    (eb : ∀ w, (callFunc 24 #[.float .f64 X]).run Try.prog w = .ok (.value (.int .u64 ((1023 + n) * 4503599627370496))) w)
    (ef2 : ∀ w, (callFunc 22 #[.int .u64 ((1023 + n) * 4503599627370496 - 1)]).run Try.prog w = .ok (.value (.float .f64 Y)) w)
    (es : ∀ w, (binOp .sub 22 (.float .f64 0) (.float .f64 X)).run Try.prog w = .ok (.float .f64 Z) w)
    (C1 : Hid (∀ w, Calls Try.prog 10 #[.float .f64 X] w fun e w' => e = .returned (.tuple #[.int .u64 t, .int .i64 0]) ∧ w = w'))
    (C2 : Hid (∀ w, Calls Try.prog 10 #[.float .f64 Y] w fun e w' => e = .returned (.tuple #[.int .u64 u, .int .i64 eu]) ∧ w = w'))
    (C3 : Hid (∀ w, Calls Try.prog 10 #[.float .f64 Z] w fun e w' => e = .returned (.tuple #[.int .u64 0, .int .i64 1]) ∧ w = w')) (hn : n = 0) (ht : t = 1) (hu : eu = 1) (hut : u = 0) :
    Calls Try.prog 9 #[.int .u16 a0] w fun e w' => e = .returned (.bool true) ∧ Below w.heap.size w w' := by
  subst hu
  subst hn
  subst ht
  subst hut
  have ef' : ∀ w, (callFunc 22 #[.int .u64 4607182418800017408]).run Try.prog w = .ok (.value (.float .f64 X)) w := fun w => ef w
  have eb' : ∀ w, (callFunc 24 #[.float .f64 X]).run Try.prog w = .ok (.value (.int .u64 4607182418800017408)) w := fun w => eb w
  have ef2' : ∀ w, (callFunc 22 #[.int .u64 4607182418800017407]).run Try.prog w = .ok (.value (.float .f64 Y)) w := fun w => ef2 w
  clear ef eb ef2
  go_enter Try.func9, Try.ntmps9
  go_wp2_with fail
  refine (C1.out _).mono ?_
  rintro e w0 ⟨rfl, rfl⟩
  go_wp2_with fail
  refine (C2.out _).mono ?_
  rintro e w0 ⟨rfl, rfl⟩
  go_wp2_with fail
  refine (C3.out _).mono ?_
  rintro e w0 ⟨rfl, rfl⟩
  go_wp2_with fail
  refine (max_any _).mono ?_
  rintro e w0 ⟨rfl, rfl⟩
  go_wp2_with fail
  refine wp_loop_rounds 1 ?_
  rw [rounds_succ]
  go_wp2_with fail
  refine (fixed_any _).mono ?_
  rintro e w0 ⟨rfl, rfl⟩
  go_wp2_with fail
  go_ret
  exact ⟨rfl, Below.refl _ _⟩

set_option maxHeartbeats 1000000 in
theorem beyond64 (a0 n : Int) (X Y Z : Nat) (t u eu : Int) (w : World) (wa : 0 ≤ a0) (wb : a0 ≤ 65535) (h0 : a0 % 1024 = n) (n0 : 0 ≤ n) (n1 : n < 1024)
    (ef : ∀ w, (callFunc 22 #[.int .u64 ((1023 + n) * 4503599627370496)]).run Try.prog w = .ok (.value (.float .f64 X)) w)
    (eb : ∀ w, (callFunc 24 #[.float .f64 X]).run Try.prog w = .ok (.value (.int .u64 ((1023 + n) * 4503599627370496))) w)
    (ef2 : ∀ w, (callFunc 22 #[.int .u64 ((1023 + n) * 4503599627370496 - 1)]).run Try.prog w = .ok (.value (.float .f64 Y)) w)
    (es : ∀ w, (binOp .sub 22 (.float .f64 0) (.float .f64 X)).run Try.prog w = .ok (.float .f64 Z) w)
    (C1 : Hid (∀ w, Calls Try.prog 10 #[.float .f64 X] w fun e w' => e = .returned (.tuple #[.int .u64 t, .int .i64 0]) ∧ w = w'))
    (C2 : Hid (∀ w, Calls Try.prog 10 #[.float .f64 Y] w fun e w' => e = .returned (.tuple #[.int .u64 u, .int .i64 eu]) ∧ w = w'))
    (C3 : Hid (∀ w, Calls Try.prog 10 #[.float .f64 Z] w fun e w' => e = .returned (.tuple #[.int .u64 0, .int .i64 1]) ∧ w = w')) (hn : n = 64) (ht : t = 18446744073709551615) (hu : eu = 0) (hut : u < 18446744073709551615) :
    Calls Try.prog 9 #[.int .u16 a0] w fun e w' => e = .returned (.bool true) ∧ Below w.heap.size w w' := by
  subst hu
  subst hn
  subst ht
  have hut' : u ≤ 18446744073709551615 := by omega
  have ef' : ∀ w, (callFunc 22 #[.int .u64 4895412794951729152]).run Try.prog w = .ok (.value (.float .f64 X)) w := fun w => ef w
  have eb' : ∀ w, (callFunc 24 #[.float .f64 X]).run Try.prog w = .ok (.value (.int .u64 4895412794951729152)) w := fun w => eb w
  have ef2' : ∀ w, (callFunc 22 #[.int .u64 4895412794951729151]).run Try.prog w = .ok (.value (.float .f64 Y)) w := fun w => ef2 w
  clear ef eb ef2
  go_enter Try.func9, Try.ntmps9
  go_wp2_with fail
  refine (C1.out _).mono ?_
  rintro e w0 ⟨rfl, rfl⟩
  go_wp2_with fail
  refine (C2.out _).mono ?_
  rintro e w0 ⟨rfl, rfl⟩
  go_wp2_with fail
  refine (C3.out _).mono ?_
  rintro e w0 ⟨rfl, rfl⟩
  go_wp2_with fail
  refine (max_any _).mono ?_
  rintro e w0 ⟨rfl, rfl⟩
  go_wp2_with fail
  refine (fixed_any _).mono ?_
  rintro e w0 ⟨rfl, rfl⟩
  go_wp2_with fail
  go_ret
  exact ⟨rfl, Below.refl _ _⟩

set_option maxHeartbeats 1000000 in
theorem beyond (a0 n : Int) (X Y Z : Nat) (t u eu : Int) (w : World) (wa : 0 ≤ a0) (wb : a0 ≤ 65535) (h0 : a0 % 1024 = n) (n0 : 0 ≤ n) (n1 : n < 1024)
    (ef : ∀ w, (callFunc 22 #[.int .u64 ((1023 + n) * 4503599627370496)]).run Try.prog w = .ok (.value (.float .f64 X)) w)
    (eb : ∀ w, (callFunc 24 #[.float .f64 X]).run Try.prog w = .ok (.value (.int .u64 ((1023 + n) * 4503599627370496))) w)
    (ef2 : ∀ w, (callFunc 22 #[.int .u64 ((1023 + n) * 4503599627370496 - 1)]).run Try.prog w = .ok (.value (.float .f64 Y)) w)
    (es : ∀ w, (binOp .sub 22 (.float .f64 0) (.float .f64 X)).run Try.prog w = .ok (.float .f64 Z) w)
    (C1 : Hid (∀ w, Calls Try.prog 10 #[.float .f64 X] w fun e w' => e = .returned (.tuple #[.int .u64 t, .int .i64 0]) ∧ w = w'))
    (C2 : Hid (∀ w, Calls Try.prog 10 #[.float .f64 Y] w fun e w' => e = .returned (.tuple #[.int .u64 u, .int .i64 eu]) ∧ w = w'))
    (C3 : Hid (∀ w, Calls Try.prog 10 #[.float .f64 Z] w fun e w' => e = .returned (.tuple #[.int .u64 0, .int .i64 1]) ∧ w = w')) (hn : 64 < n) (ht : t = 18446744073709551615) (hu : eu = 0) (hut : u = 18446744073709551615) :
    Calls Try.prog 9 #[.int .u16 a0] w fun e w' => e = .returned (.bool true) ∧ Below w.heap.size w w' := by
  subst hu
  subst ht
  subst hut
  have g0 : (n == 0) = false := by rw [beq_eq_false_iff_ne]; omega
  have g1 : ¬ n < 64 := by omega
  go_enter Try.func9, Try.ntmps9
  go_wp2_with fail
  refine (C1.out _).mono ?_
  rintro e w0 ⟨rfl, rfl⟩
  go_wp2_with fail
  refine (C2.out _).mono ?_
  rintro e w0 ⟨rfl, rfl⟩
  go_wp2_with fail
  refine (C3.out _).mono ?_
  rintro e w0 ⟨rfl, rfl⟩
  go_wp2_with fail
  refine (max_any _).mono ?_
  rintro e w0 ⟨rfl, rfl⟩
  go_wp2_with fail
  refine (fixed_any _).mono ?_
  rintro e w0 ⟨rfl, rfl⟩
  go_wp2_with fail
  go_ret
  exact ⟨rfl, Below.refl _ _⟩

theorem tk_pow (N : Nat) (h : N < 64) : tk ((1023 + N) * 4503599627370496) = ((2 ^ N : Nat) : Int) ∧ te ((1023 + N) * 4503599627370496) = 0 := by
  have hv := val_two N
  have k := key_spec ((1023 + N) * 4503599627370496)
  have c := tk_cases ((1023 + N) * 4503599627370496) (by omega)
  have f := fl_of ((1023 + N) * 4503599627370496) (2 ^ N) 0 (by rw [hv, Nat.mul_comm, Nat.add_zero]) U_pos
  generalize 2 ^ N = M at *
  omega
theorem tk_pred (N : Nat) (h : N ≤ 64) (h1 : 0 < N) : tk ((1023 + N) * 4503599627370496 - 1) < ((2 ^ N : Nat) : Int) ∧ te ((1023 + N) * 4503599627370496 - 1) = 0 ∧ tk ((1023 + N) * 4503599627370496 - 1) = fl ((1023 + N) * 4503599627370496 - 1) := by
  have hv := val_lt (show (1023 + N) * 4503599627370496 - 1 < (1023 + N) * 4503599627370496 by omega)
  rw [val_two N] at hv
  have f : fl ((1023 + N) * 4503599627370496 - 1) < 2 ^ N := Nat.div_lt_of_lt_mul hv
  have k := key_spec ((1023 + N) * 4503599627370496 - 1)
  have c := tk_cases ((1023 + N) * 4503599627370496 - 1) (by omega)
  clear hv
  generalize 2 ^ N = M at *
  omega
theorem tk_over (b : Nat) (h : 4895412794951729152 ≤ b) (h1 : b ≤ 9218868437227405312) : tk b = 18446744073709551615 ∧ te b = 0 := by
  have k := key_spec b
  have c := tk_cases b (by omega)
  omega
theorem tk_neg (b : Nat) (h1 : b ≤ 9218868437227405312) : tk (9223372036854775808 + b) = 0 ∧ te (9223372036854775808 + b) = 1 := by
  have k := key_spec (9223372036854775808 + b)
  have c := tk_cases (9223372036854775808 + b) (by omega)
  omega

set_option maxHeartbeats 1000000 in
theorem walk (a0 : Int) (w0 : (Lit.int .u16 a0).wf = true) (w : World) :
    Calls Try.prog 9 #[.int .u16 a0] w fun e w' => e = .returned (.bool true) ∧ Below w.heap.size w w' := by
  obtain ⟨x0, x1⟩ := bounds_u16 w0
  clear w0
  obtain ⟨N, hN⟩ := Int.eq_ofNat_of_zero_le (show 0 ≤ a0 % 1024 by omega)
  have lN : N < 1024 := by omega
  have i1 : ((1023 : Int) + (N : Int)) * 4503599627370496 = (((1023 + N) * 4503599627370496 : Nat) : Int) := by omega
  have i2 : ((1023 : Int) + (N : Int)) * 4503599627370496 - 1 = (((1023 + N) * 4503599627370496 - 1 : Nat) : Int) := by omega
  have ef : ∀ w, (callFunc 22 #[.int .u64 ((1023 + (N : Int)) * 4503599627370496)]).run Try.prog w = .ok (.value (.float .f64 ((1023 + N) * 4503599627370496))) w := by rw [i1]; exact from_bits _
  have eb : ∀ w, (callFunc 24 #[.float .f64 ((1023 + N) * 4503599627370496)]).run Try.prog w = .ok (.value (.int .u64 ((1023 + (N : Int)) * 4503599627370496))) w := by rw [i1]; exact fbits _
  have ef2 : ∀ w, (callFunc 22 #[.int .u64 ((1023 + (N : Int)) * 4503599627370496 - 1)]).run Try.prog w = .ok (.value (.float .f64 ((1023 + N) * 4503599627370496 - 1))) w := by rw [i2]; exact from_bits _
  have es : ∀ w, (binOp .sub 22 (.float .f64 0) (.float .f64 ((1023 + N) * 4503599627370496))).run Try.prog w = .ok (.float .f64 (9223372036854775808 + (1023 + N) * 4503599627370496)) w := fun w => run_float_arith w .sub _ .f64 0 _ _ (sub_zero _ (by omega) (by omega))
  obtain ⟨z1, z2⟩ := tk_neg ((1023 + N) * 4503599627370496) (by omega)
  have C3 := Lib.hid (fun w => ticks_is _ 0 1 w (by omega) z1 z2)
  clear z1 z2 i1 i2
  by_cases h0 : N = 0
  · subst h0
    obtain ⟨a1, a2⟩ := tk_pow 0 (by omega)
    exact loop0 a0 _ _ _ _ _ _ _ w x0 (by omega) hN (by omega) (by omega) ef eb ef2 es (Lib.hid (fun w => ticks_is _ 1 0 w (by omega) a1 a2)) (Lib.hid (fun w => ticks_is _ 0 1 w (by omega) (by decide +kernel) (by decide +kernel))) C3 rfl rfl rfl rfl
  by_cases h1 : N < 64
  · obtain ⟨a1, a2⟩ := tk_pow N h1
    obtain ⟨b1, b2, _⟩ := tk_pred N (by omega) (by omega)
    exact loop64 a0 _ _ _ _ _ _ _ w x0 (by omega) hN (by omega) (by omega) ef eb ef2 es (Lib.hid (fun w => ticks_is _ _ 0 w (by omega) a1 a2)) (Lib.hid (fun w => ticks_is _ _ 0 w (by omega) rfl b2)) C3 N rfl h1 (by omega) (Lib.hid rfl) rfl b1
  obtain ⟨a1, a2⟩ := tk_over ((1023 + N) * 4503599627370496) (by omega) (by omega)
  by_cases h2 : N = 64
  · subst h2
    exact beyond64 a0 _ _ _ _ _ _ _ w x0 (by omega) hN (by omega) (by omega) ef eb ef2 es (Lib.hid (fun w => ticks_is _ _ 0 w (by omega) a1 a2)) (Lib.hid (fun w => ticks_is _ 18446744073709549568 0 w (by omega) (by decide +kernel) (by decide +kernel))) C3 rfl rfl rfl (by omega)
  · obtain ⟨b1, b2⟩ := tk_over ((1023 + N) * 4503599627370496 - 1) (by omega) (by omega)
    exact beyond a0 _ _ _ _ _ _ _ w x0 (by omega) hN (by omega) (by omega) ef eb ef2 es (Lib.hid (fun w => ticks_is _ _ 0 w (by omega) a1 a2)) (Lib.hid (fun w => ticks_is _ _ 0 w (by omega) b1 b2)) C3 (by omega) rfl rfl rfl

set_option maxRecDepth 100000 in
theorem lifted (os : Os) (started : os.Started) (H : Type) (enc : TypeId × Value → H) :
    ReturnsInHanded {} Try.checked os 9 .any (Rows.ttlPowersSpec.pre6 enc Try.prog Try.f9 Rows.ttlPowersRow.domain false) (Rows.ttlPowersSpec.post enc Try.prog Try.f9 false true false false) := by
  refine returnsInHanded_of_change (C := Try.checked) own started (by kernel_rfl) Try.func9
    (ChangeSpec.witness6 (enc := enc) (C := Try.checked) false ⟨#[], #[.int .u16 0], []⟩ 8 (by kernel_rfl) (by kernel_rfl) (by kernel_rfl) (by kernel_rfl)) ?_
  intro W base args ds gs before hval0 hW hcnd _
  have hval : ∀ (j : Nat) t v, Try.f9.params[j]? = some t → args[j]? = some v → Value.okWide Try.prog W .any base t v := hval0
  have hW' := hW
  obtain ⟨p, q, hA0, hV, rfl, hfz, hnd⟩ := hW
  have hA : DataW.TrodAll enc Try.prog W 0 (fun _ => true) true Try.f9.params.toList args.toList ds p := hA0
  rw [Try.params9] at hA hval
  obtain ⟨v0, vs0, d0, ds0, p0, q0, hargs, rfl, rfl, h0, r0⟩ := trodAll_cons hA
  obtain ⟨rfl, rfl, rfl⟩ := trodAll_nil r0
  obtain rfl : args = #[v0] := by cases args; simp_all
  obtain ⟨rfl, rfl⟩ := trodVars_none hV
  obtain ⟨a0, rfl, rfl, rfl, w0⟩ := open_int Try.underlying43 (hval 0 43 v0 rfl rfl) h0
  clear hA0 hval0
  simp only [List.append_nil] at hW'
  refine (walk a0 w0 W).mono fun e W' ⟨he, hg⟩ => ?_
  subst he
  exact ⟨_, rfl, post_plain hW' (fun _ _ _ => (trodAll_cons_mk (shut_bool Try.underlying4 _) trodAll_mk0)) (fun sp => (trodAll_cons_mk (shut_int Try.underlying43 w0) trodAll_mk0)) (fun _ => rfl) hg (ok_one (by kernel_rfl) rfl (okWide_bool_mk Try.underlying4 _))⟩

theorem over : Rows.ttlPowersRow.holds Try.pinned (OpenSpec.ofChange Rows.ttlPowersSpec) :=
  OpenClaim.holds_of_wide 9 Try.f9 rfl rfl rfl rfl rfl rfl rfl ⟨rfl, rfl, rfl, rfl, rfl⟩ rfl rfl rfl rfl rfl (by kernel_rfl) Try.func9 (by kernel_rfl)
    (of_decide_eq_true (by kernel_rfl)) (by unfold Func.isWrapper; first | (rw [if_pos (by decide +kernel)]; kernel_rfl) | (rw [if_neg (by decide +kernel)]; exact ⟨rfl, rfl⟩))
    (fun os started H enc _ => lifted os started H enc)

theorem proved : Rows.TtlPowersSaid := over
#print axioms proved
end Go.Proofs.Ytleldlcjhaaadaa.ttlPowers
