/- For every number and every part of 256 the statement TtlWhole about ttl.Ticks returns true, and changes nothing. Conditions: none. -/
import Derived.Test.YtleldlcjhaaadaaTtlR
import Derived.Test.YtleldlcjhaaadaaClass
import Derived.Test.YtleldlcjhaaadaaFrame
import Derived.Laws.Cover2
import Derived.Deep.QuietTactic
import Derived.BigQuiet
import Derived.StillTailTactics
import Derived.WalkSmall
import Derived.Deep.DeepCutAuto
import Derived.Deep.RegionWith
import Derived.Deep.LoopGhost
import Derived.ProofKit
import Derived.OpenShut
import Derived.ShutString
import Derived.SizedLaws
namespace Go.Proofs.Ytleldlcjhaaadaa.ttlWhole
open Go.ChangeShapes Go.WideShapes Go.ChangeAt Go.RowKit Go.Lib
open Go.ChangeMaps (open_string shut_string)
set_option linter.unusedVariables false

theorem own : ownKnob Try.prog.godebug = none := by kernel_rfl

open Flt
theorem tick_whole (r N q : Nat) (hv : val r = N * U + q) (hq : q < U) (h1 : 1 ≤ N) (h2 : N < 18446744073709551616) : tk r = N ∧ te r = 0 ∧ r < 4895412794951729152 := by
  have a : 4607182418800017408 ≤ r := by
    by_cases g : r < 4607182418800017408
    · have h := val_lt g
      rw [val_one, hv] at h
      have := Nat.mul_le_mul_right U h1
      omega
    · omega
  have b : r < 4895412794951729152 := by
    apply val_lt_iff.1
    rw [val_64, hv]
    have := Nat.mul_le_mul_right U (show N + 1 ≤ 18446744073709551616 by omega)
    rw [Nat.add_mul] at this
    rw [Nat.mul_comm U]
    omega
  have k := key_spec r
  have c := tk_cases r (by omega)
  have f := fl_of r N q hv hq
  omega

theorem tick_less (r : Nat) (h : r < 4607182418800017408) : tk r = 0 ∧ te r = 1 := by
  have k := key_spec r
  have c := tk_cases r (by omega)
  omega

set_option maxHeartbeats 1000000 in
theorem small (a0 : Int) (p : Nat) (w : World) (hp : (p : Int) < 256) (h0 : a0 % 4503599627370496 = 0) (wa : 0 ≤ a0) :
    Calls Try.prog 6 #[.int .u64 a0, .int .u8 (p : Int)] w fun e w' => e = .returned (.bool true) ∧ Below w.heap.size w w' := by
  obtain ⟨f2, e2, l2, v2⟩ := of_small p (by omega)
  have e1 : floatOfInt .f64 0 = 0 := by decide +kernel
  obtain ⟨q, hq, vq⟩ := rep p 1066 (by omega) (by omega)
  rw [W_eq _ rfl] at vq
  have q1 : nr (val f2 * W) = q := by
    rw [v2, Nat.mul_assoc, Nat.mul_comm U, ← Nat.mul_assoc, ← vq, nr_exact q (by omega)]
  have c1 : ∀ w, (binOp .quo 22 (.float .f64 f2) (.float .f64 4643211215818981376)).run Try.prog w = .ok (.float .f64 q) w := by
    intro w
    refine run_float_arith w .quo _ .f64 f2 _ _ ?_
    show Ieee.double.div f2 4643211215818981376 = _
    rw [div_256 f2 l2, q1]
  have c2 : ∀ w, (binOp .add 22 (.float .f64 0) (.float .f64 q)).run Try.prog w = .ok (.float .f64 q) w := by
    intro w
    refine run_float_arith w .add _ .f64 0 q _ ?_
    show Ieee.double.add 0 q = _
    rw [add_pos 0 q (by omega) hq, val_zero, Nat.zero_add, nr_exact q (by omega)]
  have lq : q < 4607182418800017408 := by
    apply val_lt_iff.1
    rw [val_one, vq, ← W_U]
    exact Nat.mul_lt_mul_of_pos_right (by omega) (two_pos 1066)
  obtain ⟨t1, t2⟩ := tick_less q lq
  have C1 := Lib.hid (fun w => ticks_is q 0 1 w (by omega) t1 t2)
  clear t1 t2 lq q1 vq hq v2 l2 hp
  go_enter Try.func6, Try.ntmps6
  go_wp2_with fail
  refine (C1.out _).mono ?_
  rintro e w0 ⟨rfl, rfl⟩
  go_wp2_with fail
  refine (fixed_any _).mono ?_
  rintro e w0 ⟨rfl, rfl⟩
  go_wp2_with fail
  go_ret
  exact ⟨rfl, Below.refl _ _⟩

set_option maxHeartbeats 1000000 in
theorem mid (a0 : Int) (N p : Nat) (w : World) (hp : (p : Int) < 256) (h0 : a0 % 4503599627370496 = (N : Int)) (wa : 0 ≤ a0) (h1 : 0 < (N : Int)) (h2 : (N : Int) ≤ 17592186044416) :
    Calls Try.prog 6 #[.int .u64 a0, .int .u8 (p : Int)] w fun e w' => e = .returned (.bool true) ∧ Below w.heap.size w w' := by
  obtain ⟨f1, e1, l1, v1⟩ := of_small N (by omega)
  obtain ⟨f2, e2, l2, v2⟩ := of_small p (by omega)
  obtain ⟨q, hq, vq⟩ := rep p 1066 (by omega) (by omega)
  rw [W_eq _ rfl] at vq
  obtain ⟨x, hx, vx⟩ := rep (N * 256 + p) 1066 (by omega) (by omega)
  rw [W_eq _ rfl] at vx
  have q1 : nr (val f2 * W) = q := by
    rw [v2, Nat.mul_assoc, Nat.mul_comm U, ← Nat.mul_assoc, ← vq, nr_exact q (by omega)]
  have vx' : val x = N * U + p * W := by rw [vx, Nat.add_mul, Nat.mul_assoc, W_U]
  have c1 : ∀ w, (binOp .quo 22 (.float .f64 f2) (.float .f64 4643211215818981376)).run Try.prog w = .ok (.float .f64 q) w := by
    intro w
    refine run_float_arith w .quo _ .f64 f2 _ _ ?_
    show Ieee.double.div f2 4643211215818981376 = _
    rw [div_256 f2 l2, q1]
  have c2 : ∀ w, (binOp .add 22 (.float .f64 f1) (.float .f64 q)).run Try.prog w = .ok (.float .f64 x) w := by
    intro w
    refine run_float_arith w .add _ .f64 f1 q _ ?_
    show Ieee.double.add f1 q = _
    rw [add_pos f1 q l1 hq, v1, vq, ← vx', nr_exact x (by omega)]
  have hpW : p * W < U := by
    rw [← W_U]
    exact Nat.mul_lt_mul_of_pos_right (by omega) (two_pos 1066)
  obtain ⟨t1, t2, t3⟩ := tick_whole x N (p * W) vx' hpW (by omega) (by omega)
  have C1 := Lib.hid (fun w => ticks_is x N 0 w (by omega) t1 t2)
  have g0 : ((N : Int) == 0) = false := by rw [beq_eq_false_iff_ne]; omega
  have g1 : ¬ 17592186044416 < (N : Int) := by omega
  clear t1 t2 t3 q1 vq hq v2 l2 hp hpW vx vx' hx v1 l1
  go_enter Try.func6, Try.ntmps6
  go_wp2_with fail
  refine (C1.out _).mono ?_
  rintro e w0 ⟨rfl, rfl⟩
  go_wp2_with fail
  refine (fixed_any _).mono ?_
  rintro e w0 ⟨rfl, rfl⟩
  go_wp2_with fail
  go_ret
  exact ⟨rfl, Below.refl _ _⟩

set_option maxHeartbeats 1000000 in
theorem great (a0 : Int) (N p : Nat) (w : World) (hp : (p : Int) < 256) (h0 : a0 % 4503599627370496 = (N : Int)) (wa : 0 ≤ a0) (h1 : 17592186044416 < (N : Int)) (h2 : (N : Int) < 4503599627370496) :
    Calls Try.prog 6 #[.int .u64 a0, .int .u8 (p : Int)] w fun e w' => e = .returned (.bool true) ∧ Below w.heap.size w w' := by
  obtain ⟨f1, e1, l1, v1⟩ := of_small N (by omega)
  obtain ⟨f2, e2, l2, v2⟩ := of_small p (by omega)
  obtain ⟨q, hq, vq⟩ := rep p 1066 (by omega) (by omega)
  rw [W_eq _ rfl] at vq
  have q1 : nr (val f2 * W) = q := by
    rw [v2, Nat.mul_assoc, Nat.mul_comm U, ← Nat.mul_assoc, ← vq, nr_exact q (by omega)]
  have c1 : ∀ w, (binOp .quo 22 (.float .f64 f2) (.float .f64 4643211215818981376)).run Try.prog w = .ok (.float .f64 q) w := by
    intro w
    refine run_float_arith w .quo _ .f64 f2 _ _ ?_
    show Ieee.double.div f2 4643211215818981376 = _
    rw [div_256 f2 l2, q1]
  obtain ⟨x, ex⟩ : ∃ x, nr ((val f1 + val q) * U) = x := ⟨_, rfl⟩
  have lx : x ≤ 9218868437227405312 := by rw [← ex]; exact nr_le _
  have c2 : ∀ w, (binOp .add 22 (.float .f64 f1) (.float .f64 q)).run Try.prog w = .ok (.float .f64 x) w := by
    intro w
    refine run_float_arith w .add _ .f64 f1 q _ ?_
    show Ieee.double.add f1 q = _
    rw [add_pos f1 q l1 hq, ex]
  obtain ⟨t1, t2, t3⟩ := tick_whole f1 N 0 (by rw [v1, Nat.add_zero]) U_pos (by omega) (by omega)
  have C0 := Lib.hid (fun w => ticks_any x w (by omega))
  have C1 := Lib.hid (fun w => ticks_is f1 N 0 w (by omega) t1 t2)
  have g0 : ((N : Int) == 0) = false := by rw [beq_eq_false_iff_ne]; omega
  clear t1 t2 t3 q1 vq hq v2 l2 hp v1 l1 lx ex
  generalize tk x = t at *
  generalize te x = e at *
  go_enter Try.func6, Try.ntmps6
  go_wp2_with fail
  refine (C0.out _).mono ?_
  rintro e w0 ⟨rfl, rfl⟩
  go_wp2_with fail
  refine (C1.out _).mono ?_
  rintro e w0 ⟨rfl, rfl⟩
  go_wp2_with fail
  refine (fixed_any _).mono ?_
  rintro e w0 ⟨rfl, rfl⟩
  go_wp2_with fail
  go_ret
  exact ⟨rfl, Below.refl _ _⟩

set_option maxHeartbeats 1000000 in
theorem walk (a0 a1 : Int) (w0 : (Lit.int .u64 a0).wf = true) (w1 : (Lit.int .u8 a1).wf = true) (w : World) :
    Calls Try.prog 6 #[.int .u64 a0, .int .u8 a1] w fun e w' => e = .returned (.bool true) ∧ Below w.heap.size w w' := by
  obtain ⟨x0, x1⟩ := bounds_u64 w0
  obtain ⟨y0, y1⟩ := bounds_u8 w1
  clear w0 w1
  obtain ⟨p, rfl⟩ := Int.eq_ofNat_of_zero_le y0
  obtain ⟨N, hN⟩ := Int.eq_ofNat_of_zero_le (show 0 ≤ a0 % 4503599627370496 by omega)
  by_cases h0 : N = 0
  · subst h0
    exact small a0 p w (by omega) hN x0
  by_cases h1 : N ≤ 17592186044416
  · exact mid a0 N p w (by omega) hN x0 (by omega) (by omega)
  · exact great a0 N p w (by omega) hN x0 (by omega) (by omega)

set_option maxRecDepth 100000 in
theorem lifted (os : Os) (started : os.Started) (H : Type) (enc : TypeId × Value → H) :
    ReturnsInHanded {} Try.checked os 6 .any (Rows.ttlWholeSpec.pre6 enc Try.prog Try.f6 Rows.ttlWholeRow.domain false) (Rows.ttlWholeSpec.post enc Try.prog Try.f6 false true false false) := by
  refine returnsInHanded_of_change (C := Try.checked) own started (by kernel_rfl) Try.func6
    (ChangeSpec.witness6 (enc := enc) (C := Try.checked) false ⟨#[], #[.int .u64 0, .int .u8 0], []⟩ 8 (by kernel_rfl) (by kernel_rfl) (by kernel_rfl) (by kernel_rfl)) ?_
  intro W base args ds gs before hval0 hW hcnd _
  have hval : ∀ (j : Nat) t v, Try.f6.params[j]? = some t → args[j]? = some v → Value.okWide Try.prog W .any base t v := hval0
  have hW' := hW
  obtain ⟨p, q, hA0, hV, rfl, hfz, hnd⟩ := hW
  have hA : DataW.TrodAll enc Try.prog W 0 (fun _ => true) true Try.f6.params.toList args.toList ds p := hA0
  rw [Try.params6] at hA hval
  obtain ⟨v0, vs0, d0, ds0, p0, q0, hargs, rfl, rfl, h0, r0⟩ := trodAll_cons hA
  obtain ⟨v1, vs1, d1, ds1, p1, q1, rfl, rfl, rfl, h1, r1⟩ := trodAll_cons r0
  obtain ⟨rfl, rfl, rfl⟩ := trodAll_nil r1
  obtain rfl : args = #[v0, v1] := by cases args; simp_all
  obtain ⟨rfl, rfl⟩ := trodVars_none hV
  obtain ⟨a0, rfl, rfl, rfl, w0⟩ := open_int Try.underlying23 (hval 0 23 v0 rfl rfl) h0
  obtain ⟨a1, rfl, rfl, rfl, w1⟩ := open_int Try.underlying5 (hval 1 5 v1 rfl rfl) h1
  clear hA0 hval0
  simp only [List.append_nil] at hW'
  refine (walk a0 a1 w0 w1 W).mono fun e W' ⟨he, hg⟩ => ?_
  subst he
  exact ⟨_, rfl, post_plain hW' (fun _ _ _ => (trodAll_cons_mk (shut_bool Try.underlying4 _) trodAll_mk0)) (fun sp => (trodAll_cons_mk (shut_int Try.underlying23 w0) (trodAll_cons_mk (shut_int Try.underlying5 w1) trodAll_mk0))) (fun _ => rfl) hg (ok_one (by kernel_rfl) rfl (okWide_bool_mk Try.underlying4 _))⟩

theorem over : Rows.ttlWholeRow.holds Try.pinned (OpenSpec.ofChange Rows.ttlWholeSpec) :=
  OpenClaim.holds_of_wide 6 Try.f6 rfl rfl rfl rfl rfl rfl rfl ⟨rfl, rfl, rfl, rfl, rfl⟩ rfl rfl rfl rfl rfl (by kernel_rfl) Try.func6 (by kernel_rfl)
    (of_decide_eq_true (by kernel_rfl)) (by unfold Func.isWrapper; first | (rw [if_pos (by decide +kernel)]; kernel_rfl) | (rw [if_neg (by decide +kernel)]; exact ⟨rfl, rfl⟩))
    (fun os started H enc _ => lifted os started H enc)

theorem proved : Rows.TtlWholeSaid := over
#print axioms proved
end Go.Proofs.Ytleldlcjhaaadaa.ttlWhole
