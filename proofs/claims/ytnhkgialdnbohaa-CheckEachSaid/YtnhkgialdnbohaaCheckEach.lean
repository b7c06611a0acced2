/- For every conf, every choice of a field and every number the statement CheckEach about check.Conf returns true, and changes nothing. Conditions: none. -/
import Derived.Test.YtnhkgialdnbohaaCheckF
import Derived.Test.YtnhkgialdnbohaaClass
import Derived.Test.YtnhkgialdnbohaaFrame
import Derived.Test.YtnhkgialdnbohaaFloatArg
import Derived.Laws.Cover2
import Derived.Deep.QuietTactic
import Derived.BigQuiet
import Derived.StillTailTactics
import Derived.WalkSmall
import Derived.Deep.DeepCutAuto
import Derived.Deep.RegionWith
import Derived.Deep.LoopGhost
import Derived.ProofKit
import Derived.OpenShut
import Derived.ShutString
import Derived.SizedLaws
import Derived.Lib.SmallJoins
namespace Go.Proofs.Ytnhkgialdnbohaa.checkEach
open Go.ChangeShapes Go.WideShapes Go.ChangeAt Go.RowKit Go.Lib
open Go.ChangeMaps (open_string shut_string)
open Go.Joins Go.Deep
set_option linter.unusedVariables false

theorem own : ownKnob Try.prog.godebug = none := by kernel_rfl

open Flt

theorem lay_two (sg sl rt sg' sl' rt' : Int) (x x' : Nat) (w : World) :
    LiesC ((w.alloc (.cells #[.int .i64 sg, .int .i64 sl, .float .f64 x, .int .i64 rt] 24)).alloc (.cells #[.int .i64 sg', .int .i64 sl', .float .f64 x', .int .i64 rt'] 24)) w.heap.size sg sl x rt ∧ LiesC ((w.alloc (.cells #[.int .i64 sg, .int .i64 sl, .float .f64 x, .int .i64 rt] 24)).alloc (.cells #[.int .i64 sg', .int .i64 sl', .float .f64 x', .int .i64 rt'] 24)) (w.heap.size + 1) sg' sl' x' rt' ∧
    Below w.heap.size w ((w.alloc (.cells #[.int .i64 sg, .int .i64 sl, .float .f64 x, .int .i64 rt] 24)).alloc (.cells #[.int .i64 sg', .int .i64 sl', .float .f64 x', .int .i64 rt'] 24)) := by
  refine ⟨(lay1 sg sl rt x w).later ((Below.refl _ _).alloc (Nat.le_refl _) _), ?_, ((Below.refl _ _).alloc (Nat.le_refl _) _).alloc (by simp) _⟩
  have := lay1 sg' sl' rt' x' (w.alloc (.cells #[.int .i64 sg, .int .i64 sl, .float .f64 x, .int .i64 rt] 24))
  simpa using this

set_option maxRecDepth 100000 in
set_option maxHeartbeats 4000000 in
theorem each0 (sg sl : Int) (x : Nat) (rt wh n : Int) (hx : x < 18446744073709551616) (b0 : 0 ≤ wh) (b1 : wh ≤ 255) (hr : wh % 3 = 0) (w : World) :
    Calls Try.prog 6 #[.agg #[.int .i64 sg, .int .i64 sl, .float .f64 x, .int .i64 rt], .int .u8 wh, .int .i64 n] w fun e w' => e = .returned (.bool true) ∧ Below w.heap.size w w' := by
  obtain ⟨L1, L2, hB0⟩ := lay_two sg sl rt n sl rt x x w
  have hsf := fun (a : Addr) (x : Nat) (w : World) => run_store Try.prog w a (.float .f64 x) .plain rfl
  have B0 := hB0
  by_cases hb : n < 4 ∨ 16 < n
  · have N : ¬ MayC n sl x rt := by unfold MayC; omega
    have C := Lib.hid (fun w => conf_no n sl rt x w hx N)
    clear N
    rcases (by omega : n < 4 ∨ (4 ≤ n ∧ 16 < n)) with h | ⟨h, h'⟩
    all_goals
      clear hb
      obtain ⟨l, c0, c1, c2, c3⟩ := L2
      go_enter Try.func6, Try.ntmps6
      go_wp2_with fail
      (with_reducible refine (C.out _).mono ?_)
      rintro e w1 ⟨rfl, hb1⟩
      go_wp2_with fail
      refine (fixed_any _).mono ?_
      rintro e w2 ⟨rfl, hb2⟩
      go_wp2_with fail
      go_ret
      exact ⟨rfl, (B0.trans (hb1.mono B0.size)).trans (hb2.mono (B0.trans (hb1.mono B0.size)).size)⟩
  · have h : 4 ≤ n := by omega
    have h' : n ≤ 16 := by omega
    have h'' : ¬ 16 < n := by omega
    have h3 : ¬ n < 4 := by omega
    by_cases M : MayC sg sl x rt
    · have M2 : MayC n sl x rt := by unfold MayC inS at *; omega
      have C := Lib.hid (fun w => conf_yes sg sl rt x w M)
      have D := Lib.hid (fun w => conf_yes n sl rt x w M2)
      clear M M2 hb
      go_enter Try.func6, Try.ntmps6
      go_wp2_with fail
      (with_reducible refine (C.out _).mono ?_)
      rintro e w1 ⟨rfl, hb1⟩
      obtain ⟨l, c0, c1, c2, c3⟩ := L2.later hb1
      go_wp2_with fail
      (with_reducible refine (D.out _).mono ?_)
      rintro e w2 ⟨rfl, hb2⟩
      go_wp2_with fail
      refine (fixed_any _).mono ?_
      rintro e w3 ⟨rfl, hb3⟩
      go_wp2_with fail
      go_ret
      have B1 := B0.trans (hb1.mono B0.size)
      have B2 := B1.trans (hb2.mono B1.size)
      exact ⟨rfl, B2.trans (hb3.mono B2.size)⟩
    · have C := Lib.hid (fun w => conf_no sg sl rt x w hx M)
      clear M hb
      go_enter Try.func6, Try.ntmps6
      go_wp2_with fail
      (with_reducible refine (C.out _).mono ?_)
      rintro e w1 ⟨rfl, hb1⟩
      go_wp2_with fail
      refine (fixed_any _).mono ?_
      rintro e w2 ⟨rfl, hb2⟩
      go_wp2_with fail
      go_ret
      have B1 := B0.trans (hb1.mono B0.size)
      exact ⟨rfl, B1.trans (hb2.mono B1.size)⟩

set_option maxRecDepth 100000 in
set_option maxHeartbeats 4000000 in
theorem each1 (sg sl : Int) (x : Nat) (rt wh n : Int) (hx : x < 18446744073709551616) (b0 : 0 ≤ wh) (b1 : wh ≤ 255) (hr : wh % 3 = 1) (w : World) :
    Calls Try.prog 6 #[.agg #[.int .i64 sg, .int .i64 sl, .float .f64 x, .int .i64 rt], .int .u8 wh, .int .i64 n] w fun e w' => e = .returned (.bool true) ∧ Below w.heap.size w w' := by
  obtain ⟨L1, L2, hB0⟩ := lay_two sg sl rt sg n rt x x w
  have hsf := fun (a : Addr) (x : Nat) (w : World) => run_store Try.prog w a (.float .f64 x) .plain rfl
  have B0 := hB0
  by_cases hb : n < 1 ∨ 30 < n
  · have N : ¬ MayC sg n x rt := by unfold MayC; omega
    have C := Lib.hid (fun w => conf_no sg n rt x w hx N)
    clear N
    rcases (by omega : n < 1 ∨ (1 ≤ n ∧ 30 < n)) with h | ⟨h, h'⟩
    all_goals
      clear hb
      obtain ⟨l, c0, c1, c2, c3⟩ := L2
      go_enter Try.func6, Try.ntmps6
      go_wp2_with fail
      (with_reducible refine (C.out _).mono ?_)
      rintro e w1 ⟨rfl, hb1⟩
      go_wp2_with fail
      refine (fixed_any _).mono ?_
      rintro e w2 ⟨rfl, hb2⟩
      go_wp2_with fail
      go_ret
      exact ⟨rfl, (B0.trans (hb1.mono B0.size)).trans (hb2.mono (B0.trans (hb1.mono B0.size)).size)⟩
  · have h : 1 ≤ n := by omega
    have h' : n ≤ 30 := by omega
    have h'' : ¬ 30 < n := by omega
    have h3 : ¬ n < 1 := by omega
    by_cases M : MayC sg sl x rt
    · have M2 : MayC sg n x rt := by unfold MayC inS at *; omega
      have C := Lib.hid (fun w => conf_yes sg sl rt x w M)
      have D := Lib.hid (fun w => conf_yes sg n rt x w M2)
      clear M M2 hb
      go_enter Try.func6, Try.ntmps6
      go_wp2_with fail
      (with_reducible refine (C.out _).mono ?_)
      rintro e w1 ⟨rfl, hb1⟩
      obtain ⟨l, c0, c1, c2, c3⟩ := L2.later hb1
      go_wp2_with fail
      (with_reducible refine (D.out _).mono ?_)
      rintro e w2 ⟨rfl, hb2⟩
      go_wp2_with fail
      refine (fixed_any _).mono ?_
      rintro e w3 ⟨rfl, hb3⟩
      go_wp2_with fail
      go_ret
      have B1 := B0.trans (hb1.mono B0.size)
      have B2 := B1.trans (hb2.mono B1.size)
      exact ⟨rfl, B2.trans (hb3.mono B2.size)⟩
    · have C := Lib.hid (fun w => conf_no sg sl rt x w hx M)
      clear M hb
      go_enter Try.func6, Try.ntmps6
      go_wp2_with fail
      (with_reducible refine (C.out _).mono ?_)
      rintro e w1 ⟨rfl, hb1⟩
      go_wp2_with fail
      refine (fixed_any _).mono ?_
      rintro e w2 ⟨rfl, hb2⟩
      go_wp2_with fail
      go_ret
      have B1 := B0.trans (hb1.mono B0.size)
      exact ⟨rfl, B1.trans (hb2.mono B1.size)⟩

set_option maxRecDepth 100000 in
set_option maxHeartbeats 4000000 in
theorem each2 (sg sl : Int) (x : Nat) (rt wh n : Int) (hx : x < 18446744073709551616) (b0 : 0 ≤ wh) (b1 : wh ≤ 255) (hr : wh % 3 = 2) (w : World) :
    Calls Try.prog 6 #[.agg #[.int .i64 sg, .int .i64 sl, .float .f64 x, .int .i64 rt], .int .u8 wh, .int .i64 n] w fun e w' => e = .returned (.bool true) ∧ Below w.heap.size w w' := by
  obtain ⟨L1, L2, hB0⟩ := lay_two sg sl rt sg sl n x x w
  have hsf := fun (a : Addr) (x : Nat) (w : World) => run_store Try.prog w a (.float .f64 x) .plain rfl
  have B0 := hB0
  by_cases hb : n < 0 ∨ 8 < n
  · have N : ¬ MayC sg sl x n := by unfold MayC; omega
    have C := Lib.hid (fun w => conf_no sg sl n x w hx N)
    clear N
    rcases (by omega : n < 0 ∨ (0 ≤ n ∧ 8 < n)) with h | ⟨h, h'⟩
    all_goals
      clear hb
      obtain ⟨l, c0, c1, c2, c3⟩ := L2
      go_enter Try.func6, Try.ntmps6
      go_wp2_with fail
      (with_reducible refine (C.out _).mono ?_)
      rintro e w1 ⟨rfl, hb1⟩
      go_wp2_with fail
      refine (fixed_any _).mono ?_
      rintro e w2 ⟨rfl, hb2⟩
      go_wp2_with fail
      go_ret
      exact ⟨rfl, (B0.trans (hb1.mono B0.size)).trans (hb2.mono (B0.trans (hb1.mono B0.size)).size)⟩
  · have h : 0 ≤ n := by omega
    have h' : n ≤ 8 := by omega
    have h'' : ¬ 8 < n := by omega
    have h3 : ¬ n < 0 := by omega
    by_cases M : MayC sg sl x rt
    · have M2 : MayC sg sl x n := by unfold MayC inS at *; omega
      have C := Lib.hid (fun w => conf_yes sg sl rt x w M)
      have D := Lib.hid (fun w => conf_yes sg sl n x w M2)
      clear M M2 hb
      go_enter Try.func6, Try.ntmps6
      go_wp2_with fail
      (with_reducible refine (C.out _).mono ?_)
      rintro e w1 ⟨rfl, hb1⟩
      obtain ⟨l, c0, c1, c2, c3⟩ := L2.later hb1
      go_wp2_with fail
      (with_reducible refine (D.out _).mono ?_)
      rintro e w2 ⟨rfl, hb2⟩
      go_wp2_with fail
      refine (fixed_any _).mono ?_
      rintro e w3 ⟨rfl, hb3⟩
      go_wp2_with fail
      go_ret
      have B1 := B0.trans (hb1.mono B0.size)
      have B2 := B1.trans (hb2.mono B1.size)
      exact ⟨rfl, B2.trans (hb3.mono B2.size)⟩
    · have C := Lib.hid (fun w => conf_no sg sl rt x w hx M)
      clear M hb
      go_enter Try.func6, Try.ntmps6
      go_wp2_with fail
      (with_reducible refine (C.out _).mono ?_)
      rintro e w1 ⟨rfl, hb1⟩
      go_wp2_with fail
      refine (fixed_any _).mono ?_
      rintro e w2 ⟨rfl, hb2⟩
      go_wp2_with fail
      go_ret
      have B1 := B0.trans (hb1.mono B0.size)
      exact ⟨rfl, B1.trans (hb2.mono B1.size)⟩

set_option maxRecDepth 100000 in
set_option maxHeartbeats 1000000 in
theorem walk (sg sl : Int) (x : Nat) (rt wh n : Int) (_ : (Lit.int .i64 sg).wf = true) (_ : (Lit.int .i64 sl).wf = true) (wx : (Lit.float .f64 x).wf = true) (_ : (Lit.int .i64 rt).wf = true) (ww : (Lit.int .u8 wh).wf = true) (_ : (Lit.int .i64 n).wf = true) (w : World) :
    Calls Try.prog 6 #[.agg #[.int .i64 sg, .int .i64 sl, .float .f64 x, .int .i64 rt], .int .u8 wh, .int .i64 n] w fun e w' => e = .returned (.bool true) ∧ Below w.heap.size w w' := by
  have hx : x < 18446744073709551616 := by simpa [Lit.wf] using wx
  obtain ⟨b0, b1⟩ := bounds_u8 ww
  rcases (by omega : wh % 3 = 0 ∨ wh % 3 = 1 ∨ wh % 3 = 2) with h | h | h
  · exact each0 sg sl x rt wh n hx b0 b1 h w
  · exact each1 sg sl x rt wh n hx b0 b1 h w
  · exact each2 sg sl x rt wh n hx b0 b1 h w

theorem cellsT0 : Try.prog.cellsOf 24 = 4 := by kernel_rfl

theorem reads0 {H : Type} {enc : TypeId × Value → H} {W' : World} {b : Nat} {sp : Nat → Bool} {hd : Bool} {a0_0 : Int} {a0_1 : Int} {a0_2 : Nat} {a0_3 : Int} (w0_0 : (Lit.int .i64 a0_0).wf = true) (w0_1 : (Lit.int .i64 a0_1).wf = true) (w0_2 : (Lit.float .f64 a0_2).wf = true) (w0_3 : (Lit.int .i64 a0_3).wf = true) :
    DataW.Trod enc Try.prog W' b sp hd 24 (.agg #[.int .i64 a0_0, .int .i64 a0_1, .float .f64 a0_2, .int .i64 a0_3]) (.agg [.lit (.int .i64 a0_0), .lit (.int .i64 a0_1), .lit (.float .f64 a0_2), .lit (.int .i64 a0_3)]) [] := by
  simpa using shut_agg4 (enc := enc) (w := W') (base := b) (spare := sp) (held := hd) (y0 := (.lit (.int .i64 a0_0), [])) (y1 := (.lit (.int .i64 a0_1), [])) (y2 := (.lit (.float .f64 a0_2), [])) (y3 := (.lit (.int .i64 a0_3), [])) Try.underlying24 (by kernel_rfl) cellsT0 ⟨1, by simp [DataW.trod, Try.underlying3, w0_0]⟩ ⟨1, by simp [DataW.trod, Try.underlying3, w0_1]⟩ ⟨1, by simp [DataW.trod, Try.underlying22, w0_2]⟩ ⟨1, by simp [DataW.trod, Try.underlying3, w0_3]⟩

set_option maxRecDepth 100000 in
theorem lifted (os : Os) (started : os.Started) (H : Type) (enc : TypeId × Value → H) :
    ReturnsInHanded {} Try.checked os 6 .any (Rows.checkEachSpec.pre6 enc Try.prog Try.f6 Rows.checkEachRow.domain false) (Rows.checkEachSpec.post enc Try.prog Try.f6 false true false false) := by
  refine returnsInHanded_of_change (C := Try.checked) own started (by kernel_rfl) Try.func6
    (ChangeSpec.witness6 (enc := enc) (C := Try.checked) false ⟨#[], #[.agg #[.int .i64 0, .int .i64 0, .float .f64 0, .int .i64 0], .int .u8 0, .int .i64 0], []⟩ 8 (by kernel_rfl) (by kernel_rfl) (by kernel_rfl) (by kernel_rfl)) ?_
  intro W base args ds gs before hval0 hW hcnd _
  have hval : ∀ (j : Nat) t v, Try.f6.params[j]? = some t → args[j]? = some v → Value.okWide Try.prog W .any base t v := hval0
  have hW' := hW
  obtain ⟨p, q, hA0, hV, rfl, hfz, hnd⟩ := hW
  have hA : DataW.TrodAll enc Try.prog W 0 (fun _ => true) true Try.f6.params.toList args.toList ds p := hA0
  rw [Try.params6] at hA hval
  obtain ⟨v0, vs0, d0, ds0, p0, q0, hargs, rfl, rfl, h0, r0⟩ := trodAll_cons hA
  obtain ⟨v1, vs1, d1, ds1, p1, q1, rfl, rfl, rfl, h1, r1⟩ := trodAll_cons r0
  obtain ⟨v2, vs2, d2, ds2, p2, q2, rfl, rfl, rfl, h2, r2⟩ := trodAll_cons r1
  obtain ⟨rfl, rfl, rfl⟩ := trodAll_nil r2
  obtain rfl : args = #[v0, v1, v2] := by cases args; simp_all
  obtain ⟨rfl, rfl⟩ := trodVars_none hV
  obtain ⟨c0_0, c0_1, c0_2, c0_3, y0_0, y0_1, y0_2, y0_3, m0, rfl, rfl, rfl, hy0_0, hy0_1, hy0_2, hy0_3⟩ := open_agg4 Try.underlying24 (by kernel_rfl) cellsT0 (hval 0 24 v0 rfl rfl) h0
  obtain ⟨a0_0, e0_0, rfl, w0_0⟩ := DataW.trod_int Try.underlying3 hy0_0
  obtain ⟨a0_1, e0_1, rfl, w0_1⟩ := DataW.trod_int Try.underlying3 hy0_1
  obtain ⟨a0_2, e0_2, rfl, w0_2⟩ := trod_float Try.underlying22 hy0_2
  obtain ⟨a0_3, e0_3, rfl, w0_3⟩ := DataW.trod_int Try.underlying3 hy0_3
  simp at e0_0 e0_1 e0_2 e0_3
  subst e0_0 e0_1 e0_2 e0_3
  obtain ⟨a1, rfl, rfl, rfl, w1⟩ := open_int Try.underlying5 (hval 1 5 v1 rfl rfl) h1
  obtain ⟨a2, rfl, rfl, rfl, w2⟩ := open_int Try.underlying3 (hval 2 3 v2 rfl rfl) h2
  clear hA0 hval0
  simp only [List.append_nil] at hW'
  refine (walk a0_0 a0_1 a0_2 a0_3 a1 a2 w0_0 w0_1 w0_2 w0_3 w1 w2 W).mono fun e W' ⟨he, hg⟩ => ?_
  subst he
  exact ⟨_, rfl, post_plain hW' (fun _ _ _ => (trodAll_cons_mk (shut_bool Try.underlying4 _) trodAll_mk0)) (fun sp => (trodAll_cons_mk (reads0 w0_0 w0_1 w0_2 w0_3) (trodAll_cons_mk (shut_int Try.underlying5 w1) (trodAll_cons_mk (shut_int Try.underlying3 w2) trodAll_mk0)))) (fun _ => rfl) hg (ok_one (by kernel_rfl) rfl (okWide_bool_mk Try.underlying4 _))⟩

theorem over : Rows.checkEachRow.holds Try.pinned (OpenSpec.ofChange Rows.checkEachSpec) :=
  OpenClaim.holds_of_wide 6 Try.f6 rfl rfl rfl rfl rfl rfl rfl ⟨rfl, rfl, rfl, rfl, rfl⟩ rfl rfl rfl rfl rfl (by kernel_rfl) Try.func6 (by kernel_rfl)
    (of_decide_eq_true (by kernel_rfl)) (by unfold Func.isWrapper; first | (rw [if_pos (by decide +kernel)]; kernel_rfl) | (rw [if_neg (by decide +kernel)]; exact ⟨rfl, rfl⟩))
    (fun os started H enc _ => lifted os started H enc)

theorem proved : Rows.CheckEachSaid := over
#print axioms proved
end Go.Proofs.Ytnhkgialdnbohaa.checkEach
